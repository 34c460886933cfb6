/-
  The program's comparisons: two texts, two numbers, two entries by their places.
-/
import Derived.Test.YtgomdjhfdnbmdaaTr
import Derived.Lib.Bytealg
import Derived.StillTailTactics
import Derived.Outline
namespace Go.Proofs.Ytgomdjhfdnbmdaa
open Go.RowKit Go.Maps

def cmpI (x y : Int) : Int := if x < y then -1 else if y < x then 1 else 0

/-- The first of three that is not nought. -/
def or3 (x y z : Int) : Int := if x != 0 then x else if y != 0 then y else z

/-- An entry, as the program reads it. -/
def ev (e : En) : Value := .agg #[.string ⟨e.name.toArray⟩, .int .i64 e.val, .int .i64 e.dev, .int .i64 e.num]
/-- Which of two entries is ahead. -/
def plaV (e f : En) : Int := or3 (Lib.compareBytes e.name f.name) (cmpI f.num e.num) (cmpI e.dev f.dev)

end Go.Proofs.Ytgomdjhfdnbmdaa
