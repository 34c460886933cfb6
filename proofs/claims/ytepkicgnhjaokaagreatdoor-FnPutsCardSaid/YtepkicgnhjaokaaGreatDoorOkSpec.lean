/-
  The model's reading of a ledger: which terms may stand where.
-/
import Derived.Test.YtepkicgnhjaokaaGreatDoorRows
import Derived.Test.YtepkicgnhjaokaaGreatDoorMem
import Derived.Test.YtepkicgnhjaokaaGreatDoorKept
import Derived.BigGuardPart
namespace Go.Proofs.YtepkicgnhjaokaaGreatDoor
open Go.RowKit

/-- May a term of these parts stand behind n terms? -/
def okB (n : Nat) (t : Tm) : Bool :=
  if t.kind = 0 ∨ t.kind = 1 then decide (0 ≤ t.a) && decide (t.a < 1000) && (t.b == 0) && ((t.text.length : Int) == 0)
  else if t.kind = 2 then (t.a == 0) && (t.b == 0) && decide (t.text.length ≤ 300)
  else if t.kind = 4 then decide (0 ≤ t.a) && decide (t.a < n) && (t.b == 0) && ((t.text.length : Int) == 0)
  else if t.kind = 3 ∨ t.kind = 5 ∨ t.kind = 6 then decide (0 ≤ t.a) && decide (t.a < n) && decide (0 ≤ t.b) && decide (t.b < n) && ((t.text.length : Int) == 0)
  else false

/-- What is sealed or signed is so with a key. -/
def keyedB (ts : List Tm) (t : Tm) : Bool := ((t.kind != 5) && (t.kind != 6)) || ((ts[t.a.toNat]?.getD default).kind == 1)

end Go.Proofs.YtepkicgnhjaokaaGreatDoor
