/-
  The program's notNamed: the entries by other names.
-/
import Derived.Test.YtgomdjhfdnbmdaaRdTr
namespace Go.Proofs.Ytgomdjhfdnbmdaa
open Go.RowKit Go.Maps

/-- Those by that name. -/
def notName (l : List UInt8) (es : List En) : List En := es.filter fun e => !(e.name == l)
theorem notName_succ (l : List UInt8) (es : List En) (k : Nat) (hk : k < es.length) : notName l (es.take (k + 1)) = notName l (es.take k) ++ (if es[k].name == l then [] else [es[k]]) := by
  unfold notName
  rw [List.take_succ_eq_append_getElem hk, List.filter_append]
  congr 1
  by_cases h : es[k].name == l <;> simp [h]
theorem notName_le (l : List UInt8) (es : List En) : (notName l es).length ≤ es.length := List.length_filter_le _ _

end Go.Proofs.Ytgomdjhfdnbmdaa
