/-
  The model's reading of a ledger: keys, alike terms, the whole.
-/
import Derived.Test.YtepkicgnhjaokaaGreatDoorOkSpec
import Derived.Lib.BufferRead
namespace Go.Proofs.YtepkicgnhjaokaaGreatDoor
open Go.RowKit

/-- 'string(x)', whatever bytes x holds. -/
theorem run_str {w : World} {L B : Nat} {A : Option Addr} {l : List UInt8} (h : BytesIn w L B A l) (c : Nat) :
    (convert 22 9 (.slice A l.length c)).run Tryz.prog w = .ok (.string ⟨l.toArray⟩) w := by
  cases A with
  | none =>
    obtain rfl : l = [] := by
      cases l with
      | nil => rfl
      | cons x xs => obtain ⟨b, o, e, _⟩ := h (by simp); cases e
    exact Lib.run_convert_nil_bytes w 22 9 5 c Tryz.underlying22 Tryz.underlying5 Tryz.underlying9
  | some ad =>
    refine run_convert_bytes_back w 22 9 5 ad c l Tryz.underlying22 Tryz.underlying5 Tryz.underlying9 fun j hj => ?_
    obtain ⟨b, o, e, _, _, hc⟩ := h (by omega)
    cases e
    rw [Addr.add_lit]
    exact hc j hj

end Go.Proofs.YtepkicgnhjaokaaGreatDoor
