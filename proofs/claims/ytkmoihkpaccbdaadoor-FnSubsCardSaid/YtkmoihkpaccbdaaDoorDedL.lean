/-
  The model's Leaks.
-/
import Derived.Test.YtkmoihkpaccbdaaDoorDedF
import Derived.BigQuiet
namespace Go.Proofs.YtkmoihkpaccbdaaDoor
open Go.RowKit Go.Maps

theorem pick_range {f : Nat → Bool} {n : Nat} {x : Int} (h : x ∈ pick f n) : 0 ≤ x ∧ x < n := by
  induction n with
  | zero => simp [pick] at h
  | succ n ih =>
    unfold pick at h
    split at h
    · rcases List.mem_append.1 h with h | h
      · have := ih h; omega
      · simp at h; omega
    · have := ih h; omega
theorem allV_range {ts : List Tm} {hv : List Int} {x : Int} (h : x ∈ allV ts hv) : 0 ≤ x ∧ x < ts.length := by
  unfold allV at h
  split at h
  · exact pick_range h
  · simp at h
theorem allV_length (ts : List Tm) (hv : List Int) : (allV ts hv).length ≤ ts.length := by
  unfold allV
  split
  · exact pick_length _ _
  · simp

/-- A nonce, or a key. -/
def lowB (ts : List Tm) (x : Int) : Bool := decide ((tmAt ts x.toNat).kind ≤ 1)
noncomputable def leaksV (ts : List Tm) (hv : List Int) : List Int := (allV ts hv).filter (lowB ts)

theorem filter_next {l : List Int} {p : Int → Bool} {k : Nat} (hk : k < l.length) : (l.take (k + 1)).filter p = if p l[k] = true then (l.take k).filter p ++ [l[k]] else (l.take k).filter p := by
  rw [List.take_succ_eq_append_getElem hk, List.filter_append]
  split <;> simp [*]

end Go.Proofs.YtkmoihkpaccbdaaDoor
