/-
  The program's VecOk, VecUp, VecBelow.
-/
import Derived.Test.YtblmhhijgdkkoaaVecL
namespace Go.Proofs.Ytblmhhijgdkkoaa
open Go.RowKit Go.Maps

theorem vecB_len {l : List Int} (h : l.length ≠ 4) : vecB l = false := by simp [vecB, h]
theorem four_of {l : List Int} (h : l.length = 4) : ∃ a b c d, l = [a, b, c, d] := by
  match l, h with
  | [a, b, c, d], _ => exact ⟨a, b, c, d, rfl⟩

/-- Four numbers out of a list. -/
def v4l (l : List Int) : Value := v4 (l.getD 0 0) (l.getD 1 0) (l.getD 2 0) (l.getD 3 0)

/-- readVec's answer, of whatever list. -/
def vecVal (l : List Int) : Value := if l.length = 4 then v4l l else v4 0 0 0 0
theorem vecVal_shape (l : List Int) : ∃ a b c d, vecVal l = v4 a b c d := by
  unfold vecVal v4l
  split <;> exact ⟨_, _, _, _, rfl⟩

theorem readVec_any (A : Option Addr) (l : List Int) (cap : Nat) (w : World) (hA : IntsIn w 0 w.heap.size A l) :
    Calls Try.prog 99 #[.slice A l.length cap] w fun e w' => e = .returned (.tuple #[vecVal l, .bool (vecB l)]) ∧ Below w.heap.size w w' := by
  by_cases h : l.length = 4
  · obtain ⟨a, b, c, d, rfl⟩ := four_of h
    exact readVec_yes A a b c d cap w hA
  · rw [vecB_len h, vecVal, if_neg h]
    exact readVec_no A l.length cap w h

/-- A new list, or none. -/
def upV (l m : List Int) : List Int := if vecB l && vecB m then [mx (l.getD 0 0) (m.getD 0 0), mx (l.getD 1 0) (m.getD 1 0), mx (l.getD 2 0) (m.getD 2 0), mx (l.getD 3 0) (m.getD 3 0)] else []

theorem NewIntsFr.nil {w w' : World} (hb : Below w.heap.size w w') : NewIntsFr [] w (.returned (.slice none 0 0)) w' :=
  ⟨none, 0, rfl, fun h => absurd h (by simp), hb⟩
theorem vecB_four {l : List Int} (h : vecB l = true) : ∃ a b c d, l = [a, b, c, d] := by
  refine four_of ?_
  simp [vecB] at h
  exact h.1

/-- Is none above the other's? -/
def belowV (l m : List Int) : Bool := vecB l && vecB m && belB (l.getD 0 0) (l.getD 1 0) (l.getD 2 0) (l.getD 3 0) (m.getD 0 0) (m.getD 1 0) (m.getD 2 0) (m.getD 3 0)

end Go.Proofs.Ytblmhhijgdkkoaa
