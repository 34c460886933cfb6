/-
  TermOk: the model's and the program's answer alike; what readBoth hands back.
-/
import Derived.Test.YtblmhhijgdkkoaaImplOk
namespace Go.Proofs.Ytblmhhijgdkkoaa
open Go.RowKit Go.Maps

theorem readB_eq' (us : List Tm) (t : Tm) : readB us t = (okB us.length t && keyedB us t) := by
  obtain ⟨kd, a, b, l⟩ := t
  unfold readB fieldsB partsB okB keyedB hasKeyB hasB
  simp only
  generalize l.length = n
  by_cases h0 : kd = 0
  · subst h0; rw [Bool.eq_iff_iff]; simp; omega
  by_cases h1 : kd = 1
  · subst h1; rw [Bool.eq_iff_iff]; simp; omega
  by_cases h2 : kd = 2
  · subst h2; simp
  by_cases h3 : kd = 3
  · subst h3; rw [Bool.eq_iff_iff]; simp; omega
  by_cases h4 : kd = 4
  · subst h4; rw [Bool.eq_iff_iff]; simp; omega
  by_cases h5 : kd = 5
  · subst h5; rw [Bool.eq_iff_iff]; simp; omega
  by_cases h6 : kd = 6
  · subst h6; rw [Bool.eq_iff_iff]; simp; omega
  · simp [h0, h1, h2, h3, h4, h5, h6]

/-- What TermOk answers. -/
noncomputable def termB (ts : List Tm) (t : Tm) : Bool := lokB ts && readB ts t

/-- What readBoth hands back. -/
def RbPost (ts : List Tm) (t : Tm) (w : World) (e : Ending) (w' : World) : Prop :=
  (LOk ts ∧ readB ts t = true ∧ ∃ A c M, e = .returned (.tuple #[.agg #[.slice A ts.length c, .map (some M)], .bool true]) ∧ w.heap.size ≤ M ∧ BkIn w' w.heap.size w'.heap.size A ts ∧ w'.ownsMap (H := Unit) Try.prog 157 (plainElem Try.prog 3) M ts.length (mapOf ts) ∧ Below w.heap.size w w') ∨
  (termB ts t = false ∧ e = .returned (.tuple #[.agg #[.slice none 0 0, .map none], .bool false]) ∧ Below w.heap.size w w')

section
variable (A A' : Option Addr) (ts : List Tm) (t : Tm) (c c' L B L' B' : Nat) (w : World)

end

end Go.Proofs.Ytblmhhijgdkkoaa
