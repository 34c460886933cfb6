/-
  Cells of one block, stored one behind the other.
-/
import Derived.Test.YtndcnomgaoadeaaTrO
namespace Go.Proofs.Ytndcnomgaoadeaa
open Go.RowKit Go.Maps

/-- The values, stored into block b from cell o on. -/
def putAll (b : Nat) : Nat → List Value → World → World
  | _, [], w => w
  | o, v :: vs, w => putAll b (o + 1) vs (w.setCell ⟨b, o, none⟩ v)

section
variable {b o : Nat} {vs us : List Value} {w : World}
theorem putAll_other {p : Addr} (hp : p.block ≠ b) : (putAll b o vs w).cell? p = w.cell? p := by
  induction vs generalizing o w with
  | nil => rfl
  | cons v vs ih =>
    show (putAll b (o + 1) vs (w.setCell ⟨b, o, none⟩ v)).cell? p = _
    rw [ih]
    exact World.cell?_setCell_other _ _ _ _ (fun e => hp (by rw [← e]))
theorem putAll_frozen (p : Addr) : (putAll b o vs w).frozen? p = w.frozen? p := by
  induction vs generalizing o w with
  | nil => rfl
  | cons v vs ih =>
    show (putAll b (o + 1) vs (w.setCell ⟨b, o, none⟩ v)).frozen? p = _
    rw [ih, World.frozen?_setCell]
theorem putAll_size : (putAll b o vs w).heap.size = w.heap.size := by
  induction vs generalizing o w with
  | nil => rfl
  | cons v vs ih =>
    show (putAll b (o + 1) vs (w.setCell ⟨b, o, none⟩ v)).heap.size = _
    rw [ih]
    simp
theorem putAll_lo {j : Nat} (hj : j < o) : (putAll b o vs w).cell? ⟨b, j, none⟩ = w.cell? ⟨b, j, none⟩ := by
  induction vs generalizing o w with
  | nil => rfl
  | cons v vs ih =>
    show (putAll b (o + 1) vs (w.setCell ⟨b, o, none⟩ v)).cell? _ = _
    rw [ih (by omega)]
    exact World.cell?_setCell_other _ _ _ _ (fun e => by injection e with _ e2 _; omega)
theorem putAll_at (h : ∀ j, j < vs.length → ∃ u, w.cell? ⟨b, o + j, none⟩ = some u) : ∀ j (hj : j < vs.length), (putAll b o vs w).cell? ⟨b, o + j, none⟩ = some vs[j] := by
  induction vs generalizing o w with
  | nil => intro j hj; simp at hj
  | cons v vs ih =>
    intro j hj
    show (putAll b (o + 1) vs (w.setCell ⟨b, o, none⟩ v)).cell? _ = _
    obtain ⟨u, hu⟩ := h 0 (by simp)
    cases j with
    | zero =>
      rw [putAll_lo (by omega)]
      exact World.cell?_setCell_same _ _ _ hu
    | succ j =>
      have h2 := ih (o := o + 1) (w := w.setCell ⟨b, o, none⟩ v) (fun i hi => by
        obtain ⟨u', hu'⟩ := h (i + 1) (by simp; omega)
        refine ⟨u', ?_⟩
        rw [World.cell?_setCell_other _ _ _ _ (fun e => by injection e with _ e2 _; omega), show o + 1 + i = o + (i + 1) by omega]
        exact hu') j (by simpa using hj)
      rw [show o + 1 + j = o + (j + 1) by omega] at h2
      rw [h2]
      simp
theorem putAll_bx (h : Bx w b us) (hl : vs.length = us.length) : Bx (putAll b 0 vs w) b vs := by
  intro j hj
  have h2 := putAll_at (b := b) (o := 0) (vs := vs) (w := w) (fun i hi => ⟨_, by rw [Nat.zero_add]; exact h i (by omega)⟩) j hj
  rw [Nat.zero_add] at h2
  exact h2
theorem putAll_hi {j : Nat} (hj : o + vs.length ≤ j) : (putAll b o vs w).cell? ⟨b, j, none⟩ = w.cell? ⟨b, j, none⟩ := by
  induction vs generalizing o w with
  | nil => rfl
  | cons v vs ih =>
    show (putAll b (o + 1) vs (w.setCell ⟨b, o, none⟩ v)).cell? _ = _
    simp at hj
    rw [ih (by omega)]
    exact World.cell?_setCell_other _ _ _ _ (fun e => by injection e with _ e2 _; omega)
theorem Bx.put (h : Bx w b us) (o : Nat) (vs : List Value) (hl : o + vs.length ≤ us.length) : Bx (putAll b o vs w) b (us.take o ++ (vs ++ us.drop (o + vs.length))) := by
  intro j hj
  rw [← List.getElem?_eq_getElem hj]
  have hlt : (us.take o).length = o := by simp; omega
  have hj' : j < us.length := by simp at hj; omega
  by_cases h1 : j < o
  · rw [putAll_lo h1, h j hj', List.getElem?_append_left (by omega), List.getElem?_take, if_pos h1, List.getElem?_eq_getElem hj']
  · rw [List.getElem?_append_right (by omega), hlt]
    by_cases h2 : j < o + vs.length
    · have h3 := putAll_at (b := b) (o := o) (vs := vs) (w := w) (fun i hi => ⟨_, h (o + i) (by omega)⟩) (j - o) (by omega)
      rw [show o + (j - o) = j by omega] at h3
      rw [h3, List.getElem?_append_left (by omega), List.getElem?_eq_getElem (by omega)]
    · rw [putAll_hi (by omega), h j hj', List.getElem?_append_right (by omega), List.getElem?_drop, show o + vs.length + (j - o - vs.length) = j by omega, List.getElem?_eq_getElem hj']
theorem putAll_below {B : Nat} {a : World} (h : Below B a w) (hB : B ≤ b) : Below B a (putAll b o vs w) := by
  induction vs generalizing o w with
  | nil => exact h
  | cons v vs ih => exact ih (h.setCell hB _)
end

end Go.Proofs.Ytndcnomgaoadeaa
