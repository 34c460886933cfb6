/-
  How deep a term is: as plain data.
-/
import Derived.Test.YtkmoihkpaccbdaaDoorParts
import Derived.Deep.OwnRows
namespace Go.Proofs.YtkmoihkpaccbdaaDoor
open Go.RowKit Go.Maps

theorem okB_parts {k : Nat} {t : Tm} (h : okB k t = true) : ∀ p ∈ partsV t, 0 ≤ p ∧ p < k := by
  obtain ⟨kd, a, b, l⟩ := t
  unfold okB at h
  simp only at h
  intro p hp
  unfold partsV at hp
  simp only at hp
  by_cases h4 : kd = 4
  · subst h4
    simp at h hp
    omega
  · by_cases h3 : kd = 3 ∨ kd = 5 ∨ kd = 6
    · rcases h3 with rfl | rfl | rfl <;> (simp at h hp; omega)
    · simp [h4, h3] at hp

theorem good_parts {ts : List Tm} {k : Nat} (h : Good ts k) : ∃ hk : k < ts.length, ∀ p ∈ partsV ts[k], 0 ≤ p ∧ p < k := by
  obtain ⟨hk, h1, _⟩ := h
  exact ⟨hk, okB_parts h1⟩

/-- The greatest of what the numbers l name in d, and 0. -/
def maxOf (d : List Int) (l : List Int) : Int := l.foldl (fun m p => max m (d.getD p.toNat 0)) 0

theorem maxOf_succ (d l : List Int) (j : Nat) (hj : j < l.length) : maxOf d (l.take (j + 1)) = max (maxOf d (l.take j)) (d.getD l[j].toNat 0) := by
  unfold maxOf
  rw [List.take_succ_eq_append_getElem hj, List.foldl_append]
  rfl

/-- How deep each of the first k terms is. -/
def depths (ts : List Tm) : Nat → List Int
  | 0 => []
  | k + 1 => depths ts k ++ [maxOf (depths ts k) (partsV (tmAt ts k)) + 1]

theorem depths_length (ts : List Tm) (k : Nat) : (depths ts k).length = k := by
  induction k with
  | zero => rfl
  | succ k ih => simp [depths, ih]

theorem maxOf_range (d l : List Int) (n : Int) (hn : 0 ≤ n) (hd : ∀ x ∈ d, 0 ≤ x ∧ x ≤ n) : 0 ≤ maxOf d l ∧ maxOf d l ≤ n := by
  unfold maxOf
  induction l using snoc_ind with
  | h0 => exact ⟨Int.le_refl _, hn⟩
  | h1 l p ih =>
    rw [List.foldl_append]
    simp only [List.foldl_cons, List.foldl_nil]
    have hx : 0 ≤ d.getD p.toNat 0 ∧ d.getD p.toNat 0 ≤ n := by
      rw [List.getD_eq_getElem?_getD]
      by_cases h : p.toNat < d.length
      · rw [List.getElem?_eq_getElem h]
        exact hd _ (List.getElem_mem h)
      · rw [List.getElem?_eq_none (by omega)]
        exact ⟨Int.le_refl _, hn⟩
    omega

theorem depths_range (ts : List Tm) (k : Nat) : ∀ x ∈ depths ts k, 0 ≤ x ∧ x ≤ k := by
  induction k with
  | zero => intro x hx; simp [depths] at hx
  | succ k ih =>
    intro x hx
    simp only [depths, List.mem_append, List.mem_singleton] at hx
    rcases hx with hx | rfl
    · have := ih x hx; omega
    · have := maxOf_range (depths ts k) (partsV (tmAt ts k)) k (by omega) ih
      omega

theorem depths_get (ts : List Tm) (k j : Nat) : 0 ≤ (depths ts k).getD j 0 ∧ (depths ts k).getD j 0 ≤ k := by
  rw [List.getD_eq_getElem?_getD]
  by_cases h : j < (depths ts k).length
  · rw [List.getElem?_eq_getElem h]
    exact depths_range ts k _ (List.getElem_mem h)
  · rw [List.getElem?_eq_none (by omega)]
    exact ⟨Int.le_refl _, by simp⟩

/-- The numbers at the head of round k, where its own is m. -/
def dRow (ts : List Tm) (k : Nat) (m : Int) (j : Nat) : Value := .int .i64 (if j < k then (depths ts k).getD j 0 else if j = k then m else 0)

theorem dRow_lt {ts : List Tm} {k j : Nat} {m : Int} (h : j < k) : dRow ts k m j = .int .i64 ((depths ts k).getD j 0) := by simp [dRow, h]
theorem dRow_self {ts : List Tm} {k : Nat} {m : Int} : dRow ts k m k = .int .i64 m := by simp [dRow]
theorem dRow_set (ts : List Tm) (k : Nat) (m m' : Int) (j : Nat) : (if j = k then Value.int .i64 m' else dRow ts k m j) = dRow ts k m' j := by
  unfold dRow
  by_cases h : j = k
  · subst h; simp
  · simp [h]
theorem dRow_zero (ts : List Tm) (j : Nat) : dRow ts 0 0 j = .int .i64 0 := by simp [dRow]
theorem dRow_next (ts : List Tm) (k j : Nat) : dRow ts k (maxOf (depths ts k) (partsV (tmAt ts k)) + 1) j = dRow ts (k + 1) 0 j := by
  have hd : depths ts (k + 1) = depths ts k ++ [maxOf (depths ts k) (partsV (tmAt ts k)) + 1] := rfl
  unfold dRow
  have hl := depths_length ts k
  rw [hd]
  by_cases h : j < k
  · simp [h, show j < k + 1 by omega, List.getD_eq_getElem?_getD, hl]
  · by_cases h2 : j = k
    · subst h2
      simp [List.getD_eq_getElem?_getD, hl]
    · simp [h, h2, show ¬ j < k + 1 by omega]

/-- What Depth answers. -/
noncomputable def depthV (ts : List Tm) (id : Int) : Int := if lokB ts = true ∧ hasB ts.length id = true then (depths ts (id.toNat + 1)).getD id.toNat 0 else -1

end Go.Proofs.YtkmoihkpaccbdaaDoor
