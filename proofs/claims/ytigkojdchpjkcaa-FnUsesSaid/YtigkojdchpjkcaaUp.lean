/-
  Who is made of a term, terms of all kinds, keys: plain data for the law of uses.
-/
import Derived.Test.YtigkojdchpjkcaaDo
import Derived.Test.YtigkojdchpjkcaaGFo
import Derived.Test.YtigkojdchpjkcaaTms
import Derived.Test.YtigkojdchpjkcaaFh
import Derived.Test.YtigkojdchpjkcaaUsesOf
import Derived.Test.YtigkojdchpjkcaaKeysOf
import Derived.Test.YtigkojdchpjkcaaCountKind
import Derived.Test.YtigkojdchpjkcaaSubterms
namespace Go.Proofs.Ytigkojdchpjkcaa
open Go.RowKit Go.Maps

theorem uses_mem {ts : List Tm} {id u : Int} (h : u ∈ usesV ts id) : ∃ j : Nat, u = (j : Int) ∧ j < ts.length ∧ ¬ ((j : Int) ≤ id) ∧ id ∈ subsV ts (j : Int) := by
  unfold usesV at h
  split at h
  · rename_i hlk
    obtain ⟨j, hj, rfl, hf⟩ := mem_pick.1 h
    have hok := lok_of hlk
    have hp : id ∈ partsV (tmAt ts j) := by
      unfold usesB amongB at hf
      simpa using hf
    have hlt := parts_lt hok hj hp
    refine ⟨j, rfl, hj, by omega, ?_⟩
    unfold subsV
    rw [if_pos ⟨hlk, (hasB_iff _ _).2 ⟨by omega, by omega⟩⟩]
    refine mem_pick.2 ⟨id.toNat, by omega, (Int.toNat_of_nonneg hlt.1).symm, (reachB_iff _ _ _).2 ?_⟩
    rw [show ((j : Int)).toNat = j by simp]
    exact Reach.head hp (.refl _)
  · simp at h

theorem okB_kind {n : Nat} {t : Tm} (h : okB n t = true) : 0 ≤ t.kind ∧ t.kind < 7 := by
  unfold okB at h
  split at h
  · rename_i hk; omega
  · split at h
    · omega
    · split at h
      · omega
      · split at h
        · omega
        · simp at h

theorem seal_uses {ts : List Tm} (hok : LOk ts) {i : Nat} (hi : i < ts.length) (hk : 5 ≤ ts[i].kind) : ts[i].a ∈ keysV ts ∧ (i : Int) ∈ usesV ts ts[i].b := by
  obtain ⟨_, ho, hkey, _⟩ := hok.2 i hi
  have hk7 := (okB_kind ho).2
  have hk56 : ts[i].kind = 5 ∨ ts[i].kind = 6 := by omega
  have hab : ts[i].a ∈ partsV (tmAt ts i) ∧ ts[i].b ∈ partsV (tmAt ts i) := by
    rw [tmAt_nat ts i hi]
    unfold partsV
    rw [if_neg (by omega), if_pos (by omega)]
    simp
  have ha := parts_lt hok hi hab.1
  have hb := parts_lt hok hi hab.2
  constructor
  · unfold keysV
    rw [if_pos (lokB_true hok)]
    refine mem_pick.2 ⟨ts[i].a.toNat, by omega, (Int.toNat_of_nonneg ha.1).symm, ?_⟩
    unfold keyedB at hkey
    unfold isKey tmAt
    rw [Int.toNat_natCast]
    rcases hk56 with h | h <;> (rw [h] at hkey; simpa using hkey)
  · unfold usesV
    rw [if_pos (lokB_true hok)]
    refine mem_pick.2 ⟨i, hi, rfl, ?_⟩
    unfold usesB amongB
    simpa using hab.2

/-- How many are of a kind below k. -/
def belowK (ts : List Tm) (k : Int) : Nat := ts.countP fun t => decide (t.kind < k)
theorem belowK_zero {ts : List Tm} (hok : LOk ts) : belowK ts 0 = 0 := by
  unfold belowK
  rw [List.countP_eq_zero]
  intro t ht
  obtain ⟨i, hi, rfl⟩ := List.getElem_of_mem ht
  obtain ⟨_, ho, _⟩ := hok.2 i hi
  have := (okB_kind ho).1
  simp
  omega
theorem belowK_all {ts : List Tm} (hok : LOk ts) : belowK ts 7 = ts.length := by
  unfold belowK
  rw [List.countP_eq_length]
  intro t ht
  obtain ⟨i, hi, rfl⟩ := List.getElem_of_mem ht
  obtain ⟨_, ho, _⟩ := hok.2 i hi
  have := (okB_kind ho).2
  simp
  omega
theorem belowK_succ (ts : List Tm) (k : Int) : belowK ts (k + 1) = belowK ts k + countK ts k := by
  unfold belowK countK
  induction ts with
  | nil => rfl
  | cons t ts ih =>
    simp only [List.countP_cons]
    rw [ih]
    by_cases h1 : t.kind < k
    · rw [if_pos (by simp; omega), if_pos (by simp; omega), if_neg (by simp; omega)]; omega
    · by_cases h2 : t.kind = k
      · rw [if_pos (by simp; omega), if_neg (by simp; omega), if_pos (by simp; omega)]; omega
      · rw [if_neg (by simp; omega), if_neg (by simp; omega), if_neg (by simp; omega)]; omega
theorem belowK_le (ts : List Tm) (k : Int) : belowK ts k ≤ ts.length := List.countP_le_length
theorem keys_count {ts : List Tm} (hok : LOk ts) : (keysV ts).length = countK ts 1 := by
  have h : ∀ n, n ≤ ts.length → (pick (isKey ts) n).length = countK (ts.take n) 1 := by
    intro n
    induction n with
    | zero => intro _; simp [pick, countK]
    | succ n ih =>
      intro hn
      rw [countK_succ ts 1 n (by omega), ← ih (by omega)]
      have hi : isKey ts n = (ts[n].kind == 1) := by unfold isKey; rw [tmAt_nat ts n (by omega)]
      cases hb : isKey ts n with
      | true => rw [pick_true hb]; rw [hb] at hi; simp [← hi]
      | false => rw [pick_false hb]; rw [hb] at hi; simp [← hi]
  unfold keysV
  rw [if_pos (lokB_true hok), h _ (Nat.le_refl _), List.take_length]

end Go.Proofs.Ytigkojdchpjkcaa
