/-
  The program's map from terms to numbers, as plain data.
-/
import Derived.Test.YtblmhhijgdkkoaaLedgerOk
import Derived.Test.YtblmhhijgdkkoaaImplRead
import Derived.Test.YtblmhhijgdkkoaaArgs
import Derived.DeepKeys5
import Derived.Maps.OwnSet
namespace Go.Proofs.Ytblmhhijgdkkoaa
open Go.RowKit Go.Maps

theorem Try.keyed : Keyed Try.prog 157 := Keyed.of_law (deep_law_gate Try.laidOut (of_decide_eq_true (by kernel_rfl)) (of_decide_eq_true (by kernel_rfl)) (by kernel_rfl) (by kernel_rfl))
theorem Try.keyTypeK : Try.prog.keyType 157 = true := by kernel_rfl
theorem Try.cellsK : Try.prog.cellsOf 157 = 4 := by kernel_rfl
theorem Try.cellsI : Try.prog.cellsOf 3 = 1 := by kernel_rfl
theorem Try.cellsS : Try.prog.cellsOf 9 = 1 := by kernel_rfl
theorem Try.someTypes : ∃ m, Try.prog.types.size = m + 1 := Nat.exists_eq_succ_of_ne_zero (Nat.pos_iff_ne_zero.1 (of_decide_eq_true (by kernel_rfl)))

/-- A term whose parts are numbers of 64 bits, and whose text is not too long. -/
def WfT (t : Tm) : Prop := (Lit.int .i64 t.kind).wf = true ∧ (Lit.int .i64 t.a).wf = true ∧ (Lit.int .i64 t.b).wf = true ∧ t.text.length ≤ maxLen

/-- What a term reads as, as a key. -/
def klOf (t : Tm) : Lit := .string (keyBytes [.int .i64 t.kind, .int .i64 t.a, .int .i64 t.b, .string t.text])

theorem keyOf_tk (t : Tm) (h : WfT t) : keyOf Try.prog 157 (tk t) = some (klOf t) := by
  obtain ⟨h0, h1, h2, h3⟩ := h
  obtain ⟨m, hm⟩ := Try.someTypes
  unfold keyOf tk
  simp only [Try.underlying157]
  rw [if_pos (by simp [Try.keyTypeK, Value.formed, Try.underlying157, Try.cellsK]), hm]
  unfold Program.keyLits
  simp only [Try.underlying157, Value.cells]
  rw [if_pos (by rw [Try.cellsK]; exact ⟨rfl, by decide +kernel⟩)]
  have hs : ByteArray.size { data := t.text.toArray } ≤ maxLen := by simpa [ByteArray.size] using h3
  simp [Try.cellsI, Try.cellsS, Program.keyLits, Try.underlying3, Try.underlying9, h0, h1, h2, hs, klOf]

theorem tk_inj {t u : Tm} (h : tk t = tk u) : t = u := by
  obtain ⟨k, a, b, l⟩ := t
  obtain ⟨k', a', b', l'⟩ := u
  simp [tk] at h
  simp [h]

theorem klOf_inj {t u : Tm} (ht : WfT t) (hu : WfT u) (h : klOf t = klOf u) : t = u :=
  tk_inj (Try.keyed.inj (keyOf_tk t ht) (h ▸ keyOf_tk u hu))

theorem klOf_key (t : Tm) : WideAt.IsKeyLit (klOf t) := trivial

theorem snoc_ind {α : Type} {p : List α → Prop} (h0 : p []) (h1 : ∀ xs x, p xs → p (xs ++ [x])) (l : List α) : p l := by
  rw [← List.reverse_reverse l]
  induction l.reverse with
  | nil => exact h0
  | cons x xs ih => simpa using h1 _ x ih

/-- The map that the terms us make: each to its number. -/
def mapOf (us : List Tm) : DataW Unit := us.zipIdx.foldl (fun m p => m.put (klOf p.1) (.lit (.int .i64 (p.2 : Int)))) (.map [])

theorem mapOf_nil : mapOf [] = .map [] := rfl
theorem mapOf_snoc (us : List Tm) (t : Tm) : mapOf (us ++ [t]) = (mapOf us).put (klOf t) (.lit (.int .i64 (us.length : Int))) := by
  simp [mapOf, List.zipIdx_append, List.foldl_append]

theorem isMap_mapOf (us : List Tm) : IsMap (mapOf us) := by
  induction us using snoc_ind with
  | h0 => exact isMap_empty
  | h1 us t ih => rw [mapOf_snoc]; exact ih.put _ _

theorem has_mapOf (us : List Tm) (t : Tm) (hus : ∀ u ∈ us, WfT u) (ht : WfT t) : has (mapOf us) (klOf t) = decide (t ∈ us) := by
  induction us using snoc_ind with
  | h0 => rfl
  | h1 us u ih =>
    rw [mapOf_snoc]
    by_cases e : t = u
    · subst e
      rw [has_put_same (isMap_mapOf us) (klOf_key t)]
      simp
    · rw [has_put_other (fun h => e (klOf_inj ht (hus u (by simp)) h)), ih (fun x hx => hus x (by simp [hx]))]
      simp [e]

theorem atKey_mapOf (us : List Tm) (i : Nat) (hi : i < us.length) (z : DataW Unit) (hus : ∀ u ∈ us, WfT u) (hne : ∀ j k (hj : j < us.length) (_ : k < j), us[k] ≠ us[j]) :
    (mapOf us).atKey (klOf us[i]) z = .lit (.int .i64 (i : Int)) := by
  induction us using snoc_ind with
  | h0 => simp at hi
  | h1 us u ih =>
    rw [mapOf_snoc]
    by_cases e : i = us.length
    · subst e
      simp only [List.getElem_append_right (Nat.le_refl _), Nat.sub_self, List.getElem_cons_zero]
      exact atKey_put_same (isMap_mapOf us) (klOf_key u) _ _
    · have hi' : i < us.length := by simp at hi; omega
      have e1 : (us ++ [u])[i] = us[i] := List.getElem_append_left hi'
      have hne1 : us[i] ≠ u := by
        have := hne us.length i (by simp) hi'
        simpa [List.getElem_append_left hi'] using this
      rw [e1, atKey_put_other (fun h => hne1 (klOf_inj (hus _ (by simp)) (hus u (by simp)) h))]
      refine ih hi' (fun x hx => hus x (by simp [hx])) (fun j k hj hk => ?_)
      have := hne j k (by simp; omega) hk
      simpa [List.getElem_append_left hj, List.getElem_append_left (show k < us.length by omega)] using this

/-- What the program's reading tells is what the model's does. -/
theorem readB_eq (ts : List Tm) (k : Nat) (hk : k < ts.length) : readB (ts.take k) ts[k] = (okB k ts[k] && keyedB ts ts[k]) := by
  have hl : (ts.take k).length = k := by simp; omega
  have hget : ∀ i : Int, 0 ≤ i → i < k → (ts.take k)[i.toNat]? = ts[i.toNat]? := fun i h0 h1 => by rw [List.getElem?_take, if_pos (by omega)]
  generalize ts[k] = t
  obtain ⟨kd, a, b, l⟩ := t
  unfold readB fieldsB partsB okB keyedB hasKeyB hasB
  rw [hl]
  simp only
  generalize l.length = n
  by_cases h0 : kd = 0
  · subst h0; rw [Bool.eq_iff_iff]; simp; omega
  by_cases h1 : kd = 1
  · subst h1; rw [Bool.eq_iff_iff]; simp; omega
  by_cases h2 : kd = 2
  · subst h2; simp
  by_cases h3 : kd = 3
  · subst h3; rw [Bool.eq_iff_iff]; simp; omega
  by_cases h4 : kd = 4
  · subst h4; rw [Bool.eq_iff_iff]; simp; omega
  by_cases h5 : kd = 5
  · subst h5
    by_cases ha : 0 ≤ a ∧ a < k
    · rw [hget a ha.1 ha.2, Bool.eq_iff_iff]; simp [ha]; omega
    · rw [Bool.eq_iff_iff]; simp; omega
  by_cases h6 : kd = 6
  · subst h6
    by_cases ha : 0 ≤ a ∧ a < k
    · rw [hget a ha.1 ha.2, Bool.eq_iff_iff]; simp [ha]; omega
    · rw [Bool.eq_iff_iff]; simp; omega
  · simp [h0, h1, h2, h3, h4, h5, h6]

/-- What can be read is small. -/
theorem readB_wf (us : List Tm) (t : Tm) (hus : us.length ≤ 1048576) (h : readB us t = true) : WfT t := by
  obtain ⟨kd, a, b, l⟩ := t
  have hk : kd = 0 ∨ kd = 1 ∨ kd = 2 ∨ kd = 3 ∨ kd = 4 ∨ kd = 5 ∨ kd = 6 := by
    unfold readB fieldsB at h
    simp only at h
    by_cases h0 : kd = 0 ∨ kd = 1
    · omega
    by_cases h2 : kd = 2
    · omega
    by_cases h4 : kd = 4
    · omega
    by_cases h3 : kd = 3 ∨ kd = 5 ∨ kd = 6
    · omega
    · simp [h0, h2, h4, h3] at h
  have hb : 0 ≤ a ∧ a ≤ 1048576 ∧ 0 ≤ b ∧ b ≤ 1048576 ∧ l.length ≤ 300 := by
    unfold readB fieldsB partsB hasKeyB hasB at h
    simp only at h
    generalize l.length = n at h ⊢
    rcases hk with rfl | rfl | rfl | rfl | rfl | rfl | rfl <;> (simp at h; omega)
  have hk' : 0 ≤ kd ∧ kd ≤ 6 := by omega
  exact ⟨WalkArith.wf_i64 (by simp only; omega), WalkArith.wf_i64 (by simp only; omega), WalkArith.wf_i64 (by simp only; omega), by unfold maxLen; simp only; omega⟩

end Go.Proofs.Ytblmhhijgdkkoaa
