/-
  Files as they are seen: their names are their own.
-/
import Derived.Test.YtepkicgnhjaokaaDoorGVwA
import Derived.Test.YtepkicgnhjaokaaDoorGTx
import Derived.Lib.ItoaNum
namespace Go.Proofs.YtepkicgnhjaokaaDoor
open Go.RowKit Go.Maps

theorem dec_tail (s : ByteArray) (pos : Nat) (h : pos < s.size) (ha : 128 ≤ (s[pos]'h).toNat) (hr : (Utf8.decode s pos).1 ≠ 65533) : ∀ j, j < (Utf8.decode s pos).2 → 128 ≤ (s.get! (pos + j)).toNat := by
  have e0 : s.get! (pos + 0) = s[pos]'h := by
    show s.get! pos = _
    simp [ByteArray.get!, getElem!_pos, h]
    rfl
  have hn : ¬ (s[pos]'h).toNat < 128 := by omega
  have k0 : 128 ≤ (s.get! (pos + 0)).toNat := by rw [e0]; exact ha
  simp only [Utf8.decode, e0, hn, if_false] at hr ⊢
  split at hr
  · rename_i hc
    simp only [Bool.and_eq_true, beq_iff_eq, decide_eq_true_eq] at hc
    rw [if_pos (by simpa using hc)]
    split at hr
    · rename_i hc2
      rw [if_pos hc2]
      intro j hj
      have : j = 0 ∨ j = 1 := by simp at hj; omega
      rcases this with rfl | rfl
      · exact k0
      · omega
    · exact absurd rfl hr
  · rename_i hc
    rw [if_neg hc]
    split at hr
    · rename_i hc
      simp only [Bool.and_eq_true, beq_iff_eq, decide_eq_true_eq] at hc
      rw [if_pos (by simpa using hc)]
      split at hr
      · rename_i hc2
        rw [if_pos hc2]
        intro j hj
        have : j = 0 ∨ j = 1 ∨ j = 2 := by simp at hj; omega
        rcases this with rfl | rfl | rfl
        · exact k0
        · omega
        · omega
      · exact absurd rfl hr
    · rename_i hc
      rw [if_neg hc]
      split at hr
      · rename_i hc
        simp only [Bool.and_eq_true, beq_iff_eq, decide_eq_true_eq] at hc
        rw [if_pos (by simpa using hc)]
        split at hr
        · rename_i hc2
          rw [if_pos hc2]
          intro j hj
          have : j = 0 ∨ j = 1 ∨ j = 2 ∨ j = 3 := by simp at hj; omega
          rcases this with rfl | rfl | rfl | rfl
          · exact k0
          · omega
          · omega
          · omega
        · exact absurd rfl hr
      · exact absurd rfl hr

/-- A name that was read to its end has no tilde. -/
theorem scan_tilde (s : ByteArray) : ∀ (f pos n m : Nat), scan s f pos n = some m → s.size ≤ pos + f → ∀ j, pos ≤ j → j < s.size → (s.get! j).toNat ≠ 126
  | 0, pos, n, m, _, hf, j, h1, h2 => by omega
  | f + 1, pos, n, m, hs, hf, j, h1, h2 => by
    unfold scan at hs
    have hp : pos < s.size := by omega
    rw [if_pos hp] at hs
    by_cases hb : badRune ((Utf8.decode s pos).1 : Int) = true
    · rw [if_pos hb] at hs
      cases hs
    · rw [if_neg hb] at hs
      have hw := wd_pos s pos hp
      obtain ⟨_, _, b1, b2⟩ := badRune_false (by simpa using hb)
      have c1 : (Utf8.decode s pos).1 ≠ 126 := fun e => by rw [e] at b1; cases b1
      have c2 : (Utf8.decode s pos).1 ≠ 65533 := fun e => by rw [e] at b2; cases b2
      by_cases hj : j < pos + (Utf8.decode s pos).2
      · by_cases ha : (s[pos]'hp).toNat < 128
        · rw [decode_ascii s pos hp ha] at hj c1
          have : j = pos := by simp at hj; omega
          subst this
          have e : s.get! j = s[j]'hp := by
            simp [ByteArray.get!, getElem!_pos, hp]
            rfl
          rw [e]
          exact c1
        · have := dec_tail s pos hp (by omega) c2 (j - pos) (by omega)
          rw [show pos + (j - pos) = j by omega] at this
          omega
      · exact scan_tilde s f _ _ m hs (by omega) j (by omega) h2
theorem name_tilde {l : List UInt8} (h : nameB l = true) : (126 : UInt8) ∉ l := by
  intro hm
  obtain ⟨j, hj, he⟩ := List.getElem_of_mem hm
  unfold nameB at h
  split at h
  · cases h
  · rename_i m hs
    have := scan_tilde ⟨l.toArray⟩ l.length 0 0 m hs (by show l.toArray.size ≤ _; simp) j (Nat.zero_le _) (by show j < l.toArray.size; simpa using hj)
    apply this
    have e : (ByteArray.mk l.toArray).get! j = l[j] := by
      simp [ByteArray.get!, hj]
    rw [e, he]
    rfl

theorem dig_ok : ∀ n : Nat, ∀ x ∈ Lib.decDigits n, 48 ≤ x.toNat ∧ x.toNat ≤ 57 := by
  intro n
  induction n using Nat.strongRecOn with
  | ind n ih =>
    intro x hx
    rw [Lib.decDigits] at hx
    split at hx
    · simp only [List.mem_singleton] at hx
      subst hx
      rw [UInt8.toNat_ofNat']
      omega
    · rcases List.mem_append.1 hx with h | h
      · exact ih (n / 10) (by omega) x h
      · simp only [List.mem_singleton] at h
        subst h
        rw [UInt8.toNat_ofNat']
        omega
theorem dig_pos (n : Nat) : 0 < (Lib.decDigits n).length := by
  rw [Lib.decDigits]
  split <;> simp
theorem ofNat_inj8 {a b : Nat} (h : UInt8.ofNat a = UInt8.ofNat b) (ha : a < 256) (hb : b < 256) : a = b := by
  have h1 : (UInt8.ofNat a).toNat = (UInt8.ofNat b).toNat := by rw [h]
  rw [UInt8.toNat_ofNat', UInt8.toNat_ofNat'] at h1
  omega
theorem dig_inj : ∀ a b : Nat, Lib.decDigits a = Lib.decDigits b → a = b := by
  intro a
  induction a using Nat.strongRecOn with
  | ind a ih =>
    intro b h
    have ea : Lib.decDigits a = if a < 10 then [UInt8.ofNat (48 + a)] else Lib.decDigits (a / 10) ++ [UInt8.ofNat (48 + a % 10)] := by rw [Lib.decDigits]; rfl
    have eb : Lib.decDigits b = if b < 10 then [UInt8.ofNat (48 + b)] else Lib.decDigits (b / 10) ++ [UInt8.ofNat (48 + b % 10)] := by rw [Lib.decDigits]; rfl
    rw [ea, eb] at h
    clear ea eb
    split at h
    · split at h
      · injection h with h _
        have := ofNat_inj8 h (by omega) (by omega)
        omega
      · have h3 := congrArg List.length h
        have h4 := dig_pos (b / 10)
        simp only [List.length_append, List.length_cons, List.length_nil] at h3
        omega
    · split at h
      · have h3 := congrArg List.length h
        have h4 := dig_pos (a / 10)
        simp only [List.length_append, List.length_cons, List.length_nil] at h3
        omega
      · obtain ⟨h1, h2⟩ := List.append_inj' h rfl
        have := ih (a / 10) (by omega) (b / 10) h1
        injection h2 with h2 _
        have := ofNat_inj8 h2 (by omega) (by omega)
        omega
theorem split_one (x : UInt8) : ∀ (l1 l2 r1 r2 : List UInt8), x ∉ l1 → x ∉ l2 → l1 ++ x :: r1 = l2 ++ x :: r2 → l1 = l2 ∧ r1 = r2
  | [], [], r1, r2, _, _, h => by
    injection h with _ h
    exact ⟨rfl, h⟩
  | [], y :: l2, r1, r2, _, h2, h => by
    injection h with h _
    exact absurd h2 (by simp [h])
  | y :: l1, [], r1, r2, h1, _, h => by
    injection h with h _
    exact absurd h1 (by simp [h])
  | y :: l1, z :: l2, r1, r2, h1, h2, h => by
    injection h with h h'
    subst h
    obtain ⟨e1, e2⟩ := split_one x l1 l2 r1 r2 (fun k => h1 (by simp [k])) (fun k => h2 (by simp [k])) h'
    exact ⟨by rw [e1], e2⟩
theorem dot_not (n : Nat) : (46 : UInt8) ∉ Lib.decDigits n := fun h => by
  have := (dig_ok n 46 h).1
  exact absurd this (by decide)
theorem sufx_inj {d m d' m' : Int} (h : sufx d m = sufx d' m') (hd : 0 ≤ d) (hm : 0 ≤ m) (hd' : 0 ≤ d') (hm' : 0 ≤ m') : d = d' ∧ m = m' := by
  unfold sufx at h
  injection h with _ h
  obtain ⟨h1, h2⟩ := split_one 46 _ _ _ _ (dot_not _) (dot_not _) h
  have := dig_inj _ _ h1
  have := dig_inj _ _ h2
  omega
theorem pla_le {e f : En} (h : plaV e f < 0) : Lib.compareBytes e.name f.name ≤ 0 := by
  unfold plaV or3 at h
  by_cases hc : Lib.compareBytes e.name f.name = 0
  · omega
  · simp [hc] at h
    omega
/-- Names of files are their own. -/
theorem vw_own {vec : List Int} {es : List En} (ht : treeB vec es = true) {k i : Nat} (hk : k < i) (hi : i < es.length) : vwName es i ≠ vwName es k := by
  have ho := tree_tok ht
  have hn := tree_names ht
  have hki : k < es.length := by omega
  have gi : es.getD i default = es[i] := by rw [List.getD_eq_getElem?_getD, List.getElem?_eq_getElem hi]; rfl
  have gk : es.getD k default = es[k] := by rw [List.getD_eq_getElem?_getD, List.getElem?_eq_getElem hki]; rfl
  have ti := name_tilde (hn es[i] (List.getElem_mem hi))
  have tk := name_tilde (hn es[k] (List.getElem_mem hki))
  have hord := (List.pairwise_iff_getElem.1 ho) k i hki hi hk
  have hdi := tree_dev ht es[i] (List.getElem_mem hi)
  have hdk := tree_dev ht es[k] (List.getElem_mem hki)
  have hnum : ∀ e ∈ es, 0 ≤ e.num := fun e he => by
    have hf := tok_fit (tree_parts ht).2.2 e he
    unfold fitB at hf
    simp only [Bool.and_eq_true, decide_eq_true_eq] at hf
    have := hf.1.2
    omega
  intro he
  unfold vwName at he
  rw [gi, gk] at he
  cases hsi : stB es i with
  | true =>
    rw [hsi] at he
    simp only [if_true, List.append_nil] at he
    cases hsk : stB es k with
    | true =>
      rw [hsk] at he
      simp only [if_true, List.append_nil] at he
      unfold stB at hsi
      have gp : es.getD (i - 1) default = es[i - 1] := by rw [List.getD_eq_getElem?_getD, List.getElem?_eq_getElem (by omega)]; rfl
      rw [gi, gp, decide_eq_false (show ¬ i = 0 by omega), Bool.false_or, Bool.not_eq_true', beq_eq_false_iff_ne] at hsi
      by_cases hk1 : k = i - 1
      · subst hk1
        exact hsi he.symm
      · have o1 := pla_le ((List.pairwise_iff_getElem.1 ho) k (i - 1) hki (by omega) (by omega))
        have o2 := pla_le ((List.pairwise_iff_getElem.1 ho) (i - 1) i (by omega) hi (by omega))
        rw [← he] at o1
        have o3 := cb_anti es[i].name es[i - 1].name
        exact hsi (cb_eq _ _ (by omega))
    | false =>
      rw [hsk] at he
      apply ti
      rw [he]
      simp [sufx]
  | false =>
    rw [hsi] at he
    cases hsk : stB es k with
    | true =>
      rw [hsk] at he
      simp only [if_true, List.append_nil] at he
      apply tk
      rw [← he]
      simp [sufx]
    | false =>
      rw [hsk] at he
      simp only [Bool.false_eq_true, if_false] at he
      have he2 : es[i].name ++ 126 :: (Lib.decDigits es[i].dev.toNat ++ 46 :: Lib.decDigits es[i].num.toNat) = es[k].name ++ 126 :: (Lib.decDigits es[k].dev.toNat ++ 46 :: Lib.decDigits es[k].num.toNat) := he
      obtain ⟨e1, e2⟩ := split_one 126 _ _ _ _ ti tk he2
      have e3 : sufx es[i].dev es[i].num = sufx es[k].dev es[k].num := by unfold sufx; rw [e2]
      obtain ⟨e4, e5⟩ := sufx_inj e3 hdi.1 (hnum _ (List.getElem_mem hi)) hdk.1 (hnum _ (List.getElem_mem hki))
      have := deeds_one (tree_parts ht).2.2 hi hki e4 e5
      omega
/-- The first by a name is the latest. -/
theorem vw_late {vec : List Int} {es : List En} (ht : treeB vec es = true) {i : Nat} (hi : i + 1 < es.length) (hn : es[i].name = es[i + 1].name) : ¬ es[i].num < es[i + 1].num := by
  have h := (List.pairwise_iff_getElem.1 (tree_tok ht)) i (i + 1) (by omega) hi (by omega)
  intro hlt
  unfold plaV or3 cmpI at h
  rw [hn, cb_self] at h
  simp at h
  omega

end Go.Proofs.YtepkicgnhjaokaaDoor
