/-
  Trees in order: the model.
-/
import Derived.Test.YtblmhhijgdkkoaaTcI
import Derived.Test.YtblmhhijgdkkoaaGCmp
namespace Go.Proofs.Ytblmhhijgdkkoaa
open Go.RowKit Go.Maps

theorem less_self : ∀ a : List UInt8, Op.bytesLess a a = false
  | [] => by simp [Op.bytesLess]
  | x :: a => by simp [Op.bytesLess, less_self a]
/-- How two rows of bytes lie, by who is less. -/
theorem cmp_cases (T U : List UInt8) : (Op.bytesLess T U = true ∧ Lib.compareBytes T U = -1) ∨ (Op.bytesLess T U = false ∧ (T == U) = false ∧ Lib.compareBytes T U = 1) ∨ (T = U ∧ Op.bytesLess T U = false ∧ Lib.compareBytes T U = 0) := by
  rw [compare_less]
  cases h1 : Op.bytesLess T U with
  | true =>
    have : T ≠ U := by rintro rfl; rw [less_self] at h1; cases h1
    simp [this]
  | false =>
    by_cases h2 : T = U
    · simp [h2]
    · simp [h2]

set_option maxRecDepth 100000 in
set_option maxHeartbeats 600000 in
theorem specTreeCmp_any (AV : Option Addr) (vec : List Int) (cv : Nat) (A : Option Addr) (es : List En) (c : Nat) (AV2 : Option Addr) (vec2 : List Int) (cv2 : Nat) (A2 : Option Addr) (es2 : List En) (c2 : Nat) (w : World) (hV : IntsIn w 0 w.heap.size AV vec) (hA : EnsIn w 0 w.heap.size A es) (hv : vec.length ≤ 1048576) (hn : es.length ≤ 1048576) (hbk : ebulk es ≤ 1048576) (hV2 : IntsIn w 0 w.heap.size AV2 vec2) (hA2 : EnsIn w 0 w.heap.size A2 es2) (hv2 : vec2.length ≤ 1048576) (hn2 : es2.length ≤ 1048576) (hbk2 : ebulk es2 ≤ 1048576) (hc : es.length ≤ c := by omega) (hc2 : es2.length ≤ c2 := by omega) :
    Calls Try.prog 28 #[.agg #[.slice AV vec.length cv, .slice A es.length c], .agg #[.slice AV2 vec2.length cv2, .slice A2 es2.length c2]] w fun e w' => e = .returned (.int .i64 (tcI vec es vec2 es2)) ∧ Below w.heap.size w w' := by
  have HN1 := Lib.hid (@treeB_names0 vec es)
  have HN2 := Lib.hid (@treeB_names0 vec2 es2)
  have HL1 := Lib.hid (@treeB_len12 vec es)
  have HL2 := Lib.hid (@treeB_len12 vec2 es2)
  have HQ1 := Lib.hid (@treeB_vec0 vec es)
  have HQ2 := Lib.hid (@treeB_vec0 vec2 es2)
  have HOk := Lib.hid (fun W (hX : Below w.heap.size w W) => specTreeOk_any AV vec cv A es c W ((hV.keep fun p _ hp => hX.cell hp).mono hX.size) ((hA.below hX).mono hX.size) hv hn hbk hc)
  have HBy := Lib.hid (fun W (hX : Below w.heap.size w W) (h1 : vec.length ≤ 1000) (h2 : es.length ≤ 1000) (h3 : ∀ i (hi : i < es.length), 0 < es[i].name.length) => l3bytes_any AV vec cv A es c W ((hV.keep fun p _ hp => hX.cell hp).mono hX.size) ((hA.below hX).mono hX.size) h1 h2 hbk h3)
  have HOk2 := Lib.hid (fun W (hX : Below w.heap.size w W) => specTreeOk_any AV2 vec2 cv2 A2 es2 c2 W ((hV2.keep fun p _ hp => hX.cell hp).mono hX.size) ((hA2.below hX).mono hX.size) hv2 hn2 hbk2 hc2)
  have HBy2 := Lib.hid (fun W (hX : Below w.heap.size w W) (h1 : vec2.length ≤ 1000) (h2 : es2.length ≤ 1000) (h3 : ∀ i (hi : i < es2.length), 0 < es2[i].name.length) => l3bytes_any AV2 vec2 cv2 A2 es2 c2 W ((hV2.keep fun p _ hp => hX.cell hp).mono hX.size) ((hA2.below hX).mono hX.size) h1 h2 hbk2 h3)
  have HI := Lib.hid (show tcI vec es vec2 es2 = if treeB vec es && treeB vec2 es2 then Lib.compareBytes (tbV vec es) (tbV vec2 es2) else 0 from rfl)
  obtain ⟨I, hI⟩ : ∃ I, I = tcI vec es vec2 es2 := ⟨_, rfl⟩
  rw [← hI] at HI ⊢
  clear hI hV hA hV2 hA2
  obtain ⟨b1, hb1⟩ : ∃ b, b = treeB vec es := ⟨_, rfl⟩
  rw [← hb1] at HI HN1 HL1 HQ1 HOk
  clear hb1
  obtain ⟨b2, hb2⟩ : ∃ b, b = treeB vec2 es2 := ⟨_, rfl⟩
  rw [← hb2] at HI HN2 HL2 HQ2 HOk2
  clear hb2
  go_enter Try.func28, Try.ntmps28
  go_wp2_with fail
  obtain ⟨W1_0, hW1_0⟩ : ∃ x, x = w.alloc (.cells #[.slice AV vec.length cv, .slice A es.length c] 30) := ⟨_, rfl⟩
  obtain ⟨W1_1, hW1_1⟩ : ∃ x, x = W1_0.alloc (.cells #[.slice AV2 vec2.length cv2, .slice A2 es2.length c2] 30) := ⟨_, rfl⟩
  have hZ1_0 : W1_0.heap.size = w.heap.size + 1 := by rw [hW1_0]; simp
  have hZ1_1 : W1_1.heap.size = w.heap.size + 2 := by rw [hW1_1]; simp [hZ1_0]
  have hx0 : Bx W1_0 (w.heap.size) [.slice AV vec.length cv, .slice A es.length c] := by rw [hW1_0]; exact Bx.new' _ _ _ _ rfl
  replace hx0 : Bx W1_1 (w.heap.size) [.slice AV vec.length cv, .slice A es.length c] := by rw [hW1_1]; exact hx0.alloc (by omega) _
  have hx1 : Bx W1_1 (w.heap.size + 1) [.slice AV2 vec2.length cv2, .slice A2 es2.length c2] := by rw [hW1_1, ← hZ1_0]; exact Bx.new' _ _ _ _ rfl
  have hb0 : Below w.heap.size w W1_1 := by rw [hW1_1, hW1_0]; exact (((Below.refl _ _).alloc (by first | exact Nat.le_refl _ | (simp; done) | (simp; omega)) _).alloc (by first | exact Nat.le_refl _ | (simp; done) | (simp; omega)) _)
  have hlt : w.heap.size + 1 < W1_1.heap.size := by omega
  rw [← hW1_0, ← hW1_1]
  clear hW1_0 hZ1_0 hW1_1 hZ1_1
  have z_2 := hb0.size
  have Hbel_3 := Lib.hid (hb0)
  have HP_4 := Lib.hid (hx0)
  have HQ_5 := Lib.hid (hx1)
  clear hb0 hx0 hx1
  have hl_6 := hlt
  clear hlt
  refine (HOk.out W1_1 Hbel_3.out).mono ?_
  rintro e w1 ⟨rfl, hb⟩
  have z_7 := hb.size
  have Hbel_8 := Lib.hid (Hbel_3.out.trans (hb.mono (by omega)))
  have HP_9 := Lib.hid (HP_4.out.below hb (by omega))
  have HQ_10 := Lib.hid (HQ_5.out.below hb (by omega))
  clear Hbel_3 HP_4 HQ_5
  clear hb
  cases b1 with
  | false =>
    have HF := Lib.hid (show I = 0 by rw [HI.out]; rfl)
    go_wp2_with fail
    go_ret
    exact ⟨ret_int (a := 0) HF.out.symm, Hbel_8.out⟩
  | true =>
  have qQ_0 := HQ_10.out 0 (by simp)
  have qQ_1 := HQ_10.out 1 (by simp)
  have lQ : w.heap.size + 1 < w1.heap.size := by omega
  simp only [List.getElem_cons_succ, List.getElem_cons_zero] at qQ_0 qQ_1
  go_wp2_with fail
  refine (HOk2.out w1 Hbel_8.out).mono ?_
  rintro e w2 ⟨rfl, hb⟩
  clear qQ_0 qQ_1 lQ
  have z_11 := hb.size
  have Hbel_12 := Lib.hid (Hbel_8.out.trans (hb.mono (by omega)))
  have HP_13 := Lib.hid (HP_9.out.below hb (by omega))
  have HQ_14 := Lib.hid (HQ_10.out.below hb (by omega))
  clear Hbel_8 HP_9 HQ_10
  clear hb
  cases b2 with
  | false =>
    have HF := Lib.hid (show I = 0 by rw [HI.out]; rfl)
    go_wp2_with fail
    go_ret
    exact ⟨ret_int (a := 0) HF.out.symm, Hbel_12.out⟩
  | true =>
  obtain ⟨T, hT⟩ : ∃ T, T = tbV vec es := ⟨_, rfl⟩
  obtain ⟨U, hU⟩ : ∃ T, T = tbV vec2 es2 := ⟨_, rfl⟩
  have HF := Lib.hid (show I = Lib.compareBytes T U by rw [HI.out, hT, hU]; rfl)
  have l1 := HL1.out (by trivial)
  have l2 := HL2.out (by trivial)
  have v1 : vec.length ≤ 4 := Nat.le_of_eq (HQ1.out (by trivial))
  have v2 : vec2.length ≤ 4 := Nat.le_of_eq (HQ2.out (by trivial))
  have hy1 := fun W hX => HBy.out W hX (by omega) (by omega) (HN1.out (by trivial))
  have hy2 := fun W hX => HBy2.out W hX (by omega) (by omega) (HN2.out (by trivial))
  rw [← hT] at hy1
  rw [← hU] at hy2
  have HY1 := Lib.hid hy1
  have HY2 := Lib.hid hy2
  clear hy1 hy2 hT hU HI HN1 HN2 HL1 HL2 HQ1 HQ2 HOk HOk2 HBy HBy2
  have HCell := Lib.hid (show ∀ X, Below w2.heap.size w2 X → X.cell? ⟨w.heap.size, 0, none⟩ = some (.slice AV vec.length cv) ∧ X.cell? ⟨w.heap.size, 1, none⟩ = some (.slice A es.length c) ∧ X.cell? ⟨w.heap.size + 1, 0, none⟩ = some (.slice AV2 vec2.length cv2) ∧ X.cell? ⟨w.heap.size + 1, 1, none⟩ = some (.slice A2 es2.length c2) from fun X hX => ⟨(hX.cell (p := ⟨w.heap.size, 0, none⟩) (by show w.heap.size < _; omega)).trans (HP_13.out 0 (by simp)), (hX.cell (p := ⟨w.heap.size, 1, none⟩) (by show w.heap.size < _; omega)).trans (HP_13.out 1 (by simp)), (hX.cell (p := ⟨w.heap.size + 1, 0, none⟩) (by show w.heap.size + 1 < _; omega)).trans (HQ_14.out 0 (by simp)), (hX.cell (p := ⟨w.heap.size + 1, 1, none⟩) (by show w.heap.size + 1 < _; omega)).trans (HQ_14.out 1 (by simp))⟩)
  have lw0 : w.heap.size < w2.heap.size := by omega
  have lw1 : w.heap.size + 1 < w2.heap.size := by omega
  obtain ⟨x0, x1, x2, x3⟩ := HCell.out w2 (Below.refl _ _)
  go_wp2_with fail
  refine held_n (S := fun X => X.cell? ⟨w.heap.size, 0, none⟩ = some (.slice AV vec.length cv) ∧ X.cell? ⟨w.heap.size, 1, none⟩ = some (.slice A es.length c) ∧ X.cell? ⟨w.heap.size + 1, 0, none⟩ = some (.slice AV2 vec2.length cv2) ∧ X.cell? ⟨w.heap.size + 1, 1, none⟩ = some (.slice A2 es2.length c2)) 8 rfl (by kernel_rfl) ⟨x0, x1, x2, x3⟩ (fun hHeld => ?_)
  try dsimp only at hHeld
  refine wpAnyH_take (i := 0) (oi := _) (v := .agg #[.slice AV vec.length cv, .slice A es.length c]) rfl (by kernel_rfl) (by kernel_rfl) (by kernel_rfl) (fun _ _ _ h => h) (Or.inl ⟨by rfl, ?_⟩) (by assumption) ?_
  · intro w hSw
    (try dsimp only at hSw)
    go_simp
  refine put_at (d := 15) rfl ?_
  simp only [List.setIfInBounds_toArray, List.set_cons_zero, List.set_cons_succ]
  refine wpAnyH_take (i := 3) (oi := _) (v := .agg #[.slice AV2 vec2.length cv2, .slice A2 es2.length c2]) rfl (by kernel_rfl) (by kernel_rfl) (by kernel_rfl) (fun _ _ _ h => h) (Or.inl ⟨by rfl, ?_⟩) (by assumption) ?_
  · intro w hSw
    (try dsimp only at hSw)
    go_simp
  refine put_at (d := 18) rfl ?_
  simp only [List.setIfInBounds_toArray, List.set_cons_zero, List.set_cons_succ]
  refine wpAnyH_ready (rs := [1]) (by kernel_rfl) (by simp) ?_
  refine AllReadyH.cons rfl (fun K hK => ?_) AllReadyH.nil
  simp only [List.getElem_toArray, List.getElem_cons_succ, List.getElem_cons_zero]
  go_simp
  refine (HY1.out _ Hbel_12.out.drew).mono ?_
  rintro r u1 ⟨v1, rfl, hr1, hy1⟩
  obtain ⟨A1, c1, rfl, hfr1⟩ := hr1.fr
  have HB1 := Lib.hid (show Below w2.heap.size w2 u1 from (Below.refl _ _).drew.trans hy1)
  have HF1 := Lib.hid (hfr1.bytes.low (Nat.zero_le _) : BytesIn u1 0 u1.heap.size A1 T)
  have hcv1 := run_str HF1.out c1
  obtain ⟨y0, y1, y2, y3⟩ := HCell.out u1 HB1.out
  clear hy1 hr1 hfr1
  refine hK.out _ _ ⟨y0, y1, y2, y3⟩ (fun hHeld => ?_)
  clear hK K
  try dsimp only at hHeld
  refine wpAnyH_ready (rs := [2, 4]) (by kernel_rfl) (by simp) ?_
  refine AllReadyH.cons rfl (fun K hK => ?_) (AllReadyH.cons rfl (fun K hK => ?_) AllReadyH.nil)
  · simp only [List.getElem_toArray, List.getElem_cons_succ, List.getElem_cons_zero]
    go_simp
    refine hK.out _ _ ⟨y0, y1, y2, y3⟩ (fun hHeld => ?_)
    clear hK K
    try dsimp only at hHeld
    refine wpAnyH_ready (rs := [4]) (by kernel_rfl) (by simp) ?_
    refine AllReadyH.cons rfl (fun K hK => ?_) AllReadyH.nil
    simp only [List.getElem_toArray, List.getElem_cons_succ, List.getElem_cons_zero]
    go_simp
    refine (HY2.out _ (Hbel_12.out.trans (HB1.out.mono (by omega)))).mono ?_
    rintro r u2 ⟨v2, rfl, hr2, hy2⟩
    obtain ⟨A2', c2', rfl, hfr2⟩ := hr2.fr
    have HB2 := Lib.hid (show Below w2.heap.size w2 u2 from HB1.out.trans (hy2.mono HB1.out.size))
    have hcv2 := run_str hfr2.bytes c2'
    have hcv1b := run_str (HF1.out.keep fun p _ hp => hy2.cell hp : BytesIn u2 0 u1.heap.size A1 T) c1
    obtain ⟨z0, z1, z2, z3⟩ := HCell.out u2 HB2.out
    clear hy2 hr2 hfr2
    refine hK.out _ _ ⟨z0, z1, z2, z3⟩ (fun hHeld => ?_)
    clear hK K
    try dsimp only at hHeld
    refine wpAnyH_take (i := 6) (oi := _) (v := .string ⟨T.toArray⟩) rfl (by kernel_rfl) (by kernel_rfl) (by kernel_rfl) (fun _ _ _ h => h) (Or.inl ⟨by rfl, ?_⟩) (by assumption) ?_
    · intro w hSw
      (try dsimp only at hSw)
      go_simp
    refine put_at (d := 5) rfl ?_
    simp only [List.setIfInBounds_toArray, List.set_cons_zero, List.set_cons_succ]
    refine wpAnyH_ready (rs := [5]) (by kernel_rfl) (by simp) ?_
    refine AllReadyH.cons rfl (fun K hK => ?_) AllReadyH.nil
    simp only [List.getElem_toArray, List.getElem_cons_succ, List.getElem_cons_zero]
    go_simp
    refine hK.out _ _ ⟨z0, z1, z2, z3⟩ (fun hHeld => ?_)
    clear hK K
    try dsimp only at hHeld
    refine wpAnyH_take (i := 7) (oi := _) (v := .string ⟨U.toArray⟩) rfl (by kernel_rfl) (by kernel_rfl) (by kernel_rfl) (fun _ _ _ h => h) (Or.inl ⟨by rfl, ?_⟩) (by assumption) ?_
    · intro w hSw
      (try dsimp only at hSw)
      go_simp
    refine put_at (d := 6) rfl ?_
    simp only [List.setIfInBounds_toArray, List.set_cons_zero, List.set_cons_succ]
    refine wpAnyH_done (by kernel_rfl) ?_ _
    clear HCell hcv1 hcv2 hcv1b
    have HB9 := Lib.hid (Hbel_12.out.trans (HB2.out.mono (by omega)))
    rcases cmp_cases T U with ⟨h1, h2⟩ | ⟨h1, h2, h3⟩ | ⟨h0, h1, h3⟩
    · have HG := Lib.hid (show I = -1 by rw [HF.out]; exact h2)
      clear h2 HF
      go_wp2_with fail
      go_ret
      exact ⟨ret_int (a := -1) HG.out.symm, HB9.out⟩
    · have HG := Lib.hid (show I = 1 by rw [HF.out]; exact h3)
      clear h3 HF
      go_wp2_with fail
      go_ret
      exact ⟨ret_int (a := 1) HG.out.symm, HB9.out⟩
    · have HG := Lib.hid (show I = 0 by rw [HF.out]; exact h3)
      clear h3 HF
      subst h0
      go_wp2_with fail
      go_ret
      exact ⟨ret_int (a := 0) HG.out.symm, HB9.out⟩
  · simp only [List.getElem_toArray, List.getElem_cons_succ, List.getElem_cons_zero]
    go_simp
    refine (HY2.out _ (Hbel_12.out.trans (HB1.out.mono (by omega)))).mono ?_
    rintro r u2 ⟨v2, rfl, hr2, hy2⟩
    obtain ⟨A2', c2', rfl, hfr2⟩ := hr2.fr
    have HB2 := Lib.hid (show Below w2.heap.size w2 u2 from HB1.out.trans (hy2.mono HB1.out.size))
    have hcv2 := run_str hfr2.bytes c2'
    have hcv1b := run_str (HF1.out.keep fun p _ hp => hy2.cell hp : BytesIn u2 0 u1.heap.size A1 T) c1
    obtain ⟨z0, z1, z2, z3⟩ := HCell.out u2 HB2.out
    clear hy2 hr2 hfr2
    refine hK.out _ _ ⟨z0, z1, z2, z3⟩ (fun hHeld => ?_)
    clear hK K
    try dsimp only at hHeld
    refine wpAnyH_ready (rs := [2, 5]) (by kernel_rfl) (by simp) ?_
    refine AllReadyH.cons rfl (fun K hK => ?_) (AllReadyH.cons rfl (fun K hK => ?_) AllReadyH.nil)
    · simp only [List.getElem_toArray, List.getElem_cons_succ, List.getElem_cons_zero]
      go_simp
      refine hK.out _ _ ⟨z0, z1, z2, z3⟩ (fun hHeld => ?_)
      clear hK K
      try dsimp only at hHeld
      refine wpAnyH_take (i := 6) (oi := _) (v := .string ⟨T.toArray⟩) rfl (by kernel_rfl) (by kernel_rfl) (by kernel_rfl) (fun _ _ _ h => h) (Or.inl ⟨by rfl, ?_⟩) (by assumption) ?_
      · intro w hSw
        (try dsimp only at hSw)
        go_simp
      refine put_at (d := 5) rfl ?_
      simp only [List.setIfInBounds_toArray, List.set_cons_zero, List.set_cons_succ]
      refine wpAnyH_ready (rs := [5]) (by kernel_rfl) (by simp) ?_
      refine AllReadyH.cons rfl (fun K hK => ?_) AllReadyH.nil
      simp only [List.getElem_toArray, List.getElem_cons_succ, List.getElem_cons_zero]
      go_simp
      refine hK.out _ _ ⟨z0, z1, z2, z3⟩ (fun hHeld => ?_)
      clear hK K
      try dsimp only at hHeld
      refine wpAnyH_take (i := 7) (oi := _) (v := .string ⟨U.toArray⟩) rfl (by kernel_rfl) (by kernel_rfl) (by kernel_rfl) (fun _ _ _ h => h) (Or.inl ⟨by rfl, ?_⟩) (by assumption) ?_
      · intro w hSw
        (try dsimp only at hSw)
        go_simp
      refine put_at (d := 6) rfl ?_
      simp only [List.setIfInBounds_toArray, List.set_cons_zero, List.set_cons_succ]
      refine wpAnyH_done (by kernel_rfl) ?_ _
      clear HCell hcv1 hcv2 hcv1b
      have HB9 := Lib.hid (Hbel_12.out.trans (HB2.out.mono (by omega)))
      rcases cmp_cases T U with ⟨h1, h2⟩ | ⟨h1, h2, h3⟩ | ⟨h0, h1, h3⟩
      · have HG := Lib.hid (show I = -1 by rw [HF.out]; exact h2)
        clear h2 HF
        go_wp2_with fail
        go_ret
        exact ⟨ret_int (a := -1) HG.out.symm, HB9.out⟩
      · have HG := Lib.hid (show I = 1 by rw [HF.out]; exact h3)
        clear h3 HF
        go_wp2_with fail
        go_ret
        exact ⟨ret_int (a := 1) HG.out.symm, HB9.out⟩
      · have HG := Lib.hid (show I = 0 by rw [HF.out]; exact h3)
        clear h3 HF
        subst h0
        go_wp2_with fail
        go_ret
        exact ⟨ret_int (a := 0) HG.out.symm, HB9.out⟩
    · simp only [List.getElem_toArray, List.getElem_cons_succ, List.getElem_cons_zero]
      go_simp
      refine hK.out _ _ ⟨z0, z1, z2, z3⟩ (fun hHeld => ?_)
      clear hK K
      try dsimp only at hHeld
      refine wpAnyH_ready (rs := [2]) (by kernel_rfl) (by simp) ?_
      refine AllReadyH.cons rfl (fun K hK => ?_) AllReadyH.nil
      simp only [List.getElem_toArray, List.getElem_cons_succ, List.getElem_cons_zero]
      go_simp
      refine hK.out _ _ ⟨z0, z1, z2, z3⟩ (fun hHeld => ?_)
      clear hK K
      try dsimp only at hHeld
      refine wpAnyH_take (i := 6) (oi := _) (v := .string ⟨T.toArray⟩) rfl (by kernel_rfl) (by kernel_rfl) (by kernel_rfl) (fun _ _ _ h => h) (Or.inl ⟨by rfl, ?_⟩) (by assumption) ?_
      · intro w hSw
        (try dsimp only at hSw)
        go_simp
      refine put_at (d := 5) rfl ?_
      simp only [List.setIfInBounds_toArray, List.set_cons_zero, List.set_cons_succ]
      refine wpAnyH_take (i := 7) (oi := _) (v := .string ⟨U.toArray⟩) rfl (by kernel_rfl) (by kernel_rfl) (by kernel_rfl) (fun _ _ _ h => h) (Or.inl ⟨by rfl, ?_⟩) (by assumption) ?_
      · intro w hSw
        (try dsimp only at hSw)
        go_simp
      refine put_at (d := 6) rfl ?_
      simp only [List.setIfInBounds_toArray, List.set_cons_zero, List.set_cons_succ]
      refine wpAnyH_done (by kernel_rfl) ?_ _
      clear HCell hcv1 hcv2 hcv1b
      have HB9 := Lib.hid (Hbel_12.out.trans (HB2.out.mono (by omega)))
      rcases cmp_cases T U with ⟨h1, h2⟩ | ⟨h1, h2, h3⟩ | ⟨h0, h1, h3⟩
      · have HG := Lib.hid (show I = -1 by rw [HF.out]; exact h2)
        clear h2 HF
        go_wp2_with fail
        go_ret
        exact ⟨ret_int (a := -1) HG.out.symm, HB9.out⟩
      · have HG := Lib.hid (show I = 1 by rw [HF.out]; exact h3)
        clear h3 HF
        go_wp2_with fail
        go_ret
        exact ⟨ret_int (a := 1) HG.out.symm, HB9.out⟩
      · have HG := Lib.hid (show I = 0 by rw [HF.out]; exact h3)
        clear h3 HF
        subst h0
        go_wp2_with fail
        go_ret
        exact ⟨ret_int (a := 0) HG.out.symm, HB9.out⟩

end Go.Proofs.Ytblmhhijgdkkoaa
