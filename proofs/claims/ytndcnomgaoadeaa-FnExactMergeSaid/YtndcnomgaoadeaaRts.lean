/-
  Two trees, read.
-/
import Derived.Test.YtndcnomgaoadeaaRdTr
import Derived.Test.YtndcnomgaoadeaaPut
import Derived.StillTailTactics
import Derived.BigGuardPart
namespace Go.Proofs.Ytndcnomgaoadeaa
open Go.RowKit Go.Maps

theorem Bx.put_oth {w : World} {b b' o : Nat} {us vs : List Value} (h : Bx w b us) (hne : b ≠ b') : Bx (putAll b' o vs w) b us := fun j hj => (putAll_other hne).trans (h j hj)
theorem Bx.drewo {w : World} {b : Nat} {us : List Value} (h : Bx w b us) : Bx w.drew b us := h
theorem EvsIn.drewo {w : World} {L B : Nat} {A : Option Addr} {es : List En} (h : EvsIn w L B A es) : EvsIn w.drew L B A es := h

/-- Two trees, read. -/
def RdTrs (vec : List Int) (es : List En) (vec2 : List Int) (es2 : List En) (w : World) (e : Ending) (w' : World) : Prop :=
  ∃ (x0 x1 x2 x3 : Int) (E1 : Option Addr) (n1 k1 : Nat) (y0 y1 y2 y3 : Int) (E2 : Option Addr) (n2 k2 : Nat),
    e = .returned (.tuple #[.agg #[.int .i64 x0, .int .i64 x1, .int .i64 x2, .int .i64 x3, .slice E1 n1 k1], .agg #[.int .i64 y0, .int .i64 y1, .int .i64 y2, .int .i64 y3, .slice E2 n2 k2], .bool (treeB vec es && treeB vec2 es2)]) ∧
    (treeB vec es = true → vec = [x0, x1, x2, x3] ∧ n1 = es.length ∧ EvsIn w' w.heap.size w'.heap.size E1 es) ∧ (treeB vec2 es2 = true → vec2 = [y0, y1, y2, y3] ∧ n2 = es2.length ∧ EvsIn w' w.heap.size w'.heap.size E2 es2) ∧ Below w.heap.size w w'

set_option maxRecDepth 100000 in
set_option maxHeartbeats 4000000 in
theorem readTrees_any (AV : Option Addr) (vec : List Int) (cv : Nat) (A : Option Addr) (es : List En) (c : Nat) (AV2 : Option Addr) (vec2 : List Int) (cv2 : Nat) (A2 : Option Addr) (es2 : List En) (c2 : Nat) (w : World) (hV : IntsIn w 0 w.heap.size AV vec) (hA : EnsIn w 0 w.heap.size A es) (_hv : vec.length ≤ 1048576) (hn : es.length ≤ 1048576) (hbk : ebulk es ≤ 1048576) (hV2 : IntsIn w 0 w.heap.size AV2 vec2) (hA2 : EnsIn w 0 w.heap.size A2 es2) (_hv2 : vec2.length ≤ 1048576) (hn2 : es2.length ≤ 1048576) (hbk2 : ebulk es2 ≤ 1048576) :
    Calls Try.prog 39 #[.agg #[.slice AV vec.length cv, .slice A es.length c], .agg #[.slice AV2 vec2.length cv2, .slice A2 es2.length c2]] w (RdTrs vec es vec2 es2 w) := by
  have HRd1 := Lib.hid (fun W (hX : Below w.heap.size w W) => readTree_any AV vec cv A es c W ((hV.keep fun p _ hp => hX.cell hp).mono hX.size) ((hA.below hX).mono hX.size) hn hbk)
  have HRd2 := Lib.hid (fun W (hX : Below w.heap.size w W) => readTree_any AV2 vec2 cv2 A2 es2 c2 W ((hV2.keep fun p _ hp => hX.cell hp).mono hX.size) ((hA2.below hX).mono hX.size) hn2 hbk2)
  clear hV hA hV2 hA2
  go_enter Try.func39, Try.ntmps39
  go_wp2_with fail
  obtain ⟨W1_0, hW1_0⟩ : ∃ x, x = w.alloc (.cells #[.slice AV vec.length cv, .slice A es.length c] 30) := ⟨_, rfl⟩
  obtain ⟨W1_1, hW1_1⟩ : ∃ x, x = W1_0.alloc (.cells #[.slice AV2 vec2.length cv2, .slice A2 es2.length c2] 30) := ⟨_, rfl⟩
  obtain ⟨W1_2, hW1_2⟩ : ∃ x, x = W1_1.alloc (.cells #[.int .i64 0, .int .i64 0, .int .i64 0, .int .i64 0, .slice none 0 0] 54) := ⟨_, rfl⟩
  obtain ⟨W1_3, hW1_3⟩ : ∃ x, x = W1_2.alloc (.cells #[.int .i64 0, .int .i64 0, .int .i64 0, .int .i64 0, .slice none 0 0] 54) := ⟨_, rfl⟩
  have hZ1_0 : W1_0.heap.size = w.heap.size + 1 := by rw [hW1_0]; simp
  have hZ1_1 : W1_1.heap.size = w.heap.size + 2 := by rw [hW1_1]; simp [hZ1_0]
  have hZ1_2 : W1_2.heap.size = w.heap.size + 3 := by rw [hW1_2]; simp [hZ1_1]
  have hZ1_3 : W1_3.heap.size = w.heap.size + 4 := by rw [hW1_3]; simp [hZ1_2]
  have hx0 : Bx W1_0 (w.heap.size) [.slice AV vec.length cv, .slice A es.length c] := by rw [hW1_0]; exact Bx.new' _ _ _ _ rfl
  replace hx0 : Bx W1_1 (w.heap.size) [.slice AV vec.length cv, .slice A es.length c] := by rw [hW1_1]; exact hx0.alloc (by omega) _
  replace hx0 : Bx W1_2 (w.heap.size) [.slice AV vec.length cv, .slice A es.length c] := by rw [hW1_2]; exact hx0.alloc (by omega) _
  replace hx0 : Bx W1_3 (w.heap.size) [.slice AV vec.length cv, .slice A es.length c] := by rw [hW1_3]; exact hx0.alloc (by omega) _
  have hx1 : Bx W1_1 (w.heap.size + 1) [.slice AV2 vec2.length cv2, .slice A2 es2.length c2] := by rw [hW1_1, ← hZ1_0]; exact Bx.new' _ _ _ _ rfl
  replace hx1 : Bx W1_2 (w.heap.size + 1) [.slice AV2 vec2.length cv2, .slice A2 es2.length c2] := by rw [hW1_2]; exact hx1.alloc (by omega) _
  replace hx1 : Bx W1_3 (w.heap.size + 1) [.slice AV2 vec2.length cv2, .slice A2 es2.length c2] := by rw [hW1_3]; exact hx1.alloc (by omega) _
  have hx2 : Bx W1_2 (w.heap.size + 2) [.int .i64 0, .int .i64 0, .int .i64 0, .int .i64 0, .slice none 0 0] := by rw [hW1_2, ← hZ1_1]; exact Bx.new' _ _ _ _ rfl
  replace hx2 : Bx W1_3 (w.heap.size + 2) [.int .i64 0, .int .i64 0, .int .i64 0, .int .i64 0, .slice none 0 0] := by rw [hW1_3]; exact hx2.alloc (by omega) _
  have hx3 : Bx W1_3 (w.heap.size + 3) [.int .i64 0, .int .i64 0, .int .i64 0, .int .i64 0, .slice none 0 0] := by rw [hW1_3, ← hZ1_2]; exact Bx.new' _ _ _ _ rfl
  have hb0 : Below w.heap.size w W1_3 := by rw [hW1_3, hW1_2, hW1_1, hW1_0]; exact (((((Below.refl _ _).alloc (by first | exact Nat.le_refl _ | (simp; done) | (simp; omega)) _).alloc (by first | exact Nat.le_refl _ | (simp; done) | (simp; omega)) _).alloc (by first | exact Nat.le_refl _ | (simp; done) | (simp; omega)) _).alloc (by first | exact Nat.le_refl _ | (simp; done) | (simp; omega)) _)
  have hf2 : ∀ o, W1_3.frozen? ⟨w.heap.size + 2, o, none⟩ = false := fun o => by rw [hW1_3, hW1_2, hW1_1, hW1_0]; exact (((((Fresh.refl w).alloc _ _).alloc _ _).alloc _ _).alloc _ _) ⟨w.heap.size + 2, o, none⟩ (by show w.heap.size ≤ w.heap.size + 2; omega)
  have hf3 : ∀ o, W1_3.frozen? ⟨w.heap.size + 3, o, none⟩ = false := fun o => by rw [hW1_3, hW1_2, hW1_1, hW1_0]; exact (((((Fresh.refl w).alloc _ _).alloc _ _).alloc _ _).alloc _ _) ⟨w.heap.size + 3, o, none⟩ (by show w.heap.size ≤ w.heap.size + 3; omega)
  have hlt : w.heap.size + 3 < W1_3.heap.size := by omega
  rw [← hW1_0, ← hW1_1, ← hW1_2, ← hW1_3]
  clear hW1_0 hZ1_0 hW1_1 hZ1_1 hW1_2 hZ1_2 hW1_3 hZ1_3
  have z_2 := hb0.size
  have Hbel_3 := Lib.hid (hb0)
  have HP_4 := Lib.hid (hx0)
  have HQ_5 := Lib.hid (hx1)
  have HS_6 := Lib.hid (hx2)
  have HSF_7 := Lib.hid (hf2)
  clear hf2
  have HT_8 := Lib.hid (hx3)
  have HTF_9 := Lib.hid (hf3)
  clear hf3
  clear hb0 hx0 hx1 hx2 hx3
  have hl_10 := hlt
  clear hlt
  have hW0 : W1_3.heap.size ≤ W1_3.heap.size := Nat.le_refl _
  refine (HRd1.out W1_3 Hbel_3.out).mono ?_
  rintro e w1 ⟨x0, x1, x2, x3, E1, n1, k1, rfl, htr, hb⟩
  have z_11 := hb.size
  have Hbel_12 := Lib.hid (Hbel_3.out.trans (hb.mono (by omega)))
  have HQ_13 := Lib.hid (HQ_5.out.below hb (by omega))
  have HS_14 := Lib.hid (HS_6.out.below hb (by omega))
  have HSF_15 := Lib.hid (show ∀ o, w1.frozen? ⟨w.heap.size + 2, o, none⟩ = false from fun o => (hb.frozen (p := ⟨w.heap.size + 2, o, none⟩) (by show w.heap.size + 2 < _; omega)).trans (HSF_7.out o))
  have HT_16 := Lib.hid (HT_8.out.below hb (by omega))
  have HTF_17 := Lib.hid (show ∀ o, w1.frozen? ⟨w.heap.size + 3, o, none⟩ = false from fun o => (hb.frozen (p := ⟨w.heap.size + 3, o, none⟩) (by show w.heap.size + 3 < _; omega)).trans (HTF_9.out o))
  clear Hbel_3 HP_4 HQ_5 HS_6 HSF_7 HT_8 HTF_9
  have Htr0_18 := Lib.hid (show (treeB vec es = true → vec = [x0, x1, x2, x3] ∧ n1 = es.length ∧ EvsIn w1 W1_3.heap.size w1.heap.size E1 es) from fun h => ⟨(htr h).1, (htr h).2.1, (htr h).2.2.low (by omega)⟩)
  clear hb
  obtain ⟨b1, hb1⟩ : ∃ b, b = treeB vec es := ⟨_, rfl⟩
  have HB1 := Lib.hid hb1
  rw [← hb1]
  clear hb1 htr HRd1
  have qQ_0 := HQ_13.out 0 (by simp)
  have qQ_1 := HQ_13.out 1 (by simp)
  have lQ : w.heap.size + 1 < w1.heap.size := by omega
  simp only [List.getElem_cons_succ, List.getElem_cons_zero] at qQ_0 qQ_1
  go_wp2_with fail
  clear qQ_0 qQ_1 lQ
  obtain ⟨W19_0, hW19_0⟩ : ∃ x, x = w1.alloc (.cells #[.int .i64 x0, .int .i64 x1, .int .i64 x2, .int .i64 x3, .slice E1 n1 k1] 54) := ⟨_, rfl⟩
  have hZ19_0 : W19_0.heap.size = w1.heap.size + 1 := by rw [hW19_0]; simp
  have hx0 : Bx W19_0 (w1.heap.size) [.int .i64 x0, .int .i64 x1, .int .i64 x2, .int .i64 x3, .slice E1 n1 k1] := by rw [hW19_0]; exact Bx.new' _ _ _ _ rfl
  have hb0 : Below w1.heap.size w1 W19_0 := by rw [hW19_0]; exact ((Below.refl _ _).alloc (by first | exact Nat.le_refl _ | (simp; done) | (simp; omega)) _)
  have hlt : w1.heap.size + 0 < W19_0.heap.size := by omega
  rw [← hW19_0]
  clear hW19_0 hZ19_0
  have z_20 := hb0.size
  have Hbel_21 := Lib.hid (Hbel_12.out.trans (hb0.mono (by omega)))
  have HQ_22 := Lib.hid (HQ_13.out.below hb0 (by omega))
  have HS_23 := Lib.hid (HS_14.out.below hb0 (by omega))
  have HSF_24 := Lib.hid (show ∀ o, W19_0.frozen? ⟨w.heap.size + 2, o, none⟩ = false from fun o => (hb0.frozen (p := ⟨w.heap.size + 2, o, none⟩) (by show w.heap.size + 2 < _; omega)).trans (HSF_15.out o))
  have HT_25 := Lib.hid (HT_16.out.below hb0 (by omega))
  have HTF_26 := Lib.hid (show ∀ o, W19_0.frozen? ⟨w.heap.size + 3, o, none⟩ = false from fun o => (hb0.frozen (p := ⟨w.heap.size + 3, o, none⟩) (by show w.heap.size + 3 < _; omega)).trans (HTF_17.out o))
  have Htr0_27 := Lib.hid (show (treeB vec es = true → vec = [x0, x1, x2, x3] ∧ n1 = es.length ∧ EvsIn W19_0 W1_3.heap.size W19_0.heap.size E1 es) from fun h => ⟨(Htr0_18.out h).1, (Htr0_18.out h).2.1, (((Htr0_18.out h).2.2.below hb0).mono hb0.size)⟩)
  clear Hbel_12 HQ_13 HS_14 HSF_15 HT_16 HTF_17 Htr0_18
  have HX_28 := Lib.hid (hx0)
  clear hb0 hx0
  have hl_29 := hlt
  clear hlt
  refine (HRd2.out W19_0 Hbel_21.out).mono ?_
  rintro e w2 ⟨y0, y1, y2, y3, E2, n2, k2, rfl, htr, hb⟩
  have z_30 := hb.size
  have Hbel_31 := Lib.hid (Hbel_21.out.trans (hb.mono (by omega)))
  have HS_32 := Lib.hid (HS_23.out.below hb (by omega))
  have HSF_33 := Lib.hid (show ∀ o, w2.frozen? ⟨w.heap.size + 2, o, none⟩ = false from fun o => (hb.frozen (p := ⟨w.heap.size + 2, o, none⟩) (by show w.heap.size + 2 < _; omega)).trans (HSF_24.out o))
  have HT_34 := Lib.hid (HT_25.out.below hb (by omega))
  have HTF_35 := Lib.hid (show ∀ o, w2.frozen? ⟨w.heap.size + 3, o, none⟩ = false from fun o => (hb.frozen (p := ⟨w.heap.size + 3, o, none⟩) (by show w.heap.size + 3 < _; omega)).trans (HTF_26.out o))
  have Htr0_36 := Lib.hid (show (treeB vec es = true → vec = [x0, x1, x2, x3] ∧ n1 = es.length ∧ EvsIn w2 W1_3.heap.size w2.heap.size E1 es) from fun h => ⟨(Htr0_27.out h).1, (Htr0_27.out h).2.1, (((Htr0_27.out h).2.2.below hb).mono hb.size)⟩)
  have HX_37 := Lib.hid (HX_28.out.below hb (by omega))
  clear Hbel_21 HQ_22 HS_23 HSF_24 HT_25 HTF_26 Htr0_27 HX_28
  have Htr1_38 := Lib.hid (show (treeB vec2 es2 = true → vec2 = [y0, y1, y2, y3] ∧ n2 = es2.length ∧ EvsIn w2 W1_3.heap.size w2.heap.size E2 es2) from fun h => ⟨(htr h).1, (htr h).2.1, (htr h).2.2.low (by omega)⟩)
  clear hb
  obtain ⟨b2, hb2⟩ : ∃ b, b = treeB vec2 es2 := ⟨_, rfl⟩
  have HB2 := Lib.hid hb2
  rw [← hb2]
  clear hb2 htr HRd2
  go_wp2_with fail
  obtain ⟨W39_0, hW39_0⟩ : ∃ x, x = w2.alloc (.cells #[.int .i64 y0, .int .i64 y1, .int .i64 y2, .int .i64 y3, .slice E2 n2 k2] 54) := ⟨_, rfl⟩
  have hZ39_0 : W39_0.heap.size = w2.heap.size + 1 := by rw [hW39_0]; simp
  have hx0 : Bx W39_0 (w2.heap.size) [.int .i64 y0, .int .i64 y1, .int .i64 y2, .int .i64 y3, .slice E2 n2 k2] := by rw [hW39_0]; exact Bx.new' _ _ _ _ rfl
  have hb0 : Below w2.heap.size w2 W39_0 := by rw [hW39_0]; exact ((Below.refl _ _).alloc (by first | exact Nat.le_refl _ | (simp; done) | (simp; omega)) _)
  have hlt : w2.heap.size + 0 < W39_0.heap.size := by omega
  rw [← hW39_0]
  clear hW39_0 hZ39_0
  have z_40 := hb0.size
  have Hbel_41 := Lib.hid (Hbel_31.out.trans (hb0.mono (by omega)))
  have HS_42 := Lib.hid (HS_32.out.below hb0 (by omega))
  have HSF_43 := Lib.hid (show ∀ o, W39_0.frozen? ⟨w.heap.size + 2, o, none⟩ = false from fun o => (hb0.frozen (p := ⟨w.heap.size + 2, o, none⟩) (by show w.heap.size + 2 < _; omega)).trans (HSF_33.out o))
  have HT_44 := Lib.hid (HT_34.out.below hb0 (by omega))
  have HTF_45 := Lib.hid (show ∀ o, W39_0.frozen? ⟨w.heap.size + 3, o, none⟩ = false from fun o => (hb0.frozen (p := ⟨w.heap.size + 3, o, none⟩) (by show w.heap.size + 3 < _; omega)).trans (HTF_35.out o))
  have Htr0_46 := Lib.hid (show (treeB vec es = true → vec = [x0, x1, x2, x3] ∧ n1 = es.length ∧ EvsIn W39_0 W1_3.heap.size W39_0.heap.size E1 es) from fun h => ⟨(Htr0_36.out h).1, (Htr0_36.out h).2.1, (((Htr0_36.out h).2.2.below hb0).mono hb0.size)⟩)
  have HX_47 := Lib.hid (HX_37.out.below hb0 (by omega))
  have Htr1_48 := Lib.hid (show (treeB vec2 es2 = true → vec2 = [y0, y1, y2, y3] ∧ n2 = es2.length ∧ EvsIn W39_0 W1_3.heap.size W39_0.heap.size E2 es2) from fun h => ⟨(Htr1_38.out h).1, (Htr1_38.out h).2.1, (((Htr1_38.out h).2.2.below hb0).mono hb0.size)⟩)
  clear Hbel_31 HS_32 HSF_33 HT_34 HTF_35 Htr0_36 HX_37 Htr1_38
  have HY_49 := Lib.hid (hx0)
  clear hb0 hx0
  have hl_50 := hlt
  clear hlt
  have hp1 : W1_3.heap.size ≤ W39_0.heap.size := by omega
  have HFin := Lib.hid (show ∃ W9 : World, W9 = (putAll (w.heap.size + 1 + 1 + 1) 0 [.int .i64 y0, .int .i64 y1, .int .i64 y2, .int .i64 y3, .slice E2 n2 k2] (putAll (w.heap.size + 1 + 1) 0 [.int .i64 x0, .int .i64 x1, .int .i64 x2, .int .i64 x3, .slice E1 n1 k1] W39_0)).drew ∧ (W9.cell? ⟨w.heap.size + 1 + 1, 0, none⟩ = some (.int .i64 x0) ∧ W9.cell? ⟨w.heap.size + 1 + 1, 1, none⟩ = some (.int .i64 x1) ∧ W9.cell? ⟨w.heap.size + 1 + 1, 2, none⟩ = some (.int .i64 x2) ∧ W9.cell? ⟨w.heap.size + 1 + 1, 3, none⟩ = some (.int .i64 x3) ∧ W9.cell? ⟨w.heap.size + 1 + 1, 4, none⟩ = some (.slice E1 n1 k1) ∧ W9.cell? ⟨w.heap.size + 1 + 1 + 1, 0, none⟩ = some (.int .i64 y0) ∧ W9.cell? ⟨w.heap.size + 1 + 1 + 1, 1, none⟩ = some (.int .i64 y1) ∧ W9.cell? ⟨w.heap.size + 1 + 1 + 1, 2, none⟩ = some (.int .i64 y2) ∧ W9.cell? ⟨w.heap.size + 1 + 1 + 1, 3, none⟩ = some (.int .i64 y3) ∧ W9.cell? ⟨w.heap.size + 1 + 1 + 1, 4, none⟩ = some (.slice E2 n2 k2)) ∧ (treeB vec es = true → vec = [x0, x1, x2, x3] ∧ n1 = es.length ∧ EvsIn W9 w.heap.size W9.heap.size E1 es) ∧ (treeB vec2 es2 = true → vec2 = [y0, y1, y2, y3] ∧ n2 = es2.length ∧ EvsIn W9 w.heap.size W9.heap.size E2 es2) ∧ Below w.heap.size w W9 from by
    have h4 := (((putAll_bx (vs := [.int .i64 x0, .int .i64 x1, .int .i64 x2, .int .i64 x3, .slice E1 n1 k1]) HS_42.out rfl).put_oth (b' := w.heap.size + 1 + 1 + 1) (o := 0) (vs := [.int .i64 y0, .int .i64 y1, .int .i64 y2, .int .i64 y3, .slice E2 n2 k2]) (by omega))).drewo
    have h5 := (putAll_bx (vs := [.int .i64 y0, .int .i64 y1, .int .i64 y2, .int .i64 y3, .slice E2 n2 k2]) ((HT_44.out).put_oth (b' := w.heap.size + 1 + 1) (o := 0) (vs := [.int .i64 x0, .int .i64 x1, .int .i64 x2, .int .i64 x3, .slice E1 n1 k1]) (by omega)) rfl).drewo
    refine ⟨_, rfl, ⟨h4 0 (by simp), h4 1 (by simp), h4 2 (by simp), h4 3 (by simp), h4 4 (by simp), h5 0 (by simp), h5 1 (by simp), h5 2 (by simp), h5 3 (by simp), h5 4 (by simp)⟩, fun h => ?_, fun h => ?_, ?_⟩
    · obtain ⟨h1, h2, h6⟩ := Htr0_46.out h
      exact ⟨h1, h2, (((h6.keep fun q hq _ => ((putAll_other (by omega)).trans (putAll_other (by omega)))).low (by omega)).mono (by simp [putAll_size])).drewo⟩
    · obtain ⟨h1, h2, h6⟩ := Htr1_48.out h
      exact ⟨h1, h2, (((h6.keep fun q hq _ => ((putAll_other (by omega)).trans (putAll_other (by omega)))).low (by omega)).mono (by simp [putAll_size])).drewo⟩
    · exact (putAll_below (putAll_below Hbel_41.out (by omega)) (by omega)).drew)
  have qX_0 := HX_47.out 0 (by simp)
  have qX_1 := HX_47.out 1 (by simp)
  have qX_2 := HX_47.out 2 (by simp)
  have qX_3 := HX_47.out 3 (by simp)
  have qX_4 := HX_47.out 4 (by simp)
  have lX : w1.heap.size < W39_0.heap.size := by omega
  have qY_0 := HY_49.out 0 (by simp)
  have qY_1 := HY_49.out 1 (by simp)
  have qY_2 := HY_49.out 2 (by simp)
  have qY_3 := HY_49.out 3 (by simp)
  have qY_4 := HY_49.out 4 (by simp)
  have lY : w2.heap.size < W39_0.heap.size := by omega
  have qS_0 := HS_42.out 0 (by simp)
  have qS_1 := HS_42.out 1 (by simp)
  have qS_2 := HS_42.out 2 (by simp)
  have qS_3 := HS_42.out 3 (by simp)
  have qS_4 := HS_42.out 4 (by simp)
  have lS : w.heap.size + 2 < W39_0.heap.size := by omega
  have qT_0 := HT_44.out 0 (by simp)
  have qT_1 := HT_44.out 1 (by simp)
  have qT_2 := HT_44.out 2 (by simp)
  have qT_3 := HT_44.out 3 (by simp)
  have qT_4 := HT_44.out 4 (by simp)
  have lT : w.heap.size + 3 < W39_0.heap.size := by omega
  have fSF_0 := HSF_43.out 0
  have fSF_1 := HSF_43.out 1
  have fSF_2 := HSF_43.out 2
  have fSF_3 := HSF_43.out 3
  have fSF_4 := HSF_43.out 4
  have fTF_0 := HTF_45.out 0
  have fTF_1 := HTF_45.out 1
  have fTF_2 := HTF_45.out 2
  have fTF_3 := HTF_45.out 3
  have fTF_4 := HTF_45.out 4
  simp only [List.getElem_cons_succ, List.getElem_cons_zero] at qX_0 qX_1 qX_2 qX_3 qX_4 qY_0 qY_1 qY_2 qY_3 qY_4 qS_0 qS_1 qS_2 qS_3 qS_4 qT_0 qT_1 qT_2 qT_3 qT_4
  have hne3 : w.heap.size + 2 ≠ w.heap.size + 3 := by omega
  cases b1 with
  | false =>
    go_big_region
    go_wp2_with fail
    obtain ⟨W9, hW9, ⟨cc0, cc1, cc2, cc3, cc4, cc5, cc6, cc7, cc8, cc9⟩, ht9, hu9, hb9⟩ := HFin.out
    simp only [putAll] at hW9
    rw [← hW9]
    refine bodyPost_ret (v := .tuple #[.agg #[.int .i64 x0, .int .i64 x1, .int .i64 x2, .int .i64 x3, .slice E1 n1 k1], .agg #[.int .i64 y0, .int .i64 y1, .int .i64 y2, .int .i64 y3, .slice E2 n2 k2], .bool false]) (by simp [results, Try.results39, cc0, cc1, cc2, cc3, cc4, cc5, cc6, cc7, cc8, cc9, go_sem]) rfl ?_
    refine ⟨x0, x1, x2, x3, E1, n1, k1, y0, y1, y2, y3, E2, n2, k2, ?_, ht9, hu9, hb9⟩
    rw [← HB1.out]; rfl
  | true =>
  go_big_region
  go_wp2_with fail
  obtain ⟨W9, hW9, ⟨cc0, cc1, cc2, cc3, cc4, cc5, cc6, cc7, cc8, cc9⟩, ht9, hu9, hb9⟩ := HFin.out
  simp only [putAll] at hW9
  rw [← hW9]
  refine bodyPost_ret (v := .tuple #[.agg #[.int .i64 x0, .int .i64 x1, .int .i64 x2, .int .i64 x3, .slice E1 n1 k1], .agg #[.int .i64 y0, .int .i64 y1, .int .i64 y2, .int .i64 y3, .slice E2 n2 k2], .bool b2]) (by simp [results, Try.results39, cc0, cc1, cc2, cc3, cc4, cc5, cc6, cc7, cc8, cc9, go_sem]) rfl ?_
  refine ⟨x0, x1, x2, x3, E1, n1, k1, y0, y1, y2, y3, E2, n2, k2, ?_, ht9, hu9, hb9⟩
  rw [← HB1.out, ← HB2.out]; rfl

end Go.Proofs.Ytndcnomgaoadeaa
