/-
  The law on Merge, walked: it answers true, and turns nothing that was there.
-/
import Derived.Test.YtndcnomgaoadeaaTrM
import Derived.Test.YtndcnomgaoadeaaGMgC
import Derived.Test.YtndcnomgaoadeaaLwz
import Derived.Deep.RegionHeld3
namespace Go.Proofs.Ytndcnomgaoadeaa
open Go.RowKit Go.Maps

set_option maxRecDepth 100000 in
set_option maxHeartbeats 8000000 in
theorem lawMerge_any (AV : Option Addr) (vec : List Int) (cv : Nat) (A : Option Addr) (es : List En) (c : Nat) (AV2 : Option Addr) (vec2 : List Int) (cv2 : Nat) (A2 : Option Addr) (es2 : List En) (c2 : Nat) (w : World) (hVA : IntsIn w 0 w.heap.size AV vec) (hEA : EnsIn w 0 w.heap.size A es) (nVA : vec.length ≤ 9223372036854775807) (nEA : es.length ≤ 9223372036854775807) (nBA : ∀ i (hi : i < es.length), es[i].name.length ≤ 9223372036854775807) (hVA2 : IntsIn w 0 w.heap.size AV2 vec2) (hEA2 : EnsIn w 0 w.heap.size A2 es2) (nVA2 : vec2.length ≤ 9223372036854775807) (nEA2 : es2.length ≤ 9223372036854775807) (nBA2 : ∀ i (hi : i < es2.length), es2[i].name.length ≤ 9223372036854775807) :
    Calls Try.prog 4 #[.agg #[.slice AV vec.length cv, .slice A es.length c], .agg #[.slice AV2 vec2.length cv2, .slice A2 es2.length c2]] w fun e w' => e = .returned (.bool true) ∧ Below w.heap.size w w' := by
  have HVA := Lib.hid hVA
  have HEA := Lib.hid hEA
  have HnBA := Lib.hid nBA
  have HVA2 := Lib.hid hVA2
  have HEA2 := Lib.hid hEA2
  have HnBA2 := Lib.hid nBA2
  have HBel := Lib.hid (Below.refl w.heap.size w)
  clear hVA hEA nBA hVA2 hEA2 nBA2
  have z0 : w.heap.size ≤ w.heap.size := Nat.le_refl _
  go_enter Try.func4, Try.ntmps4
  go_wp2_with fail
  obtain ⟨v1, hw1⟩ : ∃ x, x = w.alloc (.cells #[.slice AV vec.length cv, .slice A es.length c] 25) := ⟨_, rfl⟩
  have hbx : Below w.heap.size w v1 := by rw [hw1]; exact (Below.refl _ _).alloc (Nat.le_refl _) _
  have z1 : w.heap.size < v1.heap.size := by rw [hw1]; simp
  have HEs1 := Lib.hid (show v1.heap.size = w.heap.size + 1 by rw [hw1]; simp)
  have HNb1 := Lib.hid (show Bx v1 (w.heap.size) [.slice AV vec.length cv, .slice A es.length c] by rw [hw1]; exact Bx.new' _ _ _ _ rfl)
  rw [← hw1]
  clear hw1
  have HVA_1 := Lib.hid (HVA.out.keep fun p _ hp => hbx.cell (by omega))
  have HEA_1 := Lib.hid (HEA.out.keep fun p _ hp => hbx.cell (by omega))
  have HVA2_1 := Lib.hid (HVA2.out.keep fun p _ hp => hbx.cell (by omega))
  have HEA2_1 := Lib.hid (HEA2.out.keep fun p _ hp => hbx.cell (by omega))
  have Hbel_1 := Lib.hid (HBel.out.trans (hbx.mono (by omega)))
  clear HVA HEA HVA2 HEA2 HBel
  clear hbx
  obtain ⟨v2, hw2⟩ : ∃ x, x = v1.alloc (.cells #[.slice AV2 vec2.length cv2, .slice A2 es2.length c2] 25) := ⟨_, rfl⟩
  have hbx : Below v1.heap.size v1 v2 := by rw [hw2]; exact (Below.refl _ _).alloc (Nat.le_refl _) _
  have z2 : v1.heap.size < v2.heap.size := by rw [hw2]; simp
  have HEs2 := Lib.hid (show v2.heap.size = w.heap.size + 1 + 1 by rw [hw2, ← HEs1.out]; simp)
  have HNb2 := Lib.hid (show Bx v2 (w.heap.size + 1) [.slice AV2 vec2.length cv2, .slice A2 es2.length c2] by rw [hw2, ← HEs1.out]; exact Bx.new' _ _ _ _ rfl)
  have hat2 : w.heap.size + 1 = v1.heap.size := HEs1.out.symm
  rw [← hw2]
  clear hw2
  have HVA_2 := Lib.hid (HVA_1.out.keep fun p _ hp => hbx.cell (by omega))
  have HEA_2 := Lib.hid (HEA_1.out.keep fun p _ hp => hbx.cell (by omega))
  have HVA2_2 := Lib.hid (HVA2_1.out.keep fun p _ hp => hbx.cell (by omega))
  have HEA2_2 := Lib.hid (HEA2_1.out.keep fun p _ hp => hbx.cell (by omega))
  have Hbel_2 := Lib.hid (Hbel_1.out.trans (hbx.mono (by omega)))
  have HBA_2 := Lib.hid (HNb1.out.below hbx (by omega))
  clear HVA_1 HEA_1 HVA2_1 HEA2_1 Hbel_1 HNb1
  clear hbx
  have hlt2 : w.heap.size + 1 < v2.heap.size := by omega
  clear hat2
  refine (szTree_any AV vec cv A es c _ v2 (HEA_2.out.mono (by omega)) nVA nEA HnBA.out (by omega) (by omega)).mono ?_
  rintro e v3 ⟨r3, rfl, hsz, hb⟩
  have z3 := hb.size
  have HS3 := Lib.hid hsz
  have HVA_3 := Lib.hid (HVA_2.out.keep fun p _ hp => hb.cell (by omega))
  have HEA_3 := Lib.hid (HEA_2.out.keep fun p _ hp => hb.cell (by omega))
  have HVA2_3 := Lib.hid (HVA2_2.out.keep fun p _ hp => hb.cell (by omega))
  have HEA2_3 := Lib.hid (HEA2_2.out.keep fun p _ hp => hb.cell (by omega))
  have Hbel_3 := Lib.hid (Hbel_2.out.trans (hb.mono (by omega)))
  have HBA_3 := Lib.hid (HBA_2.out.below hb (by omega))
  have HBA2_3 := Lib.hid (HNb2.out.below hb (by omega))
  clear HVA_2 HEA_2 HVA2_2 HEA2_2 Hbel_2 HBA_2 HNb2
  clear hb hsz
  by_cases hr3 : r3 < 0
  · go_wp2_with fail
    all_goals go_ret
    all_goals exact ⟨rfl, Hbel_3.out⟩
  have hp3 : 0 ≤ r3 := by omega
  have hs3 : r3 + (vec.length + (es.length + ebulk es)) ≤ 1048576 := by have := HS3.out; unfold SzOk at this; omega
  have hvlA : vec.length ≤ 1048576 := by omega
  have helA : es.length ≤ 1048576 := by omega
  have hblA : ebulk es ≤ 1048576 := by omega
  have hmoA : mo es ≤ 4194304 := by unfold mo; omega
  have hrl3 : r3 ≤ 1048576 := by omega
  clear hr3 HS3 hs3
  have qBA2_0 := HBA2_3.out 0 (by simp)
  have qBA2_1 := HBA2_3.out 1 (by simp)
  simp only [List.getElem_cons_succ, List.getElem_cons_zero] at qBA2_0 qBA2_1
  have lqBA2 : w.heap.size + 1 < v3.heap.size := by omega
  go_wp2_with fail
  refine (szTree_any AV2 vec2 cv2 A2 es2 c2 _ v3 (HEA2_3.out.mono (by omega)) nVA2 nEA2 HnBA2.out (by omega) (by omega)).mono ?_
  rintro e v4 ⟨r4, rfl, hsz, hb⟩
  have z4 := hb.size
  have HS4 := Lib.hid hsz
  have HVA_4 := Lib.hid (HVA_3.out.keep fun p _ hp => hb.cell (by omega))
  have HEA_4 := Lib.hid (HEA_3.out.keep fun p _ hp => hb.cell (by omega))
  have HVA2_4 := Lib.hid (HVA2_3.out.keep fun p _ hp => hb.cell (by omega))
  have HEA2_4 := Lib.hid (HEA2_3.out.keep fun p _ hp => hb.cell (by omega))
  have Hbel_4 := Lib.hid (Hbel_3.out.trans (hb.mono (by omega)))
  have HBA_4 := Lib.hid (HBA_3.out.below hb (by omega))
  have HBA2_4 := Lib.hid (HBA2_3.out.below hb (by omega))
  clear qBA2_0 qBA2_1 lqBA2
  clear HVA_3 HEA_3 HVA2_3 HEA2_3 Hbel_3 HBA_3 HBA2_3
  clear hb hsz
  by_cases hr4 : r4 < 0
  · go_wp2_with fail
    all_goals go_ret
    all_goals exact ⟨rfl, Hbel_4.out⟩
  have hp4 : 0 ≤ r4 := by omega
  have hs4 : r4 + (vec2.length + (es2.length + ebulk es2)) ≤ 1048576 := by have := HS4.out; unfold SzOk at this; omega
  have hvlA2 : vec2.length ≤ 1048576 := by omega
  have helA2 : es2.length ≤ 1048576 := by omega
  have hblA2 : ebulk es2 ≤ 1048576 := by omega
  have hmoA2 : mo es2 ≤ 4194304 := by unfold mo; omega
  have hrl4 : r4 ≤ 1048576 := by omega
  clear hr4 HS4 hs4
  have qBA_0 := HBA_4.out 0 (by simp)
  have qBA_1 := HBA_4.out 1 (by simp)
  have qBA2_0 := HBA2_4.out 0 (by simp)
  have qBA2_1 := HBA2_4.out 1 (by simp)
  simp only [List.getElem_cons_succ, List.getElem_cons_zero] at qBA_0 qBA_1 qBA2_0 qBA2_1
  have lqBA : w.heap.size < v4.heap.size := by omega
  have lqBA2 : w.heap.size + 1 < v4.heap.size := by omega
  have HC5 := Lib.hid (show ∀ X, Sw v4 X → X.cell? ⟨w.heap.size, 0, none⟩ = some (.slice AV vec.length cv) ∧ X.cell? ⟨w.heap.size, 1, none⟩ = some (.slice A es.length c) ∧ X.cell? ⟨w.heap.size + 1, 0, none⟩ = some (.slice AV2 vec2.length cv2) ∧ X.cell? ⟨w.heap.size + 1, 1, none⟩ = some (.slice A2 es2.length c2) from fun X hX => ⟨(Below.cell hX (p := ⟨w.heap.size, 0, none⟩) lqBA).trans qBA_0, (Below.cell hX (p := ⟨w.heap.size, 1, none⟩) lqBA).trans qBA_1, (Below.cell hX (p := ⟨w.heap.size + 1, 0, none⟩) lqBA2).trans qBA2_0, (Below.cell hX (p := ⟨w.heap.size + 1, 1, none⟩) lqBA2).trans qBA2_1⟩)
  go_upto_region 8 with fail
  go_cut [6, 7] from 27 to 35 (fun s6 s7 wx => ∃ (bz : Nat) (AVs : Option Addr) (cvs : Nat) (As : Option Addr) (cs : Nat), s6 = .pointer (some ⟨bz, 0, none⟩) ∧ s7 = .bool (mgOk vec es vec2 es2) ∧ v4.heap.size ≤ bz ∧ bz < wx.heap.size ∧ wx.cell? ⟨bz, 0, none⟩ = some (.slice AVs (mgVec vec es vec2 es2 : List Int).length cvs) ∧ wx.cell? ⟨bz, 1, none⟩ = some (.slice As (mgEs vec es vec2 es2 : List En).length cs) ∧ TrOwn wx v4.heap.size wx.heap.size AVs (mgVec vec es vec2 es2) As (mgEs vec es vec2 es2) ∧ Sw v4 wx)
  case first =>
    have mk0 : True := trivial
    have mk1 : True := trivial
    go_region_held3 (fun X => X.cell? ⟨w.heap.size, 0, none⟩ = some (.slice AV vec.length cv) ∧ X.cell? ⟨w.heap.size, 1, none⟩ = some (.slice A es.length c) ∧ X.cell? ⟨w.heap.size + 1, 0, none⟩ = some (.slice AV2 vec2.length cv2) ∧ X.cell? ⟨w.heap.size + 1, 1, none⟩ = some (.slice A2 es2.length c2))
      (first | (refine HC5.out _ ?_; repeat first | with_reducible exact Sw.refl _ | with_reducible exact HS0.out | with_reducible exact HS1.out | with_reducible exact HS2.out | with_reducible apply Sw.drew | with_reducible apply Sw.alloc | with_reducible refine Sw.set ?_ (by first | exact Nat.le_refl _ | omega) _))
      (first
        | (clear mk0; go_at_call 7
           refine (toTree_own AV vec cv A es c _ ((HVA_4.out.keep fun p _ hp => ?_).mono ?_) ((HEA_4.out.keep fun p _ hp => ?_).mono ?_) hvlA helA hblA).mono ?_
           · refine Below.cell (w := v4) (B := v4.heap.size) ?_ (by omega)
             show Sw v4 _
             repeat first | with_reducible exact Sw.refl _ | with_reducible exact HS0.out | with_reducible exact HS1.out | with_reducible exact HS2.out | with_reducible apply Sw.drew | with_reducible apply Sw.alloc | with_reducible refine Sw.set ?_ (by first | exact Nat.le_refl _ | omega) _
           · refine Nat.le_trans (show w.heap.size ≤ v4.heap.size by omega) (Below.size (w := v4) (B := v4.heap.size) ?_)
             show Sw v4 _
             repeat first | with_reducible exact Sw.refl _ | with_reducible exact HS0.out | with_reducible exact HS1.out | with_reducible exact HS2.out | with_reducible apply Sw.drew | with_reducible apply Sw.alloc | with_reducible refine Sw.set ?_ (by first | exact Nat.le_refl _ | omega) _
           · refine Below.cell (w := v4) (B := v4.heap.size) ?_ (by omega)
             show Sw v4 _
             repeat first | with_reducible exact Sw.refl _ | with_reducible exact HS0.out | with_reducible exact HS1.out | with_reducible exact HS2.out | with_reducible apply Sw.drew | with_reducible apply Sw.alloc | with_reducible refine Sw.set ?_ (by first | exact Nat.le_refl _ | omega) _
           · refine Nat.le_trans (show w.heap.size ≤ v4.heap.size by omega) (Below.size (w := v4) (B := v4.heap.size) ?_)
             show Sw v4 _
             repeat first | with_reducible exact Sw.refl _ | with_reducible exact HS0.out | with_reducible exact HS1.out | with_reducible exact HS2.out | with_reducible apply Sw.drew | with_reducible apply Sw.alloc | with_reducible refine Sw.set ?_ (by first | exact Nat.le_refl _ | omega) _
           rintro e y0 ⟨gvy0, gey0, rfl, _, hown0, hbp0⟩
           have HS0 := Lib.hid (show Sw v4 y0 from Sw.below (by repeat first | with_reducible exact Sw.refl _ | with_reducible exact HS0.out | with_reducible exact HS1.out | with_reducible exact HS2.out | with_reducible apply Sw.drew | with_reducible apply Sw.alloc | with_reducible refine Sw.set ?_ (by first | exact Nat.le_refl _ | omega) _) hbp0)
           have hzs0 := Below.size HS0.out
           have HMc0_0 := Lib.hid (show TrOwn y0 v4.heap.size y0.heap.size (some ⟨gvy0, 0, none⟩) vec (some ⟨gey0, 0, none⟩) es from hown0.mono (Below.size (show Sw v4 _ from by repeat first | with_reducible exact Sw.refl _ | with_reducible exact HS0.out | with_reducible exact HS1.out | with_reducible exact HS2.out | with_reducible apply Sw.drew | with_reducible apply Sw.alloc | with_reducible refine Sw.set ?_ (by first | exact Nat.le_refl _ | omega) _)) (Nat.le_refl _))
           try (have HZ := Lib.hid (Zbx.at hbp0))
           try (have HZ := Lib.hid (Zbx.at' hbp0))
           try (have HZ := Lib.hid (Zbx.at2 hbp0))
           try (have hzl0 := HZ.out.lt)
           obtain ⟨s0_0, s0_1, s0_2, s0_3⟩ := HC5.out y0 HS0.out
           have lzBA_0 : w.heap.size < y0.heap.size := by omega
           have lzBA2_0 : w.heap.size + 1 < y0.heap.size := by omega
           clear hown0 hbp0)
        | (clear mk1; go_at_call 7
           refine (toTree_own AV2 vec2 cv2 A2 es2 c2 _ ((HVA2_4.out.keep fun p _ hp => ?_).mono ?_) ((HEA2_4.out.keep fun p _ hp => ?_).mono ?_) hvlA2 helA2 hblA2).mono ?_
           · refine Below.cell (w := v4) (B := v4.heap.size) ?_ (by omega)
             show Sw v4 _
             repeat first | with_reducible exact Sw.refl _ | with_reducible exact HS0.out | with_reducible exact HS1.out | with_reducible exact HS2.out | with_reducible apply Sw.drew | with_reducible apply Sw.alloc | with_reducible refine Sw.set ?_ (by first | exact Nat.le_refl _ | omega) _
           · refine Nat.le_trans (show w.heap.size ≤ v4.heap.size by omega) (Below.size (w := v4) (B := v4.heap.size) ?_)
             show Sw v4 _
             repeat first | with_reducible exact Sw.refl _ | with_reducible exact HS0.out | with_reducible exact HS1.out | with_reducible exact HS2.out | with_reducible apply Sw.drew | with_reducible apply Sw.alloc | with_reducible refine Sw.set ?_ (by first | exact Nat.le_refl _ | omega) _
           · refine Below.cell (w := v4) (B := v4.heap.size) ?_ (by omega)
             show Sw v4 _
             repeat first | with_reducible exact Sw.refl _ | with_reducible exact HS0.out | with_reducible exact HS1.out | with_reducible exact HS2.out | with_reducible apply Sw.drew | with_reducible apply Sw.alloc | with_reducible refine Sw.set ?_ (by first | exact Nat.le_refl _ | omega) _
           · refine Nat.le_trans (show w.heap.size ≤ v4.heap.size by omega) (Below.size (w := v4) (B := v4.heap.size) ?_)
             show Sw v4 _
             repeat first | with_reducible exact Sw.refl _ | with_reducible exact HS0.out | with_reducible exact HS1.out | with_reducible exact HS2.out | with_reducible apply Sw.drew | with_reducible apply Sw.alloc | with_reducible refine Sw.set ?_ (by first | exact Nat.le_refl _ | omega) _
           rintro e y1 ⟨gvy1, gey1, rfl, _, hown1, hbp1⟩
           have HS1 := Lib.hid (show Sw v4 y1 from Sw.below (by repeat first | with_reducible exact Sw.refl _ | with_reducible exact HS0.out | with_reducible exact HS1.out | with_reducible exact HS2.out | with_reducible apply Sw.drew | with_reducible apply Sw.alloc | with_reducible refine Sw.set ?_ (by first | exact Nat.le_refl _ | omega) _) hbp1)
           have hzs1 := Below.size HS1.out
           have HMc1_1 := Lib.hid (show TrOwn y1 v4.heap.size y1.heap.size (some ⟨gvy1, 0, none⟩) vec2 (some ⟨gey1, 0, none⟩) es2 from hown1.mono (Below.size (show Sw v4 _ from by repeat first | with_reducible exact Sw.refl _ | with_reducible exact HS0.out | with_reducible exact HS1.out | with_reducible exact HS2.out | with_reducible apply Sw.drew | with_reducible apply Sw.alloc | with_reducible refine Sw.set ?_ (by first | exact Nat.le_refl _ | omega) _)) (Nat.le_refl _))
           have HW1 := Lib.hid (show Sw y0 y1 from Sw.below (by repeat first | with_reducible exact Sw.refl _ | with_reducible apply Sw.drew | with_reducible apply Sw.alloc) hbp1)
           have hzw1 := Below.size HW1.out
           have HMc0_1 := Lib.hid (show TrOwn y1 v4.heap.size y0.heap.size (some ⟨gvy0, 0, none⟩) vec (some ⟨gey0, 0, none⟩) es from HMc0_0.out.keep fun p hp hq => ⟨Below.cell HW1.out (by omega), Below.frozen HW1.out (by omega)⟩)
           try (have HZ := Lib.hid (Zbx.below HZ.out (Sw.below (by repeat first | with_reducible exact Sw.refl _ | with_reducible apply Sw.drew | with_reducible apply Sw.alloc) hbp1)))
           try (have HZ := Lib.hid (Zbx.at hbp1))
           try (have HZ := Lib.hid (Zbx.at' hbp1))
           try (have HZ := Lib.hid (Zbx.at2 hbp1))
           try (have hzl1 := HZ.out.lt)
           obtain ⟨s1_0, s1_1, s1_2, s1_3⟩ := HC5.out y1 HS1.out
           have lzBA_1 : w.heap.size < y1.heap.size := by omega
           have lzBA2_1 : w.heap.size + 1 < y1.heap.size := by omega
           clear hown1 hbp1)
        | (go_at_call 15
           refine (specMerge_any (some ⟨gvy0, 0, none⟩) vec vec.length (some ⟨gey0, 0, none⟩) es es.length (some ⟨gvy1, 0, none⟩) vec2 vec2.length (some ⟨gey1, 0, none⟩) es2 es2.length _ (((HMc0_1.out.vecIn.ints.keep fun p _ hp => ?_).low (Nat.zero_le _)).mono ?_) (((HMc0_1.out.ensIn.ens.keep fun p _ hp => ?_).low (Nat.zero_le _)).mono ?_) hvlA helA hblA (((HMc1_1.out.vecIn.ints.keep fun p _ hp => ?_).low (Nat.zero_le _)).mono ?_) (((HMc1_1.out.ensIn.ens.keep fun p _ hp => ?_).low (Nat.zero_le _)).mono ?_) hvlA2 helA2 hblA2).mono ?_
           · refine Below.cell (w := y1) (B := y1.heap.size) ?_ (by omega)
             show Sw y1 _
             repeat first | with_reducible exact Sw.refl _ | with_reducible apply Sw.drew | with_reducible apply Sw.alloc
           · refine Nat.le_trans (show _ ≤ y1.heap.size by omega) (Below.size (w := y1) (B := y1.heap.size) ?_)
             show Sw y1 _
             repeat first | with_reducible exact Sw.refl _ | with_reducible apply Sw.drew | with_reducible apply Sw.alloc
           · refine Below.cell (w := y1) (B := y1.heap.size) ?_ (by omega)
             show Sw y1 _
             repeat first | with_reducible exact Sw.refl _ | with_reducible apply Sw.drew | with_reducible apply Sw.alloc
           · refine Nat.le_trans (show _ ≤ y1.heap.size by omega) (Below.size (w := y1) (B := y1.heap.size) ?_)
             show Sw y1 _
             repeat first | with_reducible exact Sw.refl _ | with_reducible apply Sw.drew | with_reducible apply Sw.alloc
           · refine Below.cell (w := y1) (B := y1.heap.size) ?_ (by omega)
             show Sw y1 _
             repeat first | with_reducible exact Sw.refl _ | with_reducible apply Sw.drew | with_reducible apply Sw.alloc
           · refine Nat.le_trans (show _ ≤ y1.heap.size by omega) (Below.size (w := y1) (B := y1.heap.size) ?_)
             show Sw y1 _
             repeat first | with_reducible exact Sw.refl _ | with_reducible apply Sw.drew | with_reducible apply Sw.alloc
           · refine Below.cell (w := y1) (B := y1.heap.size) ?_ (by omega)
             show Sw y1 _
             repeat first | with_reducible exact Sw.refl _ | with_reducible apply Sw.drew | with_reducible apply Sw.alloc
           · refine Nat.le_trans (show _ ≤ y1.heap.size by omega) (Below.size (w := y1) (B := y1.heap.size) ?_)
             show Sw y1 _
             repeat first | with_reducible exact Sw.refl _ | with_reducible apply Sw.drew | with_reducible apply Sw.alloc
           rintro e y2 ⟨AVs, cvs, As, cs, rfl, howns, _, hbp2⟩
           have HS2 := Lib.hid (show Sw v4 y2 from Sw.below (by repeat first | with_reducible exact Sw.refl _ | with_reducible exact HS0.out | with_reducible exact HS1.out | with_reducible exact HS2.out | with_reducible apply Sw.drew | with_reducible apply Sw.alloc | with_reducible refine Sw.set ?_ (by first | exact Nat.le_refl _ | omega) _) hbp2)
           have hzs2 := Below.size HS2.out
           have HOs := Lib.hid howns
           try (have HZ := Lib.hid (Zbx.below HZ.out (Sw.below (by repeat first | with_reducible exact Sw.refl _ | with_reducible apply Sw.drew | with_reducible apply Sw.alloc) hbp2)))
           try (have HZ := Lib.hid (Zbx.at hbp2))
           try (have HZ := Lib.hid (Zbx.at' hbp2))
           try (have HZ := Lib.hid (Zbx.at2 hbp2))
           try (obtain ⟨zc0, zc1, zf0, zf1, zlt⟩ := HZ.out)
           clear howns hbp2))
    all_goals go_wp2_with fail
    all_goals go_meet
    all_goals
      refine ⟨_, AVs, cvs, As, cs, rfl, rfl, ?_, ?_, ?_, ?_, ?_, ?_⟩
      · first | exact hzs2 | omega
      · first | (have h := HZ.out.lt; simpa using h) | (simp; done)
      · first | exact (two_get HZ.out.c0 HZ.out.c1).1 | (simp; done)
      · first | exact (two_get HZ.out.c0 HZ.out.c1).2 | (simp; done)
      · first
          | (have hZ := HZ.out
             refine (trOwn_beside HOs.out ?_ _ _).mono ?_ ?_
             · first | omega | (simp; done) | (simp; omega)
             · exact Below.size (show Sw v4 _ from by repeat first | with_reducible exact Sw.refl _ | with_reducible exact HS0.out | with_reducible exact HS1.out | with_reducible exact HS2.out | with_reducible apply Sw.drew | with_reducible apply Sw.alloc | with_reducible refine Sw.set ?_ (by first | exact Nat.le_refl _ | omega) _)
             · simp)
          | (refine (HOs.out.keep fun p _ hp => ⟨World.cell?_alloc_lt _ _ _ hp, World.frozen?_of_block (heap_alloc_old _ _ hp)⟩).mono ?_ ?_
             · exact Below.size (show Sw v4 _ from by repeat first | with_reducible exact Sw.refl _ | with_reducible exact HS0.out | with_reducible exact HS1.out | with_reducible exact HS2.out | with_reducible apply Sw.drew | with_reducible apply Sw.alloc | with_reducible refine Sw.set ?_ (by first | exact Nat.le_refl _ | omega) _)
             · simp)
      · first
          | (have hZ := HZ.out
             exact Sw.set (Sw.set HS2.out (by first | exact Nat.le_refl _ | omega) _) (by first | exact Nat.le_refl _ | omega) _)
          | exact Sw.alloc HS2.out _
  case rest =>
  obtain ⟨bz5, AV5, cv5, A5, c5, rfl, rfl, hbz5, hbl5, t0, t1, hown, hb⟩ := hcut
  rename World => v5
  have z5 := Below.size hb
  have HN5 := Lib.hid hown
  have HNb5 := Lib.hid (bx_of2 t0 t1)
  replace hb : Below v4.heap.size v4 v5 := hb
  clear HC5 t0 t1
  have HVA_5 := Lib.hid (HVA_4.out.keep fun p _ hp => hb.cell (by omega))
  have HEA_5 := Lib.hid (HEA_4.out.keep fun p _ hp => hb.cell (by omega))
  have HVA2_5 := Lib.hid (HVA2_4.out.keep fun p _ hp => hb.cell (by omega))
  have HEA2_5 := Lib.hid (HEA2_4.out.keep fun p _ hp => hb.cell (by omega))
  have Hbel_5 := Lib.hid (Hbel_4.out.trans (hb.mono (by omega)))
  have HBA_5 := Lib.hid (HBA_4.out.below hb (by omega))
  have HBA2_5 := Lib.hid (HBA2_4.out.below hb (by omega))
  clear qBA_0 qBA_1 qBA2_0 qBA2_1 lqBA lqBA2
  clear HVA_4 HEA_4 HVA2_4 HEA2_4 Hbel_4 HBA_4 HBA2_4
  clear hb hown
  have qBA_0 := HBA_5.out 0 (by simp)
  have qBA_1 := HBA_5.out 1 (by simp)
  simp only [List.getElem_cons_succ, List.getElem_cons_zero] at qBA_0 qBA_1
  have lqBA : w.heap.size < v5.heap.size := by omega
  go_wp2_with fail
  refine (toTree_own AV vec cv A es c v5 (HVA_5.out.mono (by omega)) (HEA_5.out.mono (by omega)) hvlA helA hblA).mono ?_
  rintro e v6 ⟨gv6, ge6, rfl, _, hown, hb⟩
  have z6 := hb.size
  have HN6 := Lib.hid hown
  have HVA_6 := Lib.hid (HVA_5.out.keep fun p _ hp => hb.cell (by omega))
  have HEA_6 := Lib.hid (HEA_5.out.keep fun p _ hp => hb.cell (by omega))
  have HVA2_6 := Lib.hid (HVA2_5.out.keep fun p _ hp => hb.cell (by omega))
  have HEA2_6 := Lib.hid (HEA2_5.out.keep fun p _ hp => hb.cell (by omega))
  have Hbel_6 := Lib.hid (Hbel_5.out.trans (hb.mono (by omega)))
  have HBA_6 := Lib.hid (HBA_5.out.below hb (by omega))
  have HBA2_6 := Lib.hid (HBA2_5.out.below hb (by omega))
  have HS_6 := Lib.hid (HN5.out.keep fun p hp hq => ⟨hb.cell (by omega), hb.frozen (by omega)⟩)
  have HSb_6 := Lib.hid (HNb5.out.below hb (by omega))
  clear qBA_0 qBA_1 lqBA
  clear HVA_5 HEA_5 HVA2_5 HEA2_5 Hbel_5 HBA_5 HBA2_5 HN5 HNb5
  clear hb hown
  have qBA2_0 := HBA2_6.out 0 (by simp)
  have qBA2_1 := HBA2_6.out 1 (by simp)
  simp only [List.getElem_cons_succ, List.getElem_cons_zero] at qBA2_0 qBA2_1
  have lqBA2 : w.heap.size + 1 < v6.heap.size := by omega
  go_wp2_with fail
  obtain ⟨v7, hw7⟩ : ∃ x, x = v6.alloc (.cells #[.slice (some ⟨gv6, 0, none⟩) vec.length vec.length, .slice (some ⟨ge6, 0, none⟩) es.length es.length] 30) := ⟨_, rfl⟩
  have hbx : Below v6.heap.size v6 v7 := by rw [hw7]; exact (Below.refl _ _).alloc (Nat.le_refl _) _
  have z7 : v6.heap.size < v7.heap.size := by rw [hw7]; simp
  have HNb7 := Lib.hid (show Bx v7 (v6.heap.size) [.slice (some ⟨gv6, 0, none⟩) vec.length vec.length, .slice (some ⟨ge6, 0, none⟩) es.length es.length] by rw [hw7]; exact Bx.new' _ _ _ _ rfl)
  rw [← hw7]
  clear hw7
  have HVA_7 := Lib.hid (HVA_6.out.keep fun p _ hp => hbx.cell (by omega))
  have HEA_7 := Lib.hid (HEA_6.out.keep fun p _ hp => hbx.cell (by omega))
  have HVA2_7 := Lib.hid (HVA2_6.out.keep fun p _ hp => hbx.cell (by omega))
  have HEA2_7 := Lib.hid (HEA2_6.out.keep fun p _ hp => hbx.cell (by omega))
  have Hbel_7 := Lib.hid (Hbel_6.out.trans (hbx.mono (by omega)))
  have HBA_7 := Lib.hid (HBA_6.out.below hbx (by omega))
  have HBA2_7 := Lib.hid (HBA2_6.out.below hbx (by omega))
  have HS_7 := Lib.hid (HS_6.out.keep fun p hp hq => ⟨hbx.cell (by omega), hbx.frozen (by omega)⟩)
  have HSb_7 := Lib.hid (HSb_6.out.below hbx (by omega))
  have HX0_7 := Lib.hid (HN6.out.keep fun p hp hq => ⟨hbx.cell (by omega), hbx.frozen (by omega)⟩)
  clear qBA2_0 qBA2_1 lqBA2
  clear HVA_6 HEA_6 HVA2_6 HEA2_6 Hbel_6 HBA_6 HBA2_6 HS_6 HSb_6 HN6
  clear hbx
  refine (toTree_own AV2 vec2 cv2 A2 es2 c2 v7 (HVA2_7.out.mono (by omega)) (HEA2_7.out.mono (by omega)) hvlA2 helA2 hblA2).mono ?_
  rintro e v8 ⟨gv8, ge8, rfl, _, hown, hb⟩
  have z8 := hb.size
  have HN8 := Lib.hid hown
  have HVA_8 := Lib.hid (HVA_7.out.keep fun p _ hp => hb.cell (by omega))
  have HEA_8 := Lib.hid (HEA_7.out.keep fun p _ hp => hb.cell (by omega))
  have HVA2_8 := Lib.hid (HVA2_7.out.keep fun p _ hp => hb.cell (by omega))
  have HEA2_8 := Lib.hid (HEA2_7.out.keep fun p _ hp => hb.cell (by omega))
  have Hbel_8 := Lib.hid (Hbel_7.out.trans (hb.mono (by omega)))
  have HBA_8 := Lib.hid (HBA_7.out.below hb (by omega))
  have HBA2_8 := Lib.hid (HBA2_7.out.below hb (by omega))
  have HS_8 := Lib.hid (HS_7.out.keep fun p hp hq => ⟨hb.cell (by omega), hb.frozen (by omega)⟩)
  have HSb_8 := Lib.hid (HSb_7.out.below hb (by omega))
  have HX0_8 := Lib.hid (HX0_7.out.keep fun p hp hq => ⟨hb.cell (by omega), hb.frozen (by omega)⟩)
  have HX0b_8 := Lib.hid (HNb7.out.below hb (by omega))
  clear HVA_7 HEA_7 HVA2_7 HEA2_7 Hbel_7 HBA_7 HBA2_7 HS_7 HSb_7 HX0_7 HNb7
  clear hb hown
  have qX0b_0 := HX0b_8.out 0 (by simp)
  have qX0b_1 := HX0b_8.out 1 (by simp)
  simp only [List.getElem_cons_succ, List.getElem_cons_zero] at qX0b_0 qX0b_1
  have lqX0b : v6.heap.size < v8.heap.size := by omega
  go_wp2_with fail
  obtain ⟨v9, hw9⟩ : ∃ x, x = v8.alloc (.cells #[.slice (some ⟨gv8, 0, none⟩) vec2.length vec2.length, .slice (some ⟨ge8, 0, none⟩) es2.length es2.length] 30) := ⟨_, rfl⟩
  have hbx : Below v8.heap.size v8 v9 := by rw [hw9]; exact (Below.refl _ _).alloc (Nat.le_refl _) _
  have z9 : v8.heap.size < v9.heap.size := by rw [hw9]; simp
  have HNb9 := Lib.hid (show Bx v9 (v8.heap.size) [.slice (some ⟨gv8, 0, none⟩) vec2.length vec2.length, .slice (some ⟨ge8, 0, none⟩) es2.length es2.length] by rw [hw9]; exact Bx.new' _ _ _ _ rfl)
  rw [← hw9]
  clear hw9
  have HVA_9 := Lib.hid (HVA_8.out.keep fun p _ hp => hbx.cell (by omega))
  have HEA_9 := Lib.hid (HEA_8.out.keep fun p _ hp => hbx.cell (by omega))
  have HVA2_9 := Lib.hid (HVA2_8.out.keep fun p _ hp => hbx.cell (by omega))
  have HEA2_9 := Lib.hid (HEA2_8.out.keep fun p _ hp => hbx.cell (by omega))
  have Hbel_9 := Lib.hid (Hbel_8.out.trans (hbx.mono (by omega)))
  have HBA_9 := Lib.hid (HBA_8.out.below hbx (by omega))
  have HBA2_9 := Lib.hid (HBA2_8.out.below hbx (by omega))
  have HS_9 := Lib.hid (HS_8.out.keep fun p hp hq => ⟨hbx.cell (by omega), hbx.frozen (by omega)⟩)
  have HSb_9 := Lib.hid (HSb_8.out.below hbx (by omega))
  have HX0_9 := Lib.hid (HX0_8.out.keep fun p hp hq => ⟨hbx.cell (by omega), hbx.frozen (by omega)⟩)
  have HX0b_9 := Lib.hid (HX0b_8.out.below hbx (by omega))
  have HX1_9 := Lib.hid (HN8.out.keep fun p hp hq => ⟨hbx.cell (by omega), hbx.frozen (by omega)⟩)
  clear qX0b_0 qX0b_1 lqX0b
  clear HVA_8 HEA_8 HVA2_8 HEA2_8 Hbel_8 HBA_8 HBA2_8 HS_8 HSb_8 HX0_8 HX0b_8 HN8
  clear hbx
  refine (implMerge_any (some ⟨gv6, 0, none⟩) vec vec.length (some ⟨ge6, 0, none⟩) es es.length (some ⟨gv8, 0, none⟩) vec2 vec2.length (some ⟨ge8, 0, none⟩) es2 es2.length v9 ((HX0_9.out.vecIn.ints.low (Nat.zero_le _)).mono (by omega)) ((HX0_9.out.ensIn.ens.low (Nat.zero_le _)).mono (by omega)) hvlA helA hblA ((HX1_9.out.vecIn.ints.low (Nat.zero_le _)).mono (by omega)) ((HX1_9.out.ensIn.ens.low (Nat.zero_le _)).mono (by omega)) hvlA2 helA2 hblA2).mono ?_
  rintro e v10 ⟨AV10, cv10, A10, c10, rfl, hown, _, hb⟩
  have z10 := hb.size
  have HN10 := Lib.hid hown
  have HVA_10 := Lib.hid (HVA_9.out.keep fun p _ hp => hb.cell (by omega))
  have HEA_10 := Lib.hid (HEA_9.out.keep fun p _ hp => hb.cell (by omega))
  have HVA2_10 := Lib.hid (HVA2_9.out.keep fun p _ hp => hb.cell (by omega))
  have HEA2_10 := Lib.hid (HEA2_9.out.keep fun p _ hp => hb.cell (by omega))
  have Hbel_10 := Lib.hid (Hbel_9.out.trans (hb.mono (by omega)))
  have HBA_10 := Lib.hid (HBA_9.out.below hb (by omega))
  have HBA2_10 := Lib.hid (HBA2_9.out.below hb (by omega))
  have HS_10 := Lib.hid (HS_9.out.keep fun p hp hq => ⟨hb.cell (by omega), hb.frozen (by omega)⟩)
  have HSb_10 := Lib.hid (HSb_9.out.below hb (by omega))
  have HX0_10 := Lib.hid (HX0_9.out.keep fun p hp hq => ⟨hb.cell (by omega), hb.frozen (by omega)⟩)
  have HX0b_10 := Lib.hid (HX0b_9.out.below hb (by omega))
  have HX1_10 := Lib.hid (HX1_9.out.keep fun p hp hq => ⟨hb.cell (by omega), hb.frozen (by omega)⟩)
  have HX1b_10 := Lib.hid (HNb9.out.below hb (by omega))
  clear HVA_9 HEA_9 HVA2_9 HEA2_9 Hbel_9 HBA_9 HBA2_9 HS_9 HSb_9 HX0_9 HX0b_9 HX1_9 HNb9
  clear hb hown
  have qSb_0 := HSb_10.out 0 (by simp)
  have qSb_1 := HSb_10.out 1 (by simp)
  simp only [List.getElem_cons_succ, List.getElem_cons_zero] at qSb_0 qSb_1
  have lqSb : bz5 < v10.heap.size := by omega
  go_wp2_with fail
  obtain ⟨v11, hw11⟩ : ∃ x, x = v10.alloc (.cells #[.slice AV10 (mgVec vec es vec2 es2 : List Int).length cv10, .slice A10 (mgEs vec es vec2 es2 : List En).length c10] 30) := ⟨_, rfl⟩
  have hbx : Below v10.heap.size v10 v11 := by rw [hw11]; exact (Below.refl _ _).alloc (Nat.le_refl _) _
  have z11 : v10.heap.size < v11.heap.size := by rw [hw11]; simp
  have HNb11 := Lib.hid (show Bx v11 (v10.heap.size) [.slice AV10 (mgVec vec es vec2 es2 : List Int).length cv10, .slice A10 (mgEs vec es vec2 es2 : List En).length c10] by rw [hw11]; exact Bx.new' _ _ _ _ rfl)
  rw [← hw11]
  clear hw11
  have HVA_11 := Lib.hid (HVA_10.out.keep fun p _ hp => hbx.cell (by omega))
  have HEA_11 := Lib.hid (HEA_10.out.keep fun p _ hp => hbx.cell (by omega))
  have HVA2_11 := Lib.hid (HVA2_10.out.keep fun p _ hp => hbx.cell (by omega))
  have HEA2_11 := Lib.hid (HEA2_10.out.keep fun p _ hp => hbx.cell (by omega))
  have Hbel_11 := Lib.hid (Hbel_10.out.trans (hbx.mono (by omega)))
  have HBA_11 := Lib.hid (HBA_10.out.below hbx (by omega))
  have HBA2_11 := Lib.hid (HBA2_10.out.below hbx (by omega))
  have HS_11 := Lib.hid (HS_10.out.keep fun p hp hq => ⟨hbx.cell (by omega), hbx.frozen (by omega)⟩)
  have HSb_11 := Lib.hid (HSb_10.out.below hbx (by omega))
  have HX0_11 := Lib.hid (HX0_10.out.keep fun p hp hq => ⟨hbx.cell (by omega), hbx.frozen (by omega)⟩)
  have HX0b_11 := Lib.hid (HX0b_10.out.below hbx (by omega))
  have HX1_11 := Lib.hid (HX1_10.out.keep fun p hp hq => ⟨hbx.cell (by omega), hbx.frozen (by omega)⟩)
  have HX1b_11 := Lib.hid (HX1b_10.out.below hbx (by omega))
  have HR_11 := Lib.hid (HN10.out.keep fun p hp hq => ⟨hbx.cell (by omega), hbx.frozen (by omega)⟩)
  clear qSb_0 qSb_1 lqSb
  clear HVA_10 HEA_10 HVA2_10 HEA2_10 Hbel_10 HBA_10 HBA2_10 HS_10 HSb_10 HX0_10 HX0b_10 HX1_10 HX1b_10 HN10
  clear hbx
  have hcmp : ((mgOk vec es vec2 es2) != (mgOk vec es vec2 es2)) = false := by simp
  have hrA : (mgVec vec es vec2 es2).length ≤ 1048576 ∧ mo (mgEs vec es vec2 es2) ≤ 4194304 := bd_mo mgVec_len mgEs_len mgEs_bulk
  have hrA1 := hrA.1
  have hrA2 := hrA.2
  clear hrA
  refine (eqTree_same AV10 AV5 A10 A5 (mgVec vec es vec2 es2 : List Int) (mgEs vec es vec2 es2 : List En) cv10 cv5 c10 c5 v9.heap.size v4.heap.size v10.heap.size v5.heap.size v11 HR_11.out HS_11.out (by omega) (by omega) mgVec_len mgEs_len mgEs_bulk).mono ?_
  rintro e v12 ⟨rfl, hb⟩
  have z12 := hb.size
  have HVA_12 := Lib.hid (HVA_11.out.keep fun p _ hp => hb.cell (by omega))
  have HEA_12 := Lib.hid (HEA_11.out.keep fun p _ hp => hb.cell (by omega))
  have HVA2_12 := Lib.hid (HVA2_11.out.keep fun p _ hp => hb.cell (by omega))
  have HEA2_12 := Lib.hid (HEA2_11.out.keep fun p _ hp => hb.cell (by omega))
  have Hbel_12 := Lib.hid (Hbel_11.out.trans (hb.mono (by omega)))
  have HBA_12 := Lib.hid (HBA_11.out.below hb (by omega))
  have HBA2_12 := Lib.hid (HBA2_11.out.below hb (by omega))
  have HS_12 := Lib.hid (HS_11.out.keep fun p hp hq => ⟨hb.cell (by omega), hb.frozen (by omega)⟩)
  have HSb_12 := Lib.hid (HSb_11.out.below hb (by omega))
  have HX0_12 := Lib.hid (HX0_11.out.keep fun p hp hq => ⟨hb.cell (by omega), hb.frozen (by omega)⟩)
  have HX0b_12 := Lib.hid (HX0b_11.out.below hb (by omega))
  have HX1_12 := Lib.hid (HX1_11.out.keep fun p hp hq => ⟨hb.cell (by omega), hb.frozen (by omega)⟩)
  have HX1b_12 := Lib.hid (HX1b_11.out.below hb (by omega))
  have HR_12 := Lib.hid (HR_11.out.keep fun p hp hq => ⟨hb.cell (by omega), hb.frozen (by omega)⟩)
  have HRb_12 := Lib.hid (HNb11.out.below hb (by omega))
  clear HVA_11 HEA_11 HVA2_11 HEA2_11 Hbel_11 HBA_11 HBA2_11 HS_11 HSb_11 HX0_11 HX0b_11 HX1_11 HX1b_11 HR_11 HNb11
  clear hb
  have qX0b_0 := HX0b_12.out 0 (by simp)
  have qX0b_1 := HX0b_12.out 1 (by simp)
  have qBA_0 := HBA_12.out 0 (by simp)
  have qBA_1 := HBA_12.out 1 (by simp)
  simp only [List.getElem_cons_succ, List.getElem_cons_zero] at qX0b_0 qX0b_1 qBA_0 qBA_1
  have lqX0b : v6.heap.size < v12.heap.size := by omega
  have lqBA : w.heap.size < v12.heap.size := by omega
  go_wp2_with fail
  go_region_held3 (fun X => X.cell? ⟨v6.heap.size, 0, none⟩ = some (.slice (some ⟨gv6, 0, none⟩) vec.length vec.length) ∧ X.cell? ⟨v6.heap.size, 1, none⟩ = some (.slice (some ⟨ge6, 0, none⟩) es.length es.length) ∧ X.cell? ⟨w.heap.size, 0, none⟩ = some (.slice AV vec.length cv) ∧ X.cell? ⟨w.heap.size, 1, none⟩ = some (.slice A es.length c))
    (first | exact ⟨qX0b_0, qX0b_1, qBA_0, qBA_1⟩ | exact ⟨s0, s1, s2, s3⟩ | exact ⟨t0, t1, t2, t3⟩)
    (first
      | (go_at_call 7
         refine (toTree_own AV vec cv A es c _ ((HVA_12.out.keep fun p _ hp => ?_).mono ?_) ((HEA_12.out.keep fun p _ hp => ?_).mono ?_) hvlA helA hblA).mono ?_
         · rfl
         · show w.heap.size ≤ v12.heap.size; omega
         · rfl
         · show w.heap.size ≤ v12.heap.size; omega
         rintro e wy ⟨gvy, gey, rfl, _, howny, hby⟩
         have hbsy : Below v12.heap.size v12 wy := by first | exact hby | exact (Below.refl v12.heap.size v12).drew.trans hby
         have s0 := (hbsy.cell (p := ⟨v6.heap.size, 0, none⟩) (by show v6.heap.size < v12.heap.size; omega)).trans qX0b_0
         have s1 := (hbsy.cell (p := ⟨v6.heap.size, 1, none⟩) (by show v6.heap.size < v12.heap.size; omega)).trans qX0b_1
         have s2 := (hbsy.cell (p := ⟨w.heap.size, 0, none⟩) (by show w.heap.size < v12.heap.size; omega)).trans qBA_0
         have s3 := (hbsy.cell (p := ⟨w.heap.size, 1, none⟩) (by show w.heap.size < v12.heap.size; omega)).trans qBA_1
         have hzy := hbsy.size
         have HTy := Lib.hid (show TrOwn wy v12.heap.size wy.heap.size _ vec _ es from howny)
         have HBy := Lib.hid hbsy
         clear howny hby hbsy)
      | (go_at_call 10
         refine (eqTree_same (some ⟨gv6, 0, none⟩) _ (some ⟨ge6, 0, none⟩) _ vec es vec.length _ es.length _ v5.heap.size v12.heap.size v6.heap.size wy.heap.size _ (HX0_12.out.keep fun p hp hq => ⟨HBy.out.cell (by omega), HBy.out.frozen (by omega)⟩) HTy.out ?_ ?_ hvlA helA hblA).mono ?_
         · show v6.heap.size ≤ wy.heap.size; omega
         · exact Nat.le_refl _
         rintro e wz ⟨rfl, hbz⟩
         have hbyz : Below wy.heap.size wy wz := by first | exact hbz | exact (Below.refl wy.heap.size wy).drew.trans hbz
         have t0 := (hbyz.cell (p := ⟨v6.heap.size, 0, none⟩) (by show v6.heap.size < wy.heap.size; omega)).trans s0
         have t1 := (hbyz.cell (p := ⟨v6.heap.size, 1, none⟩) (by show v6.heap.size < wy.heap.size; omega)).trans s1
         have t2 := (hbyz.cell (p := ⟨w.heap.size, 0, none⟩) (by show w.heap.size < wy.heap.size; omega)).trans s2
         have t3 := (hbyz.cell (p := ⟨w.heap.size, 1, none⟩) (by show w.heap.size < wy.heap.size; omega)).trans s3
         have HBz := Lib.hid (HBy.out.trans (hbyz.mono (by omega)))
         have hzz : v12.heap.size ≤ wz.heap.size := Nat.le_trans hzy hbyz.size
         clear hbz hbyz))
  obtain ⟨v13, hv13⟩ : ∃ x, x = wz := ⟨_, rfl⟩
  rw [← hv13]
  have hb : Below v12.heap.size v12 v13 := hv13 ▸ HBz.out
  have z13 := hb.size
  clear HBy HTy HBz hzy hzz s0 s1 s2 s3 t0 t1 t2 t3 qX0b_0 qX0b_1 qBA_0 qBA_1 lqX0b lqBA
  have HVA_13 := Lib.hid (HVA_12.out.keep fun p _ hp => hb.cell (by omega))
  have HEA_13 := Lib.hid (HEA_12.out.keep fun p _ hp => hb.cell (by omega))
  have HVA2_13 := Lib.hid (HVA2_12.out.keep fun p _ hp => hb.cell (by omega))
  have HEA2_13 := Lib.hid (HEA2_12.out.keep fun p _ hp => hb.cell (by omega))
  have Hbel_13 := Lib.hid (Hbel_12.out.trans (hb.mono (by omega)))
  have HBA_13 := Lib.hid (HBA_12.out.below hb (by omega))
  have HBA2_13 := Lib.hid (HBA2_12.out.below hb (by omega))
  have HS_13 := Lib.hid (HS_12.out.keep fun p hp hq => ⟨hb.cell (by omega), hb.frozen (by omega)⟩)
  have HSb_13 := Lib.hid (HSb_12.out.below hb (by omega))
  have HX0_13 := Lib.hid (HX0_12.out.keep fun p hp hq => ⟨hb.cell (by omega), hb.frozen (by omega)⟩)
  have HX0b_13 := Lib.hid (HX0b_12.out.below hb (by omega))
  have HX1_13 := Lib.hid (HX1_12.out.keep fun p hp hq => ⟨hb.cell (by omega), hb.frozen (by omega)⟩)
  have HX1b_13 := Lib.hid (HX1b_12.out.below hb (by omega))
  have HR_13 := Lib.hid (HR_12.out.keep fun p hp hq => ⟨hb.cell (by omega), hb.frozen (by omega)⟩)
  have HRb_13 := Lib.hid (HRb_12.out.below hb (by omega))
  clear HVA_12 HEA_12 HVA2_12 HEA2_12 Hbel_12 HBA_12 HBA2_12 HS_12 HSb_12 HX0_12 HX0b_12 HX1_12 HX1b_12 HR_12 HRb_12
  clear hb hv13
  have qX1b_0 := HX1b_13.out 0 (by simp)
  have qX1b_1 := HX1b_13.out 1 (by simp)
  have qBA2_0 := HBA2_13.out 0 (by simp)
  have qBA2_1 := HBA2_13.out 1 (by simp)
  simp only [List.getElem_cons_succ, List.getElem_cons_zero] at qX1b_0 qX1b_1 qBA2_0 qBA2_1
  have lqX1b : v8.heap.size < v13.heap.size := by omega
  have lqBA2 : w.heap.size + 1 < v13.heap.size := by omega
  go_wp2_with fail
  go_region_held3 (fun X => X.cell? ⟨v8.heap.size, 0, none⟩ = some (.slice (some ⟨gv8, 0, none⟩) vec2.length vec2.length) ∧ X.cell? ⟨v8.heap.size, 1, none⟩ = some (.slice (some ⟨ge8, 0, none⟩) es2.length es2.length) ∧ X.cell? ⟨w.heap.size + 1, 0, none⟩ = some (.slice AV2 vec2.length cv2) ∧ X.cell? ⟨w.heap.size + 1, 1, none⟩ = some (.slice A2 es2.length c2))
    (first | exact ⟨qX1b_0, qX1b_1, qBA2_0, qBA2_1⟩ | exact ⟨s0, s1, s2, s3⟩ | exact ⟨t0, t1, t2, t3⟩)
    (first
      | (go_at_call 7
         refine (toTree_own AV2 vec2 cv2 A2 es2 c2 _ ((HVA2_13.out.keep fun p _ hp => ?_).mono ?_) ((HEA2_13.out.keep fun p _ hp => ?_).mono ?_) hvlA2 helA2 hblA2).mono ?_
         · rfl
         · show w.heap.size ≤ v13.heap.size; omega
         · rfl
         · show w.heap.size ≤ v13.heap.size; omega
         rintro e wy ⟨gvy, gey, rfl, _, howny, hby⟩
         have hbsy : Below v13.heap.size v13 wy := by first | exact hby | exact (Below.refl v13.heap.size v13).drew.trans hby
         have s0 := (hbsy.cell (p := ⟨v8.heap.size, 0, none⟩) (by show v8.heap.size < v13.heap.size; omega)).trans qX1b_0
         have s1 := (hbsy.cell (p := ⟨v8.heap.size, 1, none⟩) (by show v8.heap.size < v13.heap.size; omega)).trans qX1b_1
         have s2 := (hbsy.cell (p := ⟨w.heap.size + 1, 0, none⟩) (by show w.heap.size + 1 < v13.heap.size; omega)).trans qBA2_0
         have s3 := (hbsy.cell (p := ⟨w.heap.size + 1, 1, none⟩) (by show w.heap.size + 1 < v13.heap.size; omega)).trans qBA2_1
         have hzy := hbsy.size
         have HTy := Lib.hid (show TrOwn wy v13.heap.size wy.heap.size _ vec2 _ es2 from howny)
         have HBy := Lib.hid hbsy
         clear howny hby hbsy)
      | (go_at_call 10
         refine (eqTree_same (some ⟨gv8, 0, none⟩) _ (some ⟨ge8, 0, none⟩) _ vec2 es2 vec2.length _ es2.length _ v7.heap.size v13.heap.size v8.heap.size wy.heap.size _ (HX1_13.out.keep fun p hp hq => ⟨HBy.out.cell (by omega), HBy.out.frozen (by omega)⟩) HTy.out ?_ ?_ hvlA2 helA2 hblA2).mono ?_
         · show v8.heap.size ≤ wy.heap.size; omega
         · exact Nat.le_refl _
         rintro e wz ⟨rfl, hbz⟩
         have hbyz : Below wy.heap.size wy wz := by first | exact hbz | exact (Below.refl wy.heap.size wy).drew.trans hbz
         have t0 := (hbyz.cell (p := ⟨v8.heap.size, 0, none⟩) (by show v8.heap.size < wy.heap.size; omega)).trans s0
         have t1 := (hbyz.cell (p := ⟨v8.heap.size, 1, none⟩) (by show v8.heap.size < wy.heap.size; omega)).trans s1
         have t2 := (hbyz.cell (p := ⟨w.heap.size + 1, 0, none⟩) (by show w.heap.size + 1 < wy.heap.size; omega)).trans s2
         have t3 := (hbyz.cell (p := ⟨w.heap.size + 1, 1, none⟩) (by show w.heap.size + 1 < wy.heap.size; omega)).trans s3
         have HBz := Lib.hid (HBy.out.trans (hbyz.mono (by omega)))
         have hzz : v13.heap.size ≤ wz.heap.size := Nat.le_trans hzy hbyz.size
         clear hbz hbyz))
  obtain ⟨v14, hv14⟩ : ∃ x, x = wz := ⟨_, rfl⟩
  rw [← hv14]
  have hb : Below v13.heap.size v13 v14 := hv14 ▸ HBz.out
  have z14 := hb.size
  clear HBy HTy HBz hzy hzz s0 s1 s2 s3 t0 t1 t2 t3 qX1b_0 qX1b_1 qBA2_0 qBA2_1 lqX1b lqBA2
  have HVA_14 := Lib.hid (HVA_13.out.keep fun p _ hp => hb.cell (by omega))
  have HEA_14 := Lib.hid (HEA_13.out.keep fun p _ hp => hb.cell (by omega))
  have HVA2_14 := Lib.hid (HVA2_13.out.keep fun p _ hp => hb.cell (by omega))
  have HEA2_14 := Lib.hid (HEA2_13.out.keep fun p _ hp => hb.cell (by omega))
  have Hbel_14 := Lib.hid (Hbel_13.out.trans (hb.mono (by omega)))
  have HBA_14 := Lib.hid (HBA_13.out.below hb (by omega))
  have HBA2_14 := Lib.hid (HBA2_13.out.below hb (by omega))
  have HS_14 := Lib.hid (HS_13.out.keep fun p hp hq => ⟨hb.cell (by omega), hb.frozen (by omega)⟩)
  have HSb_14 := Lib.hid (HSb_13.out.below hb (by omega))
  have HX0_14 := Lib.hid (HX0_13.out.keep fun p hp hq => ⟨hb.cell (by omega), hb.frozen (by omega)⟩)
  have HX0b_14 := Lib.hid (HX0b_13.out.below hb (by omega))
  have HX1_14 := Lib.hid (HX1_13.out.keep fun p hp hq => ⟨hb.cell (by omega), hb.frozen (by omega)⟩)
  have HX1b_14 := Lib.hid (HX1b_13.out.below hb (by omega))
  have HR_14 := Lib.hid (HR_13.out.keep fun p hp hq => ⟨hb.cell (by omega), hb.frozen (by omega)⟩)
  have HRb_14 := Lib.hid (HRb_13.out.below hb (by omega))
  clear HVA_13 HEA_13 HVA2_13 HEA2_13 Hbel_13 HBA_13 HBA2_13 HS_13 HSb_13 HX0_13 HX0b_13 HX1_13 HX1b_13 HR_13 HRb_13
  clear hb hv14
  have qX0b_0 := HX0b_14.out 0 (by simp)
  have qX0b_1 := HX0b_14.out 1 (by simp)
  simp only [List.getElem_cons_succ, List.getElem_cons_zero] at qX0b_0 qX0b_1
  have lqX0b : v6.heap.size < v14.heap.size := by omega
  go_wp2_with fail
  refine (markTree_own (some ⟨gv6, 0, none⟩) (some ⟨ge6, 0, none⟩) vec es vec.length es.length v5.heap.size v6.heap.size (1) v14 HX0_14.out (by omega) hvlA helA hblA (by omega) (by omega) (by omega)).mono ?_
  rintro e v15 ⟨rfl, hmk, hin⟩
  have z15 := hin.below.size
  have HVA_15 := Lib.hid (HVA_14.out.keep fun p _ hp => hin.cell (.inl (by omega)))
  have HEA_15 := Lib.hid (HEA_14.out.keep fun p _ hp => hin.cell (.inl (by omega)))
  have HVA2_15 := Lib.hid (HVA2_14.out.keep fun p _ hp => hin.cell (.inl (by omega)))
  have HEA2_15 := Lib.hid (HEA2_14.out.keep fun p _ hp => hin.cell (.inl (by omega)))
  have Hbel_15 := Lib.hid (Hbel_14.out.trans (hin.below.mono (by omega)))
  have HBA_15 := Lib.hid (HBA_14.out.inside hin (by omega))
  have HBA2_15 := Lib.hid (HBA2_14.out.inside hin (by omega))
  have HS_15 := Lib.hid (HS_14.out.keep fun p hp hq => ⟨hin.cell (by omega), hin.frozen p (by omega)⟩)
  have HSb_15 := Lib.hid (HSb_14.out.inside hin (by omega))
  have HX0b_15 := Lib.hid (HX0b_14.out.inside hin (by omega))
  have HX1_15 := Lib.hid (HX1_14.out.keep fun p hp hq => ⟨hin.cell (by omega), hin.frozen p (by omega)⟩)
  have HX1b_15 := Lib.hid (HX1b_14.out.inside hin (by omega))
  have HR_15 := Lib.hid (HR_14.out.keep fun p hp hq => ⟨hin.cell (by omega), hin.frozen p (by omega)⟩)
  have HRb_15 := Lib.hid (HRb_14.out.inside hin (by omega))
  clear qX0b_0 qX0b_1 lqX0b
  clear HVA_14 HEA_14 HVA2_14 HEA2_14 Hbel_14 HBA_14 HBA2_14 HS_14 HSb_14 HX0_14 HX0b_14 HX1_14 HX1b_14 HR_14 HRb_14
  clear hin hmk
  have qX1b_0 := HX1b_15.out 0 (by simp)
  have qX1b_1 := HX1b_15.out 1 (by simp)
  simp only [List.getElem_cons_succ, List.getElem_cons_zero] at qX1b_0 qX1b_1
  have lqX1b : v8.heap.size < v15.heap.size := by omega
  go_wp2_with fail
  refine (markTree_own (some ⟨gv8, 0, none⟩) (some ⟨ge8, 0, none⟩) vec2 es2 vec2.length es2.length v7.heap.size v8.heap.size (1 + (vec.length : Int) + ((mo es : Nat) : Int)) v15 HX1_15.out (by omega) hvlA2 helA2 hblA2 (by omega) (by omega) (by omega)).mono ?_
  rintro e v16 ⟨rfl, hmk, hin⟩
  have z16 := hin.below.size
  have HVA_16 := Lib.hid (HVA_15.out.keep fun p _ hp => hin.cell (.inl (by omega)))
  have HEA_16 := Lib.hid (HEA_15.out.keep fun p _ hp => hin.cell (.inl (by omega)))
  have HVA2_16 := Lib.hid (HVA2_15.out.keep fun p _ hp => hin.cell (.inl (by omega)))
  have HEA2_16 := Lib.hid (HEA2_15.out.keep fun p _ hp => hin.cell (.inl (by omega)))
  have Hbel_16 := Lib.hid (Hbel_15.out.trans (hin.below.mono (by omega)))
  have HBA_16 := Lib.hid (HBA_15.out.inside hin (by omega))
  have HBA2_16 := Lib.hid (HBA2_15.out.inside hin (by omega))
  have HS_16 := Lib.hid (HS_15.out.keep fun p hp hq => ⟨hin.cell (by omega), hin.frozen p (by omega)⟩)
  have HSb_16 := Lib.hid (HSb_15.out.inside hin (by omega))
  have HX0b_16 := Lib.hid (HX0b_15.out.inside hin (by omega))
  have HX1b_16 := Lib.hid (HX1b_15.out.inside hin (by omega))
  have HR_16 := Lib.hid (HR_15.out.keep fun p hp hq => ⟨hin.cell (by omega), hin.frozen p (by omega)⟩)
  have HRb_16 := Lib.hid (HRb_15.out.inside hin (by omega))
  clear qX1b_0 qX1b_1 lqX1b
  clear HVA_15 HEA_15 HVA2_15 HEA2_15 Hbel_15 HBA_15 HBA2_15 HS_15 HSb_15 HX0b_15 HX1_15 HX1b_15 HR_15 HRb_15
  clear hin hmk
  have hk0 : 0 ≤ 1 + (vec.length : Int) + ((mo es : Nat) : Int) + (vec2.length : Int) + ((mo es2 : Nat) : Int) := by omega
  have qRb_0 := HRb_16.out 0 (by simp)
  have qRb_1 := HRb_16.out 1 (by simp)
  have qSb_0 := HSb_16.out 0 (by simp)
  have qSb_1 := HSb_16.out 1 (by simp)
  simp only [List.getElem_cons_succ, List.getElem_cons_zero] at qRb_0 qRb_1 qSb_0 qSb_1
  have lqRb : v10.heap.size < v16.heap.size := by omega
  have lqSb : bz5 < v16.heap.size := by omega
  go_wp2_with fail
  refine (eqTree_same AV10 AV5 A10 A5 (mgVec vec es vec2 es2 : List Int) (mgEs vec es vec2 es2 : List En) cv10 cv5 c10 c5 v9.heap.size v4.heap.size v10.heap.size v5.heap.size v16 HR_16.out HS_16.out (by omega) (by omega) mgVec_len mgEs_len mgEs_bulk).mono ?_
  rintro e v17 ⟨rfl, hb⟩
  have z17 := hb.size
  have HVA_17 := Lib.hid (HVA_16.out.keep fun p _ hp => hb.cell (by omega))
  have HEA_17 := Lib.hid (HEA_16.out.keep fun p _ hp => hb.cell (by omega))
  have HVA2_17 := Lib.hid (HVA2_16.out.keep fun p _ hp => hb.cell (by omega))
  have HEA2_17 := Lib.hid (HEA2_16.out.keep fun p _ hp => hb.cell (by omega))
  have Hbel_17 := Lib.hid (Hbel_16.out.trans (hb.mono (by omega)))
  have HBA_17 := Lib.hid (HBA_16.out.below hb (by omega))
  have HBA2_17 := Lib.hid (HBA2_16.out.below hb (by omega))
  have HS_17 := Lib.hid (HS_16.out.keep fun p hp hq => ⟨hb.cell (by omega), hb.frozen (by omega)⟩)
  have HSb_17 := Lib.hid (HSb_16.out.below hb (by omega))
  have HX0b_17 := Lib.hid (HX0b_16.out.below hb (by omega))
  have HX1b_17 := Lib.hid (HX1b_16.out.below hb (by omega))
  have HR_17 := Lib.hid (HR_16.out.keep fun p hp hq => ⟨hb.cell (by omega), hb.frozen (by omega)⟩)
  have HRb_17 := Lib.hid (HRb_16.out.below hb (by omega))
  clear qRb_0 qRb_1 qSb_0 qSb_1 lqRb lqSb
  clear HVA_16 HEA_16 HVA2_16 HEA2_16 Hbel_16 HBA_16 HBA2_16 HS_16 HSb_16 HX0b_16 HX1b_16 HR_16 HRb_16
  clear hb
  clear hk0
  have qRb_0 := HRb_17.out 0 (by simp)
  have qRb_1 := HRb_17.out 1 (by simp)
  simp only [List.getElem_cons_succ, List.getElem_cons_zero] at qRb_0 qRb_1
  have lqRb : v10.heap.size < v17.heap.size := by omega
  go_wp2_with fail
  refine (markTree_own AV10 A10 (mgVec vec es vec2 es2 : List Int) (mgEs vec es vec2 es2 : List En) cv10 c10 v9.heap.size v10.heap.size (1) v17 HR_17.out (by omega) mgVec_len mgEs_len mgEs_bulk (by omega) (by omega) (by omega)).mono ?_
  rintro e v18 ⟨rfl, hmk, hin⟩
  have z18 := hin.below.size
  have HMk18 := Lib.hid hmk
  have HVA_18 := Lib.hid (HVA_17.out.keep fun p _ hp => hin.cell (.inl (by omega)))
  have HEA_18 := Lib.hid (HEA_17.out.keep fun p _ hp => hin.cell (.inl (by omega)))
  have HVA2_18 := Lib.hid (HVA2_17.out.keep fun p _ hp => hin.cell (.inl (by omega)))
  have HEA2_18 := Lib.hid (HEA2_17.out.keep fun p _ hp => hin.cell (.inl (by omega)))
  have Hbel_18 := Lib.hid (Hbel_17.out.trans (hin.below.mono (by omega)))
  have HBA_18 := Lib.hid (HBA_17.out.inside hin (by omega))
  have HBA2_18 := Lib.hid (HBA2_17.out.inside hin (by omega))
  have HS_18 := Lib.hid (HS_17.out.keep fun p hp hq => ⟨hin.cell (by omega), hin.frozen p (by omega)⟩)
  have HSb_18 := Lib.hid (HSb_17.out.inside hin (by omega))
  have HX0b_18 := Lib.hid (HX0b_17.out.inside hin (by omega))
  have HX1b_18 := Lib.hid (HX1b_17.out.inside hin (by omega))
  have HRb_18 := Lib.hid (HRb_17.out.inside hin (by omega))
  clear qRb_0 qRb_1 lqRb
  clear HVA_17 HEA_17 HVA2_17 HEA2_17 Hbel_17 HBA_17 HBA2_17 HS_17 HSb_17 HX0b_17 HX1b_17 HR_17 HRb_17
  clear hin hmk
  have qRb_0 := HRb_18.out 0 (by simp)
  have qRb_1 := HRb_18.out 1 (by simp)
  simp only [List.getElem_cons_succ, List.getElem_cons_zero] at qRb_0 qRb_1
  have lqRb : v10.heap.size < v18.heap.size := by omega
  go_wp2_with fail
  refine (heldTree_own AV10 A10 (mgVec vec es vec2 es2 : List Int).length (mgEs vec es vec2 es2 : List En) cv10 c10 v9.heap.size v10.heap.size 1 v18 HMk18.out (by omega) mgVec_len mgEs_len mgEs_bulk (by omega) (by omega)).mono ?_
  rintro e v19 ⟨rfl, hb⟩
  have z19 := hb.size
  have HVA_19 := Lib.hid (HVA_18.out.keep fun p _ hp => hb.cell (by omega))
  have HEA_19 := Lib.hid (HEA_18.out.keep fun p _ hp => hb.cell (by omega))
  have HVA2_19 := Lib.hid (HVA2_18.out.keep fun p _ hp => hb.cell (by omega))
  have HEA2_19 := Lib.hid (HEA2_18.out.keep fun p _ hp => hb.cell (by omega))
  have Hbel_19 := Lib.hid (Hbel_18.out.trans (hb.mono (by omega)))
  have HBA_19 := Lib.hid (HBA_18.out.below hb (by omega))
  have HBA2_19 := Lib.hid (HBA2_18.out.below hb (by omega))
  have HS_19 := Lib.hid (HS_18.out.keep fun p hp hq => ⟨hb.cell (by omega), hb.frozen (by omega)⟩)
  have HSb_19 := Lib.hid (HSb_18.out.below hb (by omega))
  have HX0b_19 := Lib.hid (HX0b_18.out.below hb (by omega))
  have HX1b_19 := Lib.hid (HX1b_18.out.below hb (by omega))
  have HRb_19 := Lib.hid (HRb_18.out.below hb (by omega))
  have HQ_19 := Lib.hid (HMk18.out.keep fun p hp hq => ⟨hb.cell (by omega), hb.frozen (by omega)⟩)
  clear qRb_0 qRb_1 lqRb
  clear HVA_18 HEA_18 HVA2_18 HEA2_18 Hbel_18 HBA_18 HBA2_18 HS_18 HSb_18 HX0b_18 HX1b_18 HRb_18 HMk18
  clear hb
  have hq0 : (0 : Int) ≤ 1 + ((mgVec vec es vec2 es2 : List Int).length : Int) + ((mo (mgEs vec es vec2 es2 : List En) : Nat) : Int) := by omega
  have hq1 : ((1 + ((mgVec vec es vec2 es2 : List Int).length : Int) + ((mo (mgEs vec es vec2 es2 : List En) : Nat) : Int)) != 1 + ((mgVec vec es vec2 es2 : List Int).length : Int) + ((mo (mgEs vec es vec2 es2 : List En) : Nat) : Int)) = false := by simp
  have qBA_0 := HBA_19.out 0 (by simp)
  have qBA_1 := HBA_19.out 1 (by simp)
  have qBA2_0 := HBA2_19.out 0 (by simp)
  have qBA2_1 := HBA2_19.out 1 (by simp)
  simp only [List.getElem_cons_succ, List.getElem_cons_zero] at qBA_0 qBA_1 qBA2_0 qBA2_1
  have lqBA : w.heap.size < v19.heap.size := by omega
  have lqBA2 : w.heap.size + 1 < v19.heap.size := by omega
  have HC20 := Lib.hid (show ∀ X, Sw v19 X → X.cell? ⟨w.heap.size, 0, none⟩ = some (.slice AV vec.length cv) ∧ X.cell? ⟨w.heap.size, 1, none⟩ = some (.slice A es.length c) ∧ X.cell? ⟨w.heap.size + 1, 0, none⟩ = some (.slice AV2 vec2.length cv2) ∧ X.cell? ⟨w.heap.size + 1, 1, none⟩ = some (.slice A2 es2.length c2) from fun X hX => ⟨(Below.cell hX (p := ⟨w.heap.size, 0, none⟩) lqBA).trans qBA_0, (Below.cell hX (p := ⟨w.heap.size, 1, none⟩) lqBA).trans qBA_1, (Below.cell hX (p := ⟨w.heap.size + 1, 0, none⟩) lqBA2).trans qBA2_0, (Below.cell hX (p := ⟨w.heap.size + 1, 1, none⟩) lqBA2).trans qBA2_1⟩)
  go_upto_region 31 with fail
  go_cut [15, 16] from 94 to 102 (fun s6 s7 wx => ∃ (bz : Nat) (AVs : Option Addr) (cvs : Nat) (As : Option Addr) (cs : Nat), s6 = .pointer (some ⟨bz, 0, none⟩) ∧ s7 = .bool (mgOk vec es vec2 es2) ∧ v19.heap.size ≤ bz ∧ bz < wx.heap.size ∧ wx.cell? ⟨bz, 0, none⟩ = some (.slice AVs (mgVec vec es vec2 es2 : List Int).length cvs) ∧ wx.cell? ⟨bz, 1, none⟩ = some (.slice As (mgEs vec es vec2 es2 : List En).length cs) ∧ TrOwn wx v19.heap.size wx.heap.size AVs (mgVec vec es vec2 es2) As (mgEs vec es vec2 es2) ∧ Sw v19 wx)
  case first =>
    have mk0 : True := trivial
    have mk1 : True := trivial
    go_region_held3 (fun X => X.cell? ⟨w.heap.size, 0, none⟩ = some (.slice AV vec.length cv) ∧ X.cell? ⟨w.heap.size, 1, none⟩ = some (.slice A es.length c) ∧ X.cell? ⟨w.heap.size + 1, 0, none⟩ = some (.slice AV2 vec2.length cv2) ∧ X.cell? ⟨w.heap.size + 1, 1, none⟩ = some (.slice A2 es2.length c2))
      (first | (refine HC20.out _ ?_; repeat first | with_reducible exact Sw.refl _ | with_reducible exact HS0.out | with_reducible exact HS1.out | with_reducible exact HS2.out | with_reducible apply Sw.drew | with_reducible apply Sw.alloc | with_reducible refine Sw.set ?_ (by first | exact Nat.le_refl _ | omega) _))
      (first
        | (clear mk0; go_at_call 7
           refine (toTree_own AV vec cv A es c _ ((HVA_19.out.keep fun p _ hp => ?_).mono ?_) ((HEA_19.out.keep fun p _ hp => ?_).mono ?_) hvlA helA hblA).mono ?_
           · refine Below.cell (w := v19) (B := v19.heap.size) ?_ (by omega)
             show Sw v19 _
             repeat first | with_reducible exact Sw.refl _ | with_reducible exact HS0.out | with_reducible exact HS1.out | with_reducible exact HS2.out | with_reducible apply Sw.drew | with_reducible apply Sw.alloc | with_reducible refine Sw.set ?_ (by first | exact Nat.le_refl _ | omega) _
           · refine Nat.le_trans (show w.heap.size ≤ v19.heap.size by omega) (Below.size (w := v19) (B := v19.heap.size) ?_)
             show Sw v19 _
             repeat first | with_reducible exact Sw.refl _ | with_reducible exact HS0.out | with_reducible exact HS1.out | with_reducible exact HS2.out | with_reducible apply Sw.drew | with_reducible apply Sw.alloc | with_reducible refine Sw.set ?_ (by first | exact Nat.le_refl _ | omega) _
           · refine Below.cell (w := v19) (B := v19.heap.size) ?_ (by omega)
             show Sw v19 _
             repeat first | with_reducible exact Sw.refl _ | with_reducible exact HS0.out | with_reducible exact HS1.out | with_reducible exact HS2.out | with_reducible apply Sw.drew | with_reducible apply Sw.alloc | with_reducible refine Sw.set ?_ (by first | exact Nat.le_refl _ | omega) _
           · refine Nat.le_trans (show w.heap.size ≤ v19.heap.size by omega) (Below.size (w := v19) (B := v19.heap.size) ?_)
             show Sw v19 _
             repeat first | with_reducible exact Sw.refl _ | with_reducible exact HS0.out | with_reducible exact HS1.out | with_reducible exact HS2.out | with_reducible apply Sw.drew | with_reducible apply Sw.alloc | with_reducible refine Sw.set ?_ (by first | exact Nat.le_refl _ | omega) _
           rintro e y0 ⟨gvy0, gey0, rfl, _, hown0, hbp0⟩
           have HS0 := Lib.hid (show Sw v19 y0 from Sw.below (by repeat first | with_reducible exact Sw.refl _ | with_reducible exact HS0.out | with_reducible exact HS1.out | with_reducible exact HS2.out | with_reducible apply Sw.drew | with_reducible apply Sw.alloc | with_reducible refine Sw.set ?_ (by first | exact Nat.le_refl _ | omega) _) hbp0)
           have hzs0 := Below.size HS0.out
           have HMc0_0 := Lib.hid (show TrOwn y0 v19.heap.size y0.heap.size (some ⟨gvy0, 0, none⟩) vec (some ⟨gey0, 0, none⟩) es from hown0.mono (Below.size (show Sw v19 _ from by repeat first | with_reducible exact Sw.refl _ | with_reducible exact HS0.out | with_reducible exact HS1.out | with_reducible exact HS2.out | with_reducible apply Sw.drew | with_reducible apply Sw.alloc | with_reducible refine Sw.set ?_ (by first | exact Nat.le_refl _ | omega) _)) (Nat.le_refl _))
           try (have HZ := Lib.hid (Zbx.at hbp0))
           try (have HZ := Lib.hid (Zbx.at' hbp0))
           try (have HZ := Lib.hid (Zbx.at2 hbp0))
           try (have hzl0 := HZ.out.lt)
           obtain ⟨s0_0, s0_1, s0_2, s0_3⟩ := HC20.out y0 HS0.out
           have lzBA_0 : w.heap.size < y0.heap.size := by omega
           have lzBA2_0 : w.heap.size + 1 < y0.heap.size := by omega
           clear hown0 hbp0)
        | (clear mk1; go_at_call 7
           refine (toTree_own AV2 vec2 cv2 A2 es2 c2 _ ((HVA2_19.out.keep fun p _ hp => ?_).mono ?_) ((HEA2_19.out.keep fun p _ hp => ?_).mono ?_) hvlA2 helA2 hblA2).mono ?_
           · refine Below.cell (w := v19) (B := v19.heap.size) ?_ (by omega)
             show Sw v19 _
             repeat first | with_reducible exact Sw.refl _ | with_reducible exact HS0.out | with_reducible exact HS1.out | with_reducible exact HS2.out | with_reducible apply Sw.drew | with_reducible apply Sw.alloc | with_reducible refine Sw.set ?_ (by first | exact Nat.le_refl _ | omega) _
           · refine Nat.le_trans (show w.heap.size ≤ v19.heap.size by omega) (Below.size (w := v19) (B := v19.heap.size) ?_)
             show Sw v19 _
             repeat first | with_reducible exact Sw.refl _ | with_reducible exact HS0.out | with_reducible exact HS1.out | with_reducible exact HS2.out | with_reducible apply Sw.drew | with_reducible apply Sw.alloc | with_reducible refine Sw.set ?_ (by first | exact Nat.le_refl _ | omega) _
           · refine Below.cell (w := v19) (B := v19.heap.size) ?_ (by omega)
             show Sw v19 _
             repeat first | with_reducible exact Sw.refl _ | with_reducible exact HS0.out | with_reducible exact HS1.out | with_reducible exact HS2.out | with_reducible apply Sw.drew | with_reducible apply Sw.alloc | with_reducible refine Sw.set ?_ (by first | exact Nat.le_refl _ | omega) _
           · refine Nat.le_trans (show w.heap.size ≤ v19.heap.size by omega) (Below.size (w := v19) (B := v19.heap.size) ?_)
             show Sw v19 _
             repeat first | with_reducible exact Sw.refl _ | with_reducible exact HS0.out | with_reducible exact HS1.out | with_reducible exact HS2.out | with_reducible apply Sw.drew | with_reducible apply Sw.alloc | with_reducible refine Sw.set ?_ (by first | exact Nat.le_refl _ | omega) _
           rintro e y1 ⟨gvy1, gey1, rfl, _, hown1, hbp1⟩
           have HS1 := Lib.hid (show Sw v19 y1 from Sw.below (by repeat first | with_reducible exact Sw.refl _ | with_reducible exact HS0.out | with_reducible exact HS1.out | with_reducible exact HS2.out | with_reducible apply Sw.drew | with_reducible apply Sw.alloc | with_reducible refine Sw.set ?_ (by first | exact Nat.le_refl _ | omega) _) hbp1)
           have hzs1 := Below.size HS1.out
           have HMc1_1 := Lib.hid (show TrOwn y1 v19.heap.size y1.heap.size (some ⟨gvy1, 0, none⟩) vec2 (some ⟨gey1, 0, none⟩) es2 from hown1.mono (Below.size (show Sw v19 _ from by repeat first | with_reducible exact Sw.refl _ | with_reducible exact HS0.out | with_reducible exact HS1.out | with_reducible exact HS2.out | with_reducible apply Sw.drew | with_reducible apply Sw.alloc | with_reducible refine Sw.set ?_ (by first | exact Nat.le_refl _ | omega) _)) (Nat.le_refl _))
           have HW1 := Lib.hid (show Sw y0 y1 from Sw.below (by repeat first | with_reducible exact Sw.refl _ | with_reducible apply Sw.drew | with_reducible apply Sw.alloc) hbp1)
           have hzw1 := Below.size HW1.out
           have HMc0_1 := Lib.hid (show TrOwn y1 v19.heap.size y0.heap.size (some ⟨gvy0, 0, none⟩) vec (some ⟨gey0, 0, none⟩) es from HMc0_0.out.keep fun p hp hq => ⟨Below.cell HW1.out (by omega), Below.frozen HW1.out (by omega)⟩)
           try (have HZ := Lib.hid (Zbx.below HZ.out (Sw.below (by repeat first | with_reducible exact Sw.refl _ | with_reducible apply Sw.drew | with_reducible apply Sw.alloc) hbp1)))
           try (have HZ := Lib.hid (Zbx.at hbp1))
           try (have HZ := Lib.hid (Zbx.at' hbp1))
           try (have HZ := Lib.hid (Zbx.at2 hbp1))
           try (have hzl1 := HZ.out.lt)
           obtain ⟨s1_0, s1_1, s1_2, s1_3⟩ := HC20.out y1 HS1.out
           have lzBA_1 : w.heap.size < y1.heap.size := by omega
           have lzBA2_1 : w.heap.size + 1 < y1.heap.size := by omega
           clear hown1 hbp1)
        | (go_at_call 16
           refine (implMerge_any (some ⟨gvy0, 0, none⟩) vec vec.length (some ⟨gey0, 0, none⟩) es es.length (some ⟨gvy1, 0, none⟩) vec2 vec2.length (some ⟨gey1, 0, none⟩) es2 es2.length _ (((HMc0_1.out.vecIn.ints.keep fun p _ hp => ?_).low (Nat.zero_le _)).mono ?_) (((HMc0_1.out.ensIn.ens.keep fun p _ hp => ?_).low (Nat.zero_le _)).mono ?_) hvlA helA hblA (((HMc1_1.out.vecIn.ints.keep fun p _ hp => ?_).low (Nat.zero_le _)).mono ?_) (((HMc1_1.out.ensIn.ens.keep fun p _ hp => ?_).low (Nat.zero_le _)).mono ?_) hvlA2 helA2 hblA2).mono ?_
           · refine Below.cell (w := y1) (B := y1.heap.size) ?_ (by omega)
             show Sw y1 _
             repeat first | with_reducible exact Sw.refl _ | with_reducible apply Sw.drew | with_reducible apply Sw.alloc
           · refine Nat.le_trans (show _ ≤ y1.heap.size by omega) (Below.size (w := y1) (B := y1.heap.size) ?_)
             show Sw y1 _
             repeat first | with_reducible exact Sw.refl _ | with_reducible apply Sw.drew | with_reducible apply Sw.alloc
           · refine Below.cell (w := y1) (B := y1.heap.size) ?_ (by omega)
             show Sw y1 _
             repeat first | with_reducible exact Sw.refl _ | with_reducible apply Sw.drew | with_reducible apply Sw.alloc
           · refine Nat.le_trans (show _ ≤ y1.heap.size by omega) (Below.size (w := y1) (B := y1.heap.size) ?_)
             show Sw y1 _
             repeat first | with_reducible exact Sw.refl _ | with_reducible apply Sw.drew | with_reducible apply Sw.alloc
           · refine Below.cell (w := y1) (B := y1.heap.size) ?_ (by omega)
             show Sw y1 _
             repeat first | with_reducible exact Sw.refl _ | with_reducible apply Sw.drew | with_reducible apply Sw.alloc
           · refine Nat.le_trans (show _ ≤ y1.heap.size by omega) (Below.size (w := y1) (B := y1.heap.size) ?_)
             show Sw y1 _
             repeat first | with_reducible exact Sw.refl _ | with_reducible apply Sw.drew | with_reducible apply Sw.alloc
           · refine Below.cell (w := y1) (B := y1.heap.size) ?_ (by omega)
             show Sw y1 _
             repeat first | with_reducible exact Sw.refl _ | with_reducible apply Sw.drew | with_reducible apply Sw.alloc
           · refine Nat.le_trans (show _ ≤ y1.heap.size by omega) (Below.size (w := y1) (B := y1.heap.size) ?_)
             show Sw y1 _
             repeat first | with_reducible exact Sw.refl _ | with_reducible apply Sw.drew | with_reducible apply Sw.alloc
           rintro e y2 ⟨AVs, cvs, As, cs, rfl, howns, _, hbp2⟩
           have HS2 := Lib.hid (show Sw v19 y2 from Sw.below (by repeat first | with_reducible exact Sw.refl _ | with_reducible exact HS0.out | with_reducible exact HS1.out | with_reducible exact HS2.out | with_reducible apply Sw.drew | with_reducible apply Sw.alloc | with_reducible refine Sw.set ?_ (by first | exact Nat.le_refl _ | omega) _) hbp2)
           have hzs2 := Below.size HS2.out
           have HOs := Lib.hid howns
           try (have HZ := Lib.hid (Zbx.below HZ.out (Sw.below (by repeat first | with_reducible exact Sw.refl _ | with_reducible apply Sw.drew | with_reducible apply Sw.alloc) hbp2)))
           try (have HZ := Lib.hid (Zbx.at hbp2))
           try (have HZ := Lib.hid (Zbx.at' hbp2))
           try (have HZ := Lib.hid (Zbx.at2 hbp2))
           try (obtain ⟨zc0, zc1, zf0, zf1, zlt⟩ := HZ.out)
           clear howns hbp2))
    all_goals go_wp2_with fail
    all_goals go_meet
    all_goals
      refine ⟨_, AVs, cvs, As, cs, rfl, rfl, ?_, ?_, ?_, ?_, ?_, ?_⟩
      · first | exact hzs2 | omega
      · first | (have h := HZ.out.lt; simpa using h) | (simp; done)
      · first | exact (two_get HZ.out.c0 HZ.out.c1).1 | (simp; done)
      · first | exact (two_get HZ.out.c0 HZ.out.c1).2 | (simp; done)
      · first
          | (have hZ := HZ.out
             refine (trOwn_beside HOs.out ?_ _ _).mono ?_ ?_
             · first | omega | (simp; done) | (simp; omega)
             · exact Below.size (show Sw v19 _ from by repeat first | with_reducible exact Sw.refl _ | with_reducible exact HS0.out | with_reducible exact HS1.out | with_reducible exact HS2.out | with_reducible apply Sw.drew | with_reducible apply Sw.alloc | with_reducible refine Sw.set ?_ (by first | exact Nat.le_refl _ | omega) _)
             · simp)
          | (refine (HOs.out.keep fun p _ hp => ⟨World.cell?_alloc_lt _ _ _ hp, World.frozen?_of_block (heap_alloc_old _ _ hp)⟩).mono ?_ ?_
             · exact Below.size (show Sw v19 _ from by repeat first | with_reducible exact Sw.refl _ | with_reducible exact HS0.out | with_reducible exact HS1.out | with_reducible exact HS2.out | with_reducible apply Sw.drew | with_reducible apply Sw.alloc | with_reducible refine Sw.set ?_ (by first | exact Nat.le_refl _ | omega) _)
             · simp)
      · first
          | (have hZ := HZ.out
             exact Sw.set (Sw.set HS2.out (by first | exact Nat.le_refl _ | omega) _) (by first | exact Nat.le_refl _ | omega) _)
          | exact Sw.alloc HS2.out _
  case rest =>
  obtain ⟨bz20, AV20, cv20, A20, c20, rfl, rfl, hbz20, hbl20, t0, t1, hown, hb⟩ := hcut
  rename World => v20
  have z20 := Below.size hb
  have HN20 := Lib.hid hown
  have HNb20 := Lib.hid (bx_of2 t0 t1)
  replace hb : Below v19.heap.size v19 v20 := hb
  clear HC20 t0 t1
  have HVA_20 := Lib.hid (HVA_19.out.keep fun p _ hp => hb.cell (by omega))
  have HEA_20 := Lib.hid (HEA_19.out.keep fun p _ hp => hb.cell (by omega))
  have HVA2_20 := Lib.hid (HVA2_19.out.keep fun p _ hp => hb.cell (by omega))
  have HEA2_20 := Lib.hid (HEA2_19.out.keep fun p _ hp => hb.cell (by omega))
  have Hbel_20 := Lib.hid (Hbel_19.out.trans (hb.mono (by omega)))
  have HBA_20 := Lib.hid (HBA_19.out.below hb (by omega))
  have HBA2_20 := Lib.hid (HBA2_19.out.below hb (by omega))
  have HS_20 := Lib.hid (HS_19.out.keep fun p hp hq => ⟨hb.cell (by omega), hb.frozen (by omega)⟩)
  have HSb_20 := Lib.hid (HSb_19.out.below hb (by omega))
  have HX0b_20 := Lib.hid (HX0b_19.out.below hb (by omega))
  have HX1b_20 := Lib.hid (HX1b_19.out.below hb (by omega))
  have HRb_20 := Lib.hid (HRb_19.out.below hb (by omega))
  have HQ_20 := Lib.hid (HQ_19.out.keep fun p hp hq => ⟨hb.cell (by omega), hb.frozen (by omega)⟩)
  clear qBA_0 qBA_1 qBA2_0 qBA2_1 lqBA lqBA2
  clear HVA_19 HEA_19 HVA2_19 HEA2_19 Hbel_19 HBA_19 HBA2_19 HS_19 HSb_19 HX0b_19 HX1b_19 HRb_19 HQ_19
  clear hb hown
  have qTb_0 := HNb20.out 0 (by simp)
  have qTb_1 := HNb20.out 1 (by simp)
  have qSb_0 := HSb_20.out 0 (by simp)
  have qSb_1 := HSb_20.out 1 (by simp)
  simp only [List.getElem_cons_succ, List.getElem_cons_zero] at qTb_0 qTb_1 qSb_0 qSb_1
  have lqTb : bz20 < v20.heap.size := by omega
  have lqSb : bz5 < v20.heap.size := by omega
  go_wp2_with fail
  refine (eqTree_same AV20 AV5 A20 A5 (mgVec vec es vec2 es2 : List Int) (mgEs vec es vec2 es2 : List En) cv20 cv5 c20 c5 v19.heap.size v4.heap.size v20.heap.size v5.heap.size v20 HN20.out HS_20.out (by omega) (by omega) mgVec_len mgEs_len mgEs_bulk).mono ?_
  rintro e v21 ⟨rfl, hb⟩
  have z21 := hb.size
  have HVA_21 := Lib.hid (HVA_20.out.keep fun p _ hp => hb.cell (by omega))
  have HEA_21 := Lib.hid (HEA_20.out.keep fun p _ hp => hb.cell (by omega))
  have HVA2_21 := Lib.hid (HVA2_20.out.keep fun p _ hp => hb.cell (by omega))
  have HEA2_21 := Lib.hid (HEA2_20.out.keep fun p _ hp => hb.cell (by omega))
  have Hbel_21 := Lib.hid (Hbel_20.out.trans (hb.mono (by omega)))
  have HBA_21 := Lib.hid (HBA_20.out.below hb (by omega))
  have HBA2_21 := Lib.hid (HBA2_20.out.below hb (by omega))
  have HX0b_21 := Lib.hid (HX0b_20.out.below hb (by omega))
  have HX1b_21 := Lib.hid (HX1b_20.out.below hb (by omega))
  have HRb_21 := Lib.hid (HRb_20.out.below hb (by omega))
  have HQ_21 := Lib.hid (HQ_20.out.keep fun p hp hq => ⟨hb.cell (by omega), hb.frozen (by omega)⟩)
  clear qTb_0 qTb_1 qSb_0 qSb_1 lqTb lqSb
  clear HVA_20 HEA_20 HVA2_20 HEA2_20 Hbel_20 HBA_20 HBA2_20 HS_20 HSb_20 HX0b_20 HX1b_20 HRb_20 HQ_20 HN20 HNb20
  clear hb
  have qRb_0 := HRb_21.out 0 (by simp)
  have qRb_1 := HRb_21.out 1 (by simp)
  simp only [List.getElem_cons_succ, List.getElem_cons_zero] at qRb_0 qRb_1
  have lqRb : v10.heap.size < v21.heap.size := by omega
  go_wp2_with fail
  refine (heldTree_own AV10 A10 (mgVec vec es vec2 es2 : List Int).length (mgEs vec es vec2 es2 : List En) cv10 c10 v9.heap.size v10.heap.size 1 v21 HQ_21.out (by omega) mgVec_len mgEs_len mgEs_bulk (by omega) (by omega)).mono ?_
  rintro e v22 ⟨rfl, hb⟩
  have z22 := hb.size
  have HVA_22 := Lib.hid (HVA_21.out.keep fun p _ hp => hb.cell (by omega))
  have HEA_22 := Lib.hid (HEA_21.out.keep fun p _ hp => hb.cell (by omega))
  have HVA2_22 := Lib.hid (HVA2_21.out.keep fun p _ hp => hb.cell (by omega))
  have HEA2_22 := Lib.hid (HEA2_21.out.keep fun p _ hp => hb.cell (by omega))
  have Hbel_22 := Lib.hid (Hbel_21.out.trans (hb.mono (by omega)))
  have HBA_22 := Lib.hid (HBA_21.out.below hb (by omega))
  have HBA2_22 := Lib.hid (HBA2_21.out.below hb (by omega))
  have HX0b_22 := Lib.hid (HX0b_21.out.below hb (by omega))
  have HX1b_22 := Lib.hid (HX1b_21.out.below hb (by omega))
  have HRb_22 := Lib.hid (HRb_21.out.below hb (by omega))
  have HQ_22 := Lib.hid (HQ_21.out.keep fun p hp hq => ⟨hb.cell (by omega), hb.frozen (by omega)⟩)
  clear qRb_0 qRb_1 lqRb
  clear HVA_21 HEA_21 HVA2_21 HEA2_21 Hbel_21 HBA_21 HBA2_21 HX0b_21 HX1b_21 HRb_21 HQ_21
  clear hb
  go_wp2_with fail
  go_ret
  exact ⟨rfl, Hbel_22.out⟩

end Go.Proofs.Ytndcnomgaoadeaa
