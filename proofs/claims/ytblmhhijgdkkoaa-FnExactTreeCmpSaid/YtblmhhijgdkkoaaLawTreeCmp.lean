/-
  The law on TreeCmp, walked: it answers true, and turns nothing that was there.
-/
import Derived.Test.YtblmhhijgdkkoaaTrM
import Derived.Test.YtblmhhijgdkkoaaTcS
import Derived.Deep.RegionHeld3
namespace Go.Proofs.Ytblmhhijgdkkoaa
open Go.RowKit Go.Maps

set_option maxRecDepth 100000 in
set_option maxHeartbeats 8000000 in
theorem lawTreeCmp_any (AV : Option Addr) (vec : List Int) (cv : Nat) (A : Option Addr) (es : List En) (c : Nat) (AV2 : Option Addr) (vec2 : List Int) (cv2 : Nat) (A2 : Option Addr) (es2 : List En) (c2 : Nat) (w : World) (hVA : IntsIn w 0 w.heap.size AV vec) (hEA : EnsIn w 0 w.heap.size A es) (nVA : vec.length ≤ 9223372036854775807) (nEA : es.length ≤ 9223372036854775807) (nBA : ∀ i (hi : i < es.length), es[i].name.length ≤ 9223372036854775807) (hVA2 : IntsIn w 0 w.heap.size AV2 vec2) (hEA2 : EnsIn w 0 w.heap.size A2 es2) (nVA2 : vec2.length ≤ 9223372036854775807) (nEA2 : es2.length ≤ 9223372036854775807) (nBA2 : ∀ i (hi : i < es2.length), es2[i].name.length ≤ 9223372036854775807) :
    Calls Try.prog 5 #[.agg #[.slice AV vec.length cv, .slice A es.length c], .agg #[.slice AV2 vec2.length cv2, .slice A2 es2.length c2]] w fun e w' => e = .returned (.bool true) ∧ Below w.heap.size w w' := by
  have HVA := Lib.hid hVA
  have HEA := Lib.hid hEA
  have HnBA := Lib.hid nBA
  have HVA2 := Lib.hid hVA2
  have HEA2 := Lib.hid hEA2
  have HnBA2 := Lib.hid nBA2
  have HBel := Lib.hid (Below.refl w.heap.size w)
  clear hVA hEA nBA hVA2 hEA2 nBA2
  have z0 : w.heap.size ≤ w.heap.size := Nat.le_refl _
  go_enter Try.func5, Try.ntmps5
  go_wp2_with fail
  obtain ⟨v1, hw1⟩ : ∃ x, x = w.alloc (.cells #[.slice AV vec.length cv, .slice A es.length c] 25) := ⟨_, rfl⟩
  have hbx : Below w.heap.size w v1 := by rw [hw1]; exact (Below.refl _ _).alloc (Nat.le_refl _) _
  have z1 : w.heap.size < v1.heap.size := by rw [hw1]; simp
  have HEs1 := Lib.hid (show v1.heap.size = w.heap.size + 1 by rw [hw1]; simp)
  have HNb1 := Lib.hid (show Bx v1 (w.heap.size) [.slice AV vec.length cv, .slice A es.length c] by rw [hw1]; exact Bx.new' _ _ _ _ rfl)
  rw [← hw1]
  clear hw1
  have HVA_1 := Lib.hid (HVA.out.keep fun p _ hp => hbx.cell (by omega))
  have HEA_1 := Lib.hid (HEA.out.keep fun p _ hp => hbx.cell (by omega))
  have HVA2_1 := Lib.hid (HVA2.out.keep fun p _ hp => hbx.cell (by omega))
  have HEA2_1 := Lib.hid (HEA2.out.keep fun p _ hp => hbx.cell (by omega))
  have Hbel_1 := Lib.hid (HBel.out.trans (hbx.mono (by omega)))
  clear HVA HEA HVA2 HEA2 HBel
  clear hbx
  obtain ⟨v2, hw2⟩ : ∃ x, x = v1.alloc (.cells #[.slice AV2 vec2.length cv2, .slice A2 es2.length c2] 25) := ⟨_, rfl⟩
  have hbx : Below v1.heap.size v1 v2 := by rw [hw2]; exact (Below.refl _ _).alloc (Nat.le_refl _) _
  have z2 : v1.heap.size < v2.heap.size := by rw [hw2]; simp
  have HEs2 := Lib.hid (show v2.heap.size = w.heap.size + 1 + 1 by rw [hw2, ← HEs1.out]; simp)
  have HNb2 := Lib.hid (show Bx v2 (w.heap.size + 1) [.slice AV2 vec2.length cv2, .slice A2 es2.length c2] by rw [hw2, ← HEs1.out]; exact Bx.new' _ _ _ _ rfl)
  have hat2 : w.heap.size + 1 = v1.heap.size := HEs1.out.symm
  rw [← hw2]
  clear hw2
  have HVA_2 := Lib.hid (HVA_1.out.keep fun p _ hp => hbx.cell (by omega))
  have HEA_2 := Lib.hid (HEA_1.out.keep fun p _ hp => hbx.cell (by omega))
  have HVA2_2 := Lib.hid (HVA2_1.out.keep fun p _ hp => hbx.cell (by omega))
  have HEA2_2 := Lib.hid (HEA2_1.out.keep fun p _ hp => hbx.cell (by omega))
  have Hbel_2 := Lib.hid (Hbel_1.out.trans (hbx.mono (by omega)))
  have HBA_2 := Lib.hid (HNb1.out.below hbx (by omega))
  clear HVA_1 HEA_1 HVA2_1 HEA2_1 Hbel_1 HNb1
  clear hbx
  have hlt2 : w.heap.size + 1 < v2.heap.size := by omega
  clear hat2
  refine (szTree_any AV vec cv A es c _ v2 (HEA_2.out.mono (by omega)) nVA nEA HnBA.out (by omega) (by omega)).mono ?_
  rintro e v3 ⟨r3, rfl, hsz, hb⟩
  have z3 := hb.size
  have HS3 := Lib.hid hsz
  have HVA_3 := Lib.hid (HVA_2.out.keep fun p _ hp => hb.cell (by omega))
  have HEA_3 := Lib.hid (HEA_2.out.keep fun p _ hp => hb.cell (by omega))
  have HVA2_3 := Lib.hid (HVA2_2.out.keep fun p _ hp => hb.cell (by omega))
  have HEA2_3 := Lib.hid (HEA2_2.out.keep fun p _ hp => hb.cell (by omega))
  have Hbel_3 := Lib.hid (Hbel_2.out.trans (hb.mono (by omega)))
  have HBA_3 := Lib.hid (HBA_2.out.below hb (by omega))
  have HBA2_3 := Lib.hid (HNb2.out.below hb (by omega))
  clear HVA_2 HEA_2 HVA2_2 HEA2_2 Hbel_2 HBA_2 HNb2
  clear hb hsz
  by_cases hr3 : r3 < 0
  · go_wp2_with fail
    all_goals go_ret
    all_goals exact ⟨rfl, Hbel_3.out⟩
  have hp3 : 0 ≤ r3 := by omega
  have hs3 : r3 + (vec.length + (es.length + ebulk es)) ≤ 1048576 := by have := HS3.out; unfold SzOk at this; omega
  have hvlA : vec.length ≤ 1048576 := by omega
  have helA : es.length ≤ 1048576 := by omega
  have hblA : ebulk es ≤ 1048576 := by omega
  have hmoA : mo es ≤ 4194304 := by unfold mo; omega
  have hrl3 : r3 ≤ 1048576 := by omega
  clear hr3 HS3 hs3
  have qBA2_0 := HBA2_3.out 0 (by simp)
  have qBA2_1 := HBA2_3.out 1 (by simp)
  simp only [List.getElem_cons_succ, List.getElem_cons_zero] at qBA2_0 qBA2_1
  have lqBA2 : w.heap.size + 1 < v3.heap.size := by omega
  go_wp2_with fail
  refine (szTree_any AV2 vec2 cv2 A2 es2 c2 _ v3 (HEA2_3.out.mono (by omega)) nVA2 nEA2 HnBA2.out (by omega) (by omega)).mono ?_
  rintro e v4 ⟨r4, rfl, hsz, hb⟩
  have z4 := hb.size
  have HS4 := Lib.hid hsz
  have HVA_4 := Lib.hid (HVA_3.out.keep fun p _ hp => hb.cell (by omega))
  have HEA_4 := Lib.hid (HEA_3.out.keep fun p _ hp => hb.cell (by omega))
  have HVA2_4 := Lib.hid (HVA2_3.out.keep fun p _ hp => hb.cell (by omega))
  have HEA2_4 := Lib.hid (HEA2_3.out.keep fun p _ hp => hb.cell (by omega))
  have Hbel_4 := Lib.hid (Hbel_3.out.trans (hb.mono (by omega)))
  have HBA_4 := Lib.hid (HBA_3.out.below hb (by omega))
  have HBA2_4 := Lib.hid (HBA2_3.out.below hb (by omega))
  clear qBA2_0 qBA2_1 lqBA2
  clear HVA_3 HEA_3 HVA2_3 HEA2_3 Hbel_3 HBA_3 HBA2_3
  clear hb hsz
  by_cases hr4 : r4 < 0
  · go_wp2_with fail
    all_goals go_ret
    all_goals exact ⟨rfl, Hbel_4.out⟩
  have hp4 : 0 ≤ r4 := by omega
  have hs4 : r4 + (vec2.length + (es2.length + ebulk es2)) ≤ 1048576 := by have := HS4.out; unfold SzOk at this; omega
  have hvlA2 : vec2.length ≤ 1048576 := by omega
  have helA2 : es2.length ≤ 1048576 := by omega
  have hblA2 : ebulk es2 ≤ 1048576 := by omega
  have hmoA2 : mo es2 ≤ 4194304 := by unfold mo; omega
  have hrl4 : r4 ≤ 1048576 := by omega
  clear hr4 HS4 hs4
  have qBA_0 := HBA_4.out 0 (by simp)
  have qBA_1 := HBA_4.out 1 (by simp)
  have qBA2_0 := HBA2_4.out 0 (by simp)
  have qBA2_1 := HBA2_4.out 1 (by simp)
  simp only [List.getElem_cons_succ, List.getElem_cons_zero] at qBA_0 qBA_1 qBA2_0 qBA2_1
  have lqBA : w.heap.size < v4.heap.size := by omega
  have lqBA2 : w.heap.size + 1 < v4.heap.size := by omega
  go_wp2_with fail
  have mk0 : True := trivial
  have mk1 : True := trivial
  go_region_held3 (fun X => X.cell? ⟨w.heap.size, 0, none⟩ = some (.slice AV vec.length cv) ∧ X.cell? ⟨w.heap.size, 1, none⟩ = some (.slice A es.length c) ∧ X.cell? ⟨w.heap.size + 1, 0, none⟩ = some (.slice AV2 vec2.length cv2) ∧ X.cell? ⟨w.heap.size + 1, 1, none⟩ = some (.slice A2 es2.length c2))
    (first | with_reducible exact ⟨qBA_0, qBA_1, qBA2_0, qBA2_1⟩ | exact ⟨qBA_0, qBA_1, qBA2_0, qBA2_1⟩ | with_reducible exact ⟨s0, s1, s2, s3⟩ | with_reducible exact ⟨t0, t1, t2, t3⟩ | with_reducible exact ⟨u0, u1, u2, u3⟩)
    (first
      | (clear mk0; go_at_call 15
         refine (toTree_own AV vec cv A es c _ ((HVA_4.out.keep fun p _ hp => ?_).mono ?_) ((HEA_4.out.keep fun p _ hp => ?_).mono ?_) hvlA helA hblA).mono ?_
         · rfl
         · show w.heap.size ≤ v4.heap.size; omega
         · rfl
         · show w.heap.size ≤ v4.heap.size; omega
         rintro e y0 ⟨gvy0, gey0, rfl, _, hown0, hbp0⟩
         have hbs0 : Below v4.heap.size v4 y0 := by first | exact hbp0 | exact (Below.refl v4.heap.size v4).drew.trans hbp0
         have s0 := (hbs0.cell (p := ⟨w.heap.size, 0, none⟩) lqBA).trans qBA_0
         have s1 := (hbs0.cell (p := ⟨w.heap.size, 1, none⟩) lqBA).trans qBA_1
         have s2 := (hbs0.cell (p := ⟨w.heap.size + 1, 0, none⟩) lqBA2).trans qBA2_0
         have s3 := (hbs0.cell (p := ⟨w.heap.size + 1, 1, none⟩) lqBA2).trans qBA2_1
         have HBs0 := Lib.hid hbs0
         have hzs0 := hbs0.size
         have HMc0 := Lib.hid (show TrOwn y0 v4.heap.size y0.heap.size (some ⟨gvy0, 0, none⟩) vec (some ⟨gey0, 0, none⟩) es from hown0)
         clear hown0 hbp0 hbs0)
      | (clear mk1; go_at_call 15
         refine (toTree_own AV2 vec2 cv2 A2 es2 c2 y0 ((HVA2_4.out.keep fun p _ hp => ?_).mono ?_) ((HEA2_4.out.keep fun p _ hp => ?_).mono ?_) hvlA2 helA2 hblA2).mono ?_
         · exact HBs0.out.cell (by omega)
         · show w.heap.size ≤ y0.heap.size; omega
         · exact HBs0.out.cell (by omega)
         · show w.heap.size ≤ y0.heap.size; omega
         rintro e y1 ⟨gvy1, gey1, rfl, _, hown1, hbp1⟩
         have hbs1 : Below v4.heap.size v4 y1 := HBs0.out.trans (hbp1.mono HBs0.out.size)
         have t0 := (hbs1.cell (p := ⟨w.heap.size, 0, none⟩) lqBA).trans qBA_0
         have t1 := (hbs1.cell (p := ⟨w.heap.size, 1, none⟩) lqBA).trans qBA_1
         have t2 := (hbs1.cell (p := ⟨w.heap.size + 1, 0, none⟩) lqBA2).trans qBA2_0
         have t3 := (hbs1.cell (p := ⟨w.heap.size + 1, 1, none⟩) lqBA2).trans qBA2_1
         have HBs1 := Lib.hid hbs1
         have hzs1 := hbs1.size
         have hzp1 := hbp1.size
         have HMc0_ := Lib.hid (HMc0.out.keep fun p hp hq => ⟨hbp1.cell (by omega), hbp1.frozen (by omega)⟩)
         have HMc1 := Lib.hid (show TrOwn y1 y0.heap.size y1.heap.size (some ⟨gvy1, 0, none⟩) vec2 (some ⟨gey1, 0, none⟩) es2 from hown1)
         clear hown1 hbp1 hbs1)
      | (go_at_call 28
         refine (specTreeCmp_any (some ⟨gvy0, 0, none⟩) vec vec.length (some ⟨gey0, 0, none⟩) es es.length (some ⟨gvy1, 0, none⟩) vec2 vec2.length (some ⟨gey1, 0, none⟩) es2 es2.length y1 ((HMc0_.out.vecIn.ints.low (Nat.zero_le _)).mono (by omega)) ((HMc0_.out.ensIn.ens.low (Nat.zero_le _)).mono (by omega)) hvlA helA hblA ((HMc1.out.vecIn.ints.low (Nat.zero_le _)).mono (by omega)) ((HMc1.out.ensIn.ens.low (Nat.zero_le _)).mono (by omega)) hvlA2 helA2 hblA2).mono ?_
         rintro e y2 ⟨rfl, hbp2⟩
         have hbs2 : Below v4.heap.size v4 y2 := HBs1.out.trans (hbp2.mono HBs1.out.size)
         have u0 := (hbs2.cell (p := ⟨w.heap.size, 0, none⟩) lqBA).trans qBA_0
         have u1 := (hbs2.cell (p := ⟨w.heap.size, 1, none⟩) lqBA).trans qBA_1
         have u2 := (hbs2.cell (p := ⟨w.heap.size + 1, 0, none⟩) lqBA2).trans qBA2_0
         have u3 := (hbs2.cell (p := ⟨w.heap.size + 1, 1, none⟩) lqBA2).trans qBA2_1
         have HBs2 := Lib.hid hbs2
         have hzs2 := hbs2.size
         have hzp2 := hbp2.size
         have HMc0__ := Lib.hid (HMc0_.out.keep fun p hp hq => ⟨hbp2.cell (by omega), hbp2.frozen (by omega)⟩)
         have HMc1_ := Lib.hid (HMc1.out.keep fun p hp hq => ⟨hbp2.cell (by omega), hbp2.frozen (by omega)⟩)
         clear hbp2 hbs2))
  obtain ⟨v5, hv5⟩ : ∃ x, x = y2 := ⟨_, rfl⟩
  rw [← hv5]
  have hb : Below v4.heap.size v4 v5 := hv5 ▸ HBs2.out
  have z5 := hb.size
  clear s0 s1 s2 s3 t0 t1 t2 t3 u0 u1 u2 u3 qBA_0 qBA_1 qBA2_0 qBA2_1 lqBA lqBA2
  have HVA_5 := Lib.hid (HVA_4.out.keep fun p _ hp => hb.cell (by omega))
  have HEA_5 := Lib.hid (HEA_4.out.keep fun p _ hp => hb.cell (by omega))
  have HVA2_5 := Lib.hid (HVA2_4.out.keep fun p _ hp => hb.cell (by omega))
  have HEA2_5 := Lib.hid (HEA2_4.out.keep fun p _ hp => hb.cell (by omega))
  have Hbel_5 := Lib.hid (Hbel_4.out.trans (hb.mono (by omega)))
  have HBA_5 := Lib.hid (HBA_4.out.below hb (by omega))
  have HBA2_5 := Lib.hid (HBA2_4.out.below hb (by omega))
  clear HVA_4 HEA_4 HVA2_4 HEA2_4 Hbel_4 HBA_4 HBA2_4
  clear hb hv5
  have qBA_0 := HBA_5.out 0 (by simp)
  have qBA_1 := HBA_5.out 1 (by simp)
  simp only [List.getElem_cons_succ, List.getElem_cons_zero] at qBA_0 qBA_1
  have lqBA : w.heap.size < v5.heap.size := by omega
  go_wp2_with fail
  refine (toTree_own AV vec cv A es c v5 (HVA_5.out.mono (by omega)) (HEA_5.out.mono (by omega)) hvlA helA hblA).mono ?_
  rintro e v6 ⟨gv6, ge6, rfl, _, hown, hb⟩
  have z6 := hb.size
  have HN6 := Lib.hid hown
  have HVA_6 := Lib.hid (HVA_5.out.keep fun p _ hp => hb.cell (by omega))
  have HEA_6 := Lib.hid (HEA_5.out.keep fun p _ hp => hb.cell (by omega))
  have HVA2_6 := Lib.hid (HVA2_5.out.keep fun p _ hp => hb.cell (by omega))
  have HEA2_6 := Lib.hid (HEA2_5.out.keep fun p _ hp => hb.cell (by omega))
  have Hbel_6 := Lib.hid (Hbel_5.out.trans (hb.mono (by omega)))
  have HBA_6 := Lib.hid (HBA_5.out.below hb (by omega))
  have HBA2_6 := Lib.hid (HBA2_5.out.below hb (by omega))
  clear qBA_0 qBA_1 lqBA
  clear HVA_5 HEA_5 HVA2_5 HEA2_5 Hbel_5 HBA_5 HBA2_5
  clear hb hown
  have qBA2_0 := HBA2_6.out 0 (by simp)
  have qBA2_1 := HBA2_6.out 1 (by simp)
  simp only [List.getElem_cons_succ, List.getElem_cons_zero] at qBA2_0 qBA2_1
  have lqBA2 : w.heap.size + 1 < v6.heap.size := by omega
  go_wp2_with fail
  obtain ⟨v7, hw7⟩ : ∃ x, x = v6.alloc (.cells #[.slice (some ⟨gv6, 0, none⟩) vec.length vec.length, .slice (some ⟨ge6, 0, none⟩) es.length es.length] 30) := ⟨_, rfl⟩
  have hbx : Below v6.heap.size v6 v7 := by rw [hw7]; exact (Below.refl _ _).alloc (Nat.le_refl _) _
  have z7 : v6.heap.size < v7.heap.size := by rw [hw7]; simp
  have HNb7 := Lib.hid (show Bx v7 (v6.heap.size) [.slice (some ⟨gv6, 0, none⟩) vec.length vec.length, .slice (some ⟨ge6, 0, none⟩) es.length es.length] by rw [hw7]; exact Bx.new' _ _ _ _ rfl)
  rw [← hw7]
  clear hw7
  have HVA_7 := Lib.hid (HVA_6.out.keep fun p _ hp => hbx.cell (by omega))
  have HEA_7 := Lib.hid (HEA_6.out.keep fun p _ hp => hbx.cell (by omega))
  have HVA2_7 := Lib.hid (HVA2_6.out.keep fun p _ hp => hbx.cell (by omega))
  have HEA2_7 := Lib.hid (HEA2_6.out.keep fun p _ hp => hbx.cell (by omega))
  have Hbel_7 := Lib.hid (Hbel_6.out.trans (hbx.mono (by omega)))
  have HBA_7 := Lib.hid (HBA_6.out.below hbx (by omega))
  have HBA2_7 := Lib.hid (HBA2_6.out.below hbx (by omega))
  have HX0_7 := Lib.hid (HN6.out.keep fun p hp hq => ⟨hbx.cell (by omega), hbx.frozen (by omega)⟩)
  clear qBA2_0 qBA2_1 lqBA2
  clear HVA_6 HEA_6 HVA2_6 HEA2_6 Hbel_6 HBA_6 HBA2_6 HN6
  clear hbx
  refine (toTree_own AV2 vec2 cv2 A2 es2 c2 v7 (HVA2_7.out.mono (by omega)) (HEA2_7.out.mono (by omega)) hvlA2 helA2 hblA2).mono ?_
  rintro e v8 ⟨gv8, ge8, rfl, _, hown, hb⟩
  have z8 := hb.size
  have HN8 := Lib.hid hown
  have HVA_8 := Lib.hid (HVA_7.out.keep fun p _ hp => hb.cell (by omega))
  have HEA_8 := Lib.hid (HEA_7.out.keep fun p _ hp => hb.cell (by omega))
  have HVA2_8 := Lib.hid (HVA2_7.out.keep fun p _ hp => hb.cell (by omega))
  have HEA2_8 := Lib.hid (HEA2_7.out.keep fun p _ hp => hb.cell (by omega))
  have Hbel_8 := Lib.hid (Hbel_7.out.trans (hb.mono (by omega)))
  have HBA_8 := Lib.hid (HBA_7.out.below hb (by omega))
  have HBA2_8 := Lib.hid (HBA2_7.out.below hb (by omega))
  have HX0_8 := Lib.hid (HX0_7.out.keep fun p hp hq => ⟨hb.cell (by omega), hb.frozen (by omega)⟩)
  have HX0b_8 := Lib.hid (HNb7.out.below hb (by omega))
  clear HVA_7 HEA_7 HVA2_7 HEA2_7 Hbel_7 HBA_7 HBA2_7 HX0_7 HNb7
  clear hb hown
  have qX0b_0 := HX0b_8.out 0 (by simp)
  have qX0b_1 := HX0b_8.out 1 (by simp)
  simp only [List.getElem_cons_succ, List.getElem_cons_zero] at qX0b_0 qX0b_1
  have lqX0b : v6.heap.size < v8.heap.size := by omega
  go_wp2_with fail
  obtain ⟨v9, hw9⟩ : ∃ x, x = v8.alloc (.cells #[.slice (some ⟨gv8, 0, none⟩) vec2.length vec2.length, .slice (some ⟨ge8, 0, none⟩) es2.length es2.length] 30) := ⟨_, rfl⟩
  have hbx : Below v8.heap.size v8 v9 := by rw [hw9]; exact (Below.refl _ _).alloc (Nat.le_refl _) _
  have z9 : v8.heap.size < v9.heap.size := by rw [hw9]; simp
  have HNb9 := Lib.hid (show Bx v9 (v8.heap.size) [.slice (some ⟨gv8, 0, none⟩) vec2.length vec2.length, .slice (some ⟨ge8, 0, none⟩) es2.length es2.length] by rw [hw9]; exact Bx.new' _ _ _ _ rfl)
  rw [← hw9]
  clear hw9
  have HVA_9 := Lib.hid (HVA_8.out.keep fun p _ hp => hbx.cell (by omega))
  have HEA_9 := Lib.hid (HEA_8.out.keep fun p _ hp => hbx.cell (by omega))
  have HVA2_9 := Lib.hid (HVA2_8.out.keep fun p _ hp => hbx.cell (by omega))
  have HEA2_9 := Lib.hid (HEA2_8.out.keep fun p _ hp => hbx.cell (by omega))
  have Hbel_9 := Lib.hid (Hbel_8.out.trans (hbx.mono (by omega)))
  have HBA_9 := Lib.hid (HBA_8.out.below hbx (by omega))
  have HBA2_9 := Lib.hid (HBA2_8.out.below hbx (by omega))
  have HX0_9 := Lib.hid (HX0_8.out.keep fun p hp hq => ⟨hbx.cell (by omega), hbx.frozen (by omega)⟩)
  have HX0b_9 := Lib.hid (HX0b_8.out.below hbx (by omega))
  have HX1_9 := Lib.hid (HN8.out.keep fun p hp hq => ⟨hbx.cell (by omega), hbx.frozen (by omega)⟩)
  clear qX0b_0 qX0b_1 lqX0b
  clear HVA_8 HEA_8 HVA2_8 HEA2_8 Hbel_8 HBA_8 HBA2_8 HX0_8 HX0b_8 HN8
  clear hbx
  refine (implTreeCmp_any (some ⟨gv6, 0, none⟩) vec vec.length (some ⟨ge6, 0, none⟩) es es.length (some ⟨gv8, 0, none⟩) vec2 vec2.length (some ⟨ge8, 0, none⟩) es2 es2.length v9 ((HX0_9.out.vecIn.ints.low (Nat.zero_le _)).mono (by omega)) ((HX0_9.out.ensIn.ens.low (Nat.zero_le _)).mono (by omega)) hvlA helA hblA ((HX1_9.out.vecIn.ints.low (Nat.zero_le _)).mono (by omega)) ((HX1_9.out.ensIn.ens.low (Nat.zero_le _)).mono (by omega)) hvlA2 helA2 hblA2).mono ?_
  rintro e v10 ⟨rfl, hb⟩
  have z10 := hb.size
  have HVA_10 := Lib.hid (HVA_9.out.keep fun p _ hp => hb.cell (by omega))
  have HEA_10 := Lib.hid (HEA_9.out.keep fun p _ hp => hb.cell (by omega))
  have HVA2_10 := Lib.hid (HVA2_9.out.keep fun p _ hp => hb.cell (by omega))
  have HEA2_10 := Lib.hid (HEA2_9.out.keep fun p _ hp => hb.cell (by omega))
  have Hbel_10 := Lib.hid (Hbel_9.out.trans (hb.mono (by omega)))
  have HBA_10 := Lib.hid (HBA_9.out.below hb (by omega))
  have HBA2_10 := Lib.hid (HBA2_9.out.below hb (by omega))
  have HX0_10 := Lib.hid (HX0_9.out.keep fun p hp hq => ⟨hb.cell (by omega), hb.frozen (by omega)⟩)
  have HX0b_10 := Lib.hid (HX0b_9.out.below hb (by omega))
  have HX1_10 := Lib.hid (HX1_9.out.keep fun p hp hq => ⟨hb.cell (by omega), hb.frozen (by omega)⟩)
  have HX1b_10 := Lib.hid (HNb9.out.below hb (by omega))
  clear HVA_9 HEA_9 HVA2_9 HEA2_9 Hbel_9 HBA_9 HBA2_9 HX0_9 HX0b_9 HX1_9 HNb9
  clear hb
  have hcmp : ((tcI vec es vec2 es2) != (tcI vec es vec2 es2)) = false := by simp
  have qX0b_0 := HX0b_10.out 0 (by simp)
  have qX0b_1 := HX0b_10.out 1 (by simp)
  have qBA_0 := HBA_10.out 0 (by simp)
  have qBA_1 := HBA_10.out 1 (by simp)
  simp only [List.getElem_cons_succ, List.getElem_cons_zero] at qX0b_0 qX0b_1 qBA_0 qBA_1
  have lqX0b : v6.heap.size < v10.heap.size := by omega
  have lqBA : w.heap.size < v10.heap.size := by omega
  go_wp2_with fail
  go_region_held3 (fun X => X.cell? ⟨v6.heap.size, 0, none⟩ = some (.slice (some ⟨gv6, 0, none⟩) vec.length vec.length) ∧ X.cell? ⟨v6.heap.size, 1, none⟩ = some (.slice (some ⟨ge6, 0, none⟩) es.length es.length) ∧ X.cell? ⟨w.heap.size, 0, none⟩ = some (.slice AV vec.length cv) ∧ X.cell? ⟨w.heap.size, 1, none⟩ = some (.slice A es.length c))
    (first | exact ⟨qX0b_0, qX0b_1, qBA_0, qBA_1⟩ | exact ⟨s0, s1, s2, s3⟩ | exact ⟨t0, t1, t2, t3⟩)
    (first
      | (go_at_call 15
         refine (toTree_own AV vec cv A es c _ ((HVA_10.out.keep fun p _ hp => ?_).mono ?_) ((HEA_10.out.keep fun p _ hp => ?_).mono ?_) hvlA helA hblA).mono ?_
         · rfl
         · show w.heap.size ≤ v10.heap.size; omega
         · rfl
         · show w.heap.size ≤ v10.heap.size; omega
         rintro e wy ⟨gvy, gey, rfl, _, howny, hby⟩
         have hbsy : Below v10.heap.size v10 wy := by first | exact hby | exact (Below.refl v10.heap.size v10).drew.trans hby
         have s0 := (hbsy.cell (p := ⟨v6.heap.size, 0, none⟩) (by show v6.heap.size < v10.heap.size; omega)).trans qX0b_0
         have s1 := (hbsy.cell (p := ⟨v6.heap.size, 1, none⟩) (by show v6.heap.size < v10.heap.size; omega)).trans qX0b_1
         have s2 := (hbsy.cell (p := ⟨w.heap.size, 0, none⟩) (by show w.heap.size < v10.heap.size; omega)).trans qBA_0
         have s3 := (hbsy.cell (p := ⟨w.heap.size, 1, none⟩) (by show w.heap.size < v10.heap.size; omega)).trans qBA_1
         have hzy := hbsy.size
         have HTy := Lib.hid (show TrOwn wy v10.heap.size wy.heap.size _ vec _ es from howny)
         have HBy := Lib.hid hbsy
         clear howny hby hbsy)
      | (go_at_call 18
         refine (eqTree_same (some ⟨gv6, 0, none⟩) _ (some ⟨ge6, 0, none⟩) _ vec es vec.length _ es.length _ v5.heap.size v10.heap.size v6.heap.size wy.heap.size _ (HX0_10.out.keep fun p hp hq => ⟨HBy.out.cell (by omega), HBy.out.frozen (by omega)⟩) HTy.out ?_ ?_ hvlA helA hblA).mono ?_
         · show v6.heap.size ≤ wy.heap.size; omega
         · exact Nat.le_refl _
         rintro e wz ⟨rfl, hbz⟩
         have hbyz : Below wy.heap.size wy wz := by first | exact hbz | exact (Below.refl wy.heap.size wy).drew.trans hbz
         have t0 := (hbyz.cell (p := ⟨v6.heap.size, 0, none⟩) (by show v6.heap.size < wy.heap.size; omega)).trans s0
         have t1 := (hbyz.cell (p := ⟨v6.heap.size, 1, none⟩) (by show v6.heap.size < wy.heap.size; omega)).trans s1
         have t2 := (hbyz.cell (p := ⟨w.heap.size, 0, none⟩) (by show w.heap.size < wy.heap.size; omega)).trans s2
         have t3 := (hbyz.cell (p := ⟨w.heap.size, 1, none⟩) (by show w.heap.size < wy.heap.size; omega)).trans s3
         have HBz := Lib.hid (HBy.out.trans (hbyz.mono (by omega)))
         have hzz : v10.heap.size ≤ wz.heap.size := Nat.le_trans hzy hbyz.size
         clear hbz hbyz))
  obtain ⟨v11, hv11⟩ : ∃ x, x = wz := ⟨_, rfl⟩
  rw [← hv11]
  have hb : Below v10.heap.size v10 v11 := hv11 ▸ HBz.out
  have z11 := hb.size
  clear HBy HTy HBz hzy hzz s0 s1 s2 s3 t0 t1 t2 t3 qX0b_0 qX0b_1 qBA_0 qBA_1 lqX0b lqBA
  have HVA_11 := Lib.hid (HVA_10.out.keep fun p _ hp => hb.cell (by omega))
  have HEA_11 := Lib.hid (HEA_10.out.keep fun p _ hp => hb.cell (by omega))
  have HVA2_11 := Lib.hid (HVA2_10.out.keep fun p _ hp => hb.cell (by omega))
  have HEA2_11 := Lib.hid (HEA2_10.out.keep fun p _ hp => hb.cell (by omega))
  have Hbel_11 := Lib.hid (Hbel_10.out.trans (hb.mono (by omega)))
  have HBA_11 := Lib.hid (HBA_10.out.below hb (by omega))
  have HBA2_11 := Lib.hid (HBA2_10.out.below hb (by omega))
  have HX0_11 := Lib.hid (HX0_10.out.keep fun p hp hq => ⟨hb.cell (by omega), hb.frozen (by omega)⟩)
  have HX0b_11 := Lib.hid (HX0b_10.out.below hb (by omega))
  have HX1_11 := Lib.hid (HX1_10.out.keep fun p hp hq => ⟨hb.cell (by omega), hb.frozen (by omega)⟩)
  have HX1b_11 := Lib.hid (HX1b_10.out.below hb (by omega))
  clear HVA_10 HEA_10 HVA2_10 HEA2_10 Hbel_10 HBA_10 HBA2_10 HX0_10 HX0b_10 HX1_10 HX1b_10
  clear hb hv11
  have qX1b_0 := HX1b_11.out 0 (by simp)
  have qX1b_1 := HX1b_11.out 1 (by simp)
  have qBA2_0 := HBA2_11.out 0 (by simp)
  have qBA2_1 := HBA2_11.out 1 (by simp)
  simp only [List.getElem_cons_succ, List.getElem_cons_zero] at qX1b_0 qX1b_1 qBA2_0 qBA2_1
  have lqX1b : v8.heap.size < v11.heap.size := by omega
  have lqBA2 : w.heap.size + 1 < v11.heap.size := by omega
  go_wp2_with fail
  go_region_held3 (fun X => X.cell? ⟨v8.heap.size, 0, none⟩ = some (.slice (some ⟨gv8, 0, none⟩) vec2.length vec2.length) ∧ X.cell? ⟨v8.heap.size, 1, none⟩ = some (.slice (some ⟨ge8, 0, none⟩) es2.length es2.length) ∧ X.cell? ⟨w.heap.size + 1, 0, none⟩ = some (.slice AV2 vec2.length cv2) ∧ X.cell? ⟨w.heap.size + 1, 1, none⟩ = some (.slice A2 es2.length c2))
    (first | exact ⟨qX1b_0, qX1b_1, qBA2_0, qBA2_1⟩ | exact ⟨s0, s1, s2, s3⟩ | exact ⟨t0, t1, t2, t3⟩)
    (first
      | (go_at_call 15
         refine (toTree_own AV2 vec2 cv2 A2 es2 c2 _ ((HVA2_11.out.keep fun p _ hp => ?_).mono ?_) ((HEA2_11.out.keep fun p _ hp => ?_).mono ?_) hvlA2 helA2 hblA2).mono ?_
         · rfl
         · show w.heap.size ≤ v11.heap.size; omega
         · rfl
         · show w.heap.size ≤ v11.heap.size; omega
         rintro e wy ⟨gvy, gey, rfl, _, howny, hby⟩
         have hbsy : Below v11.heap.size v11 wy := by first | exact hby | exact (Below.refl v11.heap.size v11).drew.trans hby
         have s0 := (hbsy.cell (p := ⟨v8.heap.size, 0, none⟩) (by show v8.heap.size < v11.heap.size; omega)).trans qX1b_0
         have s1 := (hbsy.cell (p := ⟨v8.heap.size, 1, none⟩) (by show v8.heap.size < v11.heap.size; omega)).trans qX1b_1
         have s2 := (hbsy.cell (p := ⟨w.heap.size + 1, 0, none⟩) (by show w.heap.size + 1 < v11.heap.size; omega)).trans qBA2_0
         have s3 := (hbsy.cell (p := ⟨w.heap.size + 1, 1, none⟩) (by show w.heap.size + 1 < v11.heap.size; omega)).trans qBA2_1
         have hzy := hbsy.size
         have HTy := Lib.hid (show TrOwn wy v11.heap.size wy.heap.size _ vec2 _ es2 from howny)
         have HBy := Lib.hid hbsy
         clear howny hby hbsy)
      | (go_at_call 18
         refine (eqTree_same (some ⟨gv8, 0, none⟩) _ (some ⟨ge8, 0, none⟩) _ vec2 es2 vec2.length _ es2.length _ v7.heap.size v11.heap.size v8.heap.size wy.heap.size _ (HX1_11.out.keep fun p hp hq => ⟨HBy.out.cell (by omega), HBy.out.frozen (by omega)⟩) HTy.out ?_ ?_ hvlA2 helA2 hblA2).mono ?_
         · show v8.heap.size ≤ wy.heap.size; omega
         · exact Nat.le_refl _
         rintro e wz ⟨rfl, hbz⟩
         have hbyz : Below wy.heap.size wy wz := by first | exact hbz | exact (Below.refl wy.heap.size wy).drew.trans hbz
         have t0 := (hbyz.cell (p := ⟨v8.heap.size, 0, none⟩) (by show v8.heap.size < wy.heap.size; omega)).trans s0
         have t1 := (hbyz.cell (p := ⟨v8.heap.size, 1, none⟩) (by show v8.heap.size < wy.heap.size; omega)).trans s1
         have t2 := (hbyz.cell (p := ⟨w.heap.size + 1, 0, none⟩) (by show w.heap.size + 1 < wy.heap.size; omega)).trans s2
         have t3 := (hbyz.cell (p := ⟨w.heap.size + 1, 1, none⟩) (by show w.heap.size + 1 < wy.heap.size; omega)).trans s3
         have HBz := Lib.hid (HBy.out.trans (hbyz.mono (by omega)))
         have hzz : v11.heap.size ≤ wz.heap.size := Nat.le_trans hzy hbyz.size
         clear hbz hbyz))
  obtain ⟨v12, hv12⟩ : ∃ x, x = wz := ⟨_, rfl⟩
  rw [← hv12]
  have hb : Below v11.heap.size v11 v12 := hv12 ▸ HBz.out
  have z12 := hb.size
  clear HBy HTy HBz hzy hzz s0 s1 s2 s3 t0 t1 t2 t3 qX1b_0 qX1b_1 qBA2_0 qBA2_1 lqX1b lqBA2
  have HVA_12 := Lib.hid (HVA_11.out.keep fun p _ hp => hb.cell (by omega))
  have HEA_12 := Lib.hid (HEA_11.out.keep fun p _ hp => hb.cell (by omega))
  have HVA2_12 := Lib.hid (HVA2_11.out.keep fun p _ hp => hb.cell (by omega))
  have HEA2_12 := Lib.hid (HEA2_11.out.keep fun p _ hp => hb.cell (by omega))
  have Hbel_12 := Lib.hid (Hbel_11.out.trans (hb.mono (by omega)))
  have HBA_12 := Lib.hid (HBA_11.out.below hb (by omega))
  have HBA2_12 := Lib.hid (HBA2_11.out.below hb (by omega))
  have HX0_12 := Lib.hid (HX0_11.out.keep fun p hp hq => ⟨hb.cell (by omega), hb.frozen (by omega)⟩)
  have HX0b_12 := Lib.hid (HX0b_11.out.below hb (by omega))
  have HX1_12 := Lib.hid (HX1_11.out.keep fun p hp hq => ⟨hb.cell (by omega), hb.frozen (by omega)⟩)
  have HX1b_12 := Lib.hid (HX1b_11.out.below hb (by omega))
  clear HVA_11 HEA_11 HVA2_11 HEA2_11 Hbel_11 HBA_11 HBA2_11 HX0_11 HX0b_11 HX1_11 HX1b_11
  clear hb hv12
  go_wp2_with fail
  go_ret
  exact ⟨rfl, Hbel_12.out⟩

end Go.Proofs.Ytblmhhijgdkkoaa
