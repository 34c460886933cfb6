/-
  The law on Forked, walked: it answers true, and turns nothing that was there.
-/
import Derived.Test.YtblmhhijgdkkoaaTrM
import Derived.Test.YtblmhhijgdkkoaaMan
import Derived.Test.YtblmhhijgdkkoaaGFol
import Derived.Deep.RegionHeld3
namespace Go.Proofs.Ytblmhhijgdkkoaa
open Go.RowKit Go.Maps

set_option maxRecDepth 100000 in
set_option maxHeartbeats 8000000 in
theorem lawForked_any (AL : Option Addr) (ts : List Tm) (cL : Nat) (au : Int) (sq : Int) (pv : Int) (AV : Option Addr) (vec : List Int) (cv : Nat) (A : Option Addr) (es : List En) (c : Nat) (sg : Int) (au2 : Int) (sq2 : Int) (pv2 : Int) (AV2 : Option Addr) (vec2 : List Int) (cv2 : Nat) (A2 : Option Addr) (es2 : List En) (c2 : Nat) (sg2 : Int) (w : World) (hTAL : TmsIn w 0 w.heap.size AL ts) (nTAL : ts.length ≤ 9223372036854775807) (hVA : IntsIn w 0 w.heap.size AV vec) (hEA : EnsIn w 0 w.heap.size A es) (nVA : vec.length ≤ 9223372036854775807) (nEA : es.length ≤ 9223372036854775807) (nBA : ∀ i (hi : i < es.length), es[i].name.length ≤ 9223372036854775807) (hVA2 : IntsIn w 0 w.heap.size AV2 vec2) (hEA2 : EnsIn w 0 w.heap.size A2 es2) (nVA2 : vec2.length ≤ 9223372036854775807) (nEA2 : es2.length ≤ 9223372036854775807) (nBA2 : ∀ i (hi : i < es2.length), es2[i].name.length ≤ 9223372036854775807) :
    Calls Try.prog 12 #[.agg #[.slice AL ts.length cL], .agg #[.int .i64 au, .int .i64 sq, .int .i64 pv, .slice AV vec.length cv, .slice A es.length c, .int .i64 sg], .agg #[.int .i64 au2, .int .i64 sq2, .int .i64 pv2, .slice AV2 vec2.length cv2, .slice A2 es2.length c2, .int .i64 sg2]] w fun e w' => e = .returned (.bool true) ∧ Below w.heap.size w w' := by
  have HTAL := Lib.hid hTAL
  have HVA := Lib.hid hVA
  have HEA := Lib.hid hEA
  have HnBA := Lib.hid nBA
  have HVA2 := Lib.hid hVA2
  have HEA2 := Lib.hid hEA2
  have HnBA2 := Lib.hid nBA2
  have HBel := Lib.hid (Below.refl w.heap.size w)
  clear hTAL hVA hEA nBA hVA2 hEA2 nBA2
  have z0 : w.heap.size ≤ w.heap.size := Nat.le_refl _
  go_enter Try.func12, Try.ntmps12
  go_wp2_with fail
  obtain ⟨v1, hw1⟩ : ∃ x, x = w.alloc (.cells #[.slice AL ts.length cL] 61) := ⟨_, rfl⟩
  have hbx : Below w.heap.size w v1 := by rw [hw1]; exact (Below.refl _ _).alloc (Nat.le_refl _) _
  have z1 : w.heap.size < v1.heap.size := by rw [hw1]; simp
  have HEs1 := Lib.hid (show v1.heap.size = w.heap.size + 1 by rw [hw1]; simp)
  have HNb1 := Lib.hid (show Bx v1 (w.heap.size) [.slice AL ts.length cL] by rw [hw1]; exact Bx.new' _ _ _ _ rfl)
  rw [← hw1]
  clear hw1
  have HTAL_1 := Lib.hid (HTAL.out.keep fun p _ hp => hbx.cell (by omega))
  have HVA_1 := Lib.hid (HVA.out.keep fun p _ hp => hbx.cell (by omega))
  have HEA_1 := Lib.hid (HEA.out.keep fun p _ hp => hbx.cell (by omega))
  have HVA2_1 := Lib.hid (HVA2.out.keep fun p _ hp => hbx.cell (by omega))
  have HEA2_1 := Lib.hid (HEA2.out.keep fun p _ hp => hbx.cell (by omega))
  have Hbel_1 := Lib.hid (HBel.out.trans (hbx.mono (by omega)))
  clear HTAL HVA HEA HVA2 HEA2 HBel
  clear hbx
  obtain ⟨v2, hw2⟩ : ∃ x, x = v1.alloc (.cells #[.int .i64 au, .int .i64 sq, .int .i64 pv, .slice AV vec.length cv, .slice A es.length c, .int .i64 sg] 48) := ⟨_, rfl⟩
  have hbx : Below v1.heap.size v1 v2 := by rw [hw2]; exact (Below.refl _ _).alloc (Nat.le_refl _) _
  have z2 : v1.heap.size < v2.heap.size := by rw [hw2]; simp
  have HEs2 := Lib.hid (show v2.heap.size = w.heap.size + 1 + 1 by rw [hw2, ← HEs1.out]; simp)
  have HNb2 := Lib.hid (show Bx v2 (w.heap.size + 1) [.int .i64 au, .int .i64 sq, .int .i64 pv, .slice AV vec.length cv, .slice A es.length c, .int .i64 sg] by rw [hw2, ← HEs1.out]; exact Bx.new' _ _ _ _ rfl)
  have hat2 : w.heap.size + 1 = v1.heap.size := HEs1.out.symm
  rw [← hw2]
  clear hw2
  have HTAL_2 := Lib.hid (HTAL_1.out.keep fun p _ hp => hbx.cell (by omega))
  have HVA_2 := Lib.hid (HVA_1.out.keep fun p _ hp => hbx.cell (by omega))
  have HEA_2 := Lib.hid (HEA_1.out.keep fun p _ hp => hbx.cell (by omega))
  have HVA2_2 := Lib.hid (HVA2_1.out.keep fun p _ hp => hbx.cell (by omega))
  have HEA2_2 := Lib.hid (HEA2_1.out.keep fun p _ hp => hbx.cell (by omega))
  have Hbel_2 := Lib.hid (Hbel_1.out.trans (hbx.mono (by omega)))
  have HBAL_2 := Lib.hid (HNb1.out.below hbx (by omega))
  clear HTAL_1 HVA_1 HEA_1 HVA2_1 HEA2_1 Hbel_1 HNb1
  clear hbx
  have hlt2 : w.heap.size + 1 < v2.heap.size := by omega
  clear hat2
  obtain ⟨v3, hw3⟩ : ∃ x, x = v2.alloc (.cells #[.int .i64 au2, .int .i64 sq2, .int .i64 pv2, .slice AV2 vec2.length cv2, .slice A2 es2.length c2, .int .i64 sg2] 48) := ⟨_, rfl⟩
  have hbx : Below v2.heap.size v2 v3 := by rw [hw3]; exact (Below.refl _ _).alloc (Nat.le_refl _) _
  have z3 : v2.heap.size < v3.heap.size := by rw [hw3]; simp
  have HEs3 := Lib.hid (show v3.heap.size = w.heap.size + 1 + 1 + 1 by rw [hw3, ← HEs2.out]; simp)
  have HNb3 := Lib.hid (show Bx v3 (w.heap.size + 1 + 1) [.int .i64 au2, .int .i64 sq2, .int .i64 pv2, .slice AV2 vec2.length cv2, .slice A2 es2.length c2, .int .i64 sg2] by rw [hw3, ← HEs2.out]; exact Bx.new' _ _ _ _ rfl)
  have hat3 : w.heap.size + 1 + 1 = v2.heap.size := HEs2.out.symm
  rw [← hw3]
  clear hw3
  have HTAL_3 := Lib.hid (HTAL_2.out.keep fun p _ hp => hbx.cell (by omega))
  have HVA_3 := Lib.hid (HVA_2.out.keep fun p _ hp => hbx.cell (by omega))
  have HEA_3 := Lib.hid (HEA_2.out.keep fun p _ hp => hbx.cell (by omega))
  have HVA2_3 := Lib.hid (HVA2_2.out.keep fun p _ hp => hbx.cell (by omega))
  have HEA2_3 := Lib.hid (HEA2_2.out.keep fun p _ hp => hbx.cell (by omega))
  have Hbel_3 := Lib.hid (Hbel_2.out.trans (hbx.mono (by omega)))
  have HBAL_3 := Lib.hid (HBAL_2.out.below hbx (by omega))
  have HBA_3 := Lib.hid (HNb2.out.below hbx (by omega))
  clear HTAL_2 HVA_2 HEA_2 HVA2_2 HEA2_2 Hbel_2 HBAL_2 HNb2
  clear hbx
  have hlt3 : w.heap.size + 1 + 1 < v3.heap.size := by omega
  clear hat3
  refine (szLedger_any AL ts cL _ v3 (HTAL_3.out.mono (by omega)) nTAL (by omega) (by omega)).mono ?_
  rintro e v4 ⟨r4, rfl, hsz, hb⟩
  have z4 := hb.size
  have HS4 := Lib.hid hsz
  have HTAL_4 := Lib.hid (HTAL_3.out.keep fun p _ hp => hb.cell (by omega))
  have HVA_4 := Lib.hid (HVA_3.out.keep fun p _ hp => hb.cell (by omega))
  have HEA_4 := Lib.hid (HEA_3.out.keep fun p _ hp => hb.cell (by omega))
  have HVA2_4 := Lib.hid (HVA2_3.out.keep fun p _ hp => hb.cell (by omega))
  have HEA2_4 := Lib.hid (HEA2_3.out.keep fun p _ hp => hb.cell (by omega))
  have Hbel_4 := Lib.hid (Hbel_3.out.trans (hb.mono (by omega)))
  have HBAL_4 := Lib.hid (HBAL_3.out.below hb (by omega))
  have HBA_4 := Lib.hid (HBA_3.out.below hb (by omega))
  have HBA2_4 := Lib.hid (HNb3.out.below hb (by omega))
  clear HTAL_3 HVA_3 HEA_3 HVA2_3 HEA2_3 Hbel_3 HBAL_3 HBA_3 HNb3
  clear hb hsz
  by_cases hr4 : r4 < 0
  · go_wp2_with fail
    all_goals go_ret
    all_goals exact ⟨rfl, Hbel_4.out⟩
  have hp4 : 0 ≤ r4 := by omega
  have hs4 : r4 + (ts.length + bulk ts) ≤ 1048576 := by have := HS4.out; unfold SzOk at this; omega
  have htlAL : ts.length ≤ 1048576 := by omega
  have htbAL : bulk ts ≤ 1048576 := by omega
  have hrl4 : r4 ≤ 1048576 := by omega
  clear hr4 HS4 hs4
  have qBA_0 := HBA_4.out 0 (by simp)
  have qBA_1 := HBA_4.out 1 (by simp)
  have qBA_2 := HBA_4.out 2 (by simp)
  have qBA_3 := HBA_4.out 3 (by simp)
  have qBA_4 := HBA_4.out 4 (by simp)
  have qBA_5 := HBA_4.out 5 (by simp)
  simp only [List.getElem_cons_succ, List.getElem_cons_zero] at qBA_0 qBA_1 qBA_2 qBA_3 qBA_4 qBA_5
  have lqBA : w.heap.size + 1 < v4.heap.size := by omega
  go_wp2_with fail
  refine (szManifest_any au sq pv sg AV vec cv A es c _ v4 (HEA_4.out.mono (by omega)) nVA nEA HnBA.out (by omega) (by omega)).mono ?_
  rintro e v5 ⟨r5, rfl, hsz, hb⟩
  have z5 := hb.size
  have HS5 := Lib.hid hsz
  have HTAL_5 := Lib.hid (HTAL_4.out.keep fun p _ hp => hb.cell (by omega))
  have HVA_5 := Lib.hid (HVA_4.out.keep fun p _ hp => hb.cell (by omega))
  have HEA_5 := Lib.hid (HEA_4.out.keep fun p _ hp => hb.cell (by omega))
  have HVA2_5 := Lib.hid (HVA2_4.out.keep fun p _ hp => hb.cell (by omega))
  have HEA2_5 := Lib.hid (HEA2_4.out.keep fun p _ hp => hb.cell (by omega))
  have Hbel_5 := Lib.hid (Hbel_4.out.trans (hb.mono (by omega)))
  have HBAL_5 := Lib.hid (HBAL_4.out.below hb (by omega))
  have HBA_5 := Lib.hid (HBA_4.out.below hb (by omega))
  have HBA2_5 := Lib.hid (HBA2_4.out.below hb (by omega))
  clear qBA_0 qBA_1 qBA_2 qBA_3 qBA_4 qBA_5 lqBA
  clear HTAL_4 HVA_4 HEA_4 HVA2_4 HEA2_4 Hbel_4 HBAL_4 HBA_4 HBA2_4
  clear hb hsz
  by_cases hr5 : r5 < 0
  · go_wp2_with fail
    all_goals go_ret
    all_goals exact ⟨rfl, Hbel_5.out⟩
  have hp5 : 0 ≤ r5 := by omega
  have hs5 : r5 + (vec.length + (es.length + ebulk es)) ≤ 1048576 := by have := HS5.out; unfold SzOk at this; omega
  have hvlA : vec.length ≤ 1048576 := by omega
  have helA : es.length ≤ 1048576 := by omega
  have hblA : ebulk es ≤ 1048576 := by omega
  have hmoA : mo es ≤ 4194304 := by unfold mo; omega
  have hrl5 : r5 ≤ 1048576 := by omega
  clear hr5 HS5 hs5
  have qBA2_0 := HBA2_5.out 0 (by simp)
  have qBA2_1 := HBA2_5.out 1 (by simp)
  have qBA2_2 := HBA2_5.out 2 (by simp)
  have qBA2_3 := HBA2_5.out 3 (by simp)
  have qBA2_4 := HBA2_5.out 4 (by simp)
  have qBA2_5 := HBA2_5.out 5 (by simp)
  simp only [List.getElem_cons_succ, List.getElem_cons_zero] at qBA2_0 qBA2_1 qBA2_2 qBA2_3 qBA2_4 qBA2_5
  have lqBA2 : w.heap.size + 1 + 1 < v5.heap.size := by omega
  go_wp2_with fail
  refine (szManifest_any au2 sq2 pv2 sg2 AV2 vec2 cv2 A2 es2 c2 _ v5 (HEA2_5.out.mono (by omega)) nVA2 nEA2 HnBA2.out (by omega) (by omega)).mono ?_
  rintro e v6 ⟨r6, rfl, hsz, hb⟩
  have z6 := hb.size
  have HS6 := Lib.hid hsz
  have HTAL_6 := Lib.hid (HTAL_5.out.keep fun p _ hp => hb.cell (by omega))
  have HVA_6 := Lib.hid (HVA_5.out.keep fun p _ hp => hb.cell (by omega))
  have HEA_6 := Lib.hid (HEA_5.out.keep fun p _ hp => hb.cell (by omega))
  have HVA2_6 := Lib.hid (HVA2_5.out.keep fun p _ hp => hb.cell (by omega))
  have HEA2_6 := Lib.hid (HEA2_5.out.keep fun p _ hp => hb.cell (by omega))
  have Hbel_6 := Lib.hid (Hbel_5.out.trans (hb.mono (by omega)))
  have HBAL_6 := Lib.hid (HBAL_5.out.below hb (by omega))
  have HBA_6 := Lib.hid (HBA_5.out.below hb (by omega))
  have HBA2_6 := Lib.hid (HBA2_5.out.below hb (by omega))
  clear qBA2_0 qBA2_1 qBA2_2 qBA2_3 qBA2_4 qBA2_5 lqBA2
  clear HTAL_5 HVA_5 HEA_5 HVA2_5 HEA2_5 Hbel_5 HBAL_5 HBA_5 HBA2_5
  clear hb hsz
  by_cases hr6 : r6 < 0
  · go_wp2_with fail
    all_goals go_ret
    all_goals exact ⟨rfl, Hbel_6.out⟩
  have hp6 : 0 ≤ r6 := by omega
  have hs6 : r6 + (vec2.length + (es2.length + ebulk es2)) ≤ 1048576 := by have := HS6.out; unfold SzOk at this; omega
  have hvlA2 : vec2.length ≤ 1048576 := by omega
  have helA2 : es2.length ≤ 1048576 := by omega
  have hblA2 : ebulk es2 ≤ 1048576 := by omega
  have hmoA2 : mo es2 ≤ 4194304 := by unfold mo; omega
  have hrl6 : r6 ≤ 1048576 := by omega
  clear hr6 HS6 hs6
  have qBAL_0 := HBAL_6.out 0 (by simp)
  have qBA_0 := HBA_6.out 0 (by simp)
  have qBA_1 := HBA_6.out 1 (by simp)
  have qBA_2 := HBA_6.out 2 (by simp)
  have qBA_3 := HBA_6.out 3 (by simp)
  have qBA_4 := HBA_6.out 4 (by simp)
  have qBA_5 := HBA_6.out 5 (by simp)
  have qBA2_0 := HBA2_6.out 0 (by simp)
  have qBA2_1 := HBA2_6.out 1 (by simp)
  have qBA2_2 := HBA2_6.out 2 (by simp)
  have qBA2_3 := HBA2_6.out 3 (by simp)
  have qBA2_4 := HBA2_6.out 4 (by simp)
  have qBA2_5 := HBA2_6.out 5 (by simp)
  simp only [List.getElem_cons_succ, List.getElem_cons_zero] at qBAL_0 qBA_0 qBA_1 qBA_2 qBA_3 qBA_4 qBA_5 qBA2_0 qBA2_1 qBA2_2 qBA2_3 qBA2_4 qBA2_5
  have lqBAL : w.heap.size < v6.heap.size := by omega
  have lqBA : w.heap.size + 1 < v6.heap.size := by omega
  have lqBA2 : w.heap.size + 1 + 1 < v6.heap.size := by omega
  go_wp2_with fail
  have mk0 : True := trivial
  have mk1 : True := trivial
  have mk2 : True := trivial
  go_region_held3 (fun X => X.cell? ⟨w.heap.size, 0, none⟩ = some (.slice AL ts.length cL) ∧ X.cell? ⟨w.heap.size + 1, 0, none⟩ = some (.int .i64 au) ∧ X.cell? ⟨w.heap.size + 1, 1, none⟩ = some (.int .i64 sq) ∧ X.cell? ⟨w.heap.size + 1, 2, none⟩ = some (.int .i64 pv) ∧ X.cell? ⟨w.heap.size + 1, 3, none⟩ = some (.slice AV vec.length cv) ∧ X.cell? ⟨w.heap.size + 1, 4, none⟩ = some (.slice A es.length c) ∧ X.cell? ⟨w.heap.size + 1, 5, none⟩ = some (.int .i64 sg) ∧ X.cell? ⟨w.heap.size + 1 + 1, 0, none⟩ = some (.int .i64 au2) ∧ X.cell? ⟨w.heap.size + 1 + 1, 1, none⟩ = some (.int .i64 sq2) ∧ X.cell? ⟨w.heap.size + 1 + 1, 2, none⟩ = some (.int .i64 pv2) ∧ X.cell? ⟨w.heap.size + 1 + 1, 3, none⟩ = some (.slice AV2 vec2.length cv2) ∧ X.cell? ⟨w.heap.size + 1 + 1, 4, none⟩ = some (.slice A2 es2.length c2) ∧ X.cell? ⟨w.heap.size + 1 + 1, 5, none⟩ = some (.int .i64 sg2))
    (first | with_reducible exact ⟨qBAL_0, qBA_0, qBA_1, qBA_2, qBA_3, qBA_4, qBA_5, qBA2_0, qBA2_1, qBA2_2, qBA2_3, qBA2_4, qBA2_5⟩ | exact ⟨qBAL_0, qBA_0, qBA_1, qBA_2, qBA_3, qBA_4, qBA_5, qBA2_0, qBA2_1, qBA2_2, qBA2_3, qBA2_4, qBA2_5⟩ | with_reducible exact ⟨s0, s1, s2, s3, s4, s5, s6, s7, s8, s9, s10, s11, s12⟩ | with_reducible exact ⟨t0, t1, t2, t3, t4, t5, t6, t7, t8, t9, t10, t11, t12⟩ | with_reducible exact ⟨u0, u1, u2, u3, u4, u5, u6, u7, u8, u9, u10, u11, u12⟩ | with_reducible exact ⟨cd0, cd1, cd2, cd3, cd4, cd5, cd6, cd7, cd8, cd9, cd10, cd11, cd12⟩)
    (first
      | (clear mk0; go_at_call 43
         refine (toLedger_any AL ts cL _ ((HTAL_6.out.keep fun p _ hp => ?_).mono ?_) htlAL htbAL).mono ?_
         · rfl
         · show w.heap.size ≤ v6.heap.size; omega
         rintro e y0 ⟨gty0, rfl, _, hown0, hbp0⟩
         have hbs0 : Below v6.heap.size v6 y0 := by first | exact hbp0 | exact (Below.refl v6.heap.size v6).drew.trans hbp0
         have s0 := (hbs0.cell (p := ⟨w.heap.size, 0, none⟩) lqBAL).trans qBAL_0
         have s1 := (hbs0.cell (p := ⟨w.heap.size + 1, 0, none⟩) lqBA).trans qBA_0
         have s2 := (hbs0.cell (p := ⟨w.heap.size + 1, 1, none⟩) lqBA).trans qBA_1
         have s3 := (hbs0.cell (p := ⟨w.heap.size + 1, 2, none⟩) lqBA).trans qBA_2
         have s4 := (hbs0.cell (p := ⟨w.heap.size + 1, 3, none⟩) lqBA).trans qBA_3
         have s5 := (hbs0.cell (p := ⟨w.heap.size + 1, 4, none⟩) lqBA).trans qBA_4
         have s6 := (hbs0.cell (p := ⟨w.heap.size + 1, 5, none⟩) lqBA).trans qBA_5
         have s7 := (hbs0.cell (p := ⟨w.heap.size + 1 + 1, 0, none⟩) lqBA2).trans qBA2_0
         have s8 := (hbs0.cell (p := ⟨w.heap.size + 1 + 1, 1, none⟩) lqBA2).trans qBA2_1
         have s9 := (hbs0.cell (p := ⟨w.heap.size + 1 + 1, 2, none⟩) lqBA2).trans qBA2_2
         have s10 := (hbs0.cell (p := ⟨w.heap.size + 1 + 1, 3, none⟩) lqBA2).trans qBA2_3
         have s11 := (hbs0.cell (p := ⟨w.heap.size + 1 + 1, 4, none⟩) lqBA2).trans qBA2_4
         have s12 := (hbs0.cell (p := ⟨w.heap.size + 1 + 1, 5, none⟩) lqBA2).trans qBA2_5
         have HBs0 := Lib.hid hbs0
         have hzs0 := hbs0.size
         have HMc0 := Lib.hid (show TmsIn y0 v6.heap.size y0.heap.size (some ⟨gty0, 0, none⟩) ts from hown0)
         clear hown0 hbp0 hbs0)
      | (clear mk1; go_at_call 32
         refine (toManifest_own au sq pv sg AV vec cv A es c y0 ((HVA_6.out.keep fun p _ hp => ?_).mono ?_) ((HEA_6.out.keep fun p _ hp => ?_).mono ?_) hvlA helA hblA).mono ?_
         · exact HBs0.out.cell (by omega)
         · show w.heap.size ≤ y0.heap.size; omega
         · exact HBs0.out.cell (by omega)
         · show w.heap.size ≤ y0.heap.size; omega
         rintro e y1 ⟨gvy1, gey1, rfl, _, hown1, hbp1⟩
         have hbs1 : Below v6.heap.size v6 y1 := HBs0.out.trans (hbp1.mono HBs0.out.size)
         have t0 := (hbs1.cell (p := ⟨w.heap.size, 0, none⟩) lqBAL).trans qBAL_0
         have t1 := (hbs1.cell (p := ⟨w.heap.size + 1, 0, none⟩) lqBA).trans qBA_0
         have t2 := (hbs1.cell (p := ⟨w.heap.size + 1, 1, none⟩) lqBA).trans qBA_1
         have t3 := (hbs1.cell (p := ⟨w.heap.size + 1, 2, none⟩) lqBA).trans qBA_2
         have t4 := (hbs1.cell (p := ⟨w.heap.size + 1, 3, none⟩) lqBA).trans qBA_3
         have t5 := (hbs1.cell (p := ⟨w.heap.size + 1, 4, none⟩) lqBA).trans qBA_4
         have t6 := (hbs1.cell (p := ⟨w.heap.size + 1, 5, none⟩) lqBA).trans qBA_5
         have t7 := (hbs1.cell (p := ⟨w.heap.size + 1 + 1, 0, none⟩) lqBA2).trans qBA2_0
         have t8 := (hbs1.cell (p := ⟨w.heap.size + 1 + 1, 1, none⟩) lqBA2).trans qBA2_1
         have t9 := (hbs1.cell (p := ⟨w.heap.size + 1 + 1, 2, none⟩) lqBA2).trans qBA2_2
         have t10 := (hbs1.cell (p := ⟨w.heap.size + 1 + 1, 3, none⟩) lqBA2).trans qBA2_3
         have t11 := (hbs1.cell (p := ⟨w.heap.size + 1 + 1, 4, none⟩) lqBA2).trans qBA2_4
         have t12 := (hbs1.cell (p := ⟨w.heap.size + 1 + 1, 5, none⟩) lqBA2).trans qBA2_5
         have HBs1 := Lib.hid hbs1
         have hzs1 := hbs1.size
         have hzp1 := hbp1.size
         have HMc0_ := Lib.hid (HMc0.out.keep fun p _ hp => hbp1.cell (by omega))
         have HMc1 := Lib.hid (show TrOwn y1 y0.heap.size y1.heap.size (some ⟨gvy1, 0, none⟩) vec (some ⟨gey1, 0, none⟩) es from hown1)
         clear hown1 hbp1 hbs1)
      | (clear mk2; go_at_call 32
         refine (toManifest_own au2 sq2 pv2 sg2 AV2 vec2 cv2 A2 es2 c2 y1 ((HVA2_6.out.keep fun p _ hp => ?_).mono ?_) ((HEA2_6.out.keep fun p _ hp => ?_).mono ?_) hvlA2 helA2 hblA2).mono ?_
         · exact HBs1.out.cell (by omega)
         · show w.heap.size ≤ y1.heap.size; omega
         · exact HBs1.out.cell (by omega)
         · show w.heap.size ≤ y1.heap.size; omega
         rintro e y2 ⟨gvy2, gey2, rfl, _, hown2, hbp2⟩
         have hbs2 : Below v6.heap.size v6 y2 := HBs1.out.trans (hbp2.mono HBs1.out.size)
         have u0 := (hbs2.cell (p := ⟨w.heap.size, 0, none⟩) lqBAL).trans qBAL_0
         have u1 := (hbs2.cell (p := ⟨w.heap.size + 1, 0, none⟩) lqBA).trans qBA_0
         have u2 := (hbs2.cell (p := ⟨w.heap.size + 1, 1, none⟩) lqBA).trans qBA_1
         have u3 := (hbs2.cell (p := ⟨w.heap.size + 1, 2, none⟩) lqBA).trans qBA_2
         have u4 := (hbs2.cell (p := ⟨w.heap.size + 1, 3, none⟩) lqBA).trans qBA_3
         have u5 := (hbs2.cell (p := ⟨w.heap.size + 1, 4, none⟩) lqBA).trans qBA_4
         have u6 := (hbs2.cell (p := ⟨w.heap.size + 1, 5, none⟩) lqBA).trans qBA_5
         have u7 := (hbs2.cell (p := ⟨w.heap.size + 1 + 1, 0, none⟩) lqBA2).trans qBA2_0
         have u8 := (hbs2.cell (p := ⟨w.heap.size + 1 + 1, 1, none⟩) lqBA2).trans qBA2_1
         have u9 := (hbs2.cell (p := ⟨w.heap.size + 1 + 1, 2, none⟩) lqBA2).trans qBA2_2
         have u10 := (hbs2.cell (p := ⟨w.heap.size + 1 + 1, 3, none⟩) lqBA2).trans qBA2_3
         have u11 := (hbs2.cell (p := ⟨w.heap.size + 1 + 1, 4, none⟩) lqBA2).trans qBA2_4
         have u12 := (hbs2.cell (p := ⟨w.heap.size + 1 + 1, 5, none⟩) lqBA2).trans qBA2_5
         have HBs2 := Lib.hid hbs2
         have hzs2 := hbs2.size
         have hzp2 := hbp2.size
         have HMc0__ := Lib.hid (HMc0_.out.keep fun p _ hp => hbp2.cell (by omega))
         have HMc1_ := Lib.hid (HMc1.out.keep fun p hp hq => ⟨hbp2.cell (by omega), hbp2.frozen (by omega)⟩)
         have HMc2 := Lib.hid (show TrOwn y2 y1.heap.size y2.heap.size (some ⟨gvy2, 0, none⟩) vec2 (some ⟨gey2, 0, none⟩) es2 from hown2)
         clear hown2 hbp2 hbs2)
      | (go_at_call 50
         refine (specForked_any (some ⟨gty0, 0, none⟩) ts ts.length au sq pv (some ⟨gvy1, 0, none⟩) vec vec.length (some ⟨gey1, 0, none⟩) es es.length sg au2 sq2 pv2 (some ⟨gvy2, 0, none⟩) vec2 vec2.length (some ⟨gey2, 0, none⟩) es2 es2.length sg2 y2 ((HMc0__.out.low (Nat.zero_le _)).mono (by omega)) htlAL htbAL ((HMc1_.out.vecIn.ints.low (Nat.zero_le _)).mono (by omega)) ((HMc1_.out.ensIn.ens.low (Nat.zero_le _)).mono (by omega)) hvlA helA hblA ((HMc2.out.vecIn.ints.low (Nat.zero_le _)).mono (by omega)) ((HMc2.out.ensIn.ens.low (Nat.zero_le _)).mono (by omega)) hvlA2 helA2 hblA2).mono ?_
         rintro e y3 ⟨rfl, hbp3⟩
         have hbs3 : Below v6.heap.size v6 y3 := HBs2.out.trans (hbp3.mono HBs2.out.size)
         have cd0 := (hbs3.cell (p := ⟨w.heap.size, 0, none⟩) lqBAL).trans qBAL_0
         have cd1 := (hbs3.cell (p := ⟨w.heap.size + 1, 0, none⟩) lqBA).trans qBA_0
         have cd2 := (hbs3.cell (p := ⟨w.heap.size + 1, 1, none⟩) lqBA).trans qBA_1
         have cd3 := (hbs3.cell (p := ⟨w.heap.size + 1, 2, none⟩) lqBA).trans qBA_2
         have cd4 := (hbs3.cell (p := ⟨w.heap.size + 1, 3, none⟩) lqBA).trans qBA_3
         have cd5 := (hbs3.cell (p := ⟨w.heap.size + 1, 4, none⟩) lqBA).trans qBA_4
         have cd6 := (hbs3.cell (p := ⟨w.heap.size + 1, 5, none⟩) lqBA).trans qBA_5
         have cd7 := (hbs3.cell (p := ⟨w.heap.size + 1 + 1, 0, none⟩) lqBA2).trans qBA2_0
         have cd8 := (hbs3.cell (p := ⟨w.heap.size + 1 + 1, 1, none⟩) lqBA2).trans qBA2_1
         have cd9 := (hbs3.cell (p := ⟨w.heap.size + 1 + 1, 2, none⟩) lqBA2).trans qBA2_2
         have cd10 := (hbs3.cell (p := ⟨w.heap.size + 1 + 1, 3, none⟩) lqBA2).trans qBA2_3
         have cd11 := (hbs3.cell (p := ⟨w.heap.size + 1 + 1, 4, none⟩) lqBA2).trans qBA2_4
         have cd12 := (hbs3.cell (p := ⟨w.heap.size + 1 + 1, 5, none⟩) lqBA2).trans qBA2_5
         have HBs3 := Lib.hid hbs3
         have hzs3 := hbs3.size
         have hzp3 := hbp3.size
         have HMc0___ := Lib.hid (HMc0__.out.keep fun p _ hp => hbp3.cell (by omega))
         have HMc1__ := Lib.hid (HMc1_.out.keep fun p hp hq => ⟨hbp3.cell (by omega), hbp3.frozen (by omega)⟩)
         have HMc2_ := Lib.hid (HMc2.out.keep fun p hp hq => ⟨hbp3.cell (by omega), hbp3.frozen (by omega)⟩)
         clear hbp3 hbs3))
  obtain ⟨v7, hv7⟩ : ∃ x, x = y3 := ⟨_, rfl⟩
  rw [← hv7]
  have hb : Below v6.heap.size v6 v7 := hv7 ▸ HBs3.out
  have z7 := hb.size
  clear s0 s1 s2 s3 s4 s5 s6 s7 s8 s9 s10 s11 s12 t0 t1 t2 t3 t4 t5 t6 t7 t8 t9 t10 t11 t12 u0 u1 u2 u3 u4 u5 u6 u7 u8 u9 u10 u11 u12 cd0 cd1 cd2 cd3 cd4 cd5 cd6 cd7 cd8 cd9 cd10 cd11 cd12 qBAL_0 qBA_0 qBA_1 qBA_2 qBA_3 qBA_4 qBA_5 qBA2_0 qBA2_1 qBA2_2 qBA2_3 qBA2_4 qBA2_5 lqBAL lqBA lqBA2
  have HTAL_7 := Lib.hid (HTAL_6.out.keep fun p _ hp => hb.cell (by omega))
  have HVA_7 := Lib.hid (HVA_6.out.keep fun p _ hp => hb.cell (by omega))
  have HEA_7 := Lib.hid (HEA_6.out.keep fun p _ hp => hb.cell (by omega))
  have HVA2_7 := Lib.hid (HVA2_6.out.keep fun p _ hp => hb.cell (by omega))
  have HEA2_7 := Lib.hid (HEA2_6.out.keep fun p _ hp => hb.cell (by omega))
  have Hbel_7 := Lib.hid (Hbel_6.out.trans (hb.mono (by omega)))
  have HBAL_7 := Lib.hid (HBAL_6.out.below hb (by omega))
  have HBA_7 := Lib.hid (HBA_6.out.below hb (by omega))
  have HBA2_7 := Lib.hid (HBA2_6.out.below hb (by omega))
  clear HTAL_6 HVA_6 HEA_6 HVA2_6 HEA2_6 Hbel_6 HBAL_6 HBA_6 HBA2_6
  clear hb hv7
  have qBAL_0 := HBAL_7.out 0 (by simp)
  simp only [List.getElem_cons_zero] at qBAL_0
  have lqBAL : w.heap.size < v7.heap.size := by omega
  go_wp2_with fail
  refine (toLedger_any AL ts cL v7 (HTAL_7.out.mono (by omega)) htlAL htbAL).mono ?_
  rintro e v8 ⟨gt8, rfl, _, hown, hb⟩
  have z8 := hb.size
  have HN8 := Lib.hid hown
  have HTAL_8 := Lib.hid (HTAL_7.out.keep fun p _ hp => hb.cell (by omega))
  have HVA_8 := Lib.hid (HVA_7.out.keep fun p _ hp => hb.cell (by omega))
  have HEA_8 := Lib.hid (HEA_7.out.keep fun p _ hp => hb.cell (by omega))
  have HVA2_8 := Lib.hid (HVA2_7.out.keep fun p _ hp => hb.cell (by omega))
  have HEA2_8 := Lib.hid (HEA2_7.out.keep fun p _ hp => hb.cell (by omega))
  have Hbel_8 := Lib.hid (Hbel_7.out.trans (hb.mono (by omega)))
  have HBAL_8 := Lib.hid (HBAL_7.out.below hb (by omega))
  have HBA_8 := Lib.hid (HBA_7.out.below hb (by omega))
  have HBA2_8 := Lib.hid (HBA2_7.out.below hb (by omega))
  clear qBAL_0 lqBAL
  clear HTAL_7 HVA_7 HEA_7 HVA2_7 HEA2_7 Hbel_7 HBAL_7 HBA_7 HBA2_7
  clear hb hown
  have qBA_0 := HBA_8.out 0 (by simp)
  have qBA_1 := HBA_8.out 1 (by simp)
  have qBA_2 := HBA_8.out 2 (by simp)
  have qBA_3 := HBA_8.out 3 (by simp)
  have qBA_4 := HBA_8.out 4 (by simp)
  have qBA_5 := HBA_8.out 5 (by simp)
  simp only [List.getElem_cons_succ, List.getElem_cons_zero] at qBA_0 qBA_1 qBA_2 qBA_3 qBA_4 qBA_5
  have lqBA : w.heap.size + 1 < v8.heap.size := by omega
  go_wp2_with fail
  obtain ⟨v9, hw9⟩ : ∃ x, x = v8.alloc (.cells #[.slice (some ⟨gt8, 0, none⟩) ts.length ts.length] 66) := ⟨_, rfl⟩
  have hbx : Below v8.heap.size v8 v9 := by rw [hw9]; exact (Below.refl _ _).alloc (Nat.le_refl _) _
  have z9 : v8.heap.size < v9.heap.size := by rw [hw9]; simp
  have HNb9 := Lib.hid (show Bx v9 (v8.heap.size) [.slice (some ⟨gt8, 0, none⟩) ts.length ts.length] by rw [hw9]; exact Bx.new' _ _ _ _ rfl)
  rw [← hw9]
  clear hw9
  have HTAL_9 := Lib.hid (HTAL_8.out.keep fun p _ hp => hbx.cell (by omega))
  have HVA_9 := Lib.hid (HVA_8.out.keep fun p _ hp => hbx.cell (by omega))
  have HEA_9 := Lib.hid (HEA_8.out.keep fun p _ hp => hbx.cell (by omega))
  have HVA2_9 := Lib.hid (HVA2_8.out.keep fun p _ hp => hbx.cell (by omega))
  have HEA2_9 := Lib.hid (HEA2_8.out.keep fun p _ hp => hbx.cell (by omega))
  have Hbel_9 := Lib.hid (Hbel_8.out.trans (hbx.mono (by omega)))
  have HBAL_9 := Lib.hid (HBAL_8.out.below hbx (by omega))
  have HBA_9 := Lib.hid (HBA_8.out.below hbx (by omega))
  have HBA2_9 := Lib.hid (HBA2_8.out.below hbx (by omega))
  have HX0_9 := Lib.hid (HN8.out.keep fun p _ hp => hbx.cell (by omega))
  clear qBA_0 qBA_1 qBA_2 qBA_3 qBA_4 qBA_5 lqBA
  clear HTAL_8 HVA_8 HEA_8 HVA2_8 HEA2_8 Hbel_8 HBAL_8 HBA_8 HBA2_8 HN8
  clear hbx
  refine (toManifest_own au sq pv sg AV vec cv A es c v9 (HVA_9.out.mono (by omega)) (HEA_9.out.mono (by omega)) hvlA helA hblA).mono ?_
  rintro e v10 ⟨gv10, ge10, rfl, _, hown, hb⟩
  have z10 := hb.size
  have HN10 := Lib.hid hown
  have HTAL_10 := Lib.hid (HTAL_9.out.keep fun p _ hp => hb.cell (by omega))
  have HVA_10 := Lib.hid (HVA_9.out.keep fun p _ hp => hb.cell (by omega))
  have HEA_10 := Lib.hid (HEA_9.out.keep fun p _ hp => hb.cell (by omega))
  have HVA2_10 := Lib.hid (HVA2_9.out.keep fun p _ hp => hb.cell (by omega))
  have HEA2_10 := Lib.hid (HEA2_9.out.keep fun p _ hp => hb.cell (by omega))
  have Hbel_10 := Lib.hid (Hbel_9.out.trans (hb.mono (by omega)))
  have HBAL_10 := Lib.hid (HBAL_9.out.below hb (by omega))
  have HBA_10 := Lib.hid (HBA_9.out.below hb (by omega))
  have HBA2_10 := Lib.hid (HBA2_9.out.below hb (by omega))
  have HX0_10 := Lib.hid (HX0_9.out.keep fun p _ hp => hb.cell (by omega))
  have HX0b_10 := Lib.hid (HNb9.out.below hb (by omega))
  clear HTAL_9 HVA_9 HEA_9 HVA2_9 HEA2_9 Hbel_9 HBAL_9 HBA_9 HBA2_9 HX0_9 HNb9
  clear hb hown
  have qBA2_0 := HBA2_10.out 0 (by simp)
  have qBA2_1 := HBA2_10.out 1 (by simp)
  have qBA2_2 := HBA2_10.out 2 (by simp)
  have qBA2_3 := HBA2_10.out 3 (by simp)
  have qBA2_4 := HBA2_10.out 4 (by simp)
  have qBA2_5 := HBA2_10.out 5 (by simp)
  simp only [List.getElem_cons_succ, List.getElem_cons_zero] at qBA2_0 qBA2_1 qBA2_2 qBA2_3 qBA2_4 qBA2_5
  have lqBA2 : w.heap.size + 1 + 1 < v10.heap.size := by omega
  go_wp2_with fail
  obtain ⟨v11, hw11⟩ : ∃ x, x = v10.alloc (.cells #[.int .i64 au, .int .i64 sq, .int .i64 pv, .slice (some ⟨gv10, 0, none⟩) vec.length vec.length, .slice (some ⟨ge10, 0, none⟩) es.length es.length, .int .i64 sg] 52) := ⟨_, rfl⟩
  have hbx : Below v10.heap.size v10 v11 := by rw [hw11]; exact (Below.refl _ _).alloc (Nat.le_refl _) _
  have z11 : v10.heap.size < v11.heap.size := by rw [hw11]; simp
  have HNb11 := Lib.hid (show Bx v11 (v10.heap.size) [.int .i64 au, .int .i64 sq, .int .i64 pv, .slice (some ⟨gv10, 0, none⟩) vec.length vec.length, .slice (some ⟨ge10, 0, none⟩) es.length es.length, .int .i64 sg] by rw [hw11]; exact Bx.new' _ _ _ _ rfl)
  rw [← hw11]
  clear hw11
  have HTAL_11 := Lib.hid (HTAL_10.out.keep fun p _ hp => hbx.cell (by omega))
  have HVA_11 := Lib.hid (HVA_10.out.keep fun p _ hp => hbx.cell (by omega))
  have HEA_11 := Lib.hid (HEA_10.out.keep fun p _ hp => hbx.cell (by omega))
  have HVA2_11 := Lib.hid (HVA2_10.out.keep fun p _ hp => hbx.cell (by omega))
  have HEA2_11 := Lib.hid (HEA2_10.out.keep fun p _ hp => hbx.cell (by omega))
  have Hbel_11 := Lib.hid (Hbel_10.out.trans (hbx.mono (by omega)))
  have HBAL_11 := Lib.hid (HBAL_10.out.below hbx (by omega))
  have HBA_11 := Lib.hid (HBA_10.out.below hbx (by omega))
  have HBA2_11 := Lib.hid (HBA2_10.out.below hbx (by omega))
  have HX0_11 := Lib.hid (HX0_10.out.keep fun p _ hp => hbx.cell (by omega))
  have HX0b_11 := Lib.hid (HX0b_10.out.below hbx (by omega))
  have HX1_11 := Lib.hid (HN10.out.keep fun p hp hq => ⟨hbx.cell (by omega), hbx.frozen (by omega)⟩)
  clear qBA2_0 qBA2_1 qBA2_2 qBA2_3 qBA2_4 qBA2_5 lqBA2
  clear HTAL_10 HVA_10 HEA_10 HVA2_10 HEA2_10 Hbel_10 HBAL_10 HBA_10 HBA2_10 HX0_10 HX0b_10 HN10
  clear hbx
  refine (toManifest_own au2 sq2 pv2 sg2 AV2 vec2 cv2 A2 es2 c2 v11 (HVA2_11.out.mono (by omega)) (HEA2_11.out.mono (by omega)) hvlA2 helA2 hblA2).mono ?_
  rintro e v12 ⟨gv12, ge12, rfl, _, hown, hb⟩
  have z12 := hb.size
  have HN12 := Lib.hid hown
  have HTAL_12 := Lib.hid (HTAL_11.out.keep fun p _ hp => hb.cell (by omega))
  have HVA_12 := Lib.hid (HVA_11.out.keep fun p _ hp => hb.cell (by omega))
  have HEA_12 := Lib.hid (HEA_11.out.keep fun p _ hp => hb.cell (by omega))
  have HVA2_12 := Lib.hid (HVA2_11.out.keep fun p _ hp => hb.cell (by omega))
  have HEA2_12 := Lib.hid (HEA2_11.out.keep fun p _ hp => hb.cell (by omega))
  have Hbel_12 := Lib.hid (Hbel_11.out.trans (hb.mono (by omega)))
  have HBAL_12 := Lib.hid (HBAL_11.out.below hb (by omega))
  have HBA_12 := Lib.hid (HBA_11.out.below hb (by omega))
  have HBA2_12 := Lib.hid (HBA2_11.out.below hb (by omega))
  have HX0_12 := Lib.hid (HX0_11.out.keep fun p _ hp => hb.cell (by omega))
  have HX0b_12 := Lib.hid (HX0b_11.out.below hb (by omega))
  have HX1_12 := Lib.hid (HX1_11.out.keep fun p hp hq => ⟨hb.cell (by omega), hb.frozen (by omega)⟩)
  have HX1b_12 := Lib.hid (HNb11.out.below hb (by omega))
  clear HTAL_11 HVA_11 HEA_11 HVA2_11 HEA2_11 Hbel_11 HBAL_11 HBA_11 HBA2_11 HX0_11 HX0b_11 HX1_11 HNb11
  clear hb hown
  have qX0b_0 := HX0b_12.out 0 (by simp)
  have qX1b_0 := HX1b_12.out 0 (by simp)
  have qX1b_1 := HX1b_12.out 1 (by simp)
  have qX1b_2 := HX1b_12.out 2 (by simp)
  have qX1b_3 := HX1b_12.out 3 (by simp)
  have qX1b_4 := HX1b_12.out 4 (by simp)
  have qX1b_5 := HX1b_12.out 5 (by simp)
  simp only [List.getElem_cons_succ, List.getElem_cons_zero] at qX0b_0 qX1b_0 qX1b_1 qX1b_2 qX1b_3 qX1b_4 qX1b_5
  have lqX0b : v8.heap.size < v12.heap.size := by omega
  have lqX1b : v10.heap.size < v12.heap.size := by omega
  go_wp2_with fail
  obtain ⟨v13, hw13⟩ : ∃ x, x = v12.alloc (.cells #[.int .i64 au2, .int .i64 sq2, .int .i64 pv2, .slice (some ⟨gv12, 0, none⟩) vec2.length vec2.length, .slice (some ⟨ge12, 0, none⟩) es2.length es2.length, .int .i64 sg2] 52) := ⟨_, rfl⟩
  have hbx : Below v12.heap.size v12 v13 := by rw [hw13]; exact (Below.refl _ _).alloc (Nat.le_refl _) _
  have z13 : v12.heap.size < v13.heap.size := by rw [hw13]; simp
  have HNb13 := Lib.hid (show Bx v13 (v12.heap.size) [.int .i64 au2, .int .i64 sq2, .int .i64 pv2, .slice (some ⟨gv12, 0, none⟩) vec2.length vec2.length, .slice (some ⟨ge12, 0, none⟩) es2.length es2.length, .int .i64 sg2] by rw [hw13]; exact Bx.new' _ _ _ _ rfl)
  rw [← hw13]
  clear hw13
  have HTAL_13 := Lib.hid (HTAL_12.out.keep fun p _ hp => hbx.cell (by omega))
  have HVA_13 := Lib.hid (HVA_12.out.keep fun p _ hp => hbx.cell (by omega))
  have HEA_13 := Lib.hid (HEA_12.out.keep fun p _ hp => hbx.cell (by omega))
  have HVA2_13 := Lib.hid (HVA2_12.out.keep fun p _ hp => hbx.cell (by omega))
  have HEA2_13 := Lib.hid (HEA2_12.out.keep fun p _ hp => hbx.cell (by omega))
  have Hbel_13 := Lib.hid (Hbel_12.out.trans (hbx.mono (by omega)))
  have HBAL_13 := Lib.hid (HBAL_12.out.below hbx (by omega))
  have HBA_13 := Lib.hid (HBA_12.out.below hbx (by omega))
  have HBA2_13 := Lib.hid (HBA2_12.out.below hbx (by omega))
  have HX0_13 := Lib.hid (HX0_12.out.keep fun p _ hp => hbx.cell (by omega))
  have HX0b_13 := Lib.hid (HX0b_12.out.below hbx (by omega))
  have HX1_13 := Lib.hid (HX1_12.out.keep fun p hp hq => ⟨hbx.cell (by omega), hbx.frozen (by omega)⟩)
  have HX1b_13 := Lib.hid (HX1b_12.out.below hbx (by omega))
  have HX2_13 := Lib.hid (HN12.out.keep fun p hp hq => ⟨hbx.cell (by omega), hbx.frozen (by omega)⟩)
  clear qX0b_0 qX1b_0 qX1b_1 qX1b_2 qX1b_3 qX1b_4 qX1b_5 lqX0b lqX1b
  clear HTAL_12 HVA_12 HEA_12 HVA2_12 HEA2_12 Hbel_12 HBAL_12 HBA_12 HBA2_12 HX0_12 HX0b_12 HX1_12 HX1b_12 HN12
  clear hbx
  refine (implForked_any (some ⟨gt8, 0, none⟩) ts ts.length au sq pv (some ⟨gv10, 0, none⟩) vec vec.length (some ⟨ge10, 0, none⟩) es es.length sg au2 sq2 pv2 (some ⟨gv12, 0, none⟩) vec2 vec2.length (some ⟨ge12, 0, none⟩) es2 es2.length sg2 v13 ((HX0_13.out.low (Nat.zero_le _)).mono (by omega)) htlAL htbAL ((HX1_13.out.vecIn.ints.low (Nat.zero_le _)).mono (by omega)) ((HX1_13.out.ensIn.ens.low (Nat.zero_le _)).mono (by omega)) hvlA helA hblA ((HX2_13.out.vecIn.ints.low (Nat.zero_le _)).mono (by omega)) ((HX2_13.out.ensIn.ens.low (Nat.zero_le _)).mono (by omega)) hvlA2 helA2 hblA2).mono ?_
  rintro e v14 ⟨rfl, hb⟩
  have z14 := hb.size
  have HTAL_14 := Lib.hid (HTAL_13.out.keep fun p _ hp => hb.cell (by omega))
  have HVA_14 := Lib.hid (HVA_13.out.keep fun p _ hp => hb.cell (by omega))
  have HEA_14 := Lib.hid (HEA_13.out.keep fun p _ hp => hb.cell (by omega))
  have HVA2_14 := Lib.hid (HVA2_13.out.keep fun p _ hp => hb.cell (by omega))
  have HEA2_14 := Lib.hid (HEA2_13.out.keep fun p _ hp => hb.cell (by omega))
  have Hbel_14 := Lib.hid (Hbel_13.out.trans (hb.mono (by omega)))
  have HBAL_14 := Lib.hid (HBAL_13.out.below hb (by omega))
  have HBA_14 := Lib.hid (HBA_13.out.below hb (by omega))
  have HBA2_14 := Lib.hid (HBA2_13.out.below hb (by omega))
  have HX0_14 := Lib.hid (HX0_13.out.keep fun p _ hp => hb.cell (by omega))
  have HX0b_14 := Lib.hid (HX0b_13.out.below hb (by omega))
  have HX1_14 := Lib.hid (HX1_13.out.keep fun p hp hq => ⟨hb.cell (by omega), hb.frozen (by omega)⟩)
  have HX1b_14 := Lib.hid (HX1b_13.out.below hb (by omega))
  have HX2_14 := Lib.hid (HX2_13.out.keep fun p hp hq => ⟨hb.cell (by omega), hb.frozen (by omega)⟩)
  have HX2b_14 := Lib.hid (HNb13.out.below hb (by omega))
  clear HTAL_13 HVA_13 HEA_13 HVA2_13 HEA2_13 Hbel_13 HBAL_13 HBA_13 HBA2_13 HX0_13 HX0b_13 HX1_13 HX1b_13 HX2_13 HNb13
  clear hb
  have hcmp : ((frkB ts au sq pv vec es sg au2 sq2 pv2 vec2 es2 sg2) != (frkB ts au sq pv vec es sg au2 sq2 pv2 vec2 es2 sg2)) = false := by simp
  have qX0b_0 := HX0b_14.out 0 (by simp)
  have qBAL_0 := HBAL_14.out 0 (by simp)
  simp only [List.getElem_cons_zero] at qX0b_0 qBAL_0
  have lqX0b : v8.heap.size < v14.heap.size := by omega
  have lqBAL : w.heap.size < v14.heap.size := by omega
  go_wp2_with fail
  go_region_held3 (fun X => X.cell? ⟨v8.heap.size, 0, none⟩ = some (.slice (some ⟨gt8, 0, none⟩) ts.length ts.length) ∧ X.cell? ⟨w.heap.size, 0, none⟩ = some (.slice AL ts.length cL))
    (first | exact ⟨qX0b_0, qBAL_0⟩ | exact ⟨s0, s1⟩ | exact ⟨t0, t1⟩)
    (first
      | (go_at_call 43
         refine (toLedger_any AL ts cL _ ((HTAL_14.out.keep fun p _ hp => ?_).mono ?_) htlAL htbAL).mono ?_
         · rfl
         · show w.heap.size ≤ v14.heap.size; omega
         rintro e wy ⟨gty, rfl, _, howny, hby⟩
         have hbsy : Below v14.heap.size v14 wy := by first | exact hby | exact (Below.refl v14.heap.size v14).drew.trans hby
         have s0 := (hbsy.cell (p := ⟨v8.heap.size, 0, none⟩) (by show v8.heap.size < v14.heap.size; omega)).trans qX0b_0
         have s1 := (hbsy.cell (p := ⟨w.heap.size, 0, none⟩) (by show w.heap.size < v14.heap.size; omega)).trans qBAL_0
         have hzy := hbsy.size
         have HTy := Lib.hid (show TmsIn wy v14.heap.size wy.heap.size _ ts from howny)
         have HBy := Lib.hid hbsy
         clear howny hby hbsy)
      | (go_at_call 45
         refine (eqLedger_same (some ⟨gt8, 0, none⟩) _ ts ts.length _ v7.heap.size v14.heap.size v8.heap.size wy.heap.size _ (HX0_14.out.keep fun p _ hq => HBy.out.cell (by omega)) HTy.out ?_ ?_ htlAL htbAL).mono ?_
         · show v8.heap.size ≤ wy.heap.size; omega
         · exact Nat.le_refl _
         rintro e wz ⟨rfl, hbz⟩
         have hbyz : Below wy.heap.size wy wz := by first | exact hbz | exact (Below.refl wy.heap.size wy).drew.trans hbz
         have t0 := (hbyz.cell (p := ⟨v8.heap.size, 0, none⟩) (by show v8.heap.size < wy.heap.size; omega)).trans s0
         have t1 := (hbyz.cell (p := ⟨w.heap.size, 0, none⟩) (by show w.heap.size < wy.heap.size; omega)).trans s1
         have HBz := Lib.hid (HBy.out.trans (hbyz.mono (by omega)))
         have hzz : v14.heap.size ≤ wz.heap.size := Nat.le_trans hzy hbyz.size
         clear hbz hbyz))
  obtain ⟨v15, hv15⟩ : ∃ x, x = wz := ⟨_, rfl⟩
  rw [← hv15]
  have hb : Below v14.heap.size v14 v15 := hv15 ▸ HBz.out
  have z15 := hb.size
  clear HBy HTy HBz hzy hzz s0 s1 t0 t1 qX0b_0 qBAL_0 lqX0b lqBAL
  have HTAL_15 := Lib.hid (HTAL_14.out.keep fun p _ hp => hb.cell (by omega))
  have HVA_15 := Lib.hid (HVA_14.out.keep fun p _ hp => hb.cell (by omega))
  have HEA_15 := Lib.hid (HEA_14.out.keep fun p _ hp => hb.cell (by omega))
  have HVA2_15 := Lib.hid (HVA2_14.out.keep fun p _ hp => hb.cell (by omega))
  have HEA2_15 := Lib.hid (HEA2_14.out.keep fun p _ hp => hb.cell (by omega))
  have Hbel_15 := Lib.hid (Hbel_14.out.trans (hb.mono (by omega)))
  have HBAL_15 := Lib.hid (HBAL_14.out.below hb (by omega))
  have HBA_15 := Lib.hid (HBA_14.out.below hb (by omega))
  have HBA2_15 := Lib.hid (HBA2_14.out.below hb (by omega))
  have HX0_15 := Lib.hid (HX0_14.out.keep fun p _ hp => hb.cell (by omega))
  have HX0b_15 := Lib.hid (HX0b_14.out.below hb (by omega))
  have HX1_15 := Lib.hid (HX1_14.out.keep fun p hp hq => ⟨hb.cell (by omega), hb.frozen (by omega)⟩)
  have HX1b_15 := Lib.hid (HX1b_14.out.below hb (by omega))
  have HX2_15 := Lib.hid (HX2_14.out.keep fun p hp hq => ⟨hb.cell (by omega), hb.frozen (by omega)⟩)
  have HX2b_15 := Lib.hid (HX2b_14.out.below hb (by omega))
  clear HTAL_14 HVA_14 HEA_14 HVA2_14 HEA2_14 Hbel_14 HBAL_14 HBA_14 HBA2_14 HX0_14 HX0b_14 HX1_14 HX1b_14 HX2_14 HX2b_14
  clear hb hv15
  have qX1b_0 := HX1b_15.out 0 (by simp)
  have qX1b_1 := HX1b_15.out 1 (by simp)
  have qX1b_2 := HX1b_15.out 2 (by simp)
  have qX1b_3 := HX1b_15.out 3 (by simp)
  have qX1b_4 := HX1b_15.out 4 (by simp)
  have qX1b_5 := HX1b_15.out 5 (by simp)
  have qBA_0 := HBA_15.out 0 (by simp)
  have qBA_1 := HBA_15.out 1 (by simp)
  have qBA_2 := HBA_15.out 2 (by simp)
  have qBA_3 := HBA_15.out 3 (by simp)
  have qBA_4 := HBA_15.out 4 (by simp)
  have qBA_5 := HBA_15.out 5 (by simp)
  simp only [List.getElem_cons_succ, List.getElem_cons_zero] at qX1b_0 qX1b_1 qX1b_2 qX1b_3 qX1b_4 qX1b_5 qBA_0 qBA_1 qBA_2 qBA_3 qBA_4 qBA_5
  have lqX1b : v10.heap.size < v15.heap.size := by omega
  have lqBA : w.heap.size + 1 < v15.heap.size := by omega
  go_wp2_with fail
  go_region_held3 (fun X => X.cell? ⟨v10.heap.size, 0, none⟩ = some (.int .i64 au) ∧ X.cell? ⟨v10.heap.size, 1, none⟩ = some (.int .i64 sq) ∧ X.cell? ⟨v10.heap.size, 2, none⟩ = some (.int .i64 pv) ∧ X.cell? ⟨v10.heap.size, 3, none⟩ = some (.slice (some ⟨gv10, 0, none⟩) vec.length vec.length) ∧ X.cell? ⟨v10.heap.size, 4, none⟩ = some (.slice (some ⟨ge10, 0, none⟩) es.length es.length) ∧ X.cell? ⟨v10.heap.size, 5, none⟩ = some (.int .i64 sg) ∧ X.cell? ⟨w.heap.size + 1, 0, none⟩ = some (.int .i64 au) ∧ X.cell? ⟨w.heap.size + 1, 1, none⟩ = some (.int .i64 sq) ∧ X.cell? ⟨w.heap.size + 1, 2, none⟩ = some (.int .i64 pv) ∧ X.cell? ⟨w.heap.size + 1, 3, none⟩ = some (.slice AV vec.length cv) ∧ X.cell? ⟨w.heap.size + 1, 4, none⟩ = some (.slice A es.length c) ∧ X.cell? ⟨w.heap.size + 1, 5, none⟩ = some (.int .i64 sg))
    (first | exact ⟨qX1b_0, qX1b_1, qX1b_2, qX1b_3, qX1b_4, qX1b_5, qBA_0, qBA_1, qBA_2, qBA_3, qBA_4, qBA_5⟩ | exact ⟨s0, s1, s2, s3, s4, s5, s6, s7, s8, s9, s10, s11⟩ | exact ⟨t0, t1, t2, t3, t4, t5, t6, t7, t8, t9, t10, t11⟩)
    (first
      | (go_at_call 32
         refine (toManifest_own au sq pv sg AV vec cv A es c _ ((HVA_15.out.keep fun p _ hp => ?_).mono ?_) ((HEA_15.out.keep fun p _ hp => ?_).mono ?_) hvlA helA hblA).mono ?_
         · rfl
         · show w.heap.size ≤ v15.heap.size; omega
         · rfl
         · show w.heap.size ≤ v15.heap.size; omega
         rintro e wy ⟨gvy, gey, rfl, _, howny, hby⟩
         have hbsy : Below v15.heap.size v15 wy := by first | exact hby | exact (Below.refl v15.heap.size v15).drew.trans hby
         have s0 := (hbsy.cell (p := ⟨v10.heap.size, 0, none⟩) (by show v10.heap.size < v15.heap.size; omega)).trans qX1b_0
         have s1 := (hbsy.cell (p := ⟨v10.heap.size, 1, none⟩) (by show v10.heap.size < v15.heap.size; omega)).trans qX1b_1
         have s2 := (hbsy.cell (p := ⟨v10.heap.size, 2, none⟩) (by show v10.heap.size < v15.heap.size; omega)).trans qX1b_2
         have s3 := (hbsy.cell (p := ⟨v10.heap.size, 3, none⟩) (by show v10.heap.size < v15.heap.size; omega)).trans qX1b_3
         have s4 := (hbsy.cell (p := ⟨v10.heap.size, 4, none⟩) (by show v10.heap.size < v15.heap.size; omega)).trans qX1b_4
         have s5 := (hbsy.cell (p := ⟨v10.heap.size, 5, none⟩) (by show v10.heap.size < v15.heap.size; omega)).trans qX1b_5
         have s6 := (hbsy.cell (p := ⟨w.heap.size + 1, 0, none⟩) (by show w.heap.size + 1 < v15.heap.size; omega)).trans qBA_0
         have s7 := (hbsy.cell (p := ⟨w.heap.size + 1, 1, none⟩) (by show w.heap.size + 1 < v15.heap.size; omega)).trans qBA_1
         have s8 := (hbsy.cell (p := ⟨w.heap.size + 1, 2, none⟩) (by show w.heap.size + 1 < v15.heap.size; omega)).trans qBA_2
         have s9 := (hbsy.cell (p := ⟨w.heap.size + 1, 3, none⟩) (by show w.heap.size + 1 < v15.heap.size; omega)).trans qBA_3
         have s10 := (hbsy.cell (p := ⟨w.heap.size + 1, 4, none⟩) (by show w.heap.size + 1 < v15.heap.size; omega)).trans qBA_4
         have s11 := (hbsy.cell (p := ⟨w.heap.size + 1, 5, none⟩) (by show w.heap.size + 1 < v15.heap.size; omega)).trans qBA_5
         have hzy := hbsy.size
         have HTy := Lib.hid (show TrOwn wy v15.heap.size wy.heap.size _ vec _ es from howny)
         have HBy := Lib.hid hbsy
         clear howny hby hbsy)
      | (go_at_call 34
         refine (eqManifest_same au sq pv sg (some ⟨gv10, 0, none⟩) _ (some ⟨ge10, 0, none⟩) _ vec es vec.length _ es.length _ v9.heap.size v15.heap.size v10.heap.size wy.heap.size _ (HX1_15.out.keep fun p hp hq => ⟨HBy.out.cell (by omega), HBy.out.frozen (by omega)⟩) HTy.out ?_ ?_ hvlA helA hblA).mono ?_
         · show v10.heap.size ≤ wy.heap.size; omega
         · exact Nat.le_refl _
         rintro e wz ⟨rfl, hbz⟩
         have hbyz : Below wy.heap.size wy wz := by first | exact hbz | exact (Below.refl wy.heap.size wy).drew.trans hbz
         have t0 := (hbyz.cell (p := ⟨v10.heap.size, 0, none⟩) (by show v10.heap.size < wy.heap.size; omega)).trans s0
         have t1 := (hbyz.cell (p := ⟨v10.heap.size, 1, none⟩) (by show v10.heap.size < wy.heap.size; omega)).trans s1
         have t2 := (hbyz.cell (p := ⟨v10.heap.size, 2, none⟩) (by show v10.heap.size < wy.heap.size; omega)).trans s2
         have t3 := (hbyz.cell (p := ⟨v10.heap.size, 3, none⟩) (by show v10.heap.size < wy.heap.size; omega)).trans s3
         have t4 := (hbyz.cell (p := ⟨v10.heap.size, 4, none⟩) (by show v10.heap.size < wy.heap.size; omega)).trans s4
         have t5 := (hbyz.cell (p := ⟨v10.heap.size, 5, none⟩) (by show v10.heap.size < wy.heap.size; omega)).trans s5
         have t6 := (hbyz.cell (p := ⟨w.heap.size + 1, 0, none⟩) (by show w.heap.size + 1 < wy.heap.size; omega)).trans s6
         have t7 := (hbyz.cell (p := ⟨w.heap.size + 1, 1, none⟩) (by show w.heap.size + 1 < wy.heap.size; omega)).trans s7
         have t8 := (hbyz.cell (p := ⟨w.heap.size + 1, 2, none⟩) (by show w.heap.size + 1 < wy.heap.size; omega)).trans s8
         have t9 := (hbyz.cell (p := ⟨w.heap.size + 1, 3, none⟩) (by show w.heap.size + 1 < wy.heap.size; omega)).trans s9
         have t10 := (hbyz.cell (p := ⟨w.heap.size + 1, 4, none⟩) (by show w.heap.size + 1 < wy.heap.size; omega)).trans s10
         have t11 := (hbyz.cell (p := ⟨w.heap.size + 1, 5, none⟩) (by show w.heap.size + 1 < wy.heap.size; omega)).trans s11
         have HBz := Lib.hid (HBy.out.trans (hbyz.mono (by omega)))
         have hzz : v15.heap.size ≤ wz.heap.size := Nat.le_trans hzy hbyz.size
         clear hbz hbyz))
  obtain ⟨v16, hv16⟩ : ∃ x, x = wz := ⟨_, rfl⟩
  rw [← hv16]
  have hb : Below v15.heap.size v15 v16 := hv16 ▸ HBz.out
  have z16 := hb.size
  clear HBy HTy HBz hzy hzz s0 s1 s2 s3 s4 s5 s6 s7 s8 s9 s10 s11 t0 t1 t2 t3 t4 t5 t6 t7 t8 t9 t10 t11 qX1b_0 qX1b_1 qX1b_2 qX1b_3 qX1b_4 qX1b_5 qBA_0 qBA_1 qBA_2 qBA_3 qBA_4 qBA_5 lqX1b lqBA
  have HTAL_16 := Lib.hid (HTAL_15.out.keep fun p _ hp => hb.cell (by omega))
  have HVA_16 := Lib.hid (HVA_15.out.keep fun p _ hp => hb.cell (by omega))
  have HEA_16 := Lib.hid (HEA_15.out.keep fun p _ hp => hb.cell (by omega))
  have HVA2_16 := Lib.hid (HVA2_15.out.keep fun p _ hp => hb.cell (by omega))
  have HEA2_16 := Lib.hid (HEA2_15.out.keep fun p _ hp => hb.cell (by omega))
  have Hbel_16 := Lib.hid (Hbel_15.out.trans (hb.mono (by omega)))
  have HBAL_16 := Lib.hid (HBAL_15.out.below hb (by omega))
  have HBA_16 := Lib.hid (HBA_15.out.below hb (by omega))
  have HBA2_16 := Lib.hid (HBA2_15.out.below hb (by omega))
  have HX0_16 := Lib.hid (HX0_15.out.keep fun p _ hp => hb.cell (by omega))
  have HX0b_16 := Lib.hid (HX0b_15.out.below hb (by omega))
  have HX1_16 := Lib.hid (HX1_15.out.keep fun p hp hq => ⟨hb.cell (by omega), hb.frozen (by omega)⟩)
  have HX1b_16 := Lib.hid (HX1b_15.out.below hb (by omega))
  have HX2_16 := Lib.hid (HX2_15.out.keep fun p hp hq => ⟨hb.cell (by omega), hb.frozen (by omega)⟩)
  have HX2b_16 := Lib.hid (HX2b_15.out.below hb (by omega))
  clear HTAL_15 HVA_15 HEA_15 HVA2_15 HEA2_15 Hbel_15 HBAL_15 HBA_15 HBA2_15 HX0_15 HX0b_15 HX1_15 HX1b_15 HX2_15 HX2b_15
  clear hb hv16
  have qX2b_0 := HX2b_16.out 0 (by simp)
  have qX2b_1 := HX2b_16.out 1 (by simp)
  have qX2b_2 := HX2b_16.out 2 (by simp)
  have qX2b_3 := HX2b_16.out 3 (by simp)
  have qX2b_4 := HX2b_16.out 4 (by simp)
  have qX2b_5 := HX2b_16.out 5 (by simp)
  have qBA2_0 := HBA2_16.out 0 (by simp)
  have qBA2_1 := HBA2_16.out 1 (by simp)
  have qBA2_2 := HBA2_16.out 2 (by simp)
  have qBA2_3 := HBA2_16.out 3 (by simp)
  have qBA2_4 := HBA2_16.out 4 (by simp)
  have qBA2_5 := HBA2_16.out 5 (by simp)
  simp only [List.getElem_cons_succ, List.getElem_cons_zero] at qX2b_0 qX2b_1 qX2b_2 qX2b_3 qX2b_4 qX2b_5 qBA2_0 qBA2_1 qBA2_2 qBA2_3 qBA2_4 qBA2_5
  have lqX2b : v12.heap.size < v16.heap.size := by omega
  have lqBA2 : w.heap.size + 1 + 1 < v16.heap.size := by omega
  go_wp2_with fail
  go_region_held3 (fun X => X.cell? ⟨v12.heap.size, 0, none⟩ = some (.int .i64 au2) ∧ X.cell? ⟨v12.heap.size, 1, none⟩ = some (.int .i64 sq2) ∧ X.cell? ⟨v12.heap.size, 2, none⟩ = some (.int .i64 pv2) ∧ X.cell? ⟨v12.heap.size, 3, none⟩ = some (.slice (some ⟨gv12, 0, none⟩) vec2.length vec2.length) ∧ X.cell? ⟨v12.heap.size, 4, none⟩ = some (.slice (some ⟨ge12, 0, none⟩) es2.length es2.length) ∧ X.cell? ⟨v12.heap.size, 5, none⟩ = some (.int .i64 sg2) ∧ X.cell? ⟨w.heap.size + 1 + 1, 0, none⟩ = some (.int .i64 au2) ∧ X.cell? ⟨w.heap.size + 1 + 1, 1, none⟩ = some (.int .i64 sq2) ∧ X.cell? ⟨w.heap.size + 1 + 1, 2, none⟩ = some (.int .i64 pv2) ∧ X.cell? ⟨w.heap.size + 1 + 1, 3, none⟩ = some (.slice AV2 vec2.length cv2) ∧ X.cell? ⟨w.heap.size + 1 + 1, 4, none⟩ = some (.slice A2 es2.length c2) ∧ X.cell? ⟨w.heap.size + 1 + 1, 5, none⟩ = some (.int .i64 sg2))
    (first | exact ⟨qX2b_0, qX2b_1, qX2b_2, qX2b_3, qX2b_4, qX2b_5, qBA2_0, qBA2_1, qBA2_2, qBA2_3, qBA2_4, qBA2_5⟩ | exact ⟨s0, s1, s2, s3, s4, s5, s6, s7, s8, s9, s10, s11⟩ | exact ⟨t0, t1, t2, t3, t4, t5, t6, t7, t8, t9, t10, t11⟩)
    (first
      | (go_at_call 32
         refine (toManifest_own au2 sq2 pv2 sg2 AV2 vec2 cv2 A2 es2 c2 _ ((HVA2_16.out.keep fun p _ hp => ?_).mono ?_) ((HEA2_16.out.keep fun p _ hp => ?_).mono ?_) hvlA2 helA2 hblA2).mono ?_
         · rfl
         · show w.heap.size ≤ v16.heap.size; omega
         · rfl
         · show w.heap.size ≤ v16.heap.size; omega
         rintro e wy ⟨gvy, gey, rfl, _, howny, hby⟩
         have hbsy : Below v16.heap.size v16 wy := by first | exact hby | exact (Below.refl v16.heap.size v16).drew.trans hby
         have s0 := (hbsy.cell (p := ⟨v12.heap.size, 0, none⟩) (by show v12.heap.size < v16.heap.size; omega)).trans qX2b_0
         have s1 := (hbsy.cell (p := ⟨v12.heap.size, 1, none⟩) (by show v12.heap.size < v16.heap.size; omega)).trans qX2b_1
         have s2 := (hbsy.cell (p := ⟨v12.heap.size, 2, none⟩) (by show v12.heap.size < v16.heap.size; omega)).trans qX2b_2
         have s3 := (hbsy.cell (p := ⟨v12.heap.size, 3, none⟩) (by show v12.heap.size < v16.heap.size; omega)).trans qX2b_3
         have s4 := (hbsy.cell (p := ⟨v12.heap.size, 4, none⟩) (by show v12.heap.size < v16.heap.size; omega)).trans qX2b_4
         have s5 := (hbsy.cell (p := ⟨v12.heap.size, 5, none⟩) (by show v12.heap.size < v16.heap.size; omega)).trans qX2b_5
         have s6 := (hbsy.cell (p := ⟨w.heap.size + 1 + 1, 0, none⟩) (by show w.heap.size + 1 + 1 < v16.heap.size; omega)).trans qBA2_0
         have s7 := (hbsy.cell (p := ⟨w.heap.size + 1 + 1, 1, none⟩) (by show w.heap.size + 1 + 1 < v16.heap.size; omega)).trans qBA2_1
         have s8 := (hbsy.cell (p := ⟨w.heap.size + 1 + 1, 2, none⟩) (by show w.heap.size + 1 + 1 < v16.heap.size; omega)).trans qBA2_2
         have s9 := (hbsy.cell (p := ⟨w.heap.size + 1 + 1, 3, none⟩) (by show w.heap.size + 1 + 1 < v16.heap.size; omega)).trans qBA2_3
         have s10 := (hbsy.cell (p := ⟨w.heap.size + 1 + 1, 4, none⟩) (by show w.heap.size + 1 + 1 < v16.heap.size; omega)).trans qBA2_4
         have s11 := (hbsy.cell (p := ⟨w.heap.size + 1 + 1, 5, none⟩) (by show w.heap.size + 1 + 1 < v16.heap.size; omega)).trans qBA2_5
         have hzy := hbsy.size
         have HTy := Lib.hid (show TrOwn wy v16.heap.size wy.heap.size _ vec2 _ es2 from howny)
         have HBy := Lib.hid hbsy
         clear howny hby hbsy)
      | (go_at_call 34
         refine (eqManifest_same au2 sq2 pv2 sg2 (some ⟨gv12, 0, none⟩) _ (some ⟨ge12, 0, none⟩) _ vec2 es2 vec2.length _ es2.length _ v11.heap.size v16.heap.size v12.heap.size wy.heap.size _ (HX2_16.out.keep fun p hp hq => ⟨HBy.out.cell (by omega), HBy.out.frozen (by omega)⟩) HTy.out ?_ ?_ hvlA2 helA2 hblA2).mono ?_
         · show v12.heap.size ≤ wy.heap.size; omega
         · exact Nat.le_refl _
         rintro e wz ⟨rfl, hbz⟩
         have hbyz : Below wy.heap.size wy wz := by first | exact hbz | exact (Below.refl wy.heap.size wy).drew.trans hbz
         have t0 := (hbyz.cell (p := ⟨v12.heap.size, 0, none⟩) (by show v12.heap.size < wy.heap.size; omega)).trans s0
         have t1 := (hbyz.cell (p := ⟨v12.heap.size, 1, none⟩) (by show v12.heap.size < wy.heap.size; omega)).trans s1
         have t2 := (hbyz.cell (p := ⟨v12.heap.size, 2, none⟩) (by show v12.heap.size < wy.heap.size; omega)).trans s2
         have t3 := (hbyz.cell (p := ⟨v12.heap.size, 3, none⟩) (by show v12.heap.size < wy.heap.size; omega)).trans s3
         have t4 := (hbyz.cell (p := ⟨v12.heap.size, 4, none⟩) (by show v12.heap.size < wy.heap.size; omega)).trans s4
         have t5 := (hbyz.cell (p := ⟨v12.heap.size, 5, none⟩) (by show v12.heap.size < wy.heap.size; omega)).trans s5
         have t6 := (hbyz.cell (p := ⟨w.heap.size + 1 + 1, 0, none⟩) (by show w.heap.size + 1 + 1 < wy.heap.size; omega)).trans s6
         have t7 := (hbyz.cell (p := ⟨w.heap.size + 1 + 1, 1, none⟩) (by show w.heap.size + 1 + 1 < wy.heap.size; omega)).trans s7
         have t8 := (hbyz.cell (p := ⟨w.heap.size + 1 + 1, 2, none⟩) (by show w.heap.size + 1 + 1 < wy.heap.size; omega)).trans s8
         have t9 := (hbyz.cell (p := ⟨w.heap.size + 1 + 1, 3, none⟩) (by show w.heap.size + 1 + 1 < wy.heap.size; omega)).trans s9
         have t10 := (hbyz.cell (p := ⟨w.heap.size + 1 + 1, 4, none⟩) (by show w.heap.size + 1 + 1 < wy.heap.size; omega)).trans s10
         have t11 := (hbyz.cell (p := ⟨w.heap.size + 1 + 1, 5, none⟩) (by show w.heap.size + 1 + 1 < wy.heap.size; omega)).trans s11
         have HBz := Lib.hid (HBy.out.trans (hbyz.mono (by omega)))
         have hzz : v16.heap.size ≤ wz.heap.size := Nat.le_trans hzy hbyz.size
         clear hbz hbyz))
  obtain ⟨v17, hv17⟩ : ∃ x, x = wz := ⟨_, rfl⟩
  rw [← hv17]
  have hb : Below v16.heap.size v16 v17 := hv17 ▸ HBz.out
  have z17 := hb.size
  clear HBy HTy HBz hzy hzz s0 s1 s2 s3 s4 s5 s6 s7 s8 s9 s10 s11 t0 t1 t2 t3 t4 t5 t6 t7 t8 t9 t10 t11 qX2b_0 qX2b_1 qX2b_2 qX2b_3 qX2b_4 qX2b_5 qBA2_0 qBA2_1 qBA2_2 qBA2_3 qBA2_4 qBA2_5 lqX2b lqBA2
  have HTAL_17 := Lib.hid (HTAL_16.out.keep fun p _ hp => hb.cell (by omega))
  have HVA_17 := Lib.hid (HVA_16.out.keep fun p _ hp => hb.cell (by omega))
  have HEA_17 := Lib.hid (HEA_16.out.keep fun p _ hp => hb.cell (by omega))
  have HVA2_17 := Lib.hid (HVA2_16.out.keep fun p _ hp => hb.cell (by omega))
  have HEA2_17 := Lib.hid (HEA2_16.out.keep fun p _ hp => hb.cell (by omega))
  have Hbel_17 := Lib.hid (Hbel_16.out.trans (hb.mono (by omega)))
  have HBAL_17 := Lib.hid (HBAL_16.out.below hb (by omega))
  have HBA_17 := Lib.hid (HBA_16.out.below hb (by omega))
  have HBA2_17 := Lib.hid (HBA2_16.out.below hb (by omega))
  have HX0_17 := Lib.hid (HX0_16.out.keep fun p _ hp => hb.cell (by omega))
  have HX0b_17 := Lib.hid (HX0b_16.out.below hb (by omega))
  have HX1_17 := Lib.hid (HX1_16.out.keep fun p hp hq => ⟨hb.cell (by omega), hb.frozen (by omega)⟩)
  have HX1b_17 := Lib.hid (HX1b_16.out.below hb (by omega))
  have HX2_17 := Lib.hid (HX2_16.out.keep fun p hp hq => ⟨hb.cell (by omega), hb.frozen (by omega)⟩)
  have HX2b_17 := Lib.hid (HX2b_16.out.below hb (by omega))
  clear HTAL_16 HVA_16 HEA_16 HVA2_16 HEA2_16 Hbel_16 HBAL_16 HBA_16 HBA2_16 HX0_16 HX0b_16 HX1_16 HX1b_16 HX2_16 HX2b_16
  clear hb hv17
  go_wp2_with fail
  go_ret
  exact ⟨rfl, Hbel_17.out⟩

end Go.Proofs.Ytblmhhijgdkkoaa
