/-
  The law on DeviceOk, walked: it answers true, and turns nothing that was there.
-/
import Derived.Test.YtckajeippfpojaaGreatGB
import Derived.Test.YtckajeippfpojaaGreatGDv
import Derived.Deep.RegionHeld3
namespace Go.Proofs.YtckajeippfpojaaGreat
open Go.RowKit Go.Maps

set_option maxRecDepth 100000 in
set_option maxHeartbeats 8000000 in
theorem lawDeviceOk_any (AL : Option Addr) (ts : List Tm) (cL : Nat) (id : Int) (AV : Option Addr) (vec : List Int) (cv : Nat) (A : Option Addr) (es : List En) (c : Nat) (AH : Option Addr) (hs : List Mn) (ch : Nat) (al : Bool) (AP : Option Addr) (ps : List Mn) (cp : Nat) (w : World) (hTAL : TmsIn w 0 w.heap.size AL ts) (nTAL : ts.length ≤ 9223372036854775807) (hVA : IntsIn w 0 w.heap.size AV vec) (hEA : EnsIn w 0 w.heap.size A es) (hHA : MnsIn w 0 w.heap.size AH hs) (hPA : MnsIn w 0 w.heap.size AP ps) (nVA : vec.length ≤ 9223372036854775807) (nEA : es.length ≤ 9223372036854775807) (nBA : ∀ i (hi : i < es.length), es[i].name.length ≤ 9223372036854775807) (nHA : hs.length ≤ 9223372036854775807) (sHA : MnsSz hs) (nPA : ps.length ≤ 9223372036854775807) (sPA : MnsSz ps) :
    Calls Tryz.prog 4 #[.agg #[.slice AL ts.length cL], .agg #[.int .i64 id, .slice AV vec.length cv, .slice A es.length c, .slice AH hs.length ch, .bool al, .slice AP ps.length cp]] w fun e w' => e = .returned (.bool true) ∧ Below w.heap.size w w' := by
  have HTAL := Lib.hid hTAL
  have HVA := Lib.hid hVA
  have HEA := Lib.hid hEA
  have HHA := Lib.hid hHA
  have HPA := Lib.hid hPA
  have HnBA := Lib.hid nBA
  have HsHA := Lib.hid sHA
  have HsPA := Lib.hid sPA
  have HBel := Lib.hid (Below.refl w.heap.size w)
  clear hTAL hVA hEA hHA hPA nBA sHA sPA
  have z0 : w.heap.size ≤ w.heap.size := Nat.le_refl _
  go_enter Tryz.func4, Tryz.ntmps4
  go_wp2_with fail
  obtain ⟨v1, hw1⟩ : ∃ x, x = w.alloc (.cells #[.slice AL ts.length cL] 24) := ⟨_, rfl⟩
  have hbx : Below w.heap.size w v1 := by rw [hw1]; exact (Below.refl _ _).alloc (Nat.le_refl _) _
  have z1 : w.heap.size < v1.heap.size := by rw [hw1]; simp
  have HEs1 := Lib.hid (show v1.heap.size = w.heap.size + 1 by rw [hw1]; simp)
  have HNb1 := Lib.hid (show Bx v1 (w.heap.size) [.slice AL ts.length cL] by rw [hw1]; exact Bx.new' _ _ _ _ rfl)
  rw [← hw1]
  clear hw1
  have HTAL_1 := Lib.hid (HTAL.out.keep fun p _ hp => hbx.cell (by omega))
  have HVA_1 := Lib.hid (HVA.out.keep fun p _ hp => hbx.cell (by omega))
  have HEA_1 := Lib.hid (HEA.out.keep fun p _ hp => hbx.cell (by omega))
  have HHA_1 := Lib.hid (HHA.out.keep fun p _ hp => hbx.cell (by omega))
  have HPA_1 := Lib.hid (HPA.out.keep fun p _ hp => hbx.cell (by omega))
  have Hbel_1 := Lib.hid (HBel.out.trans (hbx.mono (by omega)))
  clear HTAL HVA HEA HHA HPA HBel
  clear hbx
  obtain ⟨v2, hw2⟩ : ∃ x, x = v1.alloc (.cells #[.int .i64 id, .slice AV vec.length cv, .slice A es.length c, .slice AH hs.length ch, .bool al, .slice AP ps.length cp] 52) := ⟨_, rfl⟩
  have hbx : Below v1.heap.size v1 v2 := by rw [hw2]; exact (Below.refl _ _).alloc (Nat.le_refl _) _
  have z2 : v1.heap.size < v2.heap.size := by rw [hw2]; simp
  have HEs2 := Lib.hid (show v2.heap.size = w.heap.size + 1 + 1 by rw [hw2, ← HEs1.out]; simp)
  have HNb2 := Lib.hid (show Bx v2 (w.heap.size + 1) [.int .i64 id, .slice AV vec.length cv, .slice A es.length c, .slice AH hs.length ch, .bool al, .slice AP ps.length cp] by rw [hw2, ← HEs1.out]; exact Bx.new' _ _ _ _ rfl)
  have hat2 : w.heap.size + 1 = v1.heap.size := HEs1.out.symm
  rw [← hw2]
  clear hw2
  have HTAL_2 := Lib.hid (HTAL_1.out.keep fun p _ hp => hbx.cell (by omega))
  have HVA_2 := Lib.hid (HVA_1.out.keep fun p _ hp => hbx.cell (by omega))
  have HEA_2 := Lib.hid (HEA_1.out.keep fun p _ hp => hbx.cell (by omega))
  have HHA_2 := Lib.hid (HHA_1.out.keep fun p _ hp => hbx.cell (by omega))
  have HPA_2 := Lib.hid (HPA_1.out.keep fun p _ hp => hbx.cell (by omega))
  have Hbel_2 := Lib.hid (Hbel_1.out.trans (hbx.mono (by omega)))
  have HBAL_2 := Lib.hid (HNb1.out.below hbx (by omega))
  clear HTAL_1 HVA_1 HEA_1 HHA_1 HPA_1 Hbel_1 HNb1
  clear hbx
  have hlt2 : w.heap.size + 1 < v2.heap.size := by omega
  clear hat2
  refine (szLedger_any AL ts cL _ v2 (HTAL_2.out.mono (by omega)) nTAL (by omega) (by omega)).mono ?_
  rintro e v3 ⟨r3, rfl, hsz, hb⟩
  have z3 := hb.size
  have HS3 := Lib.hid hsz
  have HTAL_3 := Lib.hid (HTAL_2.out.keep fun p _ hp => hb.cell (by omega))
  have HVA_3 := Lib.hid (HVA_2.out.keep fun p _ hp => hb.cell (by omega))
  have HEA_3 := Lib.hid (HEA_2.out.keep fun p _ hp => hb.cell (by omega))
  have HHA_3 := Lib.hid (HHA_2.out.keep fun p _ hp => hb.cell (by omega))
  have HPA_3 := Lib.hid (HPA_2.out.keep fun p _ hp => hb.cell (by omega))
  have Hbel_3 := Lib.hid (Hbel_2.out.trans (hb.mono (by omega)))
  have HBAL_3 := Lib.hid (HBAL_2.out.below hb (by omega))
  have HBA_3 := Lib.hid (HNb2.out.below hb (by omega))
  clear HTAL_2 HVA_2 HEA_2 HHA_2 HPA_2 Hbel_2 HBAL_2 HNb2
  clear hb hsz
  by_cases hr3 : r3 < 0
  · go_wp2_with fail
    all_goals go_ret
    all_goals exact ⟨rfl, Hbel_3.out⟩
  have hp3 : 0 ≤ r3 := by omega
  have hs3 : r3 + (ts.length + bulk ts) ≤ 1048576 := by have := HS3.out; unfold SzOk at this; omega
  have htlAL : ts.length ≤ 1048576 := by omega
  have htbAL : bulk ts ≤ 1048576 := by omega
  have hrl3 : r3 ≤ 1048576 := by omega
  clear hr3 HS3 hs3
  have qBA_0 := HBA_3.out 0 (by simp)
  have qBA_1 := HBA_3.out 1 (by simp)
  have qBA_2 := HBA_3.out 2 (by simp)
  have qBA_3 := HBA_3.out 3 (by simp)
  have qBA_4 := HBA_3.out 4 (by simp)
  have qBA_5 := HBA_3.out 5 (by simp)
  simp only [List.getElem_cons_succ, List.getElem_cons_zero] at qBA_0 qBA_1 qBA_2 qBA_3 qBA_4 qBA_5
  have lqBA : w.heap.size + 1 < v3.heap.size := by omega
  go_wp2_with fail
  refine (szDevice_any id AV vec cv A es c AH hs ch al AP ps cp _ v3 (HEA_3.out.mono (by omega)) (HHA_3.out.mono (by omega)) (HPA_3.out.mono (by omega)) nVA nEA HnBA.out nHA HsHA.out nPA HsPA.out (by omega) (by omega)).mono ?_
  rintro e v4 ⟨r4, rfl, hsz, hb⟩
  have z4 := hb.size
  have HS4 := Lib.hid hsz
  have HTAL_4 := Lib.hid (HTAL_3.out.keep fun p _ hp => hb.cell (by omega))
  have HVA_4 := Lib.hid (HVA_3.out.keep fun p _ hp => hb.cell (by omega))
  have HEA_4 := Lib.hid (HEA_3.out.keep fun p _ hp => hb.cell (by omega))
  have HHA_4 := Lib.hid (HHA_3.out.keep fun p _ hp => hb.cell (by omega))
  have HPA_4 := Lib.hid (HPA_3.out.keep fun p _ hp => hb.cell (by omega))
  have Hbel_4 := Lib.hid (Hbel_3.out.trans (hb.mono (by omega)))
  have HBAL_4 := Lib.hid (HBAL_3.out.below hb (by omega))
  have HBA_4 := Lib.hid (HBA_3.out.below hb (by omega))
  clear qBA_0 qBA_1 qBA_2 qBA_3 qBA_4 qBA_5 lqBA
  clear HTAL_3 HVA_3 HEA_3 HHA_3 HPA_3 Hbel_3 HBAL_3 HBA_3
  clear hb hsz
  by_cases hr4 : r4 < 0
  · go_wp2_with fail
    all_goals go_ret
    all_goals exact ⟨rfl, Hbel_4.out⟩
  have hp4 : 0 ≤ r4 := by omega
  have hs4 : r4 + ((vec.length + (es.length + ebulk es)) + ((hs.length + mbulk hs) + (ps.length + mbulk ps))) ≤ 1048576 := by have := HS4.out; unfold SzOk dsz at this; omega
  have hvlA : vec.length ≤ 1048576 := by omega
  have helA : es.length ≤ 1048576 := by omega
  have hblA : ebulk es ≤ 1048576 := by omega
  have hhlA : hs.length ≤ 1048576 := by omega
  have hhbA : mbulk hs ≤ 1048576 := by omega
  have hplA : ps.length ≤ 1048576 := by omega
  have hpbA : mbulk ps ≤ 1048576 := by omega
  have hrl4 : r4 ≤ 1048576 := by omega
  clear hr4 HS4 hs4
  have qBAL_0 := HBAL_4.out 0 (by simp)
  have qBA_0 := HBA_4.out 0 (by simp)
  have qBA_1 := HBA_4.out 1 (by simp)
  have qBA_2 := HBA_4.out 2 (by simp)
  have qBA_3 := HBA_4.out 3 (by simp)
  have qBA_4 := HBA_4.out 4 (by simp)
  have qBA_5 := HBA_4.out 5 (by simp)
  simp only [List.getElem_cons_succ, List.getElem_cons_zero] at qBAL_0 qBA_0 qBA_1 qBA_2 qBA_3 qBA_4 qBA_5
  have lqBAL : w.heap.size < v4.heap.size := by omega
  have lqBA : w.heap.size + 1 < v4.heap.size := by omega
  go_wp2_with fail
  go_region_held3 (fun X => X.cell? ⟨w.heap.size, 0, none⟩ = some (.slice AL ts.length cL) ∧ X.cell? ⟨w.heap.size + 1, 0, none⟩ = some (.int .i64 id) ∧ X.cell? ⟨w.heap.size + 1, 1, none⟩ = some (.slice AV vec.length cv) ∧ X.cell? ⟨w.heap.size + 1, 2, none⟩ = some (.slice A es.length c) ∧ X.cell? ⟨w.heap.size + 1, 3, none⟩ = some (.slice AH hs.length ch) ∧ X.cell? ⟨w.heap.size + 1, 4, none⟩ = some (.bool al) ∧ X.cell? ⟨w.heap.size + 1, 5, none⟩ = some (.slice AP ps.length cp))
    (first | with_reducible exact ⟨qBAL_0, qBA_0, qBA_1, qBA_2, qBA_3, qBA_4, qBA_5⟩ | exact ⟨qBAL_0, qBA_0, qBA_1, qBA_2, qBA_3, qBA_4, qBA_5⟩ | with_reducible exact ⟨s0, s1, s2, s3, s4, s5, s6⟩ | with_reducible exact ⟨t0, t1, t2, t3, t4, t5, t6⟩ | with_reducible exact ⟨u0, u1, u2, u3, u4, u5, u6⟩)
    (first
      | (go_at_call 15
         refine (toLedger_any AL ts cL _ ((HTAL_4.out.keep fun p _ hp => ?_).mono ?_) htlAL htbAL).mono ?_
         · rfl
         · show w.heap.size ≤ v4.heap.size; omega
         rintro e y0 ⟨gty0, rfl, _, hown0, hbp0⟩
         have hbs0 : Below v4.heap.size v4 y0 := by first | exact hbp0 | exact (Below.refl v4.heap.size v4).drew.trans hbp0
         have s0 := (hbs0.cell (p := ⟨w.heap.size, 0, none⟩) lqBAL).trans qBAL_0
         have s1 := (hbs0.cell (p := ⟨w.heap.size + 1, 0, none⟩) lqBA).trans qBA_0
         have s2 := (hbs0.cell (p := ⟨w.heap.size + 1, 1, none⟩) lqBA).trans qBA_1
         have s3 := (hbs0.cell (p := ⟨w.heap.size + 1, 2, none⟩) lqBA).trans qBA_2
         have s4 := (hbs0.cell (p := ⟨w.heap.size + 1, 3, none⟩) lqBA).trans qBA_3
         have s5 := (hbs0.cell (p := ⟨w.heap.size + 1, 4, none⟩) lqBA).trans qBA_4
         have s6 := (hbs0.cell (p := ⟨w.heap.size + 1, 5, none⟩) lqBA).trans qBA_5
         have HBs0 := Lib.hid hbs0
         have hzs0 := hbs0.size
         have HMc0 := Lib.hid (show TmsIn y0 v4.heap.size y0.heap.size (some ⟨gty0, 0, none⟩) ts from hown0)
         clear hown0 hbp0 hbs0)
      | (go_at_call 26
         refine (toDevice_own id AV vec cv A es c AH hs ch al AP ps cp y0 ((HVA_4.out.keep fun p _ hp => ?_).mono ?_) ((HEA_4.out.keep fun p _ hp => ?_).mono ?_) ((HHA_4.out.keep fun p _ hp => ?_).mono ?_) ((HPA_4.out.keep fun p _ hp => ?_).mono ?_) hvlA helA hblA hhlA hhbA hplA hpbA).mono ?_
         · exact HBs0.out.cell (by omega)
         · show w.heap.size ≤ y0.heap.size; omega
         · exact HBs0.out.cell (by omega)
         · show w.heap.size ≤ y0.heap.size; omega
         · exact HBs0.out.cell (by omega)
         · show w.heap.size ≤ y0.heap.size; omega
         · exact HBs0.out.cell (by omega)
         · show w.heap.size ≤ y0.heap.size; omega
         rintro e y1 ⟨gvy1, gey1, ghy1, gpy1, rfl, _, hown1, hbp1⟩
         have hbs1 : Below v4.heap.size v4 y1 := HBs0.out.trans (hbp1.mono HBs0.out.size)
         have t0 := (hbs1.cell (p := ⟨w.heap.size, 0, none⟩) lqBAL).trans qBAL_0
         have t1 := (hbs1.cell (p := ⟨w.heap.size + 1, 0, none⟩) lqBA).trans qBA_0
         have t2 := (hbs1.cell (p := ⟨w.heap.size + 1, 1, none⟩) lqBA).trans qBA_1
         have t3 := (hbs1.cell (p := ⟨w.heap.size + 1, 2, none⟩) lqBA).trans qBA_2
         have t4 := (hbs1.cell (p := ⟨w.heap.size + 1, 3, none⟩) lqBA).trans qBA_3
         have t5 := (hbs1.cell (p := ⟨w.heap.size + 1, 4, none⟩) lqBA).trans qBA_4
         have t6 := (hbs1.cell (p := ⟨w.heap.size + 1, 5, none⟩) lqBA).trans qBA_5
         have HBs1 := Lib.hid hbs1
         have hzs1 := hbs1.size
         have hzp1 := hbp1.size
         have HMc0_ := Lib.hid (HMc0.out.keep fun p _ hp => hbp1.cell (by omega))
         have HMc1 := Lib.hid (show DvOwn y1 y0.heap.size y1.heap.size (some ⟨gvy1, 0, none⟩) vec (some ⟨gey1, 0, none⟩) es (some ⟨ghy1, 0, none⟩) hs (some ⟨gpy1, 0, none⟩) ps from hown1)
         clear hown1 hbp1 hbs1)
      | (go_at_call 25
         refine (specDeviceOk_any (some ⟨gty0, 0, none⟩) ts ts.length id (some ⟨gvy1, 0, none⟩) vec vec.length (some ⟨gey1, 0, none⟩) es es.length (some ⟨ghy1, 0, none⟩) hs hs.length al (some ⟨gpy1, 0, none⟩) ps ps.length y1 ((HMc0_.out.low (Nat.zero_le _)).mono (by omega)) htlAL htbAL ((HMc1.out.tree.vecIn.ints.low (Nat.zero_le _)).mono (by omega)) ((HMc1.out.tree.ensIn.ens.low (Nat.zero_le _)).mono (by omega)) (HMc1.out.heads.rd.mono (Nat.zero_le _) (by omega)) (HMc1.out.proof.rd.mono (Nat.zero_le _) (by omega)) hvlA helA hblA hhlA hhbA hplA hpbA).mono ?_
         rintro e y2 ⟨rfl, hbp2⟩
         have hbs2 : Below v4.heap.size v4 y2 := HBs1.out.trans (hbp2.mono HBs1.out.size)
         have u0 := (hbs2.cell (p := ⟨w.heap.size, 0, none⟩) lqBAL).trans qBAL_0
         have u1 := (hbs2.cell (p := ⟨w.heap.size + 1, 0, none⟩) lqBA).trans qBA_0
         have u2 := (hbs2.cell (p := ⟨w.heap.size + 1, 1, none⟩) lqBA).trans qBA_1
         have u3 := (hbs2.cell (p := ⟨w.heap.size + 1, 2, none⟩) lqBA).trans qBA_2
         have u4 := (hbs2.cell (p := ⟨w.heap.size + 1, 3, none⟩) lqBA).trans qBA_3
         have u5 := (hbs2.cell (p := ⟨w.heap.size + 1, 4, none⟩) lqBA).trans qBA_4
         have u6 := (hbs2.cell (p := ⟨w.heap.size + 1, 5, none⟩) lqBA).trans qBA_5
         have HBs2 := Lib.hid hbs2
         have hzs2 := hbs2.size
         have hzp2 := hbp2.size
         have HMc0__ := Lib.hid (HMc0_.out.keep fun p _ hp => hbp2.cell (by omega))
         have HMc1_ := Lib.hid (HMc1.out.keep fun p hp hq => ⟨hbp2.cell (by omega), hbp2.frozen (by omega)⟩)
         clear hbp2 hbs2))
  obtain ⟨v5, hv5⟩ : ∃ x, x = y2 := ⟨_, rfl⟩
  rw [← hv5]
  have hb : Below v4.heap.size v4 v5 := hv5 ▸ HBs2.out
  have z5 := hb.size
  clear s0 s1 s2 s3 s4 s5 s6 t0 t1 t2 t3 t4 t5 t6 u0 u1 u2 u3 u4 u5 u6 qBAL_0 qBA_0 qBA_1 qBA_2 qBA_3 qBA_4 qBA_5 lqBAL lqBA
  have HTAL_5 := Lib.hid (HTAL_4.out.keep fun p _ hp => hb.cell (by omega))
  have HVA_5 := Lib.hid (HVA_4.out.keep fun p _ hp => hb.cell (by omega))
  have HEA_5 := Lib.hid (HEA_4.out.keep fun p _ hp => hb.cell (by omega))
  have HHA_5 := Lib.hid (HHA_4.out.keep fun p _ hp => hb.cell (by omega))
  have HPA_5 := Lib.hid (HPA_4.out.keep fun p _ hp => hb.cell (by omega))
  have Hbel_5 := Lib.hid (Hbel_4.out.trans (hb.mono (by omega)))
  have HBAL_5 := Lib.hid (HBAL_4.out.below hb (by omega))
  have HBA_5 := Lib.hid (HBA_4.out.below hb (by omega))
  clear HTAL_4 HVA_4 HEA_4 HHA_4 HPA_4 Hbel_4 HBAL_4 HBA_4
  clear hb hv5
  have qBAL_0 := HBAL_5.out 0 (by simp)
  simp only [List.getElem_cons_zero] at qBAL_0
  have lqBAL : w.heap.size < v5.heap.size := by omega
  go_wp2_with fail
  refine (toLedger_any AL ts cL v5 (HTAL_5.out.mono (by omega)) htlAL htbAL).mono ?_
  rintro e v6 ⟨gt6, rfl, _, hown, hb⟩
  have z6 := hb.size
  have HN6 := Lib.hid hown
  have HTAL_6 := Lib.hid (HTAL_5.out.keep fun p _ hp => hb.cell (by omega))
  have HVA_6 := Lib.hid (HVA_5.out.keep fun p _ hp => hb.cell (by omega))
  have HEA_6 := Lib.hid (HEA_5.out.keep fun p _ hp => hb.cell (by omega))
  have HHA_6 := Lib.hid (HHA_5.out.keep fun p _ hp => hb.cell (by omega))
  have HPA_6 := Lib.hid (HPA_5.out.keep fun p _ hp => hb.cell (by omega))
  have Hbel_6 := Lib.hid (Hbel_5.out.trans (hb.mono (by omega)))
  have HBAL_6 := Lib.hid (HBAL_5.out.below hb (by omega))
  have HBA_6 := Lib.hid (HBA_5.out.below hb (by omega))
  clear qBAL_0 lqBAL
  clear HTAL_5 HVA_5 HEA_5 HHA_5 HPA_5 Hbel_5 HBAL_5 HBA_5
  clear hb hown
  have qBA_0 := HBA_6.out 0 (by simp)
  have qBA_1 := HBA_6.out 1 (by simp)
  have qBA_2 := HBA_6.out 2 (by simp)
  have qBA_3 := HBA_6.out 3 (by simp)
  have qBA_4 := HBA_6.out 4 (by simp)
  have qBA_5 := HBA_6.out 5 (by simp)
  simp only [List.getElem_cons_succ, List.getElem_cons_zero] at qBA_0 qBA_1 qBA_2 qBA_3 qBA_4 qBA_5
  have lqBA : w.heap.size + 1 < v6.heap.size := by omega
  go_wp2_with fail
  obtain ⟨v7, hw7⟩ : ∃ x, x = v6.alloc (.cells #[.slice (some ⟨gt6, 0, none⟩) ts.length ts.length] 35) := ⟨_, rfl⟩
  have hbx : Below v6.heap.size v6 v7 := by rw [hw7]; exact (Below.refl _ _).alloc (Nat.le_refl _) _
  have z7 : v6.heap.size < v7.heap.size := by rw [hw7]; simp
  have HNb7 := Lib.hid (show Bx v7 (v6.heap.size) [.slice (some ⟨gt6, 0, none⟩) ts.length ts.length] by rw [hw7]; exact Bx.new' _ _ _ _ rfl)
  rw [← hw7]
  clear hw7
  have HTAL_7 := Lib.hid (HTAL_6.out.keep fun p _ hp => hbx.cell (by omega))
  have HVA_7 := Lib.hid (HVA_6.out.keep fun p _ hp => hbx.cell (by omega))
  have HEA_7 := Lib.hid (HEA_6.out.keep fun p _ hp => hbx.cell (by omega))
  have HHA_7 := Lib.hid (HHA_6.out.keep fun p _ hp => hbx.cell (by omega))
  have HPA_7 := Lib.hid (HPA_6.out.keep fun p _ hp => hbx.cell (by omega))
  have Hbel_7 := Lib.hid (Hbel_6.out.trans (hbx.mono (by omega)))
  have HBAL_7 := Lib.hid (HBAL_6.out.below hbx (by omega))
  have HBA_7 := Lib.hid (HBA_6.out.below hbx (by omega))
  have HX0_7 := Lib.hid (HN6.out.keep fun p _ hp => hbx.cell (by omega))
  clear qBA_0 qBA_1 qBA_2 qBA_3 qBA_4 qBA_5 lqBA
  clear HTAL_6 HVA_6 HEA_6 HHA_6 HPA_6 Hbel_6 HBAL_6 HBA_6 HN6
  clear hbx
  refine (toDevice_own id AV vec cv A es c AH hs ch al AP ps cp v7 (HVA_7.out.mono (by omega)) (HEA_7.out.mono (by omega)) (HHA_7.out.mono (by omega)) (HPA_7.out.mono (by omega)) hvlA helA hblA hhlA hhbA hplA hpbA).mono ?_
  rintro e v8 ⟨gv8, ge8, gh8, gp8, rfl, _, hown, hb⟩
  have z8 := hb.size
  have HN8 := Lib.hid hown
  have HTAL_8 := Lib.hid (HTAL_7.out.keep fun p _ hp => hb.cell (by omega))
  have HVA_8 := Lib.hid (HVA_7.out.keep fun p _ hp => hb.cell (by omega))
  have HEA_8 := Lib.hid (HEA_7.out.keep fun p _ hp => hb.cell (by omega))
  have HHA_8 := Lib.hid (HHA_7.out.keep fun p _ hp => hb.cell (by omega))
  have HPA_8 := Lib.hid (HPA_7.out.keep fun p _ hp => hb.cell (by omega))
  have Hbel_8 := Lib.hid (Hbel_7.out.trans (hb.mono (by omega)))
  have HBAL_8 := Lib.hid (HBAL_7.out.below hb (by omega))
  have HBA_8 := Lib.hid (HBA_7.out.below hb (by omega))
  have HX0_8 := Lib.hid (HX0_7.out.keep fun p _ hp => hb.cell (by omega))
  have HX0b_8 := Lib.hid (HNb7.out.below hb (by omega))
  clear HTAL_7 HVA_7 HEA_7 HHA_7 HPA_7 Hbel_7 HBAL_7 HBA_7 HX0_7 HNb7
  clear hb hown
  have qX0b_0 := HX0b_8.out 0 (by simp)
  simp only [List.getElem_cons_zero] at qX0b_0
  have lqX0b : v6.heap.size < v8.heap.size := by omega
  go_wp2_with fail
  obtain ⟨v9, hw9⟩ : ∃ x, x = v8.alloc (.cells #[.int .i64 id, .slice (some ⟨gv8, 0, none⟩) vec.length vec.length, .slice (some ⟨ge8, 0, none⟩) es.length es.length, .slice (some ⟨gh8, 0, none⟩) hs.length hs.length, .bool al, .slice (some ⟨gp8, 0, none⟩) ps.length ps.length] 57) := ⟨_, rfl⟩
  have hbx : Below v8.heap.size v8 v9 := by rw [hw9]; exact (Below.refl _ _).alloc (Nat.le_refl _) _
  have z9 : v8.heap.size < v9.heap.size := by rw [hw9]; simp
  have HNb9 := Lib.hid (show Bx v9 (v8.heap.size) [.int .i64 id, .slice (some ⟨gv8, 0, none⟩) vec.length vec.length, .slice (some ⟨ge8, 0, none⟩) es.length es.length, .slice (some ⟨gh8, 0, none⟩) hs.length hs.length, .bool al, .slice (some ⟨gp8, 0, none⟩) ps.length ps.length] by rw [hw9]; exact Bx.new' _ _ _ _ rfl)
  rw [← hw9]
  clear hw9
  have HTAL_9 := Lib.hid (HTAL_8.out.keep fun p _ hp => hbx.cell (by omega))
  have HVA_9 := Lib.hid (HVA_8.out.keep fun p _ hp => hbx.cell (by omega))
  have HEA_9 := Lib.hid (HEA_8.out.keep fun p _ hp => hbx.cell (by omega))
  have HHA_9 := Lib.hid (HHA_8.out.keep fun p _ hp => hbx.cell (by omega))
  have HPA_9 := Lib.hid (HPA_8.out.keep fun p _ hp => hbx.cell (by omega))
  have Hbel_9 := Lib.hid (Hbel_8.out.trans (hbx.mono (by omega)))
  have HBAL_9 := Lib.hid (HBAL_8.out.below hbx (by omega))
  have HBA_9 := Lib.hid (HBA_8.out.below hbx (by omega))
  have HX0_9 := Lib.hid (HX0_8.out.keep fun p _ hp => hbx.cell (by omega))
  have HX0b_9 := Lib.hid (HX0b_8.out.below hbx (by omega))
  have HX1_9 := Lib.hid (HN8.out.keep fun p hp hq => ⟨hbx.cell (by omega), hbx.frozen (by omega)⟩)
  clear qX0b_0 lqX0b
  clear HTAL_8 HVA_8 HEA_8 HHA_8 HPA_8 Hbel_8 HBAL_8 HBA_8 HX0_8 HX0b_8 HN8
  clear hbx
  refine (implDeviceOk_any (some ⟨gt6, 0, none⟩) ts ts.length id (some ⟨gv8, 0, none⟩) vec vec.length (some ⟨ge8, 0, none⟩) es es.length (some ⟨gh8, 0, none⟩) hs hs.length al (some ⟨gp8, 0, none⟩) ps ps.length v9 ((HX0_9.out.low (Nat.zero_le _)).mono (by omega)) htlAL htbAL ((HX1_9.out.tree.vecIn.ints.low (Nat.zero_le _)).mono (by omega)) ((HX1_9.out.tree.ensIn.ens.low (Nat.zero_le _)).mono (by omega)) (HX1_9.out.heads.rd.mono (Nat.zero_le _) (by omega)) (HX1_9.out.proof.rd.mono (Nat.zero_le _) (by omega)) hvlA helA hblA hhlA hhbA hplA hpbA).mono ?_
  rintro e v10 ⟨rfl, hb⟩
  have z10 := hb.size
  have HTAL_10 := Lib.hid (HTAL_9.out.keep fun p _ hp => hb.cell (by omega))
  have HVA_10 := Lib.hid (HVA_9.out.keep fun p _ hp => hb.cell (by omega))
  have HEA_10 := Lib.hid (HEA_9.out.keep fun p _ hp => hb.cell (by omega))
  have HHA_10 := Lib.hid (HHA_9.out.keep fun p _ hp => hb.cell (by omega))
  have HPA_10 := Lib.hid (HPA_9.out.keep fun p _ hp => hb.cell (by omega))
  have Hbel_10 := Lib.hid (Hbel_9.out.trans (hb.mono (by omega)))
  have HBAL_10 := Lib.hid (HBAL_9.out.below hb (by omega))
  have HBA_10 := Lib.hid (HBA_9.out.below hb (by omega))
  have HX0_10 := Lib.hid (HX0_9.out.keep fun p _ hp => hb.cell (by omega))
  have HX0b_10 := Lib.hid (HX0b_9.out.below hb (by omega))
  have HX1_10 := Lib.hid (HX1_9.out.keep fun p hp hq => ⟨hb.cell (by omega), hb.frozen (by omega)⟩)
  have HX1b_10 := Lib.hid (HNb9.out.below hb (by omega))
  clear HTAL_9 HVA_9 HEA_9 HHA_9 HPA_9 Hbel_9 HBAL_9 HBA_9 HX0_9 HX0b_9 HX1_9 HNb9
  clear hb
  have hcmp : ((dokB ts id vec es hs al ps) != (dokB ts id vec es hs al ps)) = false := by simp
  have qX0b_0 := HX0b_10.out 0 (by simp)
  have qBAL_0 := HBAL_10.out 0 (by simp)
  simp only [List.getElem_cons_zero] at qX0b_0 qBAL_0
  have lqX0b : v6.heap.size < v10.heap.size := by omega
  have lqBAL : w.heap.size < v10.heap.size := by omega
  go_wp2_with fail
  go_region_held3 (fun X => X.cell? ⟨v6.heap.size, 0, none⟩ = some (.slice (some ⟨gt6, 0, none⟩) ts.length ts.length) ∧ X.cell? ⟨w.heap.size, 0, none⟩ = some (.slice AL ts.length cL))
    (first | exact ⟨qX0b_0, qBAL_0⟩ | exact ⟨s0, s1⟩ | exact ⟨t0, t1⟩)
    (first
      | (go_at_call 15
         refine (toLedger_any AL ts cL _ ((HTAL_10.out.keep fun p _ hp => ?_).mono ?_) htlAL htbAL).mono ?_
         · rfl
         · show w.heap.size ≤ v10.heap.size; omega
         rintro e wy ⟨gty, rfl, _, howny, hby⟩
         have hbsy : Below v10.heap.size v10 wy := by first | exact hby | exact (Below.refl v10.heap.size v10).drew.trans hby
         have s0 := (hbsy.cell (p := ⟨v6.heap.size, 0, none⟩) (by show v6.heap.size < v10.heap.size; omega)).trans qX0b_0
         have s1 := (hbsy.cell (p := ⟨w.heap.size, 0, none⟩) (by show w.heap.size < v10.heap.size; omega)).trans qBAL_0
         have hzy := hbsy.size
         have HTy := Lib.hid (show TmsIn wy v10.heap.size wy.heap.size _ ts from howny)
         have HBy := Lib.hid hbsy
         clear howny hby hbsy)
      | (go_at_call 18
         refine (eqLedger_same (some ⟨gt6, 0, none⟩) _ ts ts.length _ v5.heap.size v10.heap.size v6.heap.size wy.heap.size _ (HX0_10.out.keep fun p _ hq => HBy.out.cell (by omega)) HTy.out ?_ ?_ htlAL htbAL).mono ?_
         · show v6.heap.size ≤ wy.heap.size; omega
         · exact Nat.le_refl _
         rintro e wz ⟨rfl, hbz⟩
         have hbyz : Below wy.heap.size wy wz := by first | exact hbz | exact (Below.refl wy.heap.size wy).drew.trans hbz
         have t0 := (hbyz.cell (p := ⟨v6.heap.size, 0, none⟩) (by show v6.heap.size < wy.heap.size; omega)).trans s0
         have t1 := (hbyz.cell (p := ⟨w.heap.size, 0, none⟩) (by show w.heap.size < wy.heap.size; omega)).trans s1
         have HBz := Lib.hid (HBy.out.trans (hbyz.mono (by omega)))
         have hzz : v10.heap.size ≤ wz.heap.size := Nat.le_trans hzy hbyz.size
         clear hbz hbyz))
  obtain ⟨v11, hv11⟩ : ∃ x, x = wz := ⟨_, rfl⟩
  rw [← hv11]
  have hb : Below v10.heap.size v10 v11 := hv11 ▸ HBz.out
  have z11 := hb.size
  clear HBy HTy HBz hzy hzz s0 s1 t0 t1 qX0b_0 qBAL_0 lqX0b lqBAL
  have HTAL_11 := Lib.hid (HTAL_10.out.keep fun p _ hp => hb.cell (by omega))
  have HVA_11 := Lib.hid (HVA_10.out.keep fun p _ hp => hb.cell (by omega))
  have HEA_11 := Lib.hid (HEA_10.out.keep fun p _ hp => hb.cell (by omega))
  have HHA_11 := Lib.hid (HHA_10.out.keep fun p _ hp => hb.cell (by omega))
  have HPA_11 := Lib.hid (HPA_10.out.keep fun p _ hp => hb.cell (by omega))
  have Hbel_11 := Lib.hid (Hbel_10.out.trans (hb.mono (by omega)))
  have HBAL_11 := Lib.hid (HBAL_10.out.below hb (by omega))
  have HBA_11 := Lib.hid (HBA_10.out.below hb (by omega))
  have HX0_11 := Lib.hid (HX0_10.out.keep fun p _ hp => hb.cell (by omega))
  have HX0b_11 := Lib.hid (HX0b_10.out.below hb (by omega))
  have HX1_11 := Lib.hid (HX1_10.out.keep fun p hp hq => ⟨hb.cell (by omega), hb.frozen (by omega)⟩)
  have HX1b_11 := Lib.hid (HX1b_10.out.below hb (by omega))
  clear HTAL_10 HVA_10 HEA_10 HHA_10 HPA_10 Hbel_10 HBAL_10 HBA_10 HX0_10 HX0b_10 HX1_10 HX1b_10
  clear hb hv11
  have qX1b_0 := HX1b_11.out 0 (by simp)
  have qX1b_1 := HX1b_11.out 1 (by simp)
  have qX1b_2 := HX1b_11.out 2 (by simp)
  have qX1b_3 := HX1b_11.out 3 (by simp)
  have qX1b_4 := HX1b_11.out 4 (by simp)
  have qX1b_5 := HX1b_11.out 5 (by simp)
  have qBA_0 := HBA_11.out 0 (by simp)
  have qBA_1 := HBA_11.out 1 (by simp)
  have qBA_2 := HBA_11.out 2 (by simp)
  have qBA_3 := HBA_11.out 3 (by simp)
  have qBA_4 := HBA_11.out 4 (by simp)
  have qBA_5 := HBA_11.out 5 (by simp)
  simp only [List.getElem_cons_succ, List.getElem_cons_zero] at qX1b_0 qX1b_1 qX1b_2 qX1b_3 qX1b_4 qX1b_5 qBA_0 qBA_1 qBA_2 qBA_3 qBA_4 qBA_5
  have lqX1b : v8.heap.size < v11.heap.size := by omega
  have lqBA : w.heap.size + 1 < v11.heap.size := by omega
  go_wp2_with fail
  go_region_held3 (fun X => X.cell? ⟨v8.heap.size, 0, none⟩ = some (.int .i64 id) ∧ X.cell? ⟨v8.heap.size, 1, none⟩ = some (.slice (some ⟨gv8, 0, none⟩) vec.length vec.length) ∧ X.cell? ⟨v8.heap.size, 2, none⟩ = some (.slice (some ⟨ge8, 0, none⟩) es.length es.length) ∧ X.cell? ⟨v8.heap.size, 3, none⟩ = some (.slice (some ⟨gh8, 0, none⟩) hs.length hs.length) ∧ X.cell? ⟨v8.heap.size, 4, none⟩ = some (.bool al) ∧ X.cell? ⟨v8.heap.size, 5, none⟩ = some (.slice (some ⟨gp8, 0, none⟩) ps.length ps.length) ∧ X.cell? ⟨w.heap.size + 1, 0, none⟩ = some (.int .i64 id) ∧ X.cell? ⟨w.heap.size + 1, 1, none⟩ = some (.slice AV vec.length cv) ∧ X.cell? ⟨w.heap.size + 1, 2, none⟩ = some (.slice A es.length c) ∧ X.cell? ⟨w.heap.size + 1, 3, none⟩ = some (.slice AH hs.length ch) ∧ X.cell? ⟨w.heap.size + 1, 4, none⟩ = some (.bool al) ∧ X.cell? ⟨w.heap.size + 1, 5, none⟩ = some (.slice AP ps.length cp))
    (first | exact ⟨qX1b_0, qX1b_1, qX1b_2, qX1b_3, qX1b_4, qX1b_5, qBA_0, qBA_1, qBA_2, qBA_3, qBA_4, qBA_5⟩ | exact ⟨s0, s1, s2, s3, s4, s5, s6, s7, s8, s9, s10, s11⟩ | exact ⟨t0, t1, t2, t3, t4, t5, t6, t7, t8, t9, t10, t11⟩)
    (first
      | (go_at_call 26
         refine (toDevice_own id AV vec cv A es c AH hs ch al AP ps cp _ ((HVA_11.out.keep fun p _ hp => ?_).mono ?_) ((HEA_11.out.keep fun p _ hp => ?_).mono ?_) ((HHA_11.out.keep fun p _ hp => ?_).mono ?_) ((HPA_11.out.keep fun p _ hp => ?_).mono ?_) hvlA helA hblA hhlA hhbA hplA hpbA).mono ?_
         · rfl
         · show w.heap.size ≤ v11.heap.size; omega
         · rfl
         · show w.heap.size ≤ v11.heap.size; omega
         · rfl
         · show w.heap.size ≤ v11.heap.size; omega
         · rfl
         · show w.heap.size ≤ v11.heap.size; omega
         rintro e wy ⟨gvy, gey, ghy, gpy, rfl, _, howny, hby⟩
         have hbsy : Below v11.heap.size v11 wy := by first | exact hby | exact (Below.refl v11.heap.size v11).drew.trans hby
         have s0 := (hbsy.cell (p := ⟨v8.heap.size, 0, none⟩) (by show v8.heap.size < v11.heap.size; omega)).trans qX1b_0
         have s1 := (hbsy.cell (p := ⟨v8.heap.size, 1, none⟩) (by show v8.heap.size < v11.heap.size; omega)).trans qX1b_1
         have s2 := (hbsy.cell (p := ⟨v8.heap.size, 2, none⟩) (by show v8.heap.size < v11.heap.size; omega)).trans qX1b_2
         have s3 := (hbsy.cell (p := ⟨v8.heap.size, 3, none⟩) (by show v8.heap.size < v11.heap.size; omega)).trans qX1b_3
         have s4 := (hbsy.cell (p := ⟨v8.heap.size, 4, none⟩) (by show v8.heap.size < v11.heap.size; omega)).trans qX1b_4
         have s5 := (hbsy.cell (p := ⟨v8.heap.size, 5, none⟩) (by show v8.heap.size < v11.heap.size; omega)).trans qX1b_5
         have s6 := (hbsy.cell (p := ⟨w.heap.size + 1, 0, none⟩) (by show w.heap.size + 1 < v11.heap.size; omega)).trans qBA_0
         have s7 := (hbsy.cell (p := ⟨w.heap.size + 1, 1, none⟩) (by show w.heap.size + 1 < v11.heap.size; omega)).trans qBA_1
         have s8 := (hbsy.cell (p := ⟨w.heap.size + 1, 2, none⟩) (by show w.heap.size + 1 < v11.heap.size; omega)).trans qBA_2
         have s9 := (hbsy.cell (p := ⟨w.heap.size + 1, 3, none⟩) (by show w.heap.size + 1 < v11.heap.size; omega)).trans qBA_3
         have s10 := (hbsy.cell (p := ⟨w.heap.size + 1, 4, none⟩) (by show w.heap.size + 1 < v11.heap.size; omega)).trans qBA_4
         have s11 := (hbsy.cell (p := ⟨w.heap.size + 1, 5, none⟩) (by show w.heap.size + 1 < v11.heap.size; omega)).trans qBA_5
         have hzy := hbsy.size
         have HTy := Lib.hid (show DvOwn wy v11.heap.size wy.heap.size _ vec _ es _ hs _ ps from howny)
         have HBy := Lib.hid hbsy
         clear howny hby hbsy)
      | (go_at_call 28
         refine (eqDevice_same id (some ⟨gv8, 0, none⟩) _ (some ⟨ge8, 0, none⟩) _ (some ⟨gh8, 0, none⟩) _ (some ⟨gp8, 0, none⟩) _ vec es hs ps al vec.length _ es.length _ hs.length _ ps.length _ v7.heap.size v11.heap.size v8.heap.size wy.heap.size _ (HX1_11.out.keep fun p hp hq => ⟨HBy.out.cell (by omega), HBy.out.frozen (by omega)⟩) HTy.out ?_ ?_ hvlA helA hblA hhlA hhbA hplA hpbA).mono ?_
         · show v8.heap.size ≤ wy.heap.size; omega
         · exact Nat.le_refl _
         rintro e wz ⟨rfl, hbz⟩
         have hbyz : Below wy.heap.size wy wz := by first | exact hbz | exact (Below.refl wy.heap.size wy).drew.trans hbz
         have t0 := (hbyz.cell (p := ⟨v8.heap.size, 0, none⟩) (by show v8.heap.size < wy.heap.size; omega)).trans s0
         have t1 := (hbyz.cell (p := ⟨v8.heap.size, 1, none⟩) (by show v8.heap.size < wy.heap.size; omega)).trans s1
         have t2 := (hbyz.cell (p := ⟨v8.heap.size, 2, none⟩) (by show v8.heap.size < wy.heap.size; omega)).trans s2
         have t3 := (hbyz.cell (p := ⟨v8.heap.size, 3, none⟩) (by show v8.heap.size < wy.heap.size; omega)).trans s3
         have t4 := (hbyz.cell (p := ⟨v8.heap.size, 4, none⟩) (by show v8.heap.size < wy.heap.size; omega)).trans s4
         have t5 := (hbyz.cell (p := ⟨v8.heap.size, 5, none⟩) (by show v8.heap.size < wy.heap.size; omega)).trans s5
         have t6 := (hbyz.cell (p := ⟨w.heap.size + 1, 0, none⟩) (by show w.heap.size + 1 < wy.heap.size; omega)).trans s6
         have t7 := (hbyz.cell (p := ⟨w.heap.size + 1, 1, none⟩) (by show w.heap.size + 1 < wy.heap.size; omega)).trans s7
         have t8 := (hbyz.cell (p := ⟨w.heap.size + 1, 2, none⟩) (by show w.heap.size + 1 < wy.heap.size; omega)).trans s8
         have t9 := (hbyz.cell (p := ⟨w.heap.size + 1, 3, none⟩) (by show w.heap.size + 1 < wy.heap.size; omega)).trans s9
         have t10 := (hbyz.cell (p := ⟨w.heap.size + 1, 4, none⟩) (by show w.heap.size + 1 < wy.heap.size; omega)).trans s10
         have t11 := (hbyz.cell (p := ⟨w.heap.size + 1, 5, none⟩) (by show w.heap.size + 1 < wy.heap.size; omega)).trans s11
         have HBz := Lib.hid (HBy.out.trans (hbyz.mono (by omega)))
         have hzz : v11.heap.size ≤ wz.heap.size := Nat.le_trans hzy hbyz.size
         clear hbz hbyz))
  obtain ⟨v12, hv12⟩ : ∃ x, x = wz := ⟨_, rfl⟩
  rw [← hv12]
  have hb : Below v11.heap.size v11 v12 := hv12 ▸ HBz.out
  have z12 := hb.size
  clear HBy HTy HBz hzy hzz s0 s1 s2 s3 s4 s5 s6 s7 s8 s9 s10 s11 t0 t1 t2 t3 t4 t5 t6 t7 t8 t9 t10 t11 qX1b_0 qX1b_1 qX1b_2 qX1b_3 qX1b_4 qX1b_5 qBA_0 qBA_1 qBA_2 qBA_3 qBA_4 qBA_5 lqX1b lqBA
  have HTAL_12 := Lib.hid (HTAL_11.out.keep fun p _ hp => hb.cell (by omega))
  have HVA_12 := Lib.hid (HVA_11.out.keep fun p _ hp => hb.cell (by omega))
  have HEA_12 := Lib.hid (HEA_11.out.keep fun p _ hp => hb.cell (by omega))
  have HHA_12 := Lib.hid (HHA_11.out.keep fun p _ hp => hb.cell (by omega))
  have HPA_12 := Lib.hid (HPA_11.out.keep fun p _ hp => hb.cell (by omega))
  have Hbel_12 := Lib.hid (Hbel_11.out.trans (hb.mono (by omega)))
  have HBAL_12 := Lib.hid (HBAL_11.out.below hb (by omega))
  have HBA_12 := Lib.hid (HBA_11.out.below hb (by omega))
  have HX0_12 := Lib.hid (HX0_11.out.keep fun p _ hp => hb.cell (by omega))
  have HX0b_12 := Lib.hid (HX0b_11.out.below hb (by omega))
  have HX1_12 := Lib.hid (HX1_11.out.keep fun p hp hq => ⟨hb.cell (by omega), hb.frozen (by omega)⟩)
  have HX1b_12 := Lib.hid (HX1b_11.out.below hb (by omega))
  clear HTAL_11 HVA_11 HEA_11 HHA_11 HPA_11 Hbel_11 HBAL_11 HBA_11 HX0_11 HX0b_11 HX1_11 HX1b_11
  clear hb hv12
  go_wp2_with fail
  go_ret
  exact ⟨rfl, Hbel_12.out⟩

end Go.Proofs.YtckajeippfpojaaGreat
