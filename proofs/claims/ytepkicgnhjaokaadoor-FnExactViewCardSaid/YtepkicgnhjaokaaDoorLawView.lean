/-
  The law on View, walked: it answers true, and turns nothing that was there.
-/
import Derived.Test.YtepkicgnhjaokaaDoorTrM
import Derived.Test.YtepkicgnhjaokaaDoorGVwA
import Derived.Test.YtepkicgnhjaokaaDoorVwS
import Derived.Test.YtepkicgnhjaokaaDoorGVwB
import Derived.Deep.RegionHeld3
namespace Go.Proofs.YtepkicgnhjaokaaDoor
open Go.RowKit Go.Maps

set_option maxRecDepth 100000 in
set_option maxHeartbeats 8000000 in
theorem lawView_any (AV : Option Addr) (vec : List Int) (cv : Nat) (A : Option Addr) (es : List En) (c : Nat) (w : World) (hVA : IntsIn w 0 w.heap.size AV vec) (hEA : EnsIn w 0 w.heap.size A es) (nVA : vec.length ≤ 9223372036854775807) (nEA : es.length ≤ 9223372036854775807) (nBA : ∀ i (hi : i < es.length), es[i].name.length ≤ 9223372036854775807)
    (htab : Lib.TabIs Tryd.prog w "internal/strconv.uint64pow10" .u64 Lib.pow10Tab) :
    Calls Tryd.prog 6 #[.agg #[.slice AV vec.length cv, .slice A es.length c]] w fun e w' => e = .returned (.bool true) ∧ Below w.heap.size w w' := by
  have HVA := Lib.hid hVA
  have HEA := Lib.hid hEA
  have HnBA := Lib.hid nBA
  have HBel := Lib.hid (Below.refl w.heap.size w)
  have HTab := Lib.hid (Lib.tabBelow_of_tabIs htab)
  clear hVA hEA nBA htab
  have z0 : w.heap.size ≤ w.heap.size := Nat.le_refl _
  go_enter Tryd.func6, Tryd.ntmps6
  go_wp2_with fail
  obtain ⟨v1, hw1⟩ : ∃ x, x = w.alloc (.cells #[.slice AV vec.length cv, .slice A es.length c] 52) := ⟨_, rfl⟩
  have hbx : Below w.heap.size w v1 := by rw [hw1]; exact (Below.refl _ _).alloc (Nat.le_refl _) _
  have z1 : w.heap.size < v1.heap.size := by rw [hw1]; simp
  have HEs1 := Lib.hid (show v1.heap.size = w.heap.size + 1 by rw [hw1]; simp)
  have HNb1 := Lib.hid (show Bx v1 (w.heap.size) [.slice AV vec.length cv, .slice A es.length c] by rw [hw1]; exact Bx.new' _ _ _ _ rfl)
  rw [← hw1]
  clear hw1
  have HVA_1 := Lib.hid (HVA.out.keep fun p _ hp => hbx.cell (by omega))
  have HEA_1 := Lib.hid (HEA.out.keep fun p _ hp => hbx.cell (by omega))
  have Hbel_1 := Lib.hid (HBel.out.trans (hbx.mono (by omega)))
  clear HVA HEA HBel
  clear hbx
  refine (szTree_any AV vec cv A es c _ v1 (HEA_1.out.mono (by omega)) nVA nEA HnBA.out (by omega) (by omega)).mono ?_
  rintro e v2 ⟨r2, rfl, hsz, hb⟩
  have z2 := hb.size
  have HS2 := Lib.hid hsz
  have HVA_2 := Lib.hid (HVA_1.out.keep fun p _ hp => hb.cell (by omega))
  have HEA_2 := Lib.hid (HEA_1.out.keep fun p _ hp => hb.cell (by omega))
  have Hbel_2 := Lib.hid (Hbel_1.out.trans (hb.mono (by omega)))
  have HBA_2 := Lib.hid (HNb1.out.below hb (by omega))
  clear HVA_1 HEA_1 Hbel_1 HNb1
  clear hb hsz
  by_cases hr2 : r2 < 0
  · go_wp2_with fail
    all_goals go_ret
    all_goals exact ⟨rfl, Hbel_2.out⟩
  have hp2 : 0 ≤ r2 := by omega
  have hs2 : r2 + (vec.length + (es.length + ebulk es)) ≤ 1048576 := by have := HS2.out; unfold SzOk at this; omega
  have hvlA : vec.length ≤ 1048576 := by omega
  have helA : es.length ≤ 1048576 := by omega
  have hblA : ebulk es ≤ 1048576 := by omega
  have hmoA : mo es ≤ 4194304 := by unfold mo; omega
  have hrl2 : r2 ≤ 1048576 := by omega
  clear hr2 HS2 hs2
  have qBA_0 := HBA_2.out 0 (by simp)
  have qBA_1 := HBA_2.out 1 (by simp)
  simp only [List.getElem_cons_succ, List.getElem_cons_zero] at qBA_0 qBA_1
  have lqBA : w.heap.size < v2.heap.size := by omega
  go_wp2_with fail
  refine (toTree_own AV vec cv A es c v2 (HVA_2.out.mono (by omega)) (HEA_2.out.mono (by omega)) hvlA helA hblA).mono ?_
  rintro e v3 ⟨gv3, ge3, rfl, _, hown, hb⟩
  have z3 := hb.size
  have HN3 := Lib.hid hown
  have HVA_3 := Lib.hid (HVA_2.out.keep fun p _ hp => hb.cell (by omega))
  have HEA_3 := Lib.hid (HEA_2.out.keep fun p _ hp => hb.cell (by omega))
  have Hbel_3 := Lib.hid (Hbel_2.out.trans (hb.mono (by omega)))
  have HBA_3 := Lib.hid (HBA_2.out.below hb (by omega))
  clear qBA_0 qBA_1 lqBA
  clear HVA_2 HEA_2 Hbel_2 HBA_2
  clear hb hown
  go_wp2_with fail
  refine (specView_any (some ⟨gv3, 0, none⟩) vec vec.length (some ⟨ge3, 0, none⟩) es es.length v3 ((HN3.out.vecIn.ints.low (Nat.zero_le _)).mono (by omega)) ((HN3.out.ensIn.ens.low (Nat.zero_le _)).mono (by omega)) hvlA helA hblA).mono ?_
  rintro e v4 ⟨A4, c4, rfl, hown, hb⟩
  have z4 := hb.size
  have HN4 := Lib.hid hown
  have HVA_4 := Lib.hid (HVA_3.out.keep fun p _ hp => hb.cell (by omega))
  have HEA_4 := Lib.hid (HEA_3.out.keep fun p _ hp => hb.cell (by omega))
  have Hbel_4 := Lib.hid (Hbel_3.out.trans (hb.mono (by omega)))
  have HBA_4 := Lib.hid (HBA_3.out.below hb (by omega))
  have HM0_4 := Lib.hid (HN3.out.keep fun p hp hq => ⟨hb.cell (by omega), hb.frozen (by omega)⟩)
  clear HVA_3 HEA_3 Hbel_3 HBA_3 HN3
  clear hb hown
  clear HM0_4
  have qBA_0 := HBA_4.out 0 (by simp)
  have qBA_1 := HBA_4.out 1 (by simp)
  simp only [List.getElem_cons_succ, List.getElem_cons_zero] at qBA_0 qBA_1
  have lqBA : w.heap.size < v4.heap.size := by omega
  go_wp2_with fail
  refine (toTree_own AV vec cv A es c v4 (HVA_4.out.mono (by omega)) (HEA_4.out.mono (by omega)) hvlA helA hblA).mono ?_
  rintro e v5 ⟨gv5, ge5, rfl, _, hown, hb⟩
  have z5 := hb.size
  have HN5 := Lib.hid hown
  have HVA_5 := Lib.hid (HVA_4.out.keep fun p _ hp => hb.cell (by omega))
  have HEA_5 := Lib.hid (HEA_4.out.keep fun p _ hp => hb.cell (by omega))
  have Hbel_5 := Lib.hid (Hbel_4.out.trans (hb.mono (by omega)))
  have HBA_5 := Lib.hid (HBA_4.out.below hb (by omega))
  have HS_5 := Lib.hid (HN4.out.keep fun p hp hq => ⟨hb.cell (by omega), hb.frozen (by omega)⟩)
  clear qBA_0 qBA_1 lqBA
  clear HVA_4 HEA_4 Hbel_4 HBA_4 HN4
  clear hb hown
  go_wp2_with fail
  obtain ⟨v6, hw6⟩ : ∃ x, x = v5.alloc (.cells #[.slice (some ⟨gv5, 0, none⟩) vec.length vec.length, .slice (some ⟨ge5, 0, none⟩) es.length es.length] 34) := ⟨_, rfl⟩
  have hbx : Below v5.heap.size v5 v6 := by rw [hw6]; exact (Below.refl _ _).alloc (Nat.le_refl _) _
  have z6 : v5.heap.size < v6.heap.size := by rw [hw6]; simp
  have HNb6 := Lib.hid (show Bx v6 (v5.heap.size) [.slice (some ⟨gv5, 0, none⟩) vec.length vec.length, .slice (some ⟨ge5, 0, none⟩) es.length es.length] by rw [hw6]; exact Bx.new' _ _ _ _ rfl)
  rw [← hw6]
  clear hw6
  have HVA_6 := Lib.hid (HVA_5.out.keep fun p _ hp => hbx.cell (by omega))
  have HEA_6 := Lib.hid (HEA_5.out.keep fun p _ hp => hbx.cell (by omega))
  have Hbel_6 := Lib.hid (Hbel_5.out.trans (hbx.mono (by omega)))
  have HBA_6 := Lib.hid (HBA_5.out.below hbx (by omega))
  have HS_6 := Lib.hid (HS_5.out.keep fun p hp hq => ⟨hbx.cell (by omega), hbx.frozen (by omega)⟩)
  have HX0_6 := Lib.hid (HN5.out.keep fun p hp hq => ⟨hbx.cell (by omega), hbx.frozen (by omega)⟩)
  clear HVA_5 HEA_5 Hbel_5 HBA_5 HS_5 HN5
  clear hbx
  refine (implView_any (some ⟨gv5, 0, none⟩) vec vec.length (some ⟨ge5, 0, none⟩) es es.length v6 ((HX0_6.out.vecIn.ints.low (Nat.zero_le _)).mono (by omega)) ((HX0_6.out.ensIn.ens.low (Nat.zero_le _)).mono (by omega)) hvlA helA hblA (HTab.out _ Hbel_6.out)).mono ?_
  rintro e v7 ⟨A7, c7, rfl, hown, hb⟩
  have z7 := hb.size
  have HN7 := Lib.hid hown
  have HVA_7 := Lib.hid (HVA_6.out.keep fun p _ hp => hb.cell (by omega))
  have HEA_7 := Lib.hid (HEA_6.out.keep fun p _ hp => hb.cell (by omega))
  have Hbel_7 := Lib.hid (Hbel_6.out.trans (hb.mono (by omega)))
  have HBA_7 := Lib.hid (HBA_6.out.below hb (by omega))
  have HS_7 := Lib.hid (HS_6.out.keep fun p hp hq => ⟨hb.cell (by omega), hb.frozen (by omega)⟩)
  have HX0_7 := Lib.hid (HX0_6.out.keep fun p hp hq => ⟨hb.cell (by omega), hb.frozen (by omega)⟩)
  have HX0b_7 := Lib.hid (HNb6.out.below hb (by omega))
  clear HVA_6 HEA_6 Hbel_6 HBA_6 HS_6 HX0_6 HNb6
  clear hb hown
  go_wp2_with fail
  refine (eqFileS_same A7 A4 (vwL vec es) c7 c4 v6.heap.size v3.heap.size v7.heap.size v4.heap.size v7 HN7.out HS_7.out (by omega) (by omega) (vwL_len _ _ helA) (vwL_bulk _ _ hblA)).mono ?_
  rintro e v8 ⟨rfl, hb⟩
  have z8 := hb.size
  have HVA_8 := Lib.hid (HVA_7.out.keep fun p _ hp => hb.cell (by omega))
  have HEA_8 := Lib.hid (HEA_7.out.keep fun p _ hp => hb.cell (by omega))
  have Hbel_8 := Lib.hid (Hbel_7.out.trans (hb.mono (by omega)))
  have HBA_8 := Lib.hid (HBA_7.out.below hb (by omega))
  have HS_8 := Lib.hid (HS_7.out.keep fun p hp hq => ⟨hb.cell (by omega), hb.frozen (by omega)⟩)
  have HX0_8 := Lib.hid (HX0_7.out.keep fun p hp hq => ⟨hb.cell (by omega), hb.frozen (by omega)⟩)
  have HX0b_8 := Lib.hid (HX0b_7.out.below hb (by omega))
  have HR_8 := Lib.hid (HN7.out.keep fun p hp hq => ⟨hb.cell (by omega), hb.frozen (by omega)⟩)
  clear HVA_7 HEA_7 Hbel_7 HBA_7 HS_7 HX0_7 HX0b_7 HN7
  clear hb
  have qX0b_0 := HX0b_8.out 0 (by simp)
  have qX0b_1 := HX0b_8.out 1 (by simp)
  have qBA_0 := HBA_8.out 0 (by simp)
  have qBA_1 := HBA_8.out 1 (by simp)
  simp only [List.getElem_cons_succ, List.getElem_cons_zero] at qX0b_0 qX0b_1 qBA_0 qBA_1
  have lqX0b : v5.heap.size < v8.heap.size := by omega
  have lqBA : w.heap.size < v8.heap.size := by omega
  go_wp2_with fail
  go_region_held3 (fun X => X.cell? ⟨v5.heap.size, 0, none⟩ = some (.slice (some ⟨gv5, 0, none⟩) vec.length vec.length) ∧ X.cell? ⟨v5.heap.size, 1, none⟩ = some (.slice (some ⟨ge5, 0, none⟩) es.length es.length) ∧ X.cell? ⟨w.heap.size, 0, none⟩ = some (.slice AV vec.length cv) ∧ X.cell? ⟨w.heap.size, 1, none⟩ = some (.slice A es.length c))
    (first | exact ⟨qX0b_0, qX0b_1, qBA_0, qBA_1⟩ | exact ⟨s0, s1, s2, s3⟩ | exact ⟨t0, t1, t2, t3⟩)
    (first
      | (go_at_call 25
         refine (toTree_own AV vec cv A es c _ ((HVA_8.out.keep fun p _ hp => ?_).mono ?_) ((HEA_8.out.keep fun p _ hp => ?_).mono ?_) hvlA helA hblA).mono ?_
         · rfl
         · show w.heap.size ≤ v8.heap.size; omega
         · rfl
         · show w.heap.size ≤ v8.heap.size; omega
         rintro e wy ⟨gvy, gey, rfl, _, howny, hby⟩
         have hbsy : Below v8.heap.size v8 wy := by first | exact hby | exact (Below.refl v8.heap.size v8).drew.trans hby
         have s0 := (hbsy.cell (p := ⟨v5.heap.size, 0, none⟩) (by show v5.heap.size < v8.heap.size; omega)).trans qX0b_0
         have s1 := (hbsy.cell (p := ⟨v5.heap.size, 1, none⟩) (by show v5.heap.size < v8.heap.size; omega)).trans qX0b_1
         have s2 := (hbsy.cell (p := ⟨w.heap.size, 0, none⟩) (by show w.heap.size < v8.heap.size; omega)).trans qBA_0
         have s3 := (hbsy.cell (p := ⟨w.heap.size, 1, none⟩) (by show w.heap.size < v8.heap.size; omega)).trans qBA_1
         have hzy := hbsy.size
         have HTy := Lib.hid (show TrOwn wy v8.heap.size wy.heap.size _ vec _ es from howny)
         have HBy := Lib.hid hbsy
         clear howny hby hbsy)
      | (go_at_call 27
         refine (eqTree_same (some ⟨gv5, 0, none⟩) _ (some ⟨ge5, 0, none⟩) _ vec es vec.length _ es.length _ v4.heap.size v8.heap.size v5.heap.size wy.heap.size _ (HX0_8.out.keep fun p hp hq => ⟨HBy.out.cell (by omega), HBy.out.frozen (by omega)⟩) HTy.out ?_ ?_ hvlA helA hblA).mono ?_
         · show v5.heap.size ≤ wy.heap.size; omega
         · exact Nat.le_refl _
         rintro e wz ⟨rfl, hbz⟩
         have hbyz : Below wy.heap.size wy wz := by first | exact hbz | exact (Below.refl wy.heap.size wy).drew.trans hbz
         have t0 := (hbyz.cell (p := ⟨v5.heap.size, 0, none⟩) (by show v5.heap.size < wy.heap.size; omega)).trans s0
         have t1 := (hbyz.cell (p := ⟨v5.heap.size, 1, none⟩) (by show v5.heap.size < wy.heap.size; omega)).trans s1
         have t2 := (hbyz.cell (p := ⟨w.heap.size, 0, none⟩) (by show w.heap.size < wy.heap.size; omega)).trans s2
         have t3 := (hbyz.cell (p := ⟨w.heap.size, 1, none⟩) (by show w.heap.size < wy.heap.size; omega)).trans s3
         have HBz := Lib.hid (HBy.out.trans (hbyz.mono (by omega)))
         have hzz : v8.heap.size ≤ wz.heap.size := Nat.le_trans hzy hbyz.size
         clear hbz hbyz))
  obtain ⟨v9, hv9⟩ : ∃ x, x = wz := ⟨_, rfl⟩
  rw [← hv9]
  have hb : Below v8.heap.size v8 v9 := hv9 ▸ HBz.out
  have z9 := hb.size
  clear HBy HTy HBz hzy hzz s0 s1 s2 s3 t0 t1 t2 t3 qX0b_0 qX0b_1 qBA_0 qBA_1 lqX0b lqBA
  have HVA_9 := Lib.hid (HVA_8.out.keep fun p _ hp => hb.cell (by omega))
  have HEA_9 := Lib.hid (HEA_8.out.keep fun p _ hp => hb.cell (by omega))
  have Hbel_9 := Lib.hid (Hbel_8.out.trans (hb.mono (by omega)))
  have HBA_9 := Lib.hid (HBA_8.out.below hb (by omega))
  have HS_9 := Lib.hid (HS_8.out.keep fun p hp hq => ⟨hb.cell (by omega), hb.frozen (by omega)⟩)
  have HX0_9 := Lib.hid (HX0_8.out.keep fun p hp hq => ⟨hb.cell (by omega), hb.frozen (by omega)⟩)
  have HX0b_9 := Lib.hid (HX0b_8.out.below hb (by omega))
  have HR_9 := Lib.hid (HR_8.out.keep fun p hp hq => ⟨hb.cell (by omega), hb.frozen (by omega)⟩)
  clear HVA_8 HEA_8 Hbel_8 HBA_8 HS_8 HX0_8 HX0b_8 HR_8
  clear hb hv9
  have qX0b_0 := HX0b_9.out 0 (by simp)
  have qX0b_1 := HX0b_9.out 1 (by simp)
  simp only [List.getElem_cons_succ, List.getElem_cons_zero] at qX0b_0 qX0b_1
  have lqX0b : v5.heap.size < v9.heap.size := by omega
  go_wp2_with fail
  refine (markTree_own (some ⟨gv5, 0, none⟩) (some ⟨ge5, 0, none⟩) vec es vec.length es.length v4.heap.size v5.heap.size (1) v9 HX0_9.out (by omega) hvlA helA hblA (by omega) (by omega) (by omega)).mono ?_
  rintro e v10 ⟨rfl, hmk, hin⟩
  have z10 := hin.below.size
  have HVA_10 := Lib.hid (HVA_9.out.keep fun p _ hp => hin.cell (.inl (by omega)))
  have HEA_10 := Lib.hid (HEA_9.out.keep fun p _ hp => hin.cell (.inl (by omega)))
  have Hbel_10 := Lib.hid (Hbel_9.out.trans (hin.below.mono (by omega)))
  have HBA_10 := Lib.hid (HBA_9.out.inside hin (by omega))
  have HS_10 := Lib.hid (HS_9.out.keep fun p hp hq => ⟨hin.cell (by omega), hin.frozen p (by omega)⟩)
  have HX0b_10 := Lib.hid (HX0b_9.out.inside hin (by omega))
  have HR_10 := Lib.hid (HR_9.out.keep fun p hp hq => ⟨hin.cell (by omega), hin.frozen p (by omega)⟩)
  clear qX0b_0 qX0b_1 lqX0b
  clear HVA_9 HEA_9 Hbel_9 HBA_9 HS_9 HX0_9 HX0b_9 HR_9
  clear hin hmk
  have hk0 : 0 ≤ 1 + (vec.length : Int) + ((mo es : Nat) : Int) := by omega
  go_wp2_with fail
  refine (eqFileS_same A7 A4 (vwL vec es) c7 c4 v6.heap.size v3.heap.size v7.heap.size v4.heap.size v10 HR_10.out HS_10.out (by omega) (by omega) (vwL_len _ _ helA) (vwL_bulk _ _ hblA)).mono ?_
  rintro e v11 ⟨rfl, hb⟩
  have z11 := hb.size
  have HVA_11 := Lib.hid (HVA_10.out.keep fun p _ hp => hb.cell (by omega))
  have HEA_11 := Lib.hid (HEA_10.out.keep fun p _ hp => hb.cell (by omega))
  have Hbel_11 := Lib.hid (Hbel_10.out.trans (hb.mono (by omega)))
  have HBA_11 := Lib.hid (HBA_10.out.below hb (by omega))
  have HS_11 := Lib.hid (HS_10.out.keep fun p hp hq => ⟨hb.cell (by omega), hb.frozen (by omega)⟩)
  have HX0b_11 := Lib.hid (HX0b_10.out.below hb (by omega))
  have HR_11 := Lib.hid (HR_10.out.keep fun p hp hq => ⟨hb.cell (by omega), hb.frozen (by omega)⟩)
  clear HVA_10 HEA_10 Hbel_10 HBA_10 HS_10 HX0b_10 HR_10
  clear hb
  clear hk0
  go_wp2_with fail
  refine (markFileS_own A7 (vwL vec es) c7 v6.heap.size v7.heap.size (1) v11 HR_11.out (by omega) (vwL_len _ _ helA) (vwL_bulk _ _ hblA) (by omega) (by omega)).mono ?_
  rintro e v12 ⟨rfl, hmk, hin⟩
  have z12 := hin.below.size
  have HMk12 := Lib.hid hmk
  have HVA_12 := Lib.hid (HVA_11.out.keep fun p _ hp => hin.cell (.inl (by omega)))
  have HEA_12 := Lib.hid (HEA_11.out.keep fun p _ hp => hin.cell (.inl (by omega)))
  have Hbel_12 := Lib.hid (Hbel_11.out.trans (hin.below.mono (by omega)))
  have HBA_12 := Lib.hid (HBA_11.out.inside hin (by omega))
  have HS_12 := Lib.hid (HS_11.out.keep fun p hp hq => ⟨hin.cell (by omega), hin.frozen p (by omega)⟩)
  have HX0b_12 := Lib.hid (HX0b_11.out.inside hin (by omega))
  clear HVA_11 HEA_11 Hbel_11 HBA_11 HS_11 HX0b_11 HR_11
  clear hin hmk
  go_wp2_with fail
  refine (heldFileS_own A7 (vwL vec es) c7 v6.heap.size v7.heap.size 1 v12 HMk12.out (vwL_len _ _ helA) (vwL_bulk _ _ hblA) (by omega) (by omega)).mono ?_
  rintro e v13 ⟨rfl, hw⟩
  obtain rfl := hw
  have hq0 : (0 : Int) ≤ 1 + ((fo (vwL vec es) : Nat) : Int) := by omega
  have hq1 : ((1 + ((fo (vwL vec es) : Nat) : Int)) != 1 + ((fo (vwL vec es) : Nat) : Int)) = false := by simp
  have qBA_0 := HBA_12.out 0 (by simp)
  have qBA_1 := HBA_12.out 1 (by simp)
  simp only [List.getElem_cons_succ, List.getElem_cons_zero] at qBA_0 qBA_1
  have lqBA : w.heap.size < v12.heap.size := by omega
  go_wp2_with fail
  refine (toTree_own AV vec cv A es c v12 (HVA_12.out.mono (by omega)) (HEA_12.out.mono (by omega)) hvlA helA hblA).mono ?_
  rintro e v14 ⟨gv14, ge14, rfl, _, hown, hb⟩
  have z14 := hb.size
  have HN14 := Lib.hid hown
  have HVA_14 := Lib.hid (HVA_12.out.keep fun p _ hp => hb.cell (by omega))
  have HEA_14 := Lib.hid (HEA_12.out.keep fun p _ hp => hb.cell (by omega))
  have Hbel_14 := Lib.hid (Hbel_12.out.trans (hb.mono (by omega)))
  have HBA_14 := Lib.hid (HBA_12.out.below hb (by omega))
  have HS_14 := Lib.hid (HS_12.out.keep fun p hp hq => ⟨hb.cell (by omega), hb.frozen (by omega)⟩)
  have HX0b_14 := Lib.hid (HX0b_12.out.below hb (by omega))
  have HQ_14 := Lib.hid (HMk12.out.keep fun p hp hq => ⟨hb.cell (by omega), hb.frozen (by omega)⟩)
  clear qBA_0 qBA_1 lqBA
  clear HVA_12 HEA_12 Hbel_12 HBA_12 HS_12 HX0b_12 HMk12
  clear hb hown
  go_wp2_with fail
  refine (implView_any (some ⟨gv14, 0, none⟩) vec vec.length (some ⟨ge14, 0, none⟩) es es.length v14 ((HN14.out.vecIn.ints.low (Nat.zero_le _)).mono (by omega)) ((HN14.out.ensIn.ens.low (Nat.zero_le _)).mono (by omega)) hvlA helA hblA (HTab.out _ Hbel_14.out)).mono ?_
  rintro e v15 ⟨A15, c15, rfl, hown, hb⟩
  have z15 := hb.size
  have HN15 := Lib.hid hown
  have HVA_15 := Lib.hid (HVA_14.out.keep fun p _ hp => hb.cell (by omega))
  have HEA_15 := Lib.hid (HEA_14.out.keep fun p _ hp => hb.cell (by omega))
  have Hbel_15 := Lib.hid (Hbel_14.out.trans (hb.mono (by omega)))
  have HBA_15 := Lib.hid (HBA_14.out.below hb (by omega))
  have HS_15 := Lib.hid (HS_14.out.keep fun p hp hq => ⟨hb.cell (by omega), hb.frozen (by omega)⟩)
  have HX0b_15 := Lib.hid (HX0b_14.out.below hb (by omega))
  have HQ_15 := Lib.hid (HQ_14.out.keep fun p hp hq => ⟨hb.cell (by omega), hb.frozen (by omega)⟩)
  have HU0_15 := Lib.hid (HN14.out.keep fun p hp hq => ⟨hb.cell (by omega), hb.frozen (by omega)⟩)
  clear HVA_14 HEA_14 Hbel_14 HBA_14 HS_14 HX0b_14 HQ_14 HN14
  clear hb hown
  go_wp2_with fail
  refine (eqFileS_same A15 A4 (vwL vec es) c15 c4 v14.heap.size v3.heap.size v15.heap.size v4.heap.size v15 HN15.out HS_15.out (by omega) (by omega) (vwL_len _ _ helA) (vwL_bulk _ _ hblA)).mono ?_
  rintro e v16 ⟨rfl, hb⟩
  have z16 := hb.size
  have HVA_16 := Lib.hid (HVA_15.out.keep fun p _ hp => hb.cell (by omega))
  have HEA_16 := Lib.hid (HEA_15.out.keep fun p _ hp => hb.cell (by omega))
  have Hbel_16 := Lib.hid (Hbel_15.out.trans (hb.mono (by omega)))
  have HBA_16 := Lib.hid (HBA_15.out.below hb (by omega))
  have HX0b_16 := Lib.hid (HX0b_15.out.below hb (by omega))
  have HQ_16 := Lib.hid (HQ_15.out.keep fun p hp hq => ⟨hb.cell (by omega), hb.frozen (by omega)⟩)
  have HU0_16 := Lib.hid (HU0_15.out.keep fun p hp hq => ⟨hb.cell (by omega), hb.frozen (by omega)⟩)
  clear HVA_15 HEA_15 Hbel_15 HBA_15 HS_15 HX0b_15 HQ_15 HU0_15 HN15
  clear hb
  go_wp2_with fail
  refine (heldFileS_own A7 (vwL vec es) c7 v6.heap.size v7.heap.size 1 v16 HQ_16.out (vwL_len _ _ helA) (vwL_bulk _ _ hblA) (by omega) (by omega)).mono ?_
  rintro e v17 ⟨rfl, hw⟩
  obtain rfl := hw
  go_wp2_with fail
  go_ret
  exact ⟨rfl, Hbel_16.out⟩

end Go.Proofs.YtepkicgnhjaokaaDoor
