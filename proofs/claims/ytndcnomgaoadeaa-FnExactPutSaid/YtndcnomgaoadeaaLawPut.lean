/-
  The law on Put, walked: it answers true, and turns nothing that was there.
-/
import Derived.Test.YtndcnomgaoadeaaTrM
import Derived.Test.YtndcnomgaoadeaaPutI
import Derived.Test.YtndcnomgaoadeaaGPs
import Derived.Deep.RegionHeld3
namespace Go.Proofs.Ytndcnomgaoadeaa
open Go.RowKit Go.Maps

set_option maxRecDepth 100000 in
set_option maxHeartbeats 8000000 in
theorem lawPut_any (AV : Option Addr) (vec : List Int) (cv : Nat) (A : Option Addr) (es : List En) (c : Nat) (b : Int) (B : Option Addr) (l : List UInt8) (cb : Nat) (val : Int) (w : World) (hVA : IntsIn w 0 w.heap.size AV vec) (hEA : EnsIn w 0 w.heap.size A es) (nVA : vec.length ≤ 9223372036854775807) (nEA : es.length ≤ 9223372036854775807) (nBA : ∀ i (hi : i < es.length), es[i].name.length ≤ 9223372036854775807) (hB : BytesIn w 0 w.heap.size B l) (nB : l.length ≤ 9223372036854775807) :
    Calls Try.prog 3 #[.agg #[.slice AV vec.length cv, .slice A es.length c], .int .i64 b, .slice B l.length cb, .int .i64 val] w fun e w' => e = .returned (.bool true) ∧ Below w.heap.size w w' := by
  have HVA := Lib.hid hVA
  have HEA := Lib.hid hEA
  have HnBA := Lib.hid nBA
  have HB := Lib.hid hB
  have HBel := Lib.hid (Below.refl w.heap.size w)
  clear hVA hEA nBA hB
  have z0 : w.heap.size ≤ w.heap.size := Nat.le_refl _
  go_enter Try.func3, Try.ntmps3
  by_cases qB : (1048576 : Int) < l.length
  · go_wp2_with fail
    all_goals go_ret
    all_goals exact ⟨rfl, by repeat first | exact HBel.out | (refine Below.alloc ?_ (by first | exact Nat.le_refl _ | (simp; done) | (simp; omega)) _)⟩
  have rB : l.length ≤ 1048576 := by omega
  go_wp2_with fail
  obtain ⟨v1, hw1⟩ : ∃ x, x = w.alloc (.cells #[.slice AV vec.length cv, .slice A es.length c] 25) := ⟨_, rfl⟩
  have hbx : Below w.heap.size w v1 := by rw [hw1]; exact (Below.refl _ _).alloc (Nat.le_refl _) _
  have z1 : w.heap.size < v1.heap.size := by rw [hw1]; simp
  have HEs1 := Lib.hid (show v1.heap.size = w.heap.size + 1 by rw [hw1]; simp)
  have HNb1 := Lib.hid (show Bx v1 (w.heap.size) [.slice AV vec.length cv, .slice A es.length c] by rw [hw1]; exact Bx.new' _ _ _ _ rfl)
  rw [← hw1]
  clear hw1
  have HVA_1 := Lib.hid (HVA.out.keep fun p _ hp => hbx.cell (by omega))
  have HEA_1 := Lib.hid (HEA.out.keep fun p _ hp => hbx.cell (by omega))
  have HB_1 := Lib.hid (HB.out.keep fun p _ hp => hbx.cell (by omega))
  have Hbel_1 := Lib.hid (HBel.out.trans (hbx.mono (by omega)))
  clear HVA HEA HB HBel
  clear hbx
  refine (szTree_any AV vec cv A es c _ v1 (HEA_1.out.mono (by omega)) nVA nEA HnBA.out (by omega) (by omega)).mono ?_
  rintro e v2 ⟨r2, rfl, hsz, hb⟩
  have z2 := hb.size
  have HS2 := Lib.hid hsz
  have HVA_2 := Lib.hid (HVA_1.out.keep fun p _ hp => hb.cell (by omega))
  have HEA_2 := Lib.hid (HEA_1.out.keep fun p _ hp => hb.cell (by omega))
  have HB_2 := Lib.hid (HB_1.out.keep fun p _ hp => hb.cell (by omega))
  have Hbel_2 := Lib.hid (Hbel_1.out.trans (hb.mono (by omega)))
  have HBA_2 := Lib.hid (HNb1.out.below hb (by omega))
  clear HVA_1 HEA_1 HB_1 Hbel_1 HNb1
  clear hb hsz
  by_cases hr2 : r2 < 0
  · go_wp2_with fail
    all_goals go_ret
    all_goals exact ⟨rfl, Hbel_2.out⟩
  have hp2 : 0 ≤ r2 := by omega
  have hs2 : r2 + (vec.length + (es.length + ebulk es)) ≤ 1048576 := by have := HS2.out; unfold SzOk at this; omega
  have hvlA : vec.length ≤ 1048576 := by omega
  have helA : es.length ≤ 1048576 := by omega
  have hblA : ebulk es ≤ 1048576 := by omega
  have hmoA : mo es ≤ 4194304 := by unfold mo; omega
  have hrl2 : r2 ≤ 1048576 := by omega
  clear hr2 HS2 hs2
  have qBA_0 := HBA_2.out 0 (by simp)
  have qBA_1 := HBA_2.out 1 (by simp)
  simp only [List.getElem_cons_succ, List.getElem_cons_zero] at qBA_0 qBA_1
  have lqBA : w.heap.size < v2.heap.size := by omega
  go_wp2_with fail
  refine (toTree_own AV vec cv A es c v2 (HVA_2.out.mono (by omega)) (HEA_2.out.mono (by omega)) hvlA helA hblA).mono ?_
  rintro e v3 ⟨gv3, ge3, rfl, _, hown, hb⟩
  have z3 := hb.size
  have HN3 := Lib.hid hown
  have HVA_3 := Lib.hid (HVA_2.out.keep fun p _ hp => hb.cell (by omega))
  have HEA_3 := Lib.hid (HEA_2.out.keep fun p _ hp => hb.cell (by omega))
  have HB_3 := Lib.hid (HB_2.out.keep fun p _ hp => hb.cell (by omega))
  have Hbel_3 := Lib.hid (Hbel_2.out.trans (hb.mono (by omega)))
  have HBA_3 := Lib.hid (HBA_2.out.below hb (by omega))
  clear qBA_0 qBA_1 lqBA
  clear HVA_2 HEA_2 HB_2 Hbel_2 HBA_2
  clear hb hown
  go_wp2_with fail
  refine (toByteS_nf B l cb v3 (HB_3.out.mono (by omega)) rB).mono ?_
  rintro e v4 ⟨g4, rfl, _, _, hfr, hb⟩
  have z4 := hb.size
  have HN4 := Lib.hid hfr
  have HVA_4 := Lib.hid (HVA_3.out.keep fun p _ hp => hb.cell (by omega))
  have HEA_4 := Lib.hid (HEA_3.out.keep fun p _ hp => hb.cell (by omega))
  have HB_4 := Lib.hid (HB_3.out.keep fun p _ hp => hb.cell (by omega))
  have Hbel_4 := Lib.hid (Hbel_3.out.trans (hb.mono (by omega)))
  have HBA_4 := Lib.hid (HBA_3.out.below hb (by omega))
  have HM0_4 := Lib.hid (HN3.out.keep fun p hp hq => ⟨hb.cell (by omega), hb.frozen (by omega)⟩)
  clear HVA_3 HEA_3 HB_3 Hbel_3 HBA_3 HN3
  clear hb hfr
  go_wp2_with fail
  refine (specPut_any (some ⟨gv3, 0, none⟩) vec vec.length (some ⟨ge3, 0, none⟩) es es.length b (some ⟨g4, 0, none⟩) l l.length val v4 ((HM0_4.out.vecIn.ints.low (Nat.zero_le _)).mono (by omega)) ((HM0_4.out.ensIn.ens.low (Nat.zero_le _)).mono (by omega)) hvlA helA hblA ((HN4.out.bytes.low (Nat.zero_le _)).mono (by omega)) rB).mono ?_
  rintro e v5 ⟨AV5, cv5, A5, c5, rfl, hown, _, hb⟩
  have z5 := hb.size
  have HN5 := Lib.hid hown
  have HVA_5 := Lib.hid (HVA_4.out.keep fun p _ hp => hb.cell (by omega))
  have HEA_5 := Lib.hid (HEA_4.out.keep fun p _ hp => hb.cell (by omega))
  have HB_5 := Lib.hid (HB_4.out.keep fun p _ hp => hb.cell (by omega))
  have Hbel_5 := Lib.hid (Hbel_4.out.trans (hb.mono (by omega)))
  have HBA_5 := Lib.hid (HBA_4.out.below hb (by omega))
  have HM0_5 := Lib.hid (HM0_4.out.keep fun p hp hq => ⟨hb.cell (by omega), hb.frozen (by omega)⟩)
  have HM2_5 := Lib.hid (HN4.out.keep fun p hp hq => ⟨hb.cell (by omega), hb.frozen (by omega)⟩)
  clear HVA_4 HEA_4 HB_4 Hbel_4 HBA_4 HM0_4 HN4
  clear hb hown
  have qBA_0 := HBA_5.out 0 (by simp)
  have qBA_1 := HBA_5.out 1 (by simp)
  simp only [List.getElem_cons_succ, List.getElem_cons_zero] at qBA_0 qBA_1
  have lqBA : w.heap.size < v5.heap.size := by omega
  go_wp2_with fail
  obtain ⟨v6, hw6⟩ : ∃ x, x = v5.alloc (.cells #[.slice AV5 (puVec vec es b l val : List Int).length cv5, .slice A5 (puEs vec es b l val : List En).length c5] 30) := ⟨_, rfl⟩
  have hbx : Below v5.heap.size v5 v6 := by rw [hw6]; exact (Below.refl _ _).alloc (Nat.le_refl _) _
  have z6 : v5.heap.size < v6.heap.size := by rw [hw6]; simp
  have HNb6 := Lib.hid (show Bx v6 (v5.heap.size) [.slice AV5 (puVec vec es b l val : List Int).length cv5, .slice A5 (puEs vec es b l val : List En).length c5] by rw [hw6]; exact Bx.new' _ _ _ _ rfl)
  rw [← hw6]
  clear hw6
  have HVA_6 := Lib.hid (HVA_5.out.keep fun p _ hp => hbx.cell (by omega))
  have HEA_6 := Lib.hid (HEA_5.out.keep fun p _ hp => hbx.cell (by omega))
  have HB_6 := Lib.hid (HB_5.out.keep fun p _ hp => hbx.cell (by omega))
  have Hbel_6 := Lib.hid (Hbel_5.out.trans (hbx.mono (by omega)))
  have HBA_6 := Lib.hid (HBA_5.out.below hbx (by omega))
  have HM0_6 := Lib.hid (HM0_5.out.keep fun p hp hq => ⟨hbx.cell (by omega), hbx.frozen (by omega)⟩)
  have HM2_6 := Lib.hid (HM2_5.out.keep fun p hp hq => ⟨hbx.cell (by omega), hbx.frozen (by omega)⟩)
  have HS_6 := Lib.hid (HN5.out.keep fun p hp hq => ⟨hbx.cell (by omega), hbx.frozen (by omega)⟩)
  clear qBA_0 qBA_1 lqBA
  clear HVA_5 HEA_5 HB_5 Hbel_5 HBA_5 HM0_5 HM2_5 HN5
  clear hbx
  clear HM0_6 HM2_6
  refine (toTree_own AV vec cv A es c v6 (HVA_6.out.mono (by omega)) (HEA_6.out.mono (by omega)) hvlA helA hblA).mono ?_
  rintro e v7 ⟨gv7, ge7, rfl, _, hown, hb⟩
  have z7 := hb.size
  have HN7 := Lib.hid hown
  have HVA_7 := Lib.hid (HVA_6.out.keep fun p _ hp => hb.cell (by omega))
  have HEA_7 := Lib.hid (HEA_6.out.keep fun p _ hp => hb.cell (by omega))
  have HB_7 := Lib.hid (HB_6.out.keep fun p _ hp => hb.cell (by omega))
  have Hbel_7 := Lib.hid (Hbel_6.out.trans (hb.mono (by omega)))
  have HBA_7 := Lib.hid (HBA_6.out.below hb (by omega))
  have HS_7 := Lib.hid (HS_6.out.keep fun p hp hq => ⟨hb.cell (by omega), hb.frozen (by omega)⟩)
  have HSb_7 := Lib.hid (HNb6.out.below hb (by omega))
  clear HVA_6 HEA_6 HB_6 Hbel_6 HBA_6 HS_6 HNb6
  clear hb hown
  go_wp2_with fail
  obtain ⟨v8, hw8⟩ : ∃ x, x = v7.alloc (.cells #[.slice (some ⟨gv7, 0, none⟩) vec.length vec.length, .slice (some ⟨ge7, 0, none⟩) es.length es.length] 30) := ⟨_, rfl⟩
  have hbx : Below v7.heap.size v7 v8 := by rw [hw8]; exact (Below.refl _ _).alloc (Nat.le_refl _) _
  have z8 : v7.heap.size < v8.heap.size := by rw [hw8]; simp
  have HNb8 := Lib.hid (show Bx v8 (v7.heap.size) [.slice (some ⟨gv7, 0, none⟩) vec.length vec.length, .slice (some ⟨ge7, 0, none⟩) es.length es.length] by rw [hw8]; exact Bx.new' _ _ _ _ rfl)
  rw [← hw8]
  clear hw8
  have HVA_8 := Lib.hid (HVA_7.out.keep fun p _ hp => hbx.cell (by omega))
  have HEA_8 := Lib.hid (HEA_7.out.keep fun p _ hp => hbx.cell (by omega))
  have HB_8 := Lib.hid (HB_7.out.keep fun p _ hp => hbx.cell (by omega))
  have Hbel_8 := Lib.hid (Hbel_7.out.trans (hbx.mono (by omega)))
  have HBA_8 := Lib.hid (HBA_7.out.below hbx (by omega))
  have HS_8 := Lib.hid (HS_7.out.keep fun p hp hq => ⟨hbx.cell (by omega), hbx.frozen (by omega)⟩)
  have HSb_8 := Lib.hid (HSb_7.out.below hbx (by omega))
  have HX0_8 := Lib.hid (HN7.out.keep fun p hp hq => ⟨hbx.cell (by omega), hbx.frozen (by omega)⟩)
  clear HVA_7 HEA_7 HB_7 Hbel_7 HBA_7 HS_7 HSb_7 HN7
  clear hbx
  refine (toByteS_nf B l cb v8 (HB_8.out.mono (by omega)) rB).mono ?_
  rintro e v9 ⟨g9, rfl, _, _, hfr, hb⟩
  have z9 := hb.size
  have HN9 := Lib.hid hfr
  have HVA_9 := Lib.hid (HVA_8.out.keep fun p _ hp => hb.cell (by omega))
  have HEA_9 := Lib.hid (HEA_8.out.keep fun p _ hp => hb.cell (by omega))
  have HB_9 := Lib.hid (HB_8.out.keep fun p _ hp => hb.cell (by omega))
  have Hbel_9 := Lib.hid (Hbel_8.out.trans (hb.mono (by omega)))
  have HBA_9 := Lib.hid (HBA_8.out.below hb (by omega))
  have HS_9 := Lib.hid (HS_8.out.keep fun p hp hq => ⟨hb.cell (by omega), hb.frozen (by omega)⟩)
  have HSb_9 := Lib.hid (HSb_8.out.below hb (by omega))
  have HX0_9 := Lib.hid (HX0_8.out.keep fun p hp hq => ⟨hb.cell (by omega), hb.frozen (by omega)⟩)
  have HX0b_9 := Lib.hid (HNb8.out.below hb (by omega))
  clear HVA_8 HEA_8 HB_8 Hbel_8 HBA_8 HS_8 HSb_8 HX0_8 HNb8
  clear hb hfr
  have qX0b_0 := HX0b_9.out 0 (by simp)
  have qX0b_1 := HX0b_9.out 1 (by simp)
  simp only [List.getElem_cons_succ, List.getElem_cons_zero] at qX0b_0 qX0b_1
  have lqX0b : v7.heap.size < v9.heap.size := by omega
  go_wp2_with fail
  refine (implPut_any (some ⟨gv7, 0, none⟩) vec vec.length (some ⟨ge7, 0, none⟩) es es.length b (some ⟨g9, 0, none⟩) l l.length val v9 ((HX0_9.out.vecIn.ints.low (Nat.zero_le _)).mono (by omega)) ((HX0_9.out.ensIn.ens.low (Nat.zero_le _)).mono (by omega)) hvlA helA hblA ((HN9.out.bytes.low (Nat.zero_le _)).mono (by omega)) rB).mono ?_
  rintro e v10 ⟨AV10, cv10, A10, c10, rfl, hown, _, hb⟩
  have z10 := hb.size
  have HN10 := Lib.hid hown
  have HVA_10 := Lib.hid (HVA_9.out.keep fun p _ hp => hb.cell (by omega))
  have HEA_10 := Lib.hid (HEA_9.out.keep fun p _ hp => hb.cell (by omega))
  have HB_10 := Lib.hid (HB_9.out.keep fun p _ hp => hb.cell (by omega))
  have Hbel_10 := Lib.hid (Hbel_9.out.trans (hb.mono (by omega)))
  have HBA_10 := Lib.hid (HBA_9.out.below hb (by omega))
  have HS_10 := Lib.hid (HS_9.out.keep fun p hp hq => ⟨hb.cell (by omega), hb.frozen (by omega)⟩)
  have HSb_10 := Lib.hid (HSb_9.out.below hb (by omega))
  have HX0_10 := Lib.hid (HX0_9.out.keep fun p hp hq => ⟨hb.cell (by omega), hb.frozen (by omega)⟩)
  have HX0b_10 := Lib.hid (HX0b_9.out.below hb (by omega))
  have HX2_10 := Lib.hid (HN9.out.keep fun p hp hq => ⟨hb.cell (by omega), hb.frozen (by omega)⟩)
  clear qX0b_0 qX0b_1 lqX0b
  clear HVA_9 HEA_9 HB_9 Hbel_9 HBA_9 HS_9 HSb_9 HX0_9 HX0b_9 HN9
  clear hb hown
  have qSb_0 := HSb_10.out 0 (by simp)
  have qSb_1 := HSb_10.out 1 (by simp)
  simp only [List.getElem_cons_succ, List.getElem_cons_zero] at qSb_0 qSb_1
  have lqSb : v5.heap.size < v10.heap.size := by omega
  go_wp2_with fail
  obtain ⟨v11, hw11⟩ : ∃ x, x = v10.alloc (.cells #[.slice AV10 (puVec vec es b l val : List Int).length cv10, .slice A10 (puEs vec es b l val : List En).length c10] 30) := ⟨_, rfl⟩
  have hbx : Below v10.heap.size v10 v11 := by rw [hw11]; exact (Below.refl _ _).alloc (Nat.le_refl _) _
  have z11 : v10.heap.size < v11.heap.size := by rw [hw11]; simp
  have HNb11 := Lib.hid (show Bx v11 (v10.heap.size) [.slice AV10 (puVec vec es b l val : List Int).length cv10, .slice A10 (puEs vec es b l val : List En).length c10] by rw [hw11]; exact Bx.new' _ _ _ _ rfl)
  rw [← hw11]
  clear hw11
  have HVA_11 := Lib.hid (HVA_10.out.keep fun p _ hp => hbx.cell (by omega))
  have HEA_11 := Lib.hid (HEA_10.out.keep fun p _ hp => hbx.cell (by omega))
  have HB_11 := Lib.hid (HB_10.out.keep fun p _ hp => hbx.cell (by omega))
  have Hbel_11 := Lib.hid (Hbel_10.out.trans (hbx.mono (by omega)))
  have HBA_11 := Lib.hid (HBA_10.out.below hbx (by omega))
  have HS_11 := Lib.hid (HS_10.out.keep fun p hp hq => ⟨hbx.cell (by omega), hbx.frozen (by omega)⟩)
  have HSb_11 := Lib.hid (HSb_10.out.below hbx (by omega))
  have HX0_11 := Lib.hid (HX0_10.out.keep fun p hp hq => ⟨hbx.cell (by omega), hbx.frozen (by omega)⟩)
  have HX0b_11 := Lib.hid (HX0b_10.out.below hbx (by omega))
  have HX2_11 := Lib.hid (HX2_10.out.keep fun p hp hq => ⟨hbx.cell (by omega), hbx.frozen (by omega)⟩)
  have HR_11 := Lib.hid (HN10.out.keep fun p hp hq => ⟨hbx.cell (by omega), hbx.frozen (by omega)⟩)
  clear qSb_0 qSb_1 lqSb
  clear HVA_10 HEA_10 HB_10 Hbel_10 HBA_10 HS_10 HSb_10 HX0_10 HX0b_10 HX2_10 HN10
  clear hbx
  have hcmp : ((puOk vec es b l val) != (puOk vec es b l val)) = false := by simp
  have hrA : (puVec vec es b l val).length ≤ 1048576 ∧ mo (puEs vec es b l val) ≤ 4194304 := bd_mo (puVec_len hvlA) (puEs_len helA) (puEs_bulk hblA)
  have hrA1 := hrA.1
  have hrA2 := hrA.2
  clear hrA
  refine (eqTree_same AV10 AV5 A10 A5 (puVec vec es b l val : List Int) (puEs vec es b l val : List En) cv10 cv5 c10 c5 v9.heap.size v4.heap.size v10.heap.size v5.heap.size v11 HR_11.out HS_11.out (by omega) (by omega) (puVec_len hvlA) (puEs_len helA) (puEs_bulk hblA)).mono ?_
  rintro e v12 ⟨rfl, hb⟩
  have z12 := hb.size
  have HVA_12 := Lib.hid (HVA_11.out.keep fun p _ hp => hb.cell (by omega))
  have HEA_12 := Lib.hid (HEA_11.out.keep fun p _ hp => hb.cell (by omega))
  have HB_12 := Lib.hid (HB_11.out.keep fun p _ hp => hb.cell (by omega))
  have Hbel_12 := Lib.hid (Hbel_11.out.trans (hb.mono (by omega)))
  have HBA_12 := Lib.hid (HBA_11.out.below hb (by omega))
  have HS_12 := Lib.hid (HS_11.out.keep fun p hp hq => ⟨hb.cell (by omega), hb.frozen (by omega)⟩)
  have HSb_12 := Lib.hid (HSb_11.out.below hb (by omega))
  have HX0_12 := Lib.hid (HX0_11.out.keep fun p hp hq => ⟨hb.cell (by omega), hb.frozen (by omega)⟩)
  have HX0b_12 := Lib.hid (HX0b_11.out.below hb (by omega))
  have HX2_12 := Lib.hid (HX2_11.out.keep fun p hp hq => ⟨hb.cell (by omega), hb.frozen (by omega)⟩)
  have HR_12 := Lib.hid (HR_11.out.keep fun p hp hq => ⟨hb.cell (by omega), hb.frozen (by omega)⟩)
  have HRb_12 := Lib.hid (HNb11.out.below hb (by omega))
  clear HVA_11 HEA_11 HB_11 Hbel_11 HBA_11 HS_11 HSb_11 HX0_11 HX0b_11 HX2_11 HR_11 HNb11
  clear hb
  have qX0b_0 := HX0b_12.out 0 (by simp)
  have qX0b_1 := HX0b_12.out 1 (by simp)
  have qBA_0 := HBA_12.out 0 (by simp)
  have qBA_1 := HBA_12.out 1 (by simp)
  simp only [List.getElem_cons_succ, List.getElem_cons_zero] at qX0b_0 qX0b_1 qBA_0 qBA_1
  have lqX0b : v7.heap.size < v12.heap.size := by omega
  have lqBA : w.heap.size < v12.heap.size := by omega
  go_wp2_with fail
  go_region_held3 (fun X => X.cell? ⟨v7.heap.size, 0, none⟩ = some (.slice (some ⟨gv7, 0, none⟩) vec.length vec.length) ∧ X.cell? ⟨v7.heap.size, 1, none⟩ = some (.slice (some ⟨ge7, 0, none⟩) es.length es.length) ∧ X.cell? ⟨w.heap.size, 0, none⟩ = some (.slice AV vec.length cv) ∧ X.cell? ⟨w.heap.size, 1, none⟩ = some (.slice A es.length c))
    (first | exact ⟨qX0b_0, qX0b_1, qBA_0, qBA_1⟩ | exact ⟨s0, s1, s2, s3⟩ | exact ⟨t0, t1, t2, t3⟩)
    (first
      | (go_at_call 7
         refine (toTree_own AV vec cv A es c _ ((HVA_12.out.keep fun p _ hp => ?_).mono ?_) ((HEA_12.out.keep fun p _ hp => ?_).mono ?_) hvlA helA hblA).mono ?_
         · rfl
         · show w.heap.size ≤ v12.heap.size; omega
         · rfl
         · show w.heap.size ≤ v12.heap.size; omega
         rintro e wy ⟨gvy, gey, rfl, _, howny, hby⟩
         have hbsy : Below v12.heap.size v12 wy := by first | exact hby | exact (Below.refl v12.heap.size v12).drew.trans hby
         have s0 := (hbsy.cell (p := ⟨v7.heap.size, 0, none⟩) (by show v7.heap.size < v12.heap.size; omega)).trans qX0b_0
         have s1 := (hbsy.cell (p := ⟨v7.heap.size, 1, none⟩) (by show v7.heap.size < v12.heap.size; omega)).trans qX0b_1
         have s2 := (hbsy.cell (p := ⟨w.heap.size, 0, none⟩) (by show w.heap.size < v12.heap.size; omega)).trans qBA_0
         have s3 := (hbsy.cell (p := ⟨w.heap.size, 1, none⟩) (by show w.heap.size < v12.heap.size; omega)).trans qBA_1
         have hzy := hbsy.size
         have HTy := Lib.hid (show TrOwn wy v12.heap.size wy.heap.size _ vec _ es from howny)
         have HBy := Lib.hid hbsy
         clear howny hby hbsy)
      | (go_at_call 10
         refine (eqTree_same (some ⟨gv7, 0, none⟩) _ (some ⟨ge7, 0, none⟩) _ vec es vec.length _ es.length _ v6.heap.size v12.heap.size v7.heap.size wy.heap.size _ (HX0_12.out.keep fun p hp hq => ⟨HBy.out.cell (by omega), HBy.out.frozen (by omega)⟩) HTy.out ?_ ?_ hvlA helA hblA).mono ?_
         · show v7.heap.size ≤ wy.heap.size; omega
         · exact Nat.le_refl _
         rintro e wz ⟨rfl, hbz⟩
         have hbyz : Below wy.heap.size wy wz := by first | exact hbz | exact (Below.refl wy.heap.size wy).drew.trans hbz
         have t0 := (hbyz.cell (p := ⟨v7.heap.size, 0, none⟩) (by show v7.heap.size < wy.heap.size; omega)).trans s0
         have t1 := (hbyz.cell (p := ⟨v7.heap.size, 1, none⟩) (by show v7.heap.size < wy.heap.size; omega)).trans s1
         have t2 := (hbyz.cell (p := ⟨w.heap.size, 0, none⟩) (by show w.heap.size < wy.heap.size; omega)).trans s2
         have t3 := (hbyz.cell (p := ⟨w.heap.size, 1, none⟩) (by show w.heap.size < wy.heap.size; omega)).trans s3
         have HBz := Lib.hid (HBy.out.trans (hbyz.mono (by omega)))
         have hzz : v12.heap.size ≤ wz.heap.size := Nat.le_trans hzy hbyz.size
         clear hbz hbyz))
  obtain ⟨v13, hv13⟩ : ∃ x, x = wz := ⟨_, rfl⟩
  rw [← hv13]
  have hb : Below v12.heap.size v12 v13 := hv13 ▸ HBz.out
  have z13 := hb.size
  clear HBy HTy HBz hzy hzz s0 s1 s2 s3 t0 t1 t2 t3 qX0b_0 qX0b_1 qBA_0 qBA_1 lqX0b lqBA
  have HVA_13 := Lib.hid (HVA_12.out.keep fun p _ hp => hb.cell (by omega))
  have HEA_13 := Lib.hid (HEA_12.out.keep fun p _ hp => hb.cell (by omega))
  have HB_13 := Lib.hid (HB_12.out.keep fun p _ hp => hb.cell (by omega))
  have Hbel_13 := Lib.hid (Hbel_12.out.trans (hb.mono (by omega)))
  have HBA_13 := Lib.hid (HBA_12.out.below hb (by omega))
  have HS_13 := Lib.hid (HS_12.out.keep fun p hp hq => ⟨hb.cell (by omega), hb.frozen (by omega)⟩)
  have HSb_13 := Lib.hid (HSb_12.out.below hb (by omega))
  have HX0_13 := Lib.hid (HX0_12.out.keep fun p hp hq => ⟨hb.cell (by omega), hb.frozen (by omega)⟩)
  have HX0b_13 := Lib.hid (HX0b_12.out.below hb (by omega))
  have HX2_13 := Lib.hid (HX2_12.out.keep fun p hp hq => ⟨hb.cell (by omega), hb.frozen (by omega)⟩)
  have HR_13 := Lib.hid (HR_12.out.keep fun p hp hq => ⟨hb.cell (by omega), hb.frozen (by omega)⟩)
  have HRb_13 := Lib.hid (HRb_12.out.below hb (by omega))
  clear HVA_12 HEA_12 HB_12 Hbel_12 HBA_12 HS_12 HSb_12 HX0_12 HX0b_12 HX2_12 HR_12 HRb_12
  clear hb hv13
  go_wp2_with fail
  refine (toByteS_nf B l cb v13 (HB_13.out.mono (by omega)) rB).mono ?_
  rintro e v14 ⟨g14, rfl, _, _, hfr, hb⟩
  have z14 := hb.size
  have HN14 := Lib.hid hfr
  have HVA_14 := Lib.hid (HVA_13.out.keep fun p _ hp => hb.cell (by omega))
  have HEA_14 := Lib.hid (HEA_13.out.keep fun p _ hp => hb.cell (by omega))
  have HB_14 := Lib.hid (HB_13.out.keep fun p _ hp => hb.cell (by omega))
  have Hbel_14 := Lib.hid (Hbel_13.out.trans (hb.mono (by omega)))
  have HBA_14 := Lib.hid (HBA_13.out.below hb (by omega))
  have HS_14 := Lib.hid (HS_13.out.keep fun p hp hq => ⟨hb.cell (by omega), hb.frozen (by omega)⟩)
  have HSb_14 := Lib.hid (HSb_13.out.below hb (by omega))
  have HX0_14 := Lib.hid (HX0_13.out.keep fun p hp hq => ⟨hb.cell (by omega), hb.frozen (by omega)⟩)
  have HX0b_14 := Lib.hid (HX0b_13.out.below hb (by omega))
  have HX2_14 := Lib.hid (HX2_13.out.keep fun p hp hq => ⟨hb.cell (by omega), hb.frozen (by omega)⟩)
  have HR_14 := Lib.hid (HR_13.out.keep fun p hp hq => ⟨hb.cell (by omega), hb.frozen (by omega)⟩)
  have HRb_14 := Lib.hid (HRb_13.out.below hb (by omega))
  clear HVA_13 HEA_13 HB_13 Hbel_13 HBA_13 HS_13 HSb_13 HX0_13 HX0b_13 HX2_13 HR_13 HRb_13
  clear hb hfr
  go_wp2_with fail
  refine (eqByteS_fr (some ⟨g9, 0, none⟩) (some ⟨g14, 0, none⟩) l l.length l.length v8.heap.size v13.heap.size v9.heap.size v14.heap.size v14 HX2_14.out HN14.out rB).mono ?_
  rintro e v15 ⟨rfl, hb⟩
  have z15 := hb.size
  have HVA_15 := Lib.hid (HVA_14.out.keep fun p _ hp => hb.cell (by omega))
  have HEA_15 := Lib.hid (HEA_14.out.keep fun p _ hp => hb.cell (by omega))
  have HB_15 := Lib.hid (HB_14.out.keep fun p _ hp => hb.cell (by omega))
  have Hbel_15 := Lib.hid (Hbel_14.out.trans (hb.mono (by omega)))
  have HBA_15 := Lib.hid (HBA_14.out.below hb (by omega))
  have HS_15 := Lib.hid (HS_14.out.keep fun p hp hq => ⟨hb.cell (by omega), hb.frozen (by omega)⟩)
  have HSb_15 := Lib.hid (HSb_14.out.below hb (by omega))
  have HX0_15 := Lib.hid (HX0_14.out.keep fun p hp hq => ⟨hb.cell (by omega), hb.frozen (by omega)⟩)
  have HX0b_15 := Lib.hid (HX0b_14.out.below hb (by omega))
  have HX2_15 := Lib.hid (HX2_14.out.keep fun p hp hq => ⟨hb.cell (by omega), hb.frozen (by omega)⟩)
  have HR_15 := Lib.hid (HR_14.out.keep fun p hp hq => ⟨hb.cell (by omega), hb.frozen (by omega)⟩)
  have HRb_15 := Lib.hid (HRb_14.out.below hb (by omega))
  clear HVA_14 HEA_14 HB_14 Hbel_14 HBA_14 HS_14 HSb_14 HX0_14 HX0b_14 HX2_14 HR_14 HRb_14 HN14
  clear hb
  have qX0b_0 := HX0b_15.out 0 (by simp)
  have qX0b_1 := HX0b_15.out 1 (by simp)
  simp only [List.getElem_cons_succ, List.getElem_cons_zero] at qX0b_0 qX0b_1
  have lqX0b : v7.heap.size < v15.heap.size := by omega
  go_wp2_with fail
  refine (markTree_own (some ⟨gv7, 0, none⟩) (some ⟨ge7, 0, none⟩) vec es vec.length es.length v6.heap.size v7.heap.size (1) v15 HX0_15.out (by omega) hvlA helA hblA (by omega) (by omega) (by omega)).mono ?_
  rintro e v16 ⟨rfl, hmk, hin⟩
  have z16 := hin.below.size
  have HVA_16 := Lib.hid (HVA_15.out.keep fun p _ hp => hin.cell (.inl (by omega)))
  have HEA_16 := Lib.hid (HEA_15.out.keep fun p _ hp => hin.cell (.inl (by omega)))
  have HB_16 := Lib.hid (HB_15.out.keep fun p _ hp => hin.cell (.inl (by omega)))
  have Hbel_16 := Lib.hid (Hbel_15.out.trans (hin.below.mono (by omega)))
  have HBA_16 := Lib.hid (HBA_15.out.inside hin (by omega))
  have HS_16 := Lib.hid (HS_15.out.keep fun p hp hq => ⟨hin.cell (by omega), hin.frozen p (by omega)⟩)
  have HSb_16 := Lib.hid (HSb_15.out.inside hin (by omega))
  have HX0b_16 := Lib.hid (HX0b_15.out.inside hin (by omega))
  have HX2_16 := Lib.hid (HX2_15.out.keep fun p hp hq => ⟨hin.cell (by omega), hin.frozen p (by omega)⟩)
  have HR_16 := Lib.hid (HR_15.out.keep fun p hp hq => ⟨hin.cell (by omega), hin.frozen p (by omega)⟩)
  have HRb_16 := Lib.hid (HRb_15.out.inside hin (by omega))
  clear qX0b_0 qX0b_1 lqX0b
  clear HVA_15 HEA_15 HB_15 Hbel_15 HBA_15 HS_15 HSb_15 HX0_15 HX0b_15 HX2_15 HR_15 HRb_15
  clear hin hmk
  go_wp2_with fail
  refine (markByteS_fr (some ⟨g9, 0, none⟩) l l.length v8.heap.size v9.heap.size (1 + (vec.length : Int) + ((mo es : Nat) : Int)) v16 HX2_16.out rB (by omega) (by omega)).mono ?_
  rintro e v17 ⟨rfl, hmk, hin⟩
  have z17 := hin.below.size
  have HVA_17 := Lib.hid (HVA_16.out.keep fun p _ hp => hin.cell (.inl (by omega)))
  have HEA_17 := Lib.hid (HEA_16.out.keep fun p _ hp => hin.cell (.inl (by omega)))
  have HB_17 := Lib.hid (HB_16.out.keep fun p _ hp => hin.cell (.inl (by omega)))
  have Hbel_17 := Lib.hid (Hbel_16.out.trans (hin.below.mono (by omega)))
  have HBA_17 := Lib.hid (HBA_16.out.inside hin (by omega))
  have HS_17 := Lib.hid (HS_16.out.keep fun p hp hq => ⟨hin.cell (by omega), hin.frozen p (by omega)⟩)
  have HSb_17 := Lib.hid (HSb_16.out.inside hin (by omega))
  have HX0b_17 := Lib.hid (HX0b_16.out.inside hin (by omega))
  have HR_17 := Lib.hid (HR_16.out.keep fun p hp hq => ⟨hin.cell (by omega), hin.frozen p (by omega)⟩)
  have HRb_17 := Lib.hid (HRb_16.out.inside hin (by omega))
  clear HVA_16 HEA_16 HB_16 Hbel_16 HBA_16 HS_16 HSb_16 HX0b_16 HX2_16 HR_16 HRb_16
  clear hin hmk
  have hk0 : 0 ≤ 1 + (vec.length : Int) + ((mo es : Nat) : Int) + (l.length : Int) := by omega
  have qRb_0 := HRb_17.out 0 (by simp)
  have qRb_1 := HRb_17.out 1 (by simp)
  have qSb_0 := HSb_17.out 0 (by simp)
  have qSb_1 := HSb_17.out 1 (by simp)
  simp only [List.getElem_cons_succ, List.getElem_cons_zero] at qRb_0 qRb_1 qSb_0 qSb_1
  have lqRb : v10.heap.size < v17.heap.size := by omega
  have lqSb : v5.heap.size < v17.heap.size := by omega
  go_wp2_with fail
  refine (eqTree_same AV10 AV5 A10 A5 (puVec vec es b l val : List Int) (puEs vec es b l val : List En) cv10 cv5 c10 c5 v9.heap.size v4.heap.size v10.heap.size v5.heap.size v17 HR_17.out HS_17.out (by omega) (by omega) (puVec_len hvlA) (puEs_len helA) (puEs_bulk hblA)).mono ?_
  rintro e v18 ⟨rfl, hb⟩
  have z18 := hb.size
  have HVA_18 := Lib.hid (HVA_17.out.keep fun p _ hp => hb.cell (by omega))
  have HEA_18 := Lib.hid (HEA_17.out.keep fun p _ hp => hb.cell (by omega))
  have HB_18 := Lib.hid (HB_17.out.keep fun p _ hp => hb.cell (by omega))
  have Hbel_18 := Lib.hid (Hbel_17.out.trans (hb.mono (by omega)))
  have HBA_18 := Lib.hid (HBA_17.out.below hb (by omega))
  have HS_18 := Lib.hid (HS_17.out.keep fun p hp hq => ⟨hb.cell (by omega), hb.frozen (by omega)⟩)
  have HSb_18 := Lib.hid (HSb_17.out.below hb (by omega))
  have HX0b_18 := Lib.hid (HX0b_17.out.below hb (by omega))
  have HR_18 := Lib.hid (HR_17.out.keep fun p hp hq => ⟨hb.cell (by omega), hb.frozen (by omega)⟩)
  have HRb_18 := Lib.hid (HRb_17.out.below hb (by omega))
  clear qRb_0 qRb_1 qSb_0 qSb_1 lqRb lqSb
  clear HVA_17 HEA_17 HB_17 Hbel_17 HBA_17 HS_17 HSb_17 HX0b_17 HR_17 HRb_17
  clear hb
  clear hk0
  have qRb_0 := HRb_18.out 0 (by simp)
  have qRb_1 := HRb_18.out 1 (by simp)
  simp only [List.getElem_cons_succ, List.getElem_cons_zero] at qRb_0 qRb_1
  have lqRb : v10.heap.size < v18.heap.size := by omega
  go_wp2_with fail
  refine (markTree_own AV10 A10 (puVec vec es b l val : List Int) (puEs vec es b l val : List En) cv10 c10 v9.heap.size v10.heap.size (1) v18 HR_18.out (by omega) (puVec_len hvlA) (puEs_len helA) (puEs_bulk hblA) (by omega) (by omega) (by omega)).mono ?_
  rintro e v19 ⟨rfl, hmk, hin⟩
  have z19 := hin.below.size
  have HMk19 := Lib.hid hmk
  have HVA_19 := Lib.hid (HVA_18.out.keep fun p _ hp => hin.cell (.inl (by omega)))
  have HEA_19 := Lib.hid (HEA_18.out.keep fun p _ hp => hin.cell (.inl (by omega)))
  have HB_19 := Lib.hid (HB_18.out.keep fun p _ hp => hin.cell (.inl (by omega)))
  have Hbel_19 := Lib.hid (Hbel_18.out.trans (hin.below.mono (by omega)))
  have HBA_19 := Lib.hid (HBA_18.out.inside hin (by omega))
  have HS_19 := Lib.hid (HS_18.out.keep fun p hp hq => ⟨hin.cell (by omega), hin.frozen p (by omega)⟩)
  have HSb_19 := Lib.hid (HSb_18.out.inside hin (by omega))
  have HX0b_19 := Lib.hid (HX0b_18.out.inside hin (by omega))
  have HRb_19 := Lib.hid (HRb_18.out.inside hin (by omega))
  clear qRb_0 qRb_1 lqRb
  clear HVA_18 HEA_18 HB_18 Hbel_18 HBA_18 HS_18 HSb_18 HX0b_18 HR_18 HRb_18
  clear hin hmk
  have qRb_0 := HRb_19.out 0 (by simp)
  have qRb_1 := HRb_19.out 1 (by simp)
  simp only [List.getElem_cons_succ, List.getElem_cons_zero] at qRb_0 qRb_1
  have lqRb : v10.heap.size < v19.heap.size := by omega
  go_wp2_with fail
  refine (heldTree_own AV10 A10 (puVec vec es b l val : List Int).length (puEs vec es b l val : List En) cv10 c10 v9.heap.size v10.heap.size 1 v19 HMk19.out (by omega) (puVec_len hvlA) (puEs_len helA) (puEs_bulk hblA) (by omega) (by omega)).mono ?_
  rintro e v20 ⟨rfl, hb⟩
  have z20 := hb.size
  have HVA_20 := Lib.hid (HVA_19.out.keep fun p _ hp => hb.cell (by omega))
  have HEA_20 := Lib.hid (HEA_19.out.keep fun p _ hp => hb.cell (by omega))
  have HB_20 := Lib.hid (HB_19.out.keep fun p _ hp => hb.cell (by omega))
  have Hbel_20 := Lib.hid (Hbel_19.out.trans (hb.mono (by omega)))
  have HBA_20 := Lib.hid (HBA_19.out.below hb (by omega))
  have HS_20 := Lib.hid (HS_19.out.keep fun p hp hq => ⟨hb.cell (by omega), hb.frozen (by omega)⟩)
  have HSb_20 := Lib.hid (HSb_19.out.below hb (by omega))
  have HX0b_20 := Lib.hid (HX0b_19.out.below hb (by omega))
  have HRb_20 := Lib.hid (HRb_19.out.below hb (by omega))
  have HQ_20 := Lib.hid (HMk19.out.keep fun p hp hq => ⟨hb.cell (by omega), hb.frozen (by omega)⟩)
  clear qRb_0 qRb_1 lqRb
  clear HVA_19 HEA_19 HB_19 Hbel_19 HBA_19 HS_19 HSb_19 HX0b_19 HRb_19 HMk19
  clear hb
  have hq0 : (0 : Int) ≤ 1 + ((puVec vec es b l val : List Int).length : Int) + ((mo (puEs vec es b l val : List En) : Nat) : Int) := by omega
  have hq1 : ((1 + ((puVec vec es b l val : List Int).length : Int) + ((mo (puEs vec es b l val : List En) : Nat) : Int)) != 1 + ((puVec vec es b l val : List Int).length : Int) + ((mo (puEs vec es b l val : List En) : Nat) : Int)) = false := by simp
  have qBA_0 := HBA_20.out 0 (by simp)
  have qBA_1 := HBA_20.out 1 (by simp)
  simp only [List.getElem_cons_succ, List.getElem_cons_zero] at qBA_0 qBA_1
  have lqBA : w.heap.size < v20.heap.size := by omega
  go_wp2_with fail
  refine (toTree_own AV vec cv A es c v20 (HVA_20.out.mono (by omega)) (HEA_20.out.mono (by omega)) hvlA helA hblA).mono ?_
  rintro e v21 ⟨gv21, ge21, rfl, _, hown, hb⟩
  have z21 := hb.size
  have HN21 := Lib.hid hown
  have HVA_21 := Lib.hid (HVA_20.out.keep fun p _ hp => hb.cell (by omega))
  have HEA_21 := Lib.hid (HEA_20.out.keep fun p _ hp => hb.cell (by omega))
  have HB_21 := Lib.hid (HB_20.out.keep fun p _ hp => hb.cell (by omega))
  have Hbel_21 := Lib.hid (Hbel_20.out.trans (hb.mono (by omega)))
  have HBA_21 := Lib.hid (HBA_20.out.below hb (by omega))
  have HS_21 := Lib.hid (HS_20.out.keep fun p hp hq => ⟨hb.cell (by omega), hb.frozen (by omega)⟩)
  have HSb_21 := Lib.hid (HSb_20.out.below hb (by omega))
  have HX0b_21 := Lib.hid (HX0b_20.out.below hb (by omega))
  have HRb_21 := Lib.hid (HRb_20.out.below hb (by omega))
  have HQ_21 := Lib.hid (HQ_20.out.keep fun p hp hq => ⟨hb.cell (by omega), hb.frozen (by omega)⟩)
  clear qBA_0 qBA_1 lqBA
  clear HVA_20 HEA_20 HB_20 Hbel_20 HBA_20 HS_20 HSb_20 HX0b_20 HRb_20 HQ_20
  clear hb hown
  go_wp2_with fail
  refine (toByteS_nf B l cb v21 (HB_21.out.mono (by omega)) rB).mono ?_
  rintro e v22 ⟨g22, rfl, _, _, hfr, hb⟩
  have z22 := hb.size
  have HN22 := Lib.hid hfr
  have HVA_22 := Lib.hid (HVA_21.out.keep fun p _ hp => hb.cell (by omega))
  have HEA_22 := Lib.hid (HEA_21.out.keep fun p _ hp => hb.cell (by omega))
  have HB_22 := Lib.hid (HB_21.out.keep fun p _ hp => hb.cell (by omega))
  have Hbel_22 := Lib.hid (Hbel_21.out.trans (hb.mono (by omega)))
  have HBA_22 := Lib.hid (HBA_21.out.below hb (by omega))
  have HS_22 := Lib.hid (HS_21.out.keep fun p hp hq => ⟨hb.cell (by omega), hb.frozen (by omega)⟩)
  have HSb_22 := Lib.hid (HSb_21.out.below hb (by omega))
  have HX0b_22 := Lib.hid (HX0b_21.out.below hb (by omega))
  have HRb_22 := Lib.hid (HRb_21.out.below hb (by omega))
  have HQ_22 := Lib.hid (HQ_21.out.keep fun p hp hq => ⟨hb.cell (by omega), hb.frozen (by omega)⟩)
  have HU0_22 := Lib.hid (HN21.out.keep fun p hp hq => ⟨hb.cell (by omega), hb.frozen (by omega)⟩)
  clear HVA_21 HEA_21 HB_21 Hbel_21 HBA_21 HS_21 HSb_21 HX0b_21 HRb_21 HQ_21 HN21
  clear hb hfr
  go_wp2_with fail
  refine (implPut_any (some ⟨gv21, 0, none⟩) vec vec.length (some ⟨ge21, 0, none⟩) es es.length b (some ⟨g22, 0, none⟩) l l.length val v22 ((HU0_22.out.vecIn.ints.low (Nat.zero_le _)).mono (by omega)) ((HU0_22.out.ensIn.ens.low (Nat.zero_le _)).mono (by omega)) hvlA helA hblA ((HN22.out.bytes.low (Nat.zero_le _)).mono (by omega)) rB).mono ?_
  rintro e v23 ⟨AV23, cv23, A23, c23, rfl, hown, _, hb⟩
  have z23 := hb.size
  have HN23 := Lib.hid hown
  have HVA_23 := Lib.hid (HVA_22.out.keep fun p _ hp => hb.cell (by omega))
  have HEA_23 := Lib.hid (HEA_22.out.keep fun p _ hp => hb.cell (by omega))
  have HB_23 := Lib.hid (HB_22.out.keep fun p _ hp => hb.cell (by omega))
  have Hbel_23 := Lib.hid (Hbel_22.out.trans (hb.mono (by omega)))
  have HBA_23 := Lib.hid (HBA_22.out.below hb (by omega))
  have HS_23 := Lib.hid (HS_22.out.keep fun p hp hq => ⟨hb.cell (by omega), hb.frozen (by omega)⟩)
  have HSb_23 := Lib.hid (HSb_22.out.below hb (by omega))
  have HX0b_23 := Lib.hid (HX0b_22.out.below hb (by omega))
  have HRb_23 := Lib.hid (HRb_22.out.below hb (by omega))
  have HQ_23 := Lib.hid (HQ_22.out.keep fun p hp hq => ⟨hb.cell (by omega), hb.frozen (by omega)⟩)
  have HU0_23 := Lib.hid (HU0_22.out.keep fun p hp hq => ⟨hb.cell (by omega), hb.frozen (by omega)⟩)
  have HU2_23 := Lib.hid (HN22.out.keep fun p hp hq => ⟨hb.cell (by omega), hb.frozen (by omega)⟩)
  clear HVA_22 HEA_22 HB_22 Hbel_22 HBA_22 HS_22 HSb_22 HX0b_22 HRb_22 HQ_22 HU0_22 HN22
  clear hb hown
  have qSb_0 := HSb_23.out 0 (by simp)
  have qSb_1 := HSb_23.out 1 (by simp)
  simp only [List.getElem_cons_succ, List.getElem_cons_zero] at qSb_0 qSb_1
  have lqSb : v5.heap.size < v23.heap.size := by omega
  go_wp2_with fail
  obtain ⟨v24, hw24⟩ : ∃ x, x = v23.alloc (.cells #[.slice AV23 (puVec vec es b l val : List Int).length cv23, .slice A23 (puEs vec es b l val : List En).length c23] 30) := ⟨_, rfl⟩
  have hbx : Below v23.heap.size v23 v24 := by rw [hw24]; exact (Below.refl _ _).alloc (Nat.le_refl _) _
  have z24 : v23.heap.size < v24.heap.size := by rw [hw24]; simp
  have HNb24 := Lib.hid (show Bx v24 (v23.heap.size) [.slice AV23 (puVec vec es b l val : List Int).length cv23, .slice A23 (puEs vec es b l val : List En).length c23] by rw [hw24]; exact Bx.new' _ _ _ _ rfl)
  rw [← hw24]
  clear hw24
  have HVA_24 := Lib.hid (HVA_23.out.keep fun p _ hp => hbx.cell (by omega))
  have HEA_24 := Lib.hid (HEA_23.out.keep fun p _ hp => hbx.cell (by omega))
  have HB_24 := Lib.hid (HB_23.out.keep fun p _ hp => hbx.cell (by omega))
  have Hbel_24 := Lib.hid (Hbel_23.out.trans (hbx.mono (by omega)))
  have HBA_24 := Lib.hid (HBA_23.out.below hbx (by omega))
  have HS_24 := Lib.hid (HS_23.out.keep fun p hp hq => ⟨hbx.cell (by omega), hbx.frozen (by omega)⟩)
  have HSb_24 := Lib.hid (HSb_23.out.below hbx (by omega))
  have HX0b_24 := Lib.hid (HX0b_23.out.below hbx (by omega))
  have HRb_24 := Lib.hid (HRb_23.out.below hbx (by omega))
  have HQ_24 := Lib.hid (HQ_23.out.keep fun p hp hq => ⟨hbx.cell (by omega), hbx.frozen (by omega)⟩)
  have HU0_24 := Lib.hid (HU0_23.out.keep fun p hp hq => ⟨hbx.cell (by omega), hbx.frozen (by omega)⟩)
  have HU2_24 := Lib.hid (HU2_23.out.keep fun p hp hq => ⟨hbx.cell (by omega), hbx.frozen (by omega)⟩)
  have HT_24 := Lib.hid (HN23.out.keep fun p hp hq => ⟨hbx.cell (by omega), hbx.frozen (by omega)⟩)
  clear qSb_0 qSb_1 lqSb
  clear HVA_23 HEA_23 HB_23 Hbel_23 HBA_23 HS_23 HSb_23 HX0b_23 HRb_23 HQ_23 HU0_23 HU2_23 HN23
  clear hbx
  refine (eqTree_same AV23 AV5 A23 A5 (puVec vec es b l val : List Int) (puEs vec es b l val : List En) cv23 cv5 c23 c5 v22.heap.size v4.heap.size v23.heap.size v5.heap.size v24 HT_24.out HS_24.out (by omega) (by omega) (puVec_len hvlA) (puEs_len helA) (puEs_bulk hblA)).mono ?_
  rintro e v25 ⟨rfl, hb⟩
  have z25 := hb.size
  have HVA_25 := Lib.hid (HVA_24.out.keep fun p _ hp => hb.cell (by omega))
  have HEA_25 := Lib.hid (HEA_24.out.keep fun p _ hp => hb.cell (by omega))
  have HB_25 := Lib.hid (HB_24.out.keep fun p _ hp => hb.cell (by omega))
  have Hbel_25 := Lib.hid (Hbel_24.out.trans (hb.mono (by omega)))
  have HBA_25 := Lib.hid (HBA_24.out.below hb (by omega))
  have HX0b_25 := Lib.hid (HX0b_24.out.below hb (by omega))
  have HRb_25 := Lib.hid (HRb_24.out.below hb (by omega))
  have HQ_25 := Lib.hid (HQ_24.out.keep fun p hp hq => ⟨hb.cell (by omega), hb.frozen (by omega)⟩)
  have HU0_25 := Lib.hid (HU0_24.out.keep fun p hp hq => ⟨hb.cell (by omega), hb.frozen (by omega)⟩)
  have HU2_25 := Lib.hid (HU2_24.out.keep fun p hp hq => ⟨hb.cell (by omega), hb.frozen (by omega)⟩)
  clear HVA_24 HEA_24 HB_24 Hbel_24 HBA_24 HS_24 HSb_24 HX0b_24 HRb_24 HQ_24 HU0_24 HU2_24 HT_24 HNb24
  clear hb
  have qRb_0 := HRb_25.out 0 (by simp)
  have qRb_1 := HRb_25.out 1 (by simp)
  simp only [List.getElem_cons_succ, List.getElem_cons_zero] at qRb_0 qRb_1
  have lqRb : v10.heap.size < v25.heap.size := by omega
  go_wp2_with fail
  refine (heldTree_own AV10 A10 (puVec vec es b l val : List Int).length (puEs vec es b l val : List En) cv10 c10 v9.heap.size v10.heap.size 1 v25 HQ_25.out (by omega) (puVec_len hvlA) (puEs_len helA) (puEs_bulk hblA) (by omega) (by omega)).mono ?_
  rintro e v26 ⟨rfl, hb⟩
  have z26 := hb.size
  have HVA_26 := Lib.hid (HVA_25.out.keep fun p _ hp => hb.cell (by omega))
  have HEA_26 := Lib.hid (HEA_25.out.keep fun p _ hp => hb.cell (by omega))
  have HB_26 := Lib.hid (HB_25.out.keep fun p _ hp => hb.cell (by omega))
  have Hbel_26 := Lib.hid (Hbel_25.out.trans (hb.mono (by omega)))
  have HBA_26 := Lib.hid (HBA_25.out.below hb (by omega))
  have HX0b_26 := Lib.hid (HX0b_25.out.below hb (by omega))
  have HRb_26 := Lib.hid (HRb_25.out.below hb (by omega))
  have HQ_26 := Lib.hid (HQ_25.out.keep fun p hp hq => ⟨hb.cell (by omega), hb.frozen (by omega)⟩)
  have HU0_26 := Lib.hid (HU0_25.out.keep fun p hp hq => ⟨hb.cell (by omega), hb.frozen (by omega)⟩)
  have HU2_26 := Lib.hid (HU2_25.out.keep fun p hp hq => ⟨hb.cell (by omega), hb.frozen (by omega)⟩)
  clear qRb_0 qRb_1 lqRb
  clear HVA_25 HEA_25 HB_25 Hbel_25 HBA_25 HX0b_25 HRb_25 HQ_25 HU0_25 HU2_25
  clear hb
  go_wp2_with fail
  go_ret
  exact ⟨rfl, Hbel_26.out⟩

end Go.Proofs.Ytndcnomgaoadeaa
