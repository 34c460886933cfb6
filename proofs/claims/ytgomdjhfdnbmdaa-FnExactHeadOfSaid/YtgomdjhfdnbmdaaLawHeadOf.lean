/-
  The law on HeadOf, walked: it answers true, and turns nothing that was there.
-/
import Derived.Test.YtgomdjhfdnbmdaaTrM
import Derived.Test.YtgomdjhfdnbmdaaDv
import Derived.Test.YtgomdjhfdnbmdaaMnM
import Derived.Test.YtgomdjhfdnbmdaaHd
import Derived.Deep.RegionHeld3
namespace Go.Proofs.Ytgomdjhfdnbmdaa
open Go.RowKit Go.Maps

set_option maxRecDepth 100000 in
set_option maxHeartbeats 8000000 in
theorem lawHeadOf_any (id : Int) (AV : Option Addr) (vec : List Int) (cv : Nat) (A : Option Addr) (es : List En) (c : Nat) (AH : Option Addr) (hs : List Mn) (ch : Nat) (al : Bool) (AP : Option Addr) (ps : List Mn) (cp : Nat) (a : Int) (w : World) (hVA : IntsIn w 0 w.heap.size AV vec) (hEA : EnsIn w 0 w.heap.size A es) (hHA : MnsIn w 0 w.heap.size AH hs) (hPA : MnsIn w 0 w.heap.size AP ps) (nVA : vec.length ≤ 9223372036854775807) (nEA : es.length ≤ 9223372036854775807) (nBA : ∀ i (hi : i < es.length), es[i].name.length ≤ 9223372036854775807) (nHA : hs.length ≤ 9223372036854775807) (sHA : MnsSz hs) (nPA : ps.length ≤ 9223372036854775807) (sPA : MnsSz ps) :
    Calls Try.prog 4 #[.agg #[.int .i64 id, .slice AV vec.length cv, .slice A es.length c, .slice AH hs.length ch, .bool al, .slice AP ps.length cp], .int .i64 a] w fun e w' => e = .returned (.bool true) ∧ Below w.heap.size w w' := by
  have HVA := Lib.hid hVA
  have HEA := Lib.hid hEA
  have HHA := Lib.hid hHA
  have HPA := Lib.hid hPA
  have HnBA := Lib.hid nBA
  have HsHA := Lib.hid sHA
  have HsPA := Lib.hid sPA
  have HBel := Lib.hid (Below.refl w.heap.size w)
  clear hVA hEA hHA hPA nBA sHA sPA
  have z0 : w.heap.size ≤ w.heap.size := Nat.le_refl _
  go_enter Try.func4, Try.ntmps4
  go_wp2_with fail
  obtain ⟨v1, hw1⟩ : ∃ x, x = w.alloc (.cells #[.int .i64 id, .slice AV vec.length cv, .slice A es.length c, .slice AH hs.length ch, .bool al, .slice AP ps.length cp] 28) := ⟨_, rfl⟩
  have hbx : Below w.heap.size w v1 := by rw [hw1]; exact (Below.refl _ _).alloc (Nat.le_refl _) _
  have z1 : w.heap.size < v1.heap.size := by rw [hw1]; simp
  have HEs1 := Lib.hid (show v1.heap.size = w.heap.size + 1 by rw [hw1]; simp)
  have HNb1 := Lib.hid (show Bx v1 (w.heap.size) [.int .i64 id, .slice AV vec.length cv, .slice A es.length c, .slice AH hs.length ch, .bool al, .slice AP ps.length cp] by rw [hw1]; exact Bx.new' _ _ _ _ rfl)
  rw [← hw1]
  clear hw1
  have HVA_1 := Lib.hid (HVA.out.keep fun p _ hp => hbx.cell (by omega))
  have HEA_1 := Lib.hid (HEA.out.keep fun p _ hp => hbx.cell (by omega))
  have HHA_1 := Lib.hid (HHA.out.keep fun p _ hp => hbx.cell (by omega))
  have HPA_1 := Lib.hid (HPA.out.keep fun p _ hp => hbx.cell (by omega))
  have Hbel_1 := Lib.hid (HBel.out.trans (hbx.mono (by omega)))
  clear HVA HEA HHA HPA HBel
  clear hbx
  refine (szDevice_any id AV vec cv A es c AH hs ch al AP ps cp _ v1 (HEA_1.out.mono (by omega)) (HHA_1.out.mono (by omega)) (HPA_1.out.mono (by omega)) nVA nEA HnBA.out nHA HsHA.out nPA HsPA.out (by omega) (by omega)).mono ?_
  rintro e v2 ⟨r2, rfl, hsz, hb⟩
  have z2 := hb.size
  have HS2 := Lib.hid hsz
  have HVA_2 := Lib.hid (HVA_1.out.keep fun p _ hp => hb.cell (by omega))
  have HEA_2 := Lib.hid (HEA_1.out.keep fun p _ hp => hb.cell (by omega))
  have HHA_2 := Lib.hid (HHA_1.out.keep fun p _ hp => hb.cell (by omega))
  have HPA_2 := Lib.hid (HPA_1.out.keep fun p _ hp => hb.cell (by omega))
  have Hbel_2 := Lib.hid (Hbel_1.out.trans (hb.mono (by omega)))
  have HBA_2 := Lib.hid (HNb1.out.below hb (by omega))
  clear HVA_1 HEA_1 HHA_1 HPA_1 Hbel_1 HNb1
  clear hb hsz
  by_cases hr2 : r2 < 0
  · go_wp2_with fail
    all_goals go_ret
    all_goals exact ⟨rfl, Hbel_2.out⟩
  have hp2 : 0 ≤ r2 := by omega
  have hs2 : r2 + ((vec.length + (es.length + ebulk es)) + ((hs.length + mbulk hs) + (ps.length + mbulk ps))) ≤ 1048576 := by have := HS2.out; unfold SzOk dsz at this; omega
  have hvlA : vec.length ≤ 1048576 := by omega
  have helA : es.length ≤ 1048576 := by omega
  have hblA : ebulk es ≤ 1048576 := by omega
  have hhlA : hs.length ≤ 1048576 := by omega
  have hhbA : mbulk hs ≤ 1048576 := by omega
  have hplA : ps.length ≤ 1048576 := by omega
  have hpbA : mbulk ps ≤ 1048576 := by omega
  have hrl2 : r2 ≤ 1048576 := by omega
  clear hr2 HS2 hs2
  have qBA_0 := HBA_2.out 0 (by simp)
  have qBA_1 := HBA_2.out 1 (by simp)
  have qBA_2 := HBA_2.out 2 (by simp)
  have qBA_3 := HBA_2.out 3 (by simp)
  have qBA_4 := HBA_2.out 4 (by simp)
  have qBA_5 := HBA_2.out 5 (by simp)
  simp only [List.getElem_cons_succ, List.getElem_cons_zero] at qBA_0 qBA_1 qBA_2 qBA_3 qBA_4 qBA_5
  have lqBA : w.heap.size < v2.heap.size := by omega
  go_wp2_with fail
  refine (toDevice_own id AV vec cv A es c AH hs ch al AP ps cp v2 (HVA_2.out.mono (by omega)) (HEA_2.out.mono (by omega)) (HHA_2.out.mono (by omega)) (HPA_2.out.mono (by omega)) hvlA helA hblA hhlA hhbA hplA hpbA).mono ?_
  rintro e v3 ⟨gv3, ge3, gh3, gp3, rfl, _, hown, hb⟩
  have z3 := hb.size
  have HN3 := Lib.hid hown
  have HVA_3 := Lib.hid (HVA_2.out.keep fun p _ hp => hb.cell (by omega))
  have HEA_3 := Lib.hid (HEA_2.out.keep fun p _ hp => hb.cell (by omega))
  have HHA_3 := Lib.hid (HHA_2.out.keep fun p _ hp => hb.cell (by omega))
  have HPA_3 := Lib.hid (HPA_2.out.keep fun p _ hp => hb.cell (by omega))
  have Hbel_3 := Lib.hid (Hbel_2.out.trans (hb.mono (by omega)))
  have HBA_3 := Lib.hid (HBA_2.out.below hb (by omega))
  clear qBA_0 qBA_1 qBA_2 qBA_3 qBA_4 qBA_5 lqBA
  clear HVA_2 HEA_2 HHA_2 HPA_2 Hbel_2 HBA_2
  clear hb hown
  go_wp2_with fail
  refine (specHeadOf_any id (some ⟨gv3, 0, none⟩) vec vec.length (some ⟨ge3, 0, none⟩) es es.length (some ⟨gh3, 0, none⟩) hs hs.length al (some ⟨gp3, 0, none⟩) ps ps.length a v3 ((HN3.out.tree.vecIn.ints.low (Nat.zero_le _)).mono (by omega)) ((HN3.out.tree.ensIn.ens.low (Nat.zero_le _)).mono (by omega)) (HN3.out.heads.rd.mono (Nat.zero_le _) (by omega)) (HN3.out.proof.rd.mono (Nat.zero_le _) (by omega)) hvlA helA hblA hhlA hhbA hplA hpbA).mono ?_
  rintro e v4 ⟨AV4, cv4, A4, c4, rfl, hown, _, hb⟩
  have z4 := hb.size
  have HN4 := Lib.hid hown
  have HVA_4 := Lib.hid (HVA_3.out.keep fun p _ hp => hb.cell (by omega))
  have HEA_4 := Lib.hid (HEA_3.out.keep fun p _ hp => hb.cell (by omega))
  have HHA_4 := Lib.hid (HHA_3.out.keep fun p _ hp => hb.cell (by omega))
  have HPA_4 := Lib.hid (HPA_3.out.keep fun p _ hp => hb.cell (by omega))
  have Hbel_4 := Lib.hid (Hbel_3.out.trans (hb.mono (by omega)))
  have HBA_4 := Lib.hid (HBA_3.out.below hb (by omega))
  have HM0_4 := Lib.hid (HN3.out.keep fun p hp hq => ⟨hb.cell (by omega), hb.frozen (by omega)⟩)
  clear HVA_3 HEA_3 HHA_3 HPA_3 Hbel_3 HBA_3 HN3
  clear hb hown
  have qBA_0 := HBA_4.out 0 (by simp)
  have qBA_1 := HBA_4.out 1 (by simp)
  have qBA_2 := HBA_4.out 2 (by simp)
  have qBA_3 := HBA_4.out 3 (by simp)
  have qBA_4 := HBA_4.out 4 (by simp)
  have qBA_5 := HBA_4.out 5 (by simp)
  simp only [List.getElem_cons_succ, List.getElem_cons_zero] at qBA_0 qBA_1 qBA_2 qBA_3 qBA_4 qBA_5
  have lqBA : w.heap.size < v4.heap.size := by omega
  go_wp2_with fail
  obtain ⟨v5, hw5⟩ : ∃ x, x = v4.alloc (.cells #[.int .i64 (hdM hs a).au, .int .i64 (hdM hs a).sq, .int .i64 (hdM hs a).pv, .slice AV4 (hdM hs a).vec.length cv4, .slice A4 (hdM hs a).es.length c4, .int .i64 (hdM hs a).sg] 41) := ⟨_, rfl⟩
  have hbx : Below v4.heap.size v4 v5 := by rw [hw5]; exact (Below.refl _ _).alloc (Nat.le_refl _) _
  have z5 : v4.heap.size < v5.heap.size := by rw [hw5]; simp
  have HNb5 := Lib.hid (show Bx v5 (v4.heap.size) [.int .i64 (hdM hs a).au, .int .i64 (hdM hs a).sq, .int .i64 (hdM hs a).pv, .slice AV4 (hdM hs a).vec.length cv4, .slice A4 (hdM hs a).es.length c4, .int .i64 (hdM hs a).sg] by rw [hw5]; exact Bx.new' _ _ _ _ rfl)
  rw [← hw5]
  clear hw5
  have HVA_5 := Lib.hid (HVA_4.out.keep fun p _ hp => hbx.cell (by omega))
  have HEA_5 := Lib.hid (HEA_4.out.keep fun p _ hp => hbx.cell (by omega))
  have HHA_5 := Lib.hid (HHA_4.out.keep fun p _ hp => hbx.cell (by omega))
  have HPA_5 := Lib.hid (HPA_4.out.keep fun p _ hp => hbx.cell (by omega))
  have Hbel_5 := Lib.hid (Hbel_4.out.trans (hbx.mono (by omega)))
  have HBA_5 := Lib.hid (HBA_4.out.below hbx (by omega))
  have HM0_5 := Lib.hid (HM0_4.out.keep fun p hp hq => ⟨hbx.cell (by omega), hbx.frozen (by omega)⟩)
  have HS_5 := Lib.hid (HN4.out.keep fun p hp hq => ⟨hbx.cell (by omega), hbx.frozen (by omega)⟩)
  clear qBA_0 qBA_1 qBA_2 qBA_3 qBA_4 qBA_5 lqBA
  clear HVA_4 HEA_4 HHA_4 HPA_4 Hbel_4 HBA_4 HM0_4 HN4
  clear hbx
  clear HM0_5
  refine (toDevice_own id AV vec cv A es c AH hs ch al AP ps cp v5 (HVA_5.out.mono (by omega)) (HEA_5.out.mono (by omega)) (HHA_5.out.mono (by omega)) (HPA_5.out.mono (by omega)) hvlA helA hblA hhlA hhbA hplA hpbA).mono ?_
  rintro e v6 ⟨gv6, ge6, gh6, gp6, rfl, _, hown, hb⟩
  have z6 := hb.size
  have HN6 := Lib.hid hown
  have HVA_6 := Lib.hid (HVA_5.out.keep fun p _ hp => hb.cell (by omega))
  have HEA_6 := Lib.hid (HEA_5.out.keep fun p _ hp => hb.cell (by omega))
  have HHA_6 := Lib.hid (HHA_5.out.keep fun p _ hp => hb.cell (by omega))
  have HPA_6 := Lib.hid (HPA_5.out.keep fun p _ hp => hb.cell (by omega))
  have Hbel_6 := Lib.hid (Hbel_5.out.trans (hb.mono (by omega)))
  have HBA_6 := Lib.hid (HBA_5.out.below hb (by omega))
  have HS_6 := Lib.hid (HS_5.out.keep fun p hp hq => ⟨hb.cell (by omega), hb.frozen (by omega)⟩)
  have HSb_6 := Lib.hid (HNb5.out.below hb (by omega))
  clear HVA_5 HEA_5 HHA_5 HPA_5 Hbel_5 HBA_5 HS_5 HNb5
  clear hb hown
  go_wp2_with fail
  obtain ⟨v7, hw7⟩ : ∃ x, x = v6.alloc (.cells #[.int .i64 id, .slice (some ⟨gv6, 0, none⟩) vec.length vec.length, .slice (some ⟨ge6, 0, none⟩) es.length es.length, .slice (some ⟨gh6, 0, none⟩) hs.length hs.length, .bool al, .slice (some ⟨gp6, 0, none⟩) ps.length ps.length] 36) := ⟨_, rfl⟩
  have hbx : Below v6.heap.size v6 v7 := by rw [hw7]; exact (Below.refl _ _).alloc (Nat.le_refl _) _
  have z7 : v6.heap.size < v7.heap.size := by rw [hw7]; simp
  have HNb7 := Lib.hid (show Bx v7 (v6.heap.size) [.int .i64 id, .slice (some ⟨gv6, 0, none⟩) vec.length vec.length, .slice (some ⟨ge6, 0, none⟩) es.length es.length, .slice (some ⟨gh6, 0, none⟩) hs.length hs.length, .bool al, .slice (some ⟨gp6, 0, none⟩) ps.length ps.length] by rw [hw7]; exact Bx.new' _ _ _ _ rfl)
  rw [← hw7]
  clear hw7
  have HVA_7 := Lib.hid (HVA_6.out.keep fun p _ hp => hbx.cell (by omega))
  have HEA_7 := Lib.hid (HEA_6.out.keep fun p _ hp => hbx.cell (by omega))
  have HHA_7 := Lib.hid (HHA_6.out.keep fun p _ hp => hbx.cell (by omega))
  have HPA_7 := Lib.hid (HPA_6.out.keep fun p _ hp => hbx.cell (by omega))
  have Hbel_7 := Lib.hid (Hbel_6.out.trans (hbx.mono (by omega)))
  have HBA_7 := Lib.hid (HBA_6.out.below hbx (by omega))
  have HS_7 := Lib.hid (HS_6.out.keep fun p hp hq => ⟨hbx.cell (by omega), hbx.frozen (by omega)⟩)
  have HSb_7 := Lib.hid (HSb_6.out.below hbx (by omega))
  have HX0_7 := Lib.hid (HN6.out.keep fun p hp hq => ⟨hbx.cell (by omega), hbx.frozen (by omega)⟩)
  clear HVA_6 HEA_6 HHA_6 HPA_6 Hbel_6 HBA_6 HS_6 HSb_6 HN6
  clear hbx
  refine (implHeadOf_any id (some ⟨gv6, 0, none⟩) vec vec.length (some ⟨ge6, 0, none⟩) es es.length (some ⟨gh6, 0, none⟩) hs hs.length al (some ⟨gp6, 0, none⟩) ps ps.length a v7 ((HX0_7.out.tree.vecIn.ints.low (Nat.zero_le _)).mono (by omega)) ((HX0_7.out.tree.ensIn.ens.low (Nat.zero_le _)).mono (by omega)) (HX0_7.out.heads.rd.mono (Nat.zero_le _) (by omega)) (HX0_7.out.proof.rd.mono (Nat.zero_le _) (by omega)) hvlA helA hblA hhlA hhbA hplA hpbA).mono ?_
  rintro e v8 ⟨AV8, cv8, A8, c8, rfl, hown, _, hb⟩
  have z8 := hb.size
  have HN8 := Lib.hid hown
  have HVA_8 := Lib.hid (HVA_7.out.keep fun p _ hp => hb.cell (by omega))
  have HEA_8 := Lib.hid (HEA_7.out.keep fun p _ hp => hb.cell (by omega))
  have HHA_8 := Lib.hid (HHA_7.out.keep fun p _ hp => hb.cell (by omega))
  have HPA_8 := Lib.hid (HPA_7.out.keep fun p _ hp => hb.cell (by omega))
  have Hbel_8 := Lib.hid (Hbel_7.out.trans (hb.mono (by omega)))
  have HBA_8 := Lib.hid (HBA_7.out.below hb (by omega))
  have HS_8 := Lib.hid (HS_7.out.keep fun p hp hq => ⟨hb.cell (by omega), hb.frozen (by omega)⟩)
  have HSb_8 := Lib.hid (HSb_7.out.below hb (by omega))
  have HX0_8 := Lib.hid (HX0_7.out.keep fun p hp hq => ⟨hb.cell (by omega), hb.frozen (by omega)⟩)
  have HX0b_8 := Lib.hid (HNb7.out.below hb (by omega))
  clear HVA_7 HEA_7 HHA_7 HPA_7 Hbel_7 HBA_7 HS_7 HSb_7 HX0_7 HNb7
  clear hb hown
  have qSb_0 := HSb_8.out 0 (by simp)
  have qSb_1 := HSb_8.out 1 (by simp)
  have qSb_2 := HSb_8.out 2 (by simp)
  have qSb_3 := HSb_8.out 3 (by simp)
  have qSb_4 := HSb_8.out 4 (by simp)
  have qSb_5 := HSb_8.out 5 (by simp)
  simp only [List.getElem_cons_succ, List.getElem_cons_zero] at qSb_0 qSb_1 qSb_2 qSb_3 qSb_4 qSb_5
  have lqSb : v4.heap.size < v8.heap.size := by omega
  go_wp2_with fail
  obtain ⟨v9, hw9⟩ : ∃ x, x = v8.alloc (.cells #[.int .i64 (hdM hs a).au, .int .i64 (hdM hs a).sq, .int .i64 (hdM hs a).pv, .slice AV8 (hdM hs a).vec.length cv8, .slice A8 (hdM hs a).es.length c8, .int .i64 (hdM hs a).sg] 41) := ⟨_, rfl⟩
  have hbx : Below v8.heap.size v8 v9 := by rw [hw9]; exact (Below.refl _ _).alloc (Nat.le_refl _) _
  have z9 : v8.heap.size < v9.heap.size := by rw [hw9]; simp
  have HNb9 := Lib.hid (show Bx v9 (v8.heap.size) [.int .i64 (hdM hs a).au, .int .i64 (hdM hs a).sq, .int .i64 (hdM hs a).pv, .slice AV8 (hdM hs a).vec.length cv8, .slice A8 (hdM hs a).es.length c8, .int .i64 (hdM hs a).sg] by rw [hw9]; exact Bx.new' _ _ _ _ rfl)
  rw [← hw9]
  clear hw9
  have HVA_9 := Lib.hid (HVA_8.out.keep fun p _ hp => hbx.cell (by omega))
  have HEA_9 := Lib.hid (HEA_8.out.keep fun p _ hp => hbx.cell (by omega))
  have HHA_9 := Lib.hid (HHA_8.out.keep fun p _ hp => hbx.cell (by omega))
  have HPA_9 := Lib.hid (HPA_8.out.keep fun p _ hp => hbx.cell (by omega))
  have Hbel_9 := Lib.hid (Hbel_8.out.trans (hbx.mono (by omega)))
  have HBA_9 := Lib.hid (HBA_8.out.below hbx (by omega))
  have HS_9 := Lib.hid (HS_8.out.keep fun p hp hq => ⟨hbx.cell (by omega), hbx.frozen (by omega)⟩)
  have HSb_9 := Lib.hid (HSb_8.out.below hbx (by omega))
  have HX0_9 := Lib.hid (HX0_8.out.keep fun p hp hq => ⟨hbx.cell (by omega), hbx.frozen (by omega)⟩)
  have HX0b_9 := Lib.hid (HX0b_8.out.below hbx (by omega))
  have HR_9 := Lib.hid (HN8.out.keep fun p hp hq => ⟨hbx.cell (by omega), hbx.frozen (by omega)⟩)
  clear qSb_0 qSb_1 qSb_2 qSb_3 qSb_4 qSb_5 lqSb
  clear HVA_8 HEA_8 HHA_8 HPA_8 Hbel_8 HBA_8 HS_8 HSb_8 HX0_8 HX0b_8 HN8
  clear hbx
  have hcmp : ((hdB hs a) != (hdB hs a)) = false := by simp
  have hrA : ((hdM hs a).vec).length ≤ 1048576 ∧ mo ((hdM hs a).es) ≤ 4194304 := bd_mo (hdM_bd hhbA).1 (hdM_bd hhbA).2.1 (hdM_bd hhbA).2.2
  have hrA1 := hrA.1
  have hrA2 := hrA.2
  clear hrA
  refine (eqManifest_same (hdM hs a).au (hdM hs a).sq (hdM hs a).pv (hdM hs a).sg AV8 AV4 A8 A4 (hdM hs a).vec (hdM hs a).es cv8 cv4 c8 c4 v7.heap.size v3.heap.size v8.heap.size v4.heap.size v9 HR_9.out HS_9.out (by omega) (by omega) (hdM_bd hhbA).1 (hdM_bd hhbA).2.1 (hdM_bd hhbA).2.2).mono ?_
  rintro e v10 ⟨rfl, hb⟩
  have z10 := hb.size
  have HVA_10 := Lib.hid (HVA_9.out.keep fun p _ hp => hb.cell (by omega))
  have HEA_10 := Lib.hid (HEA_9.out.keep fun p _ hp => hb.cell (by omega))
  have HHA_10 := Lib.hid (HHA_9.out.keep fun p _ hp => hb.cell (by omega))
  have HPA_10 := Lib.hid (HPA_9.out.keep fun p _ hp => hb.cell (by omega))
  have Hbel_10 := Lib.hid (Hbel_9.out.trans (hb.mono (by omega)))
  have HBA_10 := Lib.hid (HBA_9.out.below hb (by omega))
  have HS_10 := Lib.hid (HS_9.out.keep fun p hp hq => ⟨hb.cell (by omega), hb.frozen (by omega)⟩)
  have HSb_10 := Lib.hid (HSb_9.out.below hb (by omega))
  have HX0_10 := Lib.hid (HX0_9.out.keep fun p hp hq => ⟨hb.cell (by omega), hb.frozen (by omega)⟩)
  have HX0b_10 := Lib.hid (HX0b_9.out.below hb (by omega))
  have HR_10 := Lib.hid (HR_9.out.keep fun p hp hq => ⟨hb.cell (by omega), hb.frozen (by omega)⟩)
  have HRb_10 := Lib.hid (HNb9.out.below hb (by omega))
  clear HVA_9 HEA_9 HHA_9 HPA_9 Hbel_9 HBA_9 HS_9 HSb_9 HX0_9 HX0b_9 HR_9 HNb9
  clear hb
  have qX0b_0 := HX0b_10.out 0 (by simp)
  have qX0b_1 := HX0b_10.out 1 (by simp)
  have qX0b_2 := HX0b_10.out 2 (by simp)
  have qX0b_3 := HX0b_10.out 3 (by simp)
  have qX0b_4 := HX0b_10.out 4 (by simp)
  have qX0b_5 := HX0b_10.out 5 (by simp)
  have qBA_0 := HBA_10.out 0 (by simp)
  have qBA_1 := HBA_10.out 1 (by simp)
  have qBA_2 := HBA_10.out 2 (by simp)
  have qBA_3 := HBA_10.out 3 (by simp)
  have qBA_4 := HBA_10.out 4 (by simp)
  have qBA_5 := HBA_10.out 5 (by simp)
  simp only [List.getElem_cons_succ, List.getElem_cons_zero] at qX0b_0 qX0b_1 qX0b_2 qX0b_3 qX0b_4 qX0b_5 qBA_0 qBA_1 qBA_2 qBA_3 qBA_4 qBA_5
  have lqX0b : v6.heap.size < v10.heap.size := by omega
  have lqBA : w.heap.size < v10.heap.size := by omega
  go_wp2_with fail
  go_region_held3 (fun X => X.cell? ⟨v6.heap.size, 0, none⟩ = some (.int .i64 id) ∧ X.cell? ⟨v6.heap.size, 1, none⟩ = some (.slice (some ⟨gv6, 0, none⟩) vec.length vec.length) ∧ X.cell? ⟨v6.heap.size, 2, none⟩ = some (.slice (some ⟨ge6, 0, none⟩) es.length es.length) ∧ X.cell? ⟨v6.heap.size, 3, none⟩ = some (.slice (some ⟨gh6, 0, none⟩) hs.length hs.length) ∧ X.cell? ⟨v6.heap.size, 4, none⟩ = some (.bool al) ∧ X.cell? ⟨v6.heap.size, 5, none⟩ = some (.slice (some ⟨gp6, 0, none⟩) ps.length ps.length) ∧ X.cell? ⟨w.heap.size, 0, none⟩ = some (.int .i64 id) ∧ X.cell? ⟨w.heap.size, 1, none⟩ = some (.slice AV vec.length cv) ∧ X.cell? ⟨w.heap.size, 2, none⟩ = some (.slice A es.length c) ∧ X.cell? ⟨w.heap.size, 3, none⟩ = some (.slice AH hs.length ch) ∧ X.cell? ⟨w.heap.size, 4, none⟩ = some (.bool al) ∧ X.cell? ⟨w.heap.size, 5, none⟩ = some (.slice AP ps.length cp))
    (first | exact ⟨qX0b_0, qX0b_1, qX0b_2, qX0b_3, qX0b_4, qX0b_5, qBA_0, qBA_1, qBA_2, qBA_3, qBA_4, qBA_5⟩ | exact ⟨s0, s1, s2, s3, s4, s5, s6, s7, s8, s9, s10, s11⟩ | exact ⟨t0, t1, t2, t3, t4, t5, t6, t7, t8, t9, t10, t11⟩)
    (first
      | (go_at_call 8
         refine (toDevice_own id AV vec cv A es c AH hs ch al AP ps cp _ ((HVA_10.out.keep fun p _ hp => ?_).mono ?_) ((HEA_10.out.keep fun p _ hp => ?_).mono ?_) ((HHA_10.out.keep fun p _ hp => ?_).mono ?_) ((HPA_10.out.keep fun p _ hp => ?_).mono ?_) hvlA helA hblA hhlA hhbA hplA hpbA).mono ?_
         · rfl
         · show w.heap.size ≤ v10.heap.size; omega
         · rfl
         · show w.heap.size ≤ v10.heap.size; omega
         · rfl
         · show w.heap.size ≤ v10.heap.size; omega
         · rfl
         · show w.heap.size ≤ v10.heap.size; omega
         rintro e wy ⟨gvy, gey, ghy, gpy, rfl, _, howny, hby⟩
         have hbsy : Below v10.heap.size v10 wy := by first | exact hby | exact (Below.refl v10.heap.size v10).drew.trans hby
         have s0 := (hbsy.cell (p := ⟨v6.heap.size, 0, none⟩) (by show v6.heap.size < v10.heap.size; omega)).trans qX0b_0
         have s1 := (hbsy.cell (p := ⟨v6.heap.size, 1, none⟩) (by show v6.heap.size < v10.heap.size; omega)).trans qX0b_1
         have s2 := (hbsy.cell (p := ⟨v6.heap.size, 2, none⟩) (by show v6.heap.size < v10.heap.size; omega)).trans qX0b_2
         have s3 := (hbsy.cell (p := ⟨v6.heap.size, 3, none⟩) (by show v6.heap.size < v10.heap.size; omega)).trans qX0b_3
         have s4 := (hbsy.cell (p := ⟨v6.heap.size, 4, none⟩) (by show v6.heap.size < v10.heap.size; omega)).trans qX0b_4
         have s5 := (hbsy.cell (p := ⟨v6.heap.size, 5, none⟩) (by show v6.heap.size < v10.heap.size; omega)).trans qX0b_5
         have s6 := (hbsy.cell (p := ⟨w.heap.size, 0, none⟩) (by show w.heap.size < v10.heap.size; omega)).trans qBA_0
         have s7 := (hbsy.cell (p := ⟨w.heap.size, 1, none⟩) (by show w.heap.size < v10.heap.size; omega)).trans qBA_1
         have s8 := (hbsy.cell (p := ⟨w.heap.size, 2, none⟩) (by show w.heap.size < v10.heap.size; omega)).trans qBA_2
         have s9 := (hbsy.cell (p := ⟨w.heap.size, 3, none⟩) (by show w.heap.size < v10.heap.size; omega)).trans qBA_3
         have s10 := (hbsy.cell (p := ⟨w.heap.size, 4, none⟩) (by show w.heap.size < v10.heap.size; omega)).trans qBA_4
         have s11 := (hbsy.cell (p := ⟨w.heap.size, 5, none⟩) (by show w.heap.size < v10.heap.size; omega)).trans qBA_5
         have hzy := hbsy.size
         have HTy := Lib.hid (show DvOwn wy v10.heap.size wy.heap.size _ vec _ es _ hs _ ps from howny)
         have HBy := Lib.hid hbsy
         clear howny hby hbsy)
      | (go_at_call 10
         refine (eqDevice_same id (some ⟨gv6, 0, none⟩) _ (some ⟨ge6, 0, none⟩) _ (some ⟨gh6, 0, none⟩) _ (some ⟨gp6, 0, none⟩) _ vec es hs ps al vec.length _ es.length _ hs.length _ ps.length _ v5.heap.size v10.heap.size v6.heap.size wy.heap.size _ (HX0_10.out.keep fun p hp hq => ⟨HBy.out.cell (by omega), HBy.out.frozen (by omega)⟩) HTy.out ?_ ?_ hvlA helA hblA hhlA hhbA hplA hpbA).mono ?_
         · show v6.heap.size ≤ wy.heap.size; omega
         · exact Nat.le_refl _
         rintro e wz ⟨rfl, hbz⟩
         have hbyz : Below wy.heap.size wy wz := by first | exact hbz | exact (Below.refl wy.heap.size wy).drew.trans hbz
         have t0 := (hbyz.cell (p := ⟨v6.heap.size, 0, none⟩) (by show v6.heap.size < wy.heap.size; omega)).trans s0
         have t1 := (hbyz.cell (p := ⟨v6.heap.size, 1, none⟩) (by show v6.heap.size < wy.heap.size; omega)).trans s1
         have t2 := (hbyz.cell (p := ⟨v6.heap.size, 2, none⟩) (by show v6.heap.size < wy.heap.size; omega)).trans s2
         have t3 := (hbyz.cell (p := ⟨v6.heap.size, 3, none⟩) (by show v6.heap.size < wy.heap.size; omega)).trans s3
         have t4 := (hbyz.cell (p := ⟨v6.heap.size, 4, none⟩) (by show v6.heap.size < wy.heap.size; omega)).trans s4
         have t5 := (hbyz.cell (p := ⟨v6.heap.size, 5, none⟩) (by show v6.heap.size < wy.heap.size; omega)).trans s5
         have t6 := (hbyz.cell (p := ⟨w.heap.size, 0, none⟩) (by show w.heap.size < wy.heap.size; omega)).trans s6
         have t7 := (hbyz.cell (p := ⟨w.heap.size, 1, none⟩) (by show w.heap.size < wy.heap.size; omega)).trans s7
         have t8 := (hbyz.cell (p := ⟨w.heap.size, 2, none⟩) (by show w.heap.size < wy.heap.size; omega)).trans s8
         have t9 := (hbyz.cell (p := ⟨w.heap.size, 3, none⟩) (by show w.heap.size < wy.heap.size; omega)).trans s9
         have t10 := (hbyz.cell (p := ⟨w.heap.size, 4, none⟩) (by show w.heap.size < wy.heap.size; omega)).trans s10
         have t11 := (hbyz.cell (p := ⟨w.heap.size, 5, none⟩) (by show w.heap.size < wy.heap.size; omega)).trans s11
         have HBz := Lib.hid (HBy.out.trans (hbyz.mono (by omega)))
         have hzz : v10.heap.size ≤ wz.heap.size := Nat.le_trans hzy hbyz.size
         clear hbz hbyz))
  obtain ⟨v11, hv11⟩ : ∃ x, x = wz := ⟨_, rfl⟩
  rw [← hv11]
  have hb : Below v10.heap.size v10 v11 := hv11 ▸ HBz.out
  have z11 := hb.size
  clear HBy HTy HBz hzy hzz s0 s1 s2 s3 s4 s5 s6 s7 s8 s9 s10 s11 t0 t1 t2 t3 t4 t5 t6 t7 t8 t9 t10 t11 qX0b_0 qX0b_1 qX0b_2 qX0b_3 qX0b_4 qX0b_5 qBA_0 qBA_1 qBA_2 qBA_3 qBA_4 qBA_5 lqX0b lqBA
  have HVA_11 := Lib.hid (HVA_10.out.keep fun p _ hp => hb.cell (by omega))
  have HEA_11 := Lib.hid (HEA_10.out.keep fun p _ hp => hb.cell (by omega))
  have HHA_11 := Lib.hid (HHA_10.out.keep fun p _ hp => hb.cell (by omega))
  have HPA_11 := Lib.hid (HPA_10.out.keep fun p _ hp => hb.cell (by omega))
  have Hbel_11 := Lib.hid (Hbel_10.out.trans (hb.mono (by omega)))
  have HBA_11 := Lib.hid (HBA_10.out.below hb (by omega))
  have HS_11 := Lib.hid (HS_10.out.keep fun p hp hq => ⟨hb.cell (by omega), hb.frozen (by omega)⟩)
  have HSb_11 := Lib.hid (HSb_10.out.below hb (by omega))
  have HX0_11 := Lib.hid (HX0_10.out.keep fun p hp hq => ⟨hb.cell (by omega), hb.frozen (by omega)⟩)
  have HX0b_11 := Lib.hid (HX0b_10.out.below hb (by omega))
  have HR_11 := Lib.hid (HR_10.out.keep fun p hp hq => ⟨hb.cell (by omega), hb.frozen (by omega)⟩)
  have HRb_11 := Lib.hid (HRb_10.out.below hb (by omega))
  clear HVA_10 HEA_10 HHA_10 HPA_10 Hbel_10 HBA_10 HS_10 HSb_10 HX0_10 HX0b_10 HR_10 HRb_10
  clear hb hv11
  have qX0b_0 := HX0b_11.out 0 (by simp)
  have qX0b_1 := HX0b_11.out 1 (by simp)
  have qX0b_2 := HX0b_11.out 2 (by simp)
  have qX0b_3 := HX0b_11.out 3 (by simp)
  have qX0b_4 := HX0b_11.out 4 (by simp)
  have qX0b_5 := HX0b_11.out 5 (by simp)
  simp only [List.getElem_cons_succ, List.getElem_cons_zero] at qX0b_0 qX0b_1 qX0b_2 qX0b_3 qX0b_4 qX0b_5
  have lqX0b : v6.heap.size < v11.heap.size := by omega
  go_wp2_with fail
  refine (markDevice_own id (some ⟨gv6, 0, none⟩) (some ⟨ge6, 0, none⟩) (some ⟨gh6, 0, none⟩) (some ⟨gp6, 0, none⟩) vec es hs ps al vec.length es.length hs.length ps.length v5.heap.size v6.heap.size (1) v11 HX0_11.out (by omega) hvlA helA hblA hhlA hhbA hplA hpbA (by omega) (by omega) (by omega)).mono ?_
  rintro e v12 ⟨rfl, hmk, hin⟩
  have z12 := hin.below.size
  have HVA_12 := Lib.hid (HVA_11.out.keep fun p _ hp => hin.cell (.inl (by omega)))
  have HEA_12 := Lib.hid (HEA_11.out.keep fun p _ hp => hin.cell (.inl (by omega)))
  have HHA_12 := Lib.hid (HHA_11.out.keep fun p _ hp => hin.cell (.inl (by omega)))
  have HPA_12 := Lib.hid (HPA_11.out.keep fun p _ hp => hin.cell (.inl (by omega)))
  have Hbel_12 := Lib.hid (Hbel_11.out.trans (hin.below.mono (by omega)))
  have HBA_12 := Lib.hid (HBA_11.out.inside hin (by omega))
  have HS_12 := Lib.hid (HS_11.out.keep fun p hp hq => ⟨hin.cell (by omega), hin.frozen p (by omega)⟩)
  have HSb_12 := Lib.hid (HSb_11.out.inside hin (by omega))
  have HX0b_12 := Lib.hid (HX0b_11.out.inside hin (by omega))
  have HR_12 := Lib.hid (HR_11.out.keep fun p hp hq => ⟨hin.cell (by omega), hin.frozen p (by omega)⟩)
  have HRb_12 := Lib.hid (HRb_11.out.inside hin (by omega))
  clear qX0b_0 qX0b_1 qX0b_2 qX0b_3 qX0b_4 qX0b_5 lqX0b
  clear HVA_11 HEA_11 HHA_11 HPA_11 Hbel_11 HBA_11 HS_11 HSb_11 HX0_11 HX0b_11 HR_11 HRb_11
  clear hin hmk
  have hk0 : 0 ≤ 1 + ((dmo vec.length es hs ps : Nat) : Int) := by omega
  have qRb_0 := HRb_12.out 0 (by simp)
  have qRb_1 := HRb_12.out 1 (by simp)
  have qRb_2 := HRb_12.out 2 (by simp)
  have qRb_3 := HRb_12.out 3 (by simp)
  have qRb_4 := HRb_12.out 4 (by simp)
  have qRb_5 := HRb_12.out 5 (by simp)
  have qSb_0 := HSb_12.out 0 (by simp)
  have qSb_1 := HSb_12.out 1 (by simp)
  have qSb_2 := HSb_12.out 2 (by simp)
  have qSb_3 := HSb_12.out 3 (by simp)
  have qSb_4 := HSb_12.out 4 (by simp)
  have qSb_5 := HSb_12.out 5 (by simp)
  simp only [List.getElem_cons_succ, List.getElem_cons_zero] at qRb_0 qRb_1 qRb_2 qRb_3 qRb_4 qRb_5 qSb_0 qSb_1 qSb_2 qSb_3 qSb_4 qSb_5
  have lqRb : v8.heap.size < v12.heap.size := by omega
  have lqSb : v4.heap.size < v12.heap.size := by omega
  go_wp2_with fail
  refine (eqManifest_same (hdM hs a).au (hdM hs a).sq (hdM hs a).pv (hdM hs a).sg AV8 AV4 A8 A4 (hdM hs a).vec (hdM hs a).es cv8 cv4 c8 c4 v7.heap.size v3.heap.size v8.heap.size v4.heap.size v12 HR_12.out HS_12.out (by omega) (by omega) (hdM_bd hhbA).1 (hdM_bd hhbA).2.1 (hdM_bd hhbA).2.2).mono ?_
  rintro e v13 ⟨rfl, hb⟩
  have z13 := hb.size
  have HVA_13 := Lib.hid (HVA_12.out.keep fun p _ hp => hb.cell (by omega))
  have HEA_13 := Lib.hid (HEA_12.out.keep fun p _ hp => hb.cell (by omega))
  have HHA_13 := Lib.hid (HHA_12.out.keep fun p _ hp => hb.cell (by omega))
  have HPA_13 := Lib.hid (HPA_12.out.keep fun p _ hp => hb.cell (by omega))
  have Hbel_13 := Lib.hid (Hbel_12.out.trans (hb.mono (by omega)))
  have HBA_13 := Lib.hid (HBA_12.out.below hb (by omega))
  have HS_13 := Lib.hid (HS_12.out.keep fun p hp hq => ⟨hb.cell (by omega), hb.frozen (by omega)⟩)
  have HSb_13 := Lib.hid (HSb_12.out.below hb (by omega))
  have HX0b_13 := Lib.hid (HX0b_12.out.below hb (by omega))
  have HR_13 := Lib.hid (HR_12.out.keep fun p hp hq => ⟨hb.cell (by omega), hb.frozen (by omega)⟩)
  have HRb_13 := Lib.hid (HRb_12.out.below hb (by omega))
  clear qRb_0 qRb_1 qRb_2 qRb_3 qRb_4 qRb_5 qSb_0 qSb_1 qSb_2 qSb_3 qSb_4 qSb_5 lqRb lqSb
  clear HVA_12 HEA_12 HHA_12 HPA_12 Hbel_12 HBA_12 HS_12 HSb_12 HX0b_12 HR_12 HRb_12
  clear hb
  clear hk0
  have qRb_0 := HRb_13.out 0 (by simp)
  have qRb_1 := HRb_13.out 1 (by simp)
  have qRb_2 := HRb_13.out 2 (by simp)
  have qRb_3 := HRb_13.out 3 (by simp)
  have qRb_4 := HRb_13.out 4 (by simp)
  have qRb_5 := HRb_13.out 5 (by simp)
  simp only [List.getElem_cons_succ, List.getElem_cons_zero] at qRb_0 qRb_1 qRb_2 qRb_3 qRb_4 qRb_5
  have lqRb : v8.heap.size < v13.heap.size := by omega
  go_wp2_with fail
  refine (markManifest_own (hdM hs a).au (hdM hs a).sq (hdM hs a).pv (hdM hs a).sg AV8 A8 (hdM hs a).vec (hdM hs a).es cv8 c8 v7.heap.size v8.heap.size (1) v13 HR_13.out (by omega) (hdM_bd hhbA).1 (hdM_bd hhbA).2.1 (hdM_bd hhbA).2.2 (by omega) (by omega) (by omega)).mono ?_
  rintro e v14 ⟨rfl, hmk, hin⟩
  have z14 := hin.below.size
  have HMk14 := Lib.hid hmk
  have HVA_14 := Lib.hid (HVA_13.out.keep fun p _ hp => hin.cell (.inl (by omega)))
  have HEA_14 := Lib.hid (HEA_13.out.keep fun p _ hp => hin.cell (.inl (by omega)))
  have HHA_14 := Lib.hid (HHA_13.out.keep fun p _ hp => hin.cell (.inl (by omega)))
  have HPA_14 := Lib.hid (HPA_13.out.keep fun p _ hp => hin.cell (.inl (by omega)))
  have Hbel_14 := Lib.hid (Hbel_13.out.trans (hin.below.mono (by omega)))
  have HBA_14 := Lib.hid (HBA_13.out.inside hin (by omega))
  have HS_14 := Lib.hid (HS_13.out.keep fun p hp hq => ⟨hin.cell (by omega), hin.frozen p (by omega)⟩)
  have HSb_14 := Lib.hid (HSb_13.out.inside hin (by omega))
  have HX0b_14 := Lib.hid (HX0b_13.out.inside hin (by omega))
  have HRb_14 := Lib.hid (HRb_13.out.inside hin (by omega))
  clear qRb_0 qRb_1 qRb_2 qRb_3 qRb_4 qRb_5 lqRb
  clear HVA_13 HEA_13 HHA_13 HPA_13 Hbel_13 HBA_13 HS_13 HSb_13 HX0b_13 HR_13 HRb_13
  clear hin hmk
  have qRb_0 := HRb_14.out 0 (by simp)
  have qRb_1 := HRb_14.out 1 (by simp)
  have qRb_2 := HRb_14.out 2 (by simp)
  have qRb_3 := HRb_14.out 3 (by simp)
  have qRb_4 := HRb_14.out 4 (by simp)
  have qRb_5 := HRb_14.out 5 (by simp)
  simp only [List.getElem_cons_succ, List.getElem_cons_zero] at qRb_0 qRb_1 qRb_2 qRb_3 qRb_4 qRb_5
  have lqRb : v8.heap.size < v14.heap.size := by omega
  go_wp2_with fail
  refine (heldManifest_own (hdM hs a).au (hdM hs a).sq (hdM hs a).pv (hdM hs a).sg AV8 A8 (hdM hs a).vec.length (hdM hs a).es cv8 c8 v7.heap.size v8.heap.size 1 v14 HMk14.out (by omega) (hdM_bd hhbA).1 (hdM_bd hhbA).2.1 (hdM_bd hhbA).2.2 (by omega) (by omega)).mono ?_
  rintro e v15 ⟨rfl, hb⟩
  have z15 := hb.size
  have HVA_15 := Lib.hid (HVA_14.out.keep fun p _ hp => hb.cell (by omega))
  have HEA_15 := Lib.hid (HEA_14.out.keep fun p _ hp => hb.cell (by omega))
  have HHA_15 := Lib.hid (HHA_14.out.keep fun p _ hp => hb.cell (by omega))
  have HPA_15 := Lib.hid (HPA_14.out.keep fun p _ hp => hb.cell (by omega))
  have Hbel_15 := Lib.hid (Hbel_14.out.trans (hb.mono (by omega)))
  have HBA_15 := Lib.hid (HBA_14.out.below hb (by omega))
  have HS_15 := Lib.hid (HS_14.out.keep fun p hp hq => ⟨hb.cell (by omega), hb.frozen (by omega)⟩)
  have HSb_15 := Lib.hid (HSb_14.out.below hb (by omega))
  have HX0b_15 := Lib.hid (HX0b_14.out.below hb (by omega))
  have HRb_15 := Lib.hid (HRb_14.out.below hb (by omega))
  have HQ_15 := Lib.hid (HMk14.out.keep fun p hp hq => ⟨hb.cell (by omega), hb.frozen (by omega)⟩)
  clear qRb_0 qRb_1 qRb_2 qRb_3 qRb_4 qRb_5 lqRb
  clear HVA_14 HEA_14 HHA_14 HPA_14 Hbel_14 HBA_14 HS_14 HSb_14 HX0b_14 HRb_14 HMk14
  clear hb
  have hq0 : (0 : Int) ≤ 1 + ((hdM hs a).vec.length : Int) + ((mo (hdM hs a).es : Nat) : Int) := by omega
  have hq1 : ((1 + ((hdM hs a).vec.length : Int) + ((mo (hdM hs a).es : Nat) : Int)) != 1 + ((hdM hs a).vec.length : Int) + ((mo (hdM hs a).es : Nat) : Int)) = false := by simp
  have qBA_0 := HBA_15.out 0 (by simp)
  have qBA_1 := HBA_15.out 1 (by simp)
  have qBA_2 := HBA_15.out 2 (by simp)
  have qBA_3 := HBA_15.out 3 (by simp)
  have qBA_4 := HBA_15.out 4 (by simp)
  have qBA_5 := HBA_15.out 5 (by simp)
  simp only [List.getElem_cons_succ, List.getElem_cons_zero] at qBA_0 qBA_1 qBA_2 qBA_3 qBA_4 qBA_5
  have lqBA : w.heap.size < v15.heap.size := by omega
  go_wp2_with fail
  refine (toDevice_own id AV vec cv A es c AH hs ch al AP ps cp v15 (HVA_15.out.mono (by omega)) (HEA_15.out.mono (by omega)) (HHA_15.out.mono (by omega)) (HPA_15.out.mono (by omega)) hvlA helA hblA hhlA hhbA hplA hpbA).mono ?_
  rintro e v16 ⟨gv16, ge16, gh16, gp16, rfl, _, hown, hb⟩
  have z16 := hb.size
  have HN16 := Lib.hid hown
  have HVA_16 := Lib.hid (HVA_15.out.keep fun p _ hp => hb.cell (by omega))
  have HEA_16 := Lib.hid (HEA_15.out.keep fun p _ hp => hb.cell (by omega))
  have HHA_16 := Lib.hid (HHA_15.out.keep fun p _ hp => hb.cell (by omega))
  have HPA_16 := Lib.hid (HPA_15.out.keep fun p _ hp => hb.cell (by omega))
  have Hbel_16 := Lib.hid (Hbel_15.out.trans (hb.mono (by omega)))
  have HBA_16 := Lib.hid (HBA_15.out.below hb (by omega))
  have HS_16 := Lib.hid (HS_15.out.keep fun p hp hq => ⟨hb.cell (by omega), hb.frozen (by omega)⟩)
  have HSb_16 := Lib.hid (HSb_15.out.below hb (by omega))
  have HX0b_16 := Lib.hid (HX0b_15.out.below hb (by omega))
  have HRb_16 := Lib.hid (HRb_15.out.below hb (by omega))
  have HQ_16 := Lib.hid (HQ_15.out.keep fun p hp hq => ⟨hb.cell (by omega), hb.frozen (by omega)⟩)
  clear qBA_0 qBA_1 qBA_2 qBA_3 qBA_4 qBA_5 lqBA
  clear HVA_15 HEA_15 HHA_15 HPA_15 Hbel_15 HBA_15 HS_15 HSb_15 HX0b_15 HRb_15 HQ_15
  clear hb hown
  go_wp2_with fail
  refine (implHeadOf_any id (some ⟨gv16, 0, none⟩) vec vec.length (some ⟨ge16, 0, none⟩) es es.length (some ⟨gh16, 0, none⟩) hs hs.length al (some ⟨gp16, 0, none⟩) ps ps.length a v16 ((HN16.out.tree.vecIn.ints.low (Nat.zero_le _)).mono (by omega)) ((HN16.out.tree.ensIn.ens.low (Nat.zero_le _)).mono (by omega)) (HN16.out.heads.rd.mono (Nat.zero_le _) (by omega)) (HN16.out.proof.rd.mono (Nat.zero_le _) (by omega)) hvlA helA hblA hhlA hhbA hplA hpbA).mono ?_
  rintro e v17 ⟨AV17, cv17, A17, c17, rfl, hown, _, hb⟩
  have z17 := hb.size
  have HN17 := Lib.hid hown
  have HVA_17 := Lib.hid (HVA_16.out.keep fun p _ hp => hb.cell (by omega))
  have HEA_17 := Lib.hid (HEA_16.out.keep fun p _ hp => hb.cell (by omega))
  have HHA_17 := Lib.hid (HHA_16.out.keep fun p _ hp => hb.cell (by omega))
  have HPA_17 := Lib.hid (HPA_16.out.keep fun p _ hp => hb.cell (by omega))
  have Hbel_17 := Lib.hid (Hbel_16.out.trans (hb.mono (by omega)))
  have HBA_17 := Lib.hid (HBA_16.out.below hb (by omega))
  have HS_17 := Lib.hid (HS_16.out.keep fun p hp hq => ⟨hb.cell (by omega), hb.frozen (by omega)⟩)
  have HSb_17 := Lib.hid (HSb_16.out.below hb (by omega))
  have HX0b_17 := Lib.hid (HX0b_16.out.below hb (by omega))
  have HRb_17 := Lib.hid (HRb_16.out.below hb (by omega))
  have HQ_17 := Lib.hid (HQ_16.out.keep fun p hp hq => ⟨hb.cell (by omega), hb.frozen (by omega)⟩)
  have HU0_17 := Lib.hid (HN16.out.keep fun p hp hq => ⟨hb.cell (by omega), hb.frozen (by omega)⟩)
  clear HVA_16 HEA_16 HHA_16 HPA_16 Hbel_16 HBA_16 HS_16 HSb_16 HX0b_16 HRb_16 HQ_16 HN16
  clear hb hown
  have qSb_0 := HSb_17.out 0 (by simp)
  have qSb_1 := HSb_17.out 1 (by simp)
  have qSb_2 := HSb_17.out 2 (by simp)
  have qSb_3 := HSb_17.out 3 (by simp)
  have qSb_4 := HSb_17.out 4 (by simp)
  have qSb_5 := HSb_17.out 5 (by simp)
  simp only [List.getElem_cons_succ, List.getElem_cons_zero] at qSb_0 qSb_1 qSb_2 qSb_3 qSb_4 qSb_5
  have lqSb : v4.heap.size < v17.heap.size := by omega
  go_wp2_with fail
  obtain ⟨v18, hw18⟩ : ∃ x, x = v17.alloc (.cells #[.int .i64 (hdM hs a).au, .int .i64 (hdM hs a).sq, .int .i64 (hdM hs a).pv, .slice AV17 (hdM hs a).vec.length cv17, .slice A17 (hdM hs a).es.length c17, .int .i64 (hdM hs a).sg] 41) := ⟨_, rfl⟩
  have hbx : Below v17.heap.size v17 v18 := by rw [hw18]; exact (Below.refl _ _).alloc (Nat.le_refl _) _
  have z18 : v17.heap.size < v18.heap.size := by rw [hw18]; simp
  have HNb18 := Lib.hid (show Bx v18 (v17.heap.size) [.int .i64 (hdM hs a).au, .int .i64 (hdM hs a).sq, .int .i64 (hdM hs a).pv, .slice AV17 (hdM hs a).vec.length cv17, .slice A17 (hdM hs a).es.length c17, .int .i64 (hdM hs a).sg] by rw [hw18]; exact Bx.new' _ _ _ _ rfl)
  rw [← hw18]
  clear hw18
  have HVA_18 := Lib.hid (HVA_17.out.keep fun p _ hp => hbx.cell (by omega))
  have HEA_18 := Lib.hid (HEA_17.out.keep fun p _ hp => hbx.cell (by omega))
  have HHA_18 := Lib.hid (HHA_17.out.keep fun p _ hp => hbx.cell (by omega))
  have HPA_18 := Lib.hid (HPA_17.out.keep fun p _ hp => hbx.cell (by omega))
  have Hbel_18 := Lib.hid (Hbel_17.out.trans (hbx.mono (by omega)))
  have HBA_18 := Lib.hid (HBA_17.out.below hbx (by omega))
  have HS_18 := Lib.hid (HS_17.out.keep fun p hp hq => ⟨hbx.cell (by omega), hbx.frozen (by omega)⟩)
  have HSb_18 := Lib.hid (HSb_17.out.below hbx (by omega))
  have HX0b_18 := Lib.hid (HX0b_17.out.below hbx (by omega))
  have HRb_18 := Lib.hid (HRb_17.out.below hbx (by omega))
  have HQ_18 := Lib.hid (HQ_17.out.keep fun p hp hq => ⟨hbx.cell (by omega), hbx.frozen (by omega)⟩)
  have HU0_18 := Lib.hid (HU0_17.out.keep fun p hp hq => ⟨hbx.cell (by omega), hbx.frozen (by omega)⟩)
  have HT_18 := Lib.hid (HN17.out.keep fun p hp hq => ⟨hbx.cell (by omega), hbx.frozen (by omega)⟩)
  clear qSb_0 qSb_1 qSb_2 qSb_3 qSb_4 qSb_5 lqSb
  clear HVA_17 HEA_17 HHA_17 HPA_17 Hbel_17 HBA_17 HS_17 HSb_17 HX0b_17 HRb_17 HQ_17 HU0_17 HN17
  clear hbx
  refine (eqManifest_same (hdM hs a).au (hdM hs a).sq (hdM hs a).pv (hdM hs a).sg AV17 AV4 A17 A4 (hdM hs a).vec (hdM hs a).es cv17 cv4 c17 c4 v16.heap.size v3.heap.size v17.heap.size v4.heap.size v18 HT_18.out HS_18.out (by omega) (by omega) (hdM_bd hhbA).1 (hdM_bd hhbA).2.1 (hdM_bd hhbA).2.2).mono ?_
  rintro e v19 ⟨rfl, hb⟩
  have z19 := hb.size
  have HVA_19 := Lib.hid (HVA_18.out.keep fun p _ hp => hb.cell (by omega))
  have HEA_19 := Lib.hid (HEA_18.out.keep fun p _ hp => hb.cell (by omega))
  have HHA_19 := Lib.hid (HHA_18.out.keep fun p _ hp => hb.cell (by omega))
  have HPA_19 := Lib.hid (HPA_18.out.keep fun p _ hp => hb.cell (by omega))
  have Hbel_19 := Lib.hid (Hbel_18.out.trans (hb.mono (by omega)))
  have HBA_19 := Lib.hid (HBA_18.out.below hb (by omega))
  have HX0b_19 := Lib.hid (HX0b_18.out.below hb (by omega))
  have HRb_19 := Lib.hid (HRb_18.out.below hb (by omega))
  have HQ_19 := Lib.hid (HQ_18.out.keep fun p hp hq => ⟨hb.cell (by omega), hb.frozen (by omega)⟩)
  have HU0_19 := Lib.hid (HU0_18.out.keep fun p hp hq => ⟨hb.cell (by omega), hb.frozen (by omega)⟩)
  clear HVA_18 HEA_18 HHA_18 HPA_18 Hbel_18 HBA_18 HS_18 HSb_18 HX0b_18 HRb_18 HQ_18 HU0_18 HT_18 HNb18
  clear hb
  have qRb_0 := HRb_19.out 0 (by simp)
  have qRb_1 := HRb_19.out 1 (by simp)
  have qRb_2 := HRb_19.out 2 (by simp)
  have qRb_3 := HRb_19.out 3 (by simp)
  have qRb_4 := HRb_19.out 4 (by simp)
  have qRb_5 := HRb_19.out 5 (by simp)
  simp only [List.getElem_cons_succ, List.getElem_cons_zero] at qRb_0 qRb_1 qRb_2 qRb_3 qRb_4 qRb_5
  have lqRb : v8.heap.size < v19.heap.size := by omega
  go_wp2_with fail
  refine (heldManifest_own (hdM hs a).au (hdM hs a).sq (hdM hs a).pv (hdM hs a).sg AV8 A8 (hdM hs a).vec.length (hdM hs a).es cv8 c8 v7.heap.size v8.heap.size 1 v19 HQ_19.out (by omega) (hdM_bd hhbA).1 (hdM_bd hhbA).2.1 (hdM_bd hhbA).2.2 (by omega) (by omega)).mono ?_
  rintro e v20 ⟨rfl, hb⟩
  have z20 := hb.size
  have HVA_20 := Lib.hid (HVA_19.out.keep fun p _ hp => hb.cell (by omega))
  have HEA_20 := Lib.hid (HEA_19.out.keep fun p _ hp => hb.cell (by omega))
  have HHA_20 := Lib.hid (HHA_19.out.keep fun p _ hp => hb.cell (by omega))
  have HPA_20 := Lib.hid (HPA_19.out.keep fun p _ hp => hb.cell (by omega))
  have Hbel_20 := Lib.hid (Hbel_19.out.trans (hb.mono (by omega)))
  have HBA_20 := Lib.hid (HBA_19.out.below hb (by omega))
  have HX0b_20 := Lib.hid (HX0b_19.out.below hb (by omega))
  have HRb_20 := Lib.hid (HRb_19.out.below hb (by omega))
  have HQ_20 := Lib.hid (HQ_19.out.keep fun p hp hq => ⟨hb.cell (by omega), hb.frozen (by omega)⟩)
  have HU0_20 := Lib.hid (HU0_19.out.keep fun p hp hq => ⟨hb.cell (by omega), hb.frozen (by omega)⟩)
  clear qRb_0 qRb_1 qRb_2 qRb_3 qRb_4 qRb_5 lqRb
  clear HVA_19 HEA_19 HHA_19 HPA_19 Hbel_19 HBA_19 HX0b_19 HRb_19 HQ_19 HU0_19
  clear hb
  go_wp2_with fail
  go_ret
  exact ⟨rfl, Hbel_20.out⟩

end Go.Proofs.Ytgomdjhfdnbmdaa
