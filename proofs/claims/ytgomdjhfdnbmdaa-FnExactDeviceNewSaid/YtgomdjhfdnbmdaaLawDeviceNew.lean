/-
  The law on DeviceNew, walked: it answers true, and turns nothing that was there.
-/
import Derived.Test.YtgomdjhfdnbmdaaTrM
import Derived.Test.YtgomdjhfdnbmdaaMnM
import Derived.Test.YtgomdjhfdnbmdaaDnS
import Derived.Test.YtgomdjhfdnbmdaaDnP
import Derived.Deep.RegionHeld3
namespace Go.Proofs.Ytgomdjhfdnbmdaa
open Go.RowKit Go.Maps

set_option maxRecDepth 100000 in
set_option maxHeartbeats 8000000 in
theorem lawDeviceNew_any (id : Int) (w : World) :
    Calls Try.prog 5 #[.int .i64 id] w fun e w' => e = .returned (.bool true) ∧ Below w.heap.size w w' := by
  have HBel := Lib.hid (Below.refl w.heap.size w)
  have z0 : w.heap.size ≤ w.heap.size := Nat.le_refl _
  go_enter Try.func5, Try.ntmps5
  go_wp2_with fail
  refine (specDeviceNew_any id w ).mono ?_
  rintro e v1 ⟨AV1, cv1, A1, c1, AH1, ch1, AP1, cp1, rfl, hown, _, hb⟩
  have z1 := hb.size
  have HN1 := Lib.hid hown
  have Hbel_1 := Lib.hid (HBel.out.trans (hb.mono (by omega)))
  clear HBel
  clear hb hown
  go_wp2_with fail
  obtain ⟨v2, hw2⟩ : ∃ x, x = v1.alloc (.cells #[.int .i64 (dnId id), .slice AV1 (dnVec id).length cv1, .slice A1 noEs.length c1, .slice AH1 noMs.length ch1, .bool false, .slice AP1 noMs.length cp1] 36) := ⟨_, rfl⟩
  have hbx : Below v1.heap.size v1 v2 := by rw [hw2]; exact (Below.refl _ _).alloc (Nat.le_refl _) _
  have z2 : v1.heap.size < v2.heap.size := by rw [hw2]; simp
  have HNb2 := Lib.hid (show Bx v2 (v1.heap.size) [.int .i64 (dnId id), .slice AV1 (dnVec id).length cv1, .slice A1 noEs.length c1, .slice AH1 noMs.length ch1, .bool false, .slice AP1 noMs.length cp1] by rw [hw2]; exact Bx.new' _ _ _ _ rfl)
  rw [← hw2]
  clear hw2
  have Hbel_2 := Lib.hid (Hbel_1.out.trans (hbx.mono (by omega)))
  have HS_2 := Lib.hid (HN1.out.keep fun p hp hq => ⟨hbx.cell (by omega), hbx.frozen (by omega)⟩)
  clear Hbel_1 HN1
  clear hbx
  refine (implDeviceNew_any id v2 ).mono ?_
  rintro e v3 ⟨AV3, cv3, A3, c3, AH3, ch3, AP3, cp3, rfl, hown, _, hb⟩
  have z3 := hb.size
  have HN3 := Lib.hid hown
  have Hbel_3 := Lib.hid (Hbel_2.out.trans (hb.mono (by omega)))
  have HS_3 := Lib.hid (HS_2.out.keep fun p hp hq => ⟨hb.cell (by omega), hb.frozen (by omega)⟩)
  have HSb_3 := Lib.hid (HNb2.out.below hb (by omega))
  clear Hbel_2 HS_2 HNb2
  clear hb hown
  have qSb_0 := HSb_3.out 0 (by simp)
  have qSb_1 := HSb_3.out 1 (by simp)
  have qSb_2 := HSb_3.out 2 (by simp)
  have qSb_3 := HSb_3.out 3 (by simp)
  have qSb_4 := HSb_3.out 4 (by simp)
  have qSb_5 := HSb_3.out 5 (by simp)
  simp only [List.getElem_cons_succ, List.getElem_cons_zero] at qSb_0 qSb_1 qSb_2 qSb_3 qSb_4 qSb_5
  have lqSb : v1.heap.size < v3.heap.size := by omega
  go_wp2_with fail
  obtain ⟨v4, hw4⟩ : ∃ x, x = v3.alloc (.cells #[.int .i64 (dnId id), .slice AV3 (dnVec id).length cv3, .slice A3 noEs.length c3, .slice AH3 noMs.length ch3, .bool false, .slice AP3 noMs.length cp3] 36) := ⟨_, rfl⟩
  have hbx : Below v3.heap.size v3 v4 := by rw [hw4]; exact (Below.refl _ _).alloc (Nat.le_refl _) _
  have z4 : v3.heap.size < v4.heap.size := by rw [hw4]; simp
  have HNb4 := Lib.hid (show Bx v4 (v3.heap.size) [.int .i64 (dnId id), .slice AV3 (dnVec id).length cv3, .slice A3 noEs.length c3, .slice AH3 noMs.length ch3, .bool false, .slice AP3 noMs.length cp3] by rw [hw4]; exact Bx.new' _ _ _ _ rfl)
  rw [← hw4]
  clear hw4
  have Hbel_4 := Lib.hid (Hbel_3.out.trans (hbx.mono (by omega)))
  have HS_4 := Lib.hid (HS_3.out.keep fun p hp hq => ⟨hbx.cell (by omega), hbx.frozen (by omega)⟩)
  have HSb_4 := Lib.hid (HSb_3.out.below hbx (by omega))
  have HR_4 := Lib.hid (HN3.out.keep fun p hp hq => ⟨hbx.cell (by omega), hbx.frozen (by omega)⟩)
  clear qSb_0 qSb_1 qSb_2 qSb_3 qSb_4 qSb_5 lqSb
  clear Hbel_3 HS_3 HSb_3 HN3
  clear hbx
  have hcmp : ((devB id) != (devB id)) = false := by simp
  refine (eqDevice_same (dnId id) AV3 AV1 A3 A1 AH3 AH1 AP3 AP1 (dnVec id) noEs noMs noMs false cv3 cv1 c3 c1 ch3 ch1 cp3 cp1 v2.heap.size w.heap.size v3.heap.size v1.heap.size v4 HR_4.out HS_4.out (by omega) (by omega) (dn_bounds id) noEs_len noEs_bulk noMs_len noMs_bulk noMs_len noMs_bulk).mono ?_
  rintro e v5 ⟨rfl, hb⟩
  have z5 := hb.size
  have Hbel_5 := Lib.hid (Hbel_4.out.trans (hb.mono (by omega)))
  have HS_5 := Lib.hid (HS_4.out.keep fun p hp hq => ⟨hb.cell (by omega), hb.frozen (by omega)⟩)
  have HSb_5 := Lib.hid (HSb_4.out.below hb (by omega))
  have HR_5 := Lib.hid (HR_4.out.keep fun p hp hq => ⟨hb.cell (by omega), hb.frozen (by omega)⟩)
  have HRb_5 := Lib.hid (HNb4.out.below hb (by omega))
  clear Hbel_4 HS_4 HSb_4 HR_4 HNb4
  clear hb
  have qRb_0 := HRb_5.out 0 (by simp)
  have qRb_1 := HRb_5.out 1 (by simp)
  have qRb_2 := HRb_5.out 2 (by simp)
  have qRb_3 := HRb_5.out 3 (by simp)
  have qRb_4 := HRb_5.out 4 (by simp)
  have qRb_5 := HRb_5.out 5 (by simp)
  simp only [List.getElem_cons_succ, List.getElem_cons_zero] at qRb_0 qRb_1 qRb_2 qRb_3 qRb_4 qRb_5
  have lqRb : v3.heap.size < v5.heap.size := by omega
  go_wp2_with fail
  refine (markDevice_own (dnId id) AV3 A3 AH3 AP3 (dnVec id) noEs noMs noMs false cv3 c3 ch3 cp3 v2.heap.size v3.heap.size (1) v5 HR_5.out (by omega) (dn_bounds id) noEs_len noEs_bulk noMs_len noMs_bulk noMs_len noMs_bulk (by omega) (by omega) (by omega)).mono ?_
  rintro e v6 ⟨rfl, hmk, hin⟩
  have z6 := hin.below.size
  have HMk6 := Lib.hid hmk
  have Hbel_6 := Lib.hid (Hbel_5.out.trans (hin.below.mono (by omega)))
  have HS_6 := Lib.hid (HS_5.out.keep fun p hp hq => ⟨hin.cell (by omega), hin.frozen p (by omega)⟩)
  have HSb_6 := Lib.hid (HSb_5.out.inside hin (by omega))
  have HRb_6 := Lib.hid (HRb_5.out.inside hin (by omega))
  clear qRb_0 qRb_1 qRb_2 qRb_3 qRb_4 qRb_5 lqRb
  clear Hbel_5 HS_5 HSb_5 HR_5 HRb_5
  clear hin hmk
  have qRb_0 := HRb_6.out 0 (by simp)
  have qRb_1 := HRb_6.out 1 (by simp)
  have qRb_2 := HRb_6.out 2 (by simp)
  have qRb_3 := HRb_6.out 3 (by simp)
  have qRb_4 := HRb_6.out 4 (by simp)
  have qRb_5 := HRb_6.out 5 (by simp)
  simp only [List.getElem_cons_succ, List.getElem_cons_zero] at qRb_0 qRb_1 qRb_2 qRb_3 qRb_4 qRb_5
  have lqRb : v3.heap.size < v6.heap.size := by omega
  go_wp2_with fail
  refine (heldDevice_own (dnId id) AV3 A3 AH3 AP3 noEs noMs noMs false cv3 c3 ch3 cp3 v2.heap.size v3.heap.size 1 v6 (dnVec id).length HMk6.out (by omega) (dn_bounds id) noEs_len noEs_bulk noMs_len noMs_bulk noMs_len noMs_bulk (by omega) (by omega)).mono ?_
  rintro e v7 ⟨rfl, hb⟩
  have z7 := hb.size
  have Hbel_7 := Lib.hid (Hbel_6.out.trans (hb.mono (by omega)))
  have HS_7 := Lib.hid (HS_6.out.keep fun p hp hq => ⟨hb.cell (by omega), hb.frozen (by omega)⟩)
  have HSb_7 := Lib.hid (HSb_6.out.below hb (by omega))
  have HRb_7 := Lib.hid (HRb_6.out.below hb (by omega))
  have HQ_7 := Lib.hid (HMk6.out.keep fun p hp hq => ⟨hb.cell (by omega), hb.frozen (by omega)⟩)
  clear qRb_0 qRb_1 qRb_2 qRb_3 qRb_4 qRb_5 lqRb
  clear Hbel_6 HS_6 HSb_6 HRb_6 HMk6
  clear hb
  have hq0 : (0 : Int) ≤ 1 + ((dmo (dnVec id).length noEs noMs noMs : Nat) : Int) := by omega
  have hq1 : ((1 + ((dmo (dnVec id).length noEs noMs noMs : Nat) : Int)) != 1 + ((dmo (dnVec id).length noEs noMs noMs : Nat) : Int)) = false := by simp
  go_wp2_with fail
  refine (implDeviceNew_any id v7 ).mono ?_
  rintro e v8 ⟨AV8, cv8, A8, c8, AH8, ch8, AP8, cp8, rfl, hown, _, hb⟩
  have z8 := hb.size
  have HN8 := Lib.hid hown
  have Hbel_8 := Lib.hid (Hbel_7.out.trans (hb.mono (by omega)))
  have HS_8 := Lib.hid (HS_7.out.keep fun p hp hq => ⟨hb.cell (by omega), hb.frozen (by omega)⟩)
  have HSb_8 := Lib.hid (HSb_7.out.below hb (by omega))
  have HRb_8 := Lib.hid (HRb_7.out.below hb (by omega))
  have HQ_8 := Lib.hid (HQ_7.out.keep fun p hp hq => ⟨hb.cell (by omega), hb.frozen (by omega)⟩)
  clear Hbel_7 HS_7 HSb_7 HRb_7 HQ_7
  clear hb hown
  have qSb_0 := HSb_8.out 0 (by simp)
  have qSb_1 := HSb_8.out 1 (by simp)
  have qSb_2 := HSb_8.out 2 (by simp)
  have qSb_3 := HSb_8.out 3 (by simp)
  have qSb_4 := HSb_8.out 4 (by simp)
  have qSb_5 := HSb_8.out 5 (by simp)
  simp only [List.getElem_cons_succ, List.getElem_cons_zero] at qSb_0 qSb_1 qSb_2 qSb_3 qSb_4 qSb_5
  have lqSb : v1.heap.size < v8.heap.size := by omega
  go_wp2_with fail
  obtain ⟨v9, hw9⟩ : ∃ x, x = v8.alloc (.cells #[.int .i64 (dnId id), .slice AV8 (dnVec id).length cv8, .slice A8 noEs.length c8, .slice AH8 noMs.length ch8, .bool false, .slice AP8 noMs.length cp8] 36) := ⟨_, rfl⟩
  have hbx : Below v8.heap.size v8 v9 := by rw [hw9]; exact (Below.refl _ _).alloc (Nat.le_refl _) _
  have z9 : v8.heap.size < v9.heap.size := by rw [hw9]; simp
  have HNb9 := Lib.hid (show Bx v9 (v8.heap.size) [.int .i64 (dnId id), .slice AV8 (dnVec id).length cv8, .slice A8 noEs.length c8, .slice AH8 noMs.length ch8, .bool false, .slice AP8 noMs.length cp8] by rw [hw9]; exact Bx.new' _ _ _ _ rfl)
  rw [← hw9]
  clear hw9
  have Hbel_9 := Lib.hid (Hbel_8.out.trans (hbx.mono (by omega)))
  have HS_9 := Lib.hid (HS_8.out.keep fun p hp hq => ⟨hbx.cell (by omega), hbx.frozen (by omega)⟩)
  have HSb_9 := Lib.hid (HSb_8.out.below hbx (by omega))
  have HRb_9 := Lib.hid (HRb_8.out.below hbx (by omega))
  have HQ_9 := Lib.hid (HQ_8.out.keep fun p hp hq => ⟨hbx.cell (by omega), hbx.frozen (by omega)⟩)
  have HT_9 := Lib.hid (HN8.out.keep fun p hp hq => ⟨hbx.cell (by omega), hbx.frozen (by omega)⟩)
  clear qSb_0 qSb_1 qSb_2 qSb_3 qSb_4 qSb_5 lqSb
  clear Hbel_8 HS_8 HSb_8 HRb_8 HQ_8 HN8
  clear hbx
  refine (eqDevice_same (dnId id) AV8 AV1 A8 A1 AH8 AH1 AP8 AP1 (dnVec id) noEs noMs noMs false cv8 cv1 c8 c1 ch8 ch1 cp8 cp1 v7.heap.size w.heap.size v8.heap.size v1.heap.size v9 HT_9.out HS_9.out (by omega) (by omega) (dn_bounds id) noEs_len noEs_bulk noMs_len noMs_bulk noMs_len noMs_bulk).mono ?_
  rintro e v10 ⟨rfl, hb⟩
  have z10 := hb.size
  have Hbel_10 := Lib.hid (Hbel_9.out.trans (hb.mono (by omega)))
  have HRb_10 := Lib.hid (HRb_9.out.below hb (by omega))
  have HQ_10 := Lib.hid (HQ_9.out.keep fun p hp hq => ⟨hb.cell (by omega), hb.frozen (by omega)⟩)
  clear Hbel_9 HS_9 HSb_9 HRb_9 HQ_9 HT_9 HNb9
  clear hb
  have qRb_0 := HRb_10.out 0 (by simp)
  have qRb_1 := HRb_10.out 1 (by simp)
  have qRb_2 := HRb_10.out 2 (by simp)
  have qRb_3 := HRb_10.out 3 (by simp)
  have qRb_4 := HRb_10.out 4 (by simp)
  have qRb_5 := HRb_10.out 5 (by simp)
  simp only [List.getElem_cons_succ, List.getElem_cons_zero] at qRb_0 qRb_1 qRb_2 qRb_3 qRb_4 qRb_5
  have lqRb : v3.heap.size < v10.heap.size := by omega
  go_wp2_with fail
  refine (heldDevice_own (dnId id) AV3 A3 AH3 AP3 noEs noMs noMs false cv3 c3 ch3 cp3 v2.heap.size v3.heap.size 1 v10 (dnVec id).length HQ_10.out (by omega) (dn_bounds id) noEs_len noEs_bulk noMs_len noMs_bulk noMs_len noMs_bulk (by omega) (by omega)).mono ?_
  rintro e v11 ⟨rfl, hb⟩
  have z11 := hb.size
  have Hbel_11 := Lib.hid (Hbel_10.out.trans (hb.mono (by omega)))
  have HRb_11 := Lib.hid (HRb_10.out.below hb (by omega))
  have HQ_11 := Lib.hid (HQ_10.out.keep fun p hp hq => ⟨hb.cell (by omega), hb.frozen (by omega)⟩)
  clear qRb_0 qRb_1 qRb_2 qRb_3 qRb_4 qRb_5 lqRb
  clear Hbel_10 HRb_10 HQ_10
  clear hb
  go_wp2_with fail
  go_ret
  exact ⟨rfl, Hbel_11.out⟩

end Go.Proofs.Ytgomdjhfdnbmdaa
