/-
  The law on Known, walked: it answers true, and turns nothing that was there.
-/
import Derived.Test.YtgomdjhfdnbmdaaTrM
import Derived.Test.YtgomdjhfdnbmdaaDv
import Derived.Test.YtgomdjhfdnbmdaaKn
import Derived.Deep.RegionHeld3
namespace Go.Proofs.Ytgomdjhfdnbmdaa
open Go.RowKit Go.Maps

set_option maxRecDepth 100000 in
set_option maxHeartbeats 8000000 in
theorem lawKnown_any (id : Int) (AV : Option Addr) (vec : List Int) (cv : Nat) (A : Option Addr) (es : List En) (c : Nat) (AH : Option Addr) (hs : List Mn) (ch : Nat) (al : Bool) (AP : Option Addr) (ps : List Mn) (cp : Nat) (a : Int) (w : World) (hVA : IntsIn w 0 w.heap.size AV vec) (hEA : EnsIn w 0 w.heap.size A es) (hHA : MnsIn w 0 w.heap.size AH hs) (hPA : MnsIn w 0 w.heap.size AP ps) (nVA : vec.length ≤ 9223372036854775807) (nEA : es.length ≤ 9223372036854775807) (nBA : ∀ i (hi : i < es.length), es[i].name.length ≤ 9223372036854775807) (nHA : hs.length ≤ 9223372036854775807) (sHA : MnsSz hs) (nPA : ps.length ≤ 9223372036854775807) (sPA : MnsSz ps) :
    Calls Try.prog 3 #[.agg #[.int .i64 id, .slice AV vec.length cv, .slice A es.length c, .slice AH hs.length ch, .bool al, .slice AP ps.length cp], .int .i64 a] w fun e w' => e = .returned (.bool true) ∧ Below w.heap.size w w' := by
  have HVA := Lib.hid hVA
  have HEA := Lib.hid hEA
  have HHA := Lib.hid hHA
  have HPA := Lib.hid hPA
  have HnBA := Lib.hid nBA
  have HsHA := Lib.hid sHA
  have HsPA := Lib.hid sPA
  have HBel := Lib.hid (Below.refl w.heap.size w)
  clear hVA hEA hHA hPA nBA sHA sPA
  have z0 : w.heap.size ≤ w.heap.size := Nat.le_refl _
  go_enter Try.func3, Try.ntmps3
  go_wp2_with fail
  obtain ⟨v1, hw1⟩ : ∃ x, x = w.alloc (.cells #[.int .i64 id, .slice AV vec.length cv, .slice A es.length c, .slice AH hs.length ch, .bool al, .slice AP ps.length cp] 28) := ⟨_, rfl⟩
  have hbx : Below w.heap.size w v1 := by rw [hw1]; exact (Below.refl _ _).alloc (Nat.le_refl _) _
  have z1 : w.heap.size < v1.heap.size := by rw [hw1]; simp
  have HEs1 := Lib.hid (show v1.heap.size = w.heap.size + 1 by rw [hw1]; simp)
  have HNb1 := Lib.hid (show Bx v1 (w.heap.size) [.int .i64 id, .slice AV vec.length cv, .slice A es.length c, .slice AH hs.length ch, .bool al, .slice AP ps.length cp] by rw [hw1]; exact Bx.new' _ _ _ _ rfl)
  rw [← hw1]
  clear hw1
  have HVA_1 := Lib.hid (HVA.out.keep fun p _ hp => hbx.cell (by omega))
  have HEA_1 := Lib.hid (HEA.out.keep fun p _ hp => hbx.cell (by omega))
  have HHA_1 := Lib.hid (HHA.out.keep fun p _ hp => hbx.cell (by omega))
  have HPA_1 := Lib.hid (HPA.out.keep fun p _ hp => hbx.cell (by omega))
  have Hbel_1 := Lib.hid (HBel.out.trans (hbx.mono (by omega)))
  clear HVA HEA HHA HPA HBel
  clear hbx
  refine (szDevice_any id AV vec cv A es c AH hs ch al AP ps cp _ v1 (HEA_1.out.mono (by omega)) (HHA_1.out.mono (by omega)) (HPA_1.out.mono (by omega)) nVA nEA HnBA.out nHA HsHA.out nPA HsPA.out (by omega) (by omega)).mono ?_
  rintro e v2 ⟨r2, rfl, hsz, hb⟩
  have z2 := hb.size
  have HS2 := Lib.hid hsz
  have HVA_2 := Lib.hid (HVA_1.out.keep fun p _ hp => hb.cell (by omega))
  have HEA_2 := Lib.hid (HEA_1.out.keep fun p _ hp => hb.cell (by omega))
  have HHA_2 := Lib.hid (HHA_1.out.keep fun p _ hp => hb.cell (by omega))
  have HPA_2 := Lib.hid (HPA_1.out.keep fun p _ hp => hb.cell (by omega))
  have Hbel_2 := Lib.hid (Hbel_1.out.trans (hb.mono (by omega)))
  have HBA_2 := Lib.hid (HNb1.out.below hb (by omega))
  clear HVA_1 HEA_1 HHA_1 HPA_1 Hbel_1 HNb1
  clear hb hsz
  by_cases hr2 : r2 < 0
  · go_wp2_with fail
    all_goals go_ret
    all_goals exact ⟨rfl, Hbel_2.out⟩
  have hp2 : 0 ≤ r2 := by omega
  have hs2 : r2 + ((vec.length + (es.length + ebulk es)) + ((hs.length + mbulk hs) + (ps.length + mbulk ps))) ≤ 1048576 := by have := HS2.out; unfold SzOk dsz at this; omega
  have hvlA : vec.length ≤ 1048576 := by omega
  have helA : es.length ≤ 1048576 := by omega
  have hblA : ebulk es ≤ 1048576 := by omega
  have hhlA : hs.length ≤ 1048576 := by omega
  have hhbA : mbulk hs ≤ 1048576 := by omega
  have hplA : ps.length ≤ 1048576 := by omega
  have hpbA : mbulk ps ≤ 1048576 := by omega
  have hrl2 : r2 ≤ 1048576 := by omega
  clear hr2 HS2 hs2
  have qBA_0 := HBA_2.out 0 (by simp)
  have qBA_1 := HBA_2.out 1 (by simp)
  have qBA_2 := HBA_2.out 2 (by simp)
  have qBA_3 := HBA_2.out 3 (by simp)
  have qBA_4 := HBA_2.out 4 (by simp)
  have qBA_5 := HBA_2.out 5 (by simp)
  simp only [List.getElem_cons_succ, List.getElem_cons_zero] at qBA_0 qBA_1 qBA_2 qBA_3 qBA_4 qBA_5
  have lqBA : w.heap.size < v2.heap.size := by omega
  go_wp2_with fail
  refine (toDevice_own id AV vec cv A es c AH hs ch al AP ps cp v2 (HVA_2.out.mono (by omega)) (HEA_2.out.mono (by omega)) (HHA_2.out.mono (by omega)) (HPA_2.out.mono (by omega)) hvlA helA hblA hhlA hhbA hplA hpbA).mono ?_
  rintro e v3 ⟨gv3, ge3, gh3, gp3, rfl, _, hown, hb⟩
  have z3 := hb.size
  have HN3 := Lib.hid hown
  have HVA_3 := Lib.hid (HVA_2.out.keep fun p _ hp => hb.cell (by omega))
  have HEA_3 := Lib.hid (HEA_2.out.keep fun p _ hp => hb.cell (by omega))
  have HHA_3 := Lib.hid (HHA_2.out.keep fun p _ hp => hb.cell (by omega))
  have HPA_3 := Lib.hid (HPA_2.out.keep fun p _ hp => hb.cell (by omega))
  have Hbel_3 := Lib.hid (Hbel_2.out.trans (hb.mono (by omega)))
  have HBA_3 := Lib.hid (HBA_2.out.below hb (by omega))
  clear qBA_0 qBA_1 qBA_2 qBA_3 qBA_4 qBA_5 lqBA
  clear HVA_2 HEA_2 HHA_2 HPA_2 Hbel_2 HBA_2
  clear hb hown
  go_wp2_with fail
  refine (specKnown_any id (some ⟨gv3, 0, none⟩) vec vec.length (some ⟨ge3, 0, none⟩) es es.length (some ⟨gh3, 0, none⟩) hs hs.length al (some ⟨gp3, 0, none⟩) ps ps.length a v3 ((HN3.out.tree.vecIn.ints.low (Nat.zero_le _)).mono (by omega)) ((HN3.out.tree.ensIn.ens.low (Nat.zero_le _)).mono (by omega)) (HN3.out.heads.rd.mono (Nat.zero_le _) (by omega)) (HN3.out.proof.rd.mono (Nat.zero_le _) (by omega)) hvlA helA hblA hhlA hhbA hplA hpbA).mono ?_
  rintro e v4 ⟨rfl, hb⟩
  have z4 := hb.size
  have HVA_4 := Lib.hid (HVA_3.out.keep fun p _ hp => hb.cell (by omega))
  have HEA_4 := Lib.hid (HEA_3.out.keep fun p _ hp => hb.cell (by omega))
  have HHA_4 := Lib.hid (HHA_3.out.keep fun p _ hp => hb.cell (by omega))
  have HPA_4 := Lib.hid (HPA_3.out.keep fun p _ hp => hb.cell (by omega))
  have Hbel_4 := Lib.hid (Hbel_3.out.trans (hb.mono (by omega)))
  have HBA_4 := Lib.hid (HBA_3.out.below hb (by omega))
  have HM0_4 := Lib.hid (HN3.out.keep fun p hp hq => ⟨hb.cell (by omega), hb.frozen (by omega)⟩)
  clear HVA_3 HEA_3 HHA_3 HPA_3 Hbel_3 HBA_3 HN3
  clear hb
  clear HM0_4
  have qBA_0 := HBA_4.out 0 (by simp)
  have qBA_1 := HBA_4.out 1 (by simp)
  have qBA_2 := HBA_4.out 2 (by simp)
  have qBA_3 := HBA_4.out 3 (by simp)
  have qBA_4 := HBA_4.out 4 (by simp)
  have qBA_5 := HBA_4.out 5 (by simp)
  simp only [List.getElem_cons_succ, List.getElem_cons_zero] at qBA_0 qBA_1 qBA_2 qBA_3 qBA_4 qBA_5
  have lqBA : w.heap.size < v4.heap.size := by omega
  go_wp2_with fail
  refine (toDevice_own id AV vec cv A es c AH hs ch al AP ps cp v4 (HVA_4.out.mono (by omega)) (HEA_4.out.mono (by omega)) (HHA_4.out.mono (by omega)) (HPA_4.out.mono (by omega)) hvlA helA hblA hhlA hhbA hplA hpbA).mono ?_
  rintro e v5 ⟨gv5, ge5, gh5, gp5, rfl, _, hown, hb⟩
  have z5 := hb.size
  have HN5 := Lib.hid hown
  have HVA_5 := Lib.hid (HVA_4.out.keep fun p _ hp => hb.cell (by omega))
  have HEA_5 := Lib.hid (HEA_4.out.keep fun p _ hp => hb.cell (by omega))
  have HHA_5 := Lib.hid (HHA_4.out.keep fun p _ hp => hb.cell (by omega))
  have HPA_5 := Lib.hid (HPA_4.out.keep fun p _ hp => hb.cell (by omega))
  have Hbel_5 := Lib.hid (Hbel_4.out.trans (hb.mono (by omega)))
  have HBA_5 := Lib.hid (HBA_4.out.below hb (by omega))
  clear qBA_0 qBA_1 qBA_2 qBA_3 qBA_4 qBA_5 lqBA
  clear HVA_4 HEA_4 HHA_4 HPA_4 Hbel_4 HBA_4
  clear hb hown
  go_wp2_with fail
  obtain ⟨v6, hw6⟩ : ∃ x, x = v5.alloc (.cells #[.int .i64 id, .slice (some ⟨gv5, 0, none⟩) vec.length vec.length, .slice (some ⟨ge5, 0, none⟩) es.length es.length, .slice (some ⟨gh5, 0, none⟩) hs.length hs.length, .bool al, .slice (some ⟨gp5, 0, none⟩) ps.length ps.length] 36) := ⟨_, rfl⟩
  have hbx : Below v5.heap.size v5 v6 := by rw [hw6]; exact (Below.refl _ _).alloc (Nat.le_refl _) _
  have z6 : v5.heap.size < v6.heap.size := by rw [hw6]; simp
  have HNb6 := Lib.hid (show Bx v6 (v5.heap.size) [.int .i64 id, .slice (some ⟨gv5, 0, none⟩) vec.length vec.length, .slice (some ⟨ge5, 0, none⟩) es.length es.length, .slice (some ⟨gh5, 0, none⟩) hs.length hs.length, .bool al, .slice (some ⟨gp5, 0, none⟩) ps.length ps.length] by rw [hw6]; exact Bx.new' _ _ _ _ rfl)
  rw [← hw6]
  clear hw6
  have HVA_6 := Lib.hid (HVA_5.out.keep fun p _ hp => hbx.cell (by omega))
  have HEA_6 := Lib.hid (HEA_5.out.keep fun p _ hp => hbx.cell (by omega))
  have HHA_6 := Lib.hid (HHA_5.out.keep fun p _ hp => hbx.cell (by omega))
  have HPA_6 := Lib.hid (HPA_5.out.keep fun p _ hp => hbx.cell (by omega))
  have Hbel_6 := Lib.hid (Hbel_5.out.trans (hbx.mono (by omega)))
  have HBA_6 := Lib.hid (HBA_5.out.below hbx (by omega))
  have HX0_6 := Lib.hid (HN5.out.keep fun p hp hq => ⟨hbx.cell (by omega), hbx.frozen (by omega)⟩)
  clear HVA_5 HEA_5 HHA_5 HPA_5 Hbel_5 HBA_5 HN5
  clear hbx
  refine (implKnown_any id (some ⟨gv5, 0, none⟩) vec vec.length (some ⟨ge5, 0, none⟩) es es.length (some ⟨gh5, 0, none⟩) hs hs.length al (some ⟨gp5, 0, none⟩) ps ps.length a v6 ((HX0_6.out.tree.vecIn.ints.low (Nat.zero_le _)).mono (by omega)) ((HX0_6.out.tree.ensIn.ens.low (Nat.zero_le _)).mono (by omega)) (HX0_6.out.heads.rd.mono (Nat.zero_le _) (by omega)) (HX0_6.out.proof.rd.mono (Nat.zero_le _) (by omega)) hvlA helA hblA hhlA hhbA hplA hpbA).mono ?_
  rintro e v7 ⟨rfl, hb⟩
  have z7 := hb.size
  have HVA_7 := Lib.hid (HVA_6.out.keep fun p _ hp => hb.cell (by omega))
  have HEA_7 := Lib.hid (HEA_6.out.keep fun p _ hp => hb.cell (by omega))
  have HHA_7 := Lib.hid (HHA_6.out.keep fun p _ hp => hb.cell (by omega))
  have HPA_7 := Lib.hid (HPA_6.out.keep fun p _ hp => hb.cell (by omega))
  have Hbel_7 := Lib.hid (Hbel_6.out.trans (hb.mono (by omega)))
  have HBA_7 := Lib.hid (HBA_6.out.below hb (by omega))
  have HX0_7 := Lib.hid (HX0_6.out.keep fun p hp hq => ⟨hb.cell (by omega), hb.frozen (by omega)⟩)
  have HX0b_7 := Lib.hid (HNb6.out.below hb (by omega))
  clear HVA_6 HEA_6 HHA_6 HPA_6 Hbel_6 HBA_6 HX0_6 HNb6
  clear hb
  have hcmp : ((knownI hs a) != (knownI hs a)) = false := by simp
  have qX0b_0 := HX0b_7.out 0 (by simp)
  have qX0b_1 := HX0b_7.out 1 (by simp)
  have qX0b_2 := HX0b_7.out 2 (by simp)
  have qX0b_3 := HX0b_7.out 3 (by simp)
  have qX0b_4 := HX0b_7.out 4 (by simp)
  have qX0b_5 := HX0b_7.out 5 (by simp)
  have qBA_0 := HBA_7.out 0 (by simp)
  have qBA_1 := HBA_7.out 1 (by simp)
  have qBA_2 := HBA_7.out 2 (by simp)
  have qBA_3 := HBA_7.out 3 (by simp)
  have qBA_4 := HBA_7.out 4 (by simp)
  have qBA_5 := HBA_7.out 5 (by simp)
  simp only [List.getElem_cons_succ, List.getElem_cons_zero] at qX0b_0 qX0b_1 qX0b_2 qX0b_3 qX0b_4 qX0b_5 qBA_0 qBA_1 qBA_2 qBA_3 qBA_4 qBA_5
  have lqX0b : v5.heap.size < v7.heap.size := by omega
  have lqBA : w.heap.size < v7.heap.size := by omega
  go_wp2_with fail
  go_region_held3 (fun X => X.cell? ⟨v5.heap.size, 0, none⟩ = some (.int .i64 id) ∧ X.cell? ⟨v5.heap.size, 1, none⟩ = some (.slice (some ⟨gv5, 0, none⟩) vec.length vec.length) ∧ X.cell? ⟨v5.heap.size, 2, none⟩ = some (.slice (some ⟨ge5, 0, none⟩) es.length es.length) ∧ X.cell? ⟨v5.heap.size, 3, none⟩ = some (.slice (some ⟨gh5, 0, none⟩) hs.length hs.length) ∧ X.cell? ⟨v5.heap.size, 4, none⟩ = some (.bool al) ∧ X.cell? ⟨v5.heap.size, 5, none⟩ = some (.slice (some ⟨gp5, 0, none⟩) ps.length ps.length) ∧ X.cell? ⟨w.heap.size, 0, none⟩ = some (.int .i64 id) ∧ X.cell? ⟨w.heap.size, 1, none⟩ = some (.slice AV vec.length cv) ∧ X.cell? ⟨w.heap.size, 2, none⟩ = some (.slice A es.length c) ∧ X.cell? ⟨w.heap.size, 3, none⟩ = some (.slice AH hs.length ch) ∧ X.cell? ⟨w.heap.size, 4, none⟩ = some (.bool al) ∧ X.cell? ⟨w.heap.size, 5, none⟩ = some (.slice AP ps.length cp))
    (first | exact ⟨qX0b_0, qX0b_1, qX0b_2, qX0b_3, qX0b_4, qX0b_5, qBA_0, qBA_1, qBA_2, qBA_3, qBA_4, qBA_5⟩ | exact ⟨s0, s1, s2, s3, s4, s5, s6, s7, s8, s9, s10, s11⟩ | exact ⟨t0, t1, t2, t3, t4, t5, t6, t7, t8, t9, t10, t11⟩)
    (first
      | (go_at_call 8
         refine (toDevice_own id AV vec cv A es c AH hs ch al AP ps cp _ ((HVA_7.out.keep fun p _ hp => ?_).mono ?_) ((HEA_7.out.keep fun p _ hp => ?_).mono ?_) ((HHA_7.out.keep fun p _ hp => ?_).mono ?_) ((HPA_7.out.keep fun p _ hp => ?_).mono ?_) hvlA helA hblA hhlA hhbA hplA hpbA).mono ?_
         · rfl
         · show w.heap.size ≤ v7.heap.size; omega
         · rfl
         · show w.heap.size ≤ v7.heap.size; omega
         · rfl
         · show w.heap.size ≤ v7.heap.size; omega
         · rfl
         · show w.heap.size ≤ v7.heap.size; omega
         rintro e wy ⟨gvy, gey, ghy, gpy, rfl, _, howny, hby⟩
         have hbsy : Below v7.heap.size v7 wy := by first | exact hby | exact (Below.refl v7.heap.size v7).drew.trans hby
         have s0 := (hbsy.cell (p := ⟨v5.heap.size, 0, none⟩) (by show v5.heap.size < v7.heap.size; omega)).trans qX0b_0
         have s1 := (hbsy.cell (p := ⟨v5.heap.size, 1, none⟩) (by show v5.heap.size < v7.heap.size; omega)).trans qX0b_1
         have s2 := (hbsy.cell (p := ⟨v5.heap.size, 2, none⟩) (by show v5.heap.size < v7.heap.size; omega)).trans qX0b_2
         have s3 := (hbsy.cell (p := ⟨v5.heap.size, 3, none⟩) (by show v5.heap.size < v7.heap.size; omega)).trans qX0b_3
         have s4 := (hbsy.cell (p := ⟨v5.heap.size, 4, none⟩) (by show v5.heap.size < v7.heap.size; omega)).trans qX0b_4
         have s5 := (hbsy.cell (p := ⟨v5.heap.size, 5, none⟩) (by show v5.heap.size < v7.heap.size; omega)).trans qX0b_5
         have s6 := (hbsy.cell (p := ⟨w.heap.size, 0, none⟩) (by show w.heap.size < v7.heap.size; omega)).trans qBA_0
         have s7 := (hbsy.cell (p := ⟨w.heap.size, 1, none⟩) (by show w.heap.size < v7.heap.size; omega)).trans qBA_1
         have s8 := (hbsy.cell (p := ⟨w.heap.size, 2, none⟩) (by show w.heap.size < v7.heap.size; omega)).trans qBA_2
         have s9 := (hbsy.cell (p := ⟨w.heap.size, 3, none⟩) (by show w.heap.size < v7.heap.size; omega)).trans qBA_3
         have s10 := (hbsy.cell (p := ⟨w.heap.size, 4, none⟩) (by show w.heap.size < v7.heap.size; omega)).trans qBA_4
         have s11 := (hbsy.cell (p := ⟨w.heap.size, 5, none⟩) (by show w.heap.size < v7.heap.size; omega)).trans qBA_5
         have hzy := hbsy.size
         have HTy := Lib.hid (show DvOwn wy v7.heap.size wy.heap.size _ vec _ es _ hs _ ps from howny)
         have HBy := Lib.hid hbsy
         clear howny hby hbsy)
      | (go_at_call 10
         refine (eqDevice_same id (some ⟨gv5, 0, none⟩) _ (some ⟨ge5, 0, none⟩) _ (some ⟨gh5, 0, none⟩) _ (some ⟨gp5, 0, none⟩) _ vec es hs ps al vec.length _ es.length _ hs.length _ ps.length _ v4.heap.size v7.heap.size v5.heap.size wy.heap.size _ (HX0_7.out.keep fun p hp hq => ⟨HBy.out.cell (by omega), HBy.out.frozen (by omega)⟩) HTy.out ?_ ?_ hvlA helA hblA hhlA hhbA hplA hpbA).mono ?_
         · show v5.heap.size ≤ wy.heap.size; omega
         · exact Nat.le_refl _
         rintro e wz ⟨rfl, hbz⟩
         have hbyz : Below wy.heap.size wy wz := by first | exact hbz | exact (Below.refl wy.heap.size wy).drew.trans hbz
         have t0 := (hbyz.cell (p := ⟨v5.heap.size, 0, none⟩) (by show v5.heap.size < wy.heap.size; omega)).trans s0
         have t1 := (hbyz.cell (p := ⟨v5.heap.size, 1, none⟩) (by show v5.heap.size < wy.heap.size; omega)).trans s1
         have t2 := (hbyz.cell (p := ⟨v5.heap.size, 2, none⟩) (by show v5.heap.size < wy.heap.size; omega)).trans s2
         have t3 := (hbyz.cell (p := ⟨v5.heap.size, 3, none⟩) (by show v5.heap.size < wy.heap.size; omega)).trans s3
         have t4 := (hbyz.cell (p := ⟨v5.heap.size, 4, none⟩) (by show v5.heap.size < wy.heap.size; omega)).trans s4
         have t5 := (hbyz.cell (p := ⟨v5.heap.size, 5, none⟩) (by show v5.heap.size < wy.heap.size; omega)).trans s5
         have t6 := (hbyz.cell (p := ⟨w.heap.size, 0, none⟩) (by show w.heap.size < wy.heap.size; omega)).trans s6
         have t7 := (hbyz.cell (p := ⟨w.heap.size, 1, none⟩) (by show w.heap.size < wy.heap.size; omega)).trans s7
         have t8 := (hbyz.cell (p := ⟨w.heap.size, 2, none⟩) (by show w.heap.size < wy.heap.size; omega)).trans s8
         have t9 := (hbyz.cell (p := ⟨w.heap.size, 3, none⟩) (by show w.heap.size < wy.heap.size; omega)).trans s9
         have t10 := (hbyz.cell (p := ⟨w.heap.size, 4, none⟩) (by show w.heap.size < wy.heap.size; omega)).trans s10
         have t11 := (hbyz.cell (p := ⟨w.heap.size, 5, none⟩) (by show w.heap.size < wy.heap.size; omega)).trans s11
         have HBz := Lib.hid (HBy.out.trans (hbyz.mono (by omega)))
         have hzz : v7.heap.size ≤ wz.heap.size := Nat.le_trans hzy hbyz.size
         clear hbz hbyz))
  obtain ⟨v8, hv8⟩ : ∃ x, x = wz := ⟨_, rfl⟩
  rw [← hv8]
  have hb : Below v7.heap.size v7 v8 := hv8 ▸ HBz.out
  have z8 := hb.size
  clear HBy HTy HBz hzy hzz s0 s1 s2 s3 s4 s5 s6 s7 s8 s9 s10 s11 t0 t1 t2 t3 t4 t5 t6 t7 t8 t9 t10 t11 qX0b_0 qX0b_1 qX0b_2 qX0b_3 qX0b_4 qX0b_5 qBA_0 qBA_1 qBA_2 qBA_3 qBA_4 qBA_5 lqX0b lqBA
  have HVA_8 := Lib.hid (HVA_7.out.keep fun p _ hp => hb.cell (by omega))
  have HEA_8 := Lib.hid (HEA_7.out.keep fun p _ hp => hb.cell (by omega))
  have HHA_8 := Lib.hid (HHA_7.out.keep fun p _ hp => hb.cell (by omega))
  have HPA_8 := Lib.hid (HPA_7.out.keep fun p _ hp => hb.cell (by omega))
  have Hbel_8 := Lib.hid (Hbel_7.out.trans (hb.mono (by omega)))
  have HBA_8 := Lib.hid (HBA_7.out.below hb (by omega))
  have HX0_8 := Lib.hid (HX0_7.out.keep fun p hp hq => ⟨hb.cell (by omega), hb.frozen (by omega)⟩)
  have HX0b_8 := Lib.hid (HX0b_7.out.below hb (by omega))
  clear HVA_7 HEA_7 HHA_7 HPA_7 Hbel_7 HBA_7 HX0_7 HX0b_7
  clear hb hv8
  go_wp2_with fail
  go_ret
  exact ⟨rfl, Hbel_8.out⟩

end Go.Proofs.Ytgomdjhfdnbmdaa
