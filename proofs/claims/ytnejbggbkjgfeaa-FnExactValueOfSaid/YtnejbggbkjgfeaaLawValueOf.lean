/-
  The law on ValueOf, walked: it answers true, and turns nothing that was there.
-/
import Derived.Test.YtnejbggbkjgfeaaTrM
import Derived.Test.YtnejbggbkjgfeaaValueOf
import Derived.Deep.RegionHeld3
namespace Go.Proofs.Ytnejbggbkjgfeaa
open Go.RowKit Go.Maps

set_option maxRecDepth 100000 in
set_option maxHeartbeats 8000000 in
theorem lawValueOf_any (AV : Option Addr) (vec : List Int) (cv : Nat) (A : Option Addr) (es : List En) (c : Nat) (B : Option Addr) (l : List UInt8) (cb : Nat) (w : World) (hVA : IntsIn w 0 w.heap.size AV vec) (hEA : EnsIn w 0 w.heap.size A es) (nVA : vec.length ≤ 9223372036854775807) (nEA : es.length ≤ 9223372036854775807) (nBA : ∀ i (hi : i < es.length), es[i].name.length ≤ 9223372036854775807) (hB : BytesIn w 0 w.heap.size B l) (nB : l.length ≤ 9223372036854775807) :
    Calls Try.prog 11 #[.agg #[.slice AV vec.length cv, .slice A es.length c], .slice B l.length cb] w fun e w' => e = .returned (.bool true) ∧ Below w.heap.size w w' := by
  have HVA := Lib.hid hVA
  have HEA := Lib.hid hEA
  have HnBA := Lib.hid nBA
  have HB := Lib.hid hB
  have HBel := Lib.hid (Below.refl w.heap.size w)
  clear hVA hEA nBA hB
  have z0 : w.heap.size ≤ w.heap.size := Nat.le_refl _
  go_enter Try.func11, Try.ntmps11
  by_cases qB : (1048576 : Int) < l.length
  · go_wp2_with fail
    all_goals go_ret
    all_goals exact ⟨rfl, by repeat first | exact HBel.out | (refine Below.alloc ?_ (by first | exact Nat.le_refl _ | (simp; done) | (simp; omega)) _)⟩
  have rB : l.length ≤ 1048576 := by omega
  go_wp2_with fail
  obtain ⟨v1, hw1⟩ : ∃ x, x = w.alloc (.cells #[.slice AV vec.length cv, .slice A es.length c] 34) := ⟨_, rfl⟩
  have hbx : Below w.heap.size w v1 := by rw [hw1]; exact (Below.refl _ _).alloc (Nat.le_refl _) _
  have z1 : w.heap.size < v1.heap.size := by rw [hw1]; simp
  have HNb1 := Lib.hid (show Bx v1 w.heap.size [.slice AV vec.length cv, .slice A es.length c] by rw [hw1]; exact Bx.new' _ _ _ _ rfl)
  rw [← hw1]
  clear hw1
  have HVA_1 := Lib.hid (HVA.out.keep fun p _ hp => hbx.cell (by omega))
  have HEA_1 := Lib.hid (HEA.out.keep fun p _ hp => hbx.cell (by omega))
  have HB_1 := Lib.hid (HB.out.keep fun p _ hp => hbx.cell (by omega))
  have Hbel_1 := Lib.hid (HBel.out.trans (hbx.mono (by omega)))
  clear HVA HEA HB HBel
  clear hbx
  refine (szTree_any AV vec cv A es c _ v1 (HEA_1.out.mono (by omega)) nVA nEA HnBA.out (by omega) (by omega)).mono ?_
  rintro e v2 ⟨r2, rfl, hsz, hb⟩
  have z2 := hb.size
  have HS2 := Lib.hid hsz
  have HVA_2 := Lib.hid (HVA_1.out.keep fun p _ hp => hb.cell (by omega))
  have HEA_2 := Lib.hid (HEA_1.out.keep fun p _ hp => hb.cell (by omega))
  have HB_2 := Lib.hid (HB_1.out.keep fun p _ hp => hb.cell (by omega))
  have Hbel_2 := Lib.hid (Hbel_1.out.trans (hb.mono (by omega)))
  have HBA_2 := Lib.hid (HNb1.out.below hb (by omega))
  clear HVA_1 HEA_1 HB_1 Hbel_1 HNb1
  clear hb hsz
  by_cases hr2 : r2 < 0
  · go_wp2_with fail
    all_goals go_ret
    all_goals exact ⟨rfl, Hbel_2.out⟩
  have hp2 : 0 ≤ r2 := by omega
  have hs2 : r2 + (vec.length + (es.length + ebulk es)) ≤ 1048576 := by have := HS2.out; unfold SzOk at this; omega
  have hvlA : vec.length ≤ 1048576 := by omega
  have helA : es.length ≤ 1048576 := by omega
  have hblA : ebulk es ≤ 1048576 := by omega
  have hmoA : mo es ≤ 4194304 := by unfold mo; omega
  have hrl2 : r2 ≤ 1048576 := by omega
  clear hr2 HS2 hs2
  have qBA_0 := HBA_2.out 0 (by simp)
  have qBA_1 := HBA_2.out 1 (by simp)
  simp only [List.getElem_cons_succ, List.getElem_cons_zero] at qBA_0 qBA_1
  have lqBA : w.heap.size < v2.heap.size := by omega
  go_wp2_with fail
  refine (toTree_own AV vec cv A es c v2 (HVA_2.out.mono (by omega)) (HEA_2.out.mono (by omega)) hvlA helA hblA).mono ?_
  rintro e v3 ⟨gv3, ge3, rfl, _, hown, hb⟩
  have z3 := hb.size
  have HN3 := Lib.hid hown
  have HVA_3 := Lib.hid (HVA_2.out.keep fun p _ hp => hb.cell (by omega))
  have HEA_3 := Lib.hid (HEA_2.out.keep fun p _ hp => hb.cell (by omega))
  have HB_3 := Lib.hid (HB_2.out.keep fun p _ hp => hb.cell (by omega))
  have Hbel_3 := Lib.hid (Hbel_2.out.trans (hb.mono (by omega)))
  have HBA_3 := Lib.hid (HBA_2.out.below hb (by omega))
  clear qBA_0 qBA_1 lqBA
  clear HVA_2 HEA_2 HB_2 Hbel_2 HBA_2
  clear hb hown
  go_wp2_with fail
  refine (toByteS_nf B l cb v3 (HB_3.out.mono (by omega)) rB).mono ?_
  rintro e v4 ⟨g4, rfl, _, _, hfr, hb⟩
  have z4 := hb.size
  have HN4 := Lib.hid hfr
  have HVA_4 := Lib.hid (HVA_3.out.keep fun p _ hp => hb.cell (by omega))
  have HEA_4 := Lib.hid (HEA_3.out.keep fun p _ hp => hb.cell (by omega))
  have HB_4 := Lib.hid (HB_3.out.keep fun p _ hp => hb.cell (by omega))
  have Hbel_4 := Lib.hid (Hbel_3.out.trans (hb.mono (by omega)))
  have HBA_4 := Lib.hid (HBA_3.out.below hb (by omega))
  have HM0_4 := Lib.hid (HN3.out.keep fun p hp hq => ⟨hb.cell (by omega), hb.frozen (by omega)⟩)
  clear HVA_3 HEA_3 HB_3 Hbel_3 HBA_3 HN3
  clear hb hfr
  go_wp2_with fail
  refine (specValueOf_any (some ⟨gv3, 0, none⟩) vec vec.length (some ⟨ge3, 0, none⟩) es es.length (some ⟨g4, 0, none⟩) l l.length v4 ((HM0_4.out.vecIn.ints.low (Nat.zero_le _)).mono (by omega)) ((HM0_4.out.ensIn.ens.low (Nat.zero_le _)).mono (by omega)) hvlA helA hblA ((HN4.out.bytes.low (Nat.zero_le _)).mono (by omega)) rB).mono ?_
  rintro e v5 ⟨rfl, hb⟩
  have z5 := hb.size
  have HVA_5 := Lib.hid (HVA_4.out.keep fun p _ hp => hb.cell (by omega))
  have HEA_5 := Lib.hid (HEA_4.out.keep fun p _ hp => hb.cell (by omega))
  have HB_5 := Lib.hid (HB_4.out.keep fun p _ hp => hb.cell (by omega))
  have Hbel_5 := Lib.hid (Hbel_4.out.trans (hb.mono (by omega)))
  have HBA_5 := Lib.hid (HBA_4.out.below hb (by omega))
  have HM0_5 := Lib.hid (HM0_4.out.keep fun p hp hq => ⟨hb.cell (by omega), hb.frozen (by omega)⟩)
  have HM1_5 := Lib.hid (HN4.out.keep fun p hp hq => ⟨hb.cell (by omega), hb.frozen (by omega)⟩)
  clear HVA_4 HEA_4 HB_4 Hbel_4 HBA_4 HM0_4 HN4
  clear hb
  clear HM0_5 HM1_5
  have qBA_0 := HBA_5.out 0 (by simp)
  have qBA_1 := HBA_5.out 1 (by simp)
  simp only [List.getElem_cons_succ, List.getElem_cons_zero] at qBA_0 qBA_1
  have lqBA : w.heap.size < v5.heap.size := by omega
  go_wp2_with fail
  refine (toTree_own AV vec cv A es c v5 (HVA_5.out.mono (by omega)) (HEA_5.out.mono (by omega)) hvlA helA hblA).mono ?_
  rintro e v6 ⟨gv6, ge6, rfl, _, hown, hb⟩
  have z6 := hb.size
  have HN6 := Lib.hid hown
  have HVA_6 := Lib.hid (HVA_5.out.keep fun p _ hp => hb.cell (by omega))
  have HEA_6 := Lib.hid (HEA_5.out.keep fun p _ hp => hb.cell (by omega))
  have HB_6 := Lib.hid (HB_5.out.keep fun p _ hp => hb.cell (by omega))
  have Hbel_6 := Lib.hid (Hbel_5.out.trans (hb.mono (by omega)))
  have HBA_6 := Lib.hid (HBA_5.out.below hb (by omega))
  clear qBA_0 qBA_1 lqBA
  clear HVA_5 HEA_5 HB_5 Hbel_5 HBA_5
  clear hb hown
  go_wp2_with fail
  obtain ⟨v7, hw7⟩ : ∃ x, x = v6.alloc (.cells #[.slice (some ⟨gv6, 0, none⟩) vec.length vec.length, .slice (some ⟨ge6, 0, none⟩) es.length es.length] 39) := ⟨_, rfl⟩
  have hbx : Below v6.heap.size v6 v7 := by rw [hw7]; exact (Below.refl _ _).alloc (Nat.le_refl _) _
  have z7 : v6.heap.size < v7.heap.size := by rw [hw7]; simp
  have HNb7 := Lib.hid (show Bx v7 v6.heap.size [.slice (some ⟨gv6, 0, none⟩) vec.length vec.length, .slice (some ⟨ge6, 0, none⟩) es.length es.length] by rw [hw7]; exact Bx.new' _ _ _ _ rfl)
  rw [← hw7]
  clear hw7
  have HVA_7 := Lib.hid (HVA_6.out.keep fun p _ hp => hbx.cell (by omega))
  have HEA_7 := Lib.hid (HEA_6.out.keep fun p _ hp => hbx.cell (by omega))
  have HB_7 := Lib.hid (HB_6.out.keep fun p _ hp => hbx.cell (by omega))
  have Hbel_7 := Lib.hid (Hbel_6.out.trans (hbx.mono (by omega)))
  have HBA_7 := Lib.hid (HBA_6.out.below hbx (by omega))
  have HX0_7 := Lib.hid (HN6.out.keep fun p hp hq => ⟨hbx.cell (by omega), hbx.frozen (by omega)⟩)
  clear HVA_6 HEA_6 HB_6 Hbel_6 HBA_6 HN6
  clear hbx
  refine (toByteS_nf B l cb v7 (HB_7.out.mono (by omega)) rB).mono ?_
  rintro e v8 ⟨g8, rfl, _, _, hfr, hb⟩
  have z8 := hb.size
  have HN8 := Lib.hid hfr
  have HVA_8 := Lib.hid (HVA_7.out.keep fun p _ hp => hb.cell (by omega))
  have HEA_8 := Lib.hid (HEA_7.out.keep fun p _ hp => hb.cell (by omega))
  have HB_8 := Lib.hid (HB_7.out.keep fun p _ hp => hb.cell (by omega))
  have Hbel_8 := Lib.hid (Hbel_7.out.trans (hb.mono (by omega)))
  have HBA_8 := Lib.hid (HBA_7.out.below hb (by omega))
  have HX0_8 := Lib.hid (HX0_7.out.keep fun p hp hq => ⟨hb.cell (by omega), hb.frozen (by omega)⟩)
  have HX0b_8 := Lib.hid (HNb7.out.below hb (by omega))
  clear HVA_7 HEA_7 HB_7 Hbel_7 HBA_7 HX0_7 HNb7
  clear hb hfr
  have qX0b_0 := HX0b_8.out 0 (by simp)
  have qX0b_1 := HX0b_8.out 1 (by simp)
  simp only [List.getElem_cons_succ, List.getElem_cons_zero] at qX0b_0 qX0b_1
  have lqX0b : v6.heap.size < v8.heap.size := by omega
  go_wp2_with fail
  refine (implValueOf_any (some ⟨gv6, 0, none⟩) vec vec.length (some ⟨ge6, 0, none⟩) es es.length (some ⟨g8, 0, none⟩) l l.length v8 ((HX0_8.out.vecIn.ints.low (Nat.zero_le _)).mono (by omega)) ((HX0_8.out.ensIn.ens.low (Nat.zero_le _)).mono (by omega)) hvlA helA hblA ((HN8.out.bytes.low (Nat.zero_le _)).mono (by omega)) rB).mono ?_
  rintro e v9 ⟨rfl, hb⟩
  have z9 := hb.size
  have HVA_9 := Lib.hid (HVA_8.out.keep fun p _ hp => hb.cell (by omega))
  have HEA_9 := Lib.hid (HEA_8.out.keep fun p _ hp => hb.cell (by omega))
  have HB_9 := Lib.hid (HB_8.out.keep fun p _ hp => hb.cell (by omega))
  have Hbel_9 := Lib.hid (Hbel_8.out.trans (hb.mono (by omega)))
  have HBA_9 := Lib.hid (HBA_8.out.below hb (by omega))
  have HX0_9 := Lib.hid (HX0_8.out.keep fun p hp hq => ⟨hb.cell (by omega), hb.frozen (by omega)⟩)
  have HX0b_9 := Lib.hid (HX0b_8.out.below hb (by omega))
  have HX1_9 := Lib.hid (HN8.out.keep fun p hp hq => ⟨hb.cell (by omega), hb.frozen (by omega)⟩)
  clear qX0b_0 qX0b_1 lqX0b
  clear HVA_8 HEA_8 HB_8 Hbel_8 HBA_8 HX0_8 HX0b_8 HN8
  clear hb
  have hcmp : ((valI vec es l) != (valI vec es l)) = false := by simp
  have hcmp : ((valK vec es l) != (valK vec es l)) = false := by simp
  have qX0b_0 := HX0b_9.out 0 (by simp)
  have qX0b_1 := HX0b_9.out 1 (by simp)
  have qBA_0 := HBA_9.out 0 (by simp)
  have qBA_1 := HBA_9.out 1 (by simp)
  simp only [List.getElem_cons_succ, List.getElem_cons_zero] at qX0b_0 qX0b_1 qBA_0 qBA_1
  have lqX0b : v6.heap.size < v9.heap.size := by omega
  have lqBA : w.heap.size < v9.heap.size := by omega
  go_wp2_with fail
  go_region_held3 (fun X => X.cell? ⟨v6.heap.size, 0, none⟩ = some (.slice (some ⟨gv6, 0, none⟩) vec.length vec.length) ∧ X.cell? ⟨v6.heap.size, 1, none⟩ = some (.slice (some ⟨ge6, 0, none⟩) es.length es.length) ∧ X.cell? ⟨w.heap.size, 0, none⟩ = some (.slice AV vec.length cv) ∧ X.cell? ⟨w.heap.size, 1, none⟩ = some (.slice A es.length c))
    (first | exact ⟨qX0b_0, qX0b_1, qBA_0, qBA_1⟩ | exact ⟨s0, s1, s2, s3⟩ | exact ⟨t0, t1, t2, t3⟩)
    (first
      | (go_at_call 31
         refine (toTree_own AV vec cv A es c _ ((HVA_9.out.keep fun p _ hp => ?_).mono ?_) ((HEA_9.out.keep fun p _ hp => ?_).mono ?_) hvlA helA hblA).mono ?_
         · rfl
         · show w.heap.size ≤ v9.heap.size; omega
         · rfl
         · show w.heap.size ≤ v9.heap.size; omega
         rintro e wy ⟨gvy, gey, rfl, _, howny, hby⟩
         have hbsy : Below v9.heap.size v9 wy := by first | exact hby | exact (Below.refl v9.heap.size v9).drew.trans hby
         have s0 := (hbsy.cell (p := ⟨v6.heap.size, 0, none⟩) (by show v6.heap.size < v9.heap.size; omega)).trans qX0b_0
         have s1 := (hbsy.cell (p := ⟨v6.heap.size, 1, none⟩) (by show v6.heap.size < v9.heap.size; omega)).trans qX0b_1
         have s2 := (hbsy.cell (p := ⟨w.heap.size, 0, none⟩) (by show w.heap.size < v9.heap.size; omega)).trans qBA_0
         have s3 := (hbsy.cell (p := ⟨w.heap.size, 1, none⟩) (by show w.heap.size < v9.heap.size; omega)).trans qBA_1
         have hzy := hbsy.size
         have HTy := Lib.hid (show TrOwn wy v9.heap.size wy.heap.size _ vec _ es from howny)
         have HBy := Lib.hid hbsy
         clear howny hby hbsy)
      | (go_at_call 33
         refine (eqTree_same (some ⟨gv6, 0, none⟩) _ (some ⟨ge6, 0, none⟩) _ vec es vec.length _ es.length _ v5.heap.size v9.heap.size v6.heap.size wy.heap.size _ (HX0_9.out.keep fun p hp hq => ⟨HBy.out.cell (by omega), HBy.out.frozen (by omega)⟩) HTy.out ?_ ?_ hvlA helA hblA).mono ?_
         · show v6.heap.size ≤ wy.heap.size; omega
         · exact Nat.le_refl _
         rintro e wz ⟨rfl, hbz⟩
         have hbyz : Below wy.heap.size wy wz := by first | exact hbz | exact (Below.refl wy.heap.size wy).drew.trans hbz
         have t0 := (hbyz.cell (p := ⟨v6.heap.size, 0, none⟩) (by show v6.heap.size < wy.heap.size; omega)).trans s0
         have t1 := (hbyz.cell (p := ⟨v6.heap.size, 1, none⟩) (by show v6.heap.size < wy.heap.size; omega)).trans s1
         have t2 := (hbyz.cell (p := ⟨w.heap.size, 0, none⟩) (by show w.heap.size < wy.heap.size; omega)).trans s2
         have t3 := (hbyz.cell (p := ⟨w.heap.size, 1, none⟩) (by show w.heap.size < wy.heap.size; omega)).trans s3
         have HBz := Lib.hid (HBy.out.trans (hbyz.mono (by omega)))
         have hzz : v9.heap.size ≤ wz.heap.size := Nat.le_trans hzy hbyz.size
         clear hbz hbyz))
  obtain ⟨v10, hv10⟩ : ∃ x, x = wz := ⟨_, rfl⟩
  rw [← hv10]
  have hb : Below v9.heap.size v9 v10 := hv10 ▸ HBz.out
  have z10 := hb.size
  clear HBy HTy HBz hzy hzz s0 s1 s2 s3 t0 t1 t2 t3 qX0b_0 qX0b_1 qBA_0 qBA_1 lqX0b lqBA
  have HVA_10 := Lib.hid (HVA_9.out.keep fun p _ hp => hb.cell (by omega))
  have HEA_10 := Lib.hid (HEA_9.out.keep fun p _ hp => hb.cell (by omega))
  have HB_10 := Lib.hid (HB_9.out.keep fun p _ hp => hb.cell (by omega))
  have Hbel_10 := Lib.hid (Hbel_9.out.trans (hb.mono (by omega)))
  have HBA_10 := Lib.hid (HBA_9.out.below hb (by omega))
  have HX0_10 := Lib.hid (HX0_9.out.keep fun p hp hq => ⟨hb.cell (by omega), hb.frozen (by omega)⟩)
  have HX0b_10 := Lib.hid (HX0b_9.out.below hb (by omega))
  have HX1_10 := Lib.hid (HX1_9.out.keep fun p hp hq => ⟨hb.cell (by omega), hb.frozen (by omega)⟩)
  clear HVA_9 HEA_9 HB_9 Hbel_9 HBA_9 HX0_9 HX0b_9 HX1_9
  clear hb hv10
  go_wp2_with fail
  refine (toByteS_nf B l cb v10 (HB_10.out.mono (by omega)) rB).mono ?_
  rintro e v11 ⟨g11, rfl, _, _, hfr, hb⟩
  have z11 := hb.size
  have HN11 := Lib.hid hfr
  have HVA_11 := Lib.hid (HVA_10.out.keep fun p _ hp => hb.cell (by omega))
  have HEA_11 := Lib.hid (HEA_10.out.keep fun p _ hp => hb.cell (by omega))
  have HB_11 := Lib.hid (HB_10.out.keep fun p _ hp => hb.cell (by omega))
  have Hbel_11 := Lib.hid (Hbel_10.out.trans (hb.mono (by omega)))
  have HBA_11 := Lib.hid (HBA_10.out.below hb (by omega))
  have HX0_11 := Lib.hid (HX0_10.out.keep fun p hp hq => ⟨hb.cell (by omega), hb.frozen (by omega)⟩)
  have HX0b_11 := Lib.hid (HX0b_10.out.below hb (by omega))
  have HX1_11 := Lib.hid (HX1_10.out.keep fun p hp hq => ⟨hb.cell (by omega), hb.frozen (by omega)⟩)
  clear HVA_10 HEA_10 HB_10 Hbel_10 HBA_10 HX0_10 HX0b_10 HX1_10
  clear hb hfr
  go_wp2_with fail
  refine (eqByteS_fr (some ⟨g8, 0, none⟩) (some ⟨g11, 0, none⟩) l l.length l.length v7.heap.size v10.heap.size v8.heap.size v11.heap.size v11 HX1_11.out HN11.out rB).mono ?_
  rintro e v12 ⟨rfl, hb⟩
  have z12 := hb.size
  have HVA_12 := Lib.hid (HVA_11.out.keep fun p _ hp => hb.cell (by omega))
  have HEA_12 := Lib.hid (HEA_11.out.keep fun p _ hp => hb.cell (by omega))
  have HB_12 := Lib.hid (HB_11.out.keep fun p _ hp => hb.cell (by omega))
  have Hbel_12 := Lib.hid (Hbel_11.out.trans (hb.mono (by omega)))
  have HBA_12 := Lib.hid (HBA_11.out.below hb (by omega))
  have HX0_12 := Lib.hid (HX0_11.out.keep fun p hp hq => ⟨hb.cell (by omega), hb.frozen (by omega)⟩)
  have HX0b_12 := Lib.hid (HX0b_11.out.below hb (by omega))
  have HX1_12 := Lib.hid (HX1_11.out.keep fun p hp hq => ⟨hb.cell (by omega), hb.frozen (by omega)⟩)
  clear HVA_11 HEA_11 HB_11 Hbel_11 HBA_11 HX0_11 HX0b_11 HX1_11 HN11
  clear hb
  go_wp2_with fail
  go_ret
  exact ⟨rfl, Hbel_12.out⟩

end Go.Proofs.Ytnejbggbkjgfeaa
