/-
  The law on VecUp, walked: it answers true, and turns nothing that was there.
-/
import Derived.Test.YtnejbggbkjgfeaaVecS
import Derived.Test.YtnejbggbkjgfeaaFlat
namespace Go.Proofs.Ytnejbggbkjgfeaa
open Go.RowKit Go.Maps

set_option maxRecDepth 100000 in
set_option maxHeartbeats 4000000 in
theorem lawVecUp_any (A : Option Addr) (l : List Int) (c : Nat) (A2 : Option Addr) (m : List Int) (c2 : Nat) (w : World) (hA : IntsIn w 0 w.heap.size A l) (nA : l.length ≤ 9223372036854775807) (hA2 : IntsIn w 0 w.heap.size A2 m) (nA2 : m.length ≤ 9223372036854775807) :
    Calls Try.prog 5 #[.slice A l.length c, .slice A2 m.length c2] w fun e w' => e = .returned (.bool true) ∧ Below w.heap.size w w' := by
  have HA := Lib.hid hA
  have HA2 := Lib.hid hA2
  have HBel := Lib.hid (Below.refl w.heap.size w)
  clear hA hA2
  go_enter Try.func5, Try.ntmps5
  by_cases qA : (1048576 : Int) < l.length
  · go_wp2_with fail
    go_ret
    exact ⟨rfl, HBel.out⟩
  have rA : l.length ≤ 1048576 := by omega
  by_cases qA2 : (1048576 : Int) < m.length
  · go_wp2_with fail
    go_ret
    exact ⟨rfl, HBel.out⟩
  have rA2 : m.length ≤ 1048576 := by omega
  go_wp2_with fail
  refine (toIntS_fr A l c w (HA.out.mono (by omega)) rA).mono ?_
  rintro e v1 ⟨g1, rfl, hg1, hg1', hfr, hb⟩
  have z1 := hb.size
  have HN1 := Lib.hid hfr
  have HA_1 := Lib.hid (HA.out.keep fun p _ hp => hb.cell (by omega))
  have HA2_1 := Lib.hid (HA2.out.keep fun p _ hp => hb.cell (by omega))
  have Hbel_1 := Lib.hid (HBel.out.trans (hb.mono (by omega)))
  clear HA HA2 HBel
  clear hb hfr
  go_wp2_with fail
  refine (toIntS_fr A2 m c2 v1 (HA2_1.out.mono (by omega)) rA2).mono ?_
  rintro e v2 ⟨g2, rfl, hg2, hg2', hfr, hb⟩
  have z2 := hb.size
  have HN2 := Lib.hid hfr
  have HA_2 := Lib.hid (HA_1.out.keep fun p _ hp => hb.cell (by omega))
  have HA2_2 := Lib.hid (HA2_1.out.keep fun p _ hp => hb.cell (by omega))
  have Hbel_2 := Lib.hid (Hbel_1.out.trans (hb.mono (by omega)))
  have HM0_2 := Lib.hid (HN1.out.keep fun p _ hp => ⟨hb.cell (by omega), hb.frozen (by omega)⟩)
  clear HA_1 HA2_1 Hbel_1 HN1
  clear hb hfr
  go_wp2_with fail
  refine (specVecUp_any (some ⟨g1, 0, none⟩) (some ⟨g2, 0, none⟩) l m l.length m.length v2 ((HM0_2.out.ints.low (Nat.zero_le _)).mono (by omega)) ((HN2.out.ints.low (Nat.zero_le _)).mono (by omega)) (by omega) (by omega)).mono ?_
  rintro e v3 ⟨A3, c3, rfl, hfr, hb⟩
  have z3 := hb.size
  have HN3 := Lib.hid hfr
  have HA_3 := Lib.hid (HA_2.out.keep fun p _ hp => hb.cell (by omega))
  have HA2_3 := Lib.hid (HA2_2.out.keep fun p _ hp => hb.cell (by omega))
  have Hbel_3 := Lib.hid (Hbel_2.out.trans (hb.mono (by omega)))
  have HM0_3 := Lib.hid (HM0_2.out.keep fun p _ hp => ⟨hb.cell (by omega), hb.frozen (by omega)⟩)
  have HM1_3 := Lib.hid (HN2.out.keep fun p _ hp => ⟨hb.cell (by omega), hb.frozen (by omega)⟩)
  clear HA_2 HA2_2 Hbel_2 HM0_2 HN2
  clear hb hfr
  clear HM0_3 HM1_3
  go_wp2_with fail
  refine (toIntS_fr A l c v3 (HA_3.out.mono (by omega)) rA).mono ?_
  rintro e v4 ⟨g4, rfl, hg4, hg4', hfr, hb⟩
  have z4 := hb.size
  have HN4 := Lib.hid hfr
  have HA_4 := Lib.hid (HA_3.out.keep fun p _ hp => hb.cell (by omega))
  have HA2_4 := Lib.hid (HA2_3.out.keep fun p _ hp => hb.cell (by omega))
  have Hbel_4 := Lib.hid (Hbel_3.out.trans (hb.mono (by omega)))
  have HS_4 := Lib.hid (HN3.out.keep fun p _ hp => ⟨hb.cell (by omega), hb.frozen (by omega)⟩)
  clear HA_3 HA2_3 Hbel_3 HN3
  clear hb hfr
  go_wp2_with fail
  refine (toIntS_fr A2 m c2 v4 (HA2_4.out.mono (by omega)) rA2).mono ?_
  rintro e v5 ⟨g5, rfl, hg5, hg5', hfr, hb⟩
  have z5 := hb.size
  have HN5 := Lib.hid hfr
  have HA_5 := Lib.hid (HA_4.out.keep fun p _ hp => hb.cell (by omega))
  have HA2_5 := Lib.hid (HA2_4.out.keep fun p _ hp => hb.cell (by omega))
  have Hbel_5 := Lib.hid (Hbel_4.out.trans (hb.mono (by omega)))
  have HS_5 := Lib.hid (HS_4.out.keep fun p _ hp => ⟨hb.cell (by omega), hb.frozen (by omega)⟩)
  have HX0_5 := Lib.hid (HN4.out.keep fun p _ hp => ⟨hb.cell (by omega), hb.frozen (by omega)⟩)
  clear HA_4 HA2_4 Hbel_4 HS_4 HN4
  clear hb hfr
  go_wp2_with fail
  refine (implVecUp_any (some ⟨g4, 0, none⟩) (some ⟨g5, 0, none⟩) l m l.length m.length v5 ((HX0_5.out.ints.low (Nat.zero_le _)).mono (by omega)) ((HN5.out.ints.low (Nat.zero_le _)).mono (by omega)) ).mono ?_
  rintro e v6 ⟨A6, c6, rfl, hfr, hb⟩
  have z6 := hb.size
  have HN6 := Lib.hid hfr
  have HA_6 := Lib.hid (HA_5.out.keep fun p _ hp => hb.cell (by omega))
  have HA2_6 := Lib.hid (HA2_5.out.keep fun p _ hp => hb.cell (by omega))
  have Hbel_6 := Lib.hid (Hbel_5.out.trans (hb.mono (by omega)))
  have HS_6 := Lib.hid (HS_5.out.keep fun p _ hp => ⟨hb.cell (by omega), hb.frozen (by omega)⟩)
  have HX0_6 := Lib.hid (HX0_5.out.keep fun p _ hp => ⟨hb.cell (by omega), hb.frozen (by omega)⟩)
  have HX1_6 := Lib.hid (HN5.out.keep fun p _ hp => ⟨hb.cell (by omega), hb.frozen (by omega)⟩)
  clear HA_5 HA2_5 Hbel_5 HS_5 HX0_5 HN5
  clear hb hfr
  go_wp2_with fail
  refine (eqIntS_same A6 A3 (upV l m) c6 c3 v5.heap.size v2.heap.size v6.heap.size v3.heap.size v6 HN6.out HS_6.out (Nat.le_trans (upV_length l m) (by omega))).mono ?_
  rintro e v7 ⟨rfl, hb⟩
  have z7 := hb.size
  have HA_7 := Lib.hid (HA_6.out.keep fun p _ hp => hb.cell (by omega))
  have HA2_7 := Lib.hid (HA2_6.out.keep fun p _ hp => hb.cell (by omega))
  have Hbel_7 := Lib.hid (Hbel_6.out.trans (hb.mono (by omega)))
  have HS_7 := Lib.hid (HS_6.out.keep fun p _ hp => ⟨hb.cell (by omega), hb.frozen (by omega)⟩)
  have HX0_7 := Lib.hid (HX0_6.out.keep fun p _ hp => ⟨hb.cell (by omega), hb.frozen (by omega)⟩)
  have HX1_7 := Lib.hid (HX1_6.out.keep fun p _ hp => ⟨hb.cell (by omega), hb.frozen (by omega)⟩)
  have HR_7 := Lib.hid (HN6.out.keep fun p _ hp => ⟨hb.cell (by omega), hb.frozen (by omega)⟩)
  clear HA_6 HA2_6 Hbel_6 HS_6 HX0_6 HX1_6 HN6
  clear hb
  go_wp2_with fail
  refine (toIntS_fr A l c v7 (HA_7.out.mono (by omega)) rA).mono ?_
  rintro e v8 ⟨g8, rfl, hg8, hg8', hfr, hb⟩
  have z8 := hb.size
  have HN8 := Lib.hid hfr
  have HA_8 := Lib.hid (HA_7.out.keep fun p _ hp => hb.cell (by omega))
  have HA2_8 := Lib.hid (HA2_7.out.keep fun p _ hp => hb.cell (by omega))
  have Hbel_8 := Lib.hid (Hbel_7.out.trans (hb.mono (by omega)))
  have HS_8 := Lib.hid (HS_7.out.keep fun p _ hp => ⟨hb.cell (by omega), hb.frozen (by omega)⟩)
  have HX0_8 := Lib.hid (HX0_7.out.keep fun p _ hp => ⟨hb.cell (by omega), hb.frozen (by omega)⟩)
  have HX1_8 := Lib.hid (HX1_7.out.keep fun p _ hp => ⟨hb.cell (by omega), hb.frozen (by omega)⟩)
  have HR_8 := Lib.hid (HR_7.out.keep fun p _ hp => ⟨hb.cell (by omega), hb.frozen (by omega)⟩)
  clear HA_7 HA2_7 Hbel_7 HS_7 HX0_7 HX1_7 HR_7
  clear hb hfr
  go_wp2_with fail
  refine (eqIntS_same (some ⟨g4, 0, none⟩) (some ⟨g8, 0, none⟩) l l.length l.length v3.heap.size v7.heap.size v4.heap.size v8.heap.size v8 HX0_8.out HN8.out (by omega)).mono ?_
  rintro e v9 ⟨rfl, hb⟩
  have z9 := hb.size
  have HA_9 := Lib.hid (HA_8.out.keep fun p _ hp => hb.cell (by omega))
  have HA2_9 := Lib.hid (HA2_8.out.keep fun p _ hp => hb.cell (by omega))
  have Hbel_9 := Lib.hid (Hbel_8.out.trans (hb.mono (by omega)))
  have HS_9 := Lib.hid (HS_8.out.keep fun p _ hp => ⟨hb.cell (by omega), hb.frozen (by omega)⟩)
  have HX0_9 := Lib.hid (HX0_8.out.keep fun p _ hp => ⟨hb.cell (by omega), hb.frozen (by omega)⟩)
  have HX1_9 := Lib.hid (HX1_8.out.keep fun p _ hp => ⟨hb.cell (by omega), hb.frozen (by omega)⟩)
  have HR_9 := Lib.hid (HR_8.out.keep fun p _ hp => ⟨hb.cell (by omega), hb.frozen (by omega)⟩)
  clear HA_8 HA2_8 Hbel_8 HS_8 HX0_8 HX1_8 HR_8 HN8
  clear hb
  go_wp2_with fail
  refine (toIntS_fr A2 m c2 v9 (HA2_9.out.mono (by omega)) rA2).mono ?_
  rintro e v10 ⟨g10, rfl, hg10, hg10', hfr, hb⟩
  have z10 := hb.size
  have HN10 := Lib.hid hfr
  have HA_10 := Lib.hid (HA_9.out.keep fun p _ hp => hb.cell (by omega))
  have HA2_10 := Lib.hid (HA2_9.out.keep fun p _ hp => hb.cell (by omega))
  have Hbel_10 := Lib.hid (Hbel_9.out.trans (hb.mono (by omega)))
  have HS_10 := Lib.hid (HS_9.out.keep fun p _ hp => ⟨hb.cell (by omega), hb.frozen (by omega)⟩)
  have HX0_10 := Lib.hid (HX0_9.out.keep fun p _ hp => ⟨hb.cell (by omega), hb.frozen (by omega)⟩)
  have HX1_10 := Lib.hid (HX1_9.out.keep fun p _ hp => ⟨hb.cell (by omega), hb.frozen (by omega)⟩)
  have HR_10 := Lib.hid (HR_9.out.keep fun p _ hp => ⟨hb.cell (by omega), hb.frozen (by omega)⟩)
  clear HA_9 HA2_9 Hbel_9 HS_9 HX0_9 HX1_9 HR_9
  clear hb hfr
  go_wp2_with fail
  refine (eqIntS_same (some ⟨g5, 0, none⟩) (some ⟨g10, 0, none⟩) m m.length m.length v4.heap.size v9.heap.size v5.heap.size v10.heap.size v10 HX1_10.out HN10.out (by omega)).mono ?_
  rintro e v11 ⟨rfl, hb⟩
  have z11 := hb.size
  have HA_11 := Lib.hid (HA_10.out.keep fun p _ hp => hb.cell (by omega))
  have HA2_11 := Lib.hid (HA2_10.out.keep fun p _ hp => hb.cell (by omega))
  have Hbel_11 := Lib.hid (Hbel_10.out.trans (hb.mono (by omega)))
  have HS_11 := Lib.hid (HS_10.out.keep fun p _ hp => ⟨hb.cell (by omega), hb.frozen (by omega)⟩)
  have HX0_11 := Lib.hid (HX0_10.out.keep fun p _ hp => ⟨hb.cell (by omega), hb.frozen (by omega)⟩)
  have HX1_11 := Lib.hid (HX1_10.out.keep fun p _ hp => ⟨hb.cell (by omega), hb.frozen (by omega)⟩)
  have HR_11 := Lib.hid (HR_10.out.keep fun p _ hp => ⟨hb.cell (by omega), hb.frozen (by omega)⟩)
  clear HA_10 HA2_10 Hbel_10 HS_10 HX0_10 HX1_10 HR_10 HN10
  clear hb
  go_wp2_with fail
  refine (markIntS_any (some ⟨g4, 0, none⟩) l l.length v3.heap.size v4.heap.size (1) v11 HX0_11.out (by omega) (by omega) (by omega)).mono ?_
  rintro e v12 ⟨rfl, _, hin⟩
  have z12 := hin.below.size
  have HA_12 := Lib.hid (HA_11.out.keep fun p _ hp => hin.cell (.inl (by omega)))
  have HA2_12 := Lib.hid (HA2_11.out.keep fun p _ hp => hin.cell (.inl (by omega)))
  have Hbel_12 := Lib.hid (Hbel_11.out.trans (hin.below.mono (by omega)))
  have HS_12 := Lib.hid (HS_11.out.keep fun p _ hp => ⟨hin.cell (.inl (by omega)), hin.frozen p (by omega)⟩)
  have HX1_12 := Lib.hid (HX1_11.out.keep fun p hp hpB => ⟨hin.cell (.inr ⟨by omega, by omega⟩), hin.frozen p (by omega)⟩)
  have HR_12 := Lib.hid (HR_11.out.keep fun p hp hpB => ⟨hin.cell (.inr ⟨by omega, by omega⟩), hin.frozen p (by omega)⟩)
  clear HA_11 HA2_11 Hbel_11 HS_11 HX0_11 HX1_11 HR_11
  clear hin
  go_wp2_with fail
  refine (markIntS_any (some ⟨g5, 0, none⟩) m m.length v4.heap.size v5.heap.size (1 + (l.length : Int)) v12 HX1_12.out (by omega) (by omega) (by omega)).mono ?_
  rintro e v13 ⟨rfl, _, hin⟩
  have z13 := hin.below.size
  have HA_13 := Lib.hid (HA_12.out.keep fun p _ hp => hin.cell (.inl (by omega)))
  have HA2_13 := Lib.hid (HA2_12.out.keep fun p _ hp => hin.cell (.inl (by omega)))
  have Hbel_13 := Lib.hid (Hbel_12.out.trans (hin.below.mono (by omega)))
  have HS_13 := Lib.hid (HS_12.out.keep fun p _ hp => ⟨hin.cell (.inl (by omega)), hin.frozen p (by omega)⟩)
  have HR_13 := Lib.hid (HR_12.out.keep fun p hp hpB => ⟨hin.cell (.inr ⟨by omega, by omega⟩), hin.frozen p (by omega)⟩)
  clear HA_12 HA2_12 Hbel_12 HS_12 HX1_12 HR_12
  clear hin
  have hk0 : 0 ≤ 1 + (l.length : Int) + (m.length : Int) := by omega
  go_wp2_with fail
  refine (eqIntS_same A6 A3 (upV l m) c6 c3 v5.heap.size v2.heap.size v6.heap.size v3.heap.size v13 HR_13.out HS_13.out (Nat.le_trans (upV_length l m) (by omega))).mono ?_
  rintro e v14 ⟨rfl, hb⟩
  have z14 := hb.size
  have HA_14 := Lib.hid (HA_13.out.keep fun p _ hp => hb.cell (by omega))
  have HA2_14 := Lib.hid (HA2_13.out.keep fun p _ hp => hb.cell (by omega))
  have Hbel_14 := Lib.hid (Hbel_13.out.trans (hb.mono (by omega)))
  have HS_14 := Lib.hid (HS_13.out.keep fun p _ hp => ⟨hb.cell (by omega), hb.frozen (by omega)⟩)
  have HR_14 := Lib.hid (HR_13.out.keep fun p _ hp => ⟨hb.cell (by omega), hb.frozen (by omega)⟩)
  clear HA_13 HA2_13 Hbel_13 HS_13 HR_13
  clear hb
  clear hk0
  have hlen : (upV l m).length ≤ 4 := upV_length l m
  go_wp2_with fail
  refine (markIntS_any A6 (upV l m) c6 v5.heap.size v6.heap.size 1 v14 HR_14.out (by omega) (by omega) (by omega)).mono ?_
  rintro e v15 ⟨rfl, hmk, hin⟩
  have z15 := hin.below.size
  have HMk := Lib.hid hmk
  have HA_15 := Lib.hid (HA_14.out.keep fun p _ hp => hin.cell (.inl (by omega)))
  have HA2_15 := Lib.hid (HA2_14.out.keep fun p _ hp => hin.cell (.inl (by omega)))
  have Hbel_15 := Lib.hid (Hbel_14.out.trans (hin.below.mono (by omega)))
  have HS_15 := Lib.hid (HS_14.out.keep fun p _ hp => ⟨hin.cell (.inl (by omega)), hin.frozen p (by omega)⟩)
  clear HA_14 HA2_14 Hbel_14 HS_14 HR_14
  clear hin hmk
  go_wp2_with fail
  refine (heldIntS_any A6 (upV l m).length c6 v5.heap.size v6.heap.size 1 v15 HMk.out (by omega) (by omega) (by omega)).mono ?_
  rintro e v16 ⟨rfl, hw⟩
  obtain rfl := hw
  have hq0 : (0 : Int) ≤ 1 + ((upV l m).length : Int) := by omega
  have hq1 : ((1 + ((upV l m).length : Int)) != 1 + ((upV l m).length : Int)) = false := by simp
  go_wp2_with fail
  refine (toIntS_fr A l c v15 (HA_15.out.mono (by omega)) rA).mono ?_
  rintro e v17 ⟨g17, rfl, hg17, hg17', hfr, hb⟩
  have z17 := hb.size
  have HN17 := Lib.hid hfr
  have HA_17 := Lib.hid (HA_15.out.keep fun p _ hp => hb.cell (by omega))
  have HA2_17 := Lib.hid (HA2_15.out.keep fun p _ hp => hb.cell (by omega))
  have Hbel_17 := Lib.hid (Hbel_15.out.trans (hb.mono (by omega)))
  have HS_17 := Lib.hid (HS_15.out.keep fun p _ hp => ⟨hb.cell (by omega), hb.frozen (by omega)⟩)
  have HQ_17 := Lib.hid (HMk.out.keep fun p _ hp => ⟨hb.cell (by omega), hb.frozen (by omega)⟩)
  clear HA_15 HA2_15 Hbel_15 HS_15 HMk
  clear hb hfr
  go_wp2_with fail
  refine (toIntS_fr A2 m c2 v17 (HA2_17.out.mono (by omega)) rA2).mono ?_
  rintro e v18 ⟨g18, rfl, hg18, hg18', hfr, hb⟩
  have z18 := hb.size
  have HN18 := Lib.hid hfr
  have HA_18 := Lib.hid (HA_17.out.keep fun p _ hp => hb.cell (by omega))
  have HA2_18 := Lib.hid (HA2_17.out.keep fun p _ hp => hb.cell (by omega))
  have Hbel_18 := Lib.hid (Hbel_17.out.trans (hb.mono (by omega)))
  have HS_18 := Lib.hid (HS_17.out.keep fun p _ hp => ⟨hb.cell (by omega), hb.frozen (by omega)⟩)
  have HQ_18 := Lib.hid (HQ_17.out.keep fun p _ hp => ⟨hb.cell (by omega), hb.frozen (by omega)⟩)
  have HU0_18 := Lib.hid (HN17.out.keep fun p _ hp => ⟨hb.cell (by omega), hb.frozen (by omega)⟩)
  clear HA_17 HA2_17 Hbel_17 HS_17 HQ_17 HN17
  clear hb hfr
  go_wp2_with fail
  refine (implVecUp_any (some ⟨g17, 0, none⟩) (some ⟨g18, 0, none⟩) l m l.length m.length v18 ((HU0_18.out.ints.low (Nat.zero_le _)).mono (by omega)) ((HN18.out.ints.low (Nat.zero_le _)).mono (by omega)) ).mono ?_
  rintro e v19 ⟨A19, c19, rfl, hfr, hb⟩
  have z19 := hb.size
  have HN19 := Lib.hid hfr
  have HA_19 := Lib.hid (HA_18.out.keep fun p _ hp => hb.cell (by omega))
  have HA2_19 := Lib.hid (HA2_18.out.keep fun p _ hp => hb.cell (by omega))
  have Hbel_19 := Lib.hid (Hbel_18.out.trans (hb.mono (by omega)))
  have HS_19 := Lib.hid (HS_18.out.keep fun p _ hp => ⟨hb.cell (by omega), hb.frozen (by omega)⟩)
  have HQ_19 := Lib.hid (HQ_18.out.keep fun p _ hp => ⟨hb.cell (by omega), hb.frozen (by omega)⟩)
  have HU0_19 := Lib.hid (HU0_18.out.keep fun p _ hp => ⟨hb.cell (by omega), hb.frozen (by omega)⟩)
  have HU1_19 := Lib.hid (HN18.out.keep fun p _ hp => ⟨hb.cell (by omega), hb.frozen (by omega)⟩)
  clear HA_18 HA2_18 Hbel_18 HS_18 HQ_18 HU0_18 HN18
  clear hb hfr
  go_wp2_with fail
  refine (eqIntS_same A19 A3 (upV l m) c19 c3 v18.heap.size v2.heap.size v19.heap.size v3.heap.size v19 HN19.out HS_19.out (Nat.le_trans (upV_length l m) (by omega))).mono ?_
  rintro e v20 ⟨rfl, hb⟩
  have z20 := hb.size
  have HA_20 := Lib.hid (HA_19.out.keep fun p _ hp => hb.cell (by omega))
  have HA2_20 := Lib.hid (HA2_19.out.keep fun p _ hp => hb.cell (by omega))
  have Hbel_20 := Lib.hid (Hbel_19.out.trans (hb.mono (by omega)))
  have HQ_20 := Lib.hid (HQ_19.out.keep fun p _ hp => ⟨hb.cell (by omega), hb.frozen (by omega)⟩)
  have HU0_20 := Lib.hid (HU0_19.out.keep fun p _ hp => ⟨hb.cell (by omega), hb.frozen (by omega)⟩)
  have HU1_20 := Lib.hid (HU1_19.out.keep fun p _ hp => ⟨hb.cell (by omega), hb.frozen (by omega)⟩)
  clear HA_19 HA2_19 Hbel_19 HS_19 HQ_19 HU0_19 HU1_19 HN19
  clear hb
  go_wp2_with fail
  refine (heldIntS_any A6 (upV l m).length c6 v5.heap.size v6.heap.size 1 v20 HQ_20.out (by omega) (by omega) (by omega)).mono ?_
  rintro e v21 ⟨rfl, hw⟩
  obtain rfl := hw
  go_wp2_with fail
  go_ret
  exact ⟨rfl, Hbel_20.out⟩

end Go.Proofs.Ytnejbggbkjgfeaa
