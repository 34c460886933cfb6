/-
  The law on VecBelow, walked: it answers true, and turns nothing that was there.
-/
import Derived.Test.YtnejbggbkjgfeaaVecS
import Derived.Test.YtnejbggbkjgfeaaFlat
namespace Go.Proofs.Ytnejbggbkjgfeaa
open Go.RowKit Go.Maps

set_option maxRecDepth 100000 in
set_option maxHeartbeats 4000000 in
theorem lawVecBelow_any (A : Option Addr) (l : List Int) (c : Nat) (A2 : Option Addr) (m : List Int) (c2 : Nat) (w : World) (hA : IntsIn w 0 w.heap.size A l) (nA : l.length ≤ 9223372036854775807) (hA2 : IntsIn w 0 w.heap.size A2 m) (nA2 : m.length ≤ 9223372036854775807) :
    Calls Try.prog 6 #[.slice A l.length c, .slice A2 m.length c2] w fun e w' => e = .returned (.bool true) ∧ Below w.heap.size w w' := by
  have HA := Lib.hid hA
  have HA2 := Lib.hid hA2
  have HBel := Lib.hid (Below.refl w.heap.size w)
  clear hA hA2
  go_enter Try.func6, Try.ntmps6
  by_cases qA : (1048576 : Int) < l.length
  · go_wp2_with fail
    go_ret
    exact ⟨rfl, HBel.out⟩
  have rA : l.length ≤ 1048576 := by omega
  by_cases qA2 : (1048576 : Int) < m.length
  · go_wp2_with fail
    go_ret
    exact ⟨rfl, HBel.out⟩
  have rA2 : m.length ≤ 1048576 := by omega
  go_wp2_with fail
  refine (toIntS_fr A l c w (HA.out.mono (by omega)) rA).mono ?_
  rintro e v1 ⟨g1, rfl, hg1, hg1', hfr, hb⟩
  have z1 := hb.size
  have HN1 := Lib.hid hfr
  have HA_1 := Lib.hid (HA.out.keep fun p _ hp => hb.cell (by omega))
  have HA2_1 := Lib.hid (HA2.out.keep fun p _ hp => hb.cell (by omega))
  have Hbel_1 := Lib.hid (HBel.out.trans (hb.mono (by omega)))
  clear HA HA2 HBel
  clear hb hfr
  go_wp2_with fail
  refine (toIntS_fr A2 m c2 v1 (HA2_1.out.mono (by omega)) rA2).mono ?_
  rintro e v2 ⟨g2, rfl, hg2, hg2', hfr, hb⟩
  have z2 := hb.size
  have HN2 := Lib.hid hfr
  have HA_2 := Lib.hid (HA_1.out.keep fun p _ hp => hb.cell (by omega))
  have HA2_2 := Lib.hid (HA2_1.out.keep fun p _ hp => hb.cell (by omega))
  have Hbel_2 := Lib.hid (Hbel_1.out.trans (hb.mono (by omega)))
  have HM0_2 := Lib.hid (HN1.out.keep fun p _ hp => ⟨hb.cell (by omega), hb.frozen (by omega)⟩)
  clear HA_1 HA2_1 Hbel_1 HN1
  clear hb hfr
  go_wp2_with fail
  refine (specVecBelow_any (some ⟨g1, 0, none⟩) (some ⟨g2, 0, none⟩) l m l.length m.length v2 ((HM0_2.out.ints.low (Nat.zero_le _)).mono (by omega)) ((HN2.out.ints.low (Nat.zero_le _)).mono (by omega)) (by omega) (by omega)).mono ?_
  rintro e v3 ⟨rfl, hb⟩
  have z3 := hb.size
  have HA_3 := Lib.hid (HA_2.out.keep fun p _ hp => hb.cell (by omega))
  have HA2_3 := Lib.hid (HA2_2.out.keep fun p _ hp => hb.cell (by omega))
  have Hbel_3 := Lib.hid (Hbel_2.out.trans (hb.mono (by omega)))
  have HM0_3 := Lib.hid (HM0_2.out.keep fun p _ hp => ⟨hb.cell (by omega), hb.frozen (by omega)⟩)
  have HM1_3 := Lib.hid (HN2.out.keep fun p _ hp => ⟨hb.cell (by omega), hb.frozen (by omega)⟩)
  clear HA_2 HA2_2 Hbel_2 HM0_2 HN2
  clear hb
  clear HM0_3 HM1_3
  go_wp2_with fail
  refine (toIntS_fr A l c v3 (HA_3.out.mono (by omega)) rA).mono ?_
  rintro e v4 ⟨g4, rfl, hg4, hg4', hfr, hb⟩
  have z4 := hb.size
  have HN4 := Lib.hid hfr
  have HA_4 := Lib.hid (HA_3.out.keep fun p _ hp => hb.cell (by omega))
  have HA2_4 := Lib.hid (HA2_3.out.keep fun p _ hp => hb.cell (by omega))
  have Hbel_4 := Lib.hid (Hbel_3.out.trans (hb.mono (by omega)))
  clear HA_3 HA2_3 Hbel_3
  clear hb hfr
  go_wp2_with fail
  refine (toIntS_fr A2 m c2 v4 (HA2_4.out.mono (by omega)) rA2).mono ?_
  rintro e v5 ⟨g5, rfl, hg5, hg5', hfr, hb⟩
  have z5 := hb.size
  have HN5 := Lib.hid hfr
  have HA_5 := Lib.hid (HA_4.out.keep fun p _ hp => hb.cell (by omega))
  have HA2_5 := Lib.hid (HA2_4.out.keep fun p _ hp => hb.cell (by omega))
  have Hbel_5 := Lib.hid (Hbel_4.out.trans (hb.mono (by omega)))
  have HX0_5 := Lib.hid (HN4.out.keep fun p _ hp => ⟨hb.cell (by omega), hb.frozen (by omega)⟩)
  clear HA_4 HA2_4 Hbel_4 HN4
  clear hb hfr
  go_wp2_with fail
  refine (implVecBelow_any (some ⟨g4, 0, none⟩) (some ⟨g5, 0, none⟩) l m l.length m.length v5 ((HX0_5.out.ints.low (Nat.zero_le _)).mono (by omega)) ((HN5.out.ints.low (Nat.zero_le _)).mono (by omega)) ).mono ?_
  rintro e v6 ⟨rfl, hb⟩
  have z6 := hb.size
  have HA_6 := Lib.hid (HA_5.out.keep fun p _ hp => hb.cell (by omega))
  have HA2_6 := Lib.hid (HA2_5.out.keep fun p _ hp => hb.cell (by omega))
  have Hbel_6 := Lib.hid (Hbel_5.out.trans (hb.mono (by omega)))
  have HX0_6 := Lib.hid (HX0_5.out.keep fun p _ hp => ⟨hb.cell (by omega), hb.frozen (by omega)⟩)
  have HX1_6 := Lib.hid (HN5.out.keep fun p _ hp => ⟨hb.cell (by omega), hb.frozen (by omega)⟩)
  clear HA_5 HA2_5 Hbel_5 HX0_5 HN5
  clear hb
  have hcmp : ((belowV l m) != (belowV l m)) = false := by simp
  go_wp2_with fail
  refine (toIntS_fr A l c v6 (HA_6.out.mono (by omega)) rA).mono ?_
  rintro e v7 ⟨g7, rfl, hg7, hg7', hfr, hb⟩
  have z7 := hb.size
  have HN7 := Lib.hid hfr
  have HA_7 := Lib.hid (HA_6.out.keep fun p _ hp => hb.cell (by omega))
  have HA2_7 := Lib.hid (HA2_6.out.keep fun p _ hp => hb.cell (by omega))
  have Hbel_7 := Lib.hid (Hbel_6.out.trans (hb.mono (by omega)))
  have HX0_7 := Lib.hid (HX0_6.out.keep fun p _ hp => ⟨hb.cell (by omega), hb.frozen (by omega)⟩)
  have HX1_7 := Lib.hid (HX1_6.out.keep fun p _ hp => ⟨hb.cell (by omega), hb.frozen (by omega)⟩)
  clear HA_6 HA2_6 Hbel_6 HX0_6 HX1_6
  clear hb hfr
  go_wp2_with fail
  refine (eqIntS_same (some ⟨g4, 0, none⟩) (some ⟨g7, 0, none⟩) l l.length l.length v3.heap.size v6.heap.size v4.heap.size v7.heap.size v7 HX0_7.out HN7.out (by omega)).mono ?_
  rintro e v8 ⟨rfl, hb⟩
  have z8 := hb.size
  have HA_8 := Lib.hid (HA_7.out.keep fun p _ hp => hb.cell (by omega))
  have HA2_8 := Lib.hid (HA2_7.out.keep fun p _ hp => hb.cell (by omega))
  have Hbel_8 := Lib.hid (Hbel_7.out.trans (hb.mono (by omega)))
  have HX0_8 := Lib.hid (HX0_7.out.keep fun p _ hp => ⟨hb.cell (by omega), hb.frozen (by omega)⟩)
  have HX1_8 := Lib.hid (HX1_7.out.keep fun p _ hp => ⟨hb.cell (by omega), hb.frozen (by omega)⟩)
  clear HA_7 HA2_7 Hbel_7 HX0_7 HX1_7 HN7
  clear hb
  go_wp2_with fail
  refine (toIntS_fr A2 m c2 v8 (HA2_8.out.mono (by omega)) rA2).mono ?_
  rintro e v9 ⟨g9, rfl, hg9, hg9', hfr, hb⟩
  have z9 := hb.size
  have HN9 := Lib.hid hfr
  have HA_9 := Lib.hid (HA_8.out.keep fun p _ hp => hb.cell (by omega))
  have HA2_9 := Lib.hid (HA2_8.out.keep fun p _ hp => hb.cell (by omega))
  have Hbel_9 := Lib.hid (Hbel_8.out.trans (hb.mono (by omega)))
  have HX0_9 := Lib.hid (HX0_8.out.keep fun p _ hp => ⟨hb.cell (by omega), hb.frozen (by omega)⟩)
  have HX1_9 := Lib.hid (HX1_8.out.keep fun p _ hp => ⟨hb.cell (by omega), hb.frozen (by omega)⟩)
  clear HA_8 HA2_8 Hbel_8 HX0_8 HX1_8
  clear hb hfr
  go_wp2_with fail
  refine (eqIntS_same (some ⟨g5, 0, none⟩) (some ⟨g9, 0, none⟩) m m.length m.length v4.heap.size v8.heap.size v5.heap.size v9.heap.size v9 HX1_9.out HN9.out (by omega)).mono ?_
  rintro e v10 ⟨rfl, hb⟩
  have z10 := hb.size
  have HA_10 := Lib.hid (HA_9.out.keep fun p _ hp => hb.cell (by omega))
  have HA2_10 := Lib.hid (HA2_9.out.keep fun p _ hp => hb.cell (by omega))
  have Hbel_10 := Lib.hid (Hbel_9.out.trans (hb.mono (by omega)))
  have HX0_10 := Lib.hid (HX0_9.out.keep fun p _ hp => ⟨hb.cell (by omega), hb.frozen (by omega)⟩)
  have HX1_10 := Lib.hid (HX1_9.out.keep fun p _ hp => ⟨hb.cell (by omega), hb.frozen (by omega)⟩)
  clear HA_9 HA2_9 Hbel_9 HX0_9 HX1_9 HN9
  clear hb
  go_wp2_with fail
  go_ret
  exact ⟨rfl, Hbel_10.out⟩

end Go.Proofs.Ytnejbggbkjgfeaa
