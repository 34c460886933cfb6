/-
  The law on NameOk, walked: it answers true, and turns nothing that was there.
-/
import Derived.Test.YtnejbggbkjgfeaaNameS
import Derived.Test.YtnejbggbkjgfeaaFlat
namespace Go.Proofs.Ytnejbggbkjgfeaa
open Go.RowKit Go.Maps

set_option maxRecDepth 100000 in
set_option maxHeartbeats 4000000 in
theorem lawNameOk_any (A : Option Addr) (l : List UInt8) (c : Nat) (w : World) (hA : BytesIn w 0 w.heap.size A l) (nA : l.length ≤ 9223372036854775807) :
    Calls Try.prog 3 #[.slice A l.length c] w fun e w' => e = .returned (.bool true) ∧ Below w.heap.size w w' := by
  have HA := Lib.hid hA
  have HBel := Lib.hid (Below.refl w.heap.size w)
  clear hA
  go_enter Try.func3, Try.ntmps3
  by_cases qA : (1048576 : Int) < l.length
  · go_wp2_with fail
    go_ret
    exact ⟨rfl, HBel.out⟩
  have rA : l.length ≤ 1048576 := by omega
  go_wp2_with fail
  refine (toByteS_nf A l c w (HA.out.mono (by omega)) rA).mono ?_
  rintro e v1 ⟨g1, rfl, hg1, hg1', hfr, hb⟩
  have z1 := hb.size
  have HN1 := Lib.hid hfr
  have HA_1 := Lib.hid (HA.out.keep fun p _ hp => hb.cell (by omega))
  have Hbel_1 := Lib.hid (HBel.out.trans (hb.mono (by omega)))
  clear HA HBel
  clear hb hfr
  go_wp2_with fail
  refine (specNameOk_any (some ⟨g1, 0, none⟩) l l.length v1 ((HN1.out.bytes.low (Nat.zero_le _)).mono (by omega)) (by omega)).mono ?_
  rintro e v2 ⟨rfl, hb⟩
  have z2 := hb.size
  have HA_2 := Lib.hid (HA_1.out.keep fun p _ hp => hb.cell (by omega))
  have Hbel_2 := Lib.hid (Hbel_1.out.trans (hb.mono (by omega)))
  have HM0_2 := Lib.hid (HN1.out.keep fun p _ hp => ⟨hb.cell (by omega), hb.frozen (by omega)⟩)
  clear HA_1 Hbel_1 HN1
  clear hb
  clear HM0_2
  go_wp2_with fail
  refine (toByteS_nf A l c v2 (HA_2.out.mono (by omega)) rA).mono ?_
  rintro e v3 ⟨g3, rfl, hg3, hg3', hfr, hb⟩
  have z3 := hb.size
  have HN3 := Lib.hid hfr
  have HA_3 := Lib.hid (HA_2.out.keep fun p _ hp => hb.cell (by omega))
  have Hbel_3 := Lib.hid (Hbel_2.out.trans (hb.mono (by omega)))
  clear HA_2 Hbel_2
  clear hb hfr
  go_wp2_with fail
  refine (implNameOk_any (some ⟨g3, 0, none⟩) l l.length v3 ((HN3.out.bytes.low (Nat.zero_le _)).mono (by omega)) (by omega)).mono ?_
  rintro e v4 ⟨rfl, hb⟩
  have z4 := hb.size
  have HA_4 := Lib.hid (HA_3.out.keep fun p _ hp => hb.cell (by omega))
  have Hbel_4 := Lib.hid (Hbel_3.out.trans (hb.mono (by omega)))
  have HX0_4 := Lib.hid (HN3.out.keep fun p _ hp => ⟨hb.cell (by omega), hb.frozen (by omega)⟩)
  clear HA_3 Hbel_3 HN3
  clear hb
  have hcmp : ((nameB l) != (nameB l)) = false := by simp
  go_wp2_with fail
  refine (toByteS_nf A l c v4 (HA_4.out.mono (by omega)) rA).mono ?_
  rintro e v5 ⟨g5, rfl, hg5, hg5', hfr, hb⟩
  have z5 := hb.size
  have HN5 := Lib.hid hfr
  have HA_5 := Lib.hid (HA_4.out.keep fun p _ hp => hb.cell (by omega))
  have Hbel_5 := Lib.hid (Hbel_4.out.trans (hb.mono (by omega)))
  have HX0_5 := Lib.hid (HX0_4.out.keep fun p _ hp => ⟨hb.cell (by omega), hb.frozen (by omega)⟩)
  clear HA_4 Hbel_4 HX0_4
  clear hb hfr
  go_wp2_with fail
  refine (eqByteS_fr (some ⟨g3, 0, none⟩) (some ⟨g5, 0, none⟩) l l.length l.length v2.heap.size v4.heap.size v3.heap.size v5.heap.size v5 HX0_5.out HN5.out (by omega)).mono ?_
  rintro e v6 ⟨rfl, hb⟩
  have z6 := hb.size
  have HA_6 := Lib.hid (HA_5.out.keep fun p _ hp => hb.cell (by omega))
  have Hbel_6 := Lib.hid (Hbel_5.out.trans (hb.mono (by omega)))
  have HX0_6 := Lib.hid (HX0_5.out.keep fun p _ hp => ⟨hb.cell (by omega), hb.frozen (by omega)⟩)
  clear HA_5 Hbel_5 HX0_5 HN5
  clear hb
  go_wp2_with fail
  go_ret
  exact ⟨rfl, Hbel_6.out⟩

end Go.Proofs.Ytnejbggbkjgfeaa
