/-
  The law on Depth, walked: it answers true, and turns nothing that was there.
-/
import Derived.Test.YtipfoafamamnoaaSz
import Derived.Test.YtipfoafamamnoaaTo
import Derived.Test.YtipfoafamamnoaaEq
import Derived.Test.YtipfoafamamnoaaDepth
import Derived.Deep.RegionHeld3
namespace Go.Proofs.Ytipfoafamamnoaa
open Go.RowKit Go.Maps

set_option maxRecDepth 100000 in
set_option maxHeartbeats 2000000 in
theorem lawDepth_any (A : Option Addr) (ts : List Tm) (c : Nat) (id : Int) (w : World) (hA : TmsIn w 0 w.heap.size A ts) (hn : ts.length ≤ 9223372036854775807) :
    Calls Try.prog 11 #[.agg #[.slice A ts.length c], .int .i64 id] w fun e w' => e = .returned (.bool true) ∧ Below w.heap.size w w' := by
  have HA := Lib.hid hA
  clear hA
  obtain ⟨rn, hform⟩ : ∃ rn, rn = depthV ts id := ⟨_, rfl⟩
  have HForm := Lib.hid hform
  clear hform
  go_enter Try.func11, Try.ntmps11
  go_wp2_with fail
  have hb0 : Below w.heap.size w (w.alloc (.cells #[.slice A ts.length c] 24)) := (Below.refl _ _).alloc (Nat.le_refl _) _
  have HB0 := Lib.hid hb0
  refine (szLedger_any A ts c _ _ ?_ hn (by omega) (by omega)).mono ?_
  · exact (HA.out.up hb0)
  rintro e w1 ⟨r, rfl, hsz, hb1⟩
  have b1 : w1.cell? ⟨w.heap.size, 0, none⟩ = some (.slice A ts.length c) := (hb1.cell (p := ⟨w.heap.size, 0, none⟩) (by simp)).trans (by simp)
  have hz1 : w.heap.size + 1 ≤ w1.heap.size := by simpa using hb1.size
  have HB1 := Lib.hid (HB0.out.trans (hb1.mono (by simp)))
  have HSz := Lib.hid hsz
  clear hb0 hb1 hsz
  by_cases hr : r < 0
  · go_wp2_with fail
    all_goals go_ret
    all_goals exact ⟨rfl, HB1.out⟩
  · have hr' : 0 ≤ r := by omega
    have hsum : ts.length + bulk ts ≤ 1048576 := by have := HSz.out; unfold SzOk at this; omega
    clear hr
    go_wp2_with fail
    refine (toLedger_any A ts c w1 ?_ (by omega) (by omega)).mono ?_
    · exact (HA.out.below HB1.out).mono (by omega)
    rintro e w2 ⟨g2, rfl, hg2, hts2, hb2⟩
    have b2 := (hb2.cell (p := ⟨w.heap.size, 0, none⟩) (by show w.heap.size < _; omega)).trans b1
    have hz2 := hb2.size
    have HT2 := Lib.hid hts2
    have HB2 := Lib.hid (HB1.out.trans (hb2.mono (by omega)))
    clear hts2 hb2 b1
    go_wp2_with fail
    refine (specDepth_any _ ts _ _ _ id _ HT2.out (Nat.le_refl _) (by omega) (by omega)).mono ?_
    rintro e w3 ⟨he, hb3⟩
    rw [← HForm.out] at he
    subst he
    have b3 := (hb3.cell (p := ⟨w.heap.size, 0, none⟩) (by show w.heap.size < _; omega)).trans b2
    have hz3 := hb3.size
    have HB3 := Lib.hid (HB2.out.trans (hb3.mono (by omega)))
    clear hb3 b2
    go_wp2_with fail
    refine (toLedger_any A ts c w3 ?_ (by omega) (by omega)).mono ?_
    · exact (HA.out.below HB3.out).mono (by omega)
    rintro e w4 ⟨g4, rfl, hg4, hts4, hb4⟩
    have b4 := (hb4.cell (p := ⟨w.heap.size, 0, none⟩) (by show w.heap.size < _; omega)).trans b3
    have hz4 := hb4.size
    have HT4 := Lib.hid hts4
    have HB4 := Lib.hid (HB3.out.trans (hb4.mono (by omega)))
    clear hts4 hb4 b3
    go_wp2_with fail
    have hb5 : Below w4.heap.size w4 (w4.alloc (.cells #[.slice (some ⟨g4, 0, none⟩) ts.length ts.length] 33)) := (Below.refl _ _).alloc (Nat.le_refl _) _
    refine (implDepth_any _ ts _ w3.heap.size w4.heap.size id _ (HT4.out.below hb5) (by simp) (by omega) (by omega)).mono ?_
    rintro e w6 ⟨he, hb6⟩
    rw [← HForm.out] at he
    subst he
    have x6 : w6.cell? ⟨w4.heap.size, 0, none⟩ = some (.slice (some ⟨g4, 0, none⟩) ts.length ts.length) := (hb6.cell (p := ⟨w4.heap.size, 0, none⟩) (by simp)).trans (by simp)
    have hb46 := hb5.trans (hb6.mono (by simp))
    have b6 := (hb46.cell (p := ⟨w.heap.size, 0, none⟩) (by show w.heap.size < _; omega)).trans b4
    have hz6 : w4.heap.size + 1 ≤ w6.heap.size := by simpa using hb6.size
    have HT6 := Lib.hid (HT4.out.below hb46)
    have HB6 := Lib.hid (HB4.out.trans (hb46.mono (by omega)))
    clear hb5 hb6 hb46 b4
    have hcmp1 : (rn != rn) = false := by simp
    go_wp2_with fail
    go_region_held3 (fun W => W.cell? ⟨w4.heap.size, 0, none⟩ = some (.slice (some ⟨g4, 0, none⟩) ts.length ts.length) ∧ W.cell? ⟨w.heap.size, 0, none⟩ = some (.slice A ts.length c))
      (first | exact ⟨x6, b6⟩ | exact ⟨x7, b7⟩ | exact ⟨x8, b8⟩)
      (first
        | (go_at_call 18
           refine (toLedger_any A ts c _ ((HA.out.below HB6.out.drew).mono (by show w.heap.size ≤ w6.heap.size; omega)) (by omega) (by omega)).mono ?_
           rintro e w7 ⟨g7, rfl, hg7, hts7, hb7⟩
           have x7 := (hb7.cell (p := ⟨w4.heap.size, 0, none⟩) (by show w4.heap.size < w6.heap.size; omega)).trans x6
           have b7 := (hb7.cell (p := ⟨w.heap.size, 0, none⟩) (by show w.heap.size < w6.heap.size; omega)).trans b6
           have hz7 : w6.heap.size ≤ w7.heap.size := hb7.size
           have HT7 := Lib.hid hts7
           have HB67 := Lib.hid hb7
           clear hts7 hb7)
        | (go_at_call 21
           refine (eqLedger_same _ _ ts _ _ w3.heap.size _ w4.heap.size w7.heap.size _ (HT6.out.keep fun p _ hp => (HB67.out.cell (by show p.block < w6.heap.size; omega))) HT7.out (by omega) (Nat.le_refl _) (by omega) (by omega)).mono ?_
           rintro e w8 ⟨rfl, hb8⟩
           have x8 := (hb8.cell (p := ⟨w4.heap.size, 0, none⟩) (by show w4.heap.size < w7.heap.size; omega)).trans x7
           have b8 := (hb8.cell (p := ⟨w.heap.size, 0, none⟩) (by show w.heap.size < w7.heap.size; omega)).trans b7
           have HB8 := Lib.hid ((HB6.out.drew.trans ((HB67.out.mono (by show w.heap.size ≤ w6.heap.size; omega)))).trans (hb8.mono (by omega)))
           clear hb8))
    go_wp2_with fail
    go_ret
    exact ⟨rfl, HB8.out⟩

end Go.Proofs.Ytipfoafamamnoaa
