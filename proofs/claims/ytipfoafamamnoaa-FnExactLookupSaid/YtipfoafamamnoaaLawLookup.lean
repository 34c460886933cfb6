/-
  The law on Lookup, walked: it answers true, and turns nothing that was there.
-/
import Derived.Test.YtipfoafamamnoaaSz
import Derived.Test.YtipfoafamamnoaaTo
import Derived.Test.YtipfoafamamnoaaEq
import Derived.Test.YtipfoafamamnoaaLookup
import Derived.Deep.RegionHeld3
namespace Go.Proofs.Ytipfoafamamnoaa
open Go.RowKit Go.Maps

set_option maxRecDepth 100000 in
set_option maxHeartbeats 4000000 in
theorem lawLookup_any (A : Option Addr) (ts : List Tm) (c : Nat) (t : Tm) (A' : Option Addr) (c' : Nat) (w : World) (hA : TmsIn w 0 w.heap.size A ts) (hn : ts.length ≤ 9223372036854775807) (hA' : BytesIn w 0 w.heap.size A' t.text) (hn' : t.text.length ≤ 9223372036854775807) :
    Calls Try.prog 5 #[.agg #[.slice A ts.length c], .agg #[.int .i64 t.kind, .int .i64 t.a, .int .i64 t.b, .slice A' t.text.length c']] w fun e w' => e = .returned (.bool true) ∧ Below w.heap.size w w' := by
  have HA := Lib.hid hA
  have HA' := Lib.hid hA'
  clear hA hA'
  obtain ⟨rn, hform⟩ : ∃ rn, rn = lookV ts t := ⟨_, rfl⟩
  have HForm := Lib.hid hform
  clear hform
  go_enter Try.func5, Try.ntmps5
  go_wp2_with fail
  have hb0 : Below w.heap.size w ((w.alloc (.cells #[.slice A ts.length c] 24)).alloc (.cells #[.int .i64 t.kind, .int .i64 t.a, .int .i64 t.b, .slice A' t.text.length c'] 27)) := ((Below.refl _ _).alloc (Nat.le_refl _) _).alloc (by simp) _
  have HB0 := Lib.hid hb0
  refine (szLedger_any A ts c _ _ ?_ hn (by omega) (by omega)).mono ?_
  · exact (HA.out.up hb0)
  rintro e w1 ⟨r, rfl, hsz, hb1⟩
  have b1 : w1.cell? ⟨w.heap.size, 0, none⟩ = some (.slice A ts.length c) := (hb1.cell (p := ⟨w.heap.size, 0, none⟩) (by simp; omega)).trans (by simp)
  have t1 : w1.cell? ⟨w.heap.size + 1, 0, none⟩ = some (.int .i64 t.kind) := (hb1.cell (p := ⟨w.heap.size + 1, 0, none⟩) (by simp)).trans (by simp)
  have u1 : w1.cell? ⟨w.heap.size + 1, 1, none⟩ = some (.int .i64 t.a) := (hb1.cell (p := ⟨w.heap.size + 1, 1, none⟩) (by simp)).trans (by simp)
  have v1 : w1.cell? ⟨w.heap.size + 1, 2, none⟩ = some (.int .i64 t.b) := (hb1.cell (p := ⟨w.heap.size + 1, 2, none⟩) (by simp)).trans (by simp)
  have z1 : w1.cell? ⟨w.heap.size + 1, 3, none⟩ = some (.slice A' t.text.length c') := (hb1.cell (p := ⟨w.heap.size + 1, 3, none⟩) (by simp)).trans (by simp)
  have hz1 : w.heap.size + 1 + 1 ≤ w1.heap.size := by simpa using hb1.size
  have HB1 := Lib.hid (HB0.out.trans (hb1.mono (by simp; omega)))
  have HSz := Lib.hid hsz
  clear hb0 hb1 hsz
  by_cases hr : r < 0
  · go_wp2_with fail
    all_goals go_ret
    all_goals exact ⟨rfl, HB1.out⟩
  · have hr' : 0 ≤ r := by omega
    have hsum : ts.length + bulk ts ≤ 1048576 := by have := HSz.out; unfold SzOk at this; omega
    have hrm : r ≤ 1048576 := by have := HSz.out; unfold SzOk at this; omega
    clear hr
    go_wp2_with fail
    refine (szTerm_any _ _ _ A' t.text.length c' r w1 hn' hr' hrm).mono ?_
    rintro e w2 ⟨r2, rfl, hsz2, hb2⟩
    have b2 := (hb2.cell (p := ⟨w.heap.size, 0, none⟩) (by show w.heap.size < _; omega)).trans b1
    have t2 := (hb2.cell (p := ⟨w.heap.size + 1, 0, none⟩) (by show w.heap.size + 1 < _; omega)).trans t1
    have u2 := (hb2.cell (p := ⟨w.heap.size + 1, 1, none⟩) (by show w.heap.size + 1 < _; omega)).trans u1
    have v2 := (hb2.cell (p := ⟨w.heap.size + 1, 2, none⟩) (by show w.heap.size + 1 < _; omega)).trans v1
    have z2 := (hb2.cell (p := ⟨w.heap.size + 1, 3, none⟩) (by show w.heap.size + 1 < _; omega)).trans z1
    have hz2 := hb2.size
    have HSz2 := Lib.hid hsz2
    have HB2 := Lib.hid (HB1.out.trans (hb2.mono (by omega)))
    clear hb2 hsz2 b1 t1 u1 v1 z1
    by_cases hr2 : r2 < 0
    · go_wp2_with fail
      all_goals go_ret
      all_goals exact ⟨rfl, HB2.out⟩
    · have hr2' : 0 ≤ r2 := by omega
      have htl : t.text.length ≤ 1048576 := by have := HSz2.out; unfold SzOk at this; omega
      clear hr2
      go_wp2_with fail
      go_region_held3 (fun W => W.cell? ⟨w.heap.size, 0, none⟩ = some (.slice A ts.length c) ∧ W.cell? ⟨w.heap.size + 1, 0, none⟩ = some (.int .i64 t.kind) ∧ W.cell? ⟨w.heap.size + 1, 1, none⟩ = some (.int .i64 t.a) ∧ W.cell? ⟨w.heap.size + 1, 2, none⟩ = some (.int .i64 t.b) ∧ W.cell? ⟨w.heap.size + 1, 3, none⟩ = some (.slice A' t.text.length c'))
        (first | exact ⟨b2, t2, u2, v2, z2⟩ | exact ⟨b3, t3, u3, v3, z3⟩ | exact ⟨b4, t4, u4, v4, z4⟩ | exact ⟨b5, t5, u5, v5, z5⟩)
        (first
          | (go_at_call 18
             refine (toLedger_any A ts c _ ?_ (by omega) (by omega)).mono ?_
             · first | exact (HA.out.below HB2.out).mono (by show w.heap.size ≤ w2.heap.size; omega) | exact (HA.out.below HB2.out.drew).mono (by show w.heap.size ≤ w2.heap.size; omega) | exact (HA.out.below HB2.out.drew.drew).mono (by show w.heap.size ≤ w2.heap.size; omega)
             rintro e w3 ⟨g3, rfl, hg3, hts3, hb3⟩
             have b3 := (hb3.cell (p := ⟨w.heap.size, 0, none⟩) (by show w.heap.size < w2.heap.size; omega)).trans b2
             have t3 := (hb3.cell (p := ⟨w.heap.size + 1, 0, none⟩) (by show w.heap.size + 1 < w2.heap.size; omega)).trans t2
             have u3 := (hb3.cell (p := ⟨w.heap.size + 1, 1, none⟩) (by show w.heap.size + 1 < w2.heap.size; omega)).trans u2
             have v3 := (hb3.cell (p := ⟨w.heap.size + 1, 2, none⟩) (by show w.heap.size + 1 < w2.heap.size; omega)).trans v2
             have z3 := (hb3.cell (p := ⟨w.heap.size + 1, 3, none⟩) (by show w.heap.size + 1 < w2.heap.size; omega)).trans z2
             have hz3 : w2.heap.size ≤ w3.heap.size := hb3.size
             have HT3 := Lib.hid hts3
             have HB3 := Lib.hid (show Below w.heap.size w w3 by first | exact HB2.out.trans (hb3.mono (by show w.heap.size ≤ w2.heap.size; omega)) | exact HB2.out.drew.trans (hb3.mono (by show w.heap.size ≤ w2.heap.size; omega)) | exact HB2.out.drew.drew.trans (hb3.mono (by show w.heap.size ≤ w2.heap.size; omega)))
             clear hts3 hb3)
          | (go_at_call 19
             refine (toTerm_any _ _ _ A' t.text c' _ ?_ htl).mono ?_
             · first | exact (HA'.out.below HB3.out).mono (by show w.heap.size ≤ w3.heap.size; omega) | exact (HA'.out.below HB3.out.drew).mono (by show w.heap.size ≤ w3.heap.size; omega) | exact (HA'.out.below HB3.out.drew.drew).mono (by show w.heap.size ≤ w3.heap.size; omega)
             rintro e w4 ⟨g4, rfl, hg4, hg4', hts4, hb4⟩
             have b4 := (hb4.cell (p := ⟨w.heap.size, 0, none⟩) (by show w.heap.size < w3.heap.size; omega)).trans b3
             have t4 := (hb4.cell (p := ⟨w.heap.size + 1, 0, none⟩) (by show w.heap.size + 1 < w3.heap.size; omega)).trans t3
             have u4 := (hb4.cell (p := ⟨w.heap.size + 1, 1, none⟩) (by show w.heap.size + 1 < w3.heap.size; omega)).trans u3
             have v4 := (hb4.cell (p := ⟨w.heap.size + 1, 2, none⟩) (by show w.heap.size + 1 < w3.heap.size; omega)).trans v3
             have z4 := (hb4.cell (p := ⟨w.heap.size + 1, 3, none⟩) (by show w.heap.size + 1 < w3.heap.size; omega)).trans z3
             have hz4 : w3.heap.size ≤ w4.heap.size := hb4.size
             have HX4 := Lib.hid hts4
             have HB34 := Lib.hid hb4
             have HB4 := Lib.hid (show Below w.heap.size w w4 by first | exact HB3.out.trans (hb4.mono (by show w.heap.size ≤ w3.heap.size; omega)) | exact HB3.out.drew.trans (hb4.mono (by show w.heap.size ≤ w3.heap.size; omega)) | exact HB3.out.drew.drew.trans (hb4.mono (by show w.heap.size ≤ w3.heap.size; omega)))
             clear hts4 hb4)
          | (go_at_call 25
             refine (specLookup_any _ _ ts t _ _ w2.heap.size w3.heap.size _ w4.heap.size _ (HT3.out.keep fun p _ hp => (HB34.out.cell (by show p.block < w3.heap.size; omega))) (by show w3.heap.size ≤ w4.heap.size; omega) HX4.out (Nat.le_refl _) (by omega) (by omega) htl).mono ?_
             rintro e w5 ⟨he, hb5⟩
             rw [← HForm.out] at he
             subst he
             have b5 := (hb5.cell (p := ⟨w.heap.size, 0, none⟩) (by show w.heap.size < w4.heap.size; omega)).trans b4
             have t5 := (hb5.cell (p := ⟨w.heap.size + 1, 0, none⟩) (by show w.heap.size + 1 < w4.heap.size; omega)).trans t4
             have u5 := (hb5.cell (p := ⟨w.heap.size + 1, 1, none⟩) (by show w.heap.size + 1 < w4.heap.size; omega)).trans u4
             have v5 := (hb5.cell (p := ⟨w.heap.size + 1, 2, none⟩) (by show w.heap.size + 1 < w4.heap.size; omega)).trans v4
             have z5 := (hb5.cell (p := ⟨w.heap.size + 1, 3, none⟩) (by show w.heap.size + 1 < w4.heap.size; omega)).trans z4
             have hz5 : w4.heap.size ≤ w5.heap.size := hb5.size
             have HB5 := Lib.hid (show Below w.heap.size w w5 by first | exact HB4.out.trans (hb5.mono (by show w.heap.size ≤ w4.heap.size; omega)) | exact HB4.out.drew.trans (hb5.mono (by show w.heap.size ≤ w4.heap.size; omega)) | exact HB4.out.drew.drew.trans (hb5.mono (by show w.heap.size ≤ w4.heap.size; omega)))
             clear hb5))
      go_wp2_with fail
      refine (toLedger_any A ts c w5 ?_ (by omega) (by omega)).mono ?_
      · exact (HA.out.below HB5.out).mono (by omega)
      rintro e w6 ⟨g6, rfl, hg6, hts6, hb6⟩
      have b6 := (hb6.cell (p := ⟨w.heap.size, 0, none⟩) (by show w.heap.size < _; omega)).trans b5
      have t6 := (hb6.cell (p := ⟨w.heap.size + 1, 0, none⟩) (by show w.heap.size + 1 < _; omega)).trans t5
      have u6 := (hb6.cell (p := ⟨w.heap.size + 1, 1, none⟩) (by show w.heap.size + 1 < _; omega)).trans u5
      have v6 := (hb6.cell (p := ⟨w.heap.size + 1, 2, none⟩) (by show w.heap.size + 1 < _; omega)).trans v5
      have z6 := (hb6.cell (p := ⟨w.heap.size + 1, 3, none⟩) (by show w.heap.size + 1 < _; omega)).trans z5
      have hz6 := hb6.size
      have HT6 := Lib.hid hts6
      have HB6 := Lib.hid (HB5.out.trans (hb6.mono (by omega)))
      clear hts6 hb6 b5 t5 u5 v5 z5
      have hw6 : w.heap.size + 1 < w6.heap.size := by omega
      have ta : (w6.alloc (.cells #[.slice (some ⟨g6, 0, none⟩) ts.length ts.length] 33)).cell? ⟨w.heap.size + 1, 0, none⟩ = some (.int .i64 t.kind) := (World.cell?_alloc_lt _ _ _ hw6).trans t6
      have ua : (w6.alloc (.cells #[.slice (some ⟨g6, 0, none⟩) ts.length ts.length] 33)).cell? ⟨w.heap.size + 1, 1, none⟩ = some (.int .i64 t.a) := (World.cell?_alloc_lt _ _ _ hw6).trans u6
      have va : (w6.alloc (.cells #[.slice (some ⟨g6, 0, none⟩) ts.length ts.length] 33)).cell? ⟨w.heap.size + 1, 2, none⟩ = some (.int .i64 t.b) := (World.cell?_alloc_lt _ _ _ hw6).trans v6
      have za : (w6.alloc (.cells #[.slice (some ⟨g6, 0, none⟩) ts.length ts.length] 33)).cell? ⟨w.heap.size + 1, 3, none⟩ = some (.slice A' t.text.length c') := (World.cell?_alloc_lt _ _ _ hw6).trans z6
      go_wp2_with fail
      clear ta ua va za
      have hba : Below w6.heap.size w6 (w6.alloc (.cells #[.slice (some ⟨g6, 0, none⟩) ts.length ts.length] 33)) := (Below.refl _ _).alloc (Nat.le_refl _) _
      refine (toTerm_any _ _ _ A' t.text c' _ ?_ htl).mono ?_
      · exact (HA'.out.below (HB6.out.trans (hba.mono (by omega)))).mono (by simp; omega)
      rintro e w7 ⟨g7, rfl, hg7, hg7', hts7, hb7⟩
      have x7 : w7.cell? ⟨w6.heap.size, 0, none⟩ = some (.slice (some ⟨g6, 0, none⟩) ts.length ts.length) := (hb7.cell (p := ⟨w6.heap.size, 0, none⟩) (by simp)).trans (by simp)
      have hb67 := hba.trans (hb7.mono (by simp))
      have b7 := (hb67.cell (p := ⟨w.heap.size, 0, none⟩) (by show w.heap.size < _; omega)).trans b6
      have t7 := (hb67.cell (p := ⟨w.heap.size + 1, 0, none⟩) (by show w.heap.size + 1 < _; omega)).trans t6
      have u7 := (hb67.cell (p := ⟨w.heap.size + 1, 1, none⟩) (by show w.heap.size + 1 < _; omega)).trans u6
      have v7 := (hb67.cell (p := ⟨w.heap.size + 1, 2, none⟩) (by show w.heap.size + 1 < _; omega)).trans v6
      have z7 := (hb67.cell (p := ⟨w.heap.size + 1, 3, none⟩) (by show w.heap.size + 1 < _; omega)).trans z6
      have hz7 : w6.heap.size + 1 ≤ w7.heap.size := by simpa using hb7.size
      have HT7 := Lib.hid (HT6.out.below hb67)
      have HX7 := Lib.hid (show BytesIn w7 (w6.heap.size + 1) w7.heap.size (some ⟨g7, 0, none⟩) t.text by simpa using hts7)
      have HB7 := Lib.hid (HB6.out.trans (hb67.mono (by omega)))
      clear hts7 hba hb7 hb67 b6 t6 u6 v6 z6 hg7
      have hw7 : w6.heap.size < w7.heap.size := by omega
      have xa : (w7.alloc (.cells #[.int .i64 t.kind, .int .i64 t.a, .int .i64 t.b, .slice (some ⟨g7, 0, none⟩) t.text.length t.text.length] 35)).cell? ⟨w6.heap.size, 0, none⟩ = some (.slice (some ⟨g6, 0, none⟩) ts.length ts.length) := (World.cell?_alloc_lt _ _ _ hw7).trans x7
      go_wp2_with fail
      clear xa
      have hbb : Below w7.heap.size w7 (w7.alloc (.cells #[.int .i64 t.kind, .int .i64 t.a, .int .i64 t.b, .slice (some ⟨g7, 0, none⟩) t.text.length t.text.length] 35)) := (Below.refl _ _).alloc (Nat.le_refl _) _
      refine (implLookup_any _ _ ts t _ _ w5.heap.size w6.heap.size (w6.heap.size + 1) w7.heap.size _ (HT7.out.keep fun p _ hp => hbb.cell (by omega)) (by simp; omega) (HX7.out.keep fun p _ hp => hbb.cell (by omega)) (by simp) (by omega) (by omega) htl).mono ?_
      rintro e w8 ⟨he, hb8⟩
      rw [← HForm.out] at he
      subst he
      have y8 : w8.cell? ⟨w7.heap.size, 0, none⟩ = some (.int .i64 t.kind) := (hb8.cell (p := ⟨w7.heap.size, 0, none⟩) (by simp)).trans (by simp)
      have p8 : w8.cell? ⟨w7.heap.size, 1, none⟩ = some (.int .i64 t.a) := (hb8.cell (p := ⟨w7.heap.size, 1, none⟩) (by simp)).trans (by simp)
      have q8 : w8.cell? ⟨w7.heap.size, 2, none⟩ = some (.int .i64 t.b) := (hb8.cell (p := ⟨w7.heap.size, 2, none⟩) (by simp)).trans (by simp)
      have s8 : w8.cell? ⟨w7.heap.size, 3, none⟩ = some (.slice (some ⟨g7, 0, none⟩) t.text.length t.text.length) := (hb8.cell (p := ⟨w7.heap.size, 3, none⟩) (by simp)).trans (by simp)
      have hb78 := hbb.trans (hb8.mono (by simp))
      have b8 := (hb78.cell (p := ⟨w.heap.size, 0, none⟩) (by show w.heap.size < _; omega)).trans b7
      have t8 := (hb78.cell (p := ⟨w.heap.size + 1, 0, none⟩) (by show w.heap.size + 1 < _; omega)).trans t7
      have u8 := (hb78.cell (p := ⟨w.heap.size + 1, 1, none⟩) (by show w.heap.size + 1 < _; omega)).trans u7
      have v8 := (hb78.cell (p := ⟨w.heap.size + 1, 2, none⟩) (by show w.heap.size + 1 < _; omega)).trans v7
      have z8 := (hb78.cell (p := ⟨w.heap.size + 1, 3, none⟩) (by show w.heap.size + 1 < _; omega)).trans z7
      have x8 := (hb78.cell (p := ⟨w6.heap.size, 0, none⟩) (by show w6.heap.size < _; omega)).trans x7
      have hz8 : w7.heap.size + 1 ≤ w8.heap.size := by simpa using hb8.size
      have HT8 := Lib.hid (HT7.out.keep fun p _ hp => hb78.cell (by omega))
      have HX8 := Lib.hid (HX7.out.keep fun p _ hp => hb78.cell (by omega))
      have HB8 := Lib.hid (HB7.out.trans (hb78.mono (by omega)))
      clear hbb hb8 hb78 b7 t7 u7 v7 z7 x7
      have hcmp : (rn != rn) = false := by simp
      go_wp2_with fail
      go_region_held3 (fun W => W.cell? ⟨w6.heap.size, 0, none⟩ = some (.slice (some ⟨g6, 0, none⟩) ts.length ts.length) ∧ W.cell? ⟨w.heap.size, 0, none⟩ = some (.slice A ts.length c))
        (first | exact ⟨x8, b8⟩ | exact ⟨x9, b9⟩ | exact ⟨x10, b10⟩)
        (first
          | (go_at_call 18
             refine (toLedger_any A ts c _ ?_ (by omega) (by omega)).mono ?_
             · first | exact (HA.out.below HB8.out).mono (by show w.heap.size ≤ w8.heap.size; omega) | exact (HA.out.below HB8.out.drew).mono (by show w.heap.size ≤ w8.heap.size; omega) | exact (HA.out.below HB8.out.drew.drew).mono (by show w.heap.size ≤ w8.heap.size; omega)
             rintro e w9 ⟨g9, rfl, hg9, hts9, hb9⟩
             have b9 := (hb9.cell (p := ⟨w.heap.size, 0, none⟩) (by show w.heap.size < w8.heap.size; omega)).trans b8
             have t9 := (hb9.cell (p := ⟨w.heap.size + 1, 0, none⟩) (by show w.heap.size + 1 < w8.heap.size; omega)).trans t8
             have u9 := (hb9.cell (p := ⟨w.heap.size + 1, 1, none⟩) (by show w.heap.size + 1 < w8.heap.size; omega)).trans u8
             have v9 := (hb9.cell (p := ⟨w.heap.size + 1, 2, none⟩) (by show w.heap.size + 1 < w8.heap.size; omega)).trans v8
             have z9 := (hb9.cell (p := ⟨w.heap.size + 1, 3, none⟩) (by show w.heap.size + 1 < w8.heap.size; omega)).trans z8
             have x9 := (hb9.cell (p := ⟨w6.heap.size, 0, none⟩) (by show w6.heap.size < w8.heap.size; omega)).trans x8
             have y9 := (hb9.cell (p := ⟨w7.heap.size, 0, none⟩) (by show w7.heap.size < w8.heap.size; omega)).trans y8
             have p9 := (hb9.cell (p := ⟨w7.heap.size, 1, none⟩) (by show w7.heap.size < w8.heap.size; omega)).trans p8
             have q9 := (hb9.cell (p := ⟨w7.heap.size, 2, none⟩) (by show w7.heap.size < w8.heap.size; omega)).trans q8
             have s9 := (hb9.cell (p := ⟨w7.heap.size, 3, none⟩) (by show w7.heap.size < w8.heap.size; omega)).trans s8
             have hz9 : w8.heap.size ≤ w9.heap.size := hb9.size
             have HT9 := Lib.hid hts9
             have HB89 := Lib.hid hb9
             have HB9 := Lib.hid (show Below w.heap.size w w9 by first | exact HB8.out.trans (hb9.mono (by show w.heap.size ≤ w8.heap.size; omega)) | exact HB8.out.drew.trans (hb9.mono (by show w.heap.size ≤ w8.heap.size; omega)))
             clear hts9 hb9)
          | (go_at_call 21
             refine (eqLedger_same _ _ ts _ _ w5.heap.size _ w6.heap.size w9.heap.size _ (HT8.out.keep fun p _ hp => (HB89.out.cell (by show p.block < w8.heap.size; omega))) HT9.out (by show w6.heap.size ≤ w9.heap.size; omega) (Nat.le_refl _) (by omega) (by omega)).mono ?_
             rintro e w10 ⟨rfl, hb10⟩
             have b10 := (hb10.cell (p := ⟨w.heap.size, 0, none⟩) (by show w.heap.size < w9.heap.size; omega)).trans b9
             have t10 := (hb10.cell (p := ⟨w.heap.size + 1, 0, none⟩) (by show w.heap.size + 1 < w9.heap.size; omega)).trans t9
             have u10 := (hb10.cell (p := ⟨w.heap.size + 1, 1, none⟩) (by show w.heap.size + 1 < w9.heap.size; omega)).trans u9
             have v10 := (hb10.cell (p := ⟨w.heap.size + 1, 2, none⟩) (by show w.heap.size + 1 < w9.heap.size; omega)).trans v9
             have z10 := (hb10.cell (p := ⟨w.heap.size + 1, 3, none⟩) (by show w.heap.size + 1 < w9.heap.size; omega)).trans z9
             have x10 := (hb10.cell (p := ⟨w6.heap.size, 0, none⟩) (by show w6.heap.size < w9.heap.size; omega)).trans x9
             have y10 := (hb10.cell (p := ⟨w7.heap.size, 0, none⟩) (by show w7.heap.size < w9.heap.size; omega)).trans y9
             have p10 := (hb10.cell (p := ⟨w7.heap.size, 1, none⟩) (by show w7.heap.size < w9.heap.size; omega)).trans p9
             have q10 := (hb10.cell (p := ⟨w7.heap.size, 2, none⟩) (by show w7.heap.size < w9.heap.size; omega)).trans q9
             have s10 := (hb10.cell (p := ⟨w7.heap.size, 3, none⟩) (by show w7.heap.size < w9.heap.size; omega)).trans s9
             have hz10 : w9.heap.size ≤ w10.heap.size := hb10.size
             have HX10 := Lib.hid ((HX8.out.keep fun p _ hp => (HB89.out.cell (by show p.block < w8.heap.size; omega))).keep fun p _ hp => hb10.cell (by show p.block < w9.heap.size; omega))
             have HB10 := Lib.hid (show Below w.heap.size w w10 by first | exact HB9.out.trans (hb10.mono (by show w.heap.size ≤ w9.heap.size; omega)) | exact HB9.out.drew.trans (hb10.mono (by show w.heap.size ≤ w9.heap.size; omega)))
             clear hb10))
      go_wp2_with fail
      go_region_held3 (fun W => W.cell? ⟨w7.heap.size, 0, none⟩ = some (.int .i64 t.kind) ∧ W.cell? ⟨w7.heap.size, 1, none⟩ = some (.int .i64 t.a) ∧ W.cell? ⟨w7.heap.size, 2, none⟩ = some (.int .i64 t.b) ∧ W.cell? ⟨w7.heap.size, 3, none⟩ = some (.slice (some ⟨g7, 0, none⟩) t.text.length t.text.length) ∧ W.cell? ⟨w.heap.size + 1, 0, none⟩ = some (.int .i64 t.kind) ∧ W.cell? ⟨w.heap.size + 1, 1, none⟩ = some (.int .i64 t.a) ∧ W.cell? ⟨w.heap.size + 1, 2, none⟩ = some (.int .i64 t.b) ∧ W.cell? ⟨w.heap.size + 1, 3, none⟩ = some (.slice A' t.text.length c'))
        (first | exact ⟨y10, p10, q10, s10, t10, u10, v10, z10⟩ | exact ⟨y11, p11, q11, s11, t11, u11, v11, z11⟩ | exact ⟨y12, p12, q12, s12, t12, u12, v12, z12⟩)
        (first
          | (go_at_call 19
             refine (toTerm_any _ _ _ A' t.text c' _ ?_ htl).mono ?_
             · first | exact (HA'.out.below HB10.out).mono (by show w.heap.size ≤ w10.heap.size; omega) | exact (HA'.out.below HB10.out.drew).mono (by show w.heap.size ≤ w10.heap.size; omega)
             rintro e w11 ⟨g11, rfl, hg11, hg11', hts11, hb11⟩
             have y11 := (hb11.cell (p := ⟨w7.heap.size, 0, none⟩) (by show w7.heap.size < w10.heap.size; omega)).trans y10
             have p11 := (hb11.cell (p := ⟨w7.heap.size, 1, none⟩) (by show w7.heap.size < w10.heap.size; omega)).trans p10
             have q11 := (hb11.cell (p := ⟨w7.heap.size, 2, none⟩) (by show w7.heap.size < w10.heap.size; omega)).trans q10
             have s11 := (hb11.cell (p := ⟨w7.heap.size, 3, none⟩) (by show w7.heap.size < w10.heap.size; omega)).trans s10
             have t11 := (hb11.cell (p := ⟨w.heap.size + 1, 0, none⟩) (by show w.heap.size + 1 < w10.heap.size; omega)).trans t10
             have u11 := (hb11.cell (p := ⟨w.heap.size + 1, 1, none⟩) (by show w.heap.size + 1 < w10.heap.size; omega)).trans u10
             have v11 := (hb11.cell (p := ⟨w.heap.size + 1, 2, none⟩) (by show w.heap.size + 1 < w10.heap.size; omega)).trans v10
             have z11 := (hb11.cell (p := ⟨w.heap.size + 1, 3, none⟩) (by show w.heap.size + 1 < w10.heap.size; omega)).trans z10
             have hz11 : w10.heap.size ≤ w11.heap.size := hb11.size
             have HX11 := Lib.hid hts11
             have HB1011 := Lib.hid hb11
             have HB11 := Lib.hid (show Below w.heap.size w w11 by first | exact HB10.out.trans (hb11.mono (by show w.heap.size ≤ w10.heap.size; omega)) | exact HB10.out.drew.trans (hb11.mono (by show w.heap.size ≤ w10.heap.size; omega)))
             clear hts11 hb11)
          | (go_at_call 22
             refine (eqTerm_same _ _ _ _ _ t.text _ _ (w6.heap.size + 1) _ w7.heap.size w11.heap.size _ (HX10.out.keep fun p _ hp => (HB1011.out.cell (by show p.block < w10.heap.size; omega))) HX11.out (by show w7.heap.size ≤ w11.heap.size; omega) (Nat.le_refl _) htl).mono ?_
             rintro e w12 ⟨rfl, hb12⟩
             have y12 := (hb12.cell (p := ⟨w7.heap.size, 0, none⟩) (by show w7.heap.size < w11.heap.size; omega)).trans y11
             have p12 := (hb12.cell (p := ⟨w7.heap.size, 1, none⟩) (by show w7.heap.size < w11.heap.size; omega)).trans p11
             have q12 := (hb12.cell (p := ⟨w7.heap.size, 2, none⟩) (by show w7.heap.size < w11.heap.size; omega)).trans q11
             have s12 := (hb12.cell (p := ⟨w7.heap.size, 3, none⟩) (by show w7.heap.size < w11.heap.size; omega)).trans s11
             have t12 := (hb12.cell (p := ⟨w.heap.size + 1, 0, none⟩) (by show w.heap.size + 1 < w11.heap.size; omega)).trans t11
             have u12 := (hb12.cell (p := ⟨w.heap.size + 1, 1, none⟩) (by show w.heap.size + 1 < w11.heap.size; omega)).trans u11
             have v12 := (hb12.cell (p := ⟨w.heap.size + 1, 2, none⟩) (by show w.heap.size + 1 < w11.heap.size; omega)).trans v11
             have z12 := (hb12.cell (p := ⟨w.heap.size + 1, 3, none⟩) (by show w.heap.size + 1 < w11.heap.size; omega)).trans z11
             have HB12 := Lib.hid (show Below w.heap.size w w12 by first | exact HB11.out.trans (hb12.mono (by show w.heap.size ≤ w11.heap.size; omega)) | exact HB11.out.drew.trans (hb12.mono (by show w.heap.size ≤ w11.heap.size; omega)))
             clear hb12))
      go_wp2_with fail
      go_ret
      exact ⟨rfl, HB12.out⟩

end Go.Proofs.Ytipfoafamamnoaa
