/-
  The law on At, walked: it answers true, and turns nothing that was there.
-/
import Derived.Test.YtipfoafamamnoaaSz
import Derived.Test.YtipfoafamamnoaaEq
import Derived.Test.YtipfoafamamnoaaAt
import Derived.Test.YtipfoafamamnoaaMark2
import Derived.Deep.RegionHeld3
namespace Go.Proofs.Ytipfoafamamnoaa
open Go.RowKit Go.Maps

set_option maxRecDepth 100000 in
set_option maxHeartbeats 8000000 in
theorem lawAt_any (A : Option Addr) (ts : List Tm) (c : Nat) (id : Int) (w : World) (hA : TmsIn w 0 w.heap.size A ts) (hn : ts.length ≤ 9223372036854775807) :
    Calls Try.prog 7 #[.agg #[.slice A ts.length c], .int .i64 id] w fun e w' => e = .returned (.bool true) ∧ Below w.heap.size w w' := by
  have HA := Lib.hid hA
  clear hA
  go_enter Try.func7, Try.ntmps7
  go_wp2_with fail
  have hb0 : Below w.heap.size w (w.alloc (.cells #[.slice A ts.length c] 24)) := (Below.refl _ _).alloc (Nat.le_refl _) _
  have HB0 := Lib.hid hb0
  refine (szLedger_any A ts c _ _ ?_ hn (by omega) (by omega)).mono ?_
  · exact (HA.out.up hb0)
  rintro e w1 ⟨r, rfl, hsz, hb1⟩
  have b_1 : w1.cell? ⟨w.heap.size, 0, none⟩ = some (.slice A ts.length c) := (hb1.cell (p := ⟨w.heap.size, 0, none⟩) (by simp)).trans (by simp)
  have hz1 : w.heap.size + 1 ≤ w1.heap.size := by simpa using hb1.size
  have HB1 := Lib.hid (HB0.out.trans (hb1.mono (by simp)))
  have HSz := Lib.hid hsz
  clear hb0 hb1 hsz
  by_cases hr : r < 0
  · go_wp2_with fail
    all_goals go_ret
    all_goals exact ⟨rfl, HB1.out⟩
  · have hr' : 0 ≤ r := by omega
    have hsum : ts.length + bulk ts ≤ 1048576 := by have := HSz.out; unfold SzOk at this; omega
    have htl := atT_text ts id (by omega)
    obtain ⟨t, ht⟩ : ∃ t, t = atT ts id := ⟨_, rfl⟩
    obtain ⟨ok, hok⟩ : ∃ ok, ok = atB ts id := ⟨_, rfl⟩
    have HTm := Lib.hid ht
    have HOk := Lib.hid hok
    rw [← ht] at htl
    clear hr ht hok
    have hcmp : (ok != ok) = false := by simp
    go_wp2_with fail
    -- the model
    refine (toLedger_nn A ts c w1 ?_ (by omega) (by omega)).mono ?_
    · exact (HA.out.below HB1.out).mono (by omega)
    rintro e w2 ⟨n2, rfl, hn2, hn2', hcp2, hnn2, _, hb2⟩
    have b_2 := (hb2.cell (p := ⟨w.heap.size, 0, none⟩) (by show w.heap.size < _; omega)).trans b_1
    have hz2 := hb2.size
    have HC2 := Lib.hid hcp2
    have HN2 := Lib.hid hnn2
    have HB2 := Lib.hid (HB1.out.trans (hb2.mono (by omega)))
    clear hcp2 hnn2 hb2 b_1
    go_wp2_with fail
    have hspec := specAt_any n2 w2.heap.size ts ts.length id w2 HC2.out HN2.out hn2' (Nat.le_refl _) (by omega) (by omega)
    rw [← HTm.out, ← HOk.out] at hspec
    refine hspec.mono ?_
    clear hspec
    rintro e w3 ⟨A3, c3, rfl, hbf3, hb3⟩
    have b_3 := (hb3.cell (p := ⟨w.heap.size, 0, none⟩) (by show w.heap.size < _; omega)).trans b_2
    have hz3 := hb3.size
    have HW3 := Lib.hid hbf3
    have HB3 := Lib.hid (HB2.out.trans (hb3.mono (by omega)))
    clear hbf3 hb3 b_2
    have b_3a := (World.cell?_alloc_lt w3 (.cells #[.int .i64 t.kind, .int .i64 t.a, .int .i64 t.b, .slice A3 t.text.length c3] 35) ⟨w.heap.size, 0, none⟩ (by show w.heap.size < _; omega)).trans b_3
    go_wp2_with fail
    -- the program's argument
    have hba : Below w3.heap.size w3 (w3.alloc (.cells #[.int .i64 t.kind, .int .i64 t.a, .int .i64 t.b, .slice A3 t.text.length c3] 35)) := (Below.refl _ _).alloc (Nat.le_refl _) _
    refine (toLedger_nn A ts c (w3.alloc (.cells #[.int .i64 t.kind, .int .i64 t.a, .int .i64 t.b, .slice A3 t.text.length c3] 35)) ?_ (by omega) (by omega)).mono ?_
    · exact (HA.out.below (HB3.out.trans (hba.mono (by omega)))).mono (by simp; omega)
    rintro e w4 ⟨n4, rfl, hn4, hn4', hcp4, hnn4, hfr4, hb4⟩
    have p0_4 : w4.cell? ⟨w3.heap.size, 0, none⟩ = some (.int .i64 t.kind) := (hb4.cell (p := ⟨w3.heap.size, 0, none⟩) (by simp)).trans (by simp)
    have p1_4 : w4.cell? ⟨w3.heap.size, 1, none⟩ = some (.int .i64 t.a) := (hb4.cell (p := ⟨w3.heap.size, 1, none⟩) (by simp)).trans (by simp)
    have p2_4 : w4.cell? ⟨w3.heap.size, 2, none⟩ = some (.int .i64 t.b) := (hb4.cell (p := ⟨w3.heap.size, 2, none⟩) (by simp)).trans (by simp)
    have p3_4 : w4.cell? ⟨w3.heap.size, 3, none⟩ = some (.slice A3 t.text.length c3) := (hb4.cell (p := ⟨w3.heap.size, 3, none⟩) (by simp)).trans (by simp)
    have hb34 := hba.trans (hb4.mono (by simp))
    have b_4 := (hb34.cell (p := ⟨w.heap.size, 0, none⟩) (by show w.heap.size < _; omega)).trans b_3
    have hz4 : w3.heap.size + 1 ≤ w4.heap.size := by simpa using hb4.size
    have hn4w : w3.heap.size + 1 ≤ n4 := by simpa using hn4
    have HC4 := Lib.hid hcp4
    have HN4 := Lib.hid hnn4
    have HF4 := Lib.hid hfr4
    have HW4 := Lib.hid (HW3.out.below hb34)
    have HB4 := Lib.hid (HB3.out.trans (hb34.mono (by omega)))
    clear hcp4 hnn4 hfr4 hba hb4 hb34 b_3 b_3a hn4
    go_wp2_with fail
    -- the program
    have hb5 : Below w4.heap.size w4 (w4.alloc (.cells #[.slice (some ⟨n4, 0, none⟩) ts.length ts.length] 33)) := (Below.refl _ _).alloc (Nat.le_refl _) _
    have himpl := implAt_any n4 w4.heap.size ts ts.length id (w4.alloc (.cells #[.slice (some ⟨n4, 0, none⟩) ts.length ts.length] 33)) (HC4.out.keep (fun p _ hp => hb5.cell hp) hn4') (HN4.out.keep fun p hp => hb5.cell (by omega)) hn4' (by simp) (by omega) (by omega)
    rw [← HTm.out, ← HOk.out] at himpl
    refine himpl.mono ?_
    clear himpl
    rintro e w6 ⟨A6, c6, rfl, hbf6, hb6⟩
    have x_6 : w6.cell? ⟨w4.heap.size, 0, none⟩ = some (.slice (some ⟨n4, 0, none⟩) ts.length ts.length) := (hb6.cell (p := ⟨w4.heap.size, 0, none⟩) (by simp)).trans (by simp)
    have hb46 := hb5.trans (hb6.mono (by simp))
    have b_6 := (hb46.cell (p := ⟨w.heap.size, 0, none⟩) (by show w.heap.size < _; omega)).trans b_4
    have p0_6 := (hb46.cell (p := ⟨w3.heap.size, 0, none⟩) (by show w3.heap.size < _; omega)).trans p0_4
    have p1_6 := (hb46.cell (p := ⟨w3.heap.size, 1, none⟩) (by show w3.heap.size < _; omega)).trans p1_4
    have p2_6 := (hb46.cell (p := ⟨w3.heap.size, 2, none⟩) (by show w3.heap.size < _; omega)).trans p2_4
    have p3_6 := (hb46.cell (p := ⟨w3.heap.size, 3, none⟩) (by show w3.heap.size < _; omega)).trans p3_4
    have hz6 : w4.heap.size + 1 ≤ w6.heap.size := by simpa using hb6.size
    have HG6 := Lib.hid (show BytesFr w6 (w4.heap.size + 1) w6.heap.size A6 t.text by simpa using hbf6)
    have HW6 := Lib.hid (HW4.out.keep fun p _ hp => ⟨hb46.cell (by omega), hb46.frozen (by omega)⟩)
    have HC6 := Lib.hid (HC4.out.keep (fun p _ hp => hb46.cell hp) hn4')
    have HF6 := Lib.hid (fun (p : Addr) (hp : n4 ≤ p.block) (hpB : p.block < w4.heap.size) => (hb46.frozen hpB).trans (HF4.out p (by simp; omega)))
    have HB6 := Lib.hid (HB4.out.trans (hb46.mono (by omega)))
    clear hbf6 hb5 hb6 hb46 b_4 p0_4 p1_4 p2_4 p3_4
    have p0_6a := (World.cell?_alloc_lt w6 (.cells #[.int .i64 t.kind, .int .i64 t.a, .int .i64 t.b, .slice A6 t.text.length c6] 35) ⟨w3.heap.size, 0, none⟩ (by show w3.heap.size < _; omega)).trans p0_6
    have p1_6a := (World.cell?_alloc_lt w6 (.cells #[.int .i64 t.kind, .int .i64 t.a, .int .i64 t.b, .slice A6 t.text.length c6] 35) ⟨w3.heap.size, 1, none⟩ (by show w3.heap.size < _; omega)).trans p1_6
    have p2_6a := (World.cell?_alloc_lt w6 (.cells #[.int .i64 t.kind, .int .i64 t.a, .int .i64 t.b, .slice A6 t.text.length c6] 35) ⟨w3.heap.size, 2, none⟩ (by show w3.heap.size < _; omega)).trans p2_6
    have p3_6a := (World.cell?_alloc_lt w6 (.cells #[.int .i64 t.kind, .int .i64 t.a, .int .i64 t.b, .slice A6 t.text.length c6] 35) ⟨w3.heap.size, 3, none⟩ (by show w3.heap.size < _; omega)).trans p3_6
    go_wp2_with fail
    -- both answers
    have hb6a : Below w6.heap.size w6 (w6.alloc (.cells #[.int .i64 t.kind, .int .i64 t.a, .int .i64 t.b, .slice A6 t.text.length c6] 35)) := (Below.refl _ _).alloc (Nat.le_refl _) _
    refine (eqTerm_same t.kind t.a t.b A6 A3 t.text c6 c3 _ _ _ _ (w6.alloc (.cells #[.int .i64 t.kind, .int .i64 t.a, .int .i64 t.b, .slice A6 t.text.length c6] 35)) (HG6.out.bytes.below hb6a) (HW6.out.bytes.keep fun p _ hp => hb6a.cell (by omega)) (by simp) (by simp; omega) (by omega)).mono ?_
    rintro e w7 ⟨rfl, hb7⟩
    have g0_7 : w7.cell? ⟨w6.heap.size, 0, none⟩ = some (.int .i64 t.kind) := (hb7.cell (p := ⟨w6.heap.size, 0, none⟩) (by simp)).trans (by simp)
    have g1_7 : w7.cell? ⟨w6.heap.size, 1, none⟩ = some (.int .i64 t.a) := (hb7.cell (p := ⟨w6.heap.size, 1, none⟩) (by simp)).trans (by simp)
    have g2_7 : w7.cell? ⟨w6.heap.size, 2, none⟩ = some (.int .i64 t.b) := (hb7.cell (p := ⟨w6.heap.size, 2, none⟩) (by simp)).trans (by simp)
    have g3_7 : w7.cell? ⟨w6.heap.size, 3, none⟩ = some (.slice A6 t.text.length c6) := (hb7.cell (p := ⟨w6.heap.size, 3, none⟩) (by simp)).trans (by simp)
    have hb67 := hb6a.trans (hb7.mono (by simp))
    have b_7 := (hb67.cell (p := ⟨w.heap.size, 0, none⟩) (by show w.heap.size < _; omega)).trans b_6
    have x_7 := (hb67.cell (p := ⟨w4.heap.size, 0, none⟩) (by show w4.heap.size < _; omega)).trans x_6
    have p0_7 := (hb67.cell (p := ⟨w3.heap.size, 0, none⟩) (by show w3.heap.size < _; omega)).trans p0_6
    have p1_7 := (hb67.cell (p := ⟨w3.heap.size, 1, none⟩) (by show w3.heap.size < _; omega)).trans p1_6
    have p2_7 := (hb67.cell (p := ⟨w3.heap.size, 2, none⟩) (by show w3.heap.size < _; omega)).trans p2_6
    have p3_7 := (hb67.cell (p := ⟨w3.heap.size, 3, none⟩) (by show w3.heap.size < _; omega)).trans p3_6
    have hz7 : w6.heap.size + 1 ≤ w7.heap.size := by simpa using hb7.size
    have HG7 := Lib.hid (HG6.out.below hb67)
    have HW7 := Lib.hid (HW6.out.keep fun p _ hp => ⟨hb67.cell (by omega), hb67.frozen (by omega)⟩)
    have HC7 := Lib.hid (HC6.out.keep (fun p _ hp => hb67.cell (by omega)) hn4')
    have HF7 := Lib.hid (fun (p : Addr) (hp : n4 ≤ p.block) (hpB : p.block < w4.heap.size) => (hb67.frozen (by omega)).trans (HF6.out p hp hpB))
    have HB7 := Lib.hid (HB6.out.trans (hb67.mono (by omega)))
    clear hb6a hb7 hb67 b_6 x_6 p0_6 p1_6 p2_6 p3_6 p0_6a p1_6a p2_6a p3_6a
    go_wp2_with fail
    -- the argument is as it was
    go_region_held3 (fun W => W.cell? ⟨w4.heap.size, 0, none⟩ = some (.slice (some ⟨n4, 0, none⟩) ts.length ts.length) ∧ W.cell? ⟨w.heap.size, 0, none⟩ = some (.slice A ts.length c))
      (first | exact ⟨x_7, b_7⟩ | exact ⟨x_8, b_8⟩ | exact ⟨x_9, b_9⟩)
      (first
        | (go_at_call 18
           refine (toLedger_any A ts c _ ?_ (by omega) (by omega)).mono ?_
           · first | exact (HA.out.below HB7.out).mono (by show w.heap.size ≤ w7.heap.size; omega) | exact (HA.out.below HB7.out.drew).mono (by show w.heap.size ≤ w7.heap.size; omega)
           rintro e w8 ⟨n8, rfl, hn8, hts8, hb8⟩
           have x_8 := (hb8.cell (p := ⟨w4.heap.size, 0, none⟩) (by show w4.heap.size < w7.heap.size; omega)).trans x_7
           have b_8 := (hb8.cell (p := ⟨w.heap.size, 0, none⟩) (by show w.heap.size < w7.heap.size; omega)).trans b_7
           have hz8 : w7.heap.size ≤ w8.heap.size := hb8.size
           have HT8 := Lib.hid hts8
           have HB78 := Lib.hid (show Below w7.heap.size w7 w8 by first | exact hb8 | exact (Below.refl w7.heap.size w7).drew.trans hb8)
           clear hts8 hb8)
        | (go_at_call 21
           refine (eqLedger_same _ _ ts _ _ n4 _ w4.heap.size w8.heap.size _ ((HC7.out.tms hn4').keep fun p _ hp => (HB78.out.cell (by show p.block < w7.heap.size; omega))) HT8.out (by show w4.heap.size ≤ w8.heap.size; omega) (Nat.le_refl _) (by omega) (by omega)).mono ?_
           rintro e w9 ⟨rfl, hb9⟩
           have x_9 := (hb9.cell (p := ⟨w4.heap.size, 0, none⟩) (by show w4.heap.size < w8.heap.size; omega)).trans x_8
           have b_9 := (hb9.cell (p := ⟨w.heap.size, 0, none⟩) (by show w.heap.size < w8.heap.size; omega)).trans b_8
           have hz9 : w8.heap.size ≤ w9.heap.size := hb9.size
           have HB79 := Lib.hid (show Below w7.heap.size w7 w9 by first | exact HB78.out.trans (hb9.mono (by show w7.heap.size ≤ w8.heap.size; omega)) | exact HB78.out.drew.trans (hb9.mono (by show w7.heap.size ≤ w8.heap.size; omega)))
           clear hb9))
    have p0_9 := (HB79.out.cell (p := ⟨w3.heap.size, 0, none⟩) (by show w3.heap.size < _; omega)).trans p0_7
    have p1_9 := (HB79.out.cell (p := ⟨w3.heap.size, 1, none⟩) (by show w3.heap.size < _; omega)).trans p1_7
    have p2_9 := (HB79.out.cell (p := ⟨w3.heap.size, 2, none⟩) (by show w3.heap.size < _; omega)).trans p2_7
    have p3_9 := (HB79.out.cell (p := ⟨w3.heap.size, 3, none⟩) (by show w3.heap.size < _; omega)).trans p3_7
    have g0_9 := (HB79.out.cell (p := ⟨w6.heap.size, 0, none⟩) (by show w6.heap.size < _; omega)).trans g0_7
    have g1_9 := (HB79.out.cell (p := ⟨w6.heap.size, 1, none⟩) (by show w6.heap.size < _; omega)).trans g1_7
    have g2_9 := (HB79.out.cell (p := ⟨w6.heap.size, 2, none⟩) (by show w6.heap.size < _; omega)).trans g2_7
    have g3_9 := (HB79.out.cell (p := ⟨w6.heap.size, 3, none⟩) (by show w6.heap.size < _; omega)).trans g3_7
    have HG9 := Lib.hid (HG7.out.keep fun p _ hp => ⟨HB79.out.cell (by omega), HB79.out.frozen (by omega)⟩)
    have HW9 := Lib.hid (HW7.out.keep fun p _ hp => ⟨HB79.out.cell (by omega), HB79.out.frozen (by omega)⟩)
    have HC9 := Lib.hid (HC7.out.keep (fun p _ hp => HB79.out.cell (by omega)) hn4')
    have HF9 := Lib.hid (fun (p : Addr) (hp : n4 ≤ p.block) (hpB : p.block < w4.heap.size) => (HB79.out.frozen (by omega)).trans (HF7.out p hp hpB))
    have HB9 := Lib.hid (HB7.out.trans (HB79.out.mono (by omega)))
    clear x_7 b_7 x_8 b_8 p0_7 p1_7 p2_7 p3_7 g0_7 g1_7 g2_7 g3_7
    go_wp2_with fail
    -- numbers are written into the argument: the answer stays
    refine (markLedger_any n4 ts ts.length w4.heap.size 1 w9 HC9.out hn4' (by omega) HF9.out (by omega) (by omega) (by omega) (by omega)).mono ?_
    rintro e w10 ⟨⟨r10, rfl, hr10⟩, hin10⟩
    have b_10 := (hin10.cell (p := ⟨w.heap.size, 0, none⟩) (.inl (by show w.heap.size < _; omega))).trans b_9
    have p0_10 := (hin10.cell (p := ⟨w3.heap.size, 0, none⟩) (.inl (by show w3.heap.size < _; omega))).trans p0_9
    have p1_10 := (hin10.cell (p := ⟨w3.heap.size, 1, none⟩) (.inl (by show w3.heap.size < _; omega))).trans p1_9
    have p2_10 := (hin10.cell (p := ⟨w3.heap.size, 2, none⟩) (.inl (by show w3.heap.size < _; omega))).trans p2_9
    have p3_10 := (hin10.cell (p := ⟨w3.heap.size, 3, none⟩) (.inl (by show w3.heap.size < _; omega))).trans p3_9
    have g0_10 := (hin10.cell (p := ⟨w6.heap.size, 0, none⟩) (.inr ⟨by show _ ≤ w6.heap.size; omega, by show w6.heap.size < _; omega⟩)).trans g0_9
    have g1_10 := (hin10.cell (p := ⟨w6.heap.size, 1, none⟩) (.inr ⟨by show _ ≤ w6.heap.size; omega, by show w6.heap.size < _; omega⟩)).trans g1_9
    have g2_10 := (hin10.cell (p := ⟨w6.heap.size, 2, none⟩) (.inr ⟨by show _ ≤ w6.heap.size; omega, by show w6.heap.size < _; omega⟩)).trans g2_9
    have g3_10 := (hin10.cell (p := ⟨w6.heap.size, 3, none⟩) (.inr ⟨by show _ ≤ w6.heap.size; omega, by show w6.heap.size < _; omega⟩)).trans g3_9
    have hz10 := hin10.below.size
    have HG10 := Lib.hid (HG9.out.keep fun p hp hpB => ⟨hin10.cell (.inr ⟨by omega, by omega⟩), hin10.frozen p (by omega)⟩)
    have HW10 := Lib.hid (HW9.out.keep fun p _ hp => ⟨hin10.cell (.inl (by omega)), hin10.frozen p (by omega)⟩)
    have HB10 := Lib.hid (HB9.out.trans (hin10.below.mono (by omega)))
    clear hin10 x_9 b_9 p0_9 p1_9 p2_9 p3_9 g0_9 g1_9 g2_9 g3_9
    go_wp2_with fail
    refine (eqTerm_same t.kind t.a t.b A6 A3 t.text c6 c3 _ _ _ _ w10 HG10.out.bytes HW10.out.bytes (by omega) (by omega) (by omega)).mono ?_
    rintro e w11 ⟨rfl, hb11⟩
    have b_11 := (hb11.cell (p := ⟨w.heap.size, 0, none⟩) (by show w.heap.size < _; omega)).trans b_10
    have p0_11 := (hb11.cell (p := ⟨w3.heap.size, 0, none⟩) (by show w3.heap.size < _; omega)).trans p0_10
    have p1_11 := (hb11.cell (p := ⟨w3.heap.size, 1, none⟩) (by show w3.heap.size < _; omega)).trans p1_10
    have p2_11 := (hb11.cell (p := ⟨w3.heap.size, 2, none⟩) (by show w3.heap.size < _; omega)).trans p2_10
    have p3_11 := (hb11.cell (p := ⟨w3.heap.size, 3, none⟩) (by show w3.heap.size < _; omega)).trans p3_10
    have g0_11 := (hb11.cell (p := ⟨w6.heap.size, 0, none⟩) (by show w6.heap.size < _; omega)).trans g0_10
    have g1_11 := (hb11.cell (p := ⟨w6.heap.size, 1, none⟩) (by show w6.heap.size < _; omega)).trans g1_10
    have g2_11 := (hb11.cell (p := ⟨w6.heap.size, 2, none⟩) (by show w6.heap.size < _; omega)).trans g2_10
    have g3_11 := (hb11.cell (p := ⟨w6.heap.size, 3, none⟩) (by show w6.heap.size < _; omega)).trans g3_10
    have hz11 := hb11.size
    have HG11 := Lib.hid (HG10.out.keep fun p _ hp => ⟨hb11.cell (by omega), hb11.frozen (by omega)⟩)
    have HW11 := Lib.hid (HW10.out.keep fun p _ hp => ⟨hb11.cell (by omega), hb11.frozen (by omega)⟩)
    have HB11 := Lib.hid (HB10.out.trans (hb11.mono (by omega)))
    clear hb11 b_10 p0_10 p1_10 p2_10 p3_10 g0_10 g1_10 g2_10 g3_10
    go_wp2_with fail
    -- numbers are written into the answer
    refine (markTerm_any t A6 c6 _ _ 1 w11 HG11.out (by omega) (by omega) (by omega) (by omega) (by omega)).mono ?_
    rintro e w12 ⟨rfl, hmk12, hin12⟩
    have b_12 := (hin12.cell (p := ⟨w.heap.size, 0, none⟩) (.inl (by show w.heap.size < _; omega))).trans b_11
    have p0_12 := (hin12.cell (p := ⟨w3.heap.size, 0, none⟩) (.inl (by show w3.heap.size < _; omega))).trans p0_11
    have p1_12 := (hin12.cell (p := ⟨w3.heap.size, 1, none⟩) (.inl (by show w3.heap.size < _; omega))).trans p1_11
    have p2_12 := (hin12.cell (p := ⟨w3.heap.size, 2, none⟩) (.inl (by show w3.heap.size < _; omega))).trans p2_11
    have p3_12 := (hin12.cell (p := ⟨w3.heap.size, 3, none⟩) (.inl (by show w3.heap.size < _; omega))).trans p3_11
    have g0_12 := (hin12.cell (p := ⟨w6.heap.size, 0, none⟩) (.inr ⟨by show _ ≤ w6.heap.size; omega, by show w6.heap.size < _; omega⟩)).trans g0_11
    have g1_12 := (hin12.cell (p := ⟨w6.heap.size, 1, none⟩) (.inr ⟨by show _ ≤ w6.heap.size; omega, by show w6.heap.size < _; omega⟩)).trans g1_11
    have g2_12 := (hin12.cell (p := ⟨w6.heap.size, 2, none⟩) (.inr ⟨by show _ ≤ w6.heap.size; omega, by show w6.heap.size < _; omega⟩)).trans g2_11
    have g3_12 := (hin12.cell (p := ⟨w6.heap.size, 3, none⟩) (.inr ⟨by show _ ≤ w6.heap.size; omega, by show w6.heap.size < _; omega⟩)).trans g3_11
    have hz12 := hin12.below.size
    have HG12 := Lib.hid hmk12
    have HW12 := Lib.hid (HW11.out.keep fun p _ hp => ⟨hin12.cell (.inl (by omega)), hin12.frozen p (by omega)⟩)
    have HB12 := Lib.hid (HB11.out.trans (hin12.below.mono (by omega)))
    clear hmk12 hin12 b_11 p0_11 p1_11 p2_11 p3_11 g0_11 g1_11 g2_11 g3_11
    go_wp2_with fail
    refine (heldTerm_any t A6 c6 _ _ 1 w12 HG12.out (by omega) (by omega) (by omega) (by omega)).mono ?_
    rintro e w13 ⟨rfl, hb13⟩
    have b_13 := (hb13.cell (p := ⟨w.heap.size, 0, none⟩) (by show w.heap.size < _; omega)).trans b_12
    have p0_13 := (hb13.cell (p := ⟨w3.heap.size, 0, none⟩) (by show w3.heap.size < _; omega)).trans p0_12
    have p1_13 := (hb13.cell (p := ⟨w3.heap.size, 1, none⟩) (by show w3.heap.size < _; omega)).trans p1_12
    have p2_13 := (hb13.cell (p := ⟨w3.heap.size, 2, none⟩) (by show w3.heap.size < _; omega)).trans p2_12
    have p3_13 := (hb13.cell (p := ⟨w3.heap.size, 3, none⟩) (by show w3.heap.size < _; omega)).trans p3_12
    have g0_13 := (hb13.cell (p := ⟨w6.heap.size, 0, none⟩) (by show w6.heap.size < _; omega)).trans g0_12
    have g1_13 := (hb13.cell (p := ⟨w6.heap.size, 1, none⟩) (by show w6.heap.size < _; omega)).trans g1_12
    have g2_13 := (hb13.cell (p := ⟨w6.heap.size, 2, none⟩) (by show w6.heap.size < _; omega)).trans g2_12
    have g3_13 := (hb13.cell (p := ⟨w6.heap.size, 3, none⟩) (by show w6.heap.size < _; omega)).trans g3_12
    have hz13 := hb13.size
    have HG13 := Lib.hid (HG12.out.keep fun p _ hp => ⟨hb13.cell (by omega), hb13.frozen (by omega)⟩)
    have HW13 := Lib.hid (HW12.out.keep fun p _ hp => ⟨hb13.cell (by omega), hb13.frozen (by omega)⟩)
    have HB13 := Lib.hid (HB12.out.trans (hb13.mono (by omega)))
    clear hb13 b_12 p0_12 p1_12 p2_12 p3_12 g0_12 g1_12 g2_12 g3_12
    have hq0 : (0 : Int) ≤ 1 + (t.text.length : Int) := by omega
    have hq1 : ((1 + (t.text.length : Int)) != 1 + (t.text.length : Int)) = false := by simp
    go_wp2_with fail
    -- once more
    refine (toLedger_nn A ts c w13 ?_ (by omega) (by omega)).mono ?_
    · exact (HA.out.below HB13.out).mono (by omega)
    rintro e w15 ⟨n15, rfl, hn15, hn15', hcp15, hnn15, _, hb15⟩
    have hz15 := hb15.size
    have HC15 := Lib.hid hcp15
    have HN15 := Lib.hid hnn15
    have HB1315 := Lib.hid hb15
    clear hcp15 hnn15 hb15
    go_wp2_with fail
    have himpl := implAt_any n15 w15.heap.size ts ts.length id w15 HC15.out HN15.out hn15' (Nat.le_refl _) (by omega) (by omega)
    rw [← HTm.out, ← HOk.out] at himpl
    refine himpl.mono ?_
    clear himpl
    rintro e w14 ⟨A14, c14, rfl, hbf14, hb14⟩
    have hb1314 := HB1315.out.trans (hb14.mono (by omega))
    have p0_14 := (hb1314.cell (p := ⟨w3.heap.size, 0, none⟩) (by show w3.heap.size < _; omega)).trans p0_13
    have p1_14 := (hb1314.cell (p := ⟨w3.heap.size, 1, none⟩) (by show w3.heap.size < _; omega)).trans p1_13
    have p2_14 := (hb1314.cell (p := ⟨w3.heap.size, 2, none⟩) (by show w3.heap.size < _; omega)).trans p2_13
    have p3_14 := (hb1314.cell (p := ⟨w3.heap.size, 3, none⟩) (by show w3.heap.size < _; omega)).trans p3_13
    have g0_14 := (hb1314.cell (p := ⟨w6.heap.size, 0, none⟩) (by show w6.heap.size < _; omega)).trans g0_13
    have g1_14 := (hb1314.cell (p := ⟨w6.heap.size, 1, none⟩) (by show w6.heap.size < _; omega)).trans g1_13
    have g2_14 := (hb1314.cell (p := ⟨w6.heap.size, 2, none⟩) (by show w6.heap.size < _; omega)).trans g2_13
    have g3_14 := (hb1314.cell (p := ⟨w6.heap.size, 3, none⟩) (by show w6.heap.size < _; omega)).trans g3_13
    have hz14 : w15.heap.size ≤ w14.heap.size := hb14.size
    have HH14 := Lib.hid hbf14
    have HW14 := Lib.hid (HW13.out.keep fun p _ hp => ⟨hb1314.cell (by omega), hb1314.frozen (by omega)⟩)
    have HG14 := Lib.hid (HG13.out.keep fun p _ hp => ⟨hb1314.cell (by omega), hb1314.frozen (by omega)⟩)
    have HB14 := Lib.hid (HB13.out.trans (hb1314.mono (by omega)))
    clear hbf14 hb14 hb1314 b_13 p0_13 p1_13 p2_13 p3_13 g0_13 g1_13 g2_13 g3_13
    have p0_14a := (World.cell?_alloc_lt w14 (.cells #[.int .i64 t.kind, .int .i64 t.a, .int .i64 t.b, .slice A14 t.text.length c14] 35) ⟨w3.heap.size, 0, none⟩ (by show w3.heap.size < _; omega)).trans p0_14
    have p1_14a := (World.cell?_alloc_lt w14 (.cells #[.int .i64 t.kind, .int .i64 t.a, .int .i64 t.b, .slice A14 t.text.length c14] 35) ⟨w3.heap.size, 1, none⟩ (by show w3.heap.size < _; omega)).trans p1_14
    have p2_14a := (World.cell?_alloc_lt w14 (.cells #[.int .i64 t.kind, .int .i64 t.a, .int .i64 t.b, .slice A14 t.text.length c14] 35) ⟨w3.heap.size, 2, none⟩ (by show w3.heap.size < _; omega)).trans p2_14
    have p3_14a := (World.cell?_alloc_lt w14 (.cells #[.int .i64 t.kind, .int .i64 t.a, .int .i64 t.b, .slice A14 t.text.length c14] 35) ⟨w3.heap.size, 3, none⟩ (by show w3.heap.size < _; omega)).trans p3_14
    have g0_14a := (World.cell?_alloc_lt w14 (.cells #[.int .i64 t.kind, .int .i64 t.a, .int .i64 t.b, .slice A14 t.text.length c14] 35) ⟨w6.heap.size, 0, none⟩ (by show w6.heap.size < _; omega)).trans g0_14
    have g1_14a := (World.cell?_alloc_lt w14 (.cells #[.int .i64 t.kind, .int .i64 t.a, .int .i64 t.b, .slice A14 t.text.length c14] 35) ⟨w6.heap.size, 1, none⟩ (by show w6.heap.size < _; omega)).trans g1_14
    have g2_14a := (World.cell?_alloc_lt w14 (.cells #[.int .i64 t.kind, .int .i64 t.a, .int .i64 t.b, .slice A14 t.text.length c14] 35) ⟨w6.heap.size, 2, none⟩ (by show w6.heap.size < _; omega)).trans g2_14
    have g3_14a := (World.cell?_alloc_lt w14 (.cells #[.int .i64 t.kind, .int .i64 t.a, .int .i64 t.b, .slice A14 t.text.length c14] 35) ⟨w6.heap.size, 3, none⟩ (by show w6.heap.size < _; omega)).trans g3_14
    go_wp2_with fail
    have hb14a : Below w14.heap.size w14 (w14.alloc (.cells #[.int .i64 t.kind, .int .i64 t.a, .int .i64 t.b, .slice A14 t.text.length c14] 35)) := (Below.refl _ _).alloc (Nat.le_refl _) _
    refine (eqTerm_same t.kind t.a t.b A14 A3 t.text c14 c3 _ _ _ _ (w14.alloc (.cells #[.int .i64 t.kind, .int .i64 t.a, .int .i64 t.b, .slice A14 t.text.length c14] 35)) (HH14.out.bytes.below hb14a) (HW14.out.bytes.keep fun p _ hp => hb14a.cell (by omega)) (by simp) (by simp; omega) (by omega)).mono ?_
    rintro e w16 ⟨rfl, hb16⟩
    have hb1416 := hb14a.trans (hb16.mono (by simp))
    have g0_16 := (hb1416.cell (p := ⟨w6.heap.size, 0, none⟩) (by show w6.heap.size < _; omega)).trans g0_14
    have g1_16 := (hb1416.cell (p := ⟨w6.heap.size, 1, none⟩) (by show w6.heap.size < _; omega)).trans g1_14
    have g2_16 := (hb1416.cell (p := ⟨w6.heap.size, 2, none⟩) (by show w6.heap.size < _; omega)).trans g2_14
    have g3_16 := (hb1416.cell (p := ⟨w6.heap.size, 3, none⟩) (by show w6.heap.size < _; omega)).trans g3_14
    have hz16 : w14.heap.size + 1 ≤ w16.heap.size := by simpa using hb16.size
    have HG16 := Lib.hid (HG14.out.keep fun p _ hp => ⟨hb1416.cell (by omega), hb1416.frozen (by omega)⟩)
    have HB16 := Lib.hid (HB14.out.trans (hb1416.mono (by omega)))
    clear hb14a hb16 hb1416 p0_14 p1_14 p2_14 p3_14 g0_14 g1_14 g2_14 g3_14 p0_14a p1_14a p2_14a p3_14a g0_14a g1_14a g2_14a g3_14a
    go_wp2_with fail
    refine (heldTerm_any t A6 c6 _ _ 1 w16 HG16.out (by omega) (by omega) (by omega) (by omega)).mono ?_
    rintro e w17 ⟨rfl, hb17⟩
    have HB17 := Lib.hid (HB16.out.trans (hb17.mono (by omega)))
    clear hb17
    go_wp2_with fail
    go_ret
    exact ⟨rfl, HB17.out⟩

end Go.Proofs.Ytipfoafamamnoaa
