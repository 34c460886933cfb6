/-
  The program's Secret, Leaks, Missing.
-/
import Derived.Test.YtigkojdchpjkcaaGOp
import Derived.Test.YtigkojdchpjkcaaDedM
import Derived.Deep.RegionHeld3
namespace Go.Proofs.Ytigkojdchpjkcaa
open Go.RowKit Go.Maps

/-- A set of numbers below n. -/
theorem mem_wf {ms : List Int} {n : Nat} {f : Nat → Bool} (hn : n ≤ 400) (h : ∀ x, x ∈ ms ↔ ∃ j : Nat, j < n ∧ x = (j : Int) ∧ f j = true) (y : Int) (hy : y ∈ ms) : WfI y := by
  obtain ⟨j, h1, h2, _⟩ := (h y).1 hy
  exact wfI_of (by omega) (by omega)
theorem mem_range {ms : List Int} {n : Nat} {f : Nat → Bool} (h : ∀ x, x ∈ ms ↔ ∃ j : Nat, j < n ∧ x = (j : Int) ∧ f j = true) (y : Int) (hy : y ∈ ms) : 0 ≤ y ∧ y < n := by
  obtain ⟨j, h1, h2, _⟩ := (h y).1 hy
  omega
theorem sort_filter {l : List Int} (h : l.Nodup) (p : Int → Bool) : sortV (l.filter p) = (sortV l).filter p :=
  asc_ext (asc_sortV (List.Pairwise.filter p h)) (asc_filter (asc_sortV h) p) fun x => by rw [mem_sortV, List.mem_filter, List.mem_filter, mem_sortV]
theorem in_can {ts : List Tm} {hv ms : List Int} (hask : askB ts hv = true) (h : ∀ x, x ∈ ms ↔ ∃ j : Nat, j < ts.length ∧ x = (j : Int) ∧ cnB ts (endB ts hv) j = true) (x : Int) : canV ts hv x = inB ms x := by
  unfold canV
  rw [hask, Bool.eq_iff_iff, inB]
  simp only [Bool.true_and, Bool.and_eq_true, decide_eq_true_eq, hasB]
  rw [h]
  constructor
  · rintro ⟨h1, h2⟩
    exact ⟨x.toNat, by omega, by omega, h2⟩
  · rintro ⟨j, h1, rfl, h3⟩
    exact ⟨⟨by omega, by omega⟩, by simpa using h3⟩

set_option maxRecDepth 100000 in
set_option maxHeartbeats 1000000 in
theorem implSecret_any (A : Option Addr) (ts : List Tm) (c L B : Nat) (A2 : Option Addr) (hv : List Int) (c2 : Nat) (want : Int) (w : World) (hA : TmsIn w L B A ts) (hB : B ≤ w.heap.size) (hn : ts.length ≤ 1048576) (hbk : bulk ts ≤ 1048576) (hA2 : IntsIn w 0 w.heap.size A2 hv) (hn2 : hv.length ≤ 1048576) :
    Calls Try.prog 31 #[.agg #[.slice A ts.length c], .slice A2 hv.length c2, .int .i64 want] w (fun e w' => e = .returned (.bool (secretV ts hv want)) ∧ Below w.heap.size w w') := by
  have HA := Lib.hid hA
  have HA2 := Lib.hid hA2
  clear hA hA2
  go_enter Try.func31, Try.ntmps31
  go_wp2_with fail
  have hb0 : Below w.heap.size w (w.alloc (.cells #[.slice A ts.length c] 25)) := (Below.refl _ _).alloc (Nat.le_refl _) _
  refine (readFor_any A ts c L B hv.length _ (HA.out.keep fun p _ hp => hb0.cell (by omega)) (by simp; omega) hn hbk).mono ?_
  rintro e w1 (⟨hok, hle, A1, c1, M1, rfl, hbk1, hb1⟩ | ⟨hno, rfl, hb1⟩)
  · have hask : askB ts hv = true := by simp [askB, lokB_true hok, show hv.length ≤ 1000 by omega]
    have hl0 := (hb1.cell (p := ⟨w.heap.size, 0, none⟩) (by simp)).trans (by simp : _ = some (Value.slice A ts.length c))
    have HB1 := Lib.hid (hb0.trans (hb1.mono (by simp)))
    have HOk := Lib.hid hok
    have HBk := Lib.hid hbk1
    have hlen := hok.1
    have hz1 : w.heap.size + 1 ≤ w1.heap.size := by simpa using hb1.size
    clear hb0 hb1 hok hbk1
    go_wp2_with fail
    obtain ⟨W2, hW2⟩ : ∃ x, x = w1.alloc (.cells #[.slice A1 ts.length c1, .map (some M1)] 64) := ⟨_, rfl⟩
    have hb2 : Below w1.heap.size w1 W2 := by rw [hW2]; exact (Below.refl _ _).alloc (Nat.le_refl _) _
    have hx2 : W2.cell? ⟨w1.heap.size, 0, none⟩ = some (.slice A1 ts.length c1) ∧ W2.cell? ⟨w1.heap.size, 1, none⟩ = some (.map (some M1)) := by rw [hW2]; exact ⟨by simp, by simp⟩
    have hz2 : W2.heap.size = w1.heap.size + 1 := by rw [hW2]; simp
    have HL2 := Lib.hid ((hb2.cell (p := ⟨w.heap.size, 0, none⟩) (by show w.heap.size < _; omega)).trans hl0)
    have HX2 := Lib.hid hx2
    have HB2 := Lib.hid (HB1.out.trans (hb2.mono (by omega)))
    have HBk2 := Lib.hid (HBk.out.below hb2)
    have HA22 := Lib.hid ((HA2.out.keep fun p _ hp => HB2.out.cell hp).mono (show w.heap.size ≤ W2.heap.size by omega))
    have HT2 := Lib.hid (HA.out.keep fun p _ hp => HB2.out.cell (show p.block < w.heap.size by omega))
    rw [← hW2]
    clear hW2 hb2 hx2 HBk HA2 hl0
    have hhas := has_any A1 ts.length c1 (some M1) want W2
    cases hh : hasB ts.length want with
    | false =>
      rw [hh] at hhas
      have HV := Lib.hid (show secretV ts hv want = false by simp [secretV, hh])
      have y0 := HX2.out.1
      have y1 := HX2.out.2
      clear hh hask
      go_wp2_with fail
      refine hhas.mono ?_
      rintro e w3 ⟨rfl, hb3⟩
      have HB3 := Lib.hid (HB2.out.trans (hb3.mono (by omega)))
      clear hb3 hhas y0 y1
      go_wp2_with fail
      go_ret
      exact ⟨ret_bool HV.out.symm, HB3.out⟩
    | true =>
      rw [hh] at hhas
      have hr : 0 ≤ want ∧ want < ts.length := by simpa [hasB] using hh
      have HV := Lib.hid (show secretV ts hv want = !canV ts hv want by simp [secretV, hh, hask])
      have HAsk := Lib.hid hask
      have y0 := HX2.out.1
      have y1 := HX2.out.2
      clear hh hask
      go_wp2_with fail
      refine hhas.mono ?_
      rintro e w3 ⟨rfl, hb3⟩
      have HB3 := Lib.hid (HB2.out.trans (hb3.mono (by omega)))
      have hz3 := hb3.size
      have HBk3 := Lib.hid (HBk2.out.below (hb3.mono (by omega)))
      have HA23 := Lib.hid ((HA22.out.keep fun p _ hp => hb3.cell hp).mono hz3)
      replace y0 := (hb3.cell (p := ⟨w1.heap.size, 0, none⟩) (by show w1.heap.size < _; omega)).trans y0
      replace y1 := (hb3.cell (p := ⟨w1.heap.size, 1, none⟩) (by show w1.heap.size < _; omega)).trans y1
      clear hb3 hhas HBk2 HA22
      go_wp2_with fail
      refine (made_any A1 ts c1 _ _ (some M1) A2 hv c2 w3 HOk.out HBk3.out (by omega) HA23.out hn2).mono ?_
      rintro e w4 ⟨M, v, ms, rfl, hM, hset, hsz, hnd, hmem, hb4⟩
      have HSet := Lib.hid hset
      have HWf := Lib.hid (mem_wf hlen hmem)
      have hml : ms.length ≤ ts.length := nodup_length hnd (mem_range hmem)
      have HB4 := Lib.hid (HB3.out.trans (hb4.mono (by omega)))
      have HR := Lib.hid (show secretV ts hv want = !inB ms want by rw [HV.out, in_can HAsk.out hmem])
      have hz4 := hb4.size
      clear hset hnd hmem hb4 y0 y1
      go_wp2_with fail
      obtain ⟨W5, hW5⟩ : ∃ x, x = w4.alloc (.cells #[.int .i64 want] 3) := ⟨_, rfl⟩
      have hb5 : Below w4.heap.size w4 W5 := by rw [hW5]; exact (Below.refl _ _).alloc (Nat.le_refl _) _
      have hz5 : W5.heap.size = w4.heap.size + 1 := by rw [hW5]; simp
      have hc5 : W5.cell? ⟨w4.heap.size, 0, none⟩ = some (.int .i64 want) := by rw [hW5]; simp
      rw [← hW5]
      clear hW5
      refine (hasI_any M (M + 3) ms v (some ⟨w4.heap.size, 0, none⟩) [want] 1 W5 (HSet.out.below hb5) HWf.out (fun y hy => by simp at hy; subst hy; exact wfI_of hr.1 (by omega)) (ints_new (by omega) fun j hj => by
        have hj0 : j = 0 := by simpa using hj
        subst hj0
        exact hc5) (by simp)).mono ?_
      rintro e w6 ⟨rfl, rfl⟩
      have HB6 := Lib.hid (HB4.out.trans (hb5.mono (by omega)))
      simp only [List.all_cons, List.all_nil, Bool.and_true]
      obtain ⟨r, hr2⟩ : ∃ r, r = inB ms want := ⟨_, rfl⟩
      have HR2 := Lib.hid (show secretV ts hv want = !r by rw [HR.out, hr2])
      rw [← hr2]
      clear hb5 hc5 hr2 HR
      go_wp2_with fail
      all_goals refine bodyPost_ret (v := .bool (!r)) (by simp [results, Try.results31, go_sem]) rfl ?_
      all_goals exact ⟨ret_bool HR2.out.symm, HB6.out⟩
  · have HV := Lib.hid (show secretV ts hv want = false by
      cases h : askB ts hv with
      | false => simp [secretV, h]
      | true =>
        unfold askB at h
        simp only [Bool.and_eq_true, decide_eq_true_eq] at h
        exact absurd ⟨lok_of h.1, by omega⟩ hno)
    have HB1 := Lib.hid (hb0.trans (hb1.mono (by simp)))
    clear hb0 hb1 hno
    go_wp2_with fail
    all_goals go_ret
    all_goals exact ⟨ret_bool HV.out.symm, HB1.out.alloc HB1.out.size _⟩

set_option maxRecDepth 100000 in
set_option maxHeartbeats 1000000 in
/-- What is lacking: told alone, and not in the set. -/
theorem missing1_any (A : Option Addr) (ts : List Tm) (c L B : Nat) (Mb : Option Nat) (M R0 : Nat) (ms : List Int) (v : Value) (Bb Bc : Nat) (x : Int) (w : World) (hok : LOk ts) (hA : BkIn w L B A ts) (hx : 0 ≤ x ∧ x < ts.length)
    (h0 : w.cell? ⟨Bb, 0, none⟩ = some (.slice A ts.length c)) (h1 : w.cell? ⟨Bb, 1, none⟩ = some (.map Mb)) (h2 : w.cell? ⟨Bc, 0, none⟩ = some (.pointer (some ⟨M + 1, 0, none⟩))) (hs : NumSet w M R0 ms v) (hms : ∀ y ∈ ms, WfI y) :
    Calls Try.prog 66 #[.int .i64 x, .pointer (some ⟨Bb, 0, none⟩), .pointer (some ⟨Bc, 0, none⟩)] w fun e w' => e = .returned (.bool (lowB ts x && !inB ms x)) ∧ Below w.heap.size w w' := by
  have hlen : ts.length ≤ 400 := hok.1
  have HS := Lib.hid hs
  have HMs := Lib.hid hms
  have htold := onlyTold_any A ts c L B Mb x w hok hA hx
  have hb2 : Bc < w.heap.size := World.block_lt_of_cell? w _ h2
  clear hs hms hA hok
  go_enter Try.func66, Try.ntmps66
  cases hl : lowB ts x with
  | false =>
    rw [hl] at htold
    clear hl
    go_wp2_with fail
    refine htold.mono ?_
    rintro e w2 ⟨rfl, hb⟩
    have HB := Lib.hid hb
    clear hb htold
    go_wp2_with fail
    go_ret
    exact ⟨rfl, HB.out⟩
  | true =>
    rw [hl] at htold
    clear hl
    go_wp2_with fail
    refine htold.mono ?_
    rintro e w2 ⟨rfl, hb⟩
    have q := (hb.cell (p := ⟨Bc, 0, none⟩) hb2).trans h2
    have HB := Lib.hid hb
    have HS2 := Lib.hid (HS.out.below hb)
    have hz := hb.size
    clear hb htold h0 h1 h2
    go_wp2_with fail
    obtain ⟨W3, hW3⟩ : ∃ y, y = w2.alloc (.cells #[.int .i64 x] 3) := ⟨_, rfl⟩
    have hb3 : Below w2.heap.size w2 W3 := by rw [hW3]; exact (Below.refl _ _).alloc (Nat.le_refl _) _
    have hz3 : W3.heap.size = w2.heap.size + 1 := by rw [hW3]; simp
    have hc3 : W3.cell? ⟨w2.heap.size, 0, none⟩ = some (.int .i64 x) := by rw [hW3]; simp
    rw [← hW3]
    clear hW3
    refine (hasI_any M R0 ms v (some ⟨w2.heap.size, 0, none⟩) [x] 1 W3 (HS2.out.below hb3) HMs.out (fun y hy => by simp at hy; subst hy; exact wfI_of hx.1 (by omega)) (ints_new (by omega) fun j hj => by
      have hj0 : j = 0 := by simpa using hj
      subst hj0
      exact hc3) (by simp)).mono ?_
    rintro e w4 ⟨rfl, rfl⟩
    have HB4 := Lib.hid (HB.out.trans (hb3.mono (by omega)))
    simp only [List.all_cons, List.all_nil, Bool.and_true]
    obtain ⟨r, hr⟩ : ∃ r, r = inB ms x := ⟨_, rfl⟩
    have HR := Lib.hid hr
    rw [← hr]
    clear hb3 hc3 hr
    go_wp2_with fail
    all_goals refine bodyPost_ret (v := .bool (!r)) (by simp [results, Try.results66, go_sem]) rfl ?_
    all_goals exact ⟨ret_bool (by rw [← HR.out]; rfl), HB4.out⟩

set_option maxRecDepth 100000 in
set_option maxHeartbeats 1000000 in
theorem implMissing_any (A : Option Addr) (ts : List Tm) (c L B : Nat) (A2 : Option Addr) (hv : List Int) (c2 : Nat) (want : Int) (w : World) (hA : TmsIn w L B A ts) (hB : B ≤ w.heap.size) (hn : ts.length ≤ 1048576) (hbk : bulk ts ≤ 1048576) (hA2 : IntsIn w 0 w.heap.size A2 hv) (hn2 : hv.length ≤ 1048576) :
    Calls Try.prog 33 #[.agg #[.slice A ts.length c], .slice A2 hv.length c2, .int .i64 want] w (NewIntsFr (missV ts hv want) w) := by
  have HA := Lib.hid hA
  have HA2 := Lib.hid hA2
  clear hA hA2
  go_enter Try.func33, Try.ntmps33
  go_wp2_with fail
  have hb0 : Below w.heap.size w (w.alloc (.cells #[.slice A ts.length c] 25)) := (Below.refl _ _).alloc (Nat.le_refl _) _
  refine (readFor_any A ts c L B hv.length _ (HA.out.keep fun p _ hp => hb0.cell (by omega)) (by simp; omega) hn hbk).mono ?_
  rintro e w1 (⟨hok, hle, A1, c1, M1, rfl, hbk1, hb1⟩ | ⟨hno, rfl, hb1⟩)
  · have hask : askB ts hv = true := by simp [askB, lokB_true hok, show hv.length ≤ 1000 by omega]
    have hl0 := (hb1.cell (p := ⟨w.heap.size, 0, none⟩) (by simp)).trans (by simp : _ = some (Value.slice A ts.length c))
    have HB1 := Lib.hid (hb0.trans (hb1.mono (by simp)))
    have HOk := Lib.hid hok
    have HBk := Lib.hid hbk1
    have hlen := hok.1
    have hz1 : w.heap.size + 1 ≤ w1.heap.size := by simpa using hb1.size
    clear hb0 hb1 hok hbk1
    go_wp2_with fail
    obtain ⟨W2, hW2⟩ : ∃ x, x = w1.alloc (.cells #[.slice A1 ts.length c1, .map (some M1)] 64) := ⟨_, rfl⟩
    have hb2 : Below w1.heap.size w1 W2 := by rw [hW2]; exact (Below.refl _ _).alloc (Nat.le_refl _) _
    have hx2 : W2.cell? ⟨w1.heap.size, 0, none⟩ = some (.slice A1 ts.length c1) ∧ W2.cell? ⟨w1.heap.size, 1, none⟩ = some (.map (some M1)) := by rw [hW2]; exact ⟨by simp, by simp⟩
    have hz2 : W2.heap.size = w1.heap.size + 1 := by rw [hW2]; simp
    have HL2 := Lib.hid ((hb2.cell (p := ⟨w.heap.size, 0, none⟩) (by show w.heap.size < _; omega)).trans hl0)
    have HX2 := Lib.hid hx2
    have HB2 := Lib.hid (HB1.out.trans (hb2.mono (by omega)))
    have HBk2 := Lib.hid (HBk.out.below hb2)
    have HA22 := Lib.hid ((HA2.out.keep fun p _ hp => HB2.out.cell hp).mono (show w.heap.size ≤ W2.heap.size by omega))
    have HT2 := Lib.hid (HA.out.keep fun p _ hp => HB2.out.cell (show p.block < w.heap.size by omega))
    rw [← hW2]
    clear hW2 hb2 hx2 HBk HA2 hl0
    have HAsk := Lib.hid hask
    clear hask
    refine (made_any A1 ts c1 _ _ (some M1) A2 hv c2 W2 HOk.out HBk2.out (by omega) HA22.out hn2).mono ?_
    rintro e w3 ⟨M, v, ms, rfl, hM, hset, hsz, hnd, hmem, hb3⟩
    have HSet := Lib.hid hset
    have HWf := Lib.hid (mem_wf hlen hmem)
    have HMem := Lib.hid hmem
    have hml : ms.length ≤ ts.length := nodup_length hnd (mem_range hmem)
    have HB3 := Lib.hid (HB2.out.trans (hb3.mono (by omega)))
    have HX3 := Lib.hid (show w3.cell? ⟨w1.heap.size, 0, none⟩ = some (.slice A1 ts.length c1) ∧ w3.cell? ⟨w1.heap.size, 1, none⟩ = some (.map (some M1)) from ⟨(hb3.cell (p := ⟨w1.heap.size, 0, none⟩) (by show w1.heap.size < _; omega)).trans HX2.out.1, (hb3.cell (p := ⟨w1.heap.size, 1, none⟩) (by show w1.heap.size < _; omega)).trans HX2.out.2⟩)
    have HBk3 := Lib.hid (HBk2.out.below (hb3.mono (by omega)))
    have y0 := cellN_alloc (.cells #[.pointer (some ⟨M + 1, 0, none⟩)] 89) ((hb3.cell (p := ⟨w.heap.size, 0, none⟩) (by show w.heap.size < _; omega)).trans HL2.out)
    have hz3 := hb3.size
    clear hset hnd hmem hb3 HX2 HBk2 HL2
    go_wp2_with fail
    obtain ⟨W4, hW4⟩ : ∃ x, x = w3.alloc (.cells #[.pointer (some ⟨M + 1, 0, none⟩)] 89) := ⟨_, rfl⟩
    have hb4 : Below w3.heap.size w3 W4 := by rw [hW4]; exact (Below.refl _ _).alloc (Nat.le_refl _) _
    have hz4 : W4.heap.size = w3.heap.size + 1 := by rw [hW4]; simp
    have hc4 : W4.cell? ⟨w3.heap.size, 0, none⟩ = some (.pointer (some ⟨M + 1, 0, none⟩)) := by rw [hW4]; simp
    rw [← hW4]
    clear hW4 y0
    have HB4 := Lib.hid (HB3.out.trans (hb4.mono (by omega)))
    refine (implSubterms_any A ts c L B want W4 (HA.out.keep fun p _ hp => HB4.out.cell (show p.block < w.heap.size by omega)) (by omega) hn hbk).mono ?_
    rintro e w5 ⟨A5, c5, rfl, hi5, hb5⟩
    have HRng := Lib.hid (fun x (h : x ∈ subsV ts want) => subsV_range h)
    have hsl := subsV_length ts want
    have HAsc := Lib.hid (show Asc (subsV ts want) by
      unfold subsV
      split
      · exact asc_pick _ _
      · exact List.Pairwise.nil)
    have HV := Lib.hid (show missV ts hv want = (subsV ts want).filter (fun x => lowB ts x && !inB ms x) by
      unfold missV
      rw [if_pos HAsk.out]
      refine List.filter_congr fun x _ => ?_
      unfold missB
      rw [in_can HAsk.out HMem.out])
    generalize subsV ts want = l at *
    have hb45 := (hb4.trans (hb5.mono (by omega)))
    have hz5 := hb5.size
    have HI5 := Lib.hid (hi5.ints.low (Nat.zero_le _))
    have HC5 := Lib.hid ((hb5.cell (p := ⟨w3.heap.size, 0, none⟩) (by show w3.heap.size < _; omega)).trans hc4)
    have HX5 := Lib.hid (show w5.cell? ⟨w1.heap.size, 0, none⟩ = some (.slice A1 ts.length c1) ∧ w5.cell? ⟨w1.heap.size, 1, none⟩ = some (.map (some M1)) from ⟨(hb45.cell (p := ⟨w1.heap.size, 0, none⟩) (by show w1.heap.size < _; omega)).trans HX3.out.1, (hb45.cell (p := ⟨w1.heap.size, 1, none⟩) (by show w1.heap.size < _; omega)).trans HX3.out.2⟩)
    have HSet5 := Lib.hid (HSet.out.below hb45)
    have HBk5 := Lib.hid (HBk3.out.below (hb45.mono (by omega)))
    have HB5 := Lib.hid (HB4.out.trans (hb5.mono (by omega)))
    clear hb4 hb5 hb45 hi5 hc4 HX3 HBk3 HSet
    go_wp2_with fail
    refine (callsIn_wide.1 (values_in 1 A5 l.length c5 w5)).mono ?_
    rintro e w6 ⟨rfl, rfl⟩
    obtain ⟨W6, hW6⟩ : ∃ x, x = w5.alloc (.cells #[.slice A5 l.length c5] 46) := ⟨_, rfl⟩
    have hb6 : Below w5.heap.size w5 W6 := by rw [hW6]; exact (Below.refl _ _).alloc (Nat.le_refl _) _
    have hz6 : W6.heap.size = w5.heap.size + 1 := by rw [hW6]; simp
    have hc6 : W6.cell? ⟨w5.heap.size, 0, none⟩ = some (.slice A5 l.length c5) := by rw [hW6]; simp
    have HB6 := Lib.hid hb6
    have HC6 := Lib.hid hc6
    rw [← hW6]
    clear hW6 hb6 hc6
    go_wp2_with fail
    refine (chosen_any 84 #[.pointer (some ⟨w5.heap.size, 0, none⟩)] _ l (values1_seq 8 w5.heap.size A5 l c5 (by omega) (by omega)) (enters_of Try.func84 (by kernel_rfl) rfl) (by omega) W6 (fun W hW => ⟨rfl, (hW.cell (p := ⟨w5.heap.size, 0, none⟩) (by show w5.heap.size < _; omega)).trans HC6.out, ((HI5.out.keep fun p _ hp => (hW.cell (by omega)).trans (HB6.out.cell hp)).mono (by have := hW.size; omega))⟩)
      66 #[] #[.pointer (some ⟨w1.heap.size, 0, none⟩), .pointer (some ⟨w3.heap.size, 0, none⟩)] (fun x => lowB ts x && !inB ms x) (enters_of Try.func66 (by kernel_rfl) rfl) (fun x hx W hW => ?_)).mono ?_
    · have hW5 : Below w5.heap.size w5 W := HB6.out.trans (hW.mono (by omega))
      refine (missing1_any A1 ts c1 _ _ (some M1) M (M + 3) ms v w1.heap.size w3.heap.size x W HOk.out (HBk5.out.below (hW5.mono (by omega))) (HRng.out x hx) ((hW5.cell (p := ⟨w1.heap.size, 0, none⟩) (by show w1.heap.size < _; omega)).trans HX5.out.1) ((hW5.cell (p := ⟨w1.heap.size, 1, none⟩) (by show w1.heap.size < _; omega)).trans HX5.out.2) ((hW5.cell (p := ⟨w3.heap.size, 0, none⟩) (by show w3.heap.size < _; omega)).trans HC5.out) (HSet5.out.below hW5) HWf.out).mono fun _ _ h => h
    · rintro e w7 ⟨A7, c7, rfl, hr7, hb7⟩
      have HR := Lib.hid (show NewIntsFr (missV ts hv want) w (.returned (.slice A7 (l.filter fun x => lowB ts x && !inB ms x).length c7)) w7 from by
        rw [HV.out]
        rw [sort_asc (asc_filter HAsc.out _)] at hr7
        exact ⟨A7, c7, rfl, ints_of_row (base := w.heap.size) (c := c7) (e := 3) (ownsRow_lowF hr7 (by omega)), HB5.out.trans ((HB6.out.mono (by omega)).trans (hb7.mono (by omega)))⟩)
      clear hr7 hb7
      go_wp2_with fail
      go_ret
      exact HR.out
  · have HV := Lib.hid (show missV ts hv want = [] by
      unfold missV askB
      rw [if_neg]
      intro h
      simp only [Bool.and_eq_true, decide_eq_true_eq] at h
      exact hno ⟨lok_of h.1, by omega⟩)
    have HB1 := Lib.hid (hb0.trans (hb1.mono (by simp)))
    clear hb0 hb1 hno
    go_wp2_with fail
    go_ret
    rw [HV.out]
    exact .nil (HB1.out.alloc HB1.out.size _)

end Go.Proofs.Ytigkojdchpjkcaa
