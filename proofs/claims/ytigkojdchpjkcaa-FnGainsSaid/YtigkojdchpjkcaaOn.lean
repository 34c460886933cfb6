/-
  The library's Concat of two lists; the program's Gains.
-/
import Derived.Lib.AppendZerosOnto
import Derived.Lib.Walk
import Derived.Test.YtigkojdchpjkcaaOk
import Derived.Test.YtigkojdchpjkcaaDedG
namespace Go.Proofs.Ytigkojdchpjkcaa
open Go.RowKit Go.Maps

set_option maxRecDepth 100000 in
set_option maxHeartbeats 1000000 in
theorem growNil_any (n : Nat) (hn : n ≤ 2097152) (w : World) :
    Calls Try.prog 85 #[.slice none 0 0, .int .i64 n] w fun e w' => ∃ A c, e = .returned (.slice A 0 c) ∧ w'.ownsRow w.heap.size 3 1 (.slice A 0 c) 0 [] ∧ Below w.heap.size w w' := by
  obtain ⟨i0, hi, hz0, hz1, hz2⟩ := info_parts Try.infoInt
  by_cases h0 : n = 0
  · subst h0
    go_enter Try.func85, Try.ntmps85
    go_wp2_with fail
    go_ret
    exact ⟨none, 0, rfl, World.ownsRow_nil _ _ _ _, Below.refl _ _⟩
  · have hold : (Builtin.firstCells i0.size 0 (.slice none 0 0)).run Try.prog w.drew = .ok ([] : List Value).toArray w.drew := rfl
    have hrz := Lib.run_append_grow_zeros (P := Try.prog) w 46 3 46 3 i0 (.int .i64 0) .i64 .i64 Try.underlying46 Try.underlying3 hi hz0 none 0 0 [] hold n (by omega) (by omega) (by omega) (by omega) (by rw [hz2]; omega) (growslice_fits (by omega) (by rw [hz2]; omega))
    have hGn : 0 + n ≤ grownCap w (0 + n) 0 3 := grownCap_ge w _ _ _
    have hGm := grownCap_le_maxLen w (0 + n) 0 3 (by unfold maxLen; omega)
    obtain ⟨G, hG⟩ : ∃ G, G = grownCap w (0 + n) 0 3 := ⟨_, rfl⟩
    rw [← hG] at hrz hGn hGm
    have hG63 : G ≤ 9223372036854775807 := by unfold maxLen at hGm; omega
    have hpos : (0 : Int) < n := by omega
    obtain ⟨W, hW⟩ : ∃ W, W = w.drew.alloc (.cells (([] : List Value).toArray ++ Builtin.zeroCells (Value.int .i64 0).cells n ++ Builtin.zeroCells (Value.int .i64 0).cells (G - (0 + n))) 3) := ⟨_, rfl⟩
    have HR := Lib.hid (show W.ownsRow w.heap.size 3 1 (.slice (some ⟨w.heap.size, 0, none⟩) 0 G) 0 [] from ⟨rfl, .inr ⟨w.heap.size, G, _, rfl, Nat.le_refl _, by rw [hW]; exact heap_alloc_new w.drew _, Nat.zero_le _, hGm, by simp [Builtin.zeroCells, Value.cells]; omega, by simp⟩⟩)
    have HB := Lib.hid (show Below w.heap.size w W by rw [hW]; exact (Below.refl _ _).drew.alloc (Nat.le_refl _) _)
    rw [← hW] at hrz
    simp only [Nat.zero_add] at hrz
    clear hW hold hG
    go_enter Try.func85, Try.ntmps85
    go_wp2_with (at_builtin; refine Lib.wpList_append_run _ rfl _ _ _ _ rfl _ _ rfl rfl _ _ hrz ?_)
    go_ret
    exact ⟨_, _, rfl, HR.out, HB.out⟩

/-- Numbers at an address, as the append law asks for them. -/
theorem ints_news {w : World} {L B : Nat} {a : Addr} {l : List Int} (ha : ∃ b o, a = ⟨b, o, none⟩) (h : IntsIn w L B (some a) l) : ∀ j u, (l.map vint)[j]? = some u → w.cell? (a.add j) = some u := fun j u hu => by
  obtain ⟨b0, o0, rfl⟩ := ha
  have hj : j < l.length := by
    have := (List.getElem?_eq_some_iff.1 hu).1
    simpa using this
  obtain ⟨b, o, e, _, _, hc⟩ := h (by omega)
  cases e
  rw [Addr.add_lit, hc j hj]
  simp [vint, hj] at hu ⊢
  exact hu

set_option maxRecDepth 100000 in
set_option maxHeartbeats 2000000 in
/-- 'slices.Concat(l, []int{x})' -/
theorem concat_any (g g2 : Nat) (hv : List Int) (c2 g3 : Nat) (x : Int) (w : World) (hn : hv.length ≤ 1048576) (h0 : w.cell? ⟨g, 0, none⟩ = some (.slice (some ⟨g2, 0, none⟩) hv.length c2)) (h1 : w.cell? ⟨g, 1, none⟩ = some (.slice (some ⟨g3, 0, none⟩) 1 1))
    (hi : IntsIn w 0 w.heap.size (some ⟨g2, 0, none⟩) hv) (hx : w.cell? ⟨g3, 0, none⟩ = some (.int .i64 x)) :
    Calls Try.prog 71 #[.slice (some ⟨g, 0, none⟩) 2 2] w fun e w' => ∃ A c, e = .returned (.slice A (hv ++ [x]).length c) ∧ w'.ownsRow w.heap.size 3 1 (.slice A (hv ++ [x]).length c) (hv ++ [x]).length ((hv ++ [x]).map vint) ∧ Below w.heap.size w w' := by
  have HI := Lib.hid hi
  have hg : g < w.heap.size := World.block_lt_of_cell? w _ h0
  have hg3 : g3 < w.heap.size := World.block_lt_of_cell? w _ hx
  clear hi
  obtain ⟨i0, hi0, hz0, hz1, hz2⟩ := info_parts Try.infoInt
  go_enter Try.func71, Try.ntmps71
  go_wp2_with fail
  go_loopw [3, 11] (fun s i wr => wr = w ∧ ((i = .int .i64 0 ∧ s = .int .i64 0) ∨ (i = .int .i64 1 ∧ s = .int .i64 hv.length) ∨ (i = .int .i64 2 ∧ s = .int .i64 ((hv.length : Int) + 1)))) (fun _ i _ => 2 - (intOf i).toNat)
  case atStart => exact ⟨rfl, .inl ⟨rfl, rfl⟩⟩
  case round =>
    obtain ⟨rfl, hrel⟩ := hrel
    rcases hrel with ⟨rfl, rfl⟩ | ⟨rfl, rfl⟩ | ⟨rfl, rfl⟩
    · go_wp2_with fail
      go_roundw
      case rel => exact ⟨by first | rfl | trivial, .inr (.inl ⟨by go_num, by go_num⟩)⟩
      case measure => simp [intOf]
    · go_wp2_with fail
      go_roundw
      case rel => exact ⟨by first | rfl | trivial, .inr (.inr ⟨by go_num, by go_num⟩)⟩
      case measure => simp [intOf]
    · have hgr := growNil_any (hv.length + 1) (by omega) wr
      go_wp2_with fail
      refine hgr.mono ?_
      rintro e w1 ⟨A1, c1, rfl, hr1, hb1⟩
      have HR1 := Lib.hid hr1
      have HB1 := Lib.hid hb1
      clear hgr hr1 hb1
      go_wp2_with fail
      obtain ⟨wo, hwo⟩ : ∃ wo : World, wo = wr := ⟨_, rfl⟩
      subst hwo
      go_loopw [6, 27] (fun s i wr => ∃ (A : Option Addr) (c m : Nat) (xs : List Int), s = .slice A m c ∧ wr.ownsRow wo.heap.size 3 1 (.slice A m c) m (xs.map vint) ∧ Below wo.heap.size wo wr ∧ ((i = .int .i64 0 ∧ m = 0 ∧ xs = []) ∨ (i = .int .i64 1 ∧ m = hv.length ∧ xs = hv) ∨ (i = .int .i64 2 ∧ m = hv.length + 1 ∧ xs = hv ++ [x]))) (fun _ i _ => 2 - (intOf i).toNat)
      case atStart => exact ⟨A1, c1, 0, [], rfl, HR1.out, HB1.out, .inl ⟨rfl, rfl, rfl⟩⟩
      case round =>
        obtain ⟨A, c, m, xs, rfl, hr, hb, hrel⟩ := hrel
        have HB := Lib.hid hb
        have hz := hb.size
        have q0 := (hb.cell (p := ⟨g, 0, none⟩) hg).trans h0
        have q1 := (hb.cell (p := ⟨g, 1, none⟩) hg).trans h1
        have q2 := (hb.cell (p := ⟨g3, 0, none⟩) hg3).trans hx
        have HI2 := Lib.hid ((HI.out.keep fun p _ hp => hb.cell hp).mono hz)
        have HR := Lib.hid hr
        clear hb hr HR1
        rcases hrel with ⟨rfl, rfl, rfl⟩ | ⟨rfl, rfl, rfl⟩ | ⟨rfl, rfl, rfl⟩
        · go_wp2_with (at_builtin; refine wpList_append_own_at _ rfl _ _ 46 rfl wo.heap.size 3 i0 (.int .i64 0) 1 8 Try.underlying46 hi0 hz0 hz1 hz2 rfl (by decide) _ _ _ rfl HR.out ⟨g2, 0, none⟩ hv.length c2 (hv.map vint) rfl ?c1 ?c2 ?c3 ?c4 ?c5 ?c6 ?_)
          case c1 => simp
          case c2 => exact ints_news ⟨_, _, rfl⟩ HI2.out
          case c3 => intro u hu; simp [vint] at hu; obtain ⟨y, _, rfl⟩ := hu; rfl
          case c4 => unfold maxLen; omega
          case c5 => omega
          case c6 => omega
          intro v' w5 hrow5 hgr5 _ _
          obtain ⟨A5, c5, rfl⟩ := row_shape hrow5
          have HR5 := Lib.hid (show w5.ownsRow wo.heap.size 3 1 (.slice A5 hv.length c5) hv.length (hv.map vint) by simpa using hrow5)
          have HB5 := Lib.hid (HB.out.grown hgr5 hz (fun j hj => (HR.out.lt j hj).1))
          clear hrow5 hgr5
          go_wp2_with fail
          go_roundw
          case rel => exact ⟨A5, c5, hv.length, hv, rfl, HR5.out, HB5.out, .inr (.inl ⟨by go_num, rfl, rfl⟩)⟩
          case measure => simp [intOf]
        · go_wp2_with (at_builtin; refine wpList_append_own_at _ rfl _ _ 46 rfl wo.heap.size 3 i0 (.int .i64 0) 1 8 Try.underlying46 hi0 hz0 hz1 hz2 rfl (by decide) _ _ _ rfl HR.out ⟨g3, 0, none⟩ 1 1 [.int .i64 x] rfl ?c1 ?c2 ?c3 ?c4 ?c5 ?c6 ?_)
          case c1 => simp
          case c2 =>
            intro j u hu
            have hj : j = 0 := by
              have := (List.getElem?_eq_some_iff.1 hu).1
              simpa using this
            subst hj
            rw [Addr.add_lit, q2]
            simpa using hu
          case c3 => intro u hu; simp at hu; subst hu; rfl
          case c4 => unfold maxLen; omega
          case c5 => omega
          case c6 => omega
          intro v' w5 hrow5 hgr5 _ _
          obtain ⟨A5, c5, rfl⟩ := row_shape hrow5
          have HR5 := Lib.hid (show w5.ownsRow wo.heap.size 3 1 (.slice A5 (xs.length + 1) c5) (xs.length + 1) ((xs ++ [x]).map vint) by simpa [vint] using hrow5)
          have HB5 := Lib.hid (HB.out.grown hgr5 hz (fun j hj => (HR.out.lt j hj).1))
          clear hrow5 hgr5
          go_wp2_with fail
          go_roundw
          case rel => exact ⟨A5, c5, xs.length + 1, xs ++ [x], rfl, HR5.out, HB5.out, .inr (.inr ⟨by go_num, rfl, rfl⟩)⟩
          case measure => simp [intOf]
        · go_wp2_with fail
          go_ret
          exact ⟨A, c, by simp, by simpa using HR.out, HB.out⟩

set_option maxRecDepth 100000 in
set_option maxHeartbeats 1000000 in
/-- What is new: not in the set. -/
theorem gains1_any (M R0 : Nat) (ms : List Int) (v : Value) (Bc : Nat) (x : Int) (w : World) (hx : WfI x)
    (h2 : w.cell? ⟨Bc, 0, none⟩ = some (.pointer (some ⟨M + 1, 0, none⟩))) (hs : NumSet w M R0 ms v) (hms : ∀ y ∈ ms, WfI y) :
    Calls Try.prog 72 #[.int .i64 x, .pointer (some ⟨Bc, 0, none⟩)] w fun e w' => e = .returned (.bool (!inB ms x)) ∧ Below w.heap.size w w' := by
  have HS := Lib.hid hs
  have HMs := Lib.hid hms
  clear hs hms
  go_enter Try.func72, Try.ntmps72
  go_wp2_with fail
  obtain ⟨W3, hW3⟩ : ∃ y, y = w.alloc (.cells #[.int .i64 x] 3) := ⟨_, rfl⟩
  have hb3 : Below w.heap.size w W3 := by rw [hW3]; exact (Below.refl _ _).alloc (Nat.le_refl _) _
  have hz3 : W3.heap.size = w.heap.size + 1 := by rw [hW3]; simp
  have hc3 : W3.cell? ⟨w.heap.size, 0, none⟩ = some (.int .i64 x) := by rw [hW3]; simp
  rw [← hW3]
  clear hW3
  refine (hasI_any M R0 ms v (some ⟨w.heap.size, 0, none⟩) [x] 1 W3 (HS.out.below hb3) HMs.out (fun y hy => by simp at hy; subst hy; exact hx) (ints_new (by omega) fun j hj => by
    have hj0 : j = 0 := by simpa using hj
    subst hj0
    exact hc3) (by simp)).mono ?_
  rintro e w4 ⟨rfl, rfl⟩
  have HB4 := Lib.hid hb3
  simp only [List.all_cons, List.all_nil, Bool.and_true]
  obtain ⟨r, hr⟩ : ∃ r, r = inB ms x := ⟨_, rfl⟩
  have HR := Lib.hid hr
  rw [← hr]
  clear hb3 hc3 hr
  go_wp2_with fail
  all_goals refine bodyPost_ret (v := .bool (!r)) (by simp [results, Try.results72, go_sem]) rfl ?_
  all_goals exact ⟨ret_bool (by rw [← HR.out]), HB4.out⟩

/-- A list of lists, in a block. -/
def TwoIn (X : World) (p : Nat) (V0 V1 : Value) : Prop := X.cell? ⟨p, 0, none⟩ = some V0 ∧ X.cell? ⟨p, 1, none⟩ = some V1

set_option maxRecDepth 100000 in
set_option maxHeartbeats 1000000 in
theorem implGains_any (A : Option Addr) (ts : List Tm) (c L B : Nat) (g2 : Nat) (hv : List Int) (c2 : Nat) (want : Int) (w : World) (hA : TmsIn w L B A ts) (hB : B ≤ w.heap.size) (hn : ts.length ≤ 1048576) (hbk : bulk ts ≤ 1048576) (hA2 : IntsIn w 0 w.heap.size (some ⟨g2, 0, none⟩) hv) (hn2 : hv.length ≤ 1048576) :
    Calls Try.prog 41 #[.agg #[.slice A ts.length c], .slice (some ⟨g2, 0, none⟩) hv.length c2, .int .i64 want] w (NewIntsFr (gainsV ts hv want) w) := by
  have HA := Lib.hid hA
  have HA2 := Lib.hid hA2
  clear hA hA2
  go_enter Try.func41, Try.ntmps41
  go_wp2_with fail
  have hb0 : Below w.heap.size w (w.alloc (.cells #[.slice A ts.length c] 25)) := (Below.refl _ _).alloc (Nat.le_refl _) _
  refine (readFor_any A ts c L B (hv.length + 1 : Int) _ (HA.out.keep fun p _ hp => hb0.cell (by omega)) (by simp; omega) hn hbk).mono ?_
  rintro e w1 (⟨hok, hle, A1, c1, M1, rfl, hbk1, hb1⟩ | ⟨hno, rfl, hb1⟩)
  · have HV := Lib.hid (show gainsV ts hv want = (pick (cnB ts (endB ts (hv ++ [want]))) ts.length).filter (fun x => !oldB ts hv x) by
      have h1 : lokB ts = true ∧ hv.length < 1000 := ⟨lokB_true hok, by omega⟩
      unfold gainsV
      rw [if_pos h1]
      simp [allV, askB, h1.1, show hv.length + 1 ≤ 1000 by omega])
    have h999 : hv.length < 1000 := by omega
    have hl0 := (hb1.cell (p := ⟨w.heap.size, 0, none⟩) (by simp)).trans (by simp : _ = some (Value.slice A ts.length c))
    have HB1 := Lib.hid (hb0.trans (hb1.mono (by simp)))
    have HOk := Lib.hid hok
    have HBk := Lib.hid hbk1
    have hlen := hok.1
    have hz1 : w.heap.size + 1 ≤ w1.heap.size := by simpa using hb1.size
    clear hb0 hb1 hok hbk1
    go_wp2_with fail
    obtain ⟨W2, hW2⟩ : ∃ x, x = w1.alloc (.cells #[.slice A1 ts.length c1, .map (some M1)] 64) := ⟨_, rfl⟩
    have hb2 : Below w1.heap.size w1 W2 := by rw [hW2]; exact (Below.refl _ _).alloc (Nat.le_refl _) _
    have hx2 : W2.cell? ⟨w1.heap.size, 0, none⟩ = some (.slice A1 ts.length c1) ∧ W2.cell? ⟨w1.heap.size, 1, none⟩ = some (.map (some M1)) := by rw [hW2]; exact ⟨by simp, by simp⟩
    have hz2 : W2.heap.size = w1.heap.size + 1 := by rw [hW2]; simp
    have HX2 := Lib.hid hx2
    have HB2 := Lib.hid (HB1.out.trans (hb2.mono (by omega)))
    have HBk2 := Lib.hid (HBk.out.below hb2)
    have HA22 := Lib.hid ((HA2.out.keep fun p _ hp => HB2.out.cell hp).mono (show w.heap.size ≤ W2.heap.size by omega))
    rw [← hW2]
    clear hW2 hb2 hx2 HBk HA2 hl0
    refine (made_any A1 ts c1 _ _ (some M1) (some ⟨g2, 0, none⟩) hv c2 W2 HOk.out HBk2.out (by omega) HA22.out hn2).mono ?_
    rintro e w3 ⟨M, v, ms, rfl, hM, hset, hsz, hnd, hmem, hb3⟩
    have HSet := Lib.hid hset
    have HWf := Lib.hid (mem_wf hlen hmem)
    have HOld := Lib.hid (fun (x : Int) (hx : 0 ≤ x ∧ x < ts.length) => show inB ms x = oldB ts hv x by
      rw [Bool.eq_iff_iff, inB, decide_eq_true_eq, hmem]
      unfold oldB
      constructor
      · rintro ⟨j, h1, rfl, h3⟩
        simpa using h3
      · intro h
        exact ⟨x.toNat, by omega, by omega, h⟩)
    have HB3 := Lib.hid (HB2.out.trans (hb3.mono (by omega)))
    have hz3 := hb3.size
    have x0 := (hb3.cell (p := ⟨w1.heap.size, 0, none⟩) (by show w1.heap.size < _; omega)).trans HX2.out.1
    have x1 := (hb3.cell (p := ⟨w1.heap.size, 1, none⟩) (by show w1.heap.size < _; omega)).trans HX2.out.2
    have HBk3 := Lib.hid (HBk2.out.below (hb3.mono (by omega)))
    have HA23 := Lib.hid ((HA22.out.keep fun p _ hp => hb3.cell hp).mono hz3)
    clear hset hnd hmem hb3 HX2 HBk2 HA22
    go_upto_region 5 with fail
    obtain ⟨W4, hW4⟩ : ∃ x, x = w3.alloc (.cells #[.pointer (some ⟨M + 1, 0, none⟩)] 89) := ⟨_, rfl⟩
    have hb4 : Below w3.heap.size w3 W4 := by rw [hW4]; exact (Below.refl _ _).alloc (Nat.le_refl _) _
    have hz4 : W4.heap.size = w3.heap.size + 1 := by rw [hW4]; simp
    have HC4 := Lib.hid (show W4.cell? ⟨w3.heap.size, 0, none⟩ = some (.pointer (some ⟨M + 1, 0, none⟩)) by rw [hW4]; simp)
    have hx4 : W4.cell? ⟨w1.heap.size, 0, none⟩ = some (.slice A1 ts.length c1) ∧ W4.cell? ⟨w1.heap.size, 1, none⟩ = some (.map (some M1)) := ⟨(hb4.cell (p := ⟨w1.heap.size, 0, none⟩) (by show w1.heap.size < _; omega)).trans x0, (hb4.cell (p := ⟨w1.heap.size, 1, none⟩) (by show w1.heap.size < _; omega)).trans x1⟩
    have HX4 := Lib.hid hx4
    have HX4d := Lib.hid (show W4.drew.cell? ⟨w1.heap.size, 0, none⟩ = some (.slice A1 ts.length c1) ∧ W4.drew.cell? ⟨w1.heap.size, 1, none⟩ = some (.map (some M1)) from hx4)
    rw [← hW4]
    have HSet4 := Lib.hid (HSet.out.below hb4)
    have HBk4 := Lib.hid (HBk3.out.below (hb4.mono (by omega)))
    have HA24 := Lib.hid ((HA23.out.keep fun p _ hp => hb4.cell hp).mono hb4.size)
    have HB4 := Lib.hid (HB3.out.trans (hb4.mono (by omega)))
    have HConcat := Lib.hid (fun (W : World) (hW : Below W4.heap.size W4 W) (hz : W.heap.size = W4.heap.size + 2) (q0 : W.cell? ⟨W4.heap.size + 1, 0, none⟩ = some (.slice (some ⟨g2, 0, none⟩) hv.length c2)) (q1 : W.cell? ⟨W4.heap.size + 1, 1, none⟩ = some (.slice (some ⟨W4.heap.size, 0, none⟩) 1 1)) (q2 : W.cell? ⟨W4.heap.size, 0, none⟩ = some (.int .i64 want)) =>
      show Calls Try.prog 71 #[.slice (some ⟨W4.heap.size + 1, 0, none⟩) 2 2] W (fun e w' => ∃ A c, e = .returned (.slice A (hv.length + 1) c) ∧ (w'.cell? ⟨w1.heap.size, 0, none⟩ = some (.slice A1 ts.length c1) ∧ w'.cell? ⟨w1.heap.size, 1, none⟩ = some (.map (some M1))) ∧
        Hid (Calls Try.prog 62 #[.agg #[.slice A1 ts.length c1, .map (some M1)], .slice A (hv.length + 1) c] w' (fun e wx => ∃ M' v' ms', e = .returned (.pointer (some ⟨M' + 1, 0, none⟩)) ∧ (wx.cell? ⟨w1.heap.size, 0, none⟩ = some (.slice A1 ts.length c1) ∧ wx.cell? ⟨w1.heap.size, 1, none⟩ = some (.map (some M1))) ∧
          Hid (NumSet wx M' (M' + 3) ms' v' ∧ ms'.Nodup ∧ (∀ x, x ∈ ms' ↔ ∃ j : Nat, j < ts.length ∧ x = (j : Int) ∧ cnB ts (endB ts (hv ++ [want])) j = true) ∧ Below W4.heap.size W4 wx)))) from by
      refine (concat_any (W4.heap.size + 1) g2 hv c2 W4.heap.size want W hn2 q0 q1 ((HA24.out.keep fun p _ hp => hW.cell hp).mono hW.size) q2).mono ?_
      rintro e w5 ⟨A5, c5, rfl, hr5, hb5⟩
      have hb45 : Below W4.heap.size W4 w5 := hW.trans (hb5.mono hW.size)
      refine ⟨A5, c5, by simp, ⟨(hb45.cell (p := ⟨w1.heap.size, 0, none⟩) (by show w1.heap.size < _; omega)).trans hx4.1, (hb45.cell (p := ⟨w1.heap.size, 1, none⟩) (by show w1.heap.size < _; omega)).trans hx4.2⟩, Lib.hid ?_⟩
      have hi5 : IntsIn w5 0 w5.heap.size A5 (hv ++ [want]) := by
        have := ints_of_row (base := w.heap.size) (c := c5) (e := 3) (A := A5) (w := w5) (l := hv ++ [want]) (ownsRow_lowF hr5 (by omega))
        exact fun h => let ⟨b, o, e1, h1, h2, h3⟩ := this h; ⟨b, o, e1, Nat.zero_le _, h2, fun j hj => (h3 j hj).1⟩
      have hmk := made_any A1 ts c1 _ _ (some M1) A5 (hv ++ [want]) c5 w5 HOk.out (HBk4.out.below (hb45.mono (by omega))) (by have := hb45.size; omega) hi5 (by simp; omega)
      simp only [List.length_append, List.length_singleton] at hmk
      refine hmk.mono ?_
      rintro e w6 ⟨M', v', ms', rfl, hM', hset', hsz', hnd', hmem', hb6⟩
      have hb46 : Below W4.heap.size W4 w6 := hb45.trans (hb6.mono hb45.size)
      exact ⟨M', v', ms', rfl, ⟨(hb46.cell (p := ⟨w1.heap.size, 0, none⟩) (by show w1.heap.size < _; omega)).trans hx4.1, (hb46.cell (p := ⟨w1.heap.size, 1, none⟩) (by show w1.heap.size < _; omega)).trans hx4.2⟩, Lib.hid ⟨hset', hnd', hmem', hb46⟩⟩)
    have HZ4 := Lib.hid hz4
    clear hW4 hb4 hx4 hz4 x0 x1 HBk3 HA23 HB3 HSet
    go_cut [10] from 24 to 30 (fun s10 wx => ∃ M' v' ms', s10 = .pointer (some ⟨M' + 1, 0, none⟩) ∧ NumSet wx M' (M' + 3) ms' v' ∧ ms'.Nodup ∧ (∀ x, x ∈ ms' ↔ ∃ j : Nat, j < ts.length ∧ x = (j : Int) ∧ cnB ts (endB ts (hv ++ [want])) j = true) ∧ Below W4.heap.size W4 wx)
    case first =>
      go_region_held3 (fun X => X.cell? ⟨w1.heap.size, 0, none⟩ = some (.slice A1 ts.length c1) ∧ X.cell? ⟨w1.heap.size, 1, none⟩ = some (.map (some M1)))
        (first | with_reducible exact HX4d.out | with_reducible exact HX4.out | with_reducible exact HS5.out | with_reducible exact HS6.out | exact ⟨cellN_alloc _ HX4.out.1, cellN_alloc _ HX4.out.2⟩ | exact ⟨cellN_alloc _ (cellN_alloc _ HX4.out.1), cellN_alloc _ (cellN_alloc _ HX4.out.2)⟩)
        (first
          | (go_at_call 71
             refine (HConcat.out _ ?_ ?_ ?_ ?_ ?_).mono ?_
             · exact ((Below.refl _ _).drew.alloc (Nat.le_refl _) _).alloc (by simp) _
             · simp
             · simp
             · simp
             · simp
             rintro e w5 ⟨A5, c5, rfl, hs5, HMk⟩
             have HS5 := Lib.hid hs5
             clear HConcat hs5)
          | (go_at_call 62
             refine HMk.out.mono ?_
             rintro e w6 ⟨M', v', ms', rfl, hs6, HN6⟩
             have HS6 := Lib.hid hs6
             clear HMk hs6))
      all_goals
        go_wp2_with fail
        go_meet
        case rel => exact ⟨M', v', ms', rfl, HN6.out⟩
    case rest =>
      obtain ⟨M', v', ms', rfl, hset', hnd', hmem', hb'⟩ := hcut
      have hml' : ms'.length ≤ ts.length := nodup_length hnd' (mem_range hmem')
      have hzc := hb'.size
      have HSetc := Lib.hid (HSet4.out.below hb')
      have HC4c := Lib.hid ((hb'.cell (p := ⟨w3.heap.size, 0, none⟩) (by have := HZ4.out; show w3.heap.size < _; omega)).trans HC4.out)
      have HBc := Lib.hid (HB4.out.trans (hb'.mono (by have := HB4.out.size; omega)))
      have HSet' := Lib.hid hset'
      have hz34 : w3.heap.size < W4.heap.size := by have := HZ4.out; omega
      have HCh := Lib.hid (show Calls Try.prog 64 #[.func (.func 83) #[] #[.pointer (some ⟨wc.heap.size, 0, none⟩)], .func (.func 72) #[] #[.pointer (some ⟨w3.heap.size, 0, none⟩)]] (wc.alloc (.cells #[.pointer (some ⟨M' + 1, 0, none⟩)] 89)) (NewIntsFr (gainsV ts hv want) w) from by
        have hb5 : Below wc.heap.size wc (wc.alloc (.cells #[.pointer (some ⟨M' + 1, 0, none⟩)] 89)) := (Below.refl _ _).alloc (Nat.le_refl _) _
        refine (chosen_any 83 #[.pointer (some ⟨wc.heap.size, 0, none⟩)] _ ms' (each1_seq 8 wc.heap.size (M' + 1) ms'.length (by omega) (by omega)) (enters_of Try.func83 (by kernel_rfl) rfl) (by omega) _ (fun W hW => ⟨(hW.cell (p := ⟨wc.heap.size, 0, none⟩) (by simp)).trans (by simp), ((HSet'.out.below hb5).below hW).mem⟩)
          72 #[] #[.pointer (some ⟨w3.heap.size, 0, none⟩)] (fun x => !oldB ts hv x) (enters_of Try.func72 (by kernel_rfl) rfl) (fun x hx W hW => ?_)).mono ?_
        · have hb : Below wc.heap.size wc W := hb5.trans (hW.mono (by simp))
          have hxr := mem_range hmem' x hx
          refine (gains1_any M (M + 3) ms v w3.heap.size x W (wfI_of (by omega) (by omega)) ((hb.cell (p := ⟨w3.heap.size, 0, none⟩) (by show w3.heap.size < _; omega)).trans HC4c.out) (HSetc.out.below hb) HWf.out).mono ?_
          rintro e w' ⟨rfl, hb9⟩
          rw [HOld.out x ⟨hxr.1, by omega⟩]
          exact ⟨rfl, hb9⟩
        · rintro e w7 ⟨A7, c7, rfl, hr7, hb7⟩
          have e1 : sortV (ms'.filter (fun x => !oldB ts hv x)) = gainsV ts hv want := by rw [HV.out, sort_filter hnd', sort_pick hnd' hmem']
          have e2 : (ms'.filter (fun x => !oldB ts hv x)).length = (gainsV ts hv want).length := by rw [← e1, sortV_length]
          rw [e2, e1] at hr7
          rw [e2]
          exact ⟨A7, c7, rfl, ints_of_row (base := w.heap.size) (c := c7) (e := 3) (ownsRow_lowF hr7 (by have := HBc.out.size; simp; omega)), HBc.out.trans ((hb5.trans (hb7.mono (by simp))).mono (by have := HBc.out.size; omega))⟩)
      have HEach := Lib.hid each_any
      clear hset' hnd' hmem' hb' hzc hz34 HSetc HC4c HBc HSet' HSet4 HBk4 HA24 HB4 HConcat HC4 HX4 HX4d
      go_wp2_with fail
      refine (HEach.out _ _).mono ?_
      rintro e w4 ⟨rfl, rfl⟩
      go_wp2_with fail
      refine HCh.out.mono ?_
      rintro e w5 hn5
      obtain ⟨A5, c5, rfl, hi5, hb5⟩ := hn5
      have HR := Lib.hid (show NewIntsFr (gainsV ts hv want) w (.returned (.slice A5 (gainsV ts hv want).length c5)) w5 from ⟨A5, c5, rfl, hi5, hb5⟩)
      clear hi5 hb5 HCh
      go_wp2_with fail
      go_ret
      exact HR.out
  · have HV := Lib.hid (show gainsV ts hv want = [] by
      unfold gainsV
      rw [if_neg]
      intro h
      exact hno ⟨lok_of h.1, by omega⟩)
    have HB1 := Lib.hid (hb0.trans (hb1.mono (by simp)))
    clear hb0 hb1 hno
    go_wp2_with fail
    go_ret
    rw [HV.out]
    exact .nil (HB1.out.alloc HB1.out.size _)

end Go.Proofs.Ytigkojdchpjkcaa
