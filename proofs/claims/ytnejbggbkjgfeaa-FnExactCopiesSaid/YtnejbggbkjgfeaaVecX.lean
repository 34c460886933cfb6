/-
  The program's VecOk, VecUp, VecBelow.
-/
import Derived.Test.YtnejbggbkjgfeaaVecL
namespace Go.Proofs.Ytnejbggbkjgfeaa
open Go.RowKit Go.Maps

theorem vecB_len {l : List Int} (h : l.length ≠ 4) : vecB l = false := by simp [vecB, h]
theorem four_of {l : List Int} (h : l.length = 4) : ∃ a b c d, l = [a, b, c, d] := by
  match l, h with
  | [a, b, c, d], _ => exact ⟨a, b, c, d, rfl⟩

/-- Four numbers out of a list. -/
def v4l (l : List Int) : Value := v4 (l.getD 0 0) (l.getD 1 0) (l.getD 2 0) (l.getD 3 0)

/-- readVec's answer, of whatever list. -/
def vecVal (l : List Int) : Value := if l.length = 4 then v4l l else v4 0 0 0 0
theorem vecVal_shape (l : List Int) : ∃ a b c d, vecVal l = v4 a b c d := by
  unfold vecVal v4l
  split <;> exact ⟨_, _, _, _, rfl⟩

theorem readVec_any (A : Option Addr) (l : List Int) (cap : Nat) (w : World) (hA : IntsIn w 0 w.heap.size A l) :
    Calls Try.prog 54 #[.slice A l.length cap] w fun e w' => e = .returned (.tuple #[vecVal l, .bool (vecB l)]) ∧ Below w.heap.size w w' := by
  by_cases h : l.length = 4
  · obtain ⟨a, b, c, d, rfl⟩ := four_of h
    exact readVec_yes A a b c d cap w hA
  · rw [vecB_len h, vecVal, if_neg h]
    exact readVec_no A l.length cap w h

set_option maxRecDepth 100000 in
set_option maxHeartbeats 2000000 in
theorem implVecOk_any (A : Option Addr) (l : List Int) (cap : Nat) (w : World) (hA : IntsIn w 0 w.heap.size A l) :
    Calls Try.prog 21 #[.slice A l.length cap] w fun e w' => e = .returned (.bool (vecB l)) ∧ Below w.heap.size w w' := by
  have hcall := readVec_any A l cap w hA
  obtain ⟨a, b, c, d, hv⟩ := vecVal_shape l
  rw [hv] at hcall
  have HCall := Lib.hid hcall
  clear hcall hv hA
  unfold v4 at *
  go_enter Try.func21, Try.ntmps21
  go_wp2_with fail
  refine HCall.out.mono ?_
  rintro e w5 ⟨rfl, hb⟩
  have HB := Lib.hid hb
  have hz := hb.size
  clear hb
  go_wp2_with fail
  go_ret
  exact ⟨rfl, HB.out.alloc hz _⟩

/-- A new list, or none. -/
def upV (l m : List Int) : List Int := if vecB l && vecB m then [mx (l.getD 0 0) (m.getD 0 0), mx (l.getD 1 0) (m.getD 1 0), mx (l.getD 2 0) (m.getD 2 0), mx (l.getD 3 0) (m.getD 3 0)] else []

theorem NewIntsFr.nil {w w' : World} (hb : Below w.heap.size w w') : NewIntsFr [] w (.returned (.slice none 0 0)) w' :=
  ⟨none, 0, rfl, fun h => absurd h (by simp), hb⟩
theorem vecB_four {l : List Int} (h : vecB l = true) : ∃ a b c d, l = [a, b, c, d] := by
  refine four_of ?_
  simp [vecB] at h
  exact h.1

/-- Is none above the other's? -/
def belowV (l m : List Int) : Bool := vecB l && vecB m && belB (l.getD 0 0) (l.getD 1 0) (l.getD 2 0) (l.getD 3 0) (m.getD 0 0) (m.getD 1 0) (m.getD 2 0) (m.getD 3 0)

set_option maxRecDepth 100000 in
set_option maxHeartbeats 2000000 in
theorem implVecUp_any (A A2 : Option Addr) (l m : List Int) (cap cap2 : Nat) (w : World) (hA : IntsIn w 0 w.heap.size A l) (hA2 : IntsIn w 0 w.heap.size A2 m) :
    Calls Try.prog 24 #[.slice A l.length cap, .slice A2 m.length cap2] w (NewIntsFr (upV l m) w) := by
  have HA := Lib.hid hA
  have HA2 := Lib.hid hA2
  clear hA hA2
  go_enter Try.func24, Try.ntmps24
  go_wp2_with fail
  refine (readVec_any A l cap w HA.out).mono ?_
  obtain ⟨a, b, c, d, hv⟩ := vecVal_shape l
  have HV := Lib.hid hv
  rw [hv]
  clear hv
  rintro e w1 ⟨rfl, hb1⟩
  have HB1 := Lib.hid hb1
  have hz1 := hb1.size
  clear hb1
  unfold v4
  go_wp2_with fail
  obtain ⟨W1, hW1⟩ : ∃ W1, W1 = w1.alloc (.cells #[.int .i64 a, .int .i64 b, .int .i64 c, .int .i64 d] 61) := ⟨_, rfl⟩
  have hrow1 : Row4 W1 w1.heap.size a b c d := by rw [hW1]; exact Row4.new _ _
  have hzW1 : w1.heap.size < W1.heap.size := by rw [hW1]; simp
  have HBW1 := Lib.hid (show Below w.heap.size w W1 by rw [hW1]; exact HB1.out.alloc hz1 _)
  rw [← hW1]
  clear hW1
  have HR1 := Lib.hid hrow1
  clear hrow1
  refine (readVec_any A2 m cap2 W1 ((HA2.out.keep fun p _ hp => HBW1.out.cell hp).mono (by omega))).mono ?_
  obtain ⟨a', b', c', d', hv2⟩ := vecVal_shape m
  have HV2 := Lib.hid hv2
  rw [hv2]
  clear hv2
  rintro e w2 ⟨rfl, hb2⟩
  have HB2 := Lib.hid (HBW1.out.trans (hb2.mono (by omega)))
  have HR2 := Lib.hid (HR1.out.below hb2 (by omega))
  have hz2 := hb2.size
  have hz12 : w1.heap.size < w2.heap.size := by omega
  clear hb2 HR1
  cases hl : vecB l with
  | false =>
    have HN := Lib.hid (show upV l m = [] by simp [upV, hl])
    clear hl
    unfold v4
    go_wp2_with fail
    go_ret
    rw [HN.out]
    exact .nil (HB2.out.alloc (by omega) _)
  | true =>
    cases hm : vecB m with
    | false =>
      have HN := Lib.hid (show upV l m = [] by simp [upV, hm])
      clear hl hm
      unfold v4
      go_wp2_with fail
      go_ret
      rw [HN.out]
      exact .nil (HB2.out.alloc (by omega) _)
    | true =>
      have HN := Lib.hid (show upV l m = [mx a a', mx b b', mx c c', mx d d'] by
        obtain ⟨x0, x1, x2, x3, rfl⟩ := vecB_four hl
        obtain ⟨y0, y1, y2, y3, rfl⟩ := vecB_four hm
        have h1 := HV.out
        have h2 := HV2.out
        simp [vecVal, v4l, v4] at h1 h2
        obtain ⟨rfl, rfl, rfl, rfl⟩ := h1
        obtain ⟨rfl, rfl, rfl, rfl⟩ := h2
        simp [upV, hl, hm])
      clear hl hm
      have hr := HR2.out
      have q0 := hr.c0
      have q1 := hr.c1
      have q2 := hr.c2
      have q3 := hr.c3
      have hup := fun W => vup_any a b c d a' b' c' d' W
      have hli := fun W => vlist_any (mx a a') (mx b b') (mx c c') (mx d d') W
      have HUp := Lib.hid hup
      have HLi := Lib.hid hli
      clear hr hup hli
      unfold v4 at *
      go_wp2_with fail
      refine (HUp.out _).mono ?_
      rintro e w3 ⟨rfl, hb3⟩
      have HB3 := Lib.hid ((HB2.out.alloc (by omega) (.cells #[.int .i64 a', .int .i64 b', .int .i64 c', .int .i64 d'] 61)).trans (hb3.mono (by simp; omega)))
      have hz3 := hb3.size
      clear hb3
      go_wp2_with fail
      refine (HLi.out _).mono ?_
      rintro e w4 ⟨A5, c5, rfl, hfr, hb4⟩
      have HF := Lib.hid hfr
      have hz3' : w.heap.size ≤ w3.heap.size := by simp at hz3; omega
      have HB4 := Lib.hid (HB3.out.trans (hb4.mono hz3'))
      clear hfr hb4
      go_wp2_with fail
      go_ret
      rw [HN.out]
      exact ⟨A5, c5, rfl, HF.out.low hz3', HB4.out⟩

set_option maxRecDepth 100000 in
set_option maxHeartbeats 2000000 in
theorem implVecBelow_any (A A2 : Option Addr) (l m : List Int) (cap cap2 : Nat) (w : World) (hA : IntsIn w 0 w.heap.size A l) (hA2 : IntsIn w 0 w.heap.size A2 m) :
    Calls Try.prog 28 #[.slice A l.length cap, .slice A2 m.length cap2] w fun e w' => e = .returned (.bool (belowV l m)) ∧ Below w.heap.size w w' := by
  have HA := Lib.hid hA
  have HA2 := Lib.hid hA2
  clear hA hA2
  go_enter Try.func28, Try.ntmps28
  go_wp2_with fail
  refine (readVec_any A l cap w HA.out).mono ?_
  obtain ⟨a, b, c, d, hv⟩ := vecVal_shape l
  have HV := Lib.hid hv
  rw [hv]
  clear hv
  rintro e w1 ⟨rfl, hb1⟩
  have HB1 := Lib.hid hb1
  have hz1 := hb1.size
  clear hb1
  unfold v4
  go_wp2_with fail
  obtain ⟨W1, hW1⟩ : ∃ W1, W1 = w1.alloc (.cells #[.int .i64 a, .int .i64 b, .int .i64 c, .int .i64 d] 61) := ⟨_, rfl⟩
  have hrow1 : Row4 W1 w1.heap.size a b c d := by rw [hW1]; exact Row4.new _ _
  have hzW1 : w1.heap.size < W1.heap.size := by rw [hW1]; simp
  have HBW1 := Lib.hid (show Below w.heap.size w W1 by rw [hW1]; exact HB1.out.alloc hz1 _)
  rw [← hW1]
  clear hW1
  have HR1 := Lib.hid hrow1
  clear hrow1
  refine (readVec_any A2 m cap2 W1 ((HA2.out.keep fun p _ hp => HBW1.out.cell hp).mono (by omega))).mono ?_
  obtain ⟨a', b', c', d', hv2⟩ := vecVal_shape m
  have HV2 := Lib.hid hv2
  rw [hv2]
  clear hv2
  rintro e w2 ⟨rfl, hb2⟩
  have HB2 := Lib.hid (HBW1.out.trans (hb2.mono (by omega)))
  have HR2 := Lib.hid (HR1.out.below hb2 (by omega))
  have hz2 := hb2.size
  have hz12 : w1.heap.size < w2.heap.size := by omega
  clear hb2 HR1
  cases hl : vecB l with
  | false =>
    have HN := Lib.hid (show belowV l m = false by simp [belowV, hl])
    clear hl
    unfold v4
    go_wp2_with fail
    go_ret
    exact ⟨ret_bool (a := false) HN.out.symm, HB2.out.alloc (by omega) _⟩
  | true =>
    cases hm : vecB m with
    | false =>
      have HN := Lib.hid (show belowV l m = false by simp [belowV, hm])
      clear hl hm
      unfold v4
      go_wp2_with fail
      go_ret
      exact ⟨ret_bool (a := false) HN.out.symm, HB2.out.alloc (by omega) _⟩
    | true =>
      have HN := Lib.hid (show belowV l m = belB a b c d a' b' c' d' by
        obtain ⟨x0, x1, x2, x3, rfl⟩ := vecB_four hl
        obtain ⟨y0, y1, y2, y3, rfl⟩ := vecB_four hm
        have h1 := HV.out
        have h2 := HV2.out
        simp [vecVal, v4l, v4] at h1 h2
        obtain ⟨rfl, rfl, rfl, rfl⟩ := h1
        obtain ⟨rfl, rfl, rfl, rfl⟩ := h2
        simp [belowV, hl, hm])
      clear hl hm
      have hr := HR2.out
      have q0 := hr.c0
      have q1 := hr.c1
      have q2 := hr.c2
      have q3 := hr.c3
      have hbe := fun W => vbelow_any a b c d a' b' c' d' W
      have HBe := Lib.hid hbe
      clear hr hbe
      unfold v4 at *
      go_wp2_with fail
      refine (HBe.out _).mono ?_
      rintro e w3 ⟨rfl, hb3⟩
      have HB3 := Lib.hid ((HB2.out.alloc (by omega) (.cells #[.int .i64 a', .int .i64 b', .int .i64 c', .int .i64 d'] 61)).trans (hb3.mono (by simp; omega)))
      clear hb3
      go_wp2_with fail
      go_ret
      exact ⟨ret_bool HN.out.symm, HB3.out⟩

end Go.Proofs.Ytnejbggbkjgfeaa
