/-
  May a manifest be: plain data, and the model's answer.
-/
import Derived.Test.YtblmhhijgdkkoaaTreeOkS
namespace Go.Proofs.Ytblmhhijgdkkoaa
open Go.RowKit Go.Maps

/-- May it be said, but for its tree? -/
def saidB (au sq pv : Int) (n : Nat) : Bool := decide (0 ≤ au) && decide (au < 4) && decide (1 ≤ sq) && decide (sq ≤ 100) && (if sq = 1 then decide (pv = 0) else decide (1 ≤ pv) && decide (pv ≤ 400)) && decide (n ≤ 8)
/-- May it be? -/
def manB (au sq pv : Int) (vec : List Int) (es : List En) (sg : Int) : Bool := treeB vec es && saidB au sq pv es.length && decide (0 ≤ sg) && decide (sg < 400)

theorem manB_tree {au sq pv : Int} {vec : List Int} {es : List En} {sg : Int} (h : manB au sq pv vec es sg = true) : treeB vec es = true := by
  unfold manB at h
  simp only [Bool.and_eq_true] at h
  exact h.1.1.1
theorem manB_said {au sq pv : Int} {vec : List Int} {es : List En} {sg : Int} (h : manB au sq pv vec es sg = true) : 0 ≤ au ∧ au < 4 ∧ 1 ≤ sq ∧ sq ≤ 100 ∧ 0 ≤ pv ∧ pv ≤ 400 ∧ es.length ≤ 8 ∧ 0 ≤ sg ∧ sg < 400 := by
  unfold manB saidB at h
  simp only [Bool.and_eq_true, decide_eq_true_eq] at h
  obtain ⟨⟨⟨_, ⟨⟨⟨⟨h1, h2⟩, h3⟩, h4⟩, h5⟩, h6⟩, h7⟩, h8⟩ := h
  by_cases e : sq = 1
  · rw [if_pos e] at h5
    simp only [decide_eq_true_eq] at h5
    omega
  · rw [if_neg e] at h5
    simp only [Bool.and_eq_true, decide_eq_true_eq] at h5
    omega

set_option maxRecDepth 100000 in
set_option maxHeartbeats 8000000 in
theorem specManifestOk_any (au sq pv : Int) (AV : Option Addr) (vec : List Int) (cv : Nat) (A : Option Addr) (es : List En) (c : Nat) (sg : Int) (w : World) (hV : IntsIn w 0 w.heap.size AV vec) (hA : EnsIn w 0 w.heap.size A es) (hv : vec.length ≤ 1048576) (hn : es.length ≤ 1048576) (hbk : ebulk es ≤ 1048576) (hc : es.length ≤ c := by omega) :
    Calls Try.prog 31 #[.agg #[.int .i64 au, .int .i64 sq, .int .i64 pv, .slice AV vec.length cv, .slice A es.length c, .int .i64 sg]] w fun e w' => e = .returned (.bool (manB au sq pv vec es sg)) ∧ Below w.heap.size w w' := by
  have HV := Lib.hid hV
  have HA := Lib.hid hA
  have HM := Lib.hid (show manB au sq pv vec es sg = (treeB vec es && (decide (0 ≤ au) && decide (au < 4) && decide (1 ≤ sq) && decide (sq ≤ 100) && (if sq = 1 then decide (pv = 0) else decide (1 ≤ pv) && decide (pv ≤ 400)) && decide (es.length ≤ 8)) && decide (0 ≤ sg) && decide (sg < 400)) from rfl)
  clear hV hA
  obtain ⟨mb, hmb⟩ : ∃ mb, mb = manB au sq pv vec es sg := ⟨_, rfl⟩
  rw [← hmb] at HM ⊢
  clear hmb
  obtain ⟨tb, htb⟩ : ∃ tb, tb = treeB vec es := ⟨_, rfl⟩
  have HTb := Lib.hid htb
  rw [← htb] at HM
  clear htb
  by_cases q1 : au < 0
  · skip
    have q1m : ¬ (0 ≤ au) := by omega
    have HF := Lib.hid (show mb = false by rw [HM.out]; simp [show ¬ 0 ≤ au by omega])
    go_enter Try.func31, Try.ntmps31
    go_wp2_with fail
    go_ret
    exact ⟨ret_bool (a := false) HF.out.symm, (Below.refl _ _).alloc (Nat.le_refl _) _⟩
  have q1n : 0 ≤ au := by omega
  clear q1
  by_cases q2 : (4 : Int) ≤ au
  · skip
    have q2m : ¬ (au < 4) := by omega
    have HF := Lib.hid (show mb = false by rw [HM.out]; simp [show ¬ au < 4 by omega])
    go_enter Try.func31, Try.ntmps31
    go_wp2_with fail
    go_ret
    exact ⟨ret_bool (a := false) HF.out.symm, (Below.refl _ _).alloc (Nat.le_refl _) _⟩
  have q2n : au < 4 := by omega
  clear q2
  by_cases q3 : sq < 1
  · skip
    have q3m : ¬ (1 ≤ sq) := by omega
    have HF := Lib.hid (show mb = false by rw [HM.out]; simp [show ¬ 1 ≤ sq by omega])
    go_enter Try.func31, Try.ntmps31
    go_wp2_with fail
    go_ret
    exact ⟨ret_bool (a := false) HF.out.symm, (Below.refl _ _).alloc (Nat.le_refl _) _⟩
  have q3n : 1 ≤ sq := by omega
  clear q3
  by_cases q4 : (100 : Int) < sq
  · skip
    have q4m : ¬ (sq ≤ 100) := by omega
    have HF := Lib.hid (show mb = false by rw [HM.out]; simp [show ¬ sq ≤ 100 by omega])
    go_enter Try.func31, Try.ntmps31
    go_wp2_with fail
    go_ret
    exact ⟨ret_bool (a := false) HF.out.symm, (Below.refl _ _).alloc (Nat.le_refl _) _⟩
  have q4n : sq ≤ 100 := by omega
  clear q4
  by_cases q5 : pv < 0
  · skip
    have q5m : ¬ (0 ≤ pv) := by omega
    have HF := Lib.hid (show mb = false by rw [HM.out]; simp [show ¬ pv = 0 by omega, show ¬ 1 ≤ pv by omega])
    go_enter Try.func31, Try.ntmps31
    go_wp2_with fail
    go_ret
    exact ⟨ret_bool (a := false) HF.out.symm, (Below.refl _ _).alloc (Nat.le_refl _) _⟩
  have q5n : 0 ≤ pv := by omega
  clear q5
  by_cases q6 : (400 : Int) < pv
  · skip
    have q6m : ¬ (pv ≤ 400) := by omega
    have HF := Lib.hid (show mb = false by rw [HM.out]; simp [show ¬ pv = 0 by omega, show ¬ pv ≤ 400 by omega])
    go_enter Try.func31, Try.ntmps31
    go_wp2_with fail
    go_ret
    exact ⟨ret_bool (a := false) HF.out.symm, (Below.refl _ _).alloc (Nat.le_refl _) _⟩
  have q6n : pv ≤ 400 := by omega
  clear q6
  go_enter Try.func31, Try.ntmps31
  go_wp2_with fail
  obtain ⟨W, hW⟩ : ∃ W, W = w.alloc (.cells #[.int .i64 au, .int .i64 sq, .int .i64 pv, .slice AV vec.length cv, .slice A es.length c, .int .i64 sg] 52) := ⟨_, rfl⟩
  have HX := Lib.hid (show Bx W w.heap.size [.int .i64 au, .int .i64 sq, .int .i64 pv, .slice AV vec.length cv, .slice A es.length c, .int .i64 sg] by rw [hW]; exact Bx.new' _ _ _ _ rfl)
  have HBel := Lib.hid (show Below w.heap.size w W by rw [hW]; exact (Below.refl _ _).alloc (Nat.le_refl _) _)
  have hzW : w.heap.size < W.heap.size := by rw [hW]; simp
  rw [← hW]
  clear hW
  refine (specTreeOk_any AV vec cv A es c W ((HV.out.keep fun p _ hp => HBel.out.cell hp).mono (by omega)) ((HA.out.below HBel.out).mono (by omega)) hv hn hbk hc).mono ?_
  rw [← HTb.out]
  rintro e w1 ⟨rfl, hb1⟩
  have HB1 := Lib.hid (HBel.out.trans (hb1.mono (by omega)))
  have hz1 := hb1.size
  have x1 := (HX.out.below hb1 hzW) 1 (by simp)
  have x2 := (HX.out.below hb1 hzW) 2 (by simp)
  have x4 := (HX.out.below hb1 hzW) 4 (by simp)
  have x5 := (HX.out.below hb1 hzW) 5 (by simp)
  simp only [List.getElem_cons_succ, List.getElem_cons_zero] at x1 x2 x4 x5
  have lw : w.heap.size < w1.heap.size := by omega
  clear hb1
  cases tb with
  | false =>
    have HF := Lib.hid (show mb = false by rw [HM.out]; rfl)
    go_wp2_with fail
    go_ret
    exact ⟨ret_bool (a := false) HF.out.symm, HB1.out⟩
  | true =>
  by_cases q7 : (8 : Int) < (es.length : Int)
  · skip
    have q7m : ¬ ((es.length : Int) ≤ 8) := by omega
    have HF := Lib.hid (show mb = false by rw [HM.out]; simp [show ¬ es.length ≤ 8 by omega])
    go_wp2_with fail
    go_ret
    exact ⟨ret_bool (a := false) HF.out.symm, HB1.out⟩
  have q7n : (es.length : Int) ≤ 8 := by omega
  clear q7
  by_cases q8 : sg < 0
  · skip
    have q8m : ¬ (0 ≤ sg) := by omega
    have HF := Lib.hid (show mb = false by rw [HM.out]; simp [show ¬ 0 ≤ sg by omega])
    go_wp2_with fail
    go_ret
    exact ⟨ret_bool (a := false) HF.out.symm, HB1.out⟩
  have q8n : 0 ≤ sg := by omega
  clear q8
  by_cases q9 : (400 : Int) ≤ sg
  · skip
    have q9m : ¬ (sg < 400) := by omega
    have HF := Lib.hid (show mb = false by rw [HM.out]; simp [show ¬ sg < 400 by omega])
    go_wp2_with fail
    go_ret
    exact ⟨ret_bool (a := false) HF.out.symm, HB1.out⟩
  have q9n : sg < 400 := by omega
  clear q9
  have q7k : es.length ≤ 8 := by omega
  by_cases s1 : sq = 1
  · skip
    have s1b : (sq == 1) = true := by simp [s1]
    by_cases s2 : pv = 0
    · skip
      have s2b : (pv == 0) = true := by simp [s2]
      have HF := Lib.hid (show mb = true by rw [HM.out]; simp [s1, s2, q1n, q2n, q7k, q8n, q9n])
      go_wp2_with fail
      go_ret
      exact ⟨ret_bool (a := true) HF.out.symm, HB1.out⟩
    · skip
      have s2b : (pv == 0) = false := by simp [s2]
      have HF := Lib.hid (show mb = false by rw [HM.out]; simp [s1, s2])
      go_wp2_with fail
      go_ret
      exact ⟨ret_bool (a := false) HF.out.symm, HB1.out⟩
  · skip
    have s1b : (sq == 1) = false := by simp [s1]
    by_cases s2 : pv = 0
    · skip
      have s2b : (pv == 0) = true := by simp [s2]
      have HF := Lib.hid (show mb = false by rw [HM.out]; simp [s1, s2])
      go_wp2_with fail
      go_ret
      exact ⟨ret_bool (a := false) HF.out.symm, HB1.out⟩
    · skip
      have s2b : (pv == 0) = false := by simp [s2]
      have s2c : 1 ≤ pv := by omega
      have HF := Lib.hid (show mb = true by rw [HM.out]; simp [s1, s2c, q1n, q2n, q3n, q4n, q6n, q7k, q8n, q9n])
      go_wp2_with fail
      go_ret
      exact ⟨ret_bool (a := true) HF.out.symm, HB1.out⟩
end Go.Proofs.Ytblmhhijgdkkoaa
