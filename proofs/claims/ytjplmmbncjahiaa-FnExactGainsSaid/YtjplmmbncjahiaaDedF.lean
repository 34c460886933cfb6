/-
  The model's Opened, Can, All, Secret.
-/
import Derived.Test.YtjplmmbncjahiaaGDd
import Derived.Test.YtjplmmbncjahiaaStep
namespace Go.Proofs.Ytjplmmbncjahiaa
open Go.RowKit Go.Maps

open Classical in
/-- May it be asked at all? -/
noncomputable def askB (ts : List Tm) (hv : List Int) : Bool := lokB ts && decide (hv.length ≤ 1000)
/-- What is had in the end. -/
noncomputable def endB (ts : List Tm) (hv : List Int) : Nat → Bool := opB ts (haveB ts.length hv)
noncomputable def openedV (ts : List Tm) (hv : List Int) : List Int := if askB ts hv = true then pick (endB ts hv) ts.length else []
noncomputable def allV (ts : List Tm) (hv : List Int) : List Int := if askB ts hv = true then pick (cnB ts (endB ts hv)) ts.length else []
noncomputable def canV (ts : List Tm) (hv : List Int) (want : Int) : Bool := askB ts hv && (hasB ts.length want && cnB ts (endB ts hv) want.toNat)
noncomputable def secretV (ts : List Tm) (hv : List Int) (want : Int) : Bool := askB ts hv && (hasB ts.length want && !canV ts hv want)

set_option maxRecDepth 100000 in
set_option maxHeartbeats 2000000 in
theorem specOpened_any (A : Option Addr) (ts : List Tm) (c L B : Nat) (A2 : Option Addr) (hv : List Int) (c2 L2 B2 : Nat) (w : World) (hA : TmsIn w L B A ts) (hB : B ≤ w.heap.size) (hn : ts.length ≤ 1048576) (hbk : bulk ts ≤ 1048576) (hA2 : IntsIn w L2 B2 A2 hv) (hB2 : B2 ≤ w.heap.size) (hn2 : hv.length ≤ 1048576) :
    Calls Try.prog 11 #[.agg #[.slice A ts.length c], .slice A2 hv.length c2] w (NewIntsFr (openedV ts hv) w) := by
  have HA := Lib.hid hA
  have HA2 := Lib.hid hA2
  clear hA hA2
  go_enter Try.func11, Try.ntmps11
  go_wp2_with fail
  have hb0 : Below w.heap.size w (w.alloc (.cells #[.slice A ts.length c] 30)) := (Below.refl _ _).alloc (Nat.le_refl _) _
  refine (specLedgerOk_any A ts c L B _ (HA.out.keep fun p _ hp => hb0.cell (by omega)) (by simp; omega) hn hbk).mono ?_
  rintro e w1 ⟨rfl, hb1⟩
  have b_1 : w1.cell? ⟨w.heap.size, 0, none⟩ = some (.slice A ts.length c) := (hb1.cell (p := ⟨w.heap.size, 0, none⟩) (by simp)).trans (by simp)
  have hz1 : w.heap.size + 1 ≤ w1.heap.size := by simpa using hb1.size
  have HB1 := Lib.hid (hb0.trans (hb1.mono (by simp)))
  clear hb0 hb1
  cases hl : lokB ts with
  | false =>
    have HV := Lib.hid (show openedV ts hv = [] by simp [openedV, askB, hl])
    clear hl
    go_wp2_with fail
    all_goals go_ret
    all_goals rw [HV.out]
    all_goals exact .nil HB1.out
  | true =>
    by_cases h1 : (hv.length : Int) ≤ 1000
    · have HV := Lib.hid (show openedV ts hv = pick (endB ts hv) ts.length by simp [openedV, askB, hl, show hv.length ≤ 1000 by omega])
      have HOk := Lib.hid (lok_of hl)
      clear hl
      go_wp2_with fail
      refine (l2have_any A A2 ts hv c c2 L2 B2 w1 (HA2.out.keep fun p _ hp => HB1.out.cell (by omega)) (by omega) hn hn2).mono ?_
      rintro e w2 ⟨R, rfl, hR, hR', hrow, hb2⟩
      have b_2 := (hb2.cell (p := ⟨w.heap.size, 0, none⟩) (by show w.heap.size < _; omega)).trans b_1
      have hz2 := hb2.size
      have HRow := Lib.hid hrow
      have HB2 := Lib.hid (HB1.out.trans (hb2.mono (by omega)))
      clear hrow hb2 b_1
      go_wp2_with fail
      refine (l2open_any A ts c L B R (haveB ts.length hv) w2 (HA.out.keep fun p _ hp => HB2.out.cell (by omega)) (by omega) HRow.out HOk.out (fun j hj => by unfold haveB at hj; simp at hj; exact hj.1) hn).mono ?_
      rintro e w3 ⟨rfl, hrow3, hg3⟩
      have b_3 := (gb_cell hg3 (p := ⟨w.heap.size, 0, none⟩) (by show w.heap.size < _; omega) (by show w.heap.size ≠ R; omega)).trans b_2
      have hz3 := hg3.size
      have HRow3 := Lib.hid hrow3
      have HB3 := Lib.hid (HB2.out.grown hg3 (by omega) (fun k hk => by cases hk; omega))
      clear hrow3 hg3 b_2
      go_wp2_with fail
      refine (l2list_any R ts.length (endB ts hv) w3 HRow3.out hn).mono ?_
      rintro e w4 h4
      obtain ⟨A4, c4, rfl, hr4, hb4⟩ := h4
      have HI4 := Lib.hid (ints_of_row hr4)
      have HB4 := Lib.hid (HB3.out.trans (hb4.mono (by omega)))
      clear hr4 hb4
      go_wp2_with fail
      go_ret
      rw [HV.out]
      exact ⟨A4, c4, rfl, HI4.out.low (by omega), HB4.out⟩
    · have HV := Lib.hid (show openedV ts hv = [] by simp [openedV, askB, show ¬ hv.length ≤ 1000 by omega])
      have h1i : (1000 : Int) < hv.length := by omega
      clear h1
      clear hl
      go_wp2_with fail
      all_goals go_ret
      all_goals rw [HV.out]
      all_goals exact .nil HB1.out

set_option maxRecDepth 100000 in
set_option maxHeartbeats 2000000 in
theorem specCan_any (A : Option Addr) (ts : List Tm) (c L B : Nat) (A2 : Option Addr) (hv : List Int) (c2 L2 B2 : Nat) (want : Int) (w : World) (hA : TmsIn w L B A ts) (hB : B ≤ w.heap.size) (hn : ts.length ≤ 1048576) (hbk : bulk ts ≤ 1048576) (hA2 : IntsIn w L2 B2 A2 hv) (hB2 : B2 ≤ w.heap.size) (hn2 : hv.length ≤ 1048576) :
    Calls Try.prog 20 #[.agg #[.slice A ts.length c], .slice A2 hv.length c2, .int .i64 want] w (fun e w' => e = .returned (.bool (canV ts hv want)) ∧ Below w.heap.size w w') := by
  have HA := Lib.hid hA
  have HA2 := Lib.hid hA2
  clear hA hA2
  go_enter Try.func20, Try.ntmps20
  go_wp2_with fail
  have hb0 : Below w.heap.size w (w.alloc (.cells #[.slice A ts.length c] 30)) := (Below.refl _ _).alloc (Nat.le_refl _) _
  refine (specLedgerOk_any A ts c L B _ (HA.out.keep fun p _ hp => hb0.cell (by omega)) (by simp; omega) hn hbk).mono ?_
  rintro e w1 ⟨rfl, hb1⟩
  have b_1 : w1.cell? ⟨w.heap.size, 0, none⟩ = some (.slice A ts.length c) := (hb1.cell (p := ⟨w.heap.size, 0, none⟩) (by simp)).trans (by simp)
  have hz1 : w.heap.size + 1 ≤ w1.heap.size := by simpa using hb1.size
  have HB1 := Lib.hid (hb0.trans (hb1.mono (by simp)))
  clear hb0 hb1
  cases hl : lokB ts with
  | false =>
    have HV := Lib.hid (show canV ts hv want = false by simp [canV, askB, hl])
    clear hl
    go_wp2_with fail
    all_goals go_ret
    all_goals exact ⟨ret_bool HV.out.symm, HB1.out⟩
  | true =>
    by_cases h1 : (hv.length : Int) ≤ 1000
    · by_cases h2 : 0 ≤ want
      · by_cases h3 : want < ts.length
        · obtain ⟨q, rfl⟩ := Int.eq_ofNat_of_zero_le h2
          have hq : q < ts.length := by omega
          have HV := Lib.hid (show canV ts hv q = cnB ts (endB ts hv) q by simp [canV, askB, hl, show hv.length ≤ 1000 by omega, hasB, hq])
          clear h2
          have HOk := Lib.hid (lok_of hl)
          clear hl
          go_wp2_with fail
          refine (l2have_any A A2 ts hv c c2 L2 B2 w1 (HA2.out.keep fun p _ hp => HB1.out.cell (by omega)) (by omega) hn hn2).mono ?_
          rintro e w2 ⟨R, rfl, hR, hR', hrow, hb2⟩
          have b_2 := (hb2.cell (p := ⟨w.heap.size, 0, none⟩) (by show w.heap.size < _; omega)).trans b_1
          have hz2 := hb2.size
          have HRow := Lib.hid hrow
          have HB2 := Lib.hid (HB1.out.trans (hb2.mono (by omega)))
          clear hrow hb2 b_1
          go_wp2_with fail
          refine (l2open_any A ts c L B R (haveB ts.length hv) w2 (HA.out.keep fun p _ hp => HB2.out.cell (by omega)) (by omega) HRow.out HOk.out (fun j hj => by unfold haveB at hj; simp at hj; exact hj.1) hn).mono ?_
          rintro e w3 ⟨rfl, hrow3, hg3⟩
          have b_3 := (gb_cell hg3 (p := ⟨w.heap.size, 0, none⟩) (by show w.heap.size < _; omega) (by show w.heap.size ≠ R; omega)).trans b_2
          have hz3 := hg3.size
          have HRow3 := Lib.hid hrow3
          have HB3 := Lib.hid (HB2.out.grown hg3 (by omega) (fun k hk => by cases hk; omega))
          clear hrow3 hg3 b_2
          go_wp2_with fail
          refine (l2all_any A ts c L B R (endB ts hv) w3 (HA.out.keep fun p _ hp => HB3.out.cell (by omega)) (by omega) HRow3.out HOk.out hn).mono ?_
          rintro e w4 ⟨R4, rfl, hR4, hR4', hrow4, hb4⟩
          have hc4 := hrow4.cell hq
          have HB4 := Lib.hid (HB3.out.trans (hb4.mono (by omega)))
          obtain ⟨v, hv'⟩ : ∃ v, v = cnB ts (endB ts hv) q := ⟨_, rfl⟩
          rw [← hv'] at hc4
          have HV2 := Lib.hid (show v = canV ts hv q by rw [HV.out, hv'])
          clear hrow4 hb4 hv'
          go_wp2_with fail
          refine bodyPost_ret (v := .bool v) (by simp [results, Try.results20, go_sem]) rfl ?_
          exact ⟨ret_bool HV2.out, HB4.out⟩
        · have HV := Lib.hid (show canV ts hv want = false by simp [canV, hasB, h3])
          clear hl
          go_wp2_with fail
          all_goals go_ret
          all_goals exact ⟨ret_bool HV.out.symm, HB1.out⟩
      · have HV := Lib.hid (show canV ts hv want = false by simp [canV, hasB, h2])
        clear hl
        go_wp2_with fail
        all_goals go_ret
        all_goals exact ⟨ret_bool HV.out.symm, HB1.out⟩
    · have HV := Lib.hid (show canV ts hv want = false by simp [canV, askB, show ¬ hv.length ≤ 1000 by omega])
      have h1i : (1000 : Int) < hv.length := by omega
      clear h1
      clear hl
      go_wp2_with fail
      all_goals go_ret
      all_goals exact ⟨ret_bool HV.out.symm, HB1.out⟩

set_option maxRecDepth 100000 in
set_option maxHeartbeats 2000000 in
theorem specAll_any (A : Option Addr) (ts : List Tm) (c L B : Nat) (A2 : Option Addr) (hv : List Int) (c2 L2 B2 : Nat) (w : World) (hA : TmsIn w L B A ts) (hB : B ≤ w.heap.size) (hn : ts.length ≤ 1048576) (hbk : bulk ts ≤ 1048576) (hA2 : IntsIn w L2 B2 A2 hv) (hB2 : B2 ≤ w.heap.size) (hn2 : hv.length ≤ 1048576) :
    Calls Try.prog 22 #[.agg #[.slice A ts.length c], .slice A2 hv.length c2] w (NewIntsFr (allV ts hv) w) := by
  have HA := Lib.hid hA
  have HA2 := Lib.hid hA2
  clear hA hA2
  go_enter Try.func22, Try.ntmps22
  go_wp2_with fail
  have hb0 : Below w.heap.size w (w.alloc (.cells #[.slice A ts.length c] 30)) := (Below.refl _ _).alloc (Nat.le_refl _) _
  refine (specLedgerOk_any A ts c L B _ (HA.out.keep fun p _ hp => hb0.cell (by omega)) (by simp; omega) hn hbk).mono ?_
  rintro e w1 ⟨rfl, hb1⟩
  have b_1 : w1.cell? ⟨w.heap.size, 0, none⟩ = some (.slice A ts.length c) := (hb1.cell (p := ⟨w.heap.size, 0, none⟩) (by simp)).trans (by simp)
  have hz1 : w.heap.size + 1 ≤ w1.heap.size := by simpa using hb1.size
  have HB1 := Lib.hid (hb0.trans (hb1.mono (by simp)))
  clear hb0 hb1
  cases hl : lokB ts with
  | false =>
    have HV := Lib.hid (show allV ts hv = [] by simp [allV, askB, hl])
    clear hl
    go_wp2_with fail
    all_goals go_ret
    all_goals rw [HV.out]
    all_goals exact .nil HB1.out
  | true =>
    by_cases h1 : (hv.length : Int) ≤ 1000
    · have HV := Lib.hid (show allV ts hv = pick (cnB ts (endB ts hv)) ts.length by simp [allV, askB, hl, show hv.length ≤ 1000 by omega])
      have HOk := Lib.hid (lok_of hl)
      clear hl
      go_wp2_with fail
      refine (l2have_any A A2 ts hv c c2 L2 B2 w1 (HA2.out.keep fun p _ hp => HB1.out.cell (by omega)) (by omega) hn hn2).mono ?_
      rintro e w2 ⟨R, rfl, hR, hR', hrow, hb2⟩
      have b_2 := (hb2.cell (p := ⟨w.heap.size, 0, none⟩) (by show w.heap.size < _; omega)).trans b_1
      have hz2 := hb2.size
      have HRow := Lib.hid hrow
      have HB2 := Lib.hid (HB1.out.trans (hb2.mono (by omega)))
      clear hrow hb2 b_1
      go_wp2_with fail
      refine (l2open_any A ts c L B R (haveB ts.length hv) w2 (HA.out.keep fun p _ hp => HB2.out.cell (by omega)) (by omega) HRow.out HOk.out (fun j hj => by unfold haveB at hj; simp at hj; exact hj.1) hn).mono ?_
      rintro e w3 ⟨rfl, hrow3, hg3⟩
      have b_3 := (gb_cell hg3 (p := ⟨w.heap.size, 0, none⟩) (by show w.heap.size < _; omega) (by show w.heap.size ≠ R; omega)).trans b_2
      have hz3 := hg3.size
      have HRow3 := Lib.hid hrow3
      have HB3 := Lib.hid (HB2.out.grown hg3 (by omega) (fun k hk => by cases hk; omega))
      clear hrow3 hg3 b_2
      go_wp2_with fail
      refine (l2all_any A ts c L B R (endB ts hv) w3 (HA.out.keep fun p _ hp => HB3.out.cell (by omega)) (by omega) HRow3.out HOk.out hn).mono ?_
      rintro e w4 ⟨R4, rfl, hR4, hR4', hrow4, hb4⟩
      have hz4 := hb4.size
      have HRow4 := Lib.hid hrow4
      have HB4 := Lib.hid (HB3.out.trans (hb4.mono (by omega)))
      clear hrow4 hb4
      go_wp2_with fail
      refine (l2list_any R4 ts.length (cnB ts (endB ts hv)) w4 HRow4.out hn).mono ?_
      rintro e w5 ⟨A5, c5, rfl, hr5, hb5⟩
      have hlen := pick_length (cnB ts (endB ts hv)) ts.length
      obtain ⟨l, hl⟩ : ∃ l, l = pick (cnB ts (endB ts hv)) ts.length := ⟨_, rfl⟩
      rw [← hl] at hr5 hlen ⊢
      have HL := Lib.hid (HV.out.trans hl.symm)
      have hz5 := hb5.size
      have HR5 := Lib.hid hr5
      have HB5 := Lib.hid (HB4.out.trans (hb5.mono (by omega)))
      obtain ⟨i0, hi, hz0, hz1', hz2'⟩ := info_parts Try.infoInt
      clear hr5 hb5 hl
      go_wp2_with (at_builtin; refine wpList_append_row _ rfl _ _ 25 rfl w4.heap.size w4.heap.size 3 i0 (.int .i64 0) 1 8 Try.underlying25 hi hz0 hz1' hz2' rfl (by decide) _ _ _ rfl (World.ownsRow_nil _ _ _ _) _ _ _ rfl HR5.out ?c1 ?c2 ?c3 ?c4 ?_)
      case c1 => intro u hu; simp [vint] at hu; obtain ⟨x, _, rfl⟩ := hu; rfl
      case c2 => unfold maxLen; omega
      case c3 => omega
      case c4 => omega
      intro A6 c6 w6 hrow6 hgr6
      try simp only [Nat.zero_add, List.nil_append] at hrow6
      have HI6 := Lib.hid (ints_of_row hrow6)
      have HB6 := Lib.hid (HB5.out.grown hgr6 (by omega) (fun k hk => by cases hk))
      clear hrow6 hgr6
      go_wp2_with fail
      refine bodyPost_ret (v := .slice A6 l.length c6) (by simp [results, Try.results22, go_sem]) rfl ?_
      rw [HL.out]
      exact ⟨A6, c6, rfl, HI6.out.low (by omega), HB6.out⟩
    · have HV := Lib.hid (show allV ts hv = [] by simp [allV, askB, show ¬ hv.length ≤ 1000 by omega])
      have h1i : (1000 : Int) < hv.length := by omega
      clear hl h1
      go_wp2_with fail
      all_goals go_ret
      all_goals rw [HV.out]
      all_goals exact .nil HB1.out

set_option maxRecDepth 100000 in
set_option maxHeartbeats 2000000 in
theorem specSecret_any (A : Option Addr) (ts : List Tm) (c L B : Nat) (A2 : Option Addr) (hv : List Int) (c2 L2 B2 : Nat) (want : Int) (w : World) (hA : TmsIn w L B A ts) (hB : B ≤ w.heap.size) (hn : ts.length ≤ 1048576) (hbk : bulk ts ≤ 1048576) (hA2 : IntsIn w L2 B2 A2 hv) (hB2 : B2 ≤ w.heap.size) (hn2 : hv.length ≤ 1048576) :
    Calls Try.prog 26 #[.agg #[.slice A ts.length c], .slice A2 hv.length c2, .int .i64 want] w (fun e w' => e = .returned (.bool (secretV ts hv want)) ∧ Below w.heap.size w w') := by
  have HA := Lib.hid hA
  have HA2 := Lib.hid hA2
  clear hA hA2
  go_enter Try.func26, Try.ntmps26
  go_wp2_with fail
  have hb0 : Below w.heap.size w (w.alloc (.cells #[.slice A ts.length c] 30)) := (Below.refl _ _).alloc (Nat.le_refl _) _
  refine (specLedgerOk_any A ts c L B _ (HA.out.keep fun p _ hp => hb0.cell (by omega)) (by simp; omega) hn hbk).mono ?_
  rintro e w1 ⟨rfl, hb1⟩
  have b_1 : w1.cell? ⟨w.heap.size, 0, none⟩ = some (.slice A ts.length c) := (hb1.cell (p := ⟨w.heap.size, 0, none⟩) (by simp)).trans (by simp)
  have hz1 : w.heap.size + 1 ≤ w1.heap.size := by simpa using hb1.size
  have HB1 := Lib.hid (hb0.trans (hb1.mono (by simp)))
  clear hb0 hb1
  cases hl : lokB ts with
  | false =>
    have HV := Lib.hid (show secretV ts hv want = false by simp [secretV, askB, hl])
    clear hl
    go_wp2_with fail
    all_goals go_ret
    all_goals exact ⟨ret_bool HV.out.symm, HB1.out⟩
  | true =>
    by_cases h1 : (hv.length : Int) ≤ 1000
    · by_cases h2 : 0 ≤ want
      · by_cases h3 : want < ts.length
        · have hw : hasB ts.length want = true := by simp [hasB, h2, h3]
          obtain ⟨cv, hcv⟩ : ∃ cv, cv = canV ts hv want := ⟨_, rfl⟩
          have HCv := Lib.hid hcv
          have HV := Lib.hid (show secretV ts hv want = !cv by rw [hcv]; simp [secretV, askB, hl, show hv.length ≤ 1000 by omega, hw])
          have hcan := specCan_any A ts c L B A2 hv c2 L2 B2 want w1 (HA.out.keep fun p _ hp => HB1.out.cell (by omega)) (by omega) hn hbk (HA2.out.keep fun p _ hp => HB1.out.cell (by omega)) (by omega) hn2
          rw [← hcv] at hcan
          have HCan := Lib.hid hcan
          clear hl hw hcan hcv
          go_wp2_with fail
          refine HCan.out.mono ?_
          rintro e w2 ⟨rfl, hb2⟩
          have HB2 := Lib.hid (HB1.out.trans (hb2.mono (by omega)))
          clear hb2
          go_wp2_with fail
          all_goals refine bodyPost_ret (v := .bool (!cv)) (by simp [results, Try.results26, go_sem]) rfl ?_
          all_goals exact ⟨ret_bool HV.out.symm, HB2.out⟩
        · have HV := Lib.hid (show secretV ts hv want = false by simp [secretV, hasB, h3])
          clear hl
          go_wp2_with fail
          all_goals try (exfalso; omega)
          all_goals go_ret
          all_goals exact ⟨ret_bool HV.out.symm, HB1.out⟩
      · have HV := Lib.hid (show secretV ts hv want = false by simp [secretV, hasB, h2])
        clear hl
        go_wp2_with fail
        all_goals try (exfalso; omega)
        all_goals go_ret
        all_goals exact ⟨ret_bool HV.out.symm, HB1.out⟩
    · have h1i : (1000 : Int) < hv.length := by omega
      have HV := Lib.hid (show secretV ts hv want = false by simp [secretV, askB, show ¬ hv.length ≤ 1000 by omega])
      clear h1
      clear hl
      go_wp2_with fail
      all_goals go_ret
      all_goals exact ⟨ret_bool HV.out.symm, HB1.out⟩

end Go.Proofs.Ytjplmmbncjahiaa
