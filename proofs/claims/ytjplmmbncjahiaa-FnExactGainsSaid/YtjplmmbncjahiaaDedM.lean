/-
  The model's Missing.
-/
import Derived.Test.YtjplmmbncjahiaaDedL
import Derived.Test.YtjplmmbncjahiaaSubterms
namespace Go.Proofs.Ytjplmmbncjahiaa
open Go.RowKit Go.Maps

/-- A nonce or a key that can't be had. -/
noncomputable def missB (ts : List Tm) (hv : List Int) (x : Int) : Bool := lowB ts x && !canV ts hv x
noncomputable def missV (ts : List Tm) (hv : List Int) (want : Int) : List Int := if askB ts hv = true then (subsV ts want).filter (missB ts hv) else []
theorem subsV_range {ts : List Tm} {want x : Int} (h : x ∈ subsV ts want) : 0 ≤ x ∧ x < ts.length := by
  unfold subsV at h
  split at h
  · exact pick_range h
  · simp at h

set_option maxRecDepth 100000 in
set_option maxHeartbeats 2000000 in
theorem specMissing_any (A : Option Addr) (ts : List Tm) (c L B : Nat) (A2 : Option Addr) (hv : List Int) (c2 L2 B2 : Nat) (want : Int) (w : World) (hA : TmsIn w L B A ts) (hB : B ≤ w.heap.size) (hn : ts.length ≤ 1048576) (hbk : bulk ts ≤ 1048576) (hA2 : IntsIn w L2 B2 A2 hv) (hB2 : B2 ≤ w.heap.size) (hn2 : hv.length ≤ 1048576) :
    Calls Try.prog 24 #[.agg #[.slice A ts.length c], .slice A2 hv.length c2, .int .i64 want] w (NewIntsFr (missV ts hv want) w) := by
  have HA := Lib.hid hA
  have HA2 := Lib.hid hA2
  clear hA hA2
  go_enter Try.func24, Try.ntmps24
  go_wp2_with fail
  have hb0 : Below w.heap.size w (w.alloc (.cells #[.slice A ts.length c] 30)) := (Below.refl _ _).alloc (Nat.le_refl _) _
  refine (specLedgerOk_any A ts c L B _ (HA.out.keep fun p _ hp => hb0.cell (by omega)) (by simp; omega) hn hbk).mono ?_
  rintro e w0 ⟨rfl, hb1⟩
  have b_0 : w0.cell? ⟨w.heap.size, 0, none⟩ = some (.slice A ts.length c) := (hb1.cell (p := ⟨w.heap.size, 0, none⟩) (by simp)).trans (by simp)
  have hz0 : w.heap.size + 1 ≤ w0.heap.size := by simpa using hb1.size
  have HB0 := Lib.hid (hb0.trans (hb1.mono (by simp)))
  clear hb0 hb1
  cases hl : lokB ts with
  | false =>
    have HV := Lib.hid (show missV ts hv want = [] by simp [missV, askB, hl])
    clear hl
    go_wp2_with fail
    all_goals go_ret
    all_goals rw [HV.out]
    all_goals exact .nil HB0.out
  | true =>
  by_cases h1000 : (hv.length : Int) ≤ 1000
  case neg =>
    have HV := Lib.hid (show missV ts hv want = [] by simp [missV, askB, show ¬ hv.length ≤ 1000 by omega])
    have h1i : (1000 : Int) < hv.length := by omega
    clear hl h1000
    go_wp2_with fail
    all_goals go_ret
    all_goals rw [HV.out]
    all_goals exact .nil HB0.out
  have HV := Lib.hid (show missV ts hv want = (subsV ts want).filter (missB ts hv) by simp [missV, askB, hl, show hv.length ≤ 1000 by omega])
  clear hl
  go_wp2_with fail
  refine (specSubterms_any A ts c L B want w0 (HA.out.keep fun p _ hp => HB0.out.cell (by omega)) (by omega) hn hbk).mono ?_
  rintro e w1 ⟨A1, c1, rfl, hfr, hb1⟩
  have hlen := subsV_length ts want
  have HRange := Lib.hid (fun x (h : x ∈ subsV ts want) => subsV_range h)
  generalize subsV ts want = l at *
  have b_1 := (hb1.cell (p := ⟨w.heap.size, 0, none⟩) (by show w.heap.size < _; omega)).trans b_0
  have hz1 : w.heap.size + 1 ≤ w1.heap.size := by have := hb1.size; omega
  have HFr := Lib.hid hfr
  have HB1 := Lib.hid (HB0.out.trans (hb1.mono (by omega)))
  clear hb1 hfr b_0
  go_wp2_with fail
  go_loopw [7, 9] (fun out x wr => ∃ (k : Nat) (A' : Option Addr) (c' : Nat), k ≤ l.length ∧ x = .int .i64 k ∧ out = .slice A' ((l.take k).filter (missB ts hv)).length c' ∧ wr.ownsRow w1.heap.size 3 1 (.slice A' ((l.take k).filter (missB ts hv)).length c') ((l.take k).filter (missB ts hv)).length (((l.take k).filter (missB ts hv)).map vint) ∧ Below w1.heap.size w1 wr) (fun _ x _ => l.length - (intOf x).toNat)
  case atStart => exact ⟨0, none, 0, Nat.zero_le _, rfl, rfl, World.ownsRow_nil _ _ _ _, Below.refl _ _⟩
  case round =>
    obtain ⟨k, A', c', hk, rfl, rfl, hown, hbel⟩ := hrel
    have e0 := (hbel.cell (p := ⟨w.heap.size, 0, none⟩) (by show w.heap.size < _; omega)).trans b_1
    have HOwn := Lib.hid hown
    have HBel := Lib.hid hbel
    have hfl : ((l.take k).filter (missB ts hv)).length ≤ k := Nat.le_trans (List.length_filter_le _ _) (by rw [List.length_take]; omega)
    have hzr := hbel.size
    clear hown hbel
    by_cases hlt : k < l.length
    · have hS := filter_next (p := missB ts hv) hlt
      obtain ⟨bq, oq, rfl, hLq, hbq, hcq⟩ := HFr.out (by omega)
      have hck := (HBel.out.cell (p := ⟨bq, oq + k, none⟩) (by show bq < _; omega)).trans (hcq k hlt).1
      have hr := HRange.out l[k] (List.getElem_mem hlt)
      obtain ⟨q, hq⟩ := Int.eq_ofNat_of_zero_le hr.1
      rw [hq] at hck hr hS
      have hqn : q < ts.length := by omega
      have hbw : Below w.heap.size w wr := HB1.out.trans (HBel.out.mono (by omega))
      obtain ⟨b, o, rfl, hL, hb, hc⟩ := HA.out (by omega)
      obtain ⟨A3, c3, x0, _⟩ := (hc q hqn).keep hL hb (fun p _ hp => hbw.cell (by omega))
      have HS := Lib.hid hS
      obtain ⟨lk, hlk⟩ : ∃ lk, lk = (l.take k).filter (missB ts hv) := ⟨_, rfl⟩
      rw [← hlk] at HOwn HS hfl ⊢
      obtain ⟨cv, hcv⟩ : ∃ cv, cv = canV ts hv q := ⟨_, rfl⟩
      have hmiss : missB ts hv (q : Int) = (decide (ts[q].kind ≤ 1) && !cv) := by simp [missB, lowB, tmAt_nat ts q hqn, hcv]
      have HMiss := Lib.hid hmiss
      have HCv := Lib.hid hcv
      have HBw := Lib.hid hbw
      clear hS hcq hr hq hc hbw hlk hcv hmiss
      go_wp2_with fail
      go_quiet (fail)
      have HOwnD := Lib.hid (show (wr.drewN nq).ownsRow w1.heap.size 3 1 (.slice A' lk.length c') lk.length (lk.map vint) from HOwn.out)
      have HBelD := Lib.hid (below_drewN HBel.out nq)
      have HBwD := Lib.hid (below_drewN HBw.out nq)
      have hzd : w1.heap.size ≤ (wr.drewN nq).heap.size := hzr
      have hckd : (wr.drewN nq).cell? ⟨bq, oq + k, none⟩ = some (.int .i64 (q : Int)) := hck
      have e0d : (wr.drewN nq).cell? ⟨w.heap.size, 0, none⟩ = some (.slice (some ⟨b, o, none⟩) ts.length c) := e0
      generalize wr.drewN nq = wd at *
      clear hck x0 e0
      go_wp2_with fail
      have kb : ∀ x : Kp wd, x.val.cell? ⟨w.heap.size, 0, none⟩ = some (.slice (some ⟨b, o, none⟩) ts.length c) := fun x => x.cell e0d
      have kc : ∀ x : Kp wd, x.val.cell? ⟨bq, oq + k, none⟩ = some (.int .i64 (q : Int)) := fun x => x.cell hckd
      have hcan : ∀ x : Kp wd, Calls Try.prog 20 #[.agg #[.slice (some ⟨b, o, none⟩) ts.length c], .slice A2 hv.length c2, .int .i64 (q : Int)] x.val fun e w' => e = .returned (.bool cv) ∧ Below x.val.heap.size x.val w' := fun x => by
        rw [HCv.out]
        have hzw := HBwD.out.size
        exact specCan_any (some ⟨b, o, none⟩) ts c L B A2 hv c2 L2 B2 q x.val (HA.out.keep fun p _ hp => (x.ok.cell (by omega)).trans (HBwD.out.cell (by omega))) (by have := x.ok.size; omega) hn hbk (HA2.out.keep fun p _ hp => (x.ok.cell (by omega)).trans (HBwD.out.cell (by omega))) (by have := x.ok.size; omega) hn2
      have HCan := Lib.hid hcan
      clear hcan
      by_cases hkd : ts[q].kind ≤ 1
      · cases cv
        · have HN := Lib.hid (show (l.take (k + 1)).filter (missB ts hv) = lk ++ [(q : Int)] by rw [HS.out, if_pos (by rw [HMiss.out]; simpa using hkd)])
          refine wp_region_kept (by kernel_rfl) (by kernel_rfl) ?_
          repeat (go_big_quiet_step ((go_at_call 20; refine kept_of (v := .bool false) (HCan.out _))))
          refine wpQuiet_nil ?_
          rintro _ ⟨x, rfl⟩
          have hbk' := x.ok
          have hckk := kc x
          obtain ⟨wk, hwk⟩ : ∃ wk, wk = x.val := ⟨_, rfl⟩
          rw [← hwk] at hbk' hckk ⊢
          have hzk : wd.heap.size ≤ wk.heap.size := hbk'.size
          have HOwnK := Lib.hid (HOwnD.out.kept (grown_of_below hbk') (by cases h : (Value.slice A' lk.length c').ownBlock <;> simp))
          have HBelK := Lib.hid (HBelD.out.trans (hbk'.mono (by omega)))
          clear hwk hbk' kb kc hckd e0d
          obtain ⟨i0, hi, hz0, hz1', hz2'⟩ := info_parts Try.infoInt
          go_wp2_with (at_builtin; refine wpList_append_own _ rfl _ _ 25 rfl w1.heap.size 3 i0 (.int .i64 0) 1 8 Try.underlying25 hi hz0 hz1' hz2' rfl (by decide) _ _ _ rfl (HOwnK.out.alloc _) ⟨wk.heap.size, 0, none⟩ 1 1 [.int .i64 (q : Int)] rfl rfl ?c1 ?c2 ?c3 ?c4 ?c5 ?_)
          case c1 => exact cell_one_new _ _ _
          case c2 => intro u hu; simp at hu; subst hu; rfl
          case c3 => unfold maxLen; omega
          case c4 => omega
          case c5 => simp; omega
          intro v' w5 hrow5 hgr5 _
          obtain ⟨A5, c5, rfl⟩ := row_shape hrow5
          have HRow5 := Lib.hid hrow5
          have HB5 := Lib.hid ((HBelK.out.alloc (by omega) (.cells #[.int .i64 (q : Int)] 3)).grown hgr5 (by simp; omega) (fun g hg => (HOwnK.out.lt g hg).1))
          clear hrow5 hgr5
          go_wp2_with fail
          go_roundw
          case rel =>
            refine ⟨k + 1, A5, c5, by omega, by go_num, by rw [HN.out]; simp, ?_, HB5.out⟩
            have := HRow5.out
            rw [HN.out]
            simpa [vint] using this
          case measure => simp [intOf]; omega
        · have HN := Lib.hid (show (l.take (k + 1)).filter (missB ts hv) = lk by rw [HS.out, if_neg (by rw [HMiss.out]; simp)])
          refine wp_region_kept (by kernel_rfl) (by kernel_rfl) ?_
          repeat (go_big_quiet_step ((go_at_call 20; refine kept_of (v := .bool true) (HCan.out _))))
          refine wpQuiet_nil ?_
          rintro _ ⟨x, rfl⟩
          have hbk' := x.ok
          have HOwnK := Lib.hid (HOwnD.out.kept (grown_of_below hbk') (by cases h : (Value.slice A' lk.length c').ownBlock <;> simp))
          have HBelK := Lib.hid (HBelD.out.trans (hbk'.mono (by omega)))
          clear hbk' kb kc hckd e0d
          go_wp2_with fail
          go_roundw
          case rel => exact ⟨k + 1, A', c', by omega, by go_num, by rw [HN.out], by rw [HN.out]; exact HOwnK.out, HBelK.out⟩
          case measure => simp [intOf]; omega
      · have HN := Lib.hid (show (l.take (k + 1)).filter (missB ts hv) = lk by rw [HS.out, if_neg (by rw [HMiss.out]; simp [hkd])])
        refine wp_region_kept (by kernel_rfl) (by kernel_rfl) ?_
        repeat (go_big_quiet_step (fail))
        refine wpQuiet_nil ?_
        rintro _ ⟨x, rfl⟩
        have hbk' := x.ok
        have HOwnK := Lib.hid (HOwnD.out.kept (grown_of_below hbk') (by cases h : (Value.slice A' lk.length c').ownBlock <;> simp))
        have HBelK := Lib.hid (HBelD.out.trans (hbk'.mono (by omega)))
        clear hbk' kb kc hckd e0d
        go_wp2_with fail
        go_roundw
        case rel => exact ⟨k + 1, A', c', by omega, by go_num, by rw [HN.out], by rw [HN.out]; exact HOwnK.out, HBelK.out⟩
        case measure => simp [intOf]; omega
    · have hke : k = l.length := by omega
      have HR := Lib.hid (show NewIntsFr (missV ts hv want) w (.returned (.slice A' ((l.take k).filter (missB ts hv)).length c')) wr from by
        rw [HV.out]
        have h := HOwn.out
        rw [hke, List.take_length] at h ⊢
        exact ⟨A', c', rfl, (ints_of_row h).low (by omega), HB1.out.trans (HBel.out.mono (by omega))⟩)
      go_wp2_with fail
      go_ret
      exact HR.out

end Go.Proofs.Ytjplmmbncjahiaa
