/-
  The model's Leaks.
-/
import Derived.Test.YtjplmmbncjahiaaDedF
import Derived.BigQuiet
namespace Go.Proofs.Ytjplmmbncjahiaa
open Go.RowKit Go.Maps

theorem pick_range {f : Nat → Bool} {n : Nat} {x : Int} (h : x ∈ pick f n) : 0 ≤ x ∧ x < n := by
  induction n with
  | zero => simp [pick] at h
  | succ n ih =>
    unfold pick at h
    split at h
    · rcases List.mem_append.1 h with h | h
      · have := ih h; omega
      · simp at h; omega
    · have := ih h; omega
theorem allV_range {ts : List Tm} {hv : List Int} {x : Int} (h : x ∈ allV ts hv) : 0 ≤ x ∧ x < ts.length := by
  unfold allV at h
  split at h
  · exact pick_range h
  · simp at h
theorem allV_length (ts : List Tm) (hv : List Int) : (allV ts hv).length ≤ ts.length := by
  unfold allV
  split
  · exact pick_length _ _
  · simp

/-- A nonce, or a key. -/
def lowB (ts : List Tm) (x : Int) : Bool := decide ((tmAt ts x.toNat).kind ≤ 1)
noncomputable def leaksV (ts : List Tm) (hv : List Int) : List Int := (allV ts hv).filter (lowB ts)

theorem filter_next {l : List Int} {p : Int → Bool} {k : Nat} (hk : k < l.length) : (l.take (k + 1)).filter p = if p l[k] = true then (l.take k).filter p ++ [l[k]] else (l.take k).filter p := by
  rw [List.take_succ_eq_append_getElem hk, List.filter_append]
  split <;> simp [*]

set_option maxRecDepth 100000 in
set_option maxHeartbeats 2000000 in
theorem specLeaks_any (A : Option Addr) (ts : List Tm) (c L B : Nat) (A2 : Option Addr) (hv : List Int) (c2 L2 B2 : Nat) (w : World) (hA : TmsIn w L B A ts) (hB : B ≤ w.heap.size) (hn : ts.length ≤ 1048576) (hbk : bulk ts ≤ 1048576) (hA2 : IntsIn w L2 B2 A2 hv) (hB2 : B2 ≤ w.heap.size) (hn2 : hv.length ≤ 1048576) :
    Calls Try.prog 28 #[.agg #[.slice A ts.length c], .slice A2 hv.length c2] w (NewIntsFr (leaksV ts hv) w) := by
  have HA := Lib.hid hA
  have HA2 := Lib.hid hA2
  clear hA hA2
  go_enter Try.func28, Try.ntmps28
  go_wp2_with fail
  have hb0 : Below w.heap.size w (w.alloc (.cells #[.slice A ts.length c] 30)) := (Below.refl _ _).alloc (Nat.le_refl _) _
  refine (specAll_any A ts c L B A2 hv c2 L2 B2 _ (HA.out.keep fun p _ hp => hb0.cell (by omega)) (by simp; omega) hn hbk (HA2.out.keep fun p _ hp => hb0.cell (by omega)) (by simp; omega) hn2).mono ?_
  rintro e w1 ⟨A1, c1, rfl, hfr, hb1⟩
  have hlen := allV_length ts hv
  have HRange := Lib.hid (fun x (h : x ∈ allV ts hv) => allV_range h)
  have HV := Lib.hid (show leaksV ts hv = (allV ts hv).filter (lowB ts) from rfl)
  generalize allV ts hv = l at *
  have b_1 : w1.cell? ⟨w.heap.size, 0, none⟩ = some (.slice A ts.length c) := (hb1.cell (p := ⟨w.heap.size, 0, none⟩) (by simp)).trans (by simp)
  have hz1 : w.heap.size + 1 ≤ w1.heap.size := by simpa using hb1.size
  have HFr := Lib.hid hfr
  have HB1 := Lib.hid (hb0.trans (hb1.mono (by simp)))
  clear hb0 hb1 hfr
  go_wp2_with fail
  go_loopw [5, 7] (fun out x wr => ∃ (k : Nat) (A' : Option Addr) (c' : Nat), k ≤ l.length ∧ x = .int .i64 k ∧ out = .slice A' ((l.take k).filter (lowB ts)).length c' ∧ wr.ownsRow w1.heap.size 3 1 (.slice A' ((l.take k).filter (lowB ts)).length c') ((l.take k).filter (lowB ts)).length (((l.take k).filter (lowB ts)).map vint) ∧ Below w1.heap.size w1 wr) (fun _ x _ => l.length - (intOf x).toNat)
  case atStart => exact ⟨0, none, 0, Nat.zero_le _, rfl, rfl, World.ownsRow_nil _ _ _ _, Below.refl _ _⟩
  case round =>
    obtain ⟨k, A', c', hk, rfl, rfl, hown, hbel⟩ := hrel
    have e0 := (hbel.cell (p := ⟨w.heap.size, 0, none⟩) (by show w.heap.size < _; omega)).trans b_1
    have HOwn := Lib.hid hown
    have HBel := Lib.hid hbel
    have hfl : ((l.take k).filter (lowB ts)).length ≤ k := Nat.le_trans (List.length_filter_le _ _) (by rw [List.length_take]; omega)
    have hzr := hbel.size
    clear hown hbel
    by_cases hlt : k < l.length
    · have hS := filter_next (p := lowB ts) hlt
      obtain ⟨bq, oq, rfl, hLq, hbq, hcq⟩ := HFr.out (by omega)
      have hck := (HBel.out.cell (p := ⟨bq, oq + k, none⟩) (by show bq < _; omega)).trans (hcq k hlt).1
      have hr := HRange.out l[k] (List.getElem_mem hlt)
      obtain ⟨q, hq⟩ := Int.eq_ofNat_of_zero_le hr.1
      rw [hq] at hck hr hS
      have hqn : q < ts.length := by omega
      have hbw : Below w.heap.size w wr := HB1.out.trans (HBel.out.mono (by omega))
      obtain ⟨b, o, rfl, hL, hb, hc⟩ := HA.out (by omega)
      obtain ⟨A3, c3, x0, _⟩ := (hc q hqn).keep hL hb (fun p _ hp => hbw.cell (by omega))
      have hlow : lowB ts (q : Int) = decide (ts[q].kind ≤ 1) := by simp [lowB, tmAt_nat ts q hqn]
      have HS := Lib.hid hS
      have HLow := Lib.hid hlow
      obtain ⟨lk, hlk⟩ : ∃ lk, lk = (l.take k).filter (lowB ts) := ⟨_, rfl⟩
      rw [← hlk] at HOwn HS hfl ⊢
      clear hS hcq hr hq hc hbw hlow hlk
      by_cases hkd : ts[q].kind ≤ 1
      · have HN := Lib.hid (show (l.take (k + 1)).filter (lowB ts) = lk ++ [(q : Int)] by rw [HS.out, if_pos (by rw [HLow.out]; simpa using hkd)])
        go_wp2_with fail
        go_quiet (fail)
        have HOwnD := Lib.hid (show (wr.drewN nq).ownsRow w1.heap.size 3 1 (.slice A' lk.length c') lk.length (lk.map vint) from HOwn.out)
        have HBelD := Lib.hid (below_drewN HBel.out nq)
        have hzd : w1.heap.size ≤ (wr.drewN nq).heap.size := hzr
        have hckd : (wr.drewN nq).cell? ⟨bq, oq + k, none⟩ = some (.int .i64 (q : Int)) := hck
        generalize wr.drewN nq = wd at *
        obtain ⟨i0, hi, hz0, hz1', hz2'⟩ := info_parts Try.infoInt
        clear hck x0 e0
        go_wp2_with (at_builtin; refine wpList_append_own _ rfl _ _ 25 rfl w1.heap.size 3 i0 (.int .i64 0) 1 8 Try.underlying25 hi hz0 hz1' hz2' rfl (by decide) _ _ _ rfl (HOwnD.out.alloc _) ⟨wd.heap.size, 0, none⟩ 1 1 [.int .i64 (q : Int)] rfl rfl ?c1 ?c2 ?c3 ?c4 ?c5 ?_)
        case c1 => exact cell_one_new _ _ _
        case c2 => intro u hu; simp at hu; subst hu; rfl
        case c3 => unfold maxLen; omega
        case c4 => omega
        case c5 => simp; omega
        intro v' w5 hrow5 hgr5 _
        obtain ⟨A5, c5, rfl⟩ := row_shape hrow5
        have HRow5 := Lib.hid hrow5
        have HB5 := Lib.hid ((HBelD.out.alloc (by omega) (.cells #[.int .i64 (q : Int)] 3)).grown hgr5 (by simp; omega) (fun g hg => (HOwnD.out.lt g hg).1))
        clear hrow5 hgr5
        go_wp2_with fail
        go_roundw
        case rel =>
          refine ⟨k + 1, A5, c5, by omega, by go_num, by rw [HN.out]; simp, ?_, HB5.out⟩
          have := HRow5.out
          rw [HN.out]
          simpa [vint] using this
        case measure => simp [intOf]; omega
      · have HN := Lib.hid (show (l.take (k + 1)).filter (lowB ts) = lk by rw [HS.out, if_neg (by rw [HLow.out]; simpa using hkd)])
        go_wp2_with fail
        go_quiet (fail)
        go_wp2_with fail
        go_roundw
        case rel => exact ⟨k + 1, A', c', by omega, by go_num, by rw [HN.out], by rw [HN.out]; exact HOwn.out, below_drewN HBel.out _⟩
        case measure => simp [intOf]; omega
    · have hke : k = l.length := by omega
      have HR := Lib.hid (show NewIntsFr (leaksV ts hv) w (.returned (.slice A' ((l.take k).filter (lowB ts)).length c')) wr from by
        rw [HV.out]
        have h := HOwn.out
        rw [hke, List.take_length] at h ⊢
        exact ⟨A', c', rfl, (ints_of_row h).low (by omega), HB1.out.trans (HBel.out.mono (by omega))⟩)
      go_wp2_with fail
      go_ret
      exact HR.out

end Go.Proofs.Ytjplmmbncjahiaa
