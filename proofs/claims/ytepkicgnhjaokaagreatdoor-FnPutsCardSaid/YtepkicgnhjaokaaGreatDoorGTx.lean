/-
  Several texts in one: St, Ma, Tx, Mq.
-/
import Derived.Test.YtepkicgnhjaokaaGreatDoorGVd
import Derived.Test.YtepkicgnhjaokaaGreatDoorKept
import Derived.Test.YtepkicgnhjaokaaGreatDoorTrM
import Derived.Test.YtepkicgnhjaokaaGreatDoorGMgC
import Derived.Test.YtepkicgnhjaokaaGreatDoorGTd
import Derived.Test.YtepkicgnhjaokaaGreatDoorGRow
import Derived.Test.YtepkicgnhjaokaaGreatDoorDropI
import Derived.Test.YtepkicgnhjaokaaGreatDoorGVec
namespace Go.Proofs.YtepkicgnhjaokaaGreatDoor
open Go.RowKit Go.Maps

set_option maxHeartbeats 1000000 in
theorem sameN_any (l l' : List UInt8) (A A' : Option Addr) (c c' L L' B B' : Nat) (w : World) (hA : BytesIn w L B A l) (hA' : BytesIn w L' B' A' l') :
    Calls Tryz.prog 11 #[.slice A l.length c, .slice A' l'.length c'] w fun e w' => e = .returned (.bool (decide (l = l'))) ∧ Below w.heap.size w w' := by
  have s1 := run_str hA c
  have s2 := run_str hA' c'
  clear hA hA'
  go_enter Tryz.func11, Tryz.ntmps11
  go_wp2
  all_goals go_ret
  all_goals refine ⟨ret_bool ?_, Below.refl _ _⟩
  all_goals first | (simp_all; done) | (rw [Bool.eq_iff_iff]; simp_all; done)

theorem ens_ne {l m : List En} {k : Nat} (hk : k < l.length) (hk2 : k < m.length) (h : l[k] ≠ m[k]) : l ≠ m := fun e => by
  subst e
  exact h rfl
theorem etake_step {l m : List En} {k : Nat} (hk : k < l.length) (hk2 : k < m.length) (h : l.take k = m.take k) (he : l[k] = m[k]) : l.take (k + 1) = m.take (k + 1) := by
  rw [List.take_add_one, List.take_add_one, h, List.getElem?_eq_getElem hk, List.getElem?_eq_getElem hk2, he]

set_option maxRecDepth 100000 in
set_option maxHeartbeats 4000000 in
/-- Are two trees the same? -/
theorem sameTree_any (AV : Option Addr) (vec : List Int) (cv : Nat) (A : Option Addr) (es : List En) (c : Nat) (AV2 : Option Addr) (vec2 : List Int) (cv2 : Nat) (A2 : Option Addr) (es2 : List En) (c2 : Nat) (w : World) (hV : IntsIn w 0 w.heap.size AV vec) (hA : EnsIn w 0 w.heap.size A es) (hV2 : IntsIn w 0 w.heap.size AV2 vec2) (hA2 : EnsIn w 0 w.heap.size A2 es2)
    (hv : vec.length ≤ 1048576) (hv2 : vec2.length ≤ 1048576) (_hn : es.length ≤ 1048576) (_hn2 : es2.length ≤ 1048576) :
    Calls Tryz.prog 18 #[.agg #[.slice AV vec.length cv, .slice A es.length c], .agg #[.slice AV2 vec2.length cv2, .slice A2 es2.length c2]] w fun e w' => e = .returned (.bool (decide (vec = vec2) && decide (es = es2))) ∧ Below w.heap.size w w' := by
  have HV := Lib.hid hV
  have HA := Lib.hid hA
  have HV2 := Lib.hid hV2
  have HA2 := Lib.hid hA2
  clear hV hA hV2 hA2
  go_enter Tryz.func18, Tryz.ntmps18
  go_wp2_with fail
  obtain ⟨W0, hW0⟩ : ∃ x, x = w.alloc (.cells #[.slice AV vec.length cv, .slice A es.length c] 26) := ⟨_, rfl⟩
  obtain ⟨W, hW⟩ : ∃ x, x = W0.alloc (.cells #[.slice AV2 vec2.length cv2, .slice A2 es2.length c2] 26) := ⟨_, rfl⟩
  have hz0 : W0.heap.size = w.heap.size + 1 := by rw [hW0]; simp
  have hz : w.heap.size + 1 < W.heap.size := by rw [hW]; simp [hz0]
  have HX := Lib.hid (show Bx W w.heap.size [.slice AV vec.length cv, .slice A es.length c] by rw [hW]; exact Bx.alloc (by rw [hW0]; exact Bx.new' _ _ _ _ rfl) (by omega) _)
  have HY := Lib.hid (show Bx W (w.heap.size + 1) [.slice AV2 vec2.length cv2, .slice A2 es2.length c2] by rw [hW, ← hz0]; exact Bx.new' _ _ _ _ rfl)
  have HBel := Lib.hid (show Below w.heap.size w W by rw [hW, hW0]; exact ((Below.refl _ _).alloc (Nat.le_refl _) _).alloc (by simp) _)
  rw [← hW0, ← hW]
  clear hW hW0 hz0
  refine (sameI_any AV AV2 vec vec2 cv cv2 W ((HV.out.keep fun _ _ h2 => HBel.out.cell h2).mono (by omega)) ((HV2.out.keep fun _ _ h2 => HBel.out.cell h2).mono (by omega)) hv hv2).mono ?_
  rintro e w1 ⟨rfl, hb1⟩
  have hz1 := hb1.size
  have HB1 := Lib.hid (HBel.out.trans (hb1.mono (by omega)))
  have HX1 := Lib.hid (HX.out.below hb1 (by omega))
  have HY1 := Lib.hid (HY.out.below hb1 hz)
  clear hb1 HX HY HBel HV HV2
  have x1 := HX1.out 1 (by simp)
  have y1 := HY1.out 1 (by simp)
  simp only [List.getElem_cons_succ, List.getElem_cons_zero] at x1 y1
  cases hvd : decide (vec = vec2) with
  | false =>
    have HVd := Lib.hid hvd
    clear hvd
    go_wp2_with fail
    go_ret
    exact ⟨by rw [HVd.out]; rfl, HB1.out⟩
  | true =>
    have HVd := Lib.hid hvd
    clear hvd
    by_cases hlen : es.length = es2.length
    · obtain ⟨n, hn1⟩ : ∃ n, n = es.length := ⟨_, rfl⟩
      rw [← hn1] at x1
      rw [← hlen, ← hn1] at y1
      have HL1 := Lib.hid hn1
      have HL2 := Lib.hid (hn1.trans hlen)
      clear hlen hn1
      go_wp2_with fail
      go_loopw [5] (fun i wr => ∃ k : Nat, k ≤ n ∧ i = .int .i64 k ∧ Below w1.heap.size w1 wr ∧ es.take k = es2.take k) (fun i _ => n - (intOf i).toNat)
      case atStart => exact ⟨0, Nat.zero_le _, rfl, Below.refl _ _, by simp⟩
      case round =>
        obtain ⟨k, hk, rfl, hbr, htk⟩ := hrel
        have HBr := Lib.hid hbr
        have HTk := Lib.hid htk
        have HBw := Lib.hid (HB1.out.trans (hbr.mono (by omega)))
        have hzr := hbr.size
        have u1 := (hbr.cell (p := ⟨w.heap.size, 1, none⟩) (by show w.heap.size < _; omega)).trans x1
        have v1 := (hbr.cell (p := ⟨w.heap.size + 1, 1, none⟩) (by show w.heap.size + 1 < _; omega)).trans y1
        clear hbr htk x1 y1
        by_cases hlt : k < n
        · have h1 : k < es.length := by rw [← HL1.out]; exact hlt
          have h2 : k < es2.length := by rw [← HL2.out]; exact hlt
          obtain ⟨b, o, rfl, _, hb, hc⟩ := HA.out (by omega)
          obtain ⟨b2, o2, rfl, _, hb2, hc2⟩ := HA2.out (by omega)
          obtain ⟨N1, d1, k0, k1, k2, k3, kn⟩ := (hc k h1).keep (Nat.zero_le _) hb (fun p _ hp => HBw.out.cell hp)
          obtain ⟨N2, d2, j0, j1, j2, j3, jn⟩ := (hc2 k h2).keep (Nat.zero_le _) hb2 (fun p _ hp => HBw.out.cell hp)
          have HNe := Lib.hid (ens_ne h1 h2)
          have HSt := Lib.hid (etake_step h1 h2 HTk.out)
          obtain ⟨e1, he1⟩ : ∃ x, x = es[k] := ⟨_, rfl⟩
          obtain ⟨e2, he2⟩ : ∃ x, x = es2[k] := ⟨_, rfl⟩
          rw [← he1] at k0 k1 k2 k3 kn HNe HSt
          rw [← he2] at j0 j1 j2 j3 jn HNe HSt
          clear hc hc2 he1 he2
          obtain ⟨n1, a1, p1, m1⟩ := e1
          obtain ⟨n2, a2, p2, m2⟩ := e2
          simp only at k0 k1 k2 k3 kn j0 j1 j2 j3 jn
          have HS := Lib.hid (fun y : Kp wr => sameN_any n1 n2 N1 N2 d1 d2 0 0 w.heap.size w.heap.size y.val (kn.keep fun p _ hp => y.ok.cell (by omega)) (jn.keep fun p _ hp => y.ok.cell (by omega)))
          have lb : b < wr.heap.size := by omega
          have lb2 : b2 < wr.heap.size := by omega
          have qu : ∀ y : Kp wr, y.val.cell? ⟨w.heap.size, 1, none⟩ = some (.slice (some ⟨b, o, none⟩) n c) := fun y => y.cell u1
          have qv : ∀ y : Kp wr, y.val.cell? ⟨w.heap.size + 1, 1, none⟩ = some (.slice (some ⟨b2, o2, none⟩) n c2) := fun y => y.cell v1
          have qk0 : ∀ y : Kp wr, y.val.cell? ⟨b, o + k * 4, none⟩ = some (.slice N1 n1.length d1) := fun y => y.cell k0
          have qk1 : ∀ y : Kp wr, y.val.cell? ⟨b, o + k * 4 + 1, none⟩ = some (.int .i64 a1) := fun y => y.cell k1
          have qk2 : ∀ y : Kp wr, y.val.cell? ⟨b, o + k * 4 + 2, none⟩ = some (.int .i64 p1) := fun y => y.cell k2
          have qk3 : ∀ y : Kp wr, y.val.cell? ⟨b, o + k * 4 + 3, none⟩ = some (.int .i64 m1) := fun y => y.cell k3
          have qj0 : ∀ y : Kp wr, y.val.cell? ⟨b2, o2 + k * 4, none⟩ = some (.slice N2 n2.length d2) := fun y => y.cell j0
          have qj1 : ∀ y : Kp wr, y.val.cell? ⟨b2, o2 + k * 4 + 1, none⟩ = some (.int .i64 a2) := fun y => y.cell j1
          have qj2 : ∀ y : Kp wr, y.val.cell? ⟨b2, o2 + k * 4 + 2, none⟩ = some (.int .i64 p2) := fun y => y.cell j2
          have qj3 : ∀ y : Kp wr, y.val.cell? ⟨b2, o2 + k * 4 + 3, none⟩ = some (.int .i64 m2) := fun y => y.cell j3
          have hlt' : (k : Int) < (n : Int) := by omega
          clear k0 k1 k2 k3 kn j0 j1 j2 j3 jn
          by_cases hnm : n1 = n2
          · subst hnm
            have HQ := Lib.hid (fun y : Kp wr => show Calls Tryz.prog 11 #[.slice N1 n1.length d1, .slice N2 n1.length d2] y.val (fun e w' => e = .returned (.bool true) ∧ Below y.val.heap.size y.val w') from (HS.out y).mono fun _ _ ⟨h1, h2⟩ => ⟨by rw [h1, decide_eq_true rfl], h2⟩)
            clear HS
            by_cases ha : a1 = a2
            · subst ha
              have ea : (a1 != a1) = false := by simp
              by_cases hp : p1 = p2
              · subst hp
                have ep : (p1 != p1) = false := by simp
                by_cases hm : m1 = m2
                · subst hm
                  have em : (m1 != m1) = false := by simp
                  have HT2 := Lib.hid (HSt.out rfl)
                  clear HNe HSt
                  go_upto_region 6 with fail
                  refine wp_region_kept (by kernel_rfl) (by kernel_rfl) ?_
                  repeat (go_big_quiet_step ((go_at_call 11; refine kept_of (v := .bool true) (HQ.out _))))
                  refine wpQuiet_nil ?_
                  rintro _ ⟨y, rfl⟩
                  have HB6 := Lib.hid (HBw.out.trans (y.ok.mono (by omega)))
                  have HB7 := Lib.hid (HBr.out.trans (y.ok.mono hzr))
                  clear qu qv qk0 qk1 qk2 qk3 qj0 qj1 qj2 qj3 HQ
                  go_wp2_with fail
                  go_roundw
                  case rel => exact ⟨k + 1, by omega, by go_num, HB7.out, HT2.out⟩
                  case measure => simp [intOf]; omega
                · have em : (m1 != m2) = true := by simpa using hm
                  have HN := Lib.hid (show es ≠ es2 from HNe.out (fun e => hm (by injection e)))
                  clear HNe HSt
                  go_upto_region 6 with fail
                  refine wp_region_kept (by kernel_rfl) (by kernel_rfl) ?_
                  repeat (go_big_quiet_step ((go_at_call 11; refine kept_of (v := .bool true) (HQ.out _))))
                  refine wpQuiet_nil ?_
                  rintro _ ⟨y, rfl⟩
                  have HB6 := Lib.hid (HBw.out.trans (y.ok.mono (by omega)))
                  have HB7 := Lib.hid (HBr.out.trans (y.ok.mono hzr))
                  clear qu qv qk0 qk1 qk2 qk3 qj0 qj1 qj2 qj3 HQ
                  go_wp2_with fail
                  go_ret
                  exact ⟨by rw [HVd.out, decide_eq_false HN.out]; rfl, HB6.out⟩
              · have ep : (p1 != p2) = true := by simpa using hp
                have HN := Lib.hid (show es ≠ es2 from HNe.out (fun e => hp (by injection e)))
                clear HNe HSt
                go_upto_region 6 with fail
                refine wp_region_kept (by kernel_rfl) (by kernel_rfl) ?_
                repeat (go_big_quiet_step ((go_at_call 11; refine kept_of (v := .bool true) (HQ.out _))))
                refine wpQuiet_nil ?_
                rintro _ ⟨y, rfl⟩
                have HB6 := Lib.hid (HBw.out.trans (y.ok.mono (by omega)))
                have HB7 := Lib.hid (HBr.out.trans (y.ok.mono hzr))
                clear qu qv qk0 qk1 qk2 qk3 qj0 qj1 qj2 qj3 HQ
                go_wp2_with fail
                go_ret
                exact ⟨by rw [HVd.out, decide_eq_false HN.out]; rfl, HB6.out⟩
            · have ea : (a1 != a2) = true := by simpa using ha
              have HN := Lib.hid (show es ≠ es2 from HNe.out (fun e => ha (by injection e)))
              clear HNe HSt
              go_upto_region 6 with fail
              refine wp_region_kept (by kernel_rfl) (by kernel_rfl) ?_
              repeat (go_big_quiet_step ((go_at_call 11; refine kept_of (v := .bool true) (HQ.out _))))
              refine wpQuiet_nil ?_
              rintro _ ⟨y, rfl⟩
              have HB6 := Lib.hid (HBw.out.trans (y.ok.mono (by omega)))
              have HB7 := Lib.hid (HBr.out.trans (y.ok.mono hzr))
              clear qu qv qk0 qk1 qk2 qk3 qj0 qj1 qj2 qj3 HQ
              go_wp2_with fail
              go_ret
              exact ⟨by rw [HVd.out, decide_eq_false HN.out]; rfl, HB6.out⟩
          · have HQ := Lib.hid (fun y : Kp wr => show Calls Tryz.prog 11 #[.slice N1 n1.length d1, .slice N2 n2.length d2] y.val (fun e w' => e = .returned (.bool false) ∧ Below y.val.heap.size y.val w') from (HS.out y).mono fun _ _ ⟨h1, h2⟩ => ⟨by rw [h1, decide_eq_false hnm], h2⟩)
            clear HS
            have HN := Lib.hid (show es ≠ es2 from HNe.out (fun e => hnm (by injection e)))
            clear HNe HSt
            go_upto_region 6 with fail
            refine wp_region_kept (by kernel_rfl) (by kernel_rfl) ?_
            repeat (go_big_quiet_step ((go_at_call 11; refine kept_of (v := .bool false) (HQ.out _))))
            refine wpQuiet_nil ?_
            rintro _ ⟨y, rfl⟩
            have HB6 := Lib.hid (HBw.out.trans (y.ok.mono (by omega)))
            have HB7 := Lib.hid (HBr.out.trans (y.ok.mono hzr))
            clear qu qv qk0 qk1 qk2 qk3 qj0 qj1 qj2 qj3 HQ
            go_wp2_with fail
            go_ret
            exact ⟨by rw [HVd.out, decide_eq_false HN.out]; rfl, HB6.out⟩
        · have HE := Lib.hid (show es = es2 from by
            have he := HTk.out
            rwa [List.take_of_length_le (by rw [← HL1.out]; omega), List.take_of_length_le (by rw [← HL2.out]; omega)] at he)
          go_wp2_with fail
          go_ret
          exact ⟨by rw [HVd.out, decide_eq_true HE.out]; rfl, HBw.out⟩
    · have hlen' : ¬ (es.length : Int) = es2.length := by omega
      have HN := Lib.hid (show es ≠ es2 from fun e => hlen (by rw [e]))
      go_wp2_with fail
      go_ret
      exact ⟨by rw [HVd.out, decide_eq_false HN.out]; rfl, HB1.out⟩

end Go.Proofs.YtepkicgnhjaokaaGreatDoor

namespace Go.Proofs.YtepkicgnhjaokaaGreatDoor
open Go.RowKit Go.Maps

/-- Is an entry's deed known? -/
def Kn (vec : List Int) (e : En) : Prop := e.num ≤ vec.getD e.dev.toNat 0

theorem known_of {vec : List Int} {es : List En} (h : treeB vec es = true) {e : En} (he : e ∈ es) : Kn vec e := by
  obtain ⟨a, b, c, d, rfl⟩ := treeB_four h
  exact tree_known h e he
theorem hasE_mem {us : List En} {e : En} : hasE us e = true ↔ e ∈ us := by
  unfold hasE
  rw [List.any_eq_true]
  constructor
  · rintro ⟨f, hf, h⟩
    rw [(eqE_iff _ _).1 h]
    exact hf
  · intro h
    exact ⟨e, h, (eqE_iff _ _).2 rfl⟩
theorem ctr_iff (es us : List En) : ctrB es us = true ↔ ∃ e, e ∈ es ∧ ∃ f, f ∈ us ∧ e.dev = f.dev ∧ e.num = f.num ∧ e ≠ f := by
  unfold ctrB
  rw [List.any_eq_true]
  refine exists_congr fun e => and_congr Iff.rfl ?_
  unfold unEs
  rw [List.any_eq_true]
  refine exists_congr fun f => and_congr Iff.rfl ?_
  unfold unE
  rw [Bool.and_eq_true, Bool.and_eq_true, beq_iff_eq, beq_iff_eq, Bool.not_eq_true', and_assoc]
  refine and_congr Iff.rfl (and_congr Iff.rfl ?_)
  rw [← Bool.not_eq_true, eqE_iff]
theorem ctr_no {es us : List En} (h : ctrB es us = false) {e f : En} (he : e ∈ es) (hf : f ∈ us) (hd : e.dev = f.dev) (hn : e.num = f.num) : e = f := by
  by_cases hef : e = f
  · exact hef
  · have := (ctr_iff es us).2 ⟨e, he, f, hf, hd, hn, hef⟩
    rw [this] at h
    cases h
theorem ctr_false {es us : List En} (h : ∀ e ∈ es, ∀ f ∈ us, e.dev = f.dev → e.num = f.num → e = f) : ctrB es us = false := by
  cases hc : ctrB es us with
  | false => rfl
  | true =>
    obtain ⟨e, he, f, hf, h1, h2, h3⟩ := (ctr_iff es us).1 hc
    exact absurd (h e he f hf h1 h2) h3
theorem ctr_swap {es us : List En} (h : ctrB es us = false) : ctrB us es = false :=
  ctr_false fun _ he _ hf h1 h2 => (ctr_no h hf he h1.symm h2.symm).symm
theorem tree_uniq {vec : List Int} {es : List En} (h : treeB vec es = true) {e f : En} (he : e ∈ es) (hf : f ∈ es) (hd : e.dev = f.dev) (hn : e.num = f.num) : e = f := by
  obtain ⟨i, hi, rfl⟩ := List.getElem_of_mem he
  obtain ⟨j, hj, rfl⟩ := List.getElem_of_mem hf
  have := deeds_one (tree_parts h).2.2 hi hj hd hn
  subst this
  rfl

theorem mg_mem {vec : List Int} {es : List En} {vec2 : List Int} {us : List En} (h : treeB vec es = true) (hc : ctrB es us = false) (e : En) :
    e ∈ mgE vec es vec2 us ↔ (e ∈ es ∧ e ∈ us) ∨ (e ∈ es ∧ ¬ Kn vec2 e) ∨ (e ∈ us ∧ ¬ Kn vec e) := by
  have hm : e ∈ mgE vec es vec2 us ↔ e ∈ fil (q1B vec2 us) es ++ fil (q2B vec es) us := ((insAll_perm _ _).trans ((insAll_perm _ _).append_right _)).mem_iff
  rw [hm, List.mem_append]
  unfold fil
  rw [List.mem_filter, List.mem_filter]
  unfold q1B q2B
  constructor
  · rintro (⟨he, hq⟩ | ⟨he, hq⟩)
    · rw [Bool.or_eq_true, decide_eq_true_eq, decide_eq_true_eq] at hq
      rcases hq with hq | hq
      · have h1 := has_dot hc he
        rw [decide_eq_true hq] at h1
        exact .inl ⟨he, hasE_mem.1 h1⟩
      · exact .inr (.inl ⟨he, by unfold Kn; omega⟩)
    · simp only [Bool.and_eq_true, decide_eq_true_eq] at hq
      exact .inr (.inr ⟨he, by unfold Kn; omega⟩)
  · rintro (⟨he, hu⟩ | ⟨he, hk⟩ | ⟨hu, hk⟩)
    · have h1 := has_dot hc he
      rw [hasE_mem.2 hu] at h1
      exact .inl ⟨he, by rw [← h1]; rfl⟩
    · unfold Kn at hk
      exact .inl ⟨he, by rw [Bool.or_eq_true, decide_eq_true_eq, decide_eq_true_eq]; right; omega⟩
    · have h0 : dotV es e.dev e.num < 0 := by
        by_cases h0 : 0 ≤ dotV es e.dev e.num
        · obtain ⟨_, hj, e1, e2⟩ := dotV_lt h0
          have h3 := known_of h (List.getElem_mem hj)
          unfold Kn at h3 hk
          rw [e1, e2] at h3
          exact absurd h3 hk
        · omega
      unfold Kn at hk
      exact .inr ⟨hu, by rw [Bool.and_eq_true, decide_eq_true_eq, decide_eq_true_eq]; exact ⟨h0, by omega⟩⟩

theorem mg_ord {vec : List Int} {es : List En} {vec2 : List Int} {us : List En} (ht : treeB vec es = true) (hu : treeB vec2 us = true) : InOrd (mgE vec es vec2 us) := by
  obtain ⟨a, b, c, d, rfl⟩ := treeB_four ht
  have hpw := mg_pair (vec2 := vec2) ht hu
  have h1 : InOrd (mg1 vec2 es us) := insAll_ord _ _ List.Pairwise.nil (by simpa using (List.pairwise_append.1 hpw).1)
  refine insAll_ord _ _ h1 ?_
  have h2 : (mg1 vec2 es us).Perm (fil (q1B vec2 us) es) := by
    have := insAll_perm (fil (q1B vec2 us) es) []
    simpa [mg1] using this
  exact ((h2.append_right _).pairwise_iff (fun {a b} h => by have := pla_anti a b; omega)).2 hpw
theorem ord_nodup {l : List En} (h : InOrd l) : l.Nodup :=
  List.Pairwise.imp (fun {a b} (h : plaV a b < 0) => by
    rintro rfl
    have := pla_anti a a
    omega) h
theorem ord_ext {l m : List En} (hl : InOrd l) (hm : InOrd m) (h : ∀ e, e ∈ l ↔ e ∈ m) : l = m :=
  ord_one ((List.perm_ext_iff_of_nodup (ord_nodup hl) (ord_nodup hm)).2 h) hl hm

theorem mgOk_iff {vec : List Int} {es : List En} {vec2 : List Int} {us : List En} : mgOk vec es vec2 us = true ↔ treeB vec es = true ∧ treeB vec2 us = true ∧ ctrB es us = false ∧ treeB (mxs vec vec2 4) (mgE vec es vec2 us) = true := by
  unfold mgOk
  rw [Bool.and_eq_true, Bool.and_eq_true, Bool.and_eq_true, and_assoc, and_assoc]
  refine and_congr Iff.rfl ⟨fun ⟨h1, h2, h3⟩ => ⟨h1, ?_, h3⟩, fun ⟨h1, h2, h3⟩ => ⟨h1, ?_, h3⟩⟩
  · rw [ag_ctr (tree_parts h1).2.2] at h2
    simpa using h2
  · rw [ag_ctr (tree_parts h1).2.2, h2]
    rfl

theorem mxc (x y : Int) : mx x y = mx y x := by unfold mx; split <;> split <;> omega
theorem mxs_comm (v v2 : List Int) : mxs v v2 4 = mxs v2 v 4 := by
  unfold mxs
  exact List.map_congr_left fun j _ => mxc _ _
theorem mxs_getD (v v2 : List Int) {j : Nat} (hj : j < 4) : (mxs v v2 4).getD j 0 = mx (v.getD j 0) (v2.getD j 0) := by
  unfold mxs
  rw [List.getD_eq_getElem?_getD, List.getElem?_map, List.getElem?_range hj]
  rfl
theorem mxs_assoc (a b c : List Int) : mxs (mxs a b 4) c 4 = mxs a (mxs b c 4) 4 := by
  show (List.range 4).map _ = (List.range 4).map _
  refine List.map_congr_left fun j hj => ?_
  have hj' : j < 4 := List.mem_range.1 hj
  rw [mxs_getD a b hj', mxs_getD b c hj']
  unfold mx
  split <;> split <;> (try split) <;> omega
theorem mxs_again (a b : List Int) : mxs (mxs a b 4) a 4 = mxs a b 4 := by
  show (List.range 4).map _ = (List.range 4).map _
  refine List.map_congr_left fun j hj => ?_
  have hj' : j < 4 := List.mem_range.1 hj
  rw [mxs_getD a b hj']
  unfold mx
  split <;> split <;> omega
theorem mxs_self {a : List Int} (h : vecB a = true) : mxs a a 4 = a := by
  obtain ⟨x, y, z, u, rfl⟩ := vecB_four h
  have : ∀ t : Int, mx t t = t := fun t => by unfold mx; split <;> rfl
  show [mx x x, mx y y, mx z z, mx u u] = _
  rw [this, this, this, this]
theorem Kn.mxs {a b : List Int} {e : En} (hd : 0 ≤ e.dev ∧ e.dev < 4) : Kn (mxs a b 4) e ↔ Kn a e ∨ Kn b e := by
  unfold Kn
  rw [mxs_getD a b (by omega)]
  unfold mx
  split <;> omega

theorem mgE_comm {vec : List Int} {es : List En} {vec2 : List Int} {us : List En} (h : treeB vec es = true) (h2 : treeB vec2 us = true) (hc : ctrB es us = false) : mgE vec es vec2 us = mgE vec2 us vec es :=
  ord_ext (mg_ord h h2) (mg_ord h2 h) fun e => by
    rw [mg_mem h hc, mg_mem h2 (ctr_swap hc)]
    constructor
    · rintro (⟨a, b⟩ | ⟨a, b⟩ | ⟨a, b⟩)
      · exact .inl ⟨b, a⟩
      · exact .inr (.inr ⟨a, b⟩)
      · exact .inr (.inl ⟨a, b⟩)
    · rintro (⟨a, b⟩ | ⟨a, b⟩ | ⟨a, b⟩)
      · exact .inl ⟨b, a⟩
      · exact .inr (.inr ⟨a, b⟩)
      · exact .inr (.inl ⟨a, b⟩)
theorem mg_swap {vec : List Int} {es : List En} {vec2 : List Int} {us : List En} (h : mgOk vec es vec2 us = true) : mgOk vec2 us vec es = true := by
  obtain ⟨h1, h2, h3, h4⟩ := mgOk_iff.1 h
  exact mgOk_iff.2 ⟨h2, h1, ctr_swap h3, by rw [← mgE_comm h1 h2 h3, mxs_comm]; exact h4⟩
theorem mgOk_comm (vec : List Int) (es : List En) (vec2 : List Int) (us : List En) : mgOk vec es vec2 us = mgOk vec2 us vec es := by
  rw [Bool.eq_iff_iff]
  exact ⟨mg_swap, mg_swap⟩
/-- Merged with one of the two again. -/
theorem mg_more {vec : List Int} {es : List En} {vec2 : List Int} {us : List En} (h : mgOk vec es vec2 us = true) :
    mgOk (mxs vec vec2 4) (mgE vec es vec2 us) vec es = true ∧ mxs (mxs vec vec2 4) vec 4 = mxs vec vec2 4 ∧ mgE (mxs vec vec2 4) (mgE vec es vec2 us) vec es = mgE vec es vec2 us := by
  obtain ⟨h1, h2, h3, h4⟩ := mgOk_iff.1 h
  have hc : ctrB (mgE vec es vec2 us) es = false := ctr_false fun e he f hf k1 k2 => by
    rcases (mg_mem h1 h3 e).1 he with ⟨a, _⟩ | ⟨a, _⟩ | ⟨a, _⟩
    · exact tree_uniq h1 a hf k1 k2
    · exact tree_uniq h1 a hf k1 k2
    · exact (ctr_no h3 hf a k1.symm k2.symm).symm
  have he : mgE (mxs vec vec2 4) (mgE vec es vec2 us) vec es = mgE vec es vec2 us := ord_ext (mg_ord h4 h1) (mg_ord h1 h2) fun e => by
    rw [mg_mem h4 hc]
    constructor
    · rintro (⟨a, b⟩ | ⟨a, b⟩ | ⟨a, b⟩)
      · exact a
      · exact a
      · exact absurd ((Kn.mxs (tree_dev h1 e a)).2 (.inl (known_of h1 a))) b
    · intro a
      rcases (mg_mem h1 h3 e).1 a with ⟨p, _⟩ | ⟨p, _⟩ | ⟨_, p⟩
      · exact .inl ⟨a, p⟩
      · exact .inl ⟨a, p⟩
      · exact .inr (.inl ⟨a, p⟩)
  exact ⟨mgOk_iff.2 ⟨h4, h1, hc, by rw [he, mxs_again]; exact h4⟩, mxs_again _ _, he⟩
theorem mg_self {vec : List Int} {es : List En} (h : treeB vec es = true) : mgOk vec es vec es = true ∧ mxs vec vec 4 = vec ∧ mgE vec es vec es = es := by
  have hc : ctrB es es = false := ctr_false fun e he f hf => tree_uniq h he hf
  have he : mgE vec es vec es = es := ord_ext (mg_ord h h) (tree_tok h) fun e => by
    rw [mg_mem h hc]
    constructor
    · rintro (⟨a, _⟩ | ⟨a, _⟩ | ⟨a, _⟩) <;> exact a
    · exact fun a => .inl ⟨a, a⟩
  have hv := mxs_self (tree_parts h).1
  exact ⟨mgOk_iff.2 ⟨h, h, hc, by rw [he, hv]; exact h⟩, hv, he⟩
/-- Three, merged one way or the other. -/
theorem mg_assoc {va : List Int} {ea : List En} {vc : List Int} {ec : List En} {vd : List Int} {ed : List En} (h1 : mgOk va ea vc ec = true) (h2 : mgOk (mxs va vc 4) (mgE va ea vc ec) vd ed = true)
    (h3 : mgOk vc ec vd ed = true) (h4 : mgOk va ea (mxs vc vd 4) (mgE vc ec vd ed) = true) : mgE (mxs va vc 4) (mgE va ea vc ec) vd ed = mgE va ea (mxs vc vd 4) (mgE vc ec vd ed) := by
  obtain ⟨ta, tc, c1, tx⟩ := mgOk_iff.1 h1
  obtain ⟨_, td, c2, ty⟩ := mgOk_iff.1 h2
  obtain ⟨_, _, c3, tu⟩ := mgOk_iff.1 h3
  obtain ⟨_, _, c4, tv⟩ := mgOk_iff.1 h4
  refine ord_ext (mg_ord tx td) (mg_ord ta tu) fun e => ?_
  rw [mg_mem tx c2, mg_mem ta c4, mg_mem ta c1, mg_mem tc c3]
  by_cases hd : 0 ≤ e.dev ∧ e.dev < 4
  · rw [Kn.mxs hd, Kn.mxs hd]
    have ka := fun h : e ∈ ea => known_of ta h
    have kc := fun h : e ∈ ec => known_of tc h
    have kd := fun h : e ∈ ed => known_of td h
    by_cases p1 : e ∈ ea <;> by_cases p2 : e ∈ ec <;> by_cases p3 : e ∈ ed <;> by_cases q1 : Kn va e <;> by_cases q2 : Kn vc e <;> by_cases q3 : Kn vd e <;> simp_all
  · have ka : ¬ e ∈ ea := fun h => hd (tree_dev ta e h)
    have kc : ¬ e ∈ ec := fun h => hd (tree_dev tc e h)
    have kd : ¬ e ∈ ed := fun h => hd (tree_dev td e h)
    simp [ka, kc, kd]

/-- With some taken away it stays a tree. -/
theorem goodB_iff {a b c d : Int} {es : List En} : tokB a b c d es = true ↔ vecB [a, b, c, d] = true ∧ es.length ≤ 12 ∧ (∀ e ∈ es, fitB a b c d e = true) ∧ (es.Pairwise fun e f => ¬ (e.dev = f.dev ∧ e.num = f.num)) ∧ InOrd es := by
  constructor
  · intro h
    refine ⟨(tok_vec h).1, (tok_vec h).2, tok_fit h, ?_, tok_ord h⟩
    rw [List.pairwise_iff_getElem]
    intro i j hi hj hij hh
    have := deeds_one h hi hj hh.1 hh.2
    omega
  · rintro ⟨h1, h2, h3, h4, h5⟩
    refine tokB_all h1 h2 fun i hi => ?_
    unfold goodB
    have hgi : es.getD i default = es[i] := by rw [List.getD_eq_getElem?_getD, List.getElem?_eq_getElem hi]; rfl
    rw [hgi, h3 _ (List.getElem_mem hi)]
    have hn : inB ((es.take i).map deedOf) (deedOf es[i]) = false := by
      cases hb : inB ((es.take i).map deedOf) (deedOf es[i]) with
      | false => rfl
      | true =>
        rw [inB_hasDeed] at hb
        unfold hasDeed at hb
        rw [List.any_eq_true] at hb
        obtain ⟨x, hx, he⟩ := hb
        simp only [Bool.and_eq_true, beq_iff_eq] at he
        obtain ⟨j, hj, rfl⟩ := List.mem_take_iff_getElem.1 hx
        rw [List.pairwise_iff_getElem] at h4
        have hji : j < i := by omega
        have := h4 j i (by omega) hi hji
        exact absurd he this
    rw [hn]
    by_cases h0 : i = 0
    · simp [h0]
    · have hp := (List.pairwise_iff_getElem.1 h5) (i - 1) i (by omega) hi (by omega)
      have hgj : es.getD (i - 1) default = es[i - 1] := by rw [List.getD_eq_getElem?_getD, List.getElem?_eq_getElem (by omega)]; rfl
      rw [hgj]
      simp [hp]
theorem tree_filter {vec : List Int} {es : List En} (h : treeB vec es = true) (p : En → Bool) : treeB vec (es.filter p) = true := by
  have hp := tree_parts h
  have hn := tree_names h
  have ht := goodB_iff.1 hp.2.2
  unfold treeB
  have hl : (es.filter p).length ≤ 12 := Nat.le_trans (List.length_filter_le _ _) hp.2.1
  have ha : (es.filter p).all (fun e => nameB e.name) = true := by
    rw [List.all_eq_true]
    exact fun e he => hn e (List.mem_filter.1 he).1
  rw [hp.1, ha, goodB_iff.2 ⟨ht.1, hl, fun e he => ht.2.2.1 e (List.mem_filter.1 he).1, ht.2.2.2.1.filter _, ht.2.2.2.2.filter _⟩]
  simp [hl]
/-- Merged with what it was taken from, it stays as it is. -/
theorem mg_drop {vec : List Int} {es : List En} (h : treeB vec es = true) (p : En → Bool) : mgOk vec (es.filter p) vec es = true ∧ mxs vec vec 4 = vec ∧ mgE vec (es.filter p) vec es = es.filter p := by
  have hf := tree_filter h p
  have hc : ctrB (es.filter p) es = false := ctr_false fun e he f hf => tree_uniq h (List.mem_filter.1 he).1 hf
  have he : mgE vec (es.filter p) vec es = es.filter p := ord_ext (mg_ord hf h) (tree_tok hf) fun e => by
    rw [mg_mem hf hc]
    constructor
    · rintro (⟨a, _⟩ | ⟨a, _⟩ | ⟨a, b⟩)
      · exact a
      · exact a
      · exact absurd (known_of h a) b
    · exact fun a => .inl ⟨a, (List.mem_filter.1 a).1⟩
  have hv := mxs_self (tree_parts h).1
  exact ⟨mgOk_iff.2 ⟨hf, h, hc, by rw [he, hv]; exact hf⟩, hv, he⟩

end Go.Proofs.YtepkicgnhjaokaaGreatDoor

namespace Go.Proofs.YtepkicgnhjaokaaGreatDoor
open Go.RowKit Go.Maps

/-- A tree that can be read, not too great. -/
structure Tx (W : World) (t : Tt) : Prop where
  v : IntsIn W 0 W.heap.size t.AV t.vec
  e : EnsIn W 0 W.heap.size t.A t.es
  lv : t.vec.length ≤ 1048576
  le : t.es.length ≤ 1048576
  lb : ebulk t.es ≤ 1048576
theorem Tx.below {w w' : World} {t : Tt} (h : Tx w t) (hb : Below w.heap.size w w') : Tx w' t :=
  ⟨(h.v.keep fun _ _ h2 => hb.cell h2).mono hb.size, (h.e.below hb).mono hb.size, h.lv, h.le, h.lb⟩
theorem TdIn.tx {w : World} {t : Tt} (h : TdIn w 0 t) : Tx w t :=
  ⟨h.v, h.e, by have := h.len; omega, by have := h.few; omega, by have := h.bulk; omega⟩
theorem tx_own {w w' : World} {AV A : Option Addr} {cv c : Nat} {vec : List Int} {es : List En} (h : TrOwn w' w.heap.size w'.heap.size AV vec A es) (lv : vec.length ≤ 1048576) (le : es.length ≤ 1048576) (lb : ebulk es ≤ 1048576) : Tx w' ⟨AV, cv, vec, A, c, es⟩ :=
  ⟨h.vecIn.ints.low (Nat.zero_le _), h.ensIn.ens.low (Nat.zero_le _), lv, le, lb⟩

section
variable {w : World} {t u : Tt}
theorem mergeX (ht : Tx w t) (hu : Tx w u) : Calls Tryz.prog 19 #[.agg #[.slice t.AV t.vec.length t.cv, .slice t.A t.es.length t.c], .agg #[.slice u.AV u.vec.length u.cv, .slice u.A u.es.length u.c]] w
    fun e w' => ∃ s : Tt, e = .returned (.tuple #[.agg #[.slice s.AV s.vec.length s.cv, .slice s.A s.es.length s.c], .bool (mgOk t.vec t.es u.vec u.es)]) ∧ (s.vec = mgVec t.vec t.es u.vec u.es ∧ s.es = mgEs t.vec t.es u.vec u.es ∧ Tx w' s) ∧ Below w.heap.size w w' :=
  (implMerge_any t.AV t.vec t.cv t.A t.es t.c u.AV u.vec u.cv u.A u.es u.c w ht.v ht.e ht.lv ht.le ht.lb hu.v hu.e hu.lv hu.le hu.lb).mono fun _ _ ⟨AV, cv, A, c, he, ho, _, hb⟩ =>
    ⟨⟨AV, cv, _, A, c, _⟩, he, ⟨rfl, rfl, tx_own ho mgVec_len mgEs_len mgEs_bulk⟩, hb⟩
theorem putX (ht : Tx w t) (b val : Int) {Ab : Option Addr} {l : List UInt8} {cb : Nat} (hB : BytesIn w 0 w.heap.size Ab l) (hl : l.length ≤ 1048576) : Calls Tryz.prog 9 #[.agg #[.slice t.AV t.vec.length t.cv, .slice t.A t.es.length t.c], .int .i64 b, .slice Ab l.length cb, .int .i64 val] w
    fun e w' => ∃ s : Tt, e = .returned (.tuple #[.agg #[.slice s.AV s.vec.length s.cv, .slice s.A s.es.length s.c], .bool (puOk t.vec t.es b l val)]) ∧ (s.vec = puVec t.vec t.es b l val ∧ s.es = puEs t.vec t.es b l val ∧ Tx w' s) ∧ Below w.heap.size w w' :=
  (implPut_any t.AV t.vec t.cv t.A t.es t.c b Ab l cb val w ht.v ht.e ht.lv ht.le ht.lb hB hl).mono fun _ _ ⟨AV, cv, A, c, he, ho, _, hb⟩ =>
    ⟨⟨AV, cv, _, A, c, _⟩, he, ⟨rfl, rfl, tx_own ho (puVec_len ht.lv) (puEs_len ht.le) (puEs_bulk ht.lb)⟩, hb⟩
theorem sameX (ht : Tx w t) (hu : Tx w u) : Calls Tryz.prog 18 #[.agg #[.slice t.AV t.vec.length t.cv, .slice t.A t.es.length t.c], .agg #[.slice u.AV u.vec.length u.cv, .slice u.A u.es.length u.c]] w
    fun e w' => e = .returned (.bool (decide (t.vec = u.vec) && decide (t.es = u.es))) ∧ Below w.heap.size w w' :=
  sameTree_any t.AV t.vec t.cv t.A t.es t.c u.AV u.vec u.cv u.A u.es u.c w ht.v ht.e hu.v hu.e ht.lv hu.lv ht.le hu.le
theorem sameX_true (ht : Tx w t) (hu : Tx w u) (hv : t.vec = u.vec) (he : t.es = u.es) : Calls Tryz.prog 18 #[.agg #[.slice t.AV t.vec.length t.cv, .slice t.A t.es.length t.c], .agg #[.slice u.AV u.vec.length u.cv, .slice u.A u.es.length u.c]] w
    fun e w' => e = .returned (.bool true) ∧ Below w.heap.size w w' :=
  (sameX ht hu).mono fun _ _ ⟨h1, h2⟩ => ⟨by rw [h1, decide_eq_true hv, decide_eq_true he]; rfl, h2⟩
end
theorem bytes_marked (w : World) (x : UInt8) (fz : Nat × Nat) : BytesIn (w.alloc (.cells #[.int .u8 (x.toNat : Int)] 5 fz)) 0 (w.alloc (.cells #[.int .u8 (x.toNat : Int)] 5 fz)).heap.size (some ⟨w.heap.size, 0, none⟩) [x] := fun _ =>
  ⟨w.heap.size, 0, rfl, Nat.zero_le _, by simp, fun j hj => by
    have : j = 0 := by simp at hj; omega
    subst this
    have hh := heap_alloc_new w (.cells #[.int .u8 (x.toNat : Int)] 5 fz)
    rw [World.cell?, hh]
    rfl⟩

end Go.Proofs.YtepkicgnhjaokaaGreatDoor

namespace Go.Proofs.YtepkicgnhjaokaaGreatDoor
open Go.RowKit Go.Maps

theorem mxs_up {va vb : List Int} (ha : vecB va = true) (hb : vecB vb = true) : mxs va vb 4 = upV va vb := by
  unfold upV
  rw [ha, hb]
  rfl
/-- Two trees merged, whichever is first. -/
theorem merges_yes {va vb vx vy : List Int} {ea eb ex ey : List En} (hx : vx = mgVec va ea vb eb ∧ ex = mgEs va ea vb eb) (hy : vy = mgVec vb eb va ea ∧ ey = mgEs vb eb va ea) (o : mgOk va ea vb eb = true) :
    mgOk vb eb va ea = true ∧ (vx = vy ∧ ex = ey) ∧ treeB vx ex = true ∧ vx = upV va vb ∧ (mgOk vx ex va ea = true ∧ mgVec vx ex va ea = vx ∧ mgEs vx ex va ea = ex) ∧ (mgOk va ea va ea = true ∧ mgVec va ea va ea = va ∧ mgEs va ea va ea = ea) := by
  have o2 := mg_swap o
  obtain ⟨h1, h2, h3, h4⟩ := mgOk_iff.1 o
  obtain ⟨rfl, rfl⟩ := hx
  obtain ⟨rfl, rfl⟩ := hy
  rw [(mg_yes o).1, (mg_yes o).2, (mg_yes o2).1, (mg_yes o2).2]
  obtain ⟨k1, k2, k3⟩ := mg_more o
  obtain ⟨l1, l2, l3⟩ := mg_self h1
  rw [(mg_yes k1).1, (mg_yes k1).2, (mg_yes l1).1, (mg_yes l1).2]
  exact ⟨o2, ⟨mxs_comm _ _, mgE_comm h1 h2 h3⟩, h4, mxs_up (tree_parts h1).1 (tree_parts h2).1, ⟨k1, k2, k3⟩, ⟨l1, l2, l3⟩⟩
theorem merges_no {va vb vx vy : List Int} {ea eb ex ey : List En} (hx : vx = mgVec va ea vb eb ∧ ex = mgEs va ea vb eb) (hy : vy = mgVec vb eb va ea ∧ ey = mgEs vb eb va ea) (o : mgOk va ea vb eb = false) : mgOk vb eb va ea = false ∧ vx = [] ∧ vy = [] := by
  have o2 : mgOk vb eb va ea = false := by rw [mgOk_comm]; exact o
  rw [hx.1, hy.1]
  exact ⟨o2, (mg_no o).1, (mg_no o2).1⟩

/-- Taken away, and merged with what had it. -/
theorem drops_yes {vt vx : List Int} {et ex : List En} {l : List UInt8} (hx : vx = drVec vt et ∧ ex = drEs vt et l) (o : drOk vt et l = true) :
    (mgOk vx ex vt et = true ∧ mgVec vx ex vt et = vx ∧ mgEs vx ex vt et = ex) ∧ drOk vx ex l = false ∧ ex.length < et.length := by
  unfold drOk at o
  rw [Bool.and_eq_true, decide_eq_true_eq] at o
  obtain ⟨h, hl⟩ := o
  obtain ⟨rfl, rfl⟩ := hx
  unfold drVec drEs
  rw [h]
  simp only [if_true]
  obtain ⟨k1, k2, k3⟩ := mg_drop h (fun e => !(e.name == l))
  have hn : notName l (notName l et) = notName l et := by
    unfold notName
    rw [List.filter_filter]
    simp
  refine ⟨⟨k1, (mg_yes k1).1.trans k2, (mg_yes k1).2.trans k3⟩, ?_, hl⟩
  unfold drOk
  rw [hn]
  simp
theorem drops_no {vt vx : List Int} {et ex : List En} {l : List UInt8} (hx : vx = drVec vt et ∧ ex = drEs vt et l) (o : drOk vt et l = false) : vx = [] ∨ (vx = vt ∧ ex = et) := by
  obtain ⟨rfl, rfl⟩ := hx
  cases h : treeB vt et with
  | false => left; simp [drVec, h]
  | true =>
    right
    unfold drOk at o
    rw [h, Bool.true_and, decide_eq_false_iff_not] at o
    refine ⟨by simp [drVec, h], ?_⟩
    have hle := notName_le l et
    have : notName l et = et := by
      have hs : (notName l et).Sublist et := List.filter_sublist
      exact hs.eq_of_length (by omega)
    simp [drEs, h, this]

end Go.Proofs.YtepkicgnhjaokaaGreatDoor
