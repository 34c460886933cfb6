/-
  How many names the model's NamesOf gives; the model's Copies.
-/
import Derived.Test.YtblmhhijgdkkoaaNamesI
import Derived.Test.YtblmhhijgdkkoaaTreeOkS
import Derived.Test.YtblmhhijgdkkoaaFresh2
namespace Go.Proofs.Ytblmhhijgdkkoaa
open Go.RowKit Go.Maps

theorem vb_length (l : List UInt8) : (vbytes l).length = l.length := by simp [vbytes]
theorem vb_one (l : List UInt8) : ∀ u ∈ vbytes l, u.oneCell' = true := by
  intro u hu
  simp only [vbytes, List.mem_map] at hu
  obtain ⟨b, _, rfl⟩ := hu
  rfl
theorem vbytes_at' {w : World} {L B g o : Nat} {l : List UInt8} (h : BytesIn w L B (some ⟨g, o, none⟩) l) : ∀ j u, (vbytes l)[j]? = some u → w.cell? ((⟨g, o, none⟩ : Addr).add j) = some u := by
  intro j u hu
  have hj : j < l.length := by
    have := (List.getElem?_eq_some_iff.1 hu).1
    rwa [vb_length] at this
  obtain ⟨b, o', e, _, _, hc⟩ := h (by omega)
  cases e
  rw [Addr.add_lit, hc j hj]
  rw [← hu]
  simp [vbytes, hj]
theorem nameB_pos {l : List UInt8} (h : nameB l = true) : 0 < l.length := by
  cases l with
  | nil => exact absurd h (by decide)
  | cons x xs => simp
theorem treeB_names {vec : List Int} {es : List En} (h : treeB vec es = true) : ∀ i (hi : i < es.length), 0 < es[i].name.length := by
  intro i hi
  unfold treeB at h
  simp only [Bool.and_eq_true, decide_eq_true_eq] at h
  exact nameB_pos (List.all_eq_true.1 h.1.2 _ (List.getElem_mem hi))

set_option maxRecDepth 100000 in
set_option maxHeartbeats 4000000 in
theorem specNamesLen_any (AV : Option Addr) (vec : List Int) (cv : Nat) (A : Option Addr) (es : List En) (c : Nat) (w : World) (hV : IntsIn w 0 w.heap.size AV vec) (hA : EnsIn w 0 w.heap.size A es) (hv : vec.length ≤ 1048576) (hn : es.length ≤ 1048576) (hbk : ebulk es ≤ 1048576) (hc : es.length ≤ c := by omega) :
    Calls Try.prog 23 #[.agg #[.slice AV vec.length cv, .slice A es.length c]] w (NmLen (if treeB vec es then nmC es es.length else 0) w) := by
  have HV := Lib.hid hV
  have HA := Lib.hid hA
  have HLen := Lib.hid (@treeB_len' vec es)
  have HNs := Lib.hid (@treeB_names vec es)
  obtain ⟨N, hN⟩ : ∃ N, N = (if treeB vec es then nmC es es.length else 0) := ⟨_, rfl⟩
  have HN := Lib.hid hN
  rw [← hN]
  clear hV hA hN
  go_enter Try.func23, Try.ntmps23
  go_wp2_with fail
  obtain ⟨W, hW⟩ : ∃ W, W = w.alloc (.cells #[.slice AV vec.length cv, .slice A es.length c] 30) := ⟨_, rfl⟩
  have HX := Lib.hid (show Bx W w.heap.size [.slice AV vec.length cv, .slice A es.length c] by rw [hW]; exact Bx.new' _ _ _ _ rfl)
  have HBel := Lib.hid (show Below w.heap.size w W by rw [hW]; exact (Below.refl _ _).alloc (Nat.le_refl _) _)
  have hzW : w.heap.size < W.heap.size := by rw [hW]; simp
  rw [← hW]
  clear hW
  refine (specTreeOk_any AV vec cv A es c W ((HV.out.keep fun p _ hp => HBel.out.cell hp).mono (by omega)) ((HA.out.below HBel.out).mono (by omega)) hv hn hbk hc).mono ?_
  rintro e w1 ⟨rfl, hb1⟩
  have HB1 := Lib.hid (HBel.out.trans (hb1.mono (by omega)))
  have HX1 := Lib.hid (HX.out.below hb1 hzW)
  have hz1 := hb1.size
  clear hb1
  obtain ⟨tb, htb⟩ : ∃ tb, tb = treeB vec es := ⟨_, rfl⟩
  rw [← htb] at HLen HNs HN ⊢
  clear htb
  cases tb with
  | false =>
    have HN0 := Lib.hid (show N = 0 from HN.out)
    go_wp2_with fail
    go_ret
    exact ⟨none, 0, by rw [HN0.out]; rfl, HB1.out⟩
  | true =>
  have hl12 := HLen.out rfl
  have HNp := Lib.hid (HNs.out rfl)
  clear HLen HNs
  go_wp2_with fail
  go_loopw [3, 4] (fun x i wr => ∃ (k : Nat) (B : Option Addr) (cx : Nat) (vs : List Value), k ≤ es.length ∧ i = .int .i64 k ∧ x = .slice B (nmC es k) cx ∧ wr.ownsRow w1.heap.size 26 1 (.slice B (nmC es k) cx) (nmC es k) vs ∧ Below w1.heap.size w1 wr ∧ w1.heap.size ≤ wr.heap.size) (fun _ i _ => es.length - (intOf i).toNat)
  case atStart => exact ⟨0, none, 0, [], Nat.zero_le _, rfl, rfl, World.ownsRow_nil _ _ _ _, Below.refl _ _, Nat.le_refl _⟩
  case round =>
    obtain ⟨k, B, cx, vs, hk, rfl, rfl, hown, hbel, hzr⟩ := hrel
    have HOwn := Lib.hid hown
    have HBr := Lib.hid hbel
    have x1 := (HBr.out.cell (p := ⟨w.heap.size, 1, none⟩) (by show w.heap.size < w1.heap.size; omega)).trans (HX1.out 1 (by simp))
    simp only [List.getElem_cons_succ, List.getElem_cons_zero] at x1
    clear hown hbel
    by_cases hlt : k < es.length
    · have HO := Lib.hid (show Below w.heap.size w wr from HB1.out.trans (HBr.out.mono (by omega)))
      obtain ⟨bA, oA, hAe, _, hbA, hcA⟩ := HA.out (by omega)
      obtain ⟨An, cn, c0, _, _, _, hby⟩ := (hcA k hlt).keep (Nat.zero_le _) hbA (fun p _ hp => HO.out.cell hp)
      obtain ⟨e, he⟩ : ∃ e, e = es[k] := ⟨_, rfl⟩
      have hnl := name_le_ebulk es k hlt
      have hnp := HNp.out k hlt
      rw [← he] at c0 hby hnl hnp
      have HS := Lib.hid (nmC_succ es k)
      have hkl := nmC_le es k
      obtain ⟨F, hF⟩ : ∃ F, F = nmC es k := ⟨_, rfl⟩
      rw [← hF] at HS hkl HOwn ⊢
      have HE := Lib.hid he
      have HCs := Lib.hid hcA
      subst hAe
      clear hcA he hF
      obtain ⟨n1, v1, d1, m1⟩ := e
      simp only at c0 hnl hnp hby
      obtain ⟨gN, oN, hgN, _, hgb, _⟩ := hby hnp
      subst hgN
      have HBy := Lib.hid hby
      clear hby
      have hlt' : (k : Int) < (es.length : Int) := by omega
      have C0 := Lib.hid c0
      have X1 := Lib.hid x1
      have g0 := fun x : Kp wr => x.cell c0
      have g1 := fun x : Kp wr => x.cell x1
      have k1 := fun x : Kp wr => run_str (w := x.val) (HBy.out.keep fun p _ hp => x.ok.cell (by omega)) cn
      clear c0
      by_cases hk0 : k = 0
      · subst hk0
        have hzl : (0 : Int) < (es.length : Int) := by omega
        have HS2 := Lib.hid (show nmC es (0 + 1) = F + 1 by rw [HS.out]; simp [stB])
        go_wp2_with fail
        refine wp_region_kept (by kernel_rfl) (by kernel_rfl) ?_
        repeat (go_big_quiet_step (fail))
        refine wpQuiet_nil ?_
        rintro _ ⟨x, rfl⟩
        clear k1 g0 g1 x1 
        obtain ⟨w7, hw7⟩ : ∃ w7, w7 = x.val := ⟨_, rfl⟩
        have HB7 := Lib.hid (show Below wr.heap.size wr w7 by rw [hw7]; exact x.ok)
        rw [← hw7]
        clear hw7 x
        have hz7 := HB7.out.size
        have c0 := (HB7.out.cell (p := ⟨bA, oA + 0 * 4, none⟩) (by show bA < wr.heap.size; omega)).trans C0.out
        have x1 := (HB7.out.cell (p := ⟨w.heap.size, 1, none⟩) (by show w.heap.size < wr.heap.size; omega)).trans X1.out
        simp only [Nat.zero_mul, Nat.add_zero] at c0
        have HOwn7 := Lib.hid (ownsRow_below HOwn.out HB7.out fun g hg => (HOwn.out.lt g hg).2)
        have HBy7 := Lib.hid (HBy.out.keep fun p _ hp => HB7.out.cell (by omega))
        have lw7 : w.heap.size < w7.heap.size := by omega
        have lA7 : bA < w7.heap.size := by omega
        obtain ⟨i0, hi, hz0, hz1', hz2'⟩ := info_parts Try.info5
        go_wp2_with (at_builtin; refine wpList_append_own _ rfl _ _ 26 rfl w7.heap.size 5 i0 (.int .u8 0) 1 1 Try.underlying26 hi hz0 hz1' hz2' rfl (by decide) _ _ _ rfl (ownsRow_empty w7 _ 1 _ (Nat.le_refl _)) ⟨gN, oN, none⟩ n1.length cn (vbytes n1) rfl ?c0 ?c1 ?c2 ?c3 ?c4 ?c5 ?_)
        case c0 => first | (rw [vb_length]; omega) | simp [vb_length]
        case c1 => exact vbytes_at' (HBy7.out.keep fun p _ hp => ((Below.refl w7.heap.size w7).alloc (Nat.le_refl _) (.cells #[] 5)).cell (by omega))
        try case c2 => exact vb_one _
        try case c3 => first | omega | (unfold maxLen; omega)
        try case c4 => omega
        try case c5 => first | omega | (simp; done) | (simp; omega)
        intro v' w8 hrow8 hgr8 _
        try simp only [Nat.zero_add] at hrow8
        obtain ⟨A8, c8, rfl⟩ := row_shape hrow8
        have HB8 := Lib.hid (((Below.refl w7.heap.size w7).alloc (Nat.le_refl _) (.cells #[] 5)).grown hgr8 (by simp) (fun k hk => by cases hk; exact Nat.le_refl _))
        have hz8 : w7.heap.size + 1 ≤ w8.heap.size := by simpa using hgr8.size
        have HOwn8 := Lib.hid (ownsRow_below HOwn7.out HB8.out fun g hg => (HOwn7.out.lt g hg).2)
        clear hrow8 hgr8 i0 hi hz0 hz1' hz2' c0 x1
        obtain ⟨i0, hi, hz0, hz1', hz2'⟩ := info_parts Try.infoBs
        go_wp2_with (at_builtin; refine wpList_append_own _ rfl _ _ 40 rfl w1.heap.size 26 i0 (.slice none 0 0) 1 24 Try.underlying40 hi hz0 hz1' hz2' rfl (by decide) _ _ _ rfl (HOwn8.out.alloc _) ⟨w8.heap.size, 0, none⟩ 1 1 [.slice A8 n1.length c8] rfl rfl ?c1 ?c2 ?c3 ?c4 ?c5 ?_)
        case c1 => exact cell_one_new _ _ _
        case c2 => first | rfl | (intro u hu; simp at hu; subst hu; rfl)
        case c3 => unfold maxLen; omega
        case c4 => omega
        case c5 => first | omega | (simp; omega)
        intro v' w5 hrow5 hgr5 _
        obtain ⟨A5, c5, rfl⟩ := row_shapeN hrow5
        have HRow5 := Lib.hid hrow5
        have HB5 := Lib.hid (((HBr.out.trans ((HB7.out.trans (HB8.out.mono (by omega))).mono hzr)).alloc (by omega) (.cells #[.slice A8 n1.length c8] 26)).grown hgr5 (by simp; omega) (fun g hg => (HOwn8.out.lt g hg).1))
        have hz5 : w8.heap.size + 1 ≤ w5.heap.size := by simpa using hgr5.size
        clear hrow5 hgr5
        go_wp2_with fail
        go_roundw
        case rel =>
          have hr := HRow5.out
          rw [← HS2.out] at hr
          exact ⟨0 + 1, A5, c5, _, by omega, by go_num, by rw [HS2.out], hr, HB5.out, by omega⟩
        case measure => simp [intOf]; omega
      · obtain ⟨k', rfl⟩ : ∃ k', k = k' + 1 := ⟨k - 1, by omega⟩
        obtain ⟨A2, c2, b0, _, _, _, hby2⟩ := (HCs.out k' (by omega)).keep (Nat.zero_le _) hbA (fun p _ hp => HO.out.cell hp)
        obtain ⟨f, hf⟩ : ∃ f, f = es[k'] := ⟨_, rfl⟩
        rw [← hf] at b0 hby2
        have HSt := Lib.hid (show stB es (k' + 1) = !(f.name == n1) by
          unfold stB
          have h1 : es.getD (k' + 1) default = ⟨n1, v1, d1, m1⟩ := by rw [HE.out]; simp [hlt]
          rw [h1, hf]
          simp [show k' < es.length by omega])
        have HBy2 := Lib.hid hby2
        obtain ⟨n2, v2, d2, m2⟩ := f
        simp only at b0 HSt
        have g2 := fun x : Kp wr => x.cell b0
        have k2 := fun x : Kp wr => run_str (w := x.val) (HBy2.out.keep fun p _ hp => x.ok.cell (by omega)) c2
        have hk1 : (0 : Int) < (k' : Int) + 1 := by omega
        have hk2 : (k' : Int) < (es.length : Int) := by omega
        have hk3 : (k' : Int) ≤ 1000 := by omega
        have hk4 : (k' : Int) + 1 < (es.length : Int) := by omega
        have hk5 : (((k' : Int) + 1) == 0) = false := by rw [beq_eq_false_iff_ne]; omega
        clear hf hby2 b0 hk0
        cases hq : (n2 == n1) with
        | true =>
          have HS2 := Lib.hid (show nmC es (k' + 1 + 1) = F by rw [HS.out, HSt.out, hq]; simp)
          go_wp2_with fail
          refine wp_region_kept (by kernel_rfl) (by kernel_rfl) ?_
          repeat (go_big_quiet_step (fail))
          refine wpQuiet_nil ?_
          rintro _ ⟨x, rfl⟩
          clear k1 k2 g0 g1 g2 x1
          obtain ⟨w7, hw7⟩ : ∃ w7, w7 = x.val := ⟨_, rfl⟩
          have HB7 := Lib.hid (show Below wr.heap.size wr w7 by rw [hw7]; exact x.ok)
          rw [← hw7]
          clear hw7 x
          have hz7 := HB7.out.size
          go_wp2_with fail
          go_roundw
          case rel =>
            refine ⟨k' + 1 + 1, B, cx, vs, by omega, by go_num, by rw [HS2.out], ?_, HBr.out.trans (HB7.out.mono hzr), by omega⟩
            rw [HS2.out]
            exact ownsRow_below HOwn.out HB7.out fun g hg => (HOwn.out.lt g hg).2
          case measure => simp [intOf]; omega
        | false =>
          have HS2 := Lib.hid (show nmC es (k' + 1 + 1) = F + 1 by rw [HS.out, HSt.out, hq]; simp)
          go_wp2_with fail
          refine wp_region_kept (by kernel_rfl) (by kernel_rfl) ?_
          repeat (go_big_quiet_step (fail))
          refine wpQuiet_nil ?_
          rintro _ ⟨x, rfl⟩
          clear k1 g0 g1 x1 k2 g2
          obtain ⟨w7, hw7⟩ : ∃ w7, w7 = x.val := ⟨_, rfl⟩
          have HB7 := Lib.hid (show Below wr.heap.size wr w7 by rw [hw7]; exact x.ok)
          rw [← hw7]
          clear hw7 x
          have hz7 := HB7.out.size
          have c0 := (HB7.out.cell (p := ⟨bA, oA + (k' + 1) * 4, none⟩) (by show bA < wr.heap.size; omega)).trans C0.out
          have x1 := (HB7.out.cell (p := ⟨w.heap.size, 1, none⟩) (by show w.heap.size < wr.heap.size; omega)).trans X1.out
          have HOwn7 := Lib.hid (ownsRow_below HOwn.out HB7.out fun g hg => (HOwn.out.lt g hg).2)
          have HBy7 := Lib.hid (HBy.out.keep fun p _ hp => HB7.out.cell (by omega))
          have lw7 : w.heap.size < w7.heap.size := by omega
          have lA7 : bA < w7.heap.size := by omega
          obtain ⟨i0, hi, hz0, hz1', hz2'⟩ := info_parts Try.info5
          go_wp2_with (at_builtin; refine wpList_append_own _ rfl _ _ 26 rfl w7.heap.size 5 i0 (.int .u8 0) 1 1 Try.underlying26 hi hz0 hz1' hz2' rfl (by decide) _ _ _ rfl (ownsRow_empty w7 _ 1 _ (Nat.le_refl _)) ⟨gN, oN, none⟩ n1.length cn (vbytes n1) rfl ?c0 ?c1 ?c2 ?c3 ?c4 ?c5 ?_)
          case c0 => first | (rw [vb_length]; omega) | simp [vb_length]
          case c1 => exact vbytes_at' (HBy7.out.keep fun p _ hp => ((Below.refl w7.heap.size w7).alloc (Nat.le_refl _) (.cells #[] 5)).cell (by omega))
          try case c2 => exact vb_one _
          try case c3 => first | omega | (unfold maxLen; omega)
          try case c4 => omega
          try case c5 => first | omega | (simp; done) | (simp; omega)
          intro v' w8 hrow8 hgr8 _
          try simp only [Nat.zero_add] at hrow8
          obtain ⟨A8, c8, rfl⟩ := row_shape hrow8
          have HB8 := Lib.hid (((Below.refl w7.heap.size w7).alloc (Nat.le_refl _) (.cells #[] 5)).grown hgr8 (by simp) (fun k hk => by cases hk; exact Nat.le_refl _))
          have hz8 : w7.heap.size + 1 ≤ w8.heap.size := by simpa using hgr8.size
          have HOwn8 := Lib.hid (ownsRow_below HOwn7.out HB8.out fun g hg => (HOwn7.out.lt g hg).2)
          clear hrow8 hgr8 i0 hi hz0 hz1' hz2' c0 x1
          obtain ⟨i0, hi, hz0, hz1', hz2'⟩ := info_parts Try.infoBs
          go_wp2_with (at_builtin; refine wpList_append_own _ rfl _ _ 40 rfl w1.heap.size 26 i0 (.slice none 0 0) 1 24 Try.underlying40 hi hz0 hz1' hz2' rfl (by decide) _ _ _ rfl (HOwn8.out.alloc _) ⟨w8.heap.size, 0, none⟩ 1 1 [.slice A8 n1.length c8] rfl rfl ?c1 ?c2 ?c3 ?c4 ?c5 ?_)
          case c1 => exact cell_one_new _ _ _
          case c2 => first | rfl | (intro u hu; simp at hu; subst hu; rfl)
          case c3 => unfold maxLen; omega
          case c4 => omega
          case c5 => first | omega | (simp; omega)
          intro v' w5 hrow5 hgr5 _
          obtain ⟨A5, c5, rfl⟩ := row_shapeN hrow5
          have HRow5 := Lib.hid hrow5
          have HB5 := Lib.hid (((HBr.out.trans ((HB7.out.trans (HB8.out.mono (by omega))).mono hzr)).alloc (by omega) (.cells #[.slice A8 n1.length c8] 26)).grown hgr5 (by simp; omega) (fun g hg => (HOwn8.out.lt g hg).1))
          have hz5 : w8.heap.size + 1 ≤ w5.heap.size := by simpa using hgr5.size
          clear hrow5 hgr5
          go_wp2_with fail
          go_roundw
          case rel =>
            have hr := HRow5.out
            rw [← HS2.out] at hr
            exact ⟨(k' + 1) + 1, A5, c5, _, by omega, by go_num, by rw [HS2.out], hr, HB5.out, by omega⟩
          case measure => simp [intOf]; omega
    · have hke : k = es.length := by omega
      have HL := Lib.hid (show N = nmC es k by rw [HN.out, hke]; rfl)
      clear hke
      have HO := Lib.hid (HB1.out.trans (HBr.out.mono (by omega)))
      go_wp2_with fail
      go_ret
      exact ⟨B, cx, by rw [HL.out]; rfl, HO.out⟩

end Go.Proofs.Ytblmhhijgdkkoaa
