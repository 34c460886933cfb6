/-
  The model's Writers.
-/
import Derived.Test.YtnejbggbkjgfeaaNamed
import Derived.Test.YtnejbggbkjgfeaaTreeOkS
namespace Go.Proofs.Ytnejbggbkjgfeaa
open Go.RowKit Go.Maps

set_option maxRecDepth 100000 in
set_option maxHeartbeats 4000000 in
theorem specWriters_any (AV : Option Addr) (vec : List Int) (cv : Nat) (A : Option Addr) (es : List En) (c : Nat) (Ab : Option Addr) (l : List UInt8) (cb : Nat) (w : World) (hV : IntsIn w 0 w.heap.size AV vec) (hA : EnsIn w 0 w.heap.size A es) (hv : vec.length ≤ 1048576) (hn : es.length ≤ 1048576) (hbk : ebulk es ≤ 1048576) (hB : BytesIn w 0 w.heap.size Ab l) (_hl : l.length ≤ 1048576) (hc : es.length ≤ c := by omega) :
    Calls Try.prog 47 #[.agg #[.slice AV vec.length cv, .slice A es.length c], .slice Ab l.length cb] w (NewIntsFr (wrsV vec es l) w) := by
  have HV := Lib.hid hV
  have HA := Lib.hid hA
  have HB := Lib.hid hB
  have HW := Lib.hid (show wrsV vec es l = if treeB vec es then (ofName l es).map En.dev else [] from rfl)
  have HLen := Lib.hid (@treeB_len vec es)
  clear hV hA hB
  go_enter Try.func47, Try.ntmps47
  go_wp2_with fail
  obtain ⟨W, hW⟩ : ∃ W, W = w.alloc (.cells #[.slice AV vec.length cv, .slice A es.length c] 39) := ⟨_, rfl⟩
  have HX := Lib.hid (show Bx W w.heap.size [.slice AV vec.length cv, .slice A es.length c] by rw [hW]; exact Bx.new' _ _ _ _ rfl)
  have HBel := Lib.hid (show Below w.heap.size w W by rw [hW]; exact (Below.refl _ _).alloc (Nat.le_refl _) _)
  have hzW : w.heap.size < W.heap.size := by rw [hW]; simp
  rw [← hW]
  clear hW
  refine (specTreeOk_any AV vec cv A es c W ((HV.out.keep fun p _ hp => HBel.out.cell hp).mono (by omega)) ((HA.out.below HBel.out).mono (by omega)) hv hn hbk hc).mono ?_
  rintro e w1 ⟨rfl, hb1⟩
  have HB1 := Lib.hid (HBel.out.trans (hb1.mono (by omega)))
  have HX1 := Lib.hid (HX.out.below hb1 hzW)
  have hz1 := hb1.size
  clear hb1
  obtain ⟨tb, htb⟩ : ∃ tb, tb = treeB vec es := ⟨_, rfl⟩
  rw [← htb] at HW HLen ⊢
  clear htb
  cases tb with
  | false =>
    have HN := Lib.hid (show wrsV vec es l = [] by rw [HW.out]; rfl)
    go_wp2_with fail
    go_ret
    rw [HN.out]
    exact .nil HB1.out
  | true =>
  have hl12 := HLen.out rfl
  have HN := Lib.hid (show wrsV vec es l = (ofName l es).map En.dev by rw [HW.out]; rfl)
  clear HW HLen
  go_wp2_with fail
  go_loopw [5, 6] (fun x i wr => ∃ (k : Nat) (B : Option Addr) (cx : Nat), k ≤ es.length ∧ i = .int .i64 k ∧ x = .slice B (ofName l (es.take k)).length cx ∧ wr.ownsRow w1.heap.size 3 1 (.slice B (ofName l (es.take k)).length cx) (ofName l (es.take k)).length (((ofName l (es.take k)).map En.dev).map vint) ∧ Below w1.heap.size w1 wr ∧ w1.heap.size ≤ wr.heap.size) (fun _ i _ => es.length - (intOf i).toNat)
  case atStart => exact ⟨0, none, 0, Nat.zero_le _, rfl, rfl, World.ownsRow_nil _ _ _ _, Below.refl _ _, Nat.le_refl _⟩
  case round =>
    obtain ⟨k, B, cx, hk, rfl, rfl, hown, hbel, hzr⟩ := hrel
    have HOwn := Lib.hid hown
    have HBr := Lib.hid hbel
    have x1 := (HBr.out.cell (p := ⟨w.heap.size, 1, none⟩) (by show w.heap.size < w1.heap.size; omega)).trans (HX1.out 1 (by simp))
    simp only [List.getElem_cons_succ, List.getElem_cons_zero] at x1
    clear hown hbel
    by_cases hlt : k < es.length
    · have HO := Lib.hid (show Below w.heap.size w wr from HB1.out.trans (HBr.out.mono (by omega)))
      obtain ⟨bA, oA, hAe, _, hbA, hcA⟩ := HA.out (by omega)
      obtain ⟨An, cn, c0, _, c2, _, hby⟩ := (hcA k hlt).keep (Nat.zero_le _) hbA (fun p _ hp => HO.out.cell hp)
      obtain ⟨e, he⟩ : ∃ e, e = es[k] := ⟨_, rfl⟩
      have hnl := name_le_ebulk es k hlt
      rw [← he] at c0 c2 hby hnl
      have HS := Lib.hid (ofName_succ l es k hlt)
      rw [← he] at HS
      have hkl : (ofName l (es.take k)).length ≤ k := Nat.le_trans (ofName_le _ _) (by simp; omega)
      obtain ⟨F, hF⟩ : ∃ F, F = ofName l (es.take k) := ⟨_, rfl⟩
      rw [← hF] at HS hkl HOwn ⊢
      have HBy := Lib.hid hby
      subst hAe
      clear hcA he hF hby
      obtain ⟨n1, v1, d1, m1⟩ := e
      simp only at c0 c2 hnl
      have hlt' : (k : Int) < (es.length : Int) := by omega
      have C2 := Lib.hid c2
      have X1 := Lib.hid x1
      have g0 := fun x : Kp wr => x.cell c0
      have g1 := fun x : Kp wr => x.cell x1
      have k1 := fun x : Kp wr => run_str (w := x.val) (HBy.out.keep fun p _ hp => x.ok.cell (by omega)) cn
      have k2 := fun x : Kp wr => run_str (w := x.val) (HB.out.keep fun p _ hp => (x.ok.cell (by omega)).trans (HO.out.cell hp)) cb
      clear c0 c2
      cases hq : (n1 == l) with
      | false =>
        have HS2 := Lib.hid (show ofName l (es.take (k + 1)) = F by rw [HS.out]; simp [hq])
        go_wp2_with fail
        refine wp_region_kept (by kernel_rfl) (by kernel_rfl) ?_
        repeat (go_big_quiet_step (fail))
        refine wpQuiet_nil ?_
        rintro _ ⟨x, rfl⟩
        clear k1 k2 g0 g1 x1
        obtain ⟨w7, hw7⟩ : ∃ w7, w7 = x.val := ⟨_, rfl⟩
        have HB7 := Lib.hid (show Below wr.heap.size wr w7 by rw [hw7]; exact x.ok)
        rw [← hw7]
        clear hw7 x
        have hz7 := HB7.out.size
        go_wp2_with fail
        go_roundw
        case rel =>
          refine ⟨k + 1, B, cx, by omega, by go_num, by rw [HS2.out], ?_, HBr.out.trans (HB7.out.mono hzr), by omega⟩
          rw [HS2.out]
          exact ownsRow_below HOwn.out HB7.out fun g hg => (HOwn.out.lt g hg).2
        case measure => simp [intOf]; omega
      | true =>
        have HS2 := Lib.hid (show ofName l (es.take (k + 1)) = F ++ [⟨n1, v1, d1, m1⟩] by rw [HS.out]; simp [hq])
        go_wp2_with fail
        refine wp_region_kept (by kernel_rfl) (by kernel_rfl) ?_
        repeat (go_big_quiet_step (fail))
        refine wpQuiet_nil ?_
        rintro _ ⟨x, rfl⟩
        clear k1 k2 g0 g1 x1
        obtain ⟨w7, hw7⟩ : ∃ w7, w7 = x.val := ⟨_, rfl⟩
        have HB7 := Lib.hid (show Below wr.heap.size wr w7 by rw [hw7]; exact x.ok)
        rw [← hw7]
        clear hw7 x
        have hz7 := HB7.out.size
        have c2 := (HB7.out.cell (p := ⟨bA, oA + k * 4 + 2, none⟩) (by show bA < wr.heap.size; omega)).trans C2.out
        have x1 := (HB7.out.cell (p := ⟨w.heap.size, 1, none⟩) (by show w.heap.size < wr.heap.size; omega)).trans X1.out
        have HOwn7 := Lib.hid (ownsRow_below HOwn.out HB7.out fun g hg => (HOwn.out.lt g hg).2)
        obtain ⟨i0, hi, hz0, hz1', hz2'⟩ := info_parts Try.infoInt
        go_wp2_with (at_builtin; refine wpList_append_own _ rfl _ _ 26 rfl w1.heap.size 3 i0 (.int .i64 0) 1 8 Try.underlying26 hi hz0 hz1' hz2' rfl (by decide) _ _ _ rfl (HOwn7.out.alloc _) ⟨w7.heap.size, 0, none⟩ 1 1 [.int .i64 d1] rfl rfl ?c1 ?c2 ?c3 ?c4 ?c5 ?_)
        case c1 => exact cell_one_new _ _ _
        case c2 => first | rfl | (intro u hu; simp at hu; subst hu; rfl)
        case c3 => unfold maxLen; omega
        case c4 => omega
        case c5 => first | omega | (simp; omega)
        intro v' w5 hrow5 hgr5 _
        obtain ⟨A5, c5, rfl⟩ := row_shape hrow5
        have HRow5 := Lib.hid hrow5
        have HB5 := Lib.hid (((HBr.out.trans (HB7.out.mono hzr)).alloc (by omega) (.cells #[.int .i64 d1] 3)).grown hgr5 (by simp; omega) (fun g hg => (HOwn7.out.lt g hg).1))
        have hz5 : w7.heap.size + 1 ≤ w5.heap.size := by simpa using hgr5.size
        clear hrow5 hgr5
        go_wp2_with fail
        go_roundw
        case rel =>
          refine ⟨k + 1, A5, c5, by omega, by go_num, by rw [HS2.out]; simp, ?_, HB5.out, by omega⟩
          have := HRow5.out
          rw [HS2.out]
          simpa [vint] using this
        case measure => simp [intOf]; omega
    · have hke : k = es.length := by omega
      have HR := Lib.hid (show NewIntsFr (wrsV vec es l) w (.returned (.slice B (ofName l (es.take k)).length cx)) wr from by
        subst hke
        rw [HN.out]
        have h := HOwn.out
        rw [List.take_length] at h ⊢
        have hlen : ((ofName l es).map En.dev).length = (ofName l es).length := by simp
        refine ⟨B, cx, by rw [hlen], (ints_of_row (by rw [hlen]; exact h)).low (by omega), HB1.out.trans (HBr.out.mono (by omega))⟩)
      go_wp2_with fail
      go_ret
      exact HR.out

end Go.Proofs.Ytnejbggbkjgfeaa
