/-
  Several texts in one: Fv, RowFnViews.
-/
import Derived.Test.YtepkicgnhjaokaaDoorGTx
import Derived.Test.YtepkicgnhjaokaaDoorFvp
import Derived.Test.YtepkicgnhjaokaaDoorGVwA
import Derived.Lib.SlBytesConst
import Derived.Test.YtepkicgnhjaokaaDoorGRow
namespace Go.Proofs.YtepkicgnhjaokaaDoor
open Go.RowKit Go.Maps

theorem treeOkS_v {w : World} {t : Tt} {b : Bool} (h : Tx w t) (hc : t.es.length ≤ t.c) (ho : treeB t.vec t.es = b) : Calls Tryd.prog 21 #[.agg #[.slice t.AV t.vec.length t.cv, .slice t.A t.es.length t.c]] w fun e w' => e = .returned (.bool b) ∧ Below w.heap.size w w' := by
  have hP := specTreeOk_any t.AV t.vec t.cv t.A t.es t.c w h.v h.e h.lv h.le h.lb hc
  rw [ho] at hP
  exact hP
theorem view_no {w : World} {t : Tt} (h : Tx w t) (htab : Lib.TabIs Tryd.prog w "internal/strconv.uint64pow10" .u64 Lib.pow10Tab) (ho : treeB t.vec t.es = false) : Calls Tryd.prog 20 #[.agg #[.slice t.AV t.vec.length t.cv, .slice t.A t.es.length t.c]] w fun e w' => (∃ A c, e = .returned (.slice A 0 c)) ∧ Below w.heap.size w w' := by
  refine (implView_any t.AV t.vec t.cv t.A t.es t.c w h.v h.e h.lv h.le h.lb htab).mono ?_
  rintro e w' ⟨A, c, rfl, _, hb⟩
  unfold vwL
  rw [ho]
  exact ⟨⟨A, c, rfl⟩, hb⟩
theorem view_yes {w : World} {t : Tt} (h : Tx w t) (htab : Lib.TabIs Tryd.prog w "internal/strconv.uint64pow10" .u64 Lib.pow10Tab) (ho : treeB t.vec t.es = true) : Calls Tryd.prog 20 #[.agg #[.slice t.AV t.vec.length t.cv, .slice t.A t.es.length t.c]] w fun e w' => (∃ A c, e = .returned (.slice A t.es.length c) ∧ FsOwn w' 0 w'.heap.size A (vwE t.es)) ∧ Below w.heap.size w w' := by
  refine (implView_any t.AV t.vec t.cv t.A t.es t.c w h.v h.e h.lv h.le h.lb htab).mono ?_
  rintro e w' ⟨A, c, rfl, hf, hb⟩
  unfold vwL at hf ⊢
  rw [ho] at hf ⊢
  simp only [if_true] at hf ⊢
  rw [vwE_len]
  exact ⟨⟨A, c, rfl, hf.mono (Nat.zero_le _) (Nat.le_refl _)⟩, hb⟩
/-- The k-th file's cells. -/
theorem fs_at {w : World} {A : Option Addr} {es : List En} (h : FsOwn w 0 w.heap.size A (vwE es)) (hn : 0 < es.length) : ∃ (R : Nat) (N : Nat → Option Addr) (c : Nat → Nat), A = some ⟨R, 0, none⟩ ∧ R < w.heap.size ∧ ∀ k (hk : k < es.length), w.cell? ⟨R, k * 2, none⟩ = some (.slice (N k) (vwName es k).length (c k)) ∧ w.cell? ⟨R, k * 2 + 1, none⟩ = some (.int .i64 es[k].val) ∧ BytesIn w 0 w.heap.size (N k) (vwName es k) := by
  obtain ⟨R, N, lo, up, c, hA, hlay, hc⟩ := h (by rw [vwE_len]; exact hn)
  refine ⟨R, N, c, hA, hlay.up, fun k hk => ?_⟩
  have hk' : k < (vwE es).length := by rw [vwE_len]; exact hk
  have hx := hc k hk'
  have he : (vwE es)[k] = (vwName es k, es[k].val) := by
    have : (vwE es)[k] = vwF es k := by simp [vwE]
    rw [this]
    unfold vwF
    rw [List.getD_eq_getElem?_getD, List.getElem?_eq_getElem hk]
    rfl
  rw [he] at hx
  have hl := hlay.at_ k hk'
  exact ⟨hx.c0, hx.c1, (hx.nm.bytes.low (Nat.zero_le _)).mono hl.2.1⟩

set_option maxRecDepth 100000 in
set_option maxHeartbeats 4000000 in
theorem fnViews_any (A : Option Addr) (c : Nat) (code : List UInt8) (w : World) (hA : BytesIn w 0 w.heap.size A code) (hn : code.length ≤ 9223372036854775807) (htab : Lib.TabIs Tryd.prog w "internal/strconv.uint64pow10" .u64 Lib.pow10Tab) :
    Calls Tryd.prog 5 #[.slice A code.length c] w fun e w' => e = .returned (.bool true) ∧ Below w.heap.size w w' := by
  have HTab := Lib.hid (Lib.tabBelow_of_tabIs htab)
  have HTb := Lib.hid (fun X (h : Below w.heap.size w X) => HTab.out X h)
  have HC := Lib.hid hA
  clear hA htab HTab
  have kc := fun (w : World) (C : Array Value) (n c : Nat) => Lib.run_convert_bytes_const (P := Tryd.prog) w 22 5 C n c Tryd.underlying22 Tryd.underlying5
  go_enter Tryd.func5, Tryd.ntmps5
  go_wp2_with fail
  have Hbel_1 := Lib.hid (Below.refl w.heap.size w)
  refine (drawView_any A c code w HC.out hn).mono ?_
  rintro e w1 ⟨t, rfl, ht, hb⟩
  have z_2 := hb.size
  have Hbel_3 := Lib.hid (Hbel_1.out.trans (hb.mono (by omega)))
  clear Hbel_1
  have HTt_4 := Lib.hid (ht.tx)
  clear hb
  have HCt := Lib.hid ht.cap
  clear ht HC
  go_upto_region 2 with fail
  obtain ⟨W5_0, hW5_0⟩ : ∃ xW, xW = w1.alloc (.cells #[.slice t.AV t.vec.length t.cv, .slice t.A t.es.length t.c] 34) := ⟨_, rfl⟩
  have hZ5_0 : W5_0.heap.size = w1.heap.size + 1 := by rw [hW5_0]; simp
  have hx0 : Bx W5_0 (w1.heap.size) [.slice t.AV t.vec.length t.cv, .slice t.A t.es.length t.c] := by rw [hW5_0]; exact Bx.new' _ _ _ _ rfl
  have hb0 : Below w1.heap.size w1 W5_0 := by rw [hW5_0]; exact ((Below.refl _ _).alloc (by first | exact Nat.le_refl _ | (simp; done) | (simp; omega)) _)
  have hlt : w1.heap.size + 0 < W5_0.heap.size := by omega
  rw [← hW5_0]
  clear hW5_0 hZ5_0
  have z_6 := hb0.size
  have Hbel_7 := Lib.hid (Hbel_3.out.trans (hb0.mono (by omega)))
  have HTt_8 := Lib.hid (HTt_4.out.below hb0)
  clear Hbel_3 HTt_4
  have Hxt_9 := Lib.hid (hx0)
  clear hb0 hx0
  have hl_10 := hlt
  clear hlt
  cases hta : treeB t.vec t.es with
  | false =>
    have HO := Lib.hid hta
    clear hta
    have qxt_0 := Hxt_9.out 0 (by simp)
    have qxt_1 := Hxt_9.out 1 (by simp)
    have lxt : w1.heap.size < W5_0.heap.size := by omega
    simp only [List.getElem_cons_succ, List.getElem_cons_zero] at qxt_0 qxt_1
    go_wp2_with fail
    refine (view_no HTt_8.out (HTb.out _ Hbel_7.out) HO.out).mono ?_
    rintro e w2 ⟨⟨A9, c9, rfl⟩, hb⟩
    clear qxt_0 qxt_1 lxt
    have z_11 := hb.size
    have Hbel_12 := Lib.hid (Hbel_7.out.trans (hb.mono (by omega)))
    have HTt_13 := Lib.hid (HTt_8.out.below hb)
    have Hxt_14 := Lib.hid (Hxt_9.out.below hb (by omega))
    clear Hbel_7 HTt_8 Hxt_9
    clear hb
    have qxt_0 := Hxt_14.out 0 (by simp)
    have qxt_1 := Hxt_14.out 1 (by simp)
    have lxt : w1.heap.size < w2.heap.size := by omega
    simp only [List.getElem_cons_succ, List.getElem_cons_zero] at qxt_0 qxt_1
    go_wp2_with fail
    refine (treeOkS_v HTt_13.out HCt.out HO.out).mono ?_
    rintro e w3 ⟨rfl, hb⟩
    clear qxt_0 qxt_1 lxt
    have z_15 := hb.size
    have Hbel_16 := Lib.hid (Hbel_12.out.trans (hb.mono (by omega)))
    have HTt_17 := Lib.hid (HTt_13.out.below hb)
    have Hxt_18 := Lib.hid (Hxt_14.out.below hb (by omega))
    clear Hbel_12 HTt_13 Hxt_14
    clear hb
    go_wp2_with fail
    refine (trees_any _ (HTb.out _ Hbel_16.out)).mono ?_
    rintro e wz ⟨rfl, hbz⟩
    have HBz := Lib.hid (Hbel_16.out.trans (hbz.mono (by omega)))
    clear hbz
    go_wp2_with fail
    go_ret
    exact ⟨rfl, HBz.out⟩
  | true =>
    have HO := Lib.hid hta
    clear hta
    have qxt_0 := Hxt_9.out 0 (by simp)
    have qxt_1 := Hxt_9.out 1 (by simp)
    have lxt : w1.heap.size < W5_0.heap.size := by omega
    simp only [List.getElem_cons_succ, List.getElem_cons_zero] at qxt_0 qxt_1
    go_wp2_with fail
    refine (view_yes HTt_8.out (HTb.out _ Hbel_7.out) HO.out).mono ?_
    rintro e w2 ⟨⟨A9, c9, rfl, hfs⟩, hb⟩
    clear qxt_0 qxt_1 lxt
    have z_19 := hb.size
    have Hbel_20 := Lib.hid (Hbel_7.out.trans (hb.mono (by omega)))
    have HTt_21 := Lib.hid (HTt_8.out.below hb)
    have Hxt_22 := Lib.hid (Hxt_9.out.below hb (by omega))
    clear Hbel_7 HTt_8 Hxt_9
    clear hb
    have HFs := Lib.hid hfs
    clear hfs
    have qxt_0 := Hxt_22.out 0 (by simp)
    have qxt_1 := Hxt_22.out 1 (by simp)
    have lxt : w1.heap.size < w2.heap.size := by omega
    simp only [List.getElem_cons_succ, List.getElem_cons_zero] at qxt_0 qxt_1
    go_wp2_with fail
    refine (treeOkS_v HTt_21.out HCt.out HO.out).mono ?_
    rintro e w3 ⟨rfl, hb3⟩
    clear qxt_0 qxt_1 lxt
    have z_23 := hb3.size
    have Hbel_24 := Lib.hid (Hbel_20.out.trans (hb3.mono (by omega)))
    have HTt_25 := Lib.hid (HTt_21.out.below hb3)
    have Hxt_26 := Lib.hid (Hxt_22.out.below hb3 (by omega))
    clear Hbel_20 HTt_21 Hxt_22
    have H23 := Lib.hid hb3
    clear hb3
    have qxt_0 := Hxt_26.out 0 (by simp)
    have qxt_1 := Hxt_26.out 1 (by simp)
    have lxt : w1.heap.size < w3.heap.size := by omega
    simp only [List.getElem_cons_succ, List.getElem_cons_zero] at qxt_0 qxt_1
    obtain ⟨n, hn9⟩ : ∃ n, n = t.es.length := ⟨_, rfl⟩
    have HN := Lib.hid hn9
    have hnb : n ≤ 1048576 := by rw [hn9]; exact (HTt_25.out).le
    rw [← hn9] at qxt_1 ⊢
    clear hn9
    go_wp2_with fail
    go_loopw [5] (fun i wr => ∃ k : Nat, k ≤ n ∧ i = .int .i64 k ∧ Below w3.heap.size w3 wr) (fun i _ => n - (intOf i).toNat)
    case atStart => exact ⟨0, Nat.zero_le _, rfl, Below.refl _ _⟩
    case round =>
      obtain ⟨k, hk, rfl, hbr⟩ := hrel
      obtain ⟨wo, rfl⟩ : ∃ X : World, X = wr := ⟨_, rfl⟩
      have HBr := Lib.hid hbr
      clear hbr qxt_0 qxt_1
      by_cases hlt : k < n
      · obtain ⟨R, N, cc, rfl, hR, hcell⟩ := fs_at HFs.out (by rw [← HN.out]; omega)
        have HCe := Lib.hid hcell
        have hltI : (k : Int) < (n : Int) := by omega
        clear hcell
        go_wp2_with fail
        go_loopw [6] (fun j wq => ∃ m : Nat, m ≤ k ∧ j = .int .i64 m ∧ Below w3.heap.size w3 wq) (fun j _ => k - (intOf j).toNat)
        case atStart => exact ⟨0, Nat.zero_le _, rfl, HBr.out⟩
        case round =>
          obtain ⟨m, hm, rfl, hbq⟩ := hrel
          obtain ⟨wq, rfl⟩ : ∃ X : World, X = wr := ⟨_, rfl⟩
          have hzq := hbq.size
          have HB2 := Lib.hid (H23.out.trans (hbq.mono H23.out.size))
          have HBq := Lib.hid hbq
          clear hbq
          obtain ⟨k0, k1, kb⟩ := HCe.out k (by rw [← HN.out]; exact hlt)
          have hkq := HB2.out.cell (p := ⟨R, k * 2, none⟩) hR
          have hkq1 := HB2.out.cell (p := ⟨R, k * 2 + 1, none⟩) hR
          replace k0 := hkq.trans k0
          replace k1 := hkq1.trans k1
          clear hkq hkq1
          by_cases hlt2 : m < k
          · obtain ⟨m0, _, mb⟩ := HCe.out m (by rw [← HN.out]; omega)
            replace m0 := (HB2.out.cell (p := ⟨R, m * 2, none⟩) hR).trans m0
            have hne := vw_own HO.out hlt2 (by rw [← HN.out]; exact hlt)
            obtain ⟨nk, hnk⟩ : ∃ x, x = vwName t.es k := ⟨_, rfl⟩
            obtain ⟨nm, hnm⟩ : ∃ x, x = vwName t.es m := ⟨_, rfl⟩
            rw [← hnk] at k0 kb hne
            rw [← hnm] at m0 mb hne
            have HS := Lib.hid (fun y : Kp wq => show Calls Tryd.prog 22 #[.slice (N k) nk.length (cc k), .slice (N m) nm.length (cc m)] y.val (fun e w' => e = .returned (.bool false) ∧ Below y.val.heap.size y.val w') from
              (sameN_any nk nm (N k) (N m) (cc k) (cc m) 0 0 w2.heap.size w2.heap.size y.val (kb.keep fun p _ hp => (y.ok.cell (by have := HB2.out.size; omega)).trans (HB2.out.cell hp)) (mb.keep fun p _ hp => (y.ok.cell (by have := HB2.out.size; omega)).trans (HB2.out.cell hp))).mono fun _ _ ⟨h1, h2⟩ => ⟨by rw [h1, decide_eq_false hne], h2⟩)
            have y0 : ∀ y : Kp wq, y.val.cell? ⟨R, k * 2, none⟩ = some (.slice (N k) nk.length (cc k)) := fun y => y.cell k0
            have y1 : ∀ y : Kp wq, y.val.cell? ⟨R, m * 2, none⟩ = some (.slice (N m) nm.length (cc m)) := fun y => y.cell m0
            have hlt2I : (m : Int) < (k : Int) := by omega
            have hltmI : (m : Int) < (n : Int) := by omega
            clear hnk hnm hne k0 k1 kb m0 mb
            go_upto_region 13 with fail
            refine wp_region_kept (by kernel_rfl) (by kernel_rfl) ?_
            repeat (go_big_quiet_step ((go_at_call 22; refine kept_of (v := .bool false) (HS.out _))))
            refine wpQuiet_nil ?_
            rintro _ ⟨y, rfl⟩
            have HB6 := Lib.hid (HBq.out.trans (y.ok.mono (by omega)))
            clear y0 y1 HS
            go_wp2_with fail
            go_roundw
            case rel => exact ⟨m + 1, by omega, by go_num, HB6.out⟩
            case measure => simp [intOf]; omega
          · obtain ⟨bt, ot, hAt, _, hbt, hct⟩ := (HTt_25.out).e (by rw [← HN.out]; omega)
            have u1 := (HBq.out.cell (p := ⟨w1.heap.size, 1, none⟩) (by show w1.heap.size < _; omega)).trans (Hxt_26.out 1 (by simp))
            simp only [List.getElem_cons_succ, List.getElem_cons_zero] at u1
            rw [hAt, ← HN.out] at u1
            obtain ⟨NA, cA, e0, e1, e2, e3, eb⟩ := (hct k (by rw [← HN.out]; exact hlt)).keep (Nat.zero_le _) hbt (fun p _ hp => HBq.out.cell hp)
            have lbt : bt < wq.heap.size := by omega
            have lR : R < wq.heap.size := by have := HB2.out.size; omega
            have lxt : w1.heap.size < wq.heap.size := by omega
            have v1 : ∀ y : Kp wq, y.val.cell? ⟨w1.heap.size, 1, none⟩ = some (.slice (some ⟨bt, ot, none⟩) n t.c) := fun y => y.cell u1
            obtain ⟨va, hva⟩ : ∃ x, x = (t.es[k]'(by rw [← HN.out]; exact hlt)).val := ⟨_, rfl⟩
            rw [← hva] at k1 e1
            have v2 : ∀ y : Kp wq, y.val.cell? ⟨R, k * 2 + 1, none⟩ = some (.int .i64 va) := fun y => y.cell k1
            have v3 : ∀ y : Kp wq, y.val.cell? ⟨bt, ot + k * 4 + 1, none⟩ = some (.int .i64 va) := fun y => y.cell e1
            have hvv : (va != va) = false := by simp
            clear u1 k0 k1 kb e1 e2 hva
            by_cases hk0 : k = 0
            · subst hk0
              clear e0 e3 eb hct
              go_upto_region 15 with fail
              refine wp_region_kept (by kernel_rfl) (by kernel_rfl) ?_
              repeat (go_big_quiet_step (fail))
              refine wpQuiet_nil ?_
              rintro _ ⟨y, rfl⟩
              have HB6 := Lib.hid (HBq.out.trans (y.ok.mono (by omega)))
              clear v1 v2 v3
              go_wp2_with fail
              go_roundw
              case rel => exact ⟨1, by omega, by go_num, HB6.out⟩
              case measure => simp [intOf]; omega
            · obtain ⟨k', rfl⟩ : ∃ k', k = k' + 1 := ⟨k - 1, by omega⟩
              have hkl : k' + 1 < t.es.length := by rw [← HN.out]; exact hlt
              obtain ⟨NB, cB, d0, d1, d2, d3, db⟩ := (hct k' (by omega)).keep (Nat.zero_le _) hbt (fun p _ hp => HBq.out.cell hp)
              have hlate := vw_late HO.out hkl
              obtain ⟨ea, hea⟩ : ∃ x, x = t.es[k'] := ⟨_, rfl⟩
              obtain ⟨eb2, heb⟩ : ∃ x, x = t.es[k' + 1] := ⟨_, rfl⟩
              rw [← hea] at d0 d3 db hlate
              rw [← heb] at e0 e3 eb hlate
              have HLate := Lib.hid hlate
              have hk1 : (0 : Int) < (k' : Int) + 1 := by omega
              have hk2 : (k' : Int) < (n : Int) := by omega
              have hk4 : (k' : Int) + 1 < (n : Int) := by omega
              have x0 : ∀ y : Kp wq, y.val.cell? ⟨bt, ot + k' * 4, none⟩ = some (.slice NB ea.name.length cB) := fun y => y.cell d0
              have x1 : ∀ y : Kp wq, y.val.cell? ⟨bt, ot + (k' + 1) * 4, none⟩ = some (.slice NA eb2.name.length cA) := fun y => y.cell e0
              have x2 : ∀ y : Kp wq, y.val.cell? ⟨bt, ot + k' * 4 + 3, none⟩ = some (.int .i64 ea.num) := fun y => y.cell d3
              have x3 : ∀ y : Kp wq, y.val.cell? ⟨bt, ot + (k' + 1) * 4 + 3, none⟩ = some (.int .i64 eb2.num) := fun y => y.cell e3
              have HS0 := Lib.hid (fun y : Kp wq => sameN_any ea.name eb2.name NB NA cB cA 0 0 w3.heap.size w3.heap.size y.val (db.keep fun p _ hp => y.ok.cell (by omega)) (eb.keep fun p _ hp => y.ok.cell (by omega)))
              clear d0 d1 d2 d3 db e0 e3 eb hct hea heb hlate
              cases hnn : decide (ea.name = eb2.name) with
              | true =>
                have hnl : ¬ ea.num < eb2.num := HLate.out (of_decide_eq_true hnn)
                have hnd : decide (ea.num < eb2.num) = false := decide_eq_false hnl
                have HS := Lib.hid (fun y : Kp wq => show Calls Tryd.prog 22 #[.slice NB ea.name.length cB, .slice NA eb2.name.length cA] y.val (fun e w' => e = .returned (.bool true) ∧ Below y.val.heap.size y.val w') from (HS0.out y).mono fun _ _ ⟨h1, h2⟩ => ⟨by rw [h1, hnn], h2⟩)
                clear HS0 hnn
                go_upto_region 15 with fail
                refine wp_region_kept (by kernel_rfl) (by kernel_rfl) ?_
                repeat (go_big_quiet_step ((go_at_call 22; refine kept_of (v := .bool true) (HS.out _))))
                refine wpQuiet_nil ?_
                rintro _ ⟨y, rfl⟩
                have HB6 := Lib.hid (HBq.out.trans (y.ok.mono (by omega)))
                clear v1 v2 v3 x0 x1 x2 x3 HS
                go_wp2_with fail
                go_roundw
                case rel => exact ⟨k' + 1 + 1, by omega, by go_num, HB6.out⟩
                case measure => simp [intOf]; omega
              | false =>
                have HS := Lib.hid (fun y : Kp wq => show Calls Tryd.prog 22 #[.slice NB ea.name.length cB, .slice NA eb2.name.length cA] y.val (fun e w' => e = .returned (.bool false) ∧ Below y.val.heap.size y.val w') from (HS0.out y).mono fun _ _ ⟨h1, h2⟩ => ⟨by rw [h1, hnn], h2⟩)
                clear HS0 hnn
                go_upto_region 15 with fail
                refine wp_region_kept (by kernel_rfl) (by kernel_rfl) ?_
                repeat (go_big_quiet_step ((go_at_call 22; refine kept_of (v := .bool false) (HS.out _))))
                refine wpQuiet_nil ?_
                rintro _ ⟨y, rfl⟩
                have HB6 := Lib.hid (HBq.out.trans (y.ok.mono (by omega)))
                clear v1 v2 v3 x0 x1 x2 x3 HS
                go_wp2_with fail
                go_roundw
                case rel => exact ⟨k' + 1 + 1, by omega, by go_num, HB6.out⟩
                case measure => simp [intOf]; omega
      · have HBz := Lib.hid ((Hbel_24.out).trans (HBr.out.mono (by omega)))
        go_wp2_with fail
        refine (trees_any _ (HTb.out _ HBz.out)).mono ?_
        rintro e wz ⟨rfl, hbz⟩
        have HBf := Lib.hid (HBz.out.trans (hbz.mono (by have := HBr.out.size; omega)))
        clear hbz
        go_wp2_with fail
        go_ret
        exact ⟨rfl, HBf.out⟩

end Go.Proofs.YtepkicgnhjaokaaDoor

namespace Go.Proofs.YtepkicgnhjaokaaDoor
open Go.ChangeShapes Go.WideShapes Go.ChangeAt Go.RowKit

theorem Tryd.ownFnViews : ownKnob Tryd.prog.godebug = none := by kernel_rfl

set_option maxRecDepth 100000 in
theorem fnViews_lifted (os : Os) (started : os.Started) (H : Type) (enc : TypeId × Value → H) :
    ReturnsInHanded {} Tryd.checked os 5 .any (fun w args => (Rows.fnViewsSpec.pre enc Tryd.prog Tryd.f5 [] false w args ∧ laidMetH Tryd.prog laid3 w) ∧ sizedMet enc Tryd.prog Tryd.f5 (OpenSpec.ofChange Rows.fnViewsSpec) false w args)
      (Rows.fnViewsSpec.post enc Tryd.prog Tryd.f5 false true false false) := by
  refine returnsInHanded_of_change_and (C := Tryd.checked) (X := fun w _ => laidMetH Tryd.prog laid3 w) (fun _ _ _ hh h => h.of_heap hh) Tryd.ownFnViews started (by kernel_rfl) Tryd.func5
    (ChangeSpec.witness_shaped (enc := enc) (C := Tryd.checked) (os := os) (X := fun w _ => laidMetH Tryd.prog laid3 w) false (World.doorLaid Tryd.prog 24 os) #[.slice none 0 0] 8 rfl (World.shaped_of_RefB (by kernel_rfl) (by kernel_rfl)) (by kernel_rfl) (by kernel_rfl) (by kernel_rfl) (door_met os _)) ?_
  intro W base args ds gs before hval0 hW _ _ hL _
  have hval : ∀ (j : Nat) t v, Tryd.f5.params[j]? = some t → args[j]? = some v → Value.okWide Tryd.prog W .any base t v := hval0
  have hW' := hW
  obtain ⟨p, q, hA0, hV, rfl, _, _⟩ := hW
  have hA : DataW.TrodAll enc Tryd.prog W 0 (fun _ => true) true Tryd.f5.params.toList args.toList ds p := hA0
  rw [Tryd.params5] at hA hval
  obtain ⟨v0, d0, rfl, rfl, h0⟩ := trodAll_one hA
  obtain ⟨rfl, rfl⟩ := trodVars_none hV
  have h0k := h0
  obtain ⟨A, l, c, rfl, hlen, hts⟩ := open_byteS (hval 0 22 v0 rfl rfl) h0
  clear hA0 hval0
  have htab := pow10_of_laid hL
  simp only [List.append_nil] at hW'
  have hlt : ∀ x ∈ p, x.block < W.heap.size := fun x hx => by simpa using hW'.lt x (by simp [hx])
  refine (fnViews_any A c l W hts hlen htab).mono fun e W' ⟨he, hb⟩ => ?_
  subst he
  exact ⟨_, rfl, _, _, _, [], p, [], hW', trodAll_mk1 (shut_bool Tryd.underlying4 _), trodAll_mk1 (Below.trod Tryd.laidOut (by kernel_rfl) (of_decide_eq_true (by kernel_rfl)) h0k hb hlt), rfl, hb.frame _, fun h => by cases h⟩

theorem fnViews_holds : Rows.FnViewsSaid :=
  OpenClaim.holds_of_wide 5 Tryd.f5 rfl rfl rfl rfl rfl rfl rfl ⟨rfl, rfl, rfl, rfl, rfl⟩ rfl rfl rfl rfl rfl (by kernel_rfl) Tryd.func5 (by kernel_rfl)
    (of_decide_eq_true (by kernel_rfl)) (by unfold Func.isWrapper; first | (rw [if_pos (by decide +kernel)]; kernel_rfl) | (rw [if_neg (by decide +kernel)]; exact ⟨rfl, rfl⟩))
    (fun os started H enc _ => fnViews_lifted os started H enc)

end Go.Proofs.YtepkicgnhjaokaaDoor
