/-
  The model's copy of a ledger: a row of its own, and texts of their own.
-/
import Derived.Test.YtkmoihkpaccbdaaDoorCopyL
namespace Go.Proofs.YtkmoihkpaccbdaaDoor
open Go.RowKit Go.Maps

set_option maxRecDepth 100000 in
set_option maxHeartbeats 2000000 in
theorem l1own_any (R B : Nat) (ts : List Tm) (c : Nat) (w : World) (hA : CopyIn w R B ts) (hN : NoNil w R ts) (hR : R < B) (hB : B ≤ w.heap.size) (hn : ts.length ≤ 1048576) (hbk : bulk ts ≤ 1048576) :
    Calls Tryd.prog 68 #[.agg #[.slice (some ⟨R, 0, none⟩) ts.length c]] w (NewLed ts w) := by
  have HA := Lib.hid hA
  have HN := Lib.hid hN
  clear hA hN
  go_enter Tryd.func68, Tryd.ntmps68
  go_wp2_with fail
  obtain ⟨W0, hW0⟩ : ∃ W0, W0 = ((w.alloc (.cells #[.slice (some ⟨R, 0, none⟩) ts.length c] 25)).alloc (.cells #[.slice none 0 0] 25)).alloc (.cells #[.slice none 0 0] 25) := ⟨_, rfl⟩
  have hb0 : Below w.heap.size w W0 := by subst hW0; exact (((Below.refl _ _).alloc (Nat.le_refl _) _).alloc (by simp) _).alloc (by simp; omega) _
  have q0 : W0.cell? ⟨w.heap.size, 0, none⟩ = some (.slice (some ⟨R, 0, none⟩) ts.length c) := by subst hW0; simp [go_sem]
  have r0 : W0.cell? ⟨w.heap.size + 1, 0, none⟩ = some (.slice none 0 0) := by subst hW0; simp [go_sem]
  have rf : W0.frozen? ⟨w.heap.size + 1, 0, none⟩ = false := by subst hW0; simp [go_sem]
  have s0 : W0.cell? ⟨w.heap.size + 2, 0, none⟩ = some (.slice none 0 0) := by subst hW0; simp [go_sem]
  have sf : W0.frozen? ⟨w.heap.size + 2, 0, none⟩ = false := by subst hW0; simp [go_sem]
  have hs0 : W0.heap.size = w.heap.size + 3 := by subst hW0; simp [go_sem]
  rw [← hW0]
  have HB0 := Lib.hid hb0
  clear hb0 hW0
  go_loopw [4] (fun i wr => ∃ (k : Nat) (us : List Tx) (A' : Option Addr) (c' : Nat), k ≤ ts.length ∧ i = .int .i64 k ∧ wr.cell? ⟨w.heap.size + 2, 0, none⟩ = some (.slice A' k c') ∧ wr.frozen? ⟨w.heap.size + 2, 0, none⟩ = false ∧ wr.cell? ⟨w.heap.size, 0, none⟩ = some (.slice (some ⟨R, 0, none⟩) ts.length c) ∧ wr.cell? ⟨w.heap.size + 1, 0, none⟩ = some (.slice none 0 0) ∧ wr.frozen? ⟨w.heap.size + 1, 0, none⟩ = false ∧ us.map (·.t) = ts.take k ∧ (∀ x ∈ us, x.t.text.length ≤ x.c ∧ x.c ≤ maxLen) ∧ wr.ownsRow (w.heap.size + 3) 71 4 (.slice A' k c') k (rowT us) ∧ TxChain wr (w.heap.size + 3) us wr.heap.size ∧ Below w.heap.size w wr ∧ w.heap.size + 3 ≤ wr.heap.size) (fun i _ => ts.length - (intOf i).toNat)
  case atStart => exact ⟨0, [], none, 0, Nat.zero_le _, rfl, s0, sf, q0, r0, rf, by simp, by simp, World.ownsRow_nil _ _ _ _, by simp [TxChain, hs0], HB0.out, by omega⟩
  case round =>
    obtain ⟨k, us, A', c', hk, rfl, co, cf, cl, cr, crf, hus, hbd, hown, hch, hbel, hzr⟩ := hrel
    have HUs := Lib.hid hus
    have HBd := Lib.hid hbd
    have HOwn := Lib.hid hown
    have HCh := Lib.hid hch
    have HBel := Lib.hid hbel
    clear hus hbd hown hch hbel q0 r0 rf s0 sf hs0
    by_cases hlt : k < ts.length
    · obtain ⟨A2, c2, x0, x1, x2, x3, _, _, hby⟩ := (HA.out.keep (w' := wr) (fun p _ hp => HBel.out.cell (by omega)) hR) k hlt
      obtain ⟨g, hg⟩ := HN.out k hlt
      have hg2 := (HBel.out.cell (p := ⟨R, k * 4 + 3, none⟩) (by show R < _; omega)).trans hg
      rw [x3] at hg2
      simp only [Option.some.injEq, Value.slice.injEq] at hg2
      obtain ⟨rfl, _, rfl⟩ := hg2
      have hle := text_le_bulk ts k hlt
      have HY := Lib.hid hby
      obtain ⟨i0, hi0, hz0, hz1b, hz2⟩ := info_parts Tryd.info5
      obtain ⟨W4, hW4⟩ : ∃ W4, W4 = (wr.alloc (.cells #[.int .i64 ts[k].kind, .int .i64 ts[k].a, .int .i64 ts[k].b, .slice (some ⟨g, 0, none⟩) ts[k].text.length ts[k].text.length] 71)).alloc (.cells #[] 5) := ⟨_, rfl⟩
      have hb4 : Below wr.heap.size wr W4 := by subst hW4; exact ((Below.refl _ _).alloc (Nat.le_refl _) _).alloc (by simp) _
      have hE : W4.heap[wr.heap.size + 1]? = some (.cells #[] 5 (0, 0)) := by
        subst hW4
        have := heap_alloc_new (wr.alloc (.cells #[.int .i64 ts[k].kind, .int .i64 ts[k].a, .int .i64 ts[k].b, .slice (some ⟨g, 0, none⟩) ts[k].text.length ts[k].text.length] 71)) (.cells #[] 5)
        simpa using this
      have k0 : W4.cell? ⟨wr.heap.size, 0, none⟩ = some (.int .i64 ts[k].kind) := by subst hW4; simp
      have k1 : W4.cell? ⟨wr.heap.size, 1, none⟩ = some (.int .i64 ts[k].a) := by subst hW4; simp
      have k2 : W4.cell? ⟨wr.heap.size, 2, none⟩ = some (.int .i64 ts[k].b) := by subst hW4; simp
      have k3 : W4.cell? ⟨wr.heap.size, 3, none⟩ = some (.slice (some ⟨g, 0, none⟩) ts[k].text.length ts[k].text.length) := by subst hW4; simp
      have kf : W4.frozen? ⟨wr.heap.size, 3, none⟩ = false := by subst hW4; simp
      have hs4 : W4.heap.size = wr.heap.size + 1 + 1 := by subst hW4; simp
      have HOwnE := Lib.hid (owns_empty (base := wr.heap.size + 1) (Nat.le_refl _) hE)
      have HSrc := Lib.hid (show BytesIn W4 (R + 1) B (some ⟨g, 0, none⟩) ts[k].text from HY.out.keep fun p _ hp => hb4.cell (by have := HBel.out.size; omega))
      have HB4 := Lib.hid hb4
      have HK := Lib.hid (And.intro k0 (And.intro k1 (And.intro k2 (And.intro k3 kf))))
      have HS4 := Lib.hid hs4
      have HC := Lib.hid (And.intro co (And.intro cf (And.intro cl (And.intro cr crf))))
      clear hby hg hE hb4 k0 k1 k2 k3 kf hs4
      subst hW4
      go_wp2_with (at_builtin; refine wpList_append_own _ rfl _ _ 22 rfl (wr.heap.size + 1) 5 i0 (.int .u8 0) 1 1 Tryd.underlying22 hi0 hz0 hz1b hz2 rfl (by decide) _ _ _ rfl HOwnE.out ⟨g, 0, none⟩ ts[k].text.length ts[k].text.length (vbytes ts[k].text) rfl ?c0 ?c1 ?c2 ?c3 ?c4 ?c5 ?_)
      case c0 => first | (rw [vbytes_length]; omega) | simp [vbytes_length]
      case c1 => exact vbytes_at HSrc.out
      try case c2 => exact vbytes_one _
      try case c3 => first | omega | (unfold maxLen; omega)
      try case c4 => omega
      try case c5 => first | omega | (simp; done) | (simp; omega)
      intro v' w5 hrow5 hgr5 _
      try simp only [Nat.zero_add, List.nil_append] at hrow5
      obtain ⟨A5, c5, rfl⟩ := row_shape hrow5
      obtain ⟨hrb1, hrb2⟩ := row_bounds hrow5
      have hb5 : Below (wr.heap.size + 1) _ w5 := ⟨hgr5.os, hgr5.tape, hgr5.output, hgr5.size, fun b hb => hgr5.block b (by have := HS4.out; omega) (by simp [Value.ownBlock]; omega)⟩
      obtain ⟨k0, k1, k2, k3, kf⟩ := HK.out
      have m0 := (hb5.cell (p := ⟨wr.heap.size, 0, none⟩) (by show wr.heap.size < _; omega)).trans k0
      have m1 := (hb5.cell (p := ⟨wr.heap.size, 1, none⟩) (by show wr.heap.size < _; omega)).trans k1
      have m2 := (hb5.cell (p := ⟨wr.heap.size, 2, none⟩) (by show wr.heap.size < _; omega)).trans k2
      have m3 := (hb5.cell (p := ⟨wr.heap.size, 3, none⟩) (by show wr.heap.size < _; omega)).trans k3
      have mf := (hb5.frozen (p := ⟨wr.heap.size, 3, none⟩) (by show wr.heap.size < _; omega)).trans kf
      have hb05 := HB4.out.trans (hb5.mono (by omega))
      have hz5 : wr.heap.size + 2 ≤ w5.heap.size := by have := hb5.size; have := HS4.out; omega
      obtain ⟨co, cf, cl, cr, crf⟩ := HC.out
      have co5 := (hb05.cell (p := ⟨w.heap.size + 2, 0, none⟩) (by show w.heap.size + 2 < _; omega)).trans co
      have cf5 := (hb05.frozen (p := ⟨w.heap.size + 2, 0, none⟩) (by show w.heap.size + 2 < _; omega)).trans cf
      have hTx := tx_of_row hrow5
      have HTx := Lib.hid hTx
      have HB05 := Lib.hid hb05
      clear k0 k1 k2 k3 kf hrow5 hgr5 hb5 hb05 hTx x0 x1 x2 x3 co cf cl cr crf i0 hi0 hz0 hz1b hz2
      have hne : (⟨wr.heap.size, 3, none⟩ : Addr) ≠ ⟨w.heap.size + 2, 0, none⟩ := by simp
      have co5s : (w5.setCell ⟨wr.heap.size, 3, none⟩ (.slice A5 ts[k].text.length c5)).cell? ⟨w.heap.size + 2, 0, none⟩ = some (.slice A' k c') := (World.cell?_setCell_other _ _ _ _ hne).trans co5
      obtain ⟨W7, hW7⟩ : ∃ W7, W7 = (w5.setCell ⟨wr.heap.size, 3, none⟩ (.slice A5 ts[k].text.length c5)).alloc (.cells #[.int .i64 ts[k].kind, .int .i64 ts[k].a, .int .i64 ts[k].b, .slice A5 ts[k].text.length c5] 71) := ⟨_, rfl⟩
      have hb57 : Below wr.heap.size w5 W7 := by subst hW7; exact ((Below.refl _ _).setCell (by show wr.heap.size ≤ wr.heap.size; omega) _).alloc (by simp; omega) _
      have hs7 : W7.heap.size = w5.heap.size + 1 := by subst hW7; simp
      have hb07 := HB05.out.trans hb57
      have HOwn7 := Lib.hid (HOwn.out.kept (grown_of_below hb07) (by cases h : (Value.slice A' k c').ownBlock <;> simp))
      have HCh7 := Lib.hid ((HCh.out.keep (w' := W7) fun b _ hb => hb07.block b hb).snoc (x := ⟨ts[k], A5, c5⟩) (B := W7.heap.size) (by
        refine TxFr.mono (TxFr.low (HTx.out.keep fun b hb hlt => ?_) (by omega)) (by rw [hs7]; omega)
        subst hW7
        rw [heap_alloc_old _ _ (by simpa using hlt), Below.heap_setCell _ _ _ _ (by show b ≠ wr.heap.size; omega)]) (by have := hb07.size; omega))
      have HBel7 := Lib.hid (HBel.out.trans (hb07.mono (by omega)))
      have HB07 := Lib.hid hb07
      have HS7 := Lib.hid hs7
      have HBd2 := Lib.hid (show ∀ x ∈ us ++ [(⟨ts[k], A5, c5⟩ : Tx)], x.t.text.length ≤ x.c ∧ x.c ≤ maxLen from fun x hx => by
        rcases List.mem_append.1 hx with h | h
        · exact HBd.out x h
        · simp only [List.mem_singleton] at h; subst h; exact ⟨hrb1, hrb2⟩)
      obtain ⟨i1, hi1, hy0, hy1, hy2⟩ := info_parts Tryd.info35
      clear hb57 hs7 hb07 hrb1 hrb2
      subst hW7
      go_wp2_with (at_builtin; refine wpList_append_own _ rfl _ _ 23 rfl (w.heap.size + 3) 71 i1 (.agg #[.int .i64 0, .int .i64 0, .int .i64 0, .slice none 0 0]) 4 48 Tryd.underlying23 hi1 hy0 hy1 hy2 rfl (by decide) _ _ _ rfl HOwn7.out ⟨w5.heap.size, 0, none⟩ 1 1 [.int .i64 ts[k].kind, .int .i64 ts[k].a, .int .i64 ts[k].b, .slice A5 ts[k].text.length c5] rfl rfl ?c1 ?c2 ?c3 ?c4 ?c5 ?_)
      case c1 => have h := news4 (w5.setCell ⟨wr.heap.size, 3, none⟩ (.slice A5 ts[k].text.length c5)) (.int .i64 ts[k].kind) (.int .i64 ts[k].a) (.int .i64 ts[k].b) (.slice A5 ts[k].text.length c5) 71; simpa using h
      case c2 => intro u hu; simp at hu; rcases hu with rfl | rfl | rfl | rfl <;> rfl
      case c3 => unfold maxLen; omega
      case c4 => omega
      case c5 => simp; omega
      intro v' w8 hrow8 hgr8 _
      obtain ⟨A8, c8, rfl⟩ := row_shapeN hrow8
      have HCh8 := Lib.hid ((chain_grown HCh7.out HOwn7.out hgr8 (Nat.le_refl _)).mono (B' := w8.heap.size) hgr8.size)
      have hbel8 := HBel7.out.grown hgr8 (by have := HBel7.out.size; omega) (fun g hg => by have := (HOwn7.out.lt g hg).1; omega)
      have hfar : ∀ b, b < w.heap.size + 3 → w8.heap[b]? = wr.heap[b]? := fun b hb =>
        (hgr8.block b (by have := HS7.out; omega) (fun e => by have := (HOwn7.out.lt b e.symm).1; omega)).trans (HB07.out.block b (by omega))
      obtain ⟨co, cf, cl, cr, crf⟩ := HC.out
      have n0 : w8.cell? ⟨w.heap.size + 2, 0, none⟩ = _ := (World.cell?_of_block (hfar (w.heap.size + 2) (by omega))).trans co
      have n1 : w8.frozen? ⟨w.heap.size + 2, 0, none⟩ = _ := (World.frozen?_of_block (hfar (w.heap.size + 2) (by omega))).trans cf
      have n2 : w8.cell? ⟨w.heap.size, 0, none⟩ = _ := (World.cell?_of_block (hfar w.heap.size (by omega))).trans cl
      have n3 : w8.cell? ⟨w.heap.size + 1, 0, none⟩ = _ := (World.cell?_of_block (hfar (w.heap.size + 1) (by omega))).trans cr
      have n4 : w8.frozen? ⟨w.heap.size + 1, 0, none⟩ = _ := (World.frozen?_of_block (hfar (w.heap.size + 1) (by omega))).trans crf
      have HRow8 := Lib.hid hrow8
      have HBel8 := Lib.hid hbel8
      have hz8 : w.heap.size + 3 ≤ w8.heap.size := by have := hgr8.size; have := HS7.out; omega
      have HN := Lib.hid (And.intro n2 (And.intro n3 n4))
      clear co cf cl cr crf hfar hrow8 hgr8 hbel8 n2 n3 n4
      go_wp2_with fail
      go_roundw
      case rel =>
        obtain ⟨n2, n3, n4⟩ := HN.out
        refine ⟨k + 1, us ++ [⟨ts[k], A5, c5⟩], A8, c8, by omega, by go_num, ?cs, by simpa using n1, ?_, ?_, ?_, ?_, HBd2.out, ?_, ?_, ?_, by simpa using hz8⟩
        case cs => first | (simp [go_sem, n0]; done) | (rw [World.cell?_setCell_same]; simp [n0])
        · exact (World.cell?_setCell_other _ _ _ _ (by simp)).trans n2
        · exact (World.cell?_setCell_other _ _ _ _ (by simp)).trans n3
        · simpa using n4
        · rw [List.map_append, HUs.out, List.take_succ_eq_append_getElem hlt]
          rfl
        · rw [rowT_snoc]
          exact ownsRow_setCell_below HRow8.out (by show w.heap.size + 2 < _; omega) _
        · refine TxChain.mono (HCh8.out.keep fun b hb _ => Below.heap_setCell _ _ _ _ (by show b ≠ w.heap.size + 2; omega)) (by simp)
        · exact HBel8.out.setCell (by show w.heap.size ≤ w.heap.size + 2; omega) _
      case measure => simp [intOf]; omega
    · have hke : k = ts.length := by omega
      have hul : us.length = ts.length := by
        have h := congrArg List.length HUs.out
        rw [List.length_map, List.length_take] at h
        omega
      have HFin := Lib.hid (show us.map (·.t) = ts by rw [HUs.out, hke, List.take_length])
      subst hke
      go_wp2_with fail
      refine bodyPost_ret (v := .agg #[.slice A' ts.length c']) (by simp [results, Tryd.results68, go_sem, *]) rfl ?_
      refine ⟨us, A', c', rfl, HFin.out, HBd.out, ⟨?_, ?_⟩, ?_⟩
      · rw [hul]
        exact ownsRow_low (ownsRow_setCell_below HOwn.out (by show w.heap.size + 1 < _; omega) _) (by omega)
      · refine TxChain.mono (TxChain.low (HCh.out.keep fun b hb _ => Below.heap_setCell _ _ _ _ (by show b ≠ w.heap.size + 1; omega)) (by omega)) (by simp)
      · exact HBel.out.setCell (by show w.heap.size ≤ w.heap.size + 1; omega) _

end Go.Proofs.YtkmoihkpaccbdaaDoor
