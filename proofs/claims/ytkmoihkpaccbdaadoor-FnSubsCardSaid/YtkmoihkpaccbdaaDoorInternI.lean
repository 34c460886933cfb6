/-
  The program's Intern.
-/
import Derived.Test.YtkmoihkpaccbdaaDoorInternS
import Derived.Deep.RegionLaw
namespace Go.Proofs.YtkmoihkpaccbdaaDoor
open Go.RowKit Go.Maps

theorem grown_set (w : World) (o : Nat) (u : Value) : w.grownBy (w.setCell ⟨o, 0, none⟩ u) (some o) :=
  have h : Below 0 w (w.setCell ⟨o, 0, none⟩ u) := (Below.refl _ _).setCell (Nat.zero_le _) u
  ⟨h.os, h.tape, h.output, h.size, fun k _ hne => Below.heap_setCell _ _ _ _ (fun e => hne (by rw [e]))⟩

theorem own_far {w : World} {base : Nat} {e t : TypeId} {size n o : Nat} {v : Value} {xs : List Value} {cs : Array Value} (h : w.ownsRow base e size v n xs) (ho : w.heap[o]? = some (.cells cs t (0, 0))) (hne : t ≠ e) : v.ownBlock ≠ some o := fun hg => by
  obtain ⟨cur, hh⟩ := own_type h hg
  rw [ho] at hh
  injection hh with hh
  injection hh with _ h2
  exact hne h2

theorem TxChain.alloc {w : World} {L B : Nat} {us : List Tx} (h : TxChain w L us B) (hB : B ≤ w.heap.size) (o : Obj) : TxChain (w.alloc o) L us B := h.keep fun b _ hb => heap_alloc_old w o (by omega)
theorem TxChain.drew {w : World} {L B : Nat} {us : List Tx} (h : TxChain w L us B) : TxChain w.drew L us B := h.keep fun _ _ _ => rfl

/-- What stays while the term is put behind the ledger at o. -/
structure Rx (w : World) (o : Nat) (V V' : Value) (W : World) : Prop where
  oc : W.cell? ⟨o, 0, none⟩ = some V
  of : W.frozen? ⟨o, 0, none⟩ = false
  oh : ∃ cs, W.heap[o]? = some (.cells cs 25 (0, 0))
  b : W.cell? ⟨w.heap.size, 0, none⟩ = some V'
  r : W.cell? ⟨w.heap.size + 1 + 1, 0, none⟩ = some (.slice none 0 0)
  rf : W.frozen? ⟨w.heap.size + 1 + 1, 0, none⟩ = false
  bel : Below w.heap.size w W
  sz : o < W.heap.size
  lo : w.heap.size + 1 + 1 < o

section
variable {w W W' : World} {o : Nat} {V V' : Value}
theorem Rx.below (h : Rx w o V V' W) (hb : Below W.heap.size W W') : Rx w o V V' W' := by
  have hs := h.sz
  have hl := h.lo
  obtain ⟨cs, hcs⟩ := h.oh
  exact ⟨(hb.cell (p := ⟨o, 0, none⟩) hs).trans h.oc, (hb.frozen (p := ⟨o, 0, none⟩) hs).trans h.of, ⟨cs, (hb.block o hs).trans hcs⟩,
    (hb.cell (p := ⟨w.heap.size, 0, none⟩) (by show w.heap.size < _; omega)).trans h.b, (hb.cell (p := ⟨w.heap.size + 1 + 1, 0, none⟩) (by show w.heap.size + 1 + 1 < _; omega)).trans h.r,
    (hb.frozen (p := ⟨w.heap.size + 1 + 1, 0, none⟩) (by show w.heap.size + 1 + 1 < _; omega)).trans h.rf, h.bel.trans (hb.mono (by omega)), by have := hb.size; omega, hl⟩
theorem Rx.drew (h : Rx w o V V' W) : Rx w o V V' W.drew := h.below (Below.refl _ _).drew
theorem Rx.alloc (h : Rx w o V V' W) (x : Obj) : Rx w o V V' (W.alloc x) := h.below ((Below.refl _ _).alloc (Nat.le_refl _) x)
theorem Rx.grown {row : Option Nat} (h : Rx w o V V' W) (hg : W.grownBy W' row) (hr : ∀ k, row = some k → w.heap.size + 1 + 1 < k ∧ k ≠ o) : Rx w o V V' W' := by
  have hs := h.sz
  have hl := h.lo
  obtain ⟨cs, hcs⟩ := h.oh
  have ho : some o ≠ row := fun e => (hr o e.symm).2 rfl
  have hb : some w.heap.size ≠ row := fun e => by have := (hr _ e.symm).1; omega
  have h2 : some (w.heap.size + 1 + 1) ≠ row := fun e => by have := (hr _ e.symm).1; omega
  exact ⟨cell_grown_at hg h.oc ho, frozen_grown_at hg hs h.of ho, ⟨cs, heap_grown_at hg hcs ho⟩, cell_grown_at hg h.b hb, cell_grown_at hg h.r h2, frozen_grown_at hg (by show w.heap.size + 1 + 1 < _; omega) h.rf h2,
    h.bel.grown hg (by omega) (fun k hk => by have := (hr k hk).1; omega), by have := hg.size; omega, hl⟩
end

section
variable (R B : Nat) (ts : List Tm) (c : Nat) (t : Tm) (g L' B' : Nat) (w : World)

set_option maxRecDepth 100000 in
set_option maxHeartbeats 8000000 in
theorem implIntern_any (hA : CopyIn w R B ts) (hN : NoNil w R ts) (hR : R < B) (hB : B ≤ w.heap.size) (hn : ts.length ≤ 1048576) (hbk : bulk ts ≤ 1048576)
    (hA' : BytesIn w L' B' (some ⟨g, 0, none⟩) t.text) (hB' : B' ≤ w.heap.size) (htl : t.text.length ≤ 1048576) :
    Calls Tryd.prog 24 #[.agg #[.slice (some ⟨R, 0, none⟩) ts.length c], .agg #[.int .i64 t.kind, .int .i64 t.a, .int .i64 t.b, .slice (some ⟨g, 0, none⟩) t.text.length t.text.length]] w (NewLedI (internL ts t) (internI ts t) w) := by
  have HA := Lib.hid hA
  have HN := Lib.hid hN
  have HA' := Lib.hid hA'
  clear hA hN hA'
  go_enter Tryd.func24, Tryd.ntmps24
  go_wp2_with fail
  obtain ⟨W0, hW0⟩ : ∃ W0, W0 = ((w.alloc (.cells #[.slice (some ⟨R, 0, none⟩) ts.length c] 25)).alloc (.cells #[.int .i64 t.kind, .int .i64 t.a, .int .i64 t.b, .slice (some ⟨g, 0, none⟩) t.text.length t.text.length] 71)).alloc (.cells #[.slice none 0 0] 25) := ⟨_, rfl⟩
  have hu0 := Ux.start w (.slice (some ⟨R, 0, none⟩) ts.length c) (.int .i64 t.kind) (.int .i64 t.a) (.int .i64 t.b) (.slice (some ⟨g, 0, none⟩) t.text.length t.text.length) 25 71
  rw [← hW0] at hu0 ⊢
  have hs0 := hu0.sz
  refine (readBoth_any (some ⟨R, 0, none⟩) (some ⟨g, 0, none⟩) ts t c t.text.length R B L' B' W0 ((HA.out.tms hR).keep fun p _ hp => hu0.bel.cell (by omega)) (by omega) (HA'.out.keep fun p _ hp => hu0.bel.cell (by omega)) (by omega) hn hbk htl).mono ?_
  rintro e w1 (⟨hok, hrd, A1, c1, M, rfl, _, _, hmap, hb1⟩ | ⟨hno, rfl, hb1⟩)
  · obtain ⟨W1, hW1⟩ : ∃ W1, W1 = w1.alloc (.cells #[.slice A1 ts.length c1, .map (some M)] 47) := ⟨_, rfl⟩
    have hu1 := hu0.below hb1 hs0
    have hs1 := hu1.sz
    have hba : Below w1.heap.size w1 W1 := by rw [hW1]; exact (Below.refl _ _).alloc (Nat.le_refl _) _
    have hu2 := hu1.below hba hs1
    have hmap1 : W1.ownsMap (H := Unit) Tryd.prog 89 (plainElem Tryd.prog 3) M ts.length (mapOf ts) := by rw [hW1]; exact hmap.alloc _
    have k0 : W1.cell? ⟨w1.heap.size, 0, none⟩ = some (.slice A1 ts.length c1) := by rw [hW1]; simp
    have k1 : W1.cell? ⟨w1.heap.size, 1, none⟩ = some (.map (some M)) := by rw [hW1]; simp
    have hs2 := hu2.sz
    have HU2 := Lib.hid hu2
    have HMap := Lib.hid hmap1
    have HOk := Lib.hid hok
    have HTb := Lib.hid (show termB ts t = true by simp [termB, lokB_true hok, hrd])
    have HWf := Lib.hid (readB_wf ts t hn hrd)
    have hlen := termB_len HTb.out
    obtain ⟨b_2, t0_2, t1_2, t2_2, t3_2⟩ := hu2.five
    subst hW1
    clear hu0 hW0 hb1 hu1 hba hu2 hmap hmap1 hok hrd
    go_wp2_with fail
    refine (numberOf_any (some ⟨g, 0, none⟩) ts t t.text.length L' B' _ (.slice A1 ts.length c1) M HOk.out HMap.out HWf.out (HA'.out.keep fun p _ hp => HU2.out.bel.cell (by omega)) (by simp; omega)).mono ?_
    rintro e w2 ⟨rfl, hb2⟩
    have hu3 := HU2.out.below hb2 hs2
    have hs3 := hu3.sz
    have HU3 := Lib.hid hu3
    obtain ⟨b_3, t0_3, t1_3, t2_3, t3_3⟩ := hu3.five
    have r_3 := hu3.r
    have rf_3 := hu3.rf
    have HLk := Lib.hid (lookI_range ts t)
    obtain ⟨n, hnn⟩ : ∃ n, n = lookI ts t := ⟨_, rfl⟩
    have HNn := Lib.hid hnn
    rw [← hnn]
    clear hnn hb2 hu3 b_2 t0_2 t1_2 t2_2 t3_2 k0 k1
    have hcopy := copyLedger_any R B ts c w2 (HA.out.keep (fun p _ hp => HU3.out.bel.cell (by omega)) hR) (HN.out.keep fun p hp => HU3.out.bel.cell (by omega)) hR (by omega) hn hbk
    have HCopy := Lib.hid hcopy
    clear hcopy
    by_cases hm : t ∈ ts
    · have hn0 : 0 ≤ n := by
        rcases HLk.out with ⟨_, h⟩ | ⟨h, _, _⟩
        · exact absurd hm h
        · rw [HNn.out]; exact h
      have HM := Lib.hid (intern_old HTb.out hm)
      clear hm hs0
      go_wp2_with fail
      refine HCopy.out.mono ?_
      rintro e w3 ⟨us, A3, c3, rfl, hus, hbd, hled, hb3⟩
      have hul : us.length = ts.length := by rw [← hus, List.length_map]
      have hu4 := HU3.out.below hb3 hs3
      have r_4 := hu4.r
      have rf_4 := hu4.rf
      have hled4 : LedIs (w3.setCell ⟨w.heap.size + 1 + 1, 0, none⟩ (.slice A3 ts.length c3)) w2.heap.size w3.heap.size (.slice A3 us.length c3) us := by
        rw [hul]
        exact hled.set (by show w.heap.size + 1 + 1 < _; omega) _
      have HRes := Lib.hid (show NewLedI ts n w (.returned (.tuple #[.agg #[.slice A3 ts.length c3], .int .i64 n])) (w3.setCell ⟨w.heap.size + 1 + 1, 0, none⟩ (.slice A3 ts.length c3)) from
        ⟨us, A3, c3, rfl, hus, hbd, (hled4.fr (by simp) (Nat.le_refl _)).low (by omega), hu4.bel.setCell (by show w.heap.size ≤ w.heap.size + 1 + 1; omega) _⟩)
      clear hus hbd hled hb3 hul hu4 hled4 b_3 t0_3 t1_3 t2_3 t3_3 r_3 rf_3
      go_wp2_with fail
      refine bodyPost_ret (v := .tuple #[.agg #[.slice A3 ts.length c3], .int .i64 n]) (by simp [results, Tryd.results24, go_sem, *]) rfl ?_
      rw [HM.out.1, HM.out.2, ← HNn.out]
      exact HRes.out
    · have hn1 : n = -1 := by rw [HNn.out]; exact lookI_none hm
      subst hn1
      by_cases hfull : ts.length = 400
      · have HI := Lib.hid (intern_no (internB_full hm (by omega)))
        clear hm HCopy
        go_wp2_with fail
        all_goals refine bodyPost_ret (v := .tuple #[.agg #[.slice none 0 0], .int .i64 (-1)]) (by simp [results, Tryd.results24, go_sem, *]) rfl ?_
        all_goals rw [HI.out.1, HI.out.2]
        all_goals refine none_led (HU3.out.bel.setCell ?_ _)
        all_goals (show w.heap.size ≤ w.heap.size + 1 + 1; omega)
      · have HM := Lib.hid (intern_new HTb.out hm (by omega))
        clear hm hs0
        go_wp2_with fail
        refine HCopy.out.mono ?_
        rintro e w4 ⟨us, A4, c4, rfl, hus, hbd, hled, hb4⟩
        have hul : us.length = ts.length := by rw [← hus, List.length_map]
        have hu4 := HU3.out.below hb4 hs3
        have hs4 := hu4.sz
        obtain ⟨b_4, t0_4, t1_4, t2_4, t3_4⟩ := hu4.five
        have HS34 := Lib.hid hb4.size
        have HUs := Lib.hid hus
        have HBd := Lib.hid hbd
        have HUl := Lib.hid hul
        have HLed := Lib.hid hled
        have HU4 := Lib.hid hu4
        clear hus hbd hled hb4 hul hu4 b_3 t0_3 t1_3 t2_3 t3_3 r_3 rf_3 HCopy
        go_wp2_with fail
        obtain ⟨W5, hW5⟩ : ∃ W5, W5 = w4.alloc (.cells #[.slice A4 ts.length c4] 25) := ⟨_, rfl⟩
        have hb5 : Below w4.heap.size w4 W5 := by rw [hW5]; exact (Below.refl _ _).alloc (Nat.le_refl _) _
        have hu5 := HU4.out.below hb5 hs4
        have hz5 : W5.heap.size = w4.heap.size + 1 := by rw [hW5]; simp
        have P5 : Rx w w4.heap.size (.slice A4 ts.length c4) (.slice (some ⟨R, 0, none⟩) ts.length c) W5 := ⟨by rw [hW5]; simp, by rw [hW5]; simp, ⟨_, by rw [hW5]; exact heap_alloc_new _ _⟩, hu5.b, hu5.r, hu5.rf, hu5.bel, by omega, by omega⟩
        have hled5 := HLed.out.keep hb5 (Nat.le_refl _)
        obtain ⟨b_5, t0_5, t1_5, t2_5, t3_5⟩ := hu5.five
        have o_5 := P5.oc
        have hs34 := HS34.out
        rw [← hW5]
        obtain ⟨i1, hi1, hy0, hy1, hy2⟩ := info_parts Tryd.info35
        have HLed5 := Lib.hid hled5
        have HP5 := Lib.hid P5
        have hl3 : ts.length + 1 ≤ maxLen := by unfold maxLen; omega
        have hl4 : (ts.length + 1) * 48 ≤ 140737488355328 := by omega
        have hB5 : B' ≤ W5.heap.size := by omega
        clear hW5 hb5 hu5 hled5 P5 t0_4 t1_4 t2_4 t3_4 b_4 b_5
        go_region_law
          (first
            | (go_simp
               go_at_call 43
               refine (copyTerm_tx t g _ L' B' _ ?_ ?_ htl).mono ?_
               · exact HA'.out.keep fun p _ hp => HP5.out.bel.cell (by omega)
               · show B' ≤ W5.heap.size
                 exact hB5
               rintro e w6 ⟨A6, c6, rfl, hc6, hm6, htx6, hb6⟩
               have HTx6 := Lib.hid (show TxFr w6 W5.heap.size w6.heap.size A6 t.text from htx6)
               have HB6 := Lib.hid (show Below W5.heap.size W5 w6 by first | exact hb6 | exact (Below.refl W5.heap.size W5).drew.trans hb6 | exact (Below.refl W5.heap.size W5).drew.drew.trans hb6)
               have P6 := HP5.out.below HB6.out
               have o_6 := P6.oc
               have o_6n := cell_alloc_at (.cells #[.int .i64 t.kind, .int .i64 t.a, .int .i64 t.b, .slice A6 t.text.length c6] 71) o_6
               have hsz6 : w2.heap.size ≤ w6.heap.size := by have := HB6.out.size; omega
               have HLed6 := Lib.hid (HLed5.out.keep HB6.out (by omega))
               have hrow6 : w6.ownsRow w2.heap.size 71 4 (.slice A4 ts.length c4) ts.length (rowT us) := by have h := HLed6.out.1; rw [HUl.out] at h; exact h
               have HC6 := Lib.hid (And.intro hc6 hm6)
               have HCh6 := Lib.hid (show TxChain w6 w2.heap.size (us ++ [(⟨t, A6, c6⟩ : Tx)]) w6.heap.size from TxChain.snoc HLed6.out.2 (TxFr.low HTx6.out (by omega)) (by have := HB6.out.size; omega))
               clear hb6 htx6 hc6 hm6
               go_wp2_with fail)
            | (refine step_append_row _ (by rfl) _ _ _ (by rfl) w2.heap.size 0 71 i1 _ 4 48 Tryd.underlying23 hi1 hy0 hy1 hy2 rfl (by decide) (.slice A4 ts.length c4) ts.length (rowT us) (by rfl) ?_ (.slice (some ⟨w6.heap.size, 0, none⟩) 1 1) 1 [.int .i64 t.kind, .int .i64 t.a, .int .i64 t.b, .slice A6 t.text.length c6] (by rfl) (owns_one4 (Nat.zero_le _) ?_) ?_ hl3 hl4 ?_ ?_
               · (repeat first | with_reducible exact hrow6 | with_reducible apply World.ownsRow.drew | with_reducible apply World.ownsRow.alloc)
               · (repeat first | with_reducible exact heap_new_at _ (by simp) | with_reducible apply heap_drew_at)
               · intro u hu; simp at hu; rcases hu with rfl | rfl | rfl | rfl <;> rfl
               · simp; omega
               intro A7 c7 w7 hown7 hgr7
               have P7 : Rx w w4.heap.size (.slice A4 ts.length c4) (.slice (some ⟨R, 0, none⟩) ts.length c) w7 := Rx.grown (by repeat first | with_reducible exact P6 | with_reducible apply Rx.drew | with_reducible apply Rx.alloc) hgr7 (fun k hk => ⟨by have := (hrow6.lt k hk).1; omega, fun e => by obtain ⟨cs, hcs⟩ := P6.oh; exact own_far hrow6 hcs (by decide) (by rw [← e]; exact hk)⟩)
               have hch7 : TxChain w7 w2.heap.size (us ++ [(⟨t, A6, c6⟩ : Tx)]) w6.heap.size := by
                 refine chain_grown (n := ts.length) (xs := rowT us) (base := w2.heap.size) (v := .slice A4 ts.length c4) ?_ ?_ hgr7 (by simp)
                 · (repeat first | with_reducible exact HCh6.out | with_reducible apply TxChain.drew | with_reducible refine TxChain.alloc ?_ (Nat.le_refl _) _)
                 · (repeat first | with_reducible exact hrow6 | with_reducible apply World.ownsRow.drew | with_reducible apply World.ownsRow.alloc)
               have hsz7 : w6.heap.size ≤ w7.heap.size := by have := hgr7.size; simp at this; omega
               have o_7 := P7.oc
               have of_7 := P7.of
               clear hgr7))
        all_goals have HCh7 := Lib.hid hch7
        all_goals have HRow7 := Lib.hid hown7
        all_goals have HP7 := Lib.hid P7
        all_goals have b_8 : (w7.setCell ⟨w4.heap.size, 0, none⟩ (.slice A7 (ts.length + 1) c7)).cell? ⟨w.heap.size, 0, none⟩ = some (.slice (some ⟨R, 0, none⟩) ts.length c) := (World.cell?_setCell_other _ _ _ _ (fun e => by injection e with e1; omega)).trans P7.b
        all_goals have r_8 : (w7.setCell ⟨w4.heap.size, 0, none⟩ (.slice A7 (ts.length + 1) c7)).cell? ⟨w.heap.size + 1 + 1, 0, none⟩ = some (.slice none 0 0) := (World.cell?_setCell_other _ _ _ _ (fun e => by injection e with e1; omega)).trans P7.r
        all_goals have rf_8 : (w7.setCell ⟨w4.heap.size, 0, none⟩ (.slice A7 (ts.length + 1) c7)).frozen? ⟨w.heap.size + 1 + 1, 0, none⟩ = false := (World.frozen?_setCell _ _ _ _).trans P7.rf
        all_goals clear P6 P7 hch7 hown7 hrow6 hl3 hl4 o_5 o_6 o_6n t0_5 t1_5 t2_5 t3_5 i1 hi1 hy0 hy1 hy2
        all_goals go_wp2_with fail
        all_goals go_region
        all_goals go_wp2_with fail
        all_goals refine bodyPost_ret (v := .tuple #[.agg #[.slice A7 (ts.length + 1) c7], .int .i64 ts.length]) (by simp [results, Tryd.results24, go_sem, *]) rfl ?_
        all_goals
          rw [HM.out.1, HM.out.2]
          clear b_8 r_8 rf_8 o_7 of_7
          have hxs : (us ++ [(⟨t, A6, c6⟩ : Tx)]).length = ts.length + 1 := by simp [HUl.out]
          have hled9 : LedIs (((w7.setCell ⟨w4.heap.size, 0, none⟩ (.slice A7 (ts.length + 1) c7)).setCell ⟨w.heap.size + 1 + 1, 0, none⟩ (.slice A7 (ts.length + 1) c7)).drew) w2.heap.size w6.heap.size (.slice A7 (us ++ [(⟨t, A6, c6⟩ : Tx)]).length c7) (us ++ [(⟨t, A6, c6⟩ : Tx)]) := by
            obtain ⟨cs, hcs⟩ := HP7.out.oh
            refine ⟨?_, TxChain.drew (HCh7.out.keepT fun b cur hb hb' hbt => ?_)⟩
            · rw [hxs, rowT_snoc]
              exact World.ownsRow.drew (ownsRow_setCell_below (HRow7.out.kept (grown_set w7 w4.heap.size _) (.inr (own_far HRow7.out hcs (by decide)))) (by show w.heap.size + 1 + 1 < _; omega) _)
            · have hne : b ≠ w4.heap.size := fun e => by
                subst e
                rw [hbt] at hcs
                cases hcs
              rw [Below.heap_setCell _ _ _ _ (by show b ≠ w.heap.size + 1 + 1; omega), Below.heap_setCell _ _ _ _ hne]
          refine ⟨us ++ [⟨t, A6, c6⟩], A7, c7, ?_, ?_, ?_, (hled9.fr (by simp; omega) (Nat.le_refl _)).low (by omega), ?_⟩
          · rw [List.length_append]
            rfl
          · rw [List.map_append, HUs.out]
            rfl
          · intro x hx
            rcases List.mem_append.1 hx with h | h
            · exact HBd.out x h
            · simp only [List.mem_singleton] at h; subst h; exact HC6.out
          · exact ((HP7.out.bel.setCell (by show w.heap.size ≤ w4.heap.size; omega) _).setCell (by show w.heap.size ≤ w.heap.size + 1 + 1; omega) _).drew
  · have hu1 := hu0.below hb1 hs0
    have hs1 := hu1.sz
    have hua := hu1.below ((Below.refl _ _).alloc (Nat.le_refl _) (.cells #[.slice none 0 0, .map none] 47)) hs1
    have r_1 := hua.r
    have rf_1 := hua.rf
    have HI := Lib.hid (intern_no (internB_bad hno))
    have HU1 := Lib.hid hua
    clear hW0 hu0 hb1 hu1 hua hno
    go_wp2_with fail
    all_goals refine bodyPost_ret (v := .tuple #[.agg #[.slice none 0 0], .int .i64 (-1)]) (by simp [results, Tryd.results24, go_sem, *]) rfl ?_
    all_goals rw [HI.out.1, HI.out.2]
    all_goals refine none_led (Below.setCell HU1.out.bel ?_ _)
    all_goals (show w.heap.size ≤ w.heap.size + 1 + 1; omega)
end

end Go.Proofs.YtkmoihkpaccbdaaDoor
