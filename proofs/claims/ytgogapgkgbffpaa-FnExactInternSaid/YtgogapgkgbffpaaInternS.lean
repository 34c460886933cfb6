/-
  The model's Intern.
-/
import Derived.Test.YtgogapgkgbffpaaInternM
namespace Go.Proofs.Ytgogapgkgbffpaa
open Go.RowKit Go.Maps

/-- The three variables at the start of Intern: the ledger, the term, the answer's ledger. -/
structure Ux (w : World) (V v0 v1 v2 v3 : Value) (W : World) : Prop where
  b : W.cell? ⟨w.heap.size, 0, none⟩ = some V
  t0 : W.cell? ⟨w.heap.size + 1, 0, none⟩ = some v0
  t1 : W.cell? ⟨w.heap.size + 1, 1, none⟩ = some v1
  t2 : W.cell? ⟨w.heap.size + 1, 2, none⟩ = some v2
  t3 : W.cell? ⟨w.heap.size + 1, 3, none⟩ = some v3
  tf : W.frozen? ⟨w.heap.size + 1, 3, none⟩ = false
  r : W.cell? ⟨w.heap.size + 1 + 1, 0, none⟩ = some (.slice none 0 0)
  rf : W.frozen? ⟨w.heap.size + 1 + 1, 0, none⟩ = false
  bel : Below w.heap.size w W
  sz : w.heap.size + 3 ≤ W.heap.size

section
variable {w W W' : World} {V v0 v1 v2 v3 : Value} {B : Nat}
theorem Ux.start (w : World) (V v0 v1 v2 v3 : Value) (t : TypeId) (t' : TypeId) : Ux w V v0 v1 v2 v3 (((w.alloc (.cells #[V] t)).alloc (.cells #[v0, v1, v2, v3] t')).alloc (.cells #[.slice none 0 0] t)) := by
  refine ⟨?_, ?_, ?_, ?_, ?_, ?_, ?_, ?_, ?_, ?_⟩
  all_goals first | (simp [go_sem]; done) | skip
  · exact (((Below.refl _ _).alloc (Nat.le_refl _) _).alloc (by simp) _).alloc (by simp; omega) _
theorem Ux.below (h : Ux w V v0 v1 v2 v3 W) (hb : Below B W W') (hB : w.heap.size + 3 ≤ B) : Ux w V v0 v1 v2 v3 W' :=
  ⟨(hb.cell (p := ⟨w.heap.size, 0, none⟩) (by show w.heap.size < _; omega)).trans h.b, (hb.cell (p := ⟨w.heap.size + 1, 0, none⟩) (by show w.heap.size + 1 < _; omega)).trans h.t0,
    (hb.cell (p := ⟨w.heap.size + 1, 1, none⟩) (by show w.heap.size + 1 < _; omega)).trans h.t1, (hb.cell (p := ⟨w.heap.size + 1, 2, none⟩) (by show w.heap.size + 1 < _; omega)).trans h.t2,
    (hb.cell (p := ⟨w.heap.size + 1, 3, none⟩) (by show w.heap.size + 1 < _; omega)).trans h.t3, (hb.frozen (p := ⟨w.heap.size + 1, 3, none⟩) (by show w.heap.size + 1 < _; omega)).trans h.tf,
    (hb.cell (p := ⟨w.heap.size + 1 + 1, 0, none⟩) (by show w.heap.size + 1 + 1 < _; omega)).trans h.r, (hb.frozen (p := ⟨w.heap.size + 1 + 1, 0, none⟩) (by show w.heap.size + 1 + 1 < _; omega)).trans h.rf,
    h.bel.trans (hb.mono (by omega)), by have := hb.size; have := h.sz; omega⟩
theorem Ux.five (h : Ux w V v0 v1 v2 v3 W) : W.cell? ⟨w.heap.size, 0, none⟩ = some V ∧ W.cell? ⟨w.heap.size + 1, 0, none⟩ = some v0 ∧ W.cell? ⟨w.heap.size + 1, 1, none⟩ = some v1 ∧ W.cell? ⟨w.heap.size + 1, 2, none⟩ = some v2 ∧ W.cell? ⟨w.heap.size + 1, 3, none⟩ = some v3 := ⟨h.b, h.t0, h.t1, h.t2, h.t3⟩
end

theorem LedIs.keep {w w' : World} {L B : Nat} {v : Value} {us : List Tx} (h : LedIs w L B v us) (hb : Below w.heap.size w w') (hB : B ≤ w.heap.size) : LedIs w' L B v us :=
  ⟨h.1.kept (grown_of_below hb) (by cases h : v.ownBlock <;> simp), h.2.keep fun b _ hb' => hb.block b (by omega)⟩
theorem LedIs.set {w : World} {L B : Nat} {v : Value} {us : List Tx} (h : LedIs w L B v us) {p : Addr} (hp : p.block < L) (u : Value) : LedIs (w.setCell p u) L B v us :=
  ⟨ownsRow_setCell_below h.1 hp u, h.2.keep fun b hb _ => Below.heap_setCell _ _ _ _ (by omega)⟩

theorem LedFr.low {w : World} {L L' E : Nat} {A : Option Addr} {us : List Tx} (h : LedFr w L E A us) (hL : L' ≤ L) : LedFr w L' E A us := fun hl => by
  obtain ⟨R, m, f, e, h1, h2, h3, h4, h5, h6⟩ := h hl
  exact ⟨R, m, f, e, by omega, h2, h3, h4, h5, h6.low hL⟩

/-- Nothing is handed back, and -1. -/
theorem none_led {w w' : World} (hb : Below w.heap.size w w') : NewLedI [] (-1) w (.returned (.tuple #[.agg #[.slice none 0 0], .int .i64 (-1)])) w' :=
  ⟨[], none, 0, rfl, rfl, by simp, LedFr.nil, hb⟩

section
variable (R B : Nat) (ts : List Tm) (c : Nat) (t : Tm) (g L' B' : Nat) (w : World)

set_option maxRecDepth 100000 in
set_option maxHeartbeats 4000000 in
theorem specIntern_any (hA : CopyIn w R B ts) (hN : NoNil w R ts) (hR : R < B) (hB : B ≤ w.heap.size) (hn : ts.length ≤ 1048576) (hbk : bulk ts ≤ 1048576)
    (hA' : BytesIn w L' B' (some ⟨g, 0, none⟩) t.text) (hB' : B' ≤ w.heap.size) (htl : t.text.length ≤ 1048576) :
    Calls Try.prog 26 #[.agg #[.slice (some ⟨R, 0, none⟩) ts.length c], .agg #[.int .i64 t.kind, .int .i64 t.a, .int .i64 t.b, .slice (some ⟨g, 0, none⟩) t.text.length t.text.length]] w (NewLedI (internL ts t) (internI ts t) w) := by
  have HA := Lib.hid hA
  have HN := Lib.hid hN
  have HA' := Lib.hid hA'
  clear hA hN hA'
  go_enter Try.func26, Try.ntmps26
  go_wp2_with fail
  obtain ⟨W0, hW0⟩ : ∃ W0, W0 = ((w.alloc (.cells #[.slice (some ⟨R, 0, none⟩) ts.length c] 33)).alloc (.cells #[.int .i64 t.kind, .int .i64 t.a, .int .i64 t.b, .slice (some ⟨g, 0, none⟩) t.text.length t.text.length] 35)).alloc (.cells #[.slice none 0 0] 33) := ⟨_, rfl⟩
  have hu0 := Ux.start w (.slice (some ⟨R, 0, none⟩) ts.length c) (.int .i64 t.kind) (.int .i64 t.a) (.int .i64 t.b) (.slice (some ⟨g, 0, none⟩) t.text.length t.text.length) 33 35
  rw [← hW0] at hu0 ⊢
  have hs0 := hu0.sz
  refine (specTermOk_any (some ⟨R, 0, none⟩) (some ⟨g, 0, none⟩) ts t c t.text.length R B L' B' W0 ((HA.out.tms hR).keep fun p _ hp => hu0.bel.cell (by omega)) (by omega) (HA'.out.keep fun p _ hp => hu0.bel.cell (by omega)) (by omega) hn hbk htl).mono ?_
  rintro e w1 ⟨rfl, hb1⟩
  have hu1 := hu0.below hb1 hs0
  have hs1 := hu1.sz
  obtain ⟨b_1, t0_1, t1_1, t2_1, t3_1⟩ := hu1.five
  have r_1 := hu1.r
  have rf_1 := hu1.rf
  have HU1 := Lib.hid hu1
  clear hW0 hu0 hb1 hu1
  cases htb : termB ts t with
  | false =>
    obtain ⟨h1, h2⟩ := intern_no (internB_bad htb)
    have HI := Lib.hid (And.intro h1 h2)
    clear htb h1 h2
    go_wp2_with fail
    all_goals refine bodyPost_ret (v := .tuple #[.agg #[.slice none 0 0], .int .i64 (-1)]) (by simp [results, Try.results26, go_sem, *]) rfl ?_
    all_goals rw [HI.out.1, HI.out.2]
    all_goals refine none_led (HU1.out.bel.setCell ?_ _)
    all_goals (show w.heap.size ≤ w.heap.size + 1 + 1; omega)
  | true =>
    have hlen := termB_len htb
    have HTb := Lib.hid htb
    clear htb
    go_wp2_with fail
    refine (l1lookup_any (some ⟨R, 0, none⟩) (some ⟨g, 0, none⟩) ts t c t.text.length R B L' B' w1 ((HA.out.tms hR).keep fun p _ hp => HU1.out.bel.cell (by omega)) (by omega) (HA'.out.keep fun p _ hp => HU1.out.bel.cell (by omega)) (by omega) hn).mono ?_
    rintro e w2 ⟨rfl, hb2⟩
    have hu2 := HU1.out.below hb2 hs1
    have hs2 := hu2.sz
    obtain ⟨b_2, t0_2, t1_2, t2_2, t3_2⟩ := hu2.five
    have r_2 := hu2.r
    have rf_2 := hu2.rf
    have HU2 := Lib.hid hu2
    clear hb2 hu2 b_1 t0_1 t1_1 t2_1 t3_1 r_1 rf_1
    have HLk := Lib.hid (lookI_range ts t)
    obtain ⟨n, hnn⟩ : ∃ n, n = lookI ts t := ⟨_, rfl⟩
    have HNn := Lib.hid hnn
    rw [← hnn]
    clear hnn
    by_cases hfull : t ∉ ts ∧ ¬ ts.length < 400
    · obtain ⟨h1, h2⟩ := intern_no (internB_full hfull.1 hfull.2)
      have hn1 : n = -1 := by rw [HNn.out]; exact lookI_none hfull.1
      have hl4 : ts.length = 400 := by omega
      have HI := Lib.hid (And.intro h1 h2)
      subst hn1
      clear hfull h1 h2
      go_wp2_with fail
      all_goals refine bodyPost_ret (v := .tuple #[.agg #[.slice none 0 0], .int .i64 (-1)]) (by simp [results, Try.results26, go_sem, *]) rfl ?_
      all_goals rw [HI.out.1, HI.out.2]
      all_goals refine none_led (HU2.out.bel.setCell ?_ _)
      all_goals (show w.heap.size ≤ w.heap.size + 1 + 1; omega)
    · have HFull := Lib.hid hfull
      have hcond : 0 ≤ n ∨ (n = -1 ∧ ts.length < 400) := by
        rcases HLk.out with ⟨h1, h2⟩ | ⟨h1, _, _⟩
        · rw [← HNn.out] at h1
          exact .inr ⟨h1, by rcases Nat.lt_or_ge ts.length 400 with h | h; exact h; exact absurd ⟨h2, by omega⟩ hfull⟩
        · rw [← HNn.out] at h1
          exact .inl h1
      clear hfull
      rcases hcond with hn0 | ⟨hn0, hl4⟩
      · have hown := l1own_any R B ts c w2 (HA.out.keep (fun p _ hp => HU2.out.bel.cell (by omega)) hR) (HN.out.keep fun p hp => HU2.out.bel.cell (by omega)) hR (by omega) hn hbk
        have HOwn := Lib.hid hown
        obtain ⟨i0, hi0, hz0, hz1b, hz2⟩ := info_parts Try.info5
        clear hown hs0
        go_wp2_with fail
        refine HOwn.out.mono ?_
        rintro e w3 ⟨us, A3, c3, rfl, hus, hbd, hled, hb3⟩
        have hul : us.length = ts.length := by rw [← hus, List.length_map]
        have hu3 := HU2.out.below hb3 hs2
        have hs3 := hu3.sz
        have HUs := Lib.hid hus
        have HBd := Lib.hid hbd
        have HUl := Lib.hid hul
        have HLed := Lib.hid hled
        have HS23 := Lib.hid hb3.size
        clear hus hbd hled hul b_2 t0_2 t1_2 t2_2 t3_2 r_2 rf_2 HOwn
        obtain ⟨W4, hW4⟩ : ∃ W4, W4 = (w3.alloc (.cells #[.slice A3 ts.length c3] 33)).alloc (.cells #[] 5) := ⟨_, rfl⟩
        have hb34 : Below w3.heap.size w3 W4 := by subst hW4; exact ((Below.refl _ _).alloc (Nat.le_refl _) _).alloc (by simp) _
        have hE : W4.heap[w3.heap.size + 1]? = some (.cells #[] 5 (0, 0)) := by
          subst hW4
          exact heap_new_at _ (by simp)
        have o_4 : W4.cell? ⟨w3.heap.size, 0, none⟩ = some (.slice A3 ts.length c3) := by subst hW4; simp
        have of_4 : W4.frozen? ⟨w3.heap.size, 0, none⟩ = false := by subst hW4; simp
        have hz4 : W4.heap.size = w3.heap.size + 2 := by subst hW4; simp
        have hu4 := hu3.below hb34 hs3
        have HB34 := Lib.hid hb34
        have HU4 := Lib.hid hu4
        have HE := Lib.hid (owns_empty (base := w3.heap.size + 1) (Nat.le_refl _) hE)
        have HO := Lib.hid (And.intro o_4 (And.intro of_4 hz4))
        have hu3a : Ux w (.slice (some ⟨R, 0, none⟩) ts.length c) (.int .i64 t.kind) (.int .i64 t.a) (.int .i64 t.b) (.slice (some ⟨g, 0, none⟩) t.text.length t.text.length) (w3.alloc (.cells #[.slice A3 ts.length c3] 33)) := hu3.below ((Below.refl _ _).alloc (Nat.le_refl _) _) hs3
        have t3_3a := hu3a.t3
        have t3_4 := hu4.t3
        subst hW4
        clear hu3 hb34 hE o_4 of_4 hz4 hu4 hu3a hb3
        go_wp2_with (at_builtin; refine wpList_append_own _ rfl _ _ 25 rfl (w3.heap.size + 1) 5 i0 (.int .u8 0) 1 1 Try.underlying25 hi0 hz0 hz1b hz2 rfl (by decide) _ _ _ rfl HE.out ⟨g, 0, none⟩ t.text.length t.text.length (vbytes t.text) rfl ?c0 ?c1 ?c2 ?c3 ?c4 ?c5 ?_)
        case c0 => first | (rw [vbytes_length]; omega) | simp [vbytes_length]
        case c1 => exact vbytes_at (HA'.out.keep fun p _ hp => HU4.out.bel.cell (by omega))
        try case c2 => exact vbytes_one _
        try case c3 => first | omega | (unfold maxLen; omega)
        try case c4 => omega
        try case c5 => first | omega | (simp; done) | (simp; omega)
        intro v' w5 hrow5 hgr5 _
        obtain ⟨A5, c5, rfl⟩ := row_shape hrow5
        obtain ⟨hrb1, hrb2⟩ := row_bounds hrow5
        obtain ⟨o_4, of_4, hz4⟩ := HO.out
        have hb5 : Below (w3.heap.size + 1) _ w5 := ⟨hgr5.os, hgr5.tape, hgr5.output, hgr5.size, fun b hb => hgr5.block b (by omega) (by simp [Value.ownBlock]; omega)⟩
        have o_5 := (hb5.cell (p := ⟨w3.heap.size, 0, none⟩) (by show w3.heap.size < _; omega)).trans o_4
        have of_5 := (hb5.frozen (p := ⟨w3.heap.size, 0, none⟩) (by show w3.heap.size < _; omega)).trans of_4
        have hu5 := HU4.out.below hb5 (by omega)
        have hb35 := HB34.out.trans (hb5.mono (by omega))
        have hz5 : w3.heap.size + 2 ≤ w5.heap.size := by have := hb5.size; omega
        obtain ⟨_, t0_5, t1_5, t2_5, t3_5⟩ := hu5.five
        have tf_5 := hu5.tf
        have HTx := Lib.hid (tx_of_row hrow5)
        have hs23 := HS23.out
        obtain ⟨W6, hW6⟩ : ∃ W6, W6 = w5.setCell ⟨w.heap.size + 1, 3, none⟩ (.slice A5 t.text.length c5) := ⟨_, rfl⟩
        have o_6 : W6.cell? ⟨w3.heap.size, 0, none⟩ = some (.slice A3 ts.length c3) := by rw [hW6]; exact (World.cell?_setCell_other _ _ _ _ (by simp)).trans o_5
        have of_6 : W6.frozen? ⟨w3.heap.size, 0, none⟩ = false := by rw [hW6, World.frozen?_setCell]; exact of_5
        have r_6 : W6.cell? ⟨w.heap.size + 1 + 1, 0, none⟩ = some (.slice none 0 0) := by rw [hW6]; exact (World.cell?_setCell_other _ _ _ _ (by simp)).trans hu5.r
        have rf_6 : W6.frozen? ⟨w.heap.size + 1 + 1, 0, none⟩ = false := by rw [hW6, World.frozen?_setCell]; exact hu5.rf
        have hz6 : W6.heap.size = w5.heap.size := by rw [hW6]; simp
        have hbel6 : Below w.heap.size w W6 := by rw [hW6]; exact hu5.bel.setCell (by show w.heap.size ≤ w.heap.size + 1; omega) _
        have hled6 : LedIs W6 w2.heap.size w3.heap.size (.slice A3 ts.length c3) us := by rw [hW6]; exact (HLed.out.keep hb35 (Nat.le_refl _)).set (by show w.heap.size + 1 < _; omega) _
        have htx6 : TxFr W6 (w3.heap.size + 1) w5.heap.size A5 t.text := by rw [hW6]; exact HTx.out.keep fun b hb _ => Below.heap_setCell _ _ _ _ (by show b ≠ w.heap.size + 1; omega)
        have hl := l1intern_any w3.heap.size w2.heap.size w2.heap.size W6.heap.size A3 c3 us ts t A5 c5 (w3.heap.size + 1) w5.heap.size W6 HUs.out (by rw [HUl.out]; exact o_6) of_6 (by have h := hled6.1; rw [HUl.out] at h ⊢; exact h) (LedIs.tms (c := c3) (by rw [HUl.out]; exact hled6) (by omega) HUs.out HBd.out) (Nat.le_refl _) htx6.bytes.bytes (by omega) (by rw [HUl.out]; omega)
        have HL := Lib.hid hl
        have HLed6 := Lib.hid hled6
        have HTx6 := Lib.hid htx6
        have HBel6 := Lib.hid hbel6
        have HW6 := Lib.hid hW6
        have HSz := Lib.hid (And.intro hrb1 hrb2)
        have HFacts := Lib.hid (And.intro o_6 (And.intro r_6 (And.intro rf_6 hz6)))
        clear hrow5 hgr5 hb5 o_4 of_4 hz4 hu5 hb35 hl hled6 htx6 hbel6 hW6 o_5 of_5 t3_3a t3_4 o_6 of_6 r_6 rf_6 hz6 hrb1 hrb2 HO HE HB34 HU4 HTx
        go_wp2_with fail
        rw [← HW6.out]
        refine HL.out.mono ?_
        obtain ⟨o_6, r_6, rf_6, hz6⟩ := HFacts.out
        rintro e w7 (⟨hm, rfl, hb7⟩ | ⟨hm, rfl, A6, c6, w8, rfl, hb8, hrow8⟩)
        · have o_7 := (hb7.cell (p := ⟨w3.heap.size, 0, none⟩) (by show w3.heap.size < _; omega)).trans o_6
          have r_7 := (hb7.cell (p := ⟨w.heap.size + 1 + 1, 0, none⟩) (by show w.heap.size + 1 + 1 < _; omega)).trans r_6
          have rf_7 := (hb7.frozen (p := ⟨w.heap.size + 1 + 1, 0, none⟩) (by show w.heap.size + 1 + 1 < _; omega)).trans rf_6
          have HM := Lib.hid (intern_old HTb.out hm)
          have HB7 := Lib.hid hb7
          clear hm hb7 o_6 r_6 rf_6 t0_5 t1_5 t2_5 t3_5 tf_5
          go_wp2_with fail
          refine bodyPost_ret (v := .tuple #[.agg #[.slice A3 ts.length c3], .int .i64 (lookI ts t)]) (by simp [results, Try.results26, go_sem, *]) rfl ?_
          rw [HM.out.1, HM.out.2]
          have hled7 : LedIs (w7.setCell ⟨w.heap.size + 1 + 1, 0, none⟩ (.slice A3 ts.length c3)) w2.heap.size w3.heap.size (.slice A3 us.length c3) us := by
            rw [HUl.out]
            exact (HLed6.out.keep HB7.out (by omega)).set (by show w.heap.size + 1 + 1 < _; omega) _
          refine ⟨us, A3, c3, rfl, HUs.out, HBd.out, (hled7.fr (by have := HB7.out.size; simp; omega) (Nat.le_refl _)).low (by omega), ?_⟩
          exact (HBel6.out.trans (HB7.out.mono (by omega))).setCell (by show w.heap.size ≤ w.heap.size + 1 + 1; omega) _
        · have hlt4 : ts.length < 400 := Decidable.byContradiction fun h => HFull.out ⟨hm, h⟩
          have o_8 := (hb8.cell (p := ⟨w3.heap.size, 0, none⟩) (by show w3.heap.size < _; omega)).trans o_6
          have r_8 := (hb8.cell (p := ⟨w.heap.size + 1 + 1, 0, none⟩) (by show w.heap.size + 1 + 1 < _; omega)).trans r_6
          have rf_8 := (hb8.frozen (p := ⟨w.heap.size + 1 + 1, 0, none⟩) (by show w.heap.size + 1 + 1 < _; omega)).trans rf_6
          have q_8 : (w8.setCell ⟨w3.heap.size, 0, none⟩ (.slice A6 (us.length + 1) c6)).cell? ⟨w.heap.size + 1 + 1, 0, none⟩ = some (.slice none 0 0) := (World.cell?_setCell_other _ _ _ _ (by first | (simp; done) | (simp; omega))).trans r_8
          have HM := Lib.hid (intern_new HTb.out hm hlt4)
          have HB8 := Lib.hid hb8
          have HRow8 := Lib.hid hrow8
          clear hm hb8 hrow8 o_6 r_6 rf_6 t0_5 t1_5 t2_5 t3_5 tf_5
          go_wp2_with fail
          refine bodyPost_ret (v := .tuple #[.agg #[.slice A6 (us.length + 1) c6], .int .i64 us.length]) (by simp [results, Try.results26, go_sem, *]) rfl ?_
          rw [HM.out.1, HM.out.2]
          have hxs : (us ++ [(⟨t, A5, c5⟩ : Tx)]).length = us.length + 1 := by simp
          have hfar : ∀ b, b ≠ w3.heap.size → b ≠ w.heap.size + 1 + 1 → ((w8.setCell ⟨w3.heap.size, 0, none⟩ (.slice A6 (us.length + 1) c6)).setCell ⟨w.heap.size + 1 + 1, 0, none⟩ (.slice A6 (us.length + 1) c6)).heap[b]? = w8.heap[b]? := fun b h1 h2 => by
            rw [Below.heap_setCell _ _ _ _ h2, Below.heap_setCell _ _ _ _ h1]
          have hled9 : LedIs ((w8.setCell ⟨w3.heap.size, 0, none⟩ (.slice A6 (us.length + 1) c6)).setCell ⟨w.heap.size + 1 + 1, 0, none⟩ (.slice A6 (us.length + 1) c6)) w2.heap.size w8.heap.size (.slice A6 (us ++ [(⟨t, A5, c5⟩ : Tx)]).length c6) (us ++ [(⟨t, A5, c5⟩ : Tx)]) := by
            refine ⟨?_, ?_⟩
            · rw [hxs, rowT_snoc]
              exact ownsRow_setCell_below (ownsRow_low (ownsRow_setCell_below HRow8.out (by show w3.heap.size < _; omega) _) (by omega)) (by show w.heap.size + 1 + 1 < _; omega) _
            · refine TxChain.snoc (M := w3.heap.size + 1) ((HLed6.out.2.keep fun b hb hb' => ?_).mono (by omega)) ((HTx6.out.keep fun b hb hb' => ?_).mono (by have := HB8.out.size; omega)) (by have := HB8.out.size; omega)
              · rw [hfar b (by omega) (by omega)]
                exact HB8.out.block b (by omega)
              · rw [hfar b (by omega) (by omega)]
                exact HB8.out.block b (by omega)
          refine ⟨us ++ [⟨t, A5, c5⟩], A6, c6, ?_, ?_, ?_, (hled9.fr (by simp) (Nat.le_refl _)).low (by omega), ?_⟩
          · rw [List.length_append, HUl.out]
            rfl
          · rw [List.map_append, HUs.out]
            rfl
          · intro x hx
            rcases List.mem_append.1 hx with h | h
            · exact HBd.out x h
            · simp only [List.mem_singleton] at h; subst h; exact HSz.out
          · exact ((HBel6.out.trans (HB8.out.mono (by omega))).setCell (by show w.heap.size ≤ w3.heap.size; omega) _).setCell (by show w.heap.size ≤ w.heap.size + 1 + 1; omega) _
      · have hown := l1own_any R B ts c w2 (HA.out.keep (fun p _ hp => HU2.out.bel.cell (by omega)) hR) (HN.out.keep fun p hp => HU2.out.bel.cell (by omega)) hR (by omega) hn hbk
        have HOwn := Lib.hid hown
        obtain ⟨i0, hi0, hz0, hz1b, hz2⟩ := info_parts Try.info5
        clear hown hs0
        go_wp2_with fail
        refine HOwn.out.mono ?_
        rintro e w3 ⟨us, A3, c3, rfl, hus, hbd, hled, hb3⟩
        have hul : us.length = ts.length := by rw [← hus, List.length_map]
        have hu3 := HU2.out.below hb3 hs2
        have hs3 := hu3.sz
        have HUs := Lib.hid hus
        have HBd := Lib.hid hbd
        have HUl := Lib.hid hul
        have HLed := Lib.hid hled
        have HS23 := Lib.hid hb3.size
        clear hus hbd hled hul b_2 t0_2 t1_2 t2_2 t3_2 r_2 rf_2 HOwn
        obtain ⟨W4, hW4⟩ : ∃ W4, W4 = (w3.alloc (.cells #[.slice A3 ts.length c3] 33)).alloc (.cells #[] 5) := ⟨_, rfl⟩
        have hb34 : Below w3.heap.size w3 W4 := by subst hW4; exact ((Below.refl _ _).alloc (Nat.le_refl _) _).alloc (by simp) _
        have hE : W4.heap[w3.heap.size + 1]? = some (.cells #[] 5 (0, 0)) := by
          subst hW4
          exact heap_new_at _ (by simp)
        have o_4 : W4.cell? ⟨w3.heap.size, 0, none⟩ = some (.slice A3 ts.length c3) := by subst hW4; simp
        have of_4 : W4.frozen? ⟨w3.heap.size, 0, none⟩ = false := by subst hW4; simp
        have hz4 : W4.heap.size = w3.heap.size + 2 := by subst hW4; simp
        have hu4 := hu3.below hb34 hs3
        have HB34 := Lib.hid hb34
        have HU4 := Lib.hid hu4
        have HE := Lib.hid (owns_empty (base := w3.heap.size + 1) (Nat.le_refl _) hE)
        have HO := Lib.hid (And.intro o_4 (And.intro of_4 hz4))
        have hu3a : Ux w (.slice (some ⟨R, 0, none⟩) ts.length c) (.int .i64 t.kind) (.int .i64 t.a) (.int .i64 t.b) (.slice (some ⟨g, 0, none⟩) t.text.length t.text.length) (w3.alloc (.cells #[.slice A3 ts.length c3] 33)) := hu3.below ((Below.refl _ _).alloc (Nat.le_refl _) _) hs3
        have t3_3a := hu3a.t3
        have t3_4 := hu4.t3
        subst hW4
        clear hu3 hb34 hE o_4 of_4 hz4 hu4 hu3a hb3
        go_wp2_with (at_builtin; refine wpList_append_own _ rfl _ _ 25 rfl (w3.heap.size + 1) 5 i0 (.int .u8 0) 1 1 Try.underlying25 hi0 hz0 hz1b hz2 rfl (by decide) _ _ _ rfl HE.out ⟨g, 0, none⟩ t.text.length t.text.length (vbytes t.text) rfl ?c0 ?c1 ?c2 ?c3 ?c4 ?c5 ?_)
        case c0 => first | (rw [vbytes_length]; omega) | simp [vbytes_length]
        case c1 => exact vbytes_at (HA'.out.keep fun p _ hp => HU4.out.bel.cell (by omega))
        try case c2 => exact vbytes_one _
        try case c3 => first | omega | (unfold maxLen; omega)
        try case c4 => omega
        try case c5 => first | omega | (simp; done) | (simp; omega)
        intro v' w5 hrow5 hgr5 _
        obtain ⟨A5, c5, rfl⟩ := row_shape hrow5
        obtain ⟨hrb1, hrb2⟩ := row_bounds hrow5
        obtain ⟨o_4, of_4, hz4⟩ := HO.out
        have hb5 : Below (w3.heap.size + 1) _ w5 := ⟨hgr5.os, hgr5.tape, hgr5.output, hgr5.size, fun b hb => hgr5.block b (by omega) (by simp [Value.ownBlock]; omega)⟩
        have o_5 := (hb5.cell (p := ⟨w3.heap.size, 0, none⟩) (by show w3.heap.size < _; omega)).trans o_4
        have of_5 := (hb5.frozen (p := ⟨w3.heap.size, 0, none⟩) (by show w3.heap.size < _; omega)).trans of_4
        have hu5 := HU4.out.below hb5 (by omega)
        have hb35 := HB34.out.trans (hb5.mono (by omega))
        have hz5 : w3.heap.size + 2 ≤ w5.heap.size := by have := hb5.size; omega
        obtain ⟨_, t0_5, t1_5, t2_5, t3_5⟩ := hu5.five
        have tf_5 := hu5.tf
        have HTx := Lib.hid (tx_of_row hrow5)
        have hs23 := HS23.out
        obtain ⟨W6, hW6⟩ : ∃ W6, W6 = w5.setCell ⟨w.heap.size + 1, 3, none⟩ (.slice A5 t.text.length c5) := ⟨_, rfl⟩
        have o_6 : W6.cell? ⟨w3.heap.size, 0, none⟩ = some (.slice A3 ts.length c3) := by rw [hW6]; exact (World.cell?_setCell_other _ _ _ _ (by simp)).trans o_5
        have of_6 : W6.frozen? ⟨w3.heap.size, 0, none⟩ = false := by rw [hW6, World.frozen?_setCell]; exact of_5
        have r_6 : W6.cell? ⟨w.heap.size + 1 + 1, 0, none⟩ = some (.slice none 0 0) := by rw [hW6]; exact (World.cell?_setCell_other _ _ _ _ (by simp)).trans hu5.r
        have rf_6 : W6.frozen? ⟨w.heap.size + 1 + 1, 0, none⟩ = false := by rw [hW6, World.frozen?_setCell]; exact hu5.rf
        have hz6 : W6.heap.size = w5.heap.size := by rw [hW6]; simp
        have hbel6 : Below w.heap.size w W6 := by rw [hW6]; exact hu5.bel.setCell (by show w.heap.size ≤ w.heap.size + 1; omega) _
        have hled6 : LedIs W6 w2.heap.size w3.heap.size (.slice A3 ts.length c3) us := by rw [hW6]; exact (HLed.out.keep hb35 (Nat.le_refl _)).set (by show w.heap.size + 1 < _; omega) _
        have htx6 : TxFr W6 (w3.heap.size + 1) w5.heap.size A5 t.text := by rw [hW6]; exact HTx.out.keep fun b hb _ => Below.heap_setCell _ _ _ _ (by show b ≠ w.heap.size + 1; omega)
        have hl := l1intern_any w3.heap.size w2.heap.size w2.heap.size W6.heap.size A3 c3 us ts t A5 c5 (w3.heap.size + 1) w5.heap.size W6 HUs.out (by rw [HUl.out]; exact o_6) of_6 (by have h := hled6.1; rw [HUl.out] at h ⊢; exact h) (LedIs.tms (c := c3) (by rw [HUl.out]; exact hled6) (by omega) HUs.out HBd.out) (Nat.le_refl _) htx6.bytes.bytes (by omega) (by rw [HUl.out]; omega)
        have HL := Lib.hid hl
        have HLed6 := Lib.hid hled6
        have HTx6 := Lib.hid htx6
        have HBel6 := Lib.hid hbel6
        have HW6 := Lib.hid hW6
        have HSz := Lib.hid (And.intro hrb1 hrb2)
        have HFacts := Lib.hid (And.intro o_6 (And.intro r_6 (And.intro rf_6 hz6)))
        clear hrow5 hgr5 hb5 o_4 of_4 hz4 hu5 hb35 hl hled6 htx6 hbel6 hW6 o_5 of_5 t3_3a t3_4 o_6 of_6 r_6 rf_6 hz6 hrb1 hrb2 HO HE HB34 HU4 HTx
        go_wp2_with fail
        rw [← HW6.out]
        refine HL.out.mono ?_
        obtain ⟨o_6, r_6, rf_6, hz6⟩ := HFacts.out
        rintro e w7 (⟨hm, rfl, hb7⟩ | ⟨hm, rfl, A6, c6, w8, rfl, hb8, hrow8⟩)
        · have o_7 := (hb7.cell (p := ⟨w3.heap.size, 0, none⟩) (by show w3.heap.size < _; omega)).trans o_6
          have r_7 := (hb7.cell (p := ⟨w.heap.size + 1 + 1, 0, none⟩) (by show w.heap.size + 1 + 1 < _; omega)).trans r_6
          have rf_7 := (hb7.frozen (p := ⟨w.heap.size + 1 + 1, 0, none⟩) (by show w.heap.size + 1 + 1 < _; omega)).trans rf_6
          have HM := Lib.hid (intern_old HTb.out hm)
          have HB7 := Lib.hid hb7
          clear hm hb7 o_6 r_6 rf_6 t0_5 t1_5 t2_5 t3_5 tf_5
          go_wp2_with fail
          refine bodyPost_ret (v := .tuple #[.agg #[.slice A3 ts.length c3], .int .i64 (lookI ts t)]) (by simp [results, Try.results26, go_sem, *]) rfl ?_
          rw [HM.out.1, HM.out.2]
          have hled7 : LedIs (w7.setCell ⟨w.heap.size + 1 + 1, 0, none⟩ (.slice A3 ts.length c3)) w2.heap.size w3.heap.size (.slice A3 us.length c3) us := by
            rw [HUl.out]
            exact (HLed6.out.keep HB7.out (by omega)).set (by show w.heap.size + 1 + 1 < _; omega) _
          refine ⟨us, A3, c3, rfl, HUs.out, HBd.out, (hled7.fr (by have := HB7.out.size; simp; omega) (Nat.le_refl _)).low (by omega), ?_⟩
          exact (HBel6.out.trans (HB7.out.mono (by omega))).setCell (by show w.heap.size ≤ w.heap.size + 1 + 1; omega) _
        · have hlt4 : ts.length < 400 := Decidable.byContradiction fun h => HFull.out ⟨hm, h⟩
          have o_8 := (hb8.cell (p := ⟨w3.heap.size, 0, none⟩) (by show w3.heap.size < _; omega)).trans o_6
          have r_8 := (hb8.cell (p := ⟨w.heap.size + 1 + 1, 0, none⟩) (by show w.heap.size + 1 + 1 < _; omega)).trans r_6
          have rf_8 := (hb8.frozen (p := ⟨w.heap.size + 1 + 1, 0, none⟩) (by show w.heap.size + 1 + 1 < _; omega)).trans rf_6
          have q_8 : (w8.setCell ⟨w3.heap.size, 0, none⟩ (.slice A6 (us.length + 1) c6)).cell? ⟨w.heap.size + 1 + 1, 0, none⟩ = some (.slice none 0 0) := (World.cell?_setCell_other _ _ _ _ (by first | (simp; done) | (simp; omega))).trans r_8
          have HM := Lib.hid (intern_new HTb.out hm hlt4)
          have HB8 := Lib.hid hb8
          have HRow8 := Lib.hid hrow8
          clear hm hb8 hrow8 o_6 r_6 rf_6 t0_5 t1_5 t2_5 t3_5 tf_5
          go_wp2_with fail
          refine bodyPost_ret (v := .tuple #[.agg #[.slice A6 (us.length + 1) c6], .int .i64 us.length]) (by simp [results, Try.results26, go_sem, *]) rfl ?_
          rw [HM.out.1, HM.out.2]
          have hxs : (us ++ [(⟨t, A5, c5⟩ : Tx)]).length = us.length + 1 := by simp
          have hfar : ∀ b, b ≠ w3.heap.size → b ≠ w.heap.size + 1 + 1 → ((w8.setCell ⟨w3.heap.size, 0, none⟩ (.slice A6 (us.length + 1) c6)).setCell ⟨w.heap.size + 1 + 1, 0, none⟩ (.slice A6 (us.length + 1) c6)).heap[b]? = w8.heap[b]? := fun b h1 h2 => by
            rw [Below.heap_setCell _ _ _ _ h2, Below.heap_setCell _ _ _ _ h1]
          have hled9 : LedIs ((w8.setCell ⟨w3.heap.size, 0, none⟩ (.slice A6 (us.length + 1) c6)).setCell ⟨w.heap.size + 1 + 1, 0, none⟩ (.slice A6 (us.length + 1) c6)) w2.heap.size w8.heap.size (.slice A6 (us ++ [(⟨t, A5, c5⟩ : Tx)]).length c6) (us ++ [(⟨t, A5, c5⟩ : Tx)]) := by
            refine ⟨?_, ?_⟩
            · rw [hxs, rowT_snoc]
              exact ownsRow_setCell_below (ownsRow_low (ownsRow_setCell_below HRow8.out (by show w3.heap.size < _; omega) _) (by omega)) (by show w.heap.size + 1 + 1 < _; omega) _
            · refine TxChain.snoc (M := w3.heap.size + 1) ((HLed6.out.2.keep fun b hb hb' => ?_).mono (by omega)) ((HTx6.out.keep fun b hb hb' => ?_).mono (by have := HB8.out.size; omega)) (by have := HB8.out.size; omega)
              · rw [hfar b (by omega) (by omega)]
                exact HB8.out.block b (by omega)
              · rw [hfar b (by omega) (by omega)]
                exact HB8.out.block b (by omega)
          refine ⟨us ++ [⟨t, A5, c5⟩], A6, c6, ?_, ?_, ?_, (hled9.fr (by simp) (Nat.le_refl _)).low (by omega), ?_⟩
          · rw [List.length_append, HUl.out]
            rfl
          · rw [List.map_append, HUs.out]
            rfl
          · intro x hx
            rcases List.mem_append.1 hx with h | h
            · exact HBd.out x h
            · simp only [List.mem_singleton] at h; subst h; exact HSz.out
          · exact ((HBel6.out.trans (HB8.out.mono (by omega))).setCell (by show w.heap.size ≤ w3.heap.size; omega) _).setCell (by show w.heap.size ≤ w.heap.size + 1 + 1; omega) _
end

end Go.Proofs.Ytgogapgkgbffpaa
