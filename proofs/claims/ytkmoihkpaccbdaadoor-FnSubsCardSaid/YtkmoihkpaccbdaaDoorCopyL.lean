/-
  The program's copy of a ledger: a row of its own, with room for one more, and texts of their own.
-/
import Derived.Test.YtkmoihkpaccbdaaDoorLed
namespace Go.Proofs.YtkmoihkpaccbdaaDoor
open Go.RowKit Go.Maps

theorem row_bounds {w : World} {base : Nat} {e : TypeId} {size n c : Nat} {A : Option Addr} {xs : List Value} (h : w.ownsRow base e size (.slice A n c) n xs) : n ≤ c ∧ c ≤ maxLen := by
  obtain ⟨_, ⟨h, hn⟩ | ⟨g, cap, cur, hv, _, _, h1, h2, _⟩⟩ := h
  · injection h with _ h3 h4
    subst h4
    exact ⟨by omega, by unfold maxLen; omega⟩
  · injection hv with _ _ h3
    subst h3
    exact ⟨h1, h2⟩

set_option maxRecDepth 100000 in
set_option maxHeartbeats 1000000 in
theorem copyTerm_tx (t : Tm) (g c L B : Nat) (w : World) (hA : BytesIn w L B (some ⟨g, 0, none⟩) t.text) (hB : B ≤ w.heap.size) (hn : t.text.length ≤ 1048576) :
    Calls Tryd.prog 43 #[.agg #[.int .i64 t.kind, .int .i64 t.a, .int .i64 t.b, .slice (some ⟨g, 0, none⟩) t.text.length c]] w (NewTmX t w) := by
  obtain ⟨i0, hi, hz0, hz1, hz2⟩ := info_parts Tryd.info5
  have HA := Lib.hid hA
  clear hA
  go_enter Tryd.func43, Tryd.ntmps43
  obtain ⟨W0, hW0⟩ : ∃ W0, W0 = ((w.alloc (.cells #[.int .i64 t.kind, .int .i64 t.a, .int .i64 t.b, .slice (some ⟨g, 0, none⟩) t.text.length c] 71)).alloc (.cells #[.int .i64 0, .int .i64 0, .int .i64 0, .slice none 0 0] 71)) := ⟨_, rfl⟩
  have hb0 : Below w.heap.size w W0 := by subst hW0; exact ((Below.refl _ _).alloc (Nat.le_refl _) _).alloc (by simp) _
  have hb := Lib.hid (HA.out.keep fun p _ hp => hb0.cell (by omega))
  have hs0 : W0.heap.size = w.heap.size + 1 + 1 := by subst hW0; simp
  have HB0 := Lib.hid hb0
  clear hb0
  subst hW0
  go_wp2_with (at_builtin; refine wpList_append_own _ rfl _ _ 22 rfl (w.heap.size + 1 + 1) 5 i0 (.int .u8 0) 1 1 Tryd.underlying22 hi hz0 hz1 hz2 rfl (by decide) _ _ _ rfl (World.ownsRow_nil _ _ _ _) ⟨g, 0, none⟩ t.text.length c (vbytes t.text) rfl ?c0 ?c1 ?c2 ?c3 ?c4 ?c5 ?_)
  case c0 => rw [vbytes_length]; omega
  case c1 => exact vbytes_at hb.out
  case c2 => exact vbytes_one _
  case c3 => unfold maxLen; omega
  case c4 => omega
  case c5 => simp
  intro v' w5 hrow5 hgr5 _
  obtain ⟨A5, c5, rfl⟩ := row_shape hrow5
  have hb5 := Lib.hid (show Below _ _ w5 from ⟨hgr5.os, hgr5.tape, hgr5.output, hgr5.size, fun k hk => hgr5.block k hk (fun h => by cases h)⟩)
  have HRow5 := Lib.hid hrow5
  have c0 : w5.cell? ⟨w.heap.size, 0, none⟩ = some (.int .i64 t.kind) := (hb5.out.cell (p := ⟨w.heap.size, 0, none⟩) (by simp; omega)).trans (by simp)
  have c1 : w5.cell? ⟨w.heap.size, 1, none⟩ = some (.int .i64 t.a) := (hb5.out.cell (p := ⟨w.heap.size, 1, none⟩) (by simp; omega)).trans (by simp)
  have c2 : w5.cell? ⟨w.heap.size, 2, none⟩ = some (.int .i64 t.b) := (hb5.out.cell (p := ⟨w.heap.size, 2, none⟩) (by simp; omega)).trans (by simp)
  have c3 : w5.cell? ⟨w.heap.size, 3, none⟩ = some (.slice (some ⟨g, 0, none⟩) t.text.length c) := (hb5.out.cell (p := ⟨w.heap.size, 3, none⟩) (by simp; omega)).trans (by simp)
  have r0 : w5.cell? ⟨w.heap.size + 1, 0, none⟩ = some (.int .i64 0) := (hb5.out.cell (p := ⟨w.heap.size + 1, 0, none⟩) (by simp)).trans (by simp)
  have r1 : w5.cell? ⟨w.heap.size + 1, 1, none⟩ = some (.int .i64 0) := (hb5.out.cell (p := ⟨w.heap.size + 1, 1, none⟩) (by simp)).trans (by simp)
  have r2 : w5.cell? ⟨w.heap.size + 1, 2, none⟩ = some (.int .i64 0) := (hb5.out.cell (p := ⟨w.heap.size + 1, 2, none⟩) (by simp)).trans (by simp)
  have r3 : w5.cell? ⟨w.heap.size + 1, 3, none⟩ = some (.slice none 0 0) := (hb5.out.cell (p := ⟨w.heap.size + 1, 3, none⟩) (by simp)).trans (by simp)
  have f3 : w5.frozen? ⟨w.heap.size, 3, none⟩ = false := (hb5.out.frozen (p := ⟨w.heap.size, 3, none⟩) (by simp; omega)).trans (by simp)
  have e0 : w5.frozen? ⟨w.heap.size + 1, 0, none⟩ = false := (hb5.out.frozen (p := ⟨w.heap.size + 1, 0, none⟩) (by simp)).trans (by simp)
  have e1 : w5.frozen? ⟨w.heap.size + 1, 1, none⟩ = false := (hb5.out.frozen (p := ⟨w.heap.size + 1, 1, none⟩) (by simp)).trans (by simp)
  have e2 : w5.frozen? ⟨w.heap.size + 1, 2, none⟩ = false := (hb5.out.frozen (p := ⟨w.heap.size + 1, 2, none⟩) (by simp)).trans (by simp)
  have e3 : w5.frozen? ⟨w.heap.size + 1, 3, none⟩ = false := (hb5.out.frozen (p := ⟨w.heap.size + 1, 3, none⟩) (by simp)).trans (by simp)
  have HBw := Lib.hid (HB0.out.trans (hb5.out.mono (by omega)))
  have hz5 : w.heap.size + 1 < w5.heap.size := by have := hb5.out.size; simp at this; omega
  clear hrow5 hgr5
  go_wp2_with fail
  refine bodyPost_ret (v := .agg #[.int .i64 t.kind, .int .i64 t.a, .int .i64 t.b, .slice A5 t.text.length c5]) (by simp [results, Tryd.results43, go_sem, *]) rfl ?_
  obtain ⟨hb1, hb2⟩ := row_bounds HRow5.out
  refine ⟨A5, c5, rfl, hb1, hb2, ?_, ?_⟩
  · refine TxFr.mono (TxFr.low ((tx_of_row HRow5.out).keep fun b hp _ => ?_) (by omega)) (by simp)
    rw [Below.heap_setCell _ _ _ _ (by simp; omega), Below.heap_setCell _ _ _ _ (by simp; omega), Below.heap_setCell _ _ _ _ (by simp; omega), Below.heap_setCell _ _ _ _ (by simp; omega), Below.heap_setCell _ _ _ _ (by simp; omega)]
  · refine ((((HBw.out.setCell ?_ _).setCell ?_ _).setCell ?_ _).setCell ?_ _).setCell ?_ _
    all_goals first | (simp; done) | (simp; omega)

/-- 'make([]Term, 0, n)': a row of none, with room for n. -/
theorem run_make_room (n : Nat) (hn : n ≤ 1048577) (w : World) :
    (Instr.makeSlice 23 (.int .i64 0) (.int .i64 (n : Int))).run Tryd.prog w = .ok (.slice (some ⟨w.heap.size, 0, none⟩) 0 n) (w.alloc (.cells (madeCells #[.int .i64 0, .int .i64 0, .int .i64 0, .slice none 0 0] (n * 4)) 71)) := by
  obtain ⟨i0, hi, hz0, hz1, hz2⟩ := info_parts Tryd.info35
  have hr := run_make (P := Tryd.prog) w 23 71 i0 _ Tryd.underlying23 hi hz0 .i64 .i64 0 n (by omega) (by omega) (by rw [hz2]; omega) (by omega)
  simp only [Int.toNat_natCast, hz1] at hr
  exact hr

theorem owns_room (w : World) (n : Nat) (hn : n ≤ 1048577) : (w.alloc (.cells (madeCells #[.int .i64 0, .int .i64 0, .int .i64 0, .slice none 0 0] (n * 4)) 71)).ownsRow w.heap.size 71 4 (.slice (some ⟨w.heap.size, 0, none⟩) 0 n) 0 [] :=
  ⟨rfl, .inr ⟨w.heap.size, n, _, rfl, Nat.le_refl _, heap_alloc_new w _, Nat.zero_le _, by unfold maxLen; omega, size_madeCells _ _, by simp⟩⟩

theorem TxFr.keepT {w w' : World} {L B : Nat} {A : Option Addr} {l : List UInt8} (h : TxFr w L B A l) (hk : ∀ b cur, L ≤ b → b < B → w.heap[b]? = some (.cells cur 5 (0, 0)) → w'.heap[b]? = w.heap[b]?) : TxFr w' L B A l := fun hl => by
  obtain ⟨b, cur, e, hL, hb, hh, hc⟩ := h hl
  exact ⟨b, cur, e, hL, hb, (hk b cur hL hb hh).trans hh, hc⟩
theorem TxChain.keepT {w w' : World} {L B : Nat} {us : List Tx} (h : TxChain w L us B) (hk : ∀ b cur, L ≤ b → b < B → w.heap[b]? = some (.cells cur 5 (0, 0)) → w'.heap[b]? = w.heap[b]?) : TxChain w' L us B := by
  induction us generalizing L with
  | nil => exact h
  | cons x xs ih =>
    obtain ⟨M, hM, ht, hr⟩ := h
    have hle := hr.le
    exact ⟨M, hM, ht.keepT fun b cur h1 h2 => hk b cur h1 (by omega), ih hr fun b cur h1 h2 => hk b cur (by omega) h2⟩

theorem own_type {w : World} {base : Nat} {e : TypeId} {size n : Nat} {v : Value} {xs : List Value} (h : w.ownsRow base e size v n xs) {g : Nat} (hg : v.ownBlock = some g) : ∃ cur, w.heap[g]? = some (.cells cur e (0, 0)) := by
  obtain ⟨_, ⟨h, _⟩ | ⟨g', cap, cur, hv, _, hb, _⟩⟩ := h
  · rw [h] at hg; cases hg
  · rw [hv] at hg
    cases hg
    exact ⟨cur, hb⟩


theorem ownsRow_low {w : World} {base base' : Nat} {e : TypeId} {size n : Nat} {v : Value} {xs : List Value} (h : w.ownsRow base e size v n xs) (hb : base' ≤ base) : w.ownsRow base' e size v n xs := by
  obtain ⟨h1, h | ⟨g, cap, cur, hv, hg, h3⟩⟩ := h
  · exact ⟨h1, .inl h⟩
  · exact ⟨h1, .inr ⟨g, cap, cur, hv, by omega, h3⟩⟩

/-- Where a row of terms grows, no block of bytes turns. -/
theorem chain_grown {w w' : World} {base L B : Nat} {v : Value} {n : Nat} {xs : List Value} {us : List Tx} (h : TxChain w L us B) (hown : w.ownsRow base 71 4 v n xs) (hg : w.grownBy w' v.ownBlock) (hB : B ≤ w.heap.size) : TxChain w' L us B :=
  h.keepT fun b cur _ hb hh => hg.block b (by omega) (fun e => by
    obtain ⟨cur', hh'⟩ := own_type hown e.symm
    rw [hh] at hh'
    cases hh')

theorem news4 (w : World) (v0 v1 v2 v3 : Value) (t : TypeId) : ∀ j u, [v0, v1, v2, v3][j]? = some u → (w.alloc (.cells #[v0, v1, v2, v3] t)).cell? ((⟨w.heap.size, 0, none⟩ : Addr).add j) = some u := fun j u hu => by
  rw [Addr.add_lit, Nat.zero_add, World.cell?, heap_alloc_new]
  simpa using hu

/-- A ledger of its own is handed back. -/
def NewLed (ts : List Tm) (w : World) (e : Ending) (w' : World) : Prop :=
  ∃ (us : List Tx) (A : Option Addr) (c : Nat), e = .returned (.agg #[.slice A ts.length c]) ∧ us.map (·.t) = ts ∧ (∀ x ∈ us, x.t.text.length ≤ x.c ∧ x.c ≤ maxLen) ∧ LedIs w' w.heap.size w'.heap.size (.slice A ts.length c) us ∧ Below w.heap.size w w'

set_option maxRecDepth 100000 in
set_option maxHeartbeats 2000000 in
theorem copyLedger_any (R B : Nat) (ts : List Tm) (c : Nat) (w : World) (hA : CopyIn w R B ts) (hN : NoNil w R ts) (hR : R < B) (hB : B ≤ w.heap.size) (hn : ts.length ≤ 1048576) (hbk : bulk ts ≤ 1048576) :
    Calls Tryd.prog 42 #[.agg #[.slice (some ⟨R, 0, none⟩) ts.length c]] w (NewLed ts w) := by
  have HA := Lib.hid hA
  have HN := Lib.hid hN
  have hmk := run_make_room (ts.length + 1) (by omega)
  rw [show ((ts.length + 1 : Nat) : Int) = (ts.length : Int) + 1 from rfl] at hmk
  clear hA hN
  go_enter Tryd.func42, Tryd.ntmps42
  go_wp2_with fail
  clear hmk
  obtain ⟨W0, hW0⟩ : ∃ W0, W0 = (w.alloc (.cells #[.slice (some ⟨R, 0, none⟩) ts.length c] 25)).alloc (.cells #[.slice none 0 0] 25) := ⟨_, rfl⟩
  have hb0 : Below w.heap.size w W0 := by subst hW0; exact ((Below.refl _ _).alloc (Nat.le_refl _) _).alloc (by simp) _
  have r0 : W0.cell? ⟨w.heap.size + 1, 0, none⟩ = some (.slice none 0 0) := by subst hW0; simp
  have rf : W0.frozen? ⟨w.heap.size + 1, 0, none⟩ = false := by subst hW0; simp
  have hs0 : w.heap.size + 1 + 1 = W0.heap.size := by subst hW0; simp
  rw [← hW0, hs0]
  have HB0 := Lib.hid hb0
  clear hb0 hW0
  go_loopw [3, 14] (fun x i wr => ∃ (k : Nat) (us : List Tx) (A' : Option Addr) (c' : Nat), k ≤ ts.length ∧ i = .int .i64 k ∧ x = .slice A' k c' ∧ us.map (·.t) = ts.take k ∧ (∀ x ∈ us, x.t.text.length ≤ x.c ∧ x.c ≤ maxLen) ∧ wr.ownsRow W0.heap.size 71 4 (.slice A' k c') k (rowT us) ∧ TxChain wr W0.heap.size us wr.heap.size ∧ Below W0.heap.size W0 wr) (fun _ i _ => ts.length - (intOf i).toNat)
  case atStart => exact ⟨0, [], _, _, Nat.zero_le _, rfl, rfl, by simp, by simp, owns_room W0 _ (by omega), by simp [TxChain], (Below.refl _ _).alloc (Nat.le_refl _) _⟩
  case round =>
    obtain ⟨k, us, A', c', hk, rfl, rfl, hus, hbd, hown, hch, hbel⟩ := hrel
    have HUs := Lib.hid hus
    have HBd := Lib.hid hbd
    have HOwn := Lib.hid hown
    have HCh := Lib.hid hch
    have HBel := Lib.hid hbel
    have hzr := hbel.size
    clear hus hbd hown hch hbel
    by_cases hlt : k < ts.length
    · have hbw : Below w.heap.size w wr := HB0.out.trans (HBel.out.mono (by omega))
      obtain ⟨A2, c2, x0, x1, x2, x3, _, _, hby⟩ := (HA.out.keep (w' := wr) (fun p _ hp => hbw.cell (by omega)) hR) k hlt
      obtain ⟨g, hg⟩ := HN.out k hlt
      have hg2 := (hbw.cell (p := ⟨R, k * 4 + 3, none⟩) (by show R < _; omega)).trans hg
      rw [x3] at hg2
      simp only [Option.some.injEq, Value.slice.injEq] at hg2
      obtain ⟨rfl, _, rfl⟩ := hg2
      have hle := text_le_bulk ts k hlt
      have HY := Lib.hid hby
      have hba : Below wr.heap.size wr (wr.alloc (.cells #[.int .i64 ts[k].kind, .int .i64 ts[k].a, .int .i64 ts[k].b, .slice (some ⟨g, 0, none⟩) ts[k].text.length ts[k].text.length] 71)) := (Below.refl _ _).alloc (Nat.le_refl _) _
      have HBa := Lib.hid hba
      clear hby hg hbw hba
      go_wp2_with fail
      refine (copyTerm_tx ts[k] g _ (R + 1) B _ (HY.out.keep fun p _ hp => HBa.out.cell (by omega)) (by simp; omega) (by omega)).mono ?_
      rintro e w2 ⟨A3, c3, rfl, hc3, hm3, htx, hb2⟩
      have hb12 := HBa.out.trans (hb2.mono (by simp))
      have hz2 : wr.heap.size + 1 ≤ w2.heap.size := by simpa using hb2.size
      have hgn : wr.grownBy w2 none := grown_of_below hb12
      have HOwn2 := Lib.hid (HOwn.out.kept hgn (by cases h : (Value.slice A' k c').ownBlock <;> simp))
      have HCh2 := Lib.hid ((HCh.out.keep (w' := w2) fun b _ hb => hb12.block b hb).snoc (x := ⟨ts[k], A3, c3⟩) (B := w2.heap.size) (by have := htx.low (L' := wr.heap.size) (by simp); exact this) (by omega))
      have HBel2 := Lib.hid (HBel.out.trans (hb12.mono (by omega)))
      have HBd2 := Lib.hid (show ∀ x ∈ us ++ [(⟨ts[k], A3, c3⟩ : Tx)], x.t.text.length ≤ x.c ∧ x.c ≤ maxLen from fun x hx => by
        rcases List.mem_append.1 hx with h | h
        · exact HBd.out x h
        · simp only [List.mem_singleton] at h; subst h; exact ⟨hc3, hm3⟩)
      obtain ⟨i0, hi, hz0, hz1', hz2'⟩ := info_parts Tryd.info35
      clear htx hb2 hb12 hgn x0 x1 x2 x3
      go_wp2_with (at_builtin; refine wpList_append_own _ rfl _ _ 23 rfl W0.heap.size 71 i0 (.agg #[.int .i64 0, .int .i64 0, .int .i64 0, .slice none 0 0]) 4 48 Tryd.underlying23 hi hz0 hz1' hz2' rfl (by decide) _ _ _ rfl (HOwn2.out.alloc _) ⟨w2.heap.size, 0, none⟩ 1 1 [.int .i64 ts[k].kind, .int .i64 ts[k].a, .int .i64 ts[k].b, .slice A3 ts[k].text.length c3] rfl rfl ?c1 ?c2 ?c3 ?c4 ?c5 ?_)
      case c1 => exact news4 _ _ _ _ _ _
      case c2 => intro u hu; simp at hu; rcases hu with rfl | rfl | rfl | rfl <;> rfl
      case c3 => unfold maxLen; omega
      case c4 => omega
      case c5 => simp; omega
      intro v' w5 hrow5 hgr5 _
      obtain ⟨A5, c5, rfl⟩ := row_shapeN hrow5
      have hba : Below w2.heap.size w2 (w2.alloc (.cells #[.int .i64 ts[k].kind, .int .i64 ts[k].a, .int .i64 ts[k].b, .slice A3 ts[k].text.length c3] 71)) := (Below.refl _ _).alloc (Nat.le_refl _) _
      have HCh5 := Lib.hid ((chain_grown (HCh2.out.keep fun b _ hb => hba.block b hb) (HOwn2.out.alloc _) hgr5 (by simp)).mono (B' := w5.heap.size) (by have := hgr5.size; simp at this; omega))
      have HB5 := Lib.hid ((HBel2.out.alloc (by omega) (.cells #[.int .i64 ts[k].kind, .int .i64 ts[k].a, .int .i64 ts[k].b, .slice A3 ts[k].text.length c3] 71)).grown hgr5 (by simp; omega) (fun g hg => (HOwn2.out.lt g hg).1))
      have HRow5 := Lib.hid hrow5
      clear hrow5 hgr5 hba
      go_wp2_with fail
      go_roundw
      case rel =>
        refine ⟨k + 1, us ++ [⟨ts[k], A3, c3⟩], A5, c5, by omega, by go_num, rfl, ?_, HBd2.out, ?_, HCh5.out, HB5.out⟩
        · rw [List.map_append, HUs.out, List.take_succ_eq_append_getElem hlt]
          rfl
        · rw [rowT_snoc]
          exact HRow5.out
      case measure => simp [intOf]; omega
    · have hke : k = ts.length := by omega
      have hul : us.length = ts.length := by
        have h := congrArg List.length HUs.out
        rw [List.length_map, List.length_take] at h
        omega
      have e0 := (HBel.out.cell (p := ⟨w.heap.size + 1, 0, none⟩) (by show w.heap.size + 1 < _; omega)).trans r0
      have e1 := (HBel.out.frozen (p := ⟨w.heap.size + 1, 0, none⟩) (by show w.heap.size + 1 < _; omega)).trans rf
      have HFin := Lib.hid (show us.map (·.t) = ts by rw [HUs.out, hke, List.take_length])
      subst hke
      go_wp2_with fail
      refine bodyPost_ret (v := .agg #[.slice A' ts.length c']) (by simp [results, Tryd.results42, go_sem, *]) rfl ?_
      refine ⟨us, A', c', rfl, HFin.out, HBd.out, ⟨?_, ?_⟩, ?_⟩
      · rw [hul]
        exact ownsRow_low (ownsRow_setCell_below HOwn.out (by show w.heap.size + 1 < _; omega) _) (by omega)
      · refine TxChain.mono (TxChain.low (HCh.out.keep fun b hb _ => Below.heap_setCell _ _ _ _ (by simp; omega)) (by omega)) (by simp)
      · exact (HB0.out.trans (HBel.out.mono (by omega))).setCell (by show w.heap.size ≤ w.heap.size + 1; omega) _

end Go.Proofs.YtkmoihkpaccbdaaDoor
