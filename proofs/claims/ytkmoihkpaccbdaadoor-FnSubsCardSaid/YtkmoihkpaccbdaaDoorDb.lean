/-
  The draw's bent ledger.
-/
import Derived.Deep.RegionLaw
import Derived.Test.YtkmoihkpaccbdaaDoorDd
import Derived.Test.YtkmoihkpaccbdaaDoorInternI
namespace Go.Proofs.YtkmoihkpaccbdaaDoor
open Go.RowKit Go.Maps

/-- A term of a bent ledger. -/
structure BentT (t : Tm) : Prop where
  text : t.text.length ≤ 2
  low : t.kind ≤ 1 → t.a < 4 ∨ 999 ≤ t.a

/-- A ledger, bent or not, is drawn. -/
def NewBent (K : Nat) (code : List UInt8) (w : World) (e : Ending) (w' : World) : Prop :=
  ∃ (ts : List Tm) (A : Option Addr) (c : Nat), e = .returned (.agg #[.slice A ts.length c]) ∧ ts.length ≤ 32 ∧ bulk ts ≤ 64 ∧ (∀ t ∈ ts, BentT t) ∧ TmsIn w' w.heap.size w'.heap.size A ts ∧ Cur w' K code ∧ OffK K w w'

/-- The drawn ledger in its variable, as long as the region runs. -/
structure De (w : World) (K : Nat) (code : List UInt8) (b : Nat) (A : Option Addr) (c : Nat) (us : List Tx) (W : World) : Prop where
  oh : ∃ cs, W.heap[b]? = some (.cells cs 25 (0, 0))
  cb : W.cell? ⟨b, 0, none⟩ = some (.slice A us.length c)
  fb : W.frozen? ⟨b, 0, none⟩ = false
  r : W.cell? ⟨w.heap.size, 0, none⟩ = some (.slice none 0 0)
  rf : W.frozen? ⟨w.heap.size, 0, none⟩ = false
  row : W.ownsRow (w.heap.size + 1) 71 4 (.slice A us.length c) us.length (rowT us)
  bd : ∀ x ∈ us, x.t.text.length ≤ x.c ∧ x.c ≤ maxLen
  ch : TxChain W (w.heap.size + 1) us b
  cur : Cur W K code
  off : OffK K w W
  hK : K < w.heap.size
  hb : w.heap.size < b

section
variable {w W W' : World} {K b B : Nat} {code : List UInt8} {A : Option Addr} {c : Nat} {us : List Tx}
theorem De.lt (h : De w K code b A c us W) : b < W.heap.size := World.block_lt_of_cell? W _ h.cb
theorem De.of_off (h : De w K code b A c us W) (ho : OffK K W W') (hc : Cur W' K code) : De w K code b A c us W' := by
  have hlt := h.lt
  have hK := h.hK
  have hb := h.hb
  obtain ⟨cs, hcs⟩ := h.oh
  refine ⟨⟨cs, (ho.block b hlt (fun e => by injection e with e; omega)).trans hcs⟩, (ho.cell (p := ⟨b, 0, none⟩) hlt (by show b ≠ K; omega)).trans h.cb, (ho.frozen (p := ⟨b, 0, none⟩) hlt (by show b ≠ K; omega)).trans h.fb,
    (ho.cell (p := ⟨w.heap.size, 0, none⟩) (by show w.heap.size < _; omega) (by show w.heap.size ≠ K; omega)).trans h.r, (ho.frozen (p := ⟨w.heap.size, 0, none⟩) (by show w.heap.size < _; omega) (by show w.heap.size ≠ K; omega)).trans h.rf,
    h.row.kept ho ?_, h.bd, h.ch.keep fun i hi hi2 => ho.block i (by omega) (fun e => by injection e with e; omega), hc, h.off.trans ho (.inl rfl), hK, hb⟩
  cases hq : (Value.slice A us.length c).ownBlock with
  | none => exact .inr (by simp)
  | some g => exact .inr (fun e => by
      injection e with e
      have := (h.row.lt g hq).1
      omega)
theorem De.of_below (h : De w K code b A c us W) (hb : Below W.heap.size W W') : De w K code b A c us W' :=
  h.of_off (OffK.of_below hb (Nat.le_refl _)) (h.cur.below hb h.cur.lt)
theorem De.drew (h : De w K code b A c us W) : De w K code b A c us W.drew := h.of_below (Below.refl _ _).drew
theorem De.alloc (h : De w K code b A c us W) (o : Obj) : De w K code b A c us (W.alloc o) := h.of_below ((Below.refl _ _).alloc (Nat.le_refl _) _)

theorem De.fin (h : De w K code b A c us W) (vs : List Tx) (A7 : Option Addr) (c7 : Nat) (w7 : World) (hg : W.grownBy w7 (Value.slice A us.length c).ownBlock) (hrow : w7.ownsRow (w.heap.size + 1) 71 4 (.slice A7 vs.length c7) vs.length (rowT vs))
    (hvs : ∀ x ∈ vs, x ∈ us ∨ (x.t.text = [] ∧ x.c = 0)) (hl : vs.length ≤ 32) (hbk : bulk (vs.map (·.t)) ≤ 64) (hall : ∀ x ∈ vs, BentT x.t) :
    (w7.cell? ⟨b, 0, none⟩ = some (.slice A us.length c) ∧ w7.frozen? ⟨b, 0, none⟩ = false ∧ w7.cell? ⟨w.heap.size, 0, none⟩ = some (.slice none 0 0) ∧ w7.frozen? ⟨w.heap.size, 0, none⟩ = false) ∧
    ∀ V V', NewBent K code w (.returned (.agg #[.slice A7 vs.length c7])) ((w7.setCell ⟨b, 0, none⟩ V).setCell ⟨w.heap.size, 0, none⟩ V') := by
  have hlt := h.lt
  have hK := h.hK
  have hb := h.hb
  obtain ⟨cs, hcs⟩ := h.oh
  have hne : (Value.slice A us.length c).ownBlock ≠ some b := own_far h.row hcs (by decide)
  have hbase : ∀ k, (Value.slice A us.length c).ownBlock = some k → w.heap.size + 1 ≤ k := fun k e => (h.row.lt k e).1
  have hcs7 : w7.heap[b]? = some (.cells cs 25 (0, 0)) := heap_grown_at hg hcs (fun e => hne e.symm)
  have hne7 : (Value.slice A7 vs.length c7).ownBlock ≠ some b := own_far hrow hcs7 (by decide)
  have hlt7 := hg.size
  refine ⟨⟨cell_grown_at hg h.cb (fun e => hne e.symm), frozen_grown_at hg hlt h.fb (fun e => hne e.symm), cell_grown_at hg h.r (fun e => by have : w.heap.size + 1 ≤ w.heap.size := hbase _ e.symm; omega), frozen_grown_at hg (by show w.heap.size < _; omega) h.rf (fun e => by have : w.heap.size + 1 ≤ w.heap.size := hbase _ e.symm; omega)⟩, fun V V' => ?_⟩
  have hch7 : TxChain w7 (w.heap.size + 1) us b := chain_grown h.ch h.row hg (by omega)
  have htx : ∀ x ∈ us, BytesIn ((w7.setCell ⟨b, 0, none⟩ V).setCell ⟨w.heap.size, 0, none⟩ V') (w.heap.size + 1) ((w7.setCell ⟨b, 0, none⟩ V).setCell ⟨w.heap.size, 0, none⟩ V').heap.size x.A x.t.text := fun x hx => by
    obtain ⟨i, hi, rfl⟩ := List.getElem_of_mem hx
    refine BytesIn.mono ((hch7.at i hi).bytes.bytes.keep fun p hp hp2 => ?_) (by simp; omega)
    rw [World.cell?_setCell_other _ _ _ _ (fun e => by subst e; exact absurd hp (by show ¬ (w.heap.size + 1 ≤ w.heap.size); omega)), World.cell?_setCell_other _ _ _ _ (fun e => by subst e; exact absurd hp2 (Nat.lt_irrefl b))]
  have hcur7 : Cur w7 K code := by
    obtain ⟨A1, c1, i1, x1, k1, k2, k3, k4, k5, k6, k7⟩ := h.cur
    have hKne : some K ≠ (Value.slice A us.length c).ownBlock := fun e => by have := hbase _ e.symm; omega
    have hKl : K < W.heap.size := by omega
    refine ⟨A1, c1, i1, x1, k1, cell_grown_at hg k2 hKne, cell_grown_at hg k3 hKne, cell_grown_at hg k4 hKne, frozen_grown_at hg hKl k5 hKne, frozen_grown_at hg hKl k6 hKne, ?_⟩
    exact k7.keep fun p _ hp => World.cell?_of_block (hg.block _ (by omega) (fun e => by have := hbase _ e.symm; omega))
  refine ⟨vs.map (·.t), A7, c7, by simp, by simpa using hl, hbk, fun t ht => ?_, ?_, (hcur7.set (by show K < b; omega) _).set hK _, ?_⟩
  · obtain ⟨x, hx, rfl⟩ := List.mem_map.1 ht
    exact hall x hx
  · refine TmsIn.low (tms_of_row (base := w.heap.size + 1) (c := c7) ?_ fun x hx => ?_) (by omega)
    · refine ownsRow_setCell_below ?_ (by show w.heap.size < w.heap.size + 1; omega) _
      exact hrow.kept (grown_set w7 b V) (.inr hne7)
    · rcases hvs x hx with h1 | ⟨h1, h2⟩
      · exact ⟨(h.bd x h1).1, (h.bd x h1).2, htx x h1⟩
      · rw [h1, h2]
        exact ⟨Nat.le_refl _, by unfold maxLen; omega, fun h => absurd h (by simp)⟩
  · refine OffK.setCell (OffK.setCell ?_ (.inr (by show w.heap.size ≤ b; omega)) _) (.inr (by show w.heap.size ≤ w.heap.size; omega)) _
    exact ⟨hg.os.trans h.off.os, hg.tape.trans h.off.tape, hg.output.trans h.off.output, Nat.le_trans h.off.size hg.size, fun i hi hT => (hg.block i (by have := h.off.size; omega) (fun e => by have := hbase _ e.symm; omega)).trans (h.off.block i hi hT)⟩
theorem De.still (h : De w K code b A c us W) (hl : us.length ≤ 32) (hall : ∀ x ∈ us, SomeT 16 x.t) (hbk : bulk (us.map (·.t)) ≤ 64) (V' : Value) :
    NewBent K code w (.returned (.agg #[.slice A us.length c])) (W.setCell ⟨w.heap.size, 0, none⟩ V') := by
  have hK := h.hK
  have hb := h.hb
  have hlt := h.lt
  refine ⟨us.map (·.t), A, c, by simp, by simpa using hl, hbk, fun t ht => ?_, ?_, h.cur.set hK _, h.off.setCell (.inr (Nat.le_refl _)) _⟩
  · obtain ⟨x, hx, rfl⟩ := List.mem_map.1 ht
    exact ⟨(hall x hx).text, fun hk => .inl ((hall x hx).low hk)⟩
  · refine TmsIn.low (tms_of_row (base := w.heap.size + 1) (c := c) ?_ fun x hx => ⟨(h.bd x hx).1, (h.bd x hx).2, ?_⟩) (by omega)
    · exact ownsRow_setCell_below h.row (by show w.heap.size < w.heap.size + 1; omega) _
    · obtain ⟨i, hi, rfl⟩ := List.getElem_of_mem hx
      refine BytesIn.mono ((h.ch.at i hi).bytes.bytes.keep fun p hp hp2 => ?_) (by simp; omega)
      rw [World.cell?_setCell_other _ _ _ _ (fun e => by subst e; exact absurd hp (by show ¬ (w.heap.size + 1 ≤ w.heap.size); omega))]
end

/-- One more term behind the drawn ones, as a step of a region. -/
theorem De.step {ops : Array Oper} {o : Oper} {a : Act} {Q : Exit → Act → World → Prop} {E : Prop} {w Y : World} {K b : Nat} {code : List UInt8} {A : Option Addr} {c : Nat} {us : List Tx} {KK : Act → World → Prop} (h : De w K code b A c us Y) (hul : us.length ≤ 16) (hall : ∀ x ∈ us, SomeT 16 x.t) (hgd : o.guard = none) (s x : Operand)
    (ho : o.op = .call { callee := .builtin .append, args := #[s, x], argTypes := #[23, 23] }) (hs : a.eval s = .slice A us.length c) (g : Nat) (k y : Int) (hx : a.eval x = .slice (some ⟨g, 0, none⟩) 1 1)
    (hg : Y.heap[g]? = some (.cells #[.int .i64 k, .int .i64 y, .int .i64 0, .slice none 0 0] 71 (0, 0))) (hk : k ≤ 1 → y < 4 ∨ 999 ≤ y)
    (hK : ∀ A7 c7 w7, ((w7.cell? ⟨b, 0, none⟩ = some (.slice A us.length c) ∧ w7.frozen? ⟨b, 0, none⟩ = false ∧ w7.cell? ⟨w.heap.size, 0, none⟩ = some (.slice none 0 0) ∧ w7.frozen? ⟨w.heap.size, 0, none⟩ = false) ∧
      ∀ V V', NewBent K code w (.returned (.agg #[.slice A7 (us.length + 1) c7])) ((w7.setCell ⟨b, 0, none⟩ V).setCell ⟨w.heap.size, 0, none⟩ V')) → KK (a.put o.dst (.slice A7 (us.length + 1) c7)) w7) :
    if Region.wanted o (yielded ops a.tmps) = true then Oper.wp Tryd.prog o a Y KK Q else E := by
  obtain ⟨i1, hi1, hy0, hy1, hy2⟩ := info_parts Tryd.info35
  refine step_append_row Y hgd s x 23 ho (w.heap.size + 1) 0 71 i1 _ 4 48 Tryd.underlying23 hi1 hy0 hy1 hy2 rfl (by decide) (.slice A us.length c) us.length (rowT us) hs h.row (.slice (some ⟨g, 0, none⟩) 1 1) 1 [.int .i64 k, .int .i64 y, .int .i64 0, .slice none 0 0] hx (owns_one4 (Nat.zero_le _) hg) ?_ (by unfold maxLen; omega) (by omega) ?_ ?_
  · intro u hu; simp at hu; rcases hu with rfl | rfl | rfl | rfl <;> rfl
  · have := h.lt
    have := h.hb
    omega
  intro A7 c7 w7 hown7 hgr7
  refine hK A7 c7 w7 ?_
  have := De.fin h (us ++ [⟨⟨k, y, 0, []⟩, none, 0⟩]) A7 c7 w7 hgr7 (by rw [rowT_snoc, List.length_append]; exact hown7) (fun x hx => by
    rcases List.mem_append.1 hx with h | h
    · exact .inl h
    · simp only [List.mem_singleton] at h; subst h; exact .inr ⟨rfl, rfl⟩) (by simp; omega) (by have := bulk_small hall; simp [bulk_append, bulk] at this ⊢; omega) (fun x hx => by
    rcases List.mem_append.1 hx with h | h
    · exact ⟨(hall x h).text, fun hk => .inl ((hall x h).low hk)⟩
    · simp only [List.mem_singleton] at h; subst h; exact ⟨by simp, hk⟩)
  simpa using this

theorem ints3_in {X : World} {g : Nat} {u0 u1 u2 : Int} {L : Nat} (hL : L ≤ g) (h0 : X.cell? ⟨g, 0, none⟩ = some (.int .i64 u0)) (h1 : X.cell? ⟨g, 1, none⟩ = some (.int .i64 u1)) (h2 : X.cell? ⟨g, 2, none⟩ = some (.int .i64 u2)) : IntsIn X L X.heap.size (some ⟨g, 0, none⟩) [u0, u1, u2] := fun _ => by
  refine ⟨g, 0, rfl, hL, World.block_lt_of_cell? X _ h0, fun j hj => ?_⟩
  have hj' : j = 0 ∨ j = 1 ∨ j = 2 := by simp at hj; omega
  rcases hj' with rfl | rfl | rfl
  · exact h0
  · exact h1
  · exact h2

set_option maxRecDepth 100000 in
set_option maxHeartbeats 16000000 in
theorem l1bent_any (K : Nat) (code : List UInt8) (w : World) (hC : Cur w K code) :
    Calls Tryd.prog 35 #[.pointer (some ⟨K, 0, none⟩)] w (NewBent K code w) := by
  have HC := Lib.hid hC
  have hK := hC.lt
  clear hC
  go_enter Tryd.func35, Tryd.ntmps35
  go_wp2_with fail
  obtain ⟨W0, hW0⟩ : ∃ y, y = w.alloc (.cells #[.slice none 0 0] 25) := ⟨_, rfl⟩
  have hb0 : Below w.heap.size w W0 := by rw [hW0]; exact (Below.refl _ _).alloc (Nat.le_refl _) _
  have hz0 : W0.heap.size = w.heap.size + 1 := by rw [hW0]; simp
  have r0 : W0.cell? ⟨w.heap.size, 0, none⟩ = some (.slice none 0 0) := by rw [hW0]; simp
  have rf : W0.frozen? ⟨w.heap.size, 0, none⟩ = false := by rw [hW0]; simp
  rw [← hW0]
  refine (l1draw_any K code _ (HC.out.below hb0 hK)).mono ?_
  rintro e w1 ⟨us, A, c, rfl, hul, hall, hbd, hled, hc1, ho1⟩
  have hz1 := ho1.size
  obtain ⟨W2, hW2⟩ : ∃ y, y = w1.alloc (.cells #[.slice A us.length c] 25) := ⟨_, rfl⟩
  have hb2 : Below w1.heap.size w1 W2 := by rw [hW2]; exact (Below.refl _ _).alloc (Nat.le_refl _) _
  have HD := Lib.hid (show De w K code w1.heap.size A c us W2 from by
    refine ⟨⟨#[.slice A us.length c], by rw [hW2]; exact heap_alloc_new _ _⟩, by rw [hW2]; simp, by rw [hW2]; simp,
      ((hb2.cell (p := ⟨w.heap.size, 0, none⟩) (by show w.heap.size < _; omega)).trans (ho1.cell (p := ⟨w.heap.size, 0, none⟩) (by show w.heap.size < _; omega) (by show w.heap.size ≠ K; omega))).trans r0,
      ((hb2.frozen (p := ⟨w.heap.size, 0, none⟩) (by show w.heap.size < _; omega)).trans (ho1.frozen (p := ⟨w.heap.size, 0, none⟩) (by show w.heap.size < _; omega) (by show w.heap.size ≠ K; omega))).trans rf,
      ?_, hbd, ?_, hc1.below hb2 (by omega), ((OffK.of_below hb0 (Nat.le_refl _)).trans ho1 (.inl rfl)).below hb2, hK, by omega⟩
    · rw [← hz0]
      exact (hled.keep hb2 (Nat.le_refl _)).1
    · rw [← hz0]
      exact (hled.keep hb2 (Nat.le_refl _)).2)
  have hzb : w.heap.size < w1.heap.size := by omega
  have HAll := Lib.hid hall
  clear hW0 hb0 hz0 r0 rf hbd hled hc1 ho1 hb2 hall HC
  have cb := HD.out.cb
  go_upto_region 2 with fail
  rw [← hW2]
  clear hW2 cb
  go_wp2_with fail
  refine (l1Once_any K code 8 _ HD.out.cur).mono ?_
  rintro e w3 ⟨b1, rfl, hc3, ho3⟩
  have HD3 := Lib.hid (HD.out.of_off ho3 hc3)
  clear HD hc3 ho3
  cases b1 with
  | false =>
    have cb := HD3.out.cb
    have r0 := HD3.out.r
    have rf := HD3.out.rf
    go_wp2_with fail
    refine bodyPost_ret (v := .agg #[.slice A us.length c]) (by simp [results, Tryd.results35, go_sem, *]) rfl ?_
    exact HD3.out.still (by omega) HAll.out (by have := bulk_small HAll.out; omega) _
  | true =>
    go_wp2_with fail
    refine (l1Below_any K code 3 _ HD3.out.cur).mono ?_
    rintro e w4 ⟨x4, rfl, hx4, hc4, ho4⟩
    have HD4 := Lib.hid (HD3.out.of_off ho4 hc4)
    have hx4' : x4 = 0 ∨ x4 = 1 ∨ x4 = 2 := by have := hx4.2.1 (by omega); omega
    have HPick := Lib.hid (fun (X : World) (g : Nat) (u0 u1 u2 : Int) (hX : De w K code w1.heap.size A c us X) (hg : K < g) (h0 : X.cell? ⟨g, 0, none⟩ = some (.int .i64 u0)) (h1 : X.cell? ⟨g, 1, none⟩ = some (.int .i64 u1)) (h2 : X.cell? ⟨g, 2, none⟩ = some (.int .i64 u2)) =>
      show Calls Tryd.prog 55 #[.pointer (some ⟨K, 0, none⟩), .slice (some ⟨g, 0, none⟩) 3 3] X (fun e w' => ∃ x, e = .returned (.int .i64 x) ∧ (x = u0 ∨ x = u1 ∨ x = u2) ∧ De w K code w1.heap.size A c us w' ∧ OffK K X w') from
      (l1PickInt_any K code (some ⟨g, 0, none⟩) 3 [u0, u1, u2] X hX.cur (ints3_in (by omega) h0 h1 h2) (by simp) (by simp)).mono (by
        rintro e w' ⟨x, rfl, hx, hc, ho⟩
        exact ⟨x, rfl, by simpa using hx, hX.of_off ho hc, ho⟩))
    clear HD3 hc4 ho4 hx4
    obtain ⟨i1, hi1, hy0, hy1, hy2⟩ := info_parts Tryd.info35
    rcases hx4' with rfl | rfl | rfl
    · have cb := HD4.out.cb
      have cbn := cell_alloc_at (.cells #[.int .i64 (-1), .int .i64 0, .int .i64 99] 3) cb
      go_upto_region 6 with fail
      go_region_law
        (first
          | (refine De.step (w := w) (K := K) (code := code) (b := w1.heap.size) (A := A) (c := c) ?_ hul HAll.out (by rfl) _ _ (by rfl) (by rfl) w6.heap.size 4 x6 (by rfl) ?_ (fun h => absurd h (by omega)) ?_
             · (repeat first | with_reducible exact HD6.out | with_reducible apply De.drew | with_reducible apply De.alloc)
             · (repeat first | with_reducible exact heap_new_at _ (by simp) | with_reducible apply heap_drew_at)
             intro A7 c7 w7 hf
             obtain ⟨q0, qf, r7, rf7⟩ := hf.1
             have HF := Lib.hid hf.2
             clear hf)
          | (go_simp
             go_at_call 55
             refine (HPick.out _ _ (-1) 0 99 ?_ ?_ ?_ ?_ ?_).mono ?_
             · (repeat first | with_reducible exact HD4.out | with_reducible apply De.drew | with_reducible apply De.alloc)
             · have := HD4.out.lt
               have := HD4.out.hb
               have := HD4.out.hK
               omega
             · simp
             · simp
             · simp
             rintro e w6 ⟨x6, rfl, hx6, hd6, ho6⟩
             have HD6 := Lib.hid hd6
             have hrow6 := hd6.row
             have cb6 := hd6.cb
             have cb6n := cell_alloc_at (.cells #[.int .i64 4, .int .i64 x6, .int .i64 0, .slice none 0 0] 71) cb6
             clear hd6 ho6 HPick
             go_wp2_with fail))
      all_goals
        have r8 : (w7.setCell ⟨w1.heap.size, 0, none⟩ (.slice A7 (us.length + 1) c7)).cell? ⟨w.heap.size, 0, none⟩ = some (.slice none 0 0) := (World.cell?_setCell_other _ _ _ _ (fun e => by injection e with e1; omega)).trans r7
        have rf8 : (w7.setCell ⟨w1.heap.size, 0, none⟩ (.slice A7 (us.length + 1) c7)).frozen? ⟨w.heap.size, 0, none⟩ = false := (World.frozen?_setCell _ _ _ _).trans rf7
        go_wp2_with fail
        refine bodyPost_ret (v := .agg #[.slice A7 (us.length + 1) c7]) (by simp [results, Tryd.results35, go_sem, *]) rfl ?_
        exact HF.out _ _
    · have cb := HD4.out.cb
      have cA := cell_alloc_at (.cells #[.int .i64 (-1), .int .i64 7, .int .i64 0] 3) cb
      have cB := cell_alloc_at (.cells #[.int .i64 0, .int .i64 999, .int .i64 1000] 3) cb
      have cAB := cell_alloc_at (.cells #[.int .i64 0, .int .i64 999, .int .i64 1000] 3) cA
      have cBA := cell_alloc_at (.cells #[.int .i64 (-1), .int .i64 7, .int .i64 0] 3) cB
      go_upto_region 8 with fail
      go_region_law
        (first
          | (refine De.step (w := w) (K := K) (code := code) (b := w1.heap.size) (A := A) (c := c) ?_ hul HAll.out (by rfl) _ _ (by rfl) (by rfl) w9.heap.size x6 x9 (by rfl) ?_ (fun _ => by omega) ?_
             · (repeat first | with_reducible exact HD9.out | with_reducible apply De.drew | with_reducible apply De.alloc)
             · (repeat first | with_reducible exact heap_new_at _ (by simp) | with_reducible apply heap_drew_at)
             intro A7 c7 w7 hf
             obtain ⟨q0, qf, r7, rf7⟩ := hf.1
             have HF := Lib.hid hf.2
             clear hf)
          | (go_simp
             go_at_call 55
             refine (HPick.out _ _ (-1) 7 0 ?_ ?_ ?_ ?_ ?_).mono ?_
             · (repeat first | with_reducible exact HD4.out | with_reducible apply De.drew | with_reducible apply De.alloc)
             · have := HD4.out.lt
               have := HD4.out.hb
               have := HD4.out.hK
               omega
             · simp
             · simp
             · simp
             rintro e w6 ⟨x6, rfl, hx6, hd6, ho6⟩
             have HD6 := Lib.hid hd6
             have HO6 := Lib.hid ho6
             have HPick2 := HPick
             have cb6 := hd6.cb
             have cb6n := cell_alloc_at (.cells #[.int .i64 0, .int .i64 999, .int .i64 1000] 3) cb6
             clear hd6 ho6 HPick
             go_wp2_with fail)
          | (go_simp
             go_at_call 55
             refine (HPick2.out _ _ 0 999 1000 ?_ ?_ ?_ ?_ ?_).mono ?_
             · (repeat first | with_reducible exact HD6.out | with_reducible apply De.drew | with_reducible apply De.alloc)
             · have := HD4.out.lt
               have := HD4.out.hb
               have := HD4.out.hK
               have := HD6.out.lt
               omega
             · first
               | (simp; done)
               | (refine (HO6.out.cell (p := ⟨_, 0, none⟩) ?_ ?_).trans ?_
                  · (simp <;> omega)
                  · have := HD4.out.lt
                    have := HD4.out.hb
                    have := HD4.out.hK
                    simp
                    omega
                  · simp)
             · first
               | (simp; done)
               | (refine (HO6.out.cell (p := ⟨_, 1, none⟩) ?_ ?_).trans ?_
                  · (simp <;> omega)
                  · have := HD4.out.lt
                    have := HD4.out.hb
                    have := HD4.out.hK
                    simp
                    omega
                  · simp)
             · first
               | (simp; done)
               | (refine (HO6.out.cell (p := ⟨_, 2, none⟩) ?_ ?_).trans ?_
                  · (simp <;> omega)
                  · have := HD4.out.lt
                    have := HD4.out.hb
                    have := HD4.out.hK
                    simp
                    omega
                  · simp)
             rintro e w9 ⟨x9, rfl, hx9, hd9, ho9⟩
             have HD9 := Lib.hid hd9
             have cb9 := hd9.cb
             have cb9n := cell_alloc_at (.cells #[.int .i64 x6, .int .i64 x9, .int .i64 0, .slice none 0 0] 71) cb9
             clear hd9 ho9 HPick2
             go_wp2_with fail))
      all_goals
        have r8 : (w7.setCell ⟨w1.heap.size, 0, none⟩ (.slice A7 (us.length + 1) c7)).cell? ⟨w.heap.size, 0, none⟩ = some (.slice none 0 0) := (World.cell?_setCell_other _ _ _ _ (fun e => by injection e with e1; omega)).trans r7
        have rf8 : (w7.setCell ⟨w1.heap.size, 0, none⟩ (.slice A7 (us.length + 1) c7)).frozen? ⟨w.heap.size, 0, none⟩ = false := (World.frozen?_setCell _ _ _ _).trans rf7
        go_wp2_with fail
        refine bodyPost_ret (v := .agg #[.slice A7 (us.length + 1) c7]) (by simp [results, Tryd.results35, go_sem, *]) rfl ?_
        exact HF.out _ _
    · have cb := HD4.out.cb
      have r0 := HD4.out.r
      have rf := HD4.out.rf
      have fb := HD4.out.fb
      go_upto_region 4 with fail
      go_wp2_with (at_builtin; refine wpList_append_row w4 rfl _ _ 23 rfl (w.heap.size + 1) (w.heap.size + 1) 71 i1 _ 4 48 Tryd.underlying23 hi1 hy0 hy1 hy2 rfl (by decide) (.slice A us.length c) us.length (rowT us) rfl HD4.out.row (.slice A us.length c) us.length (rowT us) rfl HD4.out.row (rowT_one us) (by unfold maxLen; omega) (by omega) (by have := HD4.out.lt; have := HD4.out.hb; omega) ?_)
      intro A7 c7 w7 hown7 hgr7
      have hf := De.fin HD4.out (us ++ us) A7 c7 w7 hgr7 (by rw [List.length_append, show rowT (us ++ us) = rowT us ++ rowT us by simp [rowT]]; exact hown7) (fun x hx => .inl (by simpa using hx)) (by simp; omega) (by have := bulk_small HAll.out; simp [bulk_append] at this ⊢; omega) (fun x hx => by
        have h : x ∈ us := by simpa using hx
        exact ⟨(HAll.out x h).text, fun hk => .inl ((HAll.out x h).low hk)⟩)
      rw [List.length_append] at hf
      obtain ⟨q0, qf, r7, rf7⟩ := hf.1
      have HF := Lib.hid hf.2
      have r8 : (w7.setCell ⟨w1.heap.size, 0, none⟩ (.slice A7 (us.length + us.length) c7)).cell? ⟨w.heap.size, 0, none⟩ = some (.slice none 0 0) := (World.cell?_setCell_other _ _ _ _ (fun e => by injection e with e1; omega)).trans r7
      have rf8 : (w7.setCell ⟨w1.heap.size, 0, none⟩ (.slice A7 (us.length + us.length) c7)).frozen? ⟨w.heap.size, 0, none⟩ = false := (World.frozen?_setCell _ _ _ _).trans rf7
      clear hf hown7 hgr7 cb r0 rf fb
      go_wp2_with fail
      refine bodyPost_ret (v := .agg #[.slice A7 (us.length + us.length) c7]) (by simp [results, Tryd.results35, go_sem, *]) rfl ?_
      exact HF.out _ _

end Go.Proofs.YtkmoihkpaccbdaaDoor
