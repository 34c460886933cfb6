/-
  What is drawn for Intern.
-/
import Derived.Test.YtigkojdchpjkcaaDo
namespace Go.Proofs.Ytigkojdchpjkcaa
open Go.RowKit Go.Maps

/-- A ledger and a term are drawn. -/
def NewTmD (w : World) (e : Ending) (w' : World) : Prop :=
  ∃ (ts : List Tm) (A : Option Addr) (c : Nat) (t : Tm) (A' : Option Addr) (c' : Nat), e = .returned (.tuple #[.agg #[.slice A ts.length c], .agg #[.int .i64 t.kind, .int .i64 t.a, .int .i64 t.b, .slice A' t.text.length c']]) ∧ (ts.length ≤ 32 ∧ bulk ts ≤ 64 ∧ t.text.length ≤ 2) ∧
    TmsIn w' w.heap.size w'.heap.size A ts ∧ BytesIn w' w.heap.size w'.heap.size A' t.text ∧ Below w.heap.size w w'

/-- The two variables of the answer: a ledger at b, a term behind it. -/
structure Rb (W : World) (b : Nat) : Prop where
  l : W.cell? ⟨b, 0, none⟩ = some (.slice none 0 0)
  lf : W.frozen? ⟨b, 0, none⟩ = false
  q : Bq W (b + 1) (.int .i64 0) (.int .i64 0) (.int .i64 0) (.slice none 0 0)
theorem Rb.off {W W' : World} {b K : Nat} (h : Rb W b) (ho : OffK K W W') (h1 : b ≠ K) (h2 : b + 1 ≠ K) : Rb W' b :=
  have hl : b < W.heap.size := World.block_lt_of_cell? W _ h.l
  ⟨(ho.cell (p := ⟨b, 0, none⟩) hl h1).trans h.l, (ho.frozen (p := ⟨b, 0, none⟩) hl h1).trans h.lf, h.q.off ho h2⟩
theorem Rb.below {W W' : World} {b B : Nat} (h : Rb W b) (hb : Below B W W') (hB : W.heap.size ≤ B) : Rb W' b :=
  have hl : b < W.heap.size := World.block_lt_of_cell? W _ h.l
  ⟨(hb.cell (p := ⟨b, 0, none⟩) (by show b < B; omega)).trans h.l, (hb.frozen (p := ⟨b, 0, none⟩) (by show b < B; omega)).trans h.lf, h.q.below hb hB⟩
theorem Rb.other {W : World} {b : Nat} (h : Rb W b) {p : Addr} (h1 : p.block ≠ b) (h2 : p.block ≠ b + 1) (v : Value) : Rb (W.setCell p v) b :=
  ⟨(World.cell?_setCell_other _ _ _ _ (fun e => h1 (by rw [e]))).trans h.l, (World.frozen?_setCell _ _ _ _).trans h.lf, h.q.other h2 v⟩
theorem Rb.new (w : World) (t t' : TypeId) : Rb ((w.alloc (.cells #[.slice none 0 0] t)).alloc (.cells #[.int .i64 0, .int .i64 0, .int .i64 0, .slice none 0 0] t')) w.heap.size :=
  ⟨by simp, by simp, by have h := Bq.new (w.alloc (.cells #[.slice none 0 0] t)) (.int .i64 0) (.int .i64 0) (.int .i64 0) (.slice none 0 0) t'; simpa using h⟩

/-- Only those two have turned. -/
structure Upd (b : Nat) (X Y : World) : Prop where
  cell : ∀ p : Addr, p.block ≠ b → p.block ≠ b + 1 → Y.cell? p = X.cell? p
  size : Y.heap.size = X.heap.size
  bel : Below b X Y
theorem Upd.refl (b : Nat) (X : World) : Upd b X X := ⟨fun _ _ _ => rfl, rfl, Below.refl _ _⟩
theorem Upd.drew {b : Nat} {X Y : World} (h : Upd b X Y) : Upd b X Y.drew := ⟨h.cell, h.size, h.bel.drew⟩
theorem Upd.setl {b : Nat} {X Y : World} (h : Upd b X Y) (j : Nat) (v : Value) : Upd b X (Y.setCell ⟨b, j, none⟩ v) :=
  ⟨fun p h1 h2 => (World.cell?_setCell_other _ _ _ _ (fun e => h1 (by rw [← e]))).trans (h.cell p h1 h2), by rw [← h.size]; simp, h.bel.setCell (Nat.le_refl _) _⟩
theorem Upd.sett {b : Nat} {X Y : World} (h : Upd b X Y) (j : Nat) (v : Value) : Upd b X (Y.setCell ⟨b + 1, j, none⟩ v) :=
  ⟨fun p h1 h2 => (World.cell?_setCell_other _ _ _ _ (fun e => h2 (by rw [← e]))).trans (h.cell p h1 h2), by rw [← h.size]; simp, h.bel.setCell (by show b ≤ b + 1; omega) _⟩

/-- When only those two have turned, the answer is as it should be. -/
theorem tmd_fin {w X : World} {ts : List Tm} {A : Option Addr} {c : Nat} {t : Tm} {A' : Option Addr} {c' : Nat} (hs : ts.length ≤ 32 ∧ bulk ts ≤ 64 ∧ t.text.length ≤ 2) (hb : Below w.heap.size w X)
    (ht : TmsIn X (w.heap.size + 2) X.heap.size A ts) (ha : BytesIn X (w.heap.size + 2) X.heap.size A' t.text) (Y : World) (hu : Upd w.heap.size X Y) :
    NewTmD w (.returned (.tuple #[.agg #[.slice A ts.length c], .agg #[.int .i64 t.kind, .int .i64 t.a, .int .i64 t.b, .slice A' t.text.length c']])) Y :=
  have hz := hu.size
  ⟨ts, A, c, t, A', c', rfl, hs, ((ht.keep fun p h1 _ => hu.cell p (by omega) (by omega)).low (by omega)).mono (by omega), ((ha.keep fun p h1 _ => hu.cell p (by omega) (by omega)).low (by omega)).mono (by omega), hb.trans hu.bel⟩

set_option maxRecDepth 100000 in
set_option maxHeartbeats 2000000 in
theorem drawTermOk_any (A : Option Addr) (c : Nat) (code : List UInt8) (w : World) (hA : BytesIn w 0 w.heap.size A code) (hn : code.length ≤ 9223372036854775807) :
    Calls Try.prog 43 #[.slice A code.length c] w (NewTmD w) := by
  have HA := Lib.hid hA
  clear hA
  go_enter Try.func43, Try.ntmps43
  go_wp2_with fail
  obtain ⟨W0, hW0⟩ : ∃ y, y = (w.alloc (.cells #[.slice none 0 0] 25)).alloc (.cells #[.int .i64 0, .int .i64 0, .int .i64 0, .slice none 0 0] 27) := ⟨_, rfl⟩
  have hb0 : Below w.heap.size w W0 := by rw [hW0]; exact ((Below.refl _ _).alloc (Nat.le_refl _) _).alloc (by simp) _
  have hz0 : W0.heap.size = w.heap.size + 2 := by rw [hW0]; simp
  have hr0 : Rb W0 w.heap.size := by rw [hW0]; exact Rb.new w _ _
  rw [← hW0]
  refine (l1New_any A c code W0 ((HA.out.keep fun p _ hp => hb0.cell hp).mono hb0.size) hn).mono ?_
  rintro e w1 ⟨rfl, hc1, hb1⟩
  obtain ⟨K, hKe⟩ : ∃ K, K = W0.heap.size := ⟨_, rfl⟩
  have hr1 := hr0.below hb1 (Nat.le_refl _)
  rw [← hKe] at hc1 hb1 ⊢
  have hKw : w.heap.size + 1 < K := by omega
  have hKw2 : K ≤ w.heap.size + 2 := by omega
  have hz1 := hc1.lt
  have HC1 := Lib.hid hc1
  have HB1 := Lib.hid (hb0.trans (hb1.mono (by omega)))
  have HR1 := Lib.hid hr1
  clear hW0 hb0 hz0 hr0 hr1 hKe hc1 hb1
  go_wp2_with fail
  refine (l1bent_any K code w1 HC1.out).mono ?_
  rintro e w2 ⟨ts, A1, c1', rfl, hl1, hk1, _, ht2, hc2, ho2⟩
  have hz2 := ho2.size
  obtain ⟨W3, hW3⟩ : ∃ y, y = w2.alloc (.cells #[.slice A1 ts.length c1'] 25) := ⟨_, rfl⟩
  have hb3 : Below w2.heap.size w2 W3 := by rw [hW3]; exact (Below.refl _ _).alloc (Nat.le_refl _) _
  have b3 : W3.cell? ⟨w2.heap.size, 0, none⟩ = some (.slice A1 ts.length c1') := by rw [hW3]; simp
  have hz3 : w2.heap.size < W3.heap.size := by rw [hW3]; simp
  have HT3 := Lib.hid (show TmsIn W3 w1.heap.size w2.heap.size A1 ts from ht2.keep fun p _ hp => hb3.cell hp)
  have HC3 := Lib.hid (hc2.below hb3 (by omega))
  have HO3 := Lib.hid (ho2.below hb3)
  have HR3 := Lib.hid (HR1.out.off HO3.out (by omega) (by omega))
  clear HR1 HC1 ht2 hc2 ho2 hb3
  go_upto_region 3 with fail
  rw [← hW3]
  clear hW3
  have HSo := Lib.hid (l1some_any K code A1 ts.length c1' W3 HC3.out)
  go_wp2_with fail
  refine HSo.out.mono ?_
  rintro e w4 ⟨t, A4, c4, rfl, hst, hby, _, hc4, ho4⟩
  have hz4 := ho4.size
  obtain ⟨W5, hW5⟩ : ∃ y, y = w4.alloc (.cells #[.int .i64 t.kind, .int .i64 t.a, .int .i64 t.b, .slice A4 t.text.length c4] 27) := ⟨_, rfl⟩
  have hb5 : Below w4.heap.size w4 W5 := by rw [hW5]; exact (Below.refl _ _).alloc (Nat.le_refl _) _
  have hz5 : w4.heap.size < W5.heap.size := by rw [hW5]; simp
  have HQ5 := Lib.hid (show Bq W5 w4.heap.size (.int .i64 t.kind) (.int .i64 t.a) (.int .i64 t.b) (.slice A4 t.text.length c4) by rw [hW5]; exact Bq.new _ _ _ _ _ _)
  have ho5 : OffK K W3 W5 := ho4.below hb5
  have b5 := (ho5.cell (p := ⟨w2.heap.size, 0, none⟩) hz3 (by show w2.heap.size ≠ K; omega)).trans b3
  have HT5 := Lib.hid (show TmsIn W5 w1.heap.size w2.heap.size A1 ts from HT3.out.keep fun p h1 h2 => ho5.cell (by omega) (by omega))
  have HA5 := Lib.hid (show BytesIn W5 W3.heap.size w4.heap.size A4 t.text from hby.keep fun p _ hp => hb5.cell hp)
  have HC5 := Lib.hid (hc4.below hb5 (by omega))
  have HO5 := Lib.hid (HO3.out.trans ho5 (.inl rfl))
  have HR5 := Lib.hid (HR3.out.off ho5 (by omega) (by omega))
  have htx : t.text.length ≤ 2 := hst.text
  clear HSo HC3 HO3 HT3 HR3 b3 hby hc4 ho4 hb5 ho5 hst
  go_upto_region 4 with fail
  rw [← hW5]
  clear hW5
  -- in each world in which only the cursor has moved behind W5
  have HKeep := Lib.hid (fun (X : World) (hX : OffK K W5 X) => show X.cell? ⟨w2.heap.size, 0, none⟩ = some (.slice A1 ts.length c1') ∧ TmsIn X w1.heap.size w2.heap.size A1 ts ∧ BytesIn X W3.heap.size w4.heap.size A4 t.text ∧ Bq X w4.heap.size (.int .i64 t.kind) (.int .i64 t.a) (.int .i64 t.b) (.slice A4 t.text.length c4) ∧ Rb X w.heap.size ∧ Below w.heap.size w X from
    have hs := hX.size
    ⟨(hX.cell (p := ⟨w2.heap.size, 0, none⟩) (by show w2.heap.size < _; omega) (by show w2.heap.size ≠ K; omega)).trans b5,
      HT5.out.keep fun p h1 h2 => hX.cell (by omega) (by omega), HA5.out.keep fun p h1 h2 => hX.cell (by omega) (by omega),
      HQ5.out.off hX (by omega), HR5.out.off hX (by omega) (by omega), HB1.out.trans ((HO5.out.trans hX (.inl rfl)).low (by omega) (by omega))⟩)
  have HOnce := Lib.hid (l1Once_any K code 5 W5 HC5.out)
  clear HT5 HA5 HQ5 HR5 b5 HO5 HB1
  go_wp2_with fail
  refine HOnce.out.mono ?_
  rintro e w6 ⟨b, rfl, hc6, ho6⟩
  have hz6 := ho6.size
  have HC6 := Lib.hid hc6
  have HO6 := Lib.hid ho6
  clear HOnce HC5 hc6 ho6
  cases b with
  | false =>
    obtain ⟨b6, ht6, ha6, hq6, hr6, hb6⟩ := HKeep.out w6 HO6.out
    have HFn := Lib.hid (tmd_fin (c := c1') (c' := c4) ⟨hl1, hk1, htx⟩ hb6 ((ht6.low (by omega)).mono (by omega)) ((ha6.low (by omega)).mono (by omega)))
    obtain ⟨c0, c1, c2, c3, f0, f1, f2, f3⟩ := hq6
    obtain ⟨l0, lf, d0, d1, d2, d3, g0, g1, g2, g3⟩ := hr6
    clear HKeep HO6 HC6 ht6 ha6 hb6
    go_upto_region 6 with fail
    go_region
    all_goals
      go_wp2_with fail
      refine bodyPost_ret (v := .tuple #[.agg #[.slice A1 ts.length c1'], .agg #[.int .i64 t.kind, .int .i64 t.a, .int .i64 t.b, .slice A4 t.text.length c4]]) (by simp [results, Try.results43, go_sem, *]) rfl ?_
      clear c0 c1 c2 c3 f0 f1 f2 f3 d0 d1 d2 d3 g0 g1 g2 g3 l0 lf b6
      refine HFn.out _ ?_
      repeat (first | with_reducible exact Upd.refl _ _ | with_reducible apply Upd.drew | with_reducible apply Upd.setl | with_reducible apply Upd.sett)
  | true =>
    have HB9 := Lib.hid (l1Below_any K code 9 w6 HC6.out)
    have b6 := (HKeep.out w6 HO6.out).1
    go_wp2_with fail
    refine HB9.out.mono ?_
    rintro e w7 ⟨x, rfl, hx, _, ho7⟩
    have hx9 := hx.2.1 (by omega)
    obtain ⟨b7, ht7, ha7, hq7, hr7, hb7⟩ := HKeep.out w7 (HO6.out.trans ho7 (.inl rfl))
    have hz7 := ho7.size
    obtain ⟨kd, hkd⟩ : ∃ y, y = x - 1 := ⟨_, rfl⟩
    have hwx : IntKind.i64.wrap (x - 1) = kd := by rw [IntKind.wrap_i64]; omega
    obtain ⟨W8, hW8⟩ : ∃ y, y = w7.setCell ⟨w4.heap.size, 0, none⟩ (.int .i64 kd) := ⟨_, rfl⟩
    have b8 : W8.cell? ⟨w2.heap.size, 0, none⟩ = some (.slice A1 ts.length c1') := by
      rw [hW8]; exact (World.cell?_setCell_other _ _ _ _ (by intro e; injection e with e1; omega)).trans b7
    have hq8 : Bq W8 w4.heap.size (.int .i64 kd) (.int .i64 t.a) (.int .i64 t.b) (.slice A4 t.text.length c4) := by rw [hW8]; exact hq7.set0 _
    have hr8 : Rb W8 w.heap.size := by rw [hW8]; exact hr7.other (by show w4.heap.size ≠ _; omega) (by show w4.heap.size ≠ _; omega) _
    have ht8 : TmsIn W8 w1.heap.size w2.heap.size A1 ts := by rw [hW8]; exact ht7.keep fun p h1 h2 => World.cell?_setCell_other _ _ _ _ (fun e => by subst e; exact absurd h2 (by show ¬ (w4.heap.size < w2.heap.size); omega))
    have ha8 : BytesIn W8 W3.heap.size w4.heap.size A4 t.text := by rw [hW8]; exact ha7.keep fun p h1 h2 => World.cell?_setCell_other _ _ _ _ (fun e => by subst e; exact absurd h2 (by show ¬ (w4.heap.size < w4.heap.size); omega))
    have hb8 : Below w.heap.size w W8 := by rw [hW8]; exact hb7.setCell (by show w.heap.size ≤ w4.heap.size; omega) _
    have hz8 : W8.heap.size = w7.heap.size := by rw [hW8]; simp
    have HFn := Lib.hid (tmd_fin (t := ⟨kd, t.a, t.b, t.text⟩) (c := c1') (c' := c4) ⟨hl1, hk1, htx⟩ hb8 ((ht8.low (by omega)).mono (by omega)) ((ha8.low (by omega)).mono (by omega)))
    have HQ8 := Lib.hid hq8
    have HR8 := Lib.hid hr8
    have HB8 := Lib.hid b8
    obtain ⟨c0, c1, c2, c3, f0, f1, f2, f3⟩ := hq7
    clear HKeep HO6 HC6 ht7 ha7 hb7 ht8 ha8 hb8 hq8 hr8 hr7 b8 HB9 hkd hx ho7 c1 c2 c3 f1 f2 f3
    go_upto_region 6 with fail
    rw [← hW8]
    have b8 := HB8.out
    obtain ⟨c0, c1, c2, c3, f0, f1, f2, f3⟩ := HQ8.out
    obtain ⟨l0, lf, d0, d1, d2, d3, g0, g1, g2, g3⟩ := HR8.out
    clear hW8 hwx
    go_region
    all_goals
      go_wp2_with fail
      refine bodyPost_ret (v := .tuple #[.agg #[.slice A1 ts.length c1'], .agg #[.int .i64 kd, .int .i64 t.a, .int .i64 t.b, .slice A4 t.text.length c4]]) (by simp [results, Try.results43, go_sem, *]) rfl ?_
      clear c0 c1 c2 c3 f0 f1 f2 f3 d0 d1 d2 d3 g0 g1 g2 g3 l0 lf b8
      refine HFn.out _ ?_
      repeat (first | with_reducible exact Upd.refl _ _ | with_reducible apply Upd.drew | with_reducible apply Upd.setl | with_reducible apply Upd.sett)

set_option maxRecDepth 100000 in
set_option maxHeartbeats 1000000 in
theorem drawIntern_any (A : Option Addr) (c : Nat) (code : List UInt8) (w : World) (hA : BytesIn w 0 w.heap.size A code) (hn : code.length ≤ 9223372036854775807) :
    Calls Try.prog 11 #[.slice A code.length c] w (NewTmD w) := by
  have HA := Lib.hid hA
  clear hA
  go_enter Try.func11, Try.ntmps11
  go_wp2_with fail
  obtain ⟨W0, hW0⟩ : ∃ y, y = (w.alloc (.cells #[.slice none 0 0] 25)).alloc (.cells #[.int .i64 0, .int .i64 0, .int .i64 0, .slice none 0 0] 27) := ⟨_, rfl⟩
  have hb0 : Below w.heap.size w W0 := by rw [hW0]; exact ((Below.refl _ _).alloc (Nat.le_refl _) _).alloc (by simp) _
  have hz0 : w.heap.size + 2 ≤ W0.heap.size := by rw [hW0]; simp
  have hr0 : Rb W0 w.heap.size := by rw [hW0]; exact Rb.new w _ _
  rw [← hW0]
  refine (drawTermOk_any A c code W0 ((HA.out.keep fun p _ hp => hb0.cell hp).mono hb0.size) hn).mono ?_
  rintro e w1 ⟨ts, A1, c1', t, A4, c4, rfl, hs, ht1, ha1, hb1⟩
  obtain ⟨l0, lf, d0, d1, d2, d3, g0, g1, g2, g3⟩ := hr0.below hb1 (Nat.le_refl _)
  have HFn := Lib.hid (tmd_fin (c := c1') (c' := c4) hs (hb0.trans (hb1.mono (by omega))) (ht1.low (by omega)) (ha1.low (by omega)))
  clear hW0 hb0 hr0 ht1 ha1 hb1
  go_wp2_with fail
  refine bodyPost_ret (v := .tuple #[.agg #[.slice A1 ts.length c1'], .agg #[.int .i64 t.kind, .int .i64 t.a, .int .i64 t.b, .slice A4 t.text.length c4]]) (by simp [results, Try.results11, go_sem, *]) rfl ?_
  clear d0 d1 d2 d3 g0 g1 g2 g3 l0 lf
  refine HFn.out _ ?_
  repeat (first | with_reducible exact Upd.refl _ _ | with_reducible apply Upd.drew | with_reducible apply Upd.setl | with_reducible apply Upd.sett)

end Go.Proofs.Ytigkojdchpjkcaa
