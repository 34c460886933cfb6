/-
  The draw's lists of numbers, and what is drawn for Can, Opened and their like.
-/
import Derived.Test.YtigkojdchpjkcaaDb
import Derived.Test.YtigkojdchpjkcaaGOp
namespace Go.Proofs.Ytigkojdchpjkcaa
open Go.RowKit Go.Maps

/-- A list of numbers is drawn. -/
def NewList (K : Nat) (code : List UInt8) (n : Int) (w : World) (e : Ending) (w' : World) : Prop :=
  ∃ (l : List Int) (A : Option Addr) (c : Nat), e = .returned (.slice A l.length c) ∧ l.length ≤ 4 ∧ (∀ x ∈ l, -1 ≤ x ∧ x ≤ n) ∧ IntsIn w' w.heap.size w'.heap.size A l ∧ Cur w' K code ∧ OffK K w w'

theorem row_offK {w W W' : World} {K : Nat} {e : TypeId} {size n : Nat} {v : Value} {xs : List Value} (h : W.ownsRow w.heap.size e size v n xs) (ho : OffK K W W') (hK : K < w.heap.size) : W'.ownsRow w.heap.size e size v n xs :=
  h.kept ho (by
    cases hq : v.ownBlock with
    | none => exact .inr (by simp)
    | some g => exact .inr (fun e => by
        injection e with e
        have := (h.lt g hq).1
        omega))

set_option maxRecDepth 100000 in
set_option maxHeartbeats 1000000 in
theorem l2some_any (K : Nat) (code : List UInt8) (n : Nat) (hn : n ≤ 1048576) (w : World) (hC : Cur w K code) :
    Calls Try.prog 54 #[.pointer (some ⟨K, 0, none⟩), .int .i64 n] w (NewList K code n w) := by
  have HC := Lib.hid hC
  have hK := hC.lt
  obtain ⟨i0, hi0, hz0, hz1, hz2⟩ := info_parts Try.infoInt
  clear hC
  go_enter Try.func54, Try.ntmps54
  go_wp2_with fail
  refine (l1Below_any K code 5 _ HC.out).mono ?_
  rintro e w1 ⟨x1, rfl, hx1, hc1, ho1⟩
  obtain ⟨m, rfl⟩ := Int.eq_ofNat_of_zero_le hx1.1
  have hm : m ≤ 4 := by have := hx1.2.1 (by omega); omega
  have HC1 := Lib.hid hc1
  have HO1 := Lib.hid ho1
  clear hc1 ho1 hx1 HC
  go_wp2_with fail
  go_loopw [5, 7] (fun x i wr => ∃ (k : Nat) (l : List Int) (A : Option Addr) (c : Nat), k ≤ m ∧ i = .int .i64 k ∧ l.length = k ∧ (∀ y ∈ l, -1 ≤ y ∧ y ≤ (n : Int)) ∧ x = .slice A k c ∧ wr.ownsRow w.heap.size 3 1 (.slice A k c) k (l.map vint) ∧ Cur wr K code ∧ OffK K w wr) (fun _ i _ => m - (intOf i).toNat)
  case atStart => exact ⟨0, [], none, 0, Nat.zero_le _, rfl, rfl, by simp, rfl, World.ownsRow_nil _ _ _ _, HC1.out, HO1.out⟩
  case round =>
    obtain ⟨k, l, A, c, hk, rfl, hl, hall, rfl, hrow, hc, ho⟩ := hrel
    have HAll := Lib.hid hall
    have HRow := Lib.hid hrow
    have HC := Lib.hid hc
    have HO := Lib.hid ho
    have HL := Lib.hid hl
    clear hall hrow hc ho hl
    by_cases hlt : k < m
    · go_wp2_with fail
      refine (l1Below_any K code ((n : Int) + 2) _ HC.out).mono ?_
      rintro e w2 ⟨y, rfl, hy, hc2, ho2⟩
      have HC2 := Lib.hid hc2
      have HO2 := Lib.hid (HO.out.trans ho2 (.inl rfl))
      have HRow2 := Lib.hid (row_offK HRow.out ho2 hK)
      have hy2 : 0 ≤ y ∧ y < (n : Int) + 2 := ⟨hy.1, hy.2.1 (by omega)⟩
      have hz2' : w.heap.size ≤ w2.heap.size := HO2.out.size
      clear hc2 ho2 hy
      go_wp2_with (at_builtin; refine wpList_append_own _ rfl _ _ 46 rfl w.heap.size 3 i0 (.int .i64 0) 1 8 Try.underlying46 hi0 hz0 hz1 hz2 rfl (by decide) _ _ _ rfl (HRow2.out.alloc _) ⟨w2.heap.size, 0, none⟩ 1 1 [.int .i64 (y - 1)] rfl rfl ?c1 ?c2 ?c3 ?c4 ?c5 ?_)
      case c1 =>
        intro j u hu
        have hj : j = 0 := by
          have := (List.getElem?_eq_some_iff.1 hu).1
          simpa using this
        subst hj
        rw [Addr.add_lit]
        simpa using hu
      case c2 => intro u hu; simp at hu; subst hu; rfl
      case c3 => unfold maxLen; omega
      case c4 => omega
      case c5 => simp; omega
      intro v' w5 hrow5 hgr5 _
      obtain ⟨A5, c5, rfl⟩ := row_shape hrow5
      have HRow5 := Lib.hid (show w5.ownsRow w.heap.size 3 1 (.slice A5 (k + 1) c5) (k + 1) ((l ++ [y - 1]).map vint) by simpa [vint] using hrow5)
      have hg : ∀ g, (Value.slice A k c).ownBlock = some g → w.heap.size ≤ g := fun g hg => (HRow2.out.lt g hg).1
      have HB5 := Lib.hid (show Below w.heap.size w2 w5 from by
        have h1 : Below w.heap.size w2 (w2.alloc (.cells #[.int .i64 (y - 1)] 3)) := (Below.refl _ _).alloc hz2' _
        exact h1.grown hgr5 (by simp; omega) (fun g hg' => hg g hg'))
      have HC5 := Lib.hid (HC2.out.below HB5.out hK)
      have HO5 := Lib.hid (HO2.out.below_at HB5.out (Nat.le_refl _))
      clear hrow5 hgr5 hg
      go_wp2_with fail
      go_roundw
      case rel => exact ⟨k + 1, l ++ [y - 1], A5, c5, by omega, by go_num, by simp [HL.out], fun z hz => by
        rcases List.mem_append.1 hz with h | h
        · exact HAll.out z h
        · simp only [List.mem_singleton] at h; subst h; omega, rfl, HRow5.out, HC5.out, HO5.out⟩
      case measure => simp [intOf]; omega
    · go_wp2_with fail
      go_ret
      have hr := HRow.out
      rw [← HL.out] at hr ⊢
      exact ⟨l, A, c, rfl, by have := HL.out; omega, HAll.out, (ints_of_row hr).ints, HC.out, HO.out⟩

/-- A ledger, a list and a number are drawn. -/
def NewCan (w : World) (e : Ending) (w' : World) : Prop :=
  ∃ (ts : List Tm) (A : Option Addr) (c : Nat) (hv : List Int) (A2 : Option Addr) (c2 : Nat) (want : Int), e = .returned (.tuple #[.agg #[.slice A ts.length c], .slice A2 hv.length c2, .int .i64 want]) ∧ (ts.length ≤ 32 ∧ bulk ts ≤ 64 ∧ ∀ t ∈ ts, BentT t) ∧ (hv.length ≤ 4 ∧ ∀ x ∈ hv, -1 ≤ x ∧ x ≤ (ts.length : Int)) ∧ (-1 ≤ want ∧ want ≤ (ts.length : Int)) ∧
    TmsIn w' w.heap.size w'.heap.size A ts ∧ IntsIn w' w.heap.size w'.heap.size A2 hv ∧ Below w.heap.size w w'

set_option maxRecDepth 100000 in
set_option maxHeartbeats 1000000 in
theorem drawCan_any (A : Option Addr) (c : Nat) (code : List UInt8) (w : World) (hA : BytesIn w 0 w.heap.size A code) (hn : code.length ≤ 9223372036854775807) :
    Calls Try.prog 28 #[.slice A code.length c] w (NewCan w) := by
  have HA := Lib.hid hA
  clear hA
  go_enter Try.func28, Try.ntmps28
  go_wp2_with fail
  obtain ⟨W0, hW0⟩ : ∃ y, y = w.alloc (.cells #[.slice none 0 0] 25) := ⟨_, rfl⟩
  have hb0 : Below w.heap.size w W0 := by rw [hW0]; exact (Below.refl _ _).alloc (Nat.le_refl _) _
  have hz0 : W0.heap.size = w.heap.size + 1 := by rw [hW0]; simp
  have r0 : W0.cell? ⟨w.heap.size, 0, none⟩ = some (.slice none 0 0) := by rw [hW0]; simp
  have rf : W0.frozen? ⟨w.heap.size, 0, none⟩ = false := by rw [hW0]; simp
  rw [← hW0]
  refine (l1New_any A c code W0 ((HA.out.keep fun p _ hp => hb0.cell hp).mono hb0.size) hn).mono ?_
  rintro e w1 ⟨rfl, hc1, hb1⟩
  obtain ⟨K, hKe⟩ : ∃ K, K = W0.heap.size := ⟨_, rfl⟩
  rw [← hKe] at hc1 hb1 ⊢
  have hKw : w.heap.size < K := by omega
  have hz1 := hc1.lt
  have HC1 := Lib.hid hc1
  have HB1 := Lib.hid (hb0.trans (hb1.mono (by omega)))
  have HR1 := Lib.hid (And.intro ((hb1.cell (p := ⟨w.heap.size, 0, none⟩) hKw).trans r0) ((hb1.frozen (p := ⟨w.heap.size, 0, none⟩) hKw).trans rf))
  clear hW0 hb0 hz0 r0 rf hKe hc1 hb1
  go_wp2_with fail
  refine (l1bent_any K code w1 HC1.out).mono ?_
  rintro e w2 ⟨ts, A1, c1, rfl, hl1, hk1, hall, ht2, hc2, ho2⟩
  have hz2 := ho2.size
  obtain ⟨W3, hW3⟩ : ∃ y, y = w2.alloc (.cells #[.slice A1 ts.length c1] 25) := ⟨_, rfl⟩
  have hb3 : Below w2.heap.size w2 W3 := by rw [hW3]; exact (Below.refl _ _).alloc (Nat.le_refl _) _
  have b3 : W3.cell? ⟨w2.heap.size, 0, none⟩ = some (.slice A1 ts.length c1) := by rw [hW3]; simp
  have hz3 : w2.heap.size < W3.heap.size := by rw [hW3]; simp
  have HT3 := Lib.hid (ht2.keep fun p _ hp => hb3.cell hp)
  have HC3 := Lib.hid (hc2.below hb3 (by omega))
  have HO3 := Lib.hid (ho2.below hb3)
  have HR3 := Lib.hid (And.intro ((hb3.cell (p := ⟨w.heap.size, 0, none⟩) (by show w.heap.size < _; omega)).trans ((ho2.cell (p := ⟨w.heap.size, 0, none⟩) (by show w.heap.size < _; omega) (by show w.heap.size ≠ K; omega)).trans HR1.out.1)) ((hb3.frozen (p := ⟨w.heap.size, 0, none⟩) (by show w.heap.size < _; omega)).trans ((ho2.frozen (p := ⟨w.heap.size, 0, none⟩) (by show w.heap.size < _; omega) (by show w.heap.size ≠ K; omega)).trans HR1.out.2)))
  have HAll := Lib.hid (And.intro hl1 (And.intro hk1 hall))
  clear HR1 HC1 ht2 hc2 ho2 hb3 hk1 hall
  go_upto_region 3 with fail
  rw [← hW3]
  clear hW3
  go_wp2_with fail
  refine (l2some_any K code ts.length (by omega) W3 HC3.out).mono ?_
  rintro e w4 ⟨hv, A2, c2, rfl, hl4, hall4, hi4, hc4, ho4⟩
  have hz4 := ho4.size
  have cb := (ho4.cell (p := ⟨w2.heap.size, 0, none⟩) hz3 (by show w2.heap.size ≠ K; omega)).trans b3
  have r4 := (ho4.cell (p := ⟨w.heap.size, 0, none⟩) (by show w.heap.size < _; omega) (by show w.heap.size ≠ K; omega)).trans HR3.out.1
  have rf4 := (ho4.frozen (p := ⟨w.heap.size, 0, none⟩) (by show w.heap.size < _; omega) (by show w.heap.size ≠ K; omega)).trans HR3.out.2
  have HT4 := Lib.hid (show TmsIn w4 w1.heap.size w2.heap.size A1 ts from HT3.out.keep fun p hp hp2 => ho4.cell (by omega) (by omega))
  have HI4 := Lib.hid hi4
  have HC4 := Lib.hid hc4
  have HO4 := Lib.hid (HO3.out.trans ho4 (.inl rfl))
  have HV := Lib.hid (And.intro hl4 hall4)
  have HCall := Lib.hid (fun (X : World) (hX : Below w4.heap.size w4 X) => show Calls Try.prog 52 #[.pointer (some ⟨K, 0, none⟩), .int .i64 (IntKind.i64.wrap ((ts.length : Int) + 2))] X (fun e w' => ∃ x, e = .returned (.int .i64 x) ∧ IntKind.i64.wrap (x - 1) = x - 1 ∧ w'.cell? ⟨w2.heap.size, 0, none⟩ = some (.slice A1 ts.length c1) ∧ w'.cell? ⟨w.heap.size, 0, none⟩ = some (.slice none 0 0) ∧ w'.frozen? ⟨w.heap.size, 0, none⟩ = false ∧ ∀ V, NewCan w (.returned (.tuple #[.agg #[.slice A1 ts.length c1], .slice A2 hv.length c2, .int .i64 (x - 1)])) (w'.setCell ⟨w.heap.size, 0, none⟩ V) ∧ 0 ≤ x ∧ x < (ts.length : Int) + 2) from by
    rw [show IntKind.i64.wrap ((ts.length : Int) + 2) = (ts.length : Int) + 2 by rw [IntKind.wrap_i64]; omega]
    exact (l1Below_any K code ((ts.length : Int) + 2) X (HC4.out.below hX (by omega))).mono (by
      rintro e w' ⟨x, rfl, hx, hc, ho⟩
      have hx' := hx.2.1 (by omega)
      have hXs := hX.size
      have hkeep : ∀ p : Addr, p.block < w4.heap.size → p.block ≠ K → w'.cell? p = w4.cell? p := fun p h1 h2 => (ho.cell (by omega) h2).trans (hX.cell h1)
      refine ⟨x, rfl, by rw [IntKind.wrap_i64]; omega, (hkeep ⟨w2.heap.size, 0, none⟩ (by show w2.heap.size < _; omega) (by show w2.heap.size ≠ K; omega)).trans cb, (hkeep ⟨w.heap.size, 0, none⟩ (by show w.heap.size < _; omega) (by show w.heap.size ≠ K; omega)).trans r4, ((ho.frozen (p := ⟨w.heap.size, 0, none⟩) (by show w.heap.size < _; omega) (by show w.heap.size ≠ K; omega)).trans (hX.frozen (p := ⟨w.heap.size, 0, none⟩) (by show w.heap.size < _; omega))).trans rf4, fun V => ⟨?_, hx.1, hx'⟩⟩
      have hall : OffK K w1 w' := (HO4.out.below hX).trans ho (.inl rfl)
      refine ⟨ts, A1, c1, hv, A2, c2, x - 1, rfl, HAll.out, HV.out, by omega, ?_, ?_, (HB1.out.trans (hall.low (B := w.heap.size) (by omega) (by omega))).setCell (Nat.le_refl _) _⟩
      · refine TmsIn.mono (TmsIn.low (HT4.out.keep fun p hp hp2 => ?_) (by omega)) (by have := ho.size; simp; omega)
        rw [World.cell?_setCell_other _ _ _ _ (fun e => by subst e; exact absurd hp (by show ¬ (w1.heap.size ≤ w.heap.size); omega)), hkeep p (by omega) (by omega)]
      · refine IntsIn.mono (IntsIn.low (HI4.out.keep fun p hp hp2 => ?_) (by omega)) (by have := ho.size; simp; omega)
        rw [World.cell?_setCell_other _ _ _ _ (fun e => by subst e; exact absurd hp (by show ¬ (W3.heap.size ≤ w.heap.size); omega)), hkeep p hp2 (by omega)]))
  clear hi4 hc4 ho4 hl4 hall4 b3 HT3 HC3 HO3 HR3 HT4 HI4 HC4 HO4 HV HAll HB1
  go_upto_region 4 with fail
  go_region_law
    (first
      | (go_simp
         go_at_call 52
         refine (HCall.out _ ?_).mono ?_
         · exact (Below.refl _ _).drew
         rintro e w6 ⟨x6, rfl, he6, cb6, r6, rf6, hf6⟩
         have HF := Lib.hid hf6
         clear HCall hf6
         go_wp2_with fail))
  all_goals
    go_wp2_with fail
    refine bodyPost_ret (v := .tuple #[.agg #[.slice A1 ts.length c1], .slice A2 hv.length c2, .int .i64 (x6 - 1)]) (by simp [results, Try.results28, go_sem, *]) rfl ?_
    exact (HF.out _).1

set_option maxRecDepth 100000 in
set_option maxHeartbeats 1000000 in
theorem drawMissing_any (A : Option Addr) (c : Nat) (code : List UInt8) (w : World) (hA : BytesIn w 0 w.heap.size A code) (hn : code.length ≤ 9223372036854775807) :
    Calls Try.prog 32 #[.slice A code.length c] w (NewCan w) := by
  have HA := Lib.hid hA
  clear hA
  go_enter Try.func32, Try.ntmps32
  go_wp2_with fail
  obtain ⟨W0, hW0⟩ : ∃ y, y = w.alloc (.cells #[.slice none 0 0] 25) := ⟨_, rfl⟩
  have hb0 : Below w.heap.size w W0 := by rw [hW0]; exact (Below.refl _ _).alloc (Nat.le_refl _) _
  have hz0 : w.heap.size < W0.heap.size := by rw [hW0]; simp
  have r0 : W0.cell? ⟨w.heap.size, 0, none⟩ = some (.slice none 0 0) := by rw [hW0]; simp
  have rf : W0.frozen? ⟨w.heap.size, 0, none⟩ = false := by rw [hW0]; simp
  rw [← hW0]
  refine (drawCan_any A c code W0 ((HA.out.keep fun p _ hp => hb0.cell hp).mono hb0.size) hn).mono ?_
  rintro e w1 ⟨ts, A1, c1, hv, A2, c2, want, rfl, h1, h2, h3, ht, hi, hb1⟩
  have r1 := (hb1.cell (p := ⟨w.heap.size, 0, none⟩) hz0).trans r0
  have rf1 := (hb1.frozen (p := ⟨w.heap.size, 0, none⟩) hz0).trans rf
  have HF := Lib.hid (fun V => show NewCan w (.returned (.tuple #[.agg #[.slice A1 ts.length c1], .slice A2 hv.length c2, .int .i64 want])) (w1.setCell ⟨w.heap.size, 0, none⟩ V) from
    ⟨ts, A1, c1, hv, A2, c2, want, rfl, h1, h2, h3, ((ht.set (by show w.heap.size < W0.heap.size; omega) V).low (by omega)).mono (by simp), ((hi.keep fun p hp _ => World.cell?_setCell_other _ _ _ _ (fun e => by subst e; exact absurd hp (by show ¬ (W0.heap.size ≤ w.heap.size); omega))).low (by omega)).mono (by simp), (hb0.trans (hb1.mono (by omega))).setCell (Nat.le_refl _) _⟩)
  clear hW0 hb0 r0 rf h1 h2 h3 ht hi hb1
  go_wp2_with fail
  refine bodyPost_ret (v := .tuple #[.agg #[.slice A1 ts.length c1], .slice A2 hv.length c2, .int .i64 want]) (by simp [results, Try.results32, go_sem, *]) rfl ?_
  exact HF.out _

set_option maxRecDepth 100000 in
set_option maxHeartbeats 1000000 in
theorem drawGains_any (A : Option Addr) (c : Nat) (code : List UInt8) (w : World) (hA : BytesIn w 0 w.heap.size A code) (hn : code.length ≤ 9223372036854775807) :
    Calls Try.prog 40 #[.slice A code.length c] w (NewCan w) := by
  have HA := Lib.hid hA
  clear hA
  go_enter Try.func40, Try.ntmps40
  go_wp2_with fail
  obtain ⟨W0, hW0⟩ : ∃ y, y = w.alloc (.cells #[.slice none 0 0] 25) := ⟨_, rfl⟩
  have hb0 : Below w.heap.size w W0 := by rw [hW0]; exact (Below.refl _ _).alloc (Nat.le_refl _) _
  have hz0 : w.heap.size < W0.heap.size := by rw [hW0]; simp
  have r0 : W0.cell? ⟨w.heap.size, 0, none⟩ = some (.slice none 0 0) := by rw [hW0]; simp
  have rf : W0.frozen? ⟨w.heap.size, 0, none⟩ = false := by rw [hW0]; simp
  rw [← hW0]
  refine (drawCan_any A c code W0 ((HA.out.keep fun p _ hp => hb0.cell hp).mono hb0.size) hn).mono ?_
  rintro e w1 ⟨ts, A1, c1, hv, A2, c2, want, rfl, h1, h2, h3, ht, hi, hb1⟩
  have r1 := (hb1.cell (p := ⟨w.heap.size, 0, none⟩) hz0).trans r0
  have rf1 := (hb1.frozen (p := ⟨w.heap.size, 0, none⟩) hz0).trans rf
  have HF := Lib.hid (fun V => show NewCan w (.returned (.tuple #[.agg #[.slice A1 ts.length c1], .slice A2 hv.length c2, .int .i64 want])) (w1.setCell ⟨w.heap.size, 0, none⟩ V) from
    ⟨ts, A1, c1, hv, A2, c2, want, rfl, h1, h2, h3, ((ht.set (by show w.heap.size < W0.heap.size; omega) V).low (by omega)).mono (by simp), ((hi.keep fun p hp _ => World.cell?_setCell_other _ _ _ _ (fun e => by subst e; exact absurd hp (by show ¬ (W0.heap.size ≤ w.heap.size); omega))).low (by omega)).mono (by simp), (hb0.trans (hb1.mono (by omega))).setCell (Nat.le_refl _) _⟩)
  clear hW0 hb0 r0 rf h1 h2 h3 ht hi hb1
  go_wp2_with fail
  refine bodyPost_ret (v := .tuple #[.agg #[.slice A1 ts.length c1], .slice A2 hv.length c2, .int .i64 want]) (by simp [results, Try.results40, go_sem, *]) rfl ?_
  exact HF.out _

end Go.Proofs.Ytigkojdchpjkcaa
