/-
  What is drawn for Open and Verify.
-/
import Derived.Test.YtigkojdchpjkcaaDo
namespace Go.Proofs.Ytigkojdchpjkcaa
open Go.RowKit Go.Maps

/-- A ledger, a key and a number are drawn. -/
def NewOpD (w : World) (e : Ending) (w' : World) : Prop :=
  ∃ (ts : List Tm) (A : Option Addr) (c : Nat) (k i : Int), e = .returned (.tuple #[.agg #[.slice A ts.length c], .int .i64 k, .int .i64 i]) ∧ (ts.length ≤ 32 ∧ bulk ts ≤ 64 ∧ ∀ t ∈ ts, BentT t) ∧ (-1 ≤ i ∧ i ≤ (ts.length : Int)) ∧
    TmsIn w' w.heap.size w'.heap.size A ts ∧ Below w.heap.size w w'

set_option maxRecDepth 100000 in
set_option maxHeartbeats 1000000 in
theorem drawOpen_any (A : Option Addr) (c : Nat) (code : List UInt8) (w : World) (hA : BytesIn w 0 w.heap.size A code) (hn : code.length ≤ 9223372036854775807) :
    Calls Try.prog 18 #[.slice A code.length c] w (NewOpD w) := by
  have HA := Lib.hid hA
  clear hA
  go_enter Try.func18, Try.ntmps18
  go_wp2_with fail
  obtain ⟨W0, hW0⟩ : ∃ y, y = w.alloc (.cells #[.slice none 0 0] 25) := ⟨_, rfl⟩
  have hb0 : Below w.heap.size w W0 := by rw [hW0]; exact (Below.refl _ _).alloc (Nat.le_refl _) _
  have hz0 : W0.heap.size = w.heap.size + 1 := by rw [hW0]; simp
  have r0 : W0.cell? ⟨w.heap.size, 0, none⟩ = some (.slice none 0 0) := by rw [hW0]; simp
  have rf : W0.frozen? ⟨w.heap.size, 0, none⟩ = false := by rw [hW0]; simp
  rw [← hW0]
  refine (l1New_any A c code W0 ((HA.out.keep fun p _ hp => hb0.cell hp).mono hb0.size) hn).mono ?_
  rintro e w1 ⟨rfl, hc1, hb1⟩
  obtain ⟨K, hKe⟩ : ∃ K, K = W0.heap.size := ⟨_, rfl⟩
  rw [← hKe] at hc1 hb1 ⊢
  have hKw : w.heap.size < K := by omega
  have hz1 := hc1.lt
  have HC1 := Lib.hid hc1
  have HB1 := Lib.hid (hb0.trans (hb1.mono (by omega)))
  have HR1 := Lib.hid (And.intro ((hb1.cell (p := ⟨w.heap.size, 0, none⟩) hKw).trans r0) ((hb1.frozen (p := ⟨w.heap.size, 0, none⟩) hKw).trans rf))
  clear hW0 hb0 hz0 r0 rf hKe hc1 hb1
  go_wp2_with fail
  refine (l1bent_any K code w1 HC1.out).mono ?_
  rintro e w2 ⟨ts, A1, c1, rfl, hl1, hk1, hall, ht2, hc2, ho2⟩
  have hz2 := ho2.size
  obtain ⟨W3, hW3⟩ : ∃ y, y = w2.alloc (.cells #[.slice A1 ts.length c1] 25) := ⟨_, rfl⟩
  have hb3 : Below w2.heap.size w2 W3 := by rw [hW3]; exact (Below.refl _ _).alloc (Nat.le_refl _) _
  have b3 : W3.cell? ⟨w2.heap.size, 0, none⟩ = some (.slice A1 ts.length c1) := by rw [hW3]; simp
  have hz3 : w2.heap.size < W3.heap.size := by rw [hW3]; simp
  have HT3 := Lib.hid (ht2.keep fun p _ hp => hb3.cell hp)
  have HC3 := Lib.hid (hc2.below hb3 (by omega))
  have HO3 := Lib.hid (ho2.below hb3)
  have HR3 := Lib.hid (And.intro ((hb3.cell (p := ⟨w.heap.size, 0, none⟩) (by show w.heap.size < _; omega)).trans ((ho2.cell (p := ⟨w.heap.size, 0, none⟩) (by show w.heap.size < _; omega) (by show w.heap.size ≠ K; omega)).trans HR1.out.1)) ((hb3.frozen (p := ⟨w.heap.size, 0, none⟩) (by show w.heap.size < _; omega)).trans ((ho2.frozen (p := ⟨w.heap.size, 0, none⟩) (by show w.heap.size < _; omega) (by show w.heap.size ≠ K; omega)).trans HR1.out.2)))
  have HAll := Lib.hid (And.intro hl1 (And.intro hk1 hall))
  clear HR1 HC1 ht2 hc2 ho2 hb3 hk1 hall
  have b3' := b3
  -- what a world is like in which only the cursor has moved
  have HKeep := Lib.hid (fun (X : World) (hX : OffK K W3 X) => show X.cell? ⟨w2.heap.size, 0, none⟩ = some (.slice A1 ts.length c1) ∧ X.cell? ⟨w.heap.size, 0, none⟩ = some (.slice none 0 0) ∧ X.frozen? ⟨w.heap.size, 0, none⟩ = false ∧ TmsIn X w1.heap.size w2.heap.size A1 ts from
    ⟨(hX.cell (p := ⟨w2.heap.size, 0, none⟩) (by show w2.heap.size < _; omega) (by show w2.heap.size ≠ K; omega)).trans b3', (hX.cell (p := ⟨w.heap.size, 0, none⟩) (by show w.heap.size < _; omega) (by show w.heap.size ≠ K; omega)).trans HR3.out.1, (hX.frozen (p := ⟨w.heap.size, 0, none⟩) (by show w.heap.size < _; omega) (by show w.heap.size ≠ K; omega)).trans HR3.out.2,
      HT3.out.keep fun p h1 h2 => hX.cell (by omega) (by omega)⟩)
  have HFin := Lib.hid (fun (X : World) (hX : OffK K W3 X) (i k : Int) (hi : -1 ≤ i ∧ i ≤ (ts.length : Int)) (V : Value) => show NewOpD w (.returned (.tuple #[.agg #[.slice A1 ts.length c1], .int .i64 k, .int .i64 i])) (X.setCell ⟨w.heap.size, 0, none⟩ V) from by
    have hall : OffK K w1 X := HO3.out.trans hX (.inl rfl)
    refine ⟨ts, A1, c1, k, i, rfl, HAll.out, hi, ?_, (HB1.out.trans (hall.low (B := w.heap.size) (by omega) (by omega))).setCell (Nat.le_refl _) _⟩
    refine TmsIn.mono (TmsIn.low ((HKeep.out X hX).2.2.2.keep fun p hp hp2 => ?_) (by omega)) (by have := hX.size; simp; omega)
    exact World.cell?_setCell_other _ _ _ _ (fun e => by subst e; exact absurd hp (by show ¬ (w1.heap.size ≤ w.heap.size); omega)))
  have HBel := Lib.hid (fun (X : World) (hC : Cur X K code) (hX : OffK K W3 X) => show Calls Try.prog 52 #[.pointer (some ⟨K, 0, none⟩), .int .i64 (IntKind.i64.wrap ((ts.length : Int) + 2))] X (fun e w' => ∃ i, e = .returned (.int .i64 (i + 1)) ∧ (-1 ≤ i ∧ i ≤ (ts.length : Int)) ∧ Cur w' K code ∧ OffK K W3 w') from by
    rw [show IntKind.i64.wrap ((ts.length : Int) + 2) = (ts.length : Int) + 2 by rw [IntKind.wrap_i64]; omega]
    refine (l1Below_any K code ((ts.length : Int) + 2) X hC).mono ?_
    rintro e w' ⟨x, rfl, hx, hc, ho⟩
    have hx' := hx.2.1 (by omega)
    exact ⟨x - 1, by rw [Int.sub_add_cancel], by omega, hc, hX.trans ho (.inl rfl)⟩)
  have hwn : IntKind.i64.wrap ((ts.length : Int) + 2) = (ts.length : Int) + 2 := by rw [IntKind.wrap_i64]; omega
  have HR0 := HR3.out
  clear HO3 HR3 HAll HB1 b3'
  go_upto_region 3 with fail
  rw [← hW3]
  clear hW3
  -- CUT
  have q := HBel.out W3 HC3.out (OffK.refl _ _)
  rw [hwn] at q
  go_wp2_with fail
  refine q.mono ?_
  rintro e w4 ⟨i, rfl, hi, hc4, ho4⟩
  clear q
  obtain ⟨b4, r4, rf4, ht4⟩ := HKeep.out w4 ho4
  have hz4 := ho4.size
  have HC4 := Lib.hid hc4
  have HO4 := Lib.hid ho4
  have HT4 := Lib.hid ht4
  have hwi : IntKind.i64.wrap (i + 1 - 1) = i := by rw [IntKind.wrap_i64]; omega
  have hwi2 : IntKind.i64.wrap i = i := by rw [IntKind.wrap_i64]; omega
  have HSix := Lib.hid (fun (X : World) (hC : Cur X K code) (hX : OffK K W3 X) => show Calls Try.prog 52 #[.pointer (some ⟨K, 0, none⟩), .int .i64 (IntKind.i64.wrap ((ts.length : Int) + 2))] X.drew (fun e w' => ∃ k, e = .returned (.int .i64 (k + 1)) ∧ IntKind.i64.wrap (k + 1 - 1) = k ∧ IntKind.i64.wrap k = k ∧ w'.cell? ⟨w2.heap.size, 0, none⟩ = some (.slice A1 ts.length c1) ∧ w'.cell? ⟨w.heap.size, 0, none⟩ = some (.slice none 0 0) ∧ w'.frozen? ⟨w.heap.size, 0, none⟩ = false ∧ ∀ V, NewOpD w (.returned (.tuple #[.agg #[.slice A1 ts.length c1], .int .i64 k, .int .i64 i])) (w'.setCell ⟨w.heap.size, 0, none⟩ V)) from by
    refine (HBel.out X.drew (hC.below (Below.refl _ _).drew hC.lt) hX.drew).mono ?_
    rintro e w' ⟨k, rfl, hk, hc, ho⟩
    obtain ⟨x1, x2, x3, _⟩ := HKeep.out w' ho
    exact ⟨k, rfl, by rw [IntKind.wrap_i64]; omega, by rw [IntKind.wrap_i64]; omega, x1, x2, x3, fun V => HFin.out w' ho i k hi V⟩)
  clear hc4 ho4 ht4 HT3 HC3 b3 HR0
  by_cases hi0 : 0 ≤ i
  · by_cases hin : i < (ts.length : Int)
    · go_wp2_with fail
      refine (l1Once_any K code 2 w4 HC4.out).mono ?_
      rintro e w5 ⟨b, rfl, hc5, ho5⟩
      have ho5' := HO4.out.trans ho5 (.inl rfl)
      obtain ⟨b5, r5, rf5, ht5⟩ := HKeep.out w5 ho5'
      have HC5 := Lib.hid hc5
      have HO5 := Lib.hid ho5'
      have hz5 := ho5.size
      clear HO4 HC4 b4 r4 rf4 HT4 ho5 ho5' hc5
      cases b with
      | true =>
        obtain ⟨j, rfl⟩ := Int.eq_ofNat_of_zero_le hi0
        obtain ⟨bt, ot, rfl, _, hbt, hct⟩ := ht5 (by omega)
        obtain ⟨_, _, _, q1, _⟩ := hct j (by omega)
        obtain ⟨kx, hkx⟩ : ∃ y, y = ts[j].a := ⟨_, rfl⟩
        rw [← hkx] at q1
        have HF := Lib.hid (fun V => HFin.out w5.drew HO5.out.drew (j : Int) kx hi V)
        have hjl : j < ts.length := by omega
        clear HSix HBel HKeep HFin ht5 hct hkx
        go_upto_region 5 with fail
        go_region
        go_wp2_with fail
        refine bodyPost_ret (v := .tuple #[.agg #[.slice (some ⟨bt, ot, none⟩) ts.length c1], .int .i64 kx, .int .i64 j]) (by simp [results, Try.results18, go_sem, *]) rfl ?_
        exact HF.out _
      | false =>
        clear ht5
        have HCall := Lib.hid (HSix.out w5 HC5.out HO5.out)
        clear HSix HBel HKeep HFin hwn
        go_upto_region 6 with fail
        go_region_law
          (first
            | (go_simp
               go_at_call 52
               refine HCall.out.mono ?_
               rintro e w6 ⟨k6, rfl, hk6, hk6', cb6, r6, rf6, hf6⟩
               have HF := Lib.hid hf6
               clear HCall hf6
               go_wp2_with fail))
        all_goals
          go_wp2_with fail
          refine bodyPost_ret (v := .tuple #[.agg #[.slice A1 ts.length c1], .int .i64 k6, .int .i64 i]) (by simp [results, Try.results18, go_sem, *]) rfl ?_
          exact HF.out _
    · clear HT4
      have HCall := Lib.hid (HSix.out w4 HC4.out HO4.out)
      clear HSix HBel HKeep HFin hwn
      go_upto_region 6 with fail
      go_region_law
        (first
          | (go_simp
             go_at_call 52
             refine HCall.out.mono ?_
             rintro e w6 ⟨k6, rfl, hk6, hk6', cb6, r6, rf6, hf6⟩
             have HF := Lib.hid hf6
             clear HCall hf6
             go_wp2_with fail))
      all_goals
        go_wp2_with fail
        refine bodyPost_ret (v := .tuple #[.agg #[.slice A1 ts.length c1], .int .i64 k6, .int .i64 i]) (by simp [results, Try.results18, go_sem, *]) rfl ?_
        exact HF.out _
  · have him : i = -1 := by omega
    clear HT4
    subst him
    have HCall := Lib.hid (HSix.out w4 HC4.out HO4.out)
    clear HSix HBel HKeep HFin hwn
    go_upto_region 6 with fail
    go_region_law
      (first
        | (go_simp
           go_at_call 52
           refine HCall.out.mono ?_
           rintro e w6 ⟨k6, rfl, hk6, hk6', cb6, r6, rf6, hf6⟩
           have HF := Lib.hid hf6
           clear HCall hf6
           go_wp2_with fail))
    all_goals
      go_wp2_with fail
      refine bodyPost_ret (v := .tuple #[.agg #[.slice A1 ts.length c1], .int .i64 k6, .int .i64 (-1)]) (by simp [results, Try.results18, go_sem, *]) rfl ?_
      exact HF.out _

end Go.Proofs.Ytigkojdchpjkcaa
