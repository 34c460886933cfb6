/-
  What is drawn for Verify; what Open, At and Verify have to do with each other: plain data.
-/
import Derived.Test.YtigkojdchpjkcaaDop
import Derived.Test.YtigkojdchpjkcaaGat
import Derived.Test.YtigkojdchpjkcaaVerify
namespace Go.Proofs.Ytigkojdchpjkcaa
open Go.RowKit Go.Maps

/-- A ledger, a key, a signature and what is signed are drawn. -/
def NewVerD (w : World) (e : Ending) (w' : World) : Prop :=
  ∃ (ts : List Tm) (A : Option Addr) (c : Nat) (k i b : Int), e = .returned (.tuple #[.agg #[.slice A ts.length c], .int .i64 k, .int .i64 i, .int .i64 b]) ∧ (ts.length ≤ 32 ∧ bulk ts ≤ 64) ∧
    TmsIn w' w.heap.size w'.heap.size A ts ∧ Below w.heap.size w w'

set_option maxRecDepth 100000 in
set_option maxHeartbeats 1000000 in
theorem drawVerify_any (A : Option Addr) (c : Nat) (code : List UInt8) (w : World) (hA : BytesIn w 0 w.heap.size A code) (hn : code.length ≤ 9223372036854775807) :
    Calls Try.prog 20 #[.slice A code.length c] w (NewVerD w) := by
  have HA := Lib.hid hA
  clear hA
  go_enter Try.func20, Try.ntmps20
  go_wp2_with fail
  obtain ⟨W0, hW0⟩ : ∃ y, y = w.alloc (.cells #[.slice none 0 0] 25) := ⟨_, rfl⟩
  have hb0 : Below w.heap.size w W0 := by rw [hW0]; exact (Below.refl _ _).alloc (Nat.le_refl _) _
  have hz0 : w.heap.size < W0.heap.size := by rw [hW0]; simp
  have r0 : W0.cell? ⟨w.heap.size, 0, none⟩ = some (.slice none 0 0) := by rw [hW0]; simp
  have rf : W0.frozen? ⟨w.heap.size, 0, none⟩ = false := by rw [hW0]; simp
  rw [← hW0]
  refine (drawOpen_any A c code W0 ((HA.out.keep fun p _ hp => hb0.cell hp).mono hb0.size) hn).mono ?_
  rintro e w1 ⟨ts, A1, c1, k, i, rfl, ⟨hl1, hk1, _⟩, hi, ht1, hb1⟩
  have hz1 := hb1.size
  obtain ⟨W2, hW2⟩ : ∃ y, y = w1.alloc (.cells #[.slice A1 ts.length c1] 25) := ⟨_, rfl⟩
  have hb2 : Below w1.heap.size w1 W2 := by rw [hW2]; exact (Below.refl _ _).alloc (Nat.le_refl _) _
  have b2 : W2.cell? ⟨w1.heap.size, 0, none⟩ = some (.slice A1 ts.length c1) := by rw [hW2]; simp
  have hz2 : w1.heap.size < W2.heap.size := by rw [hW2]; simp
  have r2 := (hb2.cell (p := ⟨w.heap.size, 0, none⟩) (by show w.heap.size < _; omega)).trans ((hb1.cell (p := ⟨w.heap.size, 0, none⟩) hz0).trans r0)
  have rf2 := (hb2.frozen (p := ⟨w.heap.size, 0, none⟩) (by show w.heap.size < _; omega)).trans ((hb1.frozen (p := ⟨w.heap.size, 0, none⟩) hz0).trans rf)
  have HT2 := Lib.hid (show TmsIn W2 W0.heap.size w1.heap.size A1 ts from ht1.keep fun p _ hp => hb2.cell hp)
  have HB2 := Lib.hid (hb0.trans ((hb1.trans (hb2.mono hz1)).mono (by omega)))
  have HFin := Lib.hid (fun (X : World) (hX : Below W2.heap.size W2 X) (b : Int) (V : Value) => show NewVerD w (.returned (.tuple #[.agg #[.slice A1 ts.length c1], .int .i64 k, .int .i64 i, .int .i64 b])) (X.setCell ⟨w.heap.size, 0, none⟩ V) from
    ⟨ts, A1, c1, k, i, b, rfl, ⟨hl1, hk1⟩, (((HT2.out.keep fun p _ hp => hX.cell (by omega)).set (by show w.heap.size < W0.heap.size; omega) V).low (by omega)).mono (by have := hX.size; simp; omega), (HB2.out.trans (hX.mono (by omega))).setCell (Nat.le_refl _) _⟩)
  clear hW0 hb0 r0 rf ht1 hb1 hb2
  go_upto_region 2 with fail
  rw [← hW2]
  clear hW2
  by_cases hi0 : 0 ≤ i
  · by_cases hin : i < (ts.length : Int)
    · obtain ⟨j, rfl⟩ := Int.eq_ofNat_of_zero_le hi0
      obtain ⟨bt, ot, rfl, _, hbt, hct⟩ := HT2.out (by omega)
      obtain ⟨_, _, _, _, q2, _⟩ := hct j (by omega)
      obtain ⟨kx, hkx⟩ : ∃ y, y = ts[j].b := ⟨_, rfl⟩
      rw [← hkx] at q2
      have HF := Lib.hid (fun V => HFin.out W2.drew (Below.refl _ _).drew kx V)
      have hjl : j < ts.length := by omega
      clear HFin HT2 hct hkx
      go_upto_region 3 with fail
      go_region
      go_wp2_with fail
      refine bodyPost_ret (v := .tuple #[.agg #[.slice (some ⟨bt, ot, none⟩) ts.length c1], .int .i64 k, .int .i64 j, .int .i64 kx]) (by simp [results, Try.results20, go_sem, *]) rfl ?_
      exact HF.out _
    · have HF := Lib.hid (fun V => HFin.out W2 (Below.refl _ _) 0 V)
      clear HFin HT2
      go_wp2_with fail
      refine bodyPost_ret (v := .tuple #[.agg #[.slice A1 ts.length c1], .int .i64 k, .int .i64 i, .int .i64 0]) (by simp [results, Try.results20, go_sem, *]) rfl ?_
      exact HF.out _
  · have him : i = -1 := by omega
    subst him
    have HF := Lib.hid (fun V => HFin.out W2 (Below.refl _ _) 0 V)
    clear HFin HT2
    go_wp2_with fail
    refine bodyPost_ret (v := .tuple #[.agg #[.slice A1 ts.length c1], .int .i64 k, .int .i64 (-1), .int .i64 0]) (by simp [results, Try.results20, go_sem, *]) rfl ?_
    exact HF.out _

/-- Is it a seal that the key opens? -/
def OpenP (ts : List Tm) (key id : Int) : Prop := lokB ts = true ∧ hasB ts.length id = true ∧ (tmAt ts id).kind = 5 ∧ (tmAt ts id).a = key
theorem open_yes' {ts : List Tm} {key id : Int} (h : OpenP ts key id) : openV ts key id = .tuple #[.int .i64 (tmAt ts id).b, .bool true] ∧ atB ts id = true ∧ (atT ts id).kind = 5 ∧ (atT ts id).a = key ∧ (atT ts id).b = (tmAt ts id).b := by
  have hb : atB ts id = true := by unfold atB; rw [h.1, h.2.1]; rfl
  have ht : atT ts id = tmAt ts id := by unfold atT; rw [if_pos hb]
  exact ⟨by unfold openV; exact if_pos h, hb, by rw [ht]; exact h.2.2.1, by rw [ht]; exact h.2.2.2, by rw [ht]⟩
theorem open_no' {ts : List Tm} {key id : Int} (h : ¬ OpenP ts key id) : openV ts key id = .tuple #[.int .i64 (-1), .bool false] := by
  unfold openV
  exact if_neg h
theorem ver_one {ts : List Tm} {key sig msg : Int} (h : verifyB ts key sig msg = true) : (∀ j, ¬ j = key → verifyB ts j sig msg = false) ∧ (∀ j, ¬ j = msg → verifyB ts key sig j = false) := by
  unfold verifyB verB at *
  simp only [Bool.and_eq_true, beq_iff_eq] at h
  constructor <;> intro j hj
  · rw [← Bool.not_eq_true]
    intro h2
    simp only [Bool.and_eq_true, beq_iff_eq] at h2
    omega
  · rw [← Bool.not_eq_true]
    intro h2
    simp only [Bool.and_eq_true, beq_iff_eq] at h2
    omega

end Go.Proofs.Ytigkojdchpjkcaa
