/-
  The program's vectors: is one below another one?
-/
import Derived.Test.YtblmhhijgdkkoaaVecU
import Derived.Laws.StructEq
namespace Go.Proofs.Ytblmhhijgdkkoaa
open Go.RowKit Go.Maps

theorem Try.vecEq (a b c d a' b' c' d' : Int) (w : World) : (binOp .eql 81 (v4 a b c d) (v4 a' b' c' d')).run Try.prog w = .ok (.bool (a == a' && b == b' && c == c' && d == d')) w := by
  unfold v4
  rw [run_eql_struct, show (10000 : Nat) = 9998 + 1 + 1 from rfl]
  have hz := Try.sizeOf3
  have ha := Try.isAgg3
  have hu := Try.underlying81
  have hi := Try.underlying3
  unfold Op.equalIn
  simp only [Sem.run_bind, run_underlying hu, Result.andThen_ok]
  simp only [hz, Result.andThen_ok, Std.Legacy.Range.forIn_eq_forIn_range', Std.Legacy.Range.size]
  simp [List.range']
  go_simp
  by_cases h1 : a = a' <;> by_cases h2 : b = b' <;> by_cases h3 : c = c' <;> by_cases h4 : d = d' <;> simp [h1, h2, h3, h4]

/-- None of the first four is above the other's. -/
def belB (a b c d a' b' c' d' : Int) : Bool := mx a a' == a' && mx b b' == b' && mx c c' == c' && mx d d' == d'
theorem mx_beq (x y : Int) : (mx x y == y) = decide (x ≤ y) := by
  unfold mx
  by_cases h : x < y
  · simp [h]; omega
  · rw [if_neg h, Bool.eq_iff_iff]; simp; omega

set_option maxRecDepth 100000 in
set_option maxHeartbeats 2000000 in
theorem vbelow_any (a b c d a' b' c' d' : Int) (w : World) :
    Calls Try.prog 123 #[v4 a b c d, v4 a' b' c' d'] w fun e w' => e = .returned (.bool (belB a b c d a' b' c' d')) ∧ Below w.heap.size w w' := by
  have heq := Try.vecEq (mx a a') (mx b b') (mx c c') (mx d d') a' b' c' d'
  have hup := vup_any a b c d a' b' c' d'
  have HEq := Lib.hid heq
  have HUp := Lib.hid hup
  clear heq hup
  unfold v4 at *
  go_enter Try.func123, Try.ntmps123
  go_wp2_with fail
  obtain ⟨W0, hW0⟩ : ∃ W0, W0 = w.alloc (.cells #[.int .i64 a, .int .i64 b, .int .i64 c, .int .i64 d] 81) := ⟨_, rfl⟩
  obtain ⟨W, hW⟩ : ∃ W, W = W0.alloc (.cells #[.int .i64 a', .int .i64 b', .int .i64 c', .int .i64 d'] 81) := ⟨_, rfl⟩
  have hz0 : W0.heap.size = w.heap.size + 1 := by rw [hW0]; simp
  have hz : W.heap.size = w.heap.size + 2 := by rw [hW]; simp [hz0]
  have hX : Row4 W w.heap.size a b c d := by rw [hW]; exact Row4.alloc (by rw [hW0]; exact Row4.new _ _) (by omega) _
  have hY : Row4 W (w.heap.size + 1) a' b' c' d' := by rw [hW, ← hz0]; exact Row4.new _ _
  have HBel := Lib.hid (show Below w.heap.size w W by rw [hW, hW0]; exact ((Below.refl _ _).alloc (Nat.le_refl _) _).alloc (by simp) _)
  rw [← hW0, ← hW]
  have hzW : w.heap.size + 1 < W.heap.size := by omega
  clear hW hW0 hz0 hz
  have v0 := hX.c0
  have v1 := hX.c1
  have v2 := hX.c2
  have v3 := hX.c3
  have u0 := hY.c0
  have u1 := hY.c1
  have u2 := hY.c2
  have u3 := hY.c3
  have HX := Lib.hid hX
  have HY := Lib.hid hY
  clear hX hY
  have heq := HEq.out
  go_region_held3 (fun X => (X.cell? ⟨w.heap.size, 0, none⟩ = some (.int .i64 a) ∧ X.cell? ⟨w.heap.size, 1, none⟩ = some (.int .i64 b) ∧ X.cell? ⟨w.heap.size, 2, none⟩ = some (.int .i64 c) ∧ X.cell? ⟨w.heap.size, 3, none⟩ = some (.int .i64 d)) ∧ X.cell? ⟨w.heap.size + 1, 0, none⟩ = some (.int .i64 a') ∧ X.cell? ⟨w.heap.size + 1, 1, none⟩ = some (.int .i64 b') ∧ X.cell? ⟨w.heap.size + 1, 2, none⟩ = some (.int .i64 c') ∧ X.cell? ⟨w.heap.size + 1, 3, none⟩ = some (.int .i64 d'))
    (first | exact ⟨⟨v0, v1, v2, v3⟩, u0, u1, u2, u3⟩ | exact ⟨⟨s0, s1, s2, s3⟩, t0, t1, t2, t3⟩)
    (first
      | (go_at_call 139
         refine (HUp.out _).mono ?_
         rintro e w5 ⟨rfl, hb5⟩
         have hbW5 : Below W.heap.size W w5 := by first | exact hb5 | exact (Below.refl W.heap.size W).drew.trans hb5
         have hx := HX.out.below hbW5 (by omega)
         have hy := HY.out.below hbW5 (by omega)
         have s0 := hx.c0
         have s1 := hx.c1
         have s2 := hx.c2
         have s3 := hx.c3
         have t0 := hy.c0
         have t1 := hy.c1
         have t2 := hy.c2
         have t3 := hy.c3
         have HB5 := Lib.hid (HBel.out.trans (hbW5.mono (by omega)))
         clear hx hy hb5 hbW5))
  go_wp2_with fail
  go_ret
  exact ⟨rfl, HB5.out⟩

end Go.Proofs.Ytblmhhijgdkkoaa
