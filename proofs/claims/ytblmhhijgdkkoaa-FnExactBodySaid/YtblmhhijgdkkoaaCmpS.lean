/-
  The model's l3cmp and l3dot.
-/
import Derived.Test.YtblmhhijgdkkoaaVecS
import Derived.Test.YtblmhhijgdkkoaaTr
import Derived.Test.YtblmhhijgdkkoaaTokI
import Derived.Test.YtblmhhijgdkkoaaNameS
import Derived.Outline
namespace Go.Proofs.Ytblmhhijgdkkoaa
open Go.RowKit Go.Maps

theorem compare_less : ∀ a b : List UInt8, Lib.compareBytes a b = if a = b then 0 else if Op.bytesLess a b then -1 else 1
  | [], [] => by simp [Lib.compareBytes]
  | [], _ :: _ => by simp [Lib.compareBytes, Op.bytesLess]
  | _ :: _, [] => by simp [Lib.compareBytes, Op.bytesLess]
  | x :: a, y :: b => by
    rw [Lib.compareBytes, compare_less a b, Op.bytesLess]
    by_cases h1 : x = y
    · subst h1
      have hlt : ¬ x < x := UInt8.lt_irrefl x
      simp [hlt]
    · by_cases h2 : x < y
      · simp [h1, h2]
      · have h3 : y < x := UInt8.lt_of_le_of_ne (UInt8.not_lt.1 h2) (Ne.symm h1)
        simp [h1, h2, h3]

/-- An entry of the model, read. -/
def enV (A : Option Addr) (c : Nat) (e : En) : Value := .agg #[.slice A e.name.length c, .int .i64 e.val, .int .i64 e.dev, .int .i64 e.num]

set_option maxRecDepth 100000 in
set_option maxHeartbeats 2000000 in
theorem l3cmp_any (A A2 : Option Addr) (c c2 : Nat) (e f : En) (w : World) (hA : BytesIn w 0 w.heap.size A e.name) (hA2 : BytesIn w 0 w.heap.size A2 f.name) :
    Calls Try.prog 97 #[enV A c e, enV A2 c2 f] w fun r w' => r = .returned (.int .i64 (plaV e f)) ∧ Below w.heap.size w w' := by
  obtain ⟨n1, v1, d1, m1⟩ := e
  obtain ⟨n2, v2, d2, m2⟩ := f
  simp only at hA hA2
  have HA := Lib.hid hA
  have HA2 := Lib.hid hA2
  have HP := Lib.hid (show plaV ⟨n1, v1, d1, m1⟩ ⟨n2, v2, d2, m2⟩ = or3 (Lib.compareBytes n1 n2) (cmpI m2 m1) (cmpI d1 d2) from rfl)
  clear hA hA2
  unfold enV
  simp only
  go_enter Try.func97, Try.ntmps97
  go_wp2_with fail
  obtain ⟨W0, hW0⟩ : ∃ W0, W0 = w.alloc (.cells #[.slice A n1.length c, .int .i64 v1, .int .i64 d1, .int .i64 m1] 93) := ⟨_, rfl⟩
  obtain ⟨W, hW⟩ : ∃ W, W = W0.alloc (.cells #[.slice A2 n2.length c2, .int .i64 v2, .int .i64 d2, .int .i64 m2] 93) := ⟨_, rfl⟩
  have hz0 : W0.heap.size = w.heap.size + 1 := by rw [hW0]; simp
  have hz : W.heap.size = w.heap.size + 2 := by rw [hW]; simp [hz0]
  have hX : Bx W w.heap.size [.slice A n1.length c, .int .i64 v1, .int .i64 d1, .int .i64 m1] := by rw [hW]; exact Bx.alloc (by rw [hW0]; exact Bx.new' _ _ _ _ rfl) (by omega) _
  have hY : Bx W (w.heap.size + 1) [.slice A2 n2.length c2, .int .i64 v2, .int .i64 d2, .int .i64 m2] := by rw [hW, ← hz0]; exact Bx.new' _ _ _ _ rfl
  have HBel := Lib.hid (show Below w.heap.size w W by rw [hW, hW0]; exact ((Below.refl _ _).alloc (Nat.le_refl _) _).alloc (by simp) _)
  rw [← hW0, ← hW]
  have hzW : w.heap.size + 1 < W.heap.size := by omega
  clear hW hW0 hz0 hz
  obtain ⟨x0, x1, x2, x3⟩ := hX.four
  obtain ⟨y0, y1, y2, y3⟩ := hY.four
  have g0 := fun x : Kp W => x.cell x0
  have g1 := fun x : Kp W => x.cell y0
  have k1 := fun x : Kp W => run_str (w := x.val) (((HA.out.keep fun p _ hp => (HBel.out.trans (x.ok.mono (by omega))).cell hp)) : BytesIn x.val 0 w.heap.size A n1) c
  have k2 := fun x : Kp W => run_str (w := x.val) (((HA2.out.keep fun p _ hp => (HBel.out.trans (x.ok.mono (by omega))).cell hp)) : BytesIn x.val 0 w.heap.size A2 n2) c2
  have HX := Lib.hid hX
  have HY := Lib.hid hY
  clear hX hY x0 x1 x2 x3 y0 y1 y2 y3
  refine wp_region_kept (by kernel_rfl) (by kernel_rfl) ?_
  repeat (go_big_quiet_step (fail))
  refine wpQuiet_nil ?_
  rintro _ ⟨x, rfl⟩
  clear k1 k2 g0 g1
  obtain ⟨W1, hW1⟩ : ∃ W1, W1 = x.val := ⟨_, rfl⟩
  have hb1 : Below W.heap.size W W1 := by rw [hW1]; exact x.ok
  rw [← hW1]
  clear hW1 x
  have HB1 := Lib.hid (HBel.out.trans (hb1.mono (by omega)))
  obtain ⟨x0, x1, x2, x3⟩ := (HX.out.below hb1 (by omega)).four
  obtain ⟨y0, y1, y2, y3⟩ := (HY.out.below hb1 (by omega)).four
  clear hb1 x0 x1 y0 y1
  go_wp2_with fail
  all_goals
    go_ret
    refine ⟨ret_int (Eq.trans ?_ HP.out.symm), HB1.out⟩
    rw [or3, compare_less, cmpI, cmpI]
    clear HP HX HY HB1 HA HA2 HBel x2 x3 y2 y3
    have e1 : ¬ ((1 : Int) != 0) = false := by decide
    have e2 : ¬ ((-1 : Int) != 0) = false := by decide
    simp_all
    try (repeat (split <;> (try omega)))

end Go.Proofs.Ytblmhhijgdkkoaa
