/-
  The program's vectors: the greater of both, place by place.
-/
import Derived.Test.YtblmhhijgdkkoaaVecI
namespace Go.Proofs.Ytblmhhijgdkkoaa
open Go.RowKit Go.Maps

/-- The greater one. -/
def mx (x y : Int) : Int := if x < y then y else x
/-- Four numbers, the first k of them the greater ones. -/
def upK (x y : Int) (j k : Nat) : Int := if j < k then mx x y else x

theorem upK_zero (x y : Int) (j : Nat) : upK x y j 0 = x := by simp [upK]

theorem Row4.set0 {w : World} {b : Nat} {x0 x1 x2 x3 : Int} (h : Row4 w b x0 x1 x2 x3) (v : Int) : Row4 (w.setCell ⟨b, 0, none⟩ (.int .i64 v)) b v x1 x2 x3 :=
  ⟨World.cell?_setCell_same _ _ _ h.c0, (World.cell?_setCell_other _ _ _ _ (by simp)).trans h.c1, (World.cell?_setCell_other _ _ _ _ (by simp)).trans h.c2, (World.cell?_setCell_other _ _ _ _ (by simp)).trans h.c3, fun o => by rw [World.frozen?_setCell]; exact h.fr o⟩
theorem Row4.set1 {w : World} {b : Nat} {x0 x1 x2 x3 : Int} (h : Row4 w b x0 x1 x2 x3) (v : Int) : Row4 (w.setCell ⟨b, 1, none⟩ (.int .i64 v)) b x0 v x2 x3 :=
  ⟨(World.cell?_setCell_other _ _ _ _ (by simp)).trans h.c0, World.cell?_setCell_same _ _ _ h.c1, (World.cell?_setCell_other _ _ _ _ (by simp)).trans h.c2, (World.cell?_setCell_other _ _ _ _ (by simp)).trans h.c3, fun o => by rw [World.frozen?_setCell]; exact h.fr o⟩
theorem Row4.set2 {w : World} {b : Nat} {x0 x1 x2 x3 : Int} (h : Row4 w b x0 x1 x2 x3) (v : Int) : Row4 (w.setCell ⟨b, 2, none⟩ (.int .i64 v)) b x0 x1 v x3 :=
  ⟨(World.cell?_setCell_other _ _ _ _ (by simp)).trans h.c0, (World.cell?_setCell_other _ _ _ _ (by simp)).trans h.c1, World.cell?_setCell_same _ _ _ h.c2, (World.cell?_setCell_other _ _ _ _ (by simp)).trans h.c3, fun o => by rw [World.frozen?_setCell]; exact h.fr o⟩
theorem Row4.set3 {w : World} {b : Nat} {x0 x1 x2 x3 : Int} (h : Row4 w b x0 x1 x2 x3) (v : Int) : Row4 (w.setCell ⟨b, 3, none⟩ (.int .i64 v)) b x0 x1 x2 v :=
  ⟨(World.cell?_setCell_other _ _ _ _ (by simp)).trans h.c0, (World.cell?_setCell_other _ _ _ _ (by simp)).trans h.c1, (World.cell?_setCell_other _ _ _ _ (by simp)).trans h.c2, World.cell?_setCell_same _ _ _ h.c3, fun o => by rw [World.frozen?_setCell]; exact h.fr o⟩
theorem Row4.other {w : World} {b b' o : Nat} {x0 x1 x2 x3 : Int} (h : Row4 w b x0 x1 x2 x3) (hb : b ≠ b') (v : Value) : Row4 (w.setCell ⟨b', o, none⟩ v) b x0 x1 x2 x3 :=
  ⟨(cell_other hb).trans h.c0, (cell_other hb).trans h.c1, (cell_other hb).trans h.c2, (cell_other hb).trans h.c3, fun o => by rw [World.frozen?_setCell]; exact h.fr o⟩

set_option maxRecDepth 100000 in
set_option maxHeartbeats 2000000 in
theorem vup_any (a b c d a' b' c' d' : Int) (w : World) :
    Calls Try.prog 139 #[v4 a b c d, v4 a' b' c' d'] w fun e w' => e = .returned (v4 (mx a a') (mx b b') (mx c c') (mx d d')) ∧ Below w.heap.size w w' := by
  unfold v4
  go_enter Try.func139, Try.ntmps139
  go_wp2_with fail
  go_loopw [8] (fun i wr => ∃ k : Nat, k ≤ 4 ∧ i = .int .i64 k ∧ Row4 wr w.heap.size (upK a a' 0 k) (upK b b' 1 k) (upK c c' 2 k) (upK d d' 3 k) ∧ Row4 wr (w.heap.size + 1 + 1) 0 0 0 0 ∧ w.heap.size + 1 + 1 < wr.heap.size ∧ Below w.heap.size w wr) (fun i _ => 4 - (intOf i).toNat)
  case atStart => exact ⟨0, by omega, rfl, by rw [upK_zero, upK_zero, upK_zero, upK_zero]; exact ((Row4.new w _).alloc (by simp) _).alloc (by simp; omega) _, by have h := Row4.new (x0 := 0) (x1 := 0) (x2 := 0) (x3 := 0) ((w.alloc (.cells #[.int .i64 a, .int .i64 b, .int .i64 c, .int .i64 d] 81)).alloc (.cells #[.int .i64 a', .int .i64 b', .int .i64 c', .int .i64 d'] 81)) 81; simpa using h, by simp, (((Below.refl _ _).alloc (Nat.le_refl _) _).alloc (by simp) _).alloc (by simp; omega) _⟩
  case round =>
    obtain ⟨k, hk, rfl, hrow, hres, hsz, hbel⟩ := hrel
    have HBel := Lib.hid hbel
    have HRes := Lib.hid hres
    clear hbel hres
    have hk5 : k = 0 ∨ k = 1 ∨ k = 2 ∨ k = 3 ∨ k = 4 := by omega
    rcases hk5 with rfl | rfl | rfl | rfl | rfl
    · have hr : Row4 wr w.heap.size a b c d := by simpa [upK] using hrow
      clear hrow
      have HR := Lib.hid hr
      have h0 := hr.c0
      have hf := hr.fr 0
      have hix := Try.index40 a' b' c' d'
      clear hr
      go_wp2_with fail
      go_roundw
      case rel => exact ⟨1, by omega, by go_num, by simpa [upK, mx] using HR.out.set0 (mx a a'), HRes.out.other (by omega) _, by simpa using hsz, HBel.out.setCell (Nat.le_refl _) _⟩
      case measure => simp [intOf]
    · have hr : Row4 wr w.heap.size (mx a a') b c d := by simpa [upK] using hrow
      clear hrow
      have HR := Lib.hid hr
      have h1 := hr.c1
      have hf := hr.fr 1
      have hix := Try.index41 a' b' c' d'
      clear hr
      go_wp2_with fail
      go_roundw
      case rel => exact ⟨2, by omega, by go_num, by simpa [upK, mx] using HR.out.set1 (mx b b'), HRes.out.other (by omega) _, by simpa using hsz, HBel.out.setCell (Nat.le_refl _) _⟩
      case measure => simp [intOf]
    · have hr : Row4 wr w.heap.size (mx a a') (mx b b') c d := by simpa [upK] using hrow
      clear hrow
      have HR := Lib.hid hr
      have h2 := hr.c2
      have hf := hr.fr 2
      have hix := Try.index42 a' b' c' d'
      clear hr
      go_wp2_with fail
      go_roundw
      case rel => exact ⟨3, by omega, by go_num, by simpa [upK, mx] using HR.out.set2 (mx c c'), HRes.out.other (by omega) _, by simpa using hsz, HBel.out.setCell (Nat.le_refl _) _⟩
      case measure => simp [intOf]
    · have hr : Row4 wr w.heap.size (mx a a') (mx b b') (mx c c') d := by simpa [upK] using hrow
      clear hrow
      have HR := Lib.hid hr
      have h3 := hr.c3
      have hf := hr.fr 3
      have hix := Try.index43 a' b' c' d'
      clear hr
      go_wp2_with fail
      go_roundw
      case rel => exact ⟨4, by omega, by go_num, by simpa [upK, mx] using HR.out.set3 (mx d d'), HRes.out.other (by omega) _, by simpa using hsz, HBel.out.setCell (Nat.le_refl _) _⟩
      case measure => simp [intOf]
    · have hr : Row4 wr w.heap.size (mx a a') (mx b b') (mx c c') (mx d d') := by simpa [upK] using hrow
      clear hrow
      have HR := Lib.hid hr
      have h0 := hr.c0
      have h1 := hr.c1
      have h2 := hr.c2
      have h3 := hr.c3
      have r0 := HRes.out.c0
      have r1 := HRes.out.c1
      have r2 := HRes.out.c2
      have r3 := HRes.out.c3
      have hf := HRes.out.fr
      clear hr
      go_wp2_with fail
      exact bodyPost_ret (v := .agg #[.int .i64 (mx a a'), .int .i64 (mx b b'), .int .i64 (mx c c'), .int .i64 (mx d d')]) (by simp [results, Try.results139, r0, r1, r2, r3, go_sem]) rfl ⟨rfl, below_set4 HBel.out (by omega) _ _ _ _⟩

end Go.Proofs.Ytblmhhijgdkkoaa
