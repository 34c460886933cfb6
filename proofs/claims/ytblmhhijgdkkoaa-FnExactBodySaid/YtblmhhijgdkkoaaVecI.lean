/-
  The program's vectors: four numbers, read, asked, taken together.
-/
import Derived.Test.YtblmhhijgdkkoaaInt
import Derived.Test.YtblmhhijgdkkoaaBx
import Derived.Outline
import Derived.Laws.Cover3
import Derived.Deep.RegionWith
import Derived.Deep.RegionHeld3
namespace Go.Proofs.Ytblmhhijgdkkoaa
open Go.RowKit Go.Maps

/-- A vector is VecOk. -/
def vecB (l : List Int) : Bool := decide (l.length = 4) && l.all fun x => decide (0 ≤ x) && decide (x ≤ 1000)

/-- Four numbers, as a value. -/
def v4 (a b c d : Int) : Value := .agg #[.int .i64 a, .int .i64 b, .int .i64 c, .int .i64 d]

theorem Try.index40 (a b c d : Int) (w : World) : (Instr.index 81 (.agg #[.int .i64 a, .int .i64 b, .int .i64 c, .int .i64 d]) (.int .i64 0)).run Try.prog w = .ok (.int .i64 a) w := by kernel_rfl
theorem Try.index41 (a b c d : Int) (w : World) : (Instr.index 81 (.agg #[.int .i64 a, .int .i64 b, .int .i64 c, .int .i64 d]) (.int .i64 1)).run Try.prog w = .ok (.int .i64 b) w := by kernel_rfl
theorem Try.index42 (a b c d : Int) (w : World) : (Instr.index 81 (.agg #[.int .i64 a, .int .i64 b, .int .i64 c, .int .i64 d]) (.int .i64 2)).run Try.prog w = .ok (.int .i64 c) w := by kernel_rfl
theorem Try.index43 (a b c d : Int) (w : World) : (Instr.index 81 (.agg #[.int .i64 a, .int .i64 b, .int .i64 c, .int .i64 d]) (.int .i64 3)).run Try.prog w = .ok (.int .i64 d) w := by kernel_rfl
/-- The k-th of four. -/
def nth4 (a b c d : Int) (k : Nat) : Int := if k = 0 then a else if k = 1 then b else if k = 2 then c else d
theorem Try.index4 (a b c d : Int) (k : Nat) (hk : k < 4) (w : World) :
    (Instr.index 81 (.agg #[.int .i64 a, .int .i64 b, .int .i64 c, .int .i64 d]) (.int .i64 (k : Int))).run Try.prog w = .ok (.int .i64 (nth4 a b c d k)) w := by
  have : k = 0 ∨ k = 1 ∨ k = 2 ∨ k = 3 := by omega
  rcases this with rfl | rfl | rfl | rfl
  · exact Try.index40 a b c d w
  · exact Try.index41 a b c d w
  · exact Try.index42 a b c d w
  · exact Try.index43 a b c d w

/-- Block b holds four numbers, and may be written into. -/
structure Row4 (w : World) (b : Nat) (x0 x1 x2 x3 : Int) : Prop where
  c0 : w.cell? ⟨b, 0, none⟩ = some (.int .i64 x0)
  c1 : w.cell? ⟨b, 1, none⟩ = some (.int .i64 x1)
  c2 : w.cell? ⟨b, 2, none⟩ = some (.int .i64 x2)
  c3 : w.cell? ⟨b, 3, none⟩ = some (.int .i64 x3)
  fr : ∀ o, w.frozen? ⟨b, o, none⟩ = false

section
variable {w w' : World} {b B : Nat} {x0 x1 x2 x3 : Int}
theorem Row4.below (h : Row4 w b x0 x1 x2 x3) (hb : Below B w w') (hlt : b < B) : Row4 w' b x0 x1 x2 x3 :=
  ⟨(hb.cell (p := ⟨b, 0, none⟩) hlt).trans h.c0, (hb.cell (p := ⟨b, 1, none⟩) hlt).trans h.c1, (hb.cell (p := ⟨b, 2, none⟩) hlt).trans h.c2, (hb.cell (p := ⟨b, 3, none⟩) hlt).trans h.c3, fun o => (hb.frozen (p := ⟨b, o, none⟩) hlt).trans (h.fr o)⟩
theorem Row4.new (w : World) (t : TypeId) : Row4 (w.alloc (.cells #[.int .i64 x0, .int .i64 x1, .int .i64 x2, .int .i64 x3] t)) w.heap.size x0 x1 x2 x3 :=
  ⟨by simp, by simp, by simp, by simp, fun o => by simp⟩
theorem Row4.alloc (h : Row4 w b x0 x1 x2 x3) (hlt : b < w.heap.size) (o : Obj) : Row4 (w.alloc o) b x0 x1 x2 x3 := h.below ((Below.refl _ _).alloc (Nat.le_refl _) _) hlt
end

theorem cell_set4 {w : World} {b b' o : Nat} {v0 v1 v2 v3 : Value} (hb : b' ≠ b) :
    ((((w.setCell ⟨b, 0, none⟩ v0).setCell ⟨b, 1, none⟩ v1).setCell ⟨b, 2, none⟩ v2).setCell ⟨b, 3, none⟩ v3).cell? ⟨b', o, none⟩ = w.cell? ⟨b', o, none⟩ :=
  (((cell_other hb).trans (cell_other hb)).trans (cell_other hb)).trans (cell_other hb)
theorem below_set4 {B : Nat} {a w : World} (h : Below B a w) {b : Nat} (hB : B ≤ b) (v0 v1 v2 v3 : Value) :
    Below B a ((((w.setCell ⟨b, 0, none⟩ v0).setCell ⟨b, 1, none⟩ v1).setCell ⟨b, 2, none⟩ v2).setCell ⟨b, 3, none⟩ v3) :=
  (((h.setCell hB _).setCell hB _).setCell hB _).setCell hB _

/-- One number of a vector. -/
def numB (x : Int) : Bool := decide (0 ≤ x) && decide (x ≤ 1000)
theorem numB_true {x : Int} (h : numB x = true) : 0 ≤ x ∧ x ≤ 1000 := by simpa [numB] using h
theorem numB_false {x : Int} (h : numB x = false) : x < 0 ∨ 1000 < x := by simp [numB] at h; omega
theorem vecB4 (a b c d : Int) : vecB [a, b, c, d] = (numB a && numB b && numB c && numB d) := by
  simp [vecB, numB, Bool.and_assoc]
theorem vecB4_false {a b c d : Int} {k : Nat} (hk : k < 4) (h : numB (nth4 a b c d k) = false) : vecB [a, b, c, d] = false := by
  rw [vecB4]
  have : k = 0 ∨ k = 1 ∨ k = 2 ∨ k = 3 := by omega
  rcases this with rfl | rfl | rfl | rfl <;> simp [nth4] at h <;> simp [h]
theorem vecB4_true {a b c d : Int} (h : ∀ k, k < 4 → numB (nth4 a b c d k) = true) : vecB [a, b, c, d] = true := by
  rw [vecB4]
  have h0 := h 0 (by omega)
  have h1 := h 1 (by omega)
  have h2 := h 2 (by omega)
  have h3 := h 3 (by omega)
  simp [nth4] at h0 h1 h2 h3
  simp [h0, h1, h2, h3]

set_option maxRecDepth 100000 in
set_option maxHeartbeats 1000000 in
theorem vok_any (a b c d : Int) (w : World) :
    Calls Try.prog 126 #[v4 a b c d] w fun e w' => e = .returned (.bool (vecB [a, b, c, d])) ∧ Below w.heap.size w w' := by
  unfold v4
  go_enter Try.func126, Try.ntmps126
  go_wp2_with fail
  go_loopw [6] (fun i wr => ∃ k : Nat, k ≤ 4 ∧ i = .int .i64 k ∧ (∀ j, j < k → numB (nth4 a b c d j) = true) ∧ Below w.heap.size w wr) (fun i _ => 4 - (intOf i).toNat)
  case atStart => exact ⟨0, by omega, rfl, fun j hj => absurd hj (by omega), (Below.refl _ _).alloc (Nat.le_refl _) _⟩
  case round =>
    obtain ⟨k, hk, rfl, hall, hbel⟩ := hrel
    have HAll := Lib.hid hall
    have HBel := Lib.hid hbel
    clear hall hbel
    by_cases hlt : k < 4
    · have hix := Try.index4 a b c d k hlt
      obtain ⟨x, hx⟩ : ∃ x, x = nth4 a b c d k := ⟨_, rfl⟩
      rw [← hx] at hix
      have HX := Lib.hid hx
      clear hx
      cases hn : numB x with
      | true =>
        have HN := Lib.hid hn
        obtain ⟨h0, h1⟩ := numB_true hn
        have h0' : ¬ x < 0 := by omega
        have h1' : ¬ 1000 < x := by omega
        clear hn
        go_wp2_with fail
        go_roundw
        case rel =>
          refine ⟨k + 1, by omega, by go_num, fun j hj => ?_, HBel.out⟩
          by_cases e : j = k
          · rw [e, ← HX.out]; exact HN.out
          · exact HAll.out j (by omega)
        case measure => simp [intOf]; omega
      | false =>
        have HF := Lib.hid (vecB4_false hlt (by rw [← HX.out]; exact hn))
        have hn' := numB_false hn
        clear hn
        by_cases h0 : x < 0
        all_goals
          go_wp2_with fail
          go_ret
          exact ⟨ret_bool (a := false) HF.out.symm, HBel.out⟩
    · have HT := Lib.hid (vecB4_true fun j hj => HAll.out j (by omega))
      have hke : k = 4 := by omega
      subst hke
      go_wp2_with fail
      go_ret
      exact ⟨ret_bool (a := true) HT.out.symm, HBel.out⟩

set_option maxRecDepth 100000 in
set_option maxHeartbeats 1000000 in
theorem readVec_no (A : Option Addr) (n cap : Nat) (w : World) (h4 : n ≠ 4) :
    Calls Try.prog 99 #[.slice A n cap] w fun e w' => e = .returned (.tuple #[v4 0 0 0 0, .bool false]) ∧ Below w.heap.size w w' := by
  unfold v4
  have h4' : ((n : Int) != 4) = true := by simp; omega
  clear h4
  go_enter Try.func99, Try.ntmps99
  go_wp2_with fail
  exact bodyPost_ret (v := .tuple #[.agg #[.int .i64 0, .int .i64 0, .int .i64 0, .int .i64 0], .bool false]) (by simp [results, Try.results99, go_sem]) rfl ⟨rfl, (Below.refl _ _).alloc (Nat.le_refl _) _⟩

set_option maxRecDepth 100000 in
theorem cell_dr (w : World) (a : Addr) : w.drew.cell? a = w.cell? a := rfl

set_option maxHeartbeats 4000000 in
theorem readVec_yes (A : Option Addr) (a b c d : Int) (cap : Nat) (w : World) (hA : IntsIn w 0 w.heap.size A [a, b, c, d]) :
    Calls Try.prog 99 #[.slice A 4 cap] w fun e w' => e = .returned (.tuple #[v4 a b c d, .bool (vecB [a, b, c, d])]) ∧ Below w.heap.size w w' := by
  obtain ⟨g, o, rfl, _, hg, hc⟩ := hA (by simp)
  have c0 := hc 0 (by simp)
  have c1 := hc 1 (by simp)
  have c2 := hc 2 (by simp)
  have c3 := hc 3 (by simp)
  simp at c0 c1 c2 c3
  clear hc hA
  have hcv := fun W : World => run_arrayAt (P := Try.prog) (w := W) 81 3 4 (some ⟨g, o, none⟩) 4 cap Try.underlying81 (Nat.le_refl _)
  unfold v4
  go_enter Try.func99, Try.ntmps99
  go_wp2_with fail
  obtain ⟨W0, hW0⟩ : ∃ W0, W0 = w.alloc (.cells #[.int .i64 0, .int .i64 0, .int .i64 0, .int .i64 0] 81) := ⟨_, rfl⟩
  obtain ⟨W, hW⟩ : ∃ W, W = W0.alloc (.cells #[.int .i64 a, .int .i64 b, .int .i64 c, .int .i64 d] 81) := ⟨_, rfl⟩
  have hz0 : W0.heap.size = w.heap.size + 1 := by rw [hW0]; simp
  have hz : W.heap.size = w.heap.size + 2 := by rw [hW]; simp [hz0]
  have HR := Lib.hid (show Row4 W w.heap.size 0 0 0 0 by rw [hW]; exact Row4.alloc (by rw [hW0]; exact Row4.new _ _) (by omega) _)
  have hV : Row4 W (w.heap.size + 1) a b c d := by rw [hW, ← hz0]; exact Row4.new _ _
  have HBel := Lib.hid (show Below w.heap.size w W by rw [hW, hW0]; exact ((Below.refl _ _).alloc (Nat.le_refl _) _).alloc (by simp) _)
  rw [← hW0, ← hW]
  have hzW : w.heap.size + 1 < W.heap.size := by omega
  clear hW hW0 hz0 hz c0 c1 c2 c3 hcv
  have v0 := hV.c0
  have v1 := hV.c1
  have v2 := hV.c2
  have v3 := hV.c3
  clear hV
  go_region_held3 (fun X => X.cell? ⟨w.heap.size + 1, 0, none⟩ = some (.int .i64 a) ∧ X.cell? ⟨w.heap.size + 1, 1, none⟩ = some (.int .i64 b) ∧ X.cell? ⟨w.heap.size + 1, 2, none⟩ = some (.int .i64 c) ∧ X.cell? ⟨w.heap.size + 1, 3, none⟩ = some (.int .i64 d))
    (first | with_reducible exact ⟨v0, v1, v2, v3⟩ | with_reducible exact ⟨y0, y1, y2, y3⟩ | with_reducible exact ⟨(cell_dr _ _).trans v0, (cell_dr _ _).trans v1, (cell_dr _ _).trans v2, (cell_dr _ _).trans v3⟩ | exact ⟨(cell_set4 (by omega)).trans y0, (cell_set4 (by omega)).trans y1, (cell_set4 (by omega)).trans y2, (cell_set4 (by omega)).trans y3⟩)
    (first
      | (go_at_call 126
         refine (vok_any a b c d _).mono ?_
         rintro e w5 ⟨rfl, hb5⟩
         have hbW5 : Below W.heap.size W w5 := by first | exact hb5 | exact (Below.refl W.heap.size W).drew.trans hb5
         have y0 := (hbW5.cell (p := ⟨w.heap.size + 1, 0, none⟩) hzW).trans v0
         have y1 := (hbW5.cell (p := ⟨w.heap.size + 1, 1, none⟩) hzW).trans v1
         have y2 := (hbW5.cell (p := ⟨w.heap.size + 1, 2, none⟩) hzW).trans v2
         have y3 := (hbW5.cell (p := ⟨w.heap.size + 1, 3, none⟩) hzW).trans v3
         have hr := HR.out.below hbW5 (by omega)
         have r0 := hr.c0
         have r1 := hr.c1
         have r2 := hr.c2
         have r3 := hr.c3
         have hf := hr.fr
         have hz5 := hbW5.size
         have HB5 := Lib.hid (HBel.out.trans (hbW5.mono (by omega)))
         clear hr hb5 hbW5))
  clear v0 v1 v2 v3 y0 y1 y2 y3
  go_wp2_with fail
  exact bodyPost_ret (v := .tuple #[.agg #[.int .i64 a, .int .i64 b, .int .i64 c, .int .i64 d], .bool (vecB [a, b, c, d])]) (by simp [results, Try.results99, r0, r1, r2, r3, go_sem]) rfl ⟨rfl, below_set4 HB5.out (Nat.le_refl _) _ _ _ _⟩

end Go.Proofs.Ytblmhhijgdkkoaa
