/-
  The model's Intern.
-/
import Derived.Test.YtkmoihkpaccbdaaDoorInternM
namespace Go.Proofs.YtkmoihkpaccbdaaDoor
open Go.RowKit Go.Maps

/-- The three variables at the start of Intern: the ledger, the term, the answer's ledger. -/
structure Ux (w : World) (V v0 v1 v2 v3 : Value) (W : World) : Prop where
  b : W.cell? ⟨w.heap.size, 0, none⟩ = some V
  t0 : W.cell? ⟨w.heap.size + 1, 0, none⟩ = some v0
  t1 : W.cell? ⟨w.heap.size + 1, 1, none⟩ = some v1
  t2 : W.cell? ⟨w.heap.size + 1, 2, none⟩ = some v2
  t3 : W.cell? ⟨w.heap.size + 1, 3, none⟩ = some v3
  tf : W.frozen? ⟨w.heap.size + 1, 3, none⟩ = false
  r : W.cell? ⟨w.heap.size + 1 + 1, 0, none⟩ = some (.slice none 0 0)
  rf : W.frozen? ⟨w.heap.size + 1 + 1, 0, none⟩ = false
  bel : Below w.heap.size w W
  sz : w.heap.size + 3 ≤ W.heap.size

section
variable {w W W' : World} {V v0 v1 v2 v3 : Value} {B : Nat}
theorem Ux.start (w : World) (V v0 v1 v2 v3 : Value) (t : TypeId) (t' : TypeId) : Ux w V v0 v1 v2 v3 (((w.alloc (.cells #[V] t)).alloc (.cells #[v0, v1, v2, v3] t')).alloc (.cells #[.slice none 0 0] t)) := by
  refine ⟨?_, ?_, ?_, ?_, ?_, ?_, ?_, ?_, ?_, ?_⟩
  all_goals first | (simp [go_sem]; done) | skip
  · exact (((Below.refl _ _).alloc (Nat.le_refl _) _).alloc (by simp) _).alloc (by simp; omega) _
theorem Ux.below (h : Ux w V v0 v1 v2 v3 W) (hb : Below B W W') (hB : w.heap.size + 3 ≤ B) : Ux w V v0 v1 v2 v3 W' :=
  ⟨(hb.cell (p := ⟨w.heap.size, 0, none⟩) (by show w.heap.size < _; omega)).trans h.b, (hb.cell (p := ⟨w.heap.size + 1, 0, none⟩) (by show w.heap.size + 1 < _; omega)).trans h.t0,
    (hb.cell (p := ⟨w.heap.size + 1, 1, none⟩) (by show w.heap.size + 1 < _; omega)).trans h.t1, (hb.cell (p := ⟨w.heap.size + 1, 2, none⟩) (by show w.heap.size + 1 < _; omega)).trans h.t2,
    (hb.cell (p := ⟨w.heap.size + 1, 3, none⟩) (by show w.heap.size + 1 < _; omega)).trans h.t3, (hb.frozen (p := ⟨w.heap.size + 1, 3, none⟩) (by show w.heap.size + 1 < _; omega)).trans h.tf,
    (hb.cell (p := ⟨w.heap.size + 1 + 1, 0, none⟩) (by show w.heap.size + 1 + 1 < _; omega)).trans h.r, (hb.frozen (p := ⟨w.heap.size + 1 + 1, 0, none⟩) (by show w.heap.size + 1 + 1 < _; omega)).trans h.rf,
    h.bel.trans (hb.mono (by omega)), by have := hb.size; have := h.sz; omega⟩
theorem Ux.five (h : Ux w V v0 v1 v2 v3 W) : W.cell? ⟨w.heap.size, 0, none⟩ = some V ∧ W.cell? ⟨w.heap.size + 1, 0, none⟩ = some v0 ∧ W.cell? ⟨w.heap.size + 1, 1, none⟩ = some v1 ∧ W.cell? ⟨w.heap.size + 1, 2, none⟩ = some v2 ∧ W.cell? ⟨w.heap.size + 1, 3, none⟩ = some v3 := ⟨h.b, h.t0, h.t1, h.t2, h.t3⟩
end

theorem LedIs.keep {w w' : World} {L B : Nat} {v : Value} {us : List Tx} (h : LedIs w L B v us) (hb : Below w.heap.size w w') (hB : B ≤ w.heap.size) : LedIs w' L B v us :=
  ⟨h.1.kept (grown_of_below hb) (by cases h : v.ownBlock <;> simp), h.2.keep fun b _ hb' => hb.block b (by omega)⟩
theorem LedIs.set {w : World} {L B : Nat} {v : Value} {us : List Tx} (h : LedIs w L B v us) {p : Addr} (hp : p.block < L) (u : Value) : LedIs (w.setCell p u) L B v us :=
  ⟨ownsRow_setCell_below h.1 hp u, h.2.keep fun b hb _ => Below.heap_setCell _ _ _ _ (by omega)⟩

theorem LedFr.low {w : World} {L L' E : Nat} {A : Option Addr} {us : List Tx} (h : LedFr w L E A us) (hL : L' ≤ L) : LedFr w L' E A us := fun hl => by
  obtain ⟨R, m, f, e, h1, h2, h3, h4, h5, h6⟩ := h hl
  exact ⟨R, m, f, e, by omega, h2, h3, h4, h5, h6.low hL⟩

/-- Nothing is handed back, and -1. -/
theorem none_led {w w' : World} (hb : Below w.heap.size w w') : NewLedI [] (-1) w (.returned (.tuple #[.agg #[.slice none 0 0], .int .i64 (-1)])) w' :=
  ⟨[], none, 0, rfl, rfl, by simp, LedFr.nil, hb⟩

section
variable (R B : Nat) (ts : List Tm) (c : Nat) (t : Tm) (g L' B' : Nat) (w : World)

end

end Go.Proofs.YtkmoihkpaccbdaaDoor
