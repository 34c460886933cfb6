/-
  What the law writes into a tree, and what it finds there.
-/
import Derived.Test.YtepkicgnhjaokaaGreatDoorTrO
namespace Go.Proofs.YtepkicgnhjaokaaGreatDoor
open Go.RowKit Go.Maps

/-- How many numbers are written into these entries. -/
def mo (es : List En) : Nat := ebulk es + 3 * es.length
theorem mo_succ (es : List En) (k : Nat) (h : k < es.length) : mo (es.take (k + 1)) = mo (es.take k) + es[k].name.length + 3 := by
  unfold mo
  rw [ebulk_take_succ es k h, List.length_take, List.length_take]
  omega
theorem mo_le (es : List En) (k : Nat) : mo (es.take k) ≤ mo es := by
  unfold mo
  have := ebulk_take_le es k
  rw [List.length_take]
  omega

theorem bd_mo {vec : List Int} {es : List En} (h1 : vec.length ≤ 1048576) (h2 : es.length ≤ 1048576) (h3 : ebulk es ≤ 1048576) : vec.length ≤ 1048576 ∧ mo es ≤ 4194304 := ⟨h1, by unfold mo; omega⟩

/-- The i-th entry of the row in block R, written over from k on. -/
structure MkCell (w : World) (R i : Nat) (N : Option Addr) (lo up c n : Nat) (k : Int) : Prop where
  c0 : w.cell? ⟨R, i * 4, none⟩ = some (.slice N n c)
  c1 : w.cell? ⟨R, i * 4 + 1, none⟩ = some (.int .i64 (k + n))
  c2 : w.cell? ⟨R, i * 4 + 2, none⟩ = some (.int .i64 (k + n + 1))
  c3 : w.cell? ⟨R, i * 4 + 3, none⟩ = some (.int .i64 (k + n + 1 + 1))
  nm : MkFr w lo up N k n

/-- A list of entries, written over from k on. -/
def EnsMk (w : World) (L B : Nat) (A : Option Addr) (es : List En) (k : Int) : Prop :=
  0 < es.length → ∃ (R : Nat) (N : Nat → Option Addr) (lo up c : Nat → Nat), A = some ⟨R, 0, none⟩ ∧ ELay L B R es.length lo up ∧ ∀ i (hi : i < es.length), MkCell w R i (N i) (lo i) (up i) (c i) es[i].name.length (k + (mo (es.take i) : Nat))

theorem EnsMk.keep {w w' : World} {L B : Nat} {A : Option Addr} {es : List En} {k : Int} (h : EnsMk w L B A es k) (hk : ∀ p : Addr, L ≤ p.block → p.block < B → w'.cell? p = w.cell? p ∧ w'.frozen? p = w.frozen? p) : EnsMk w' L B A es k := fun hl => by
  obtain ⟨R, N, lo, up, c, e, hlay, hc⟩ := h hl
  refine ⟨R, N, lo, up, c, e, hlay, fun i hi => ?_⟩
  have hx := hc i hi
  have hg := hlay.at_ i hi
  exact ⟨(hk _ hlay.low hlay.up).1.trans hx.c0, (hk _ hlay.low hlay.up).1.trans hx.c1, (hk _ hlay.low hlay.up).1.trans hx.c2, (hk _ hlay.low hlay.up).1.trans hx.c3, hx.nm.keep fun p hp hq => hk p (by omega) (by omega)⟩

/-- Three cells of the j-th entry, stored. -/
theorem three_other {w : World} {R j : Nat} {v1 v2 v3 : Value} {b o : Nat} (hp : b ≠ R ∨ (o ≠ j * 4 + 1 ∧ o ≠ j * 4 + 2 ∧ o ≠ j * 4 + 3)) :
    (((w.setCell ⟨R, j * 4 + 1, none⟩ v1).setCell ⟨R, j * 4 + 2, none⟩ v2).setCell ⟨R, j * 4 + 3, none⟩ v3).cell? ⟨b, o, none⟩ = w.cell? ⟨b, o, none⟩ := by
  rw [World.cell?_setCell_other _ _ _ _ (by intro h; injection h with h1 h2; omega), World.cell?_setCell_other _ _ _ _ (by intro h; injection h with h1 h2; omega), World.cell?_setCell_other _ _ _ _ (by intro h; injection h with h1 h2; omega)]
theorem three_frozen {w : World} {R j : Nat} {v1 v2 v3 : Value} {p : Addr} :
    (((w.setCell ⟨R, j * 4 + 1, none⟩ v1).setCell ⟨R, j * 4 + 2, none⟩ v2).setCell ⟨R, j * 4 + 3, none⟩ v3).frozen? p = w.frozen? p := by
  rw [World.frozen?_setCell, World.frozen?_setCell, World.frozen?_setCell]

theorem Inside.offR {w w' : World} {lo up : Nat} (h : Inside lo up w w') {b o : Nat} (hb : b < lo ∨ up ≤ b) (hlt : b < w.heap.size) : w'.cell? ⟨b, o, none⟩ = w.cell? ⟨b, o, none⟩ ∧ w'.frozen? ⟨b, o, none⟩ = w.frozen? ⟨b, o, none⟩ := by
  refine ⟨h.cell (p := ⟨b, o, none⟩) ?_, h.frozen _ (by show b < _; omega)⟩
  rcases hb with h1 | h1
  · exact .inl h1
  · exact .inr ⟨h1, hlt⟩
theorem Inside.off {w w' : World} {g : Nat} (h : Inside g (g + 1) w w') {b o : Nat} (hb : b ≠ g) (hlt : b < w.heap.size) : w'.cell? ⟨b, o, none⟩ = w.cell? ⟨b, o, none⟩ ∧ w'.frozen? ⟨b, o, none⟩ = w.frozen? ⟨b, o, none⟩ := by
  refine ⟨h.cell (p := ⟨b, o, none⟩) ?_, h.frozen _ (by show b < _; omega)⟩
  by_cases e : b < g
  · exact .inl e
  · exact .inr ⟨by show g + 1 ≤ b; omega, hlt⟩

/-- A tree, written over from k on. -/
def TrMk (w : World) (L B : Nat) (AV : Option Addr) (n : Nat) (A : Option Addr) (es : List En) (k : Int) : Prop :=
  IntsFr w L B AV (marks k n) ∧ EnsMk w L B A es (k + n)

theorem TrMk.keep {w w' : World} {L B n : Nat} {AV A : Option Addr} {es : List En} {k : Int} (h : TrMk w L B AV n A es k) (hk : ∀ p : Addr, L ≤ p.block → p.block < B → w'.cell? p = w.cell? p ∧ w'.frozen? p = w.frozen? p) : TrMk w' L B AV n A es k :=
  ⟨h.1.keep hk, h.2.keep hk⟩

theorem EnsMk.mono {w : World} {L L' B B' : Nat} {A : Option Addr} {es : List En} {k : Int} (h : EnsMk w L B A es k) (hL : L' ≤ L) (hB : B ≤ B') : EnsMk w L' B' A es k := fun hl => by
  obtain ⟨R, N, lo, up, c, e, hlay, hc⟩ := h hl
  exact ⟨R, N, lo, up, c, e, hlay.mono hL hB, hc⟩

end Go.Proofs.YtepkicgnhjaokaaGreatDoor
