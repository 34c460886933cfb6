/-
  The law's own copies: new memory that may be written into; a ledger's copy, each text in a block of its own kind.
-/
import Derived.Test.YtepkicgnhjaokaaGreatDoorTo
namespace Go.Proofs.YtepkicgnhjaokaaGreatDoor
open Go.RowKit

/-- What is new in w' may be written into. -/
def Fresh (w w' : World) : Prop := ∀ p : Addr, w.heap.size ≤ p.block → w'.frozen? p = false

theorem Fresh.refl (w : World) : Fresh w w := fun p hp => by
  have h : w.heap[p.block]? = none := Array.getElem?_eq_none hp
  simp [World.frozen?, h]
theorem Fresh.alloc {w w' : World} (h : Fresh w w') (c : Array Value) (t : TypeId) : Fresh w (w'.alloc (.cells c t)) := fun p hp => (frozen?_alloc_cells w' c t p).trans (h p hp)
theorem Fresh.setCell {w w' : World} (h : Fresh w w') (a : Addr) (v : Value) : Fresh w (w'.setCell a v) := fun p hp => by
  rw [World.frozen?_setCell]
  exact h p hp
theorem Fresh.drew {w w' : World} (h : Fresh w w') : Fresh w w'.drew := h
theorem Fresh.trans {a b c : World} (h : Fresh a b) (h' : Fresh b c) (hb : Below b.heap.size b c) : Fresh a c := fun p hp => by
  by_cases e : p.block < b.heap.size
  · exact (hb.frozen e).trans (h p hp)
  · exact h' p (by omega)

theorem BytesIn.raise {w : World} {L L' B g o : Nat} {l : List UInt8} (h : BytesIn w L B (some ⟨g, o, none⟩) l) (hg : L' ≤ g) : BytesIn w L' B (some ⟨g, o, none⟩) l := fun hl => by
  obtain ⟨b, o', e, hL, hb, hc⟩ := h hl
  simp only [Option.some.injEq, Addr.mk.injEq] at e
  obtain ⟨rfl, rfl, _⟩ := e
  exact ⟨_, _, rfl, hg, hb, hc⟩

/-- Block R holds the terms ts, their texts behind it. -/
def CopyIn (w : World) (R B : Nat) (ts : List Tm) : Prop := ∀ i (hi : i < ts.length), TmIn w (R + 1) B R (i * 4) ts[i]

theorem CopyIn.keep {w w' : World} {R B : Nat} {ts : List Tm} (h : CopyIn w R B ts) (hk : ∀ p : Addr, R ≤ p.block → p.block < B → w'.cell? p = w.cell? p) (hR : R < B) : CopyIn w' R B ts := fun i hi => by
  obtain ⟨A, c, h0, h1, h2, h3, h4, h5, h6⟩ := h i hi
  exact ⟨A, c, (hk _ (Nat.le_refl _) hR).trans h0, (hk _ (Nat.le_refl _) hR).trans h1, (hk _ (Nat.le_refl _) hR).trans h2, (hk _ (Nat.le_refl _) hR).trans h3, h4, h5, h6.keep fun p hp => hk p (by omega)⟩
theorem CopyIn.mono {w : World} {R B B' : Nat} {ts : List Tm} (h : CopyIn w R B ts) (hB : B ≤ B') : CopyIn w R B' ts := fun i hi => (h i hi).mono hB
theorem CopyIn.tms {w : World} {R B : Nat} {ts : List Tm} (h : CopyIn w R B ts) (hR : R < B) : TmsIn w R B (some ⟨R, 0, none⟩) ts := fun _ =>
  ⟨R, 0, rfl, Nat.le_refl _, hR, fun i hi => by rw [Nat.zero_add]; exact (h i hi).low (by omega)⟩

end Go.Proofs.YtepkicgnhjaokaaGreatDoor
