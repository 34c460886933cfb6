/-
  The law's own copy of a ledger: no text of it is nil.
-/
import Derived.Test.YtepkicgnhjaokaaGreatDoorFresh
namespace Go.Proofs.YtepkicgnhjaokaaGreatDoor
open Go.RowKit

/-- No text among the terms in block R is nil. -/
def NoNil (w : World) (R : Nat) (ts : List Tm) : Prop := ∀ i (hi : i < ts.length), ∃ g, w.cell? ⟨R, i * 4 + 3, none⟩ = some (.slice (some ⟨g, 0, none⟩) ts[i].text.length ts[i].text.length)
theorem NoNil.keep {w w' : World} {R : Nat} {ts : List Tm} (h : NoNil w R ts) (hk : ∀ p : Addr, p.block = R → w'.cell? p = w.cell? p) : NoNil w' R ts := fun i hi => by
  obtain ⟨g, hg⟩ := h i hi
  exact ⟨g, (hk _ rfl).trans hg⟩

/-- The bytes of a slice, in cells that may be written into. -/
def BytesFr (w : World) (L B : Nat) (A : Option Addr) (l : List UInt8) : Prop :=
  0 < l.length → ∃ b o, A = some ⟨b, o, none⟩ ∧ L ≤ b ∧ b < B ∧ ∀ j (hj : j < l.length), w.cell? ⟨b, o + j, none⟩ = some (.int .u8 (l[j].toNat : Int)) ∧ w.frozen? ⟨b, o + j, none⟩ = false

section
variable {w w' : World} {L L' B B' : Nat} {A : Option Addr} {l : List UInt8}
theorem BytesFr.keep (h : BytesFr w L B A l) (hk : ∀ p : Addr, L ≤ p.block → p.block < B → w'.cell? p = w.cell? p ∧ w'.frozen? p = w.frozen? p) : BytesFr w' L B A l := fun hl => by
  obtain ⟨b, o, e, hL, hb, hc⟩ := h hl
  exact ⟨b, o, e, hL, hb, fun j hj => ⟨(hk _ hL hb).1.trans (hc j hj).1, (hk _ hL hb).2.trans (hc j hj).2⟩⟩
theorem BytesFr.mono (h : BytesFr w L B A l) (hB : B ≤ B') : BytesFr w L B' A l := fun hl => by
  obtain ⟨b, o, e, hL, hb, hc⟩ := h hl
  exact ⟨b, o, e, hL, by omega, hc⟩
theorem BytesFr.low (h : BytesFr w L B A l) (hL' : L' ≤ L) : BytesFr w L' B A l := fun hl => by
  obtain ⟨b, o, e, hL, hb, hc⟩ := h hl
  exact ⟨b, o, e, by omega, hb, hc⟩
theorem BytesFr.below (h : BytesFr w L B A l) (hb : Below B w w') : BytesFr w' L B A l := h.keep fun _ _ hp => ⟨hb.cell hp, hb.frozen hp⟩
theorem BytesFr.bytes (h : BytesFr w L B A l) : BytesIn w L B A l := fun hl => by
  obtain ⟨b, o, e, hL, hb, hc⟩ := h hl
  exact ⟨b, o, e, hL, hb, fun j hj => (hc j hj).1⟩
theorem BytesFr.nil : BytesFr w L B A [] := fun h => absurd h (by simp)
end

/-- Bytes as values. -/
def vbytes (l : List UInt8) : List Value := l.map fun (b : UInt8) => .int .u8 (b.toNat : Int)

theorem bytes_of_row {w : World} {base : Nat} {A : Option Addr} {c : Nat} {e : TypeId} {l : List UInt8} (h : w.ownsRow base e 1 (.slice A l.length c) l.length (vbytes l)) : BytesFr w base w.heap.size A l := fun hl => by
  obtain ⟨_, hh | ⟨g, cap, cur, hv, hg, hb, _, _, _, htk⟩⟩ := h
  · omega
  · injection hv with h1 _ _
    subst h1
    refine ⟨g, 0, rfl, hg, (Array.getElem?_eq_some_iff.1 hb).1, fun i hi => ⟨?_, ?_⟩⟩
    · rw [Nat.zero_add]
      have h2 : (vbytes l)[i]? = some (.int .u8 (l[i].toNat : Int)) := by simp [vbytes, hi]
      rw [← htk, Nat.mul_one, List.getElem?_take, if_pos hi] at h2
      rw [World.cell?, hb]
      simpa using h2
    · simp [World.frozen?, hb]

theorem owns_empty {w : World} {base g : Nat} {e : TypeId} (hg : base ≤ g) (hb : w.heap[g]? = some (.cells #[] e (0, 0))) : w.ownsRow base e 1 (.slice (some ⟨g, 0, none⟩) 0 0) 0 [] :=
  ⟨rfl, .inr ⟨g, 0, #[], rfl, hg, hb, Nat.le_refl _, by unfold maxLen; omega, rfl, rfl⟩⟩

end Go.Proofs.YtepkicgnhjaokaaGreatDoor
