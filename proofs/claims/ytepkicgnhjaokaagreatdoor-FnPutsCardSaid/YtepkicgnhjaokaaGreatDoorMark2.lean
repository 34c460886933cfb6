/-
  What the law writes into a term that it was handed back, and what it finds there.
-/
import Derived.Test.YtepkicgnhjaokaaGreatDoorMark
import Derived.Test.YtepkicgnhjaokaaGreatDoorFresh2
namespace Go.Proofs.YtepkicgnhjaokaaGreatDoor
open Go.RowKit

/-- The bytes of n numbers from k on. -/
def MkFr (w : World) (L B : Nat) (A : Option Addr) (k : Int) (n : Nat) : Prop :=
  0 < n → ∃ b o, A = some ⟨b, o, none⟩ ∧ L ≤ b ∧ b < B ∧ ∀ j, j < n → w.cell? ⟨b, o + j, none⟩ = some (.int .u8 ((k + j) % 256)) ∧ w.frozen? ⟨b, o + j, none⟩ = false

theorem MkFr.keep {w w' : World} {L B n : Nat} {k : Int} {A : Option Addr} (h : MkFr w L B A k n) (hk : ∀ p : Addr, L ≤ p.block → p.block < B → w'.cell? p = w.cell? p ∧ w'.frozen? p = w.frozen? p) : MkFr w' L B A k n := fun hl => by
  obtain ⟨b, o, e, hL, hb, hc⟩ := h hl
  exact ⟨b, o, e, hL, hb, fun j hj => ⟨(hk _ hL hb).1.trans (hc j hj).1, (hk _ hL hb).2.trans (hc j hj).2⟩⟩

end Go.Proofs.YtepkicgnhjaokaaGreatDoor
