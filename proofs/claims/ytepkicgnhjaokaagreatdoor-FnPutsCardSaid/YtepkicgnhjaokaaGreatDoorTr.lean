/-
  What a tree looks like in memory: a list of numbers, and a list of entries.
-/
import Derived.Test.YtepkicgnhjaokaaGreatDoorFlat
import Derived.Test.YtepkicgnhjaokaaGreatDoorSz
import Derived.Test.YtepkicgnhjaokaaGreatDoorBx
namespace Go.Proofs.YtepkicgnhjaokaaGreatDoor
open Go.RowKit Go.Maps

/-- An entry as plain data. -/
structure En where
  name : List UInt8
  val : Int
  dev : Int
  num : Int
deriving DecidableEq, Inhabited

/-- Four cells from o on in block b hold the entry e. -/
def EnIn (w : World) (L B : Nat) (b o : Nat) (e : En) : Prop :=
  ∃ A c, w.cell? ⟨b, o, none⟩ = some (.slice A e.name.length c) ∧ w.cell? ⟨b, o + 1, none⟩ = some (.int .i64 e.val) ∧ w.cell? ⟨b, o + 2, none⟩ = some (.int .i64 e.dev) ∧
    w.cell? ⟨b, o + 3, none⟩ = some (.int .i64 e.num) ∧ BytesIn w L B A e.name

/-- The slice address A (of es.length entries) holds the entries es. -/
def EnsIn (w : World) (L B : Nat) (A : Option Addr) (es : List En) : Prop :=
  0 < es.length → ∃ b o, A = some ⟨b, o, none⟩ ∧ L ≤ b ∧ b < B ∧ ∀ i (hi : i < es.length), EnIn w L B b (o + i * 4) es[i]

section
variable {w w' : World} {L L' B B' : Nat} {A : Option Addr} {es : List En}
theorem EnIn.keep {b o : Nat} {e : En} (h : EnIn w L B b o e) (hL : L ≤ b) (hb : b < B) (hk : ∀ p : Addr, L ≤ p.block → p.block < B → w'.cell? p = w.cell? p) : EnIn w' L B b o e := by
  obtain ⟨A, c, h0, h1, h2, h3, h4⟩ := h
  exact ⟨A, c, (hk _ hL hb).trans h0, (hk _ hL hb).trans h1, (hk _ hL hb).trans h2, (hk _ hL hb).trans h3, h4.keep hk⟩
theorem EnIn.mono {b o : Nat} {e : En} (h : EnIn w L B b o e) (hB : B ≤ B') : EnIn w L B' b o e := by
  obtain ⟨A, c, h0, h1, h2, h3, h4⟩ := h
  exact ⟨A, c, h0, h1, h2, h3, h4.mono hB⟩
theorem EnIn.low {b o : Nat} {e : En} (h : EnIn w L B b o e) (hL : L' ≤ L) : EnIn w L' B b o e := by
  obtain ⟨A, c, h0, h1, h2, h3, h4⟩ := h
  exact ⟨A, c, h0, h1, h2, h3, h4.low hL⟩
theorem EnsIn.keep (h : EnsIn w L B A es) (hk : ∀ p : Addr, L ≤ p.block → p.block < B → w'.cell? p = w.cell? p) : EnsIn w' L B A es := fun hl => by
  obtain ⟨b, o, e, hL, hb, hc⟩ := h hl
  exact ⟨b, o, e, hL, hb, fun i hi => (hc i hi).keep hL hb hk⟩
theorem EnsIn.mono (h : EnsIn w L B A es) (hB : B ≤ B') : EnsIn w L B' A es := fun hl => by
  obtain ⟨b, o, e, hL, hb, hc⟩ := h hl
  exact ⟨b, o, e, hL, by omega, fun i hi => (hc i hi).mono hB⟩
theorem EnsIn.low (h : EnsIn w L B A es) (hL : L' ≤ L) : EnsIn w L' B A es := fun hl => by
  obtain ⟨b, o, e, hL', hb, hc⟩ := h hl
  exact ⟨b, o, e, by omega, hb, fun i hi => (hc i hi).low hL⟩
theorem EnsIn.below (h : EnsIn w L B A es) (hb : Below B w w') : EnsIn w' L B A es := h.keep fun _ _ hp => hb.cell hp
theorem EnsIn.up (h : EnsIn w L w.heap.size A es) (hb : Below w.heap.size w w') : EnsIn w' L w'.heap.size A es := (h.below hb).mono hb.size
end

/-- All bytes of the names of these entries. -/
def ebulk : List En → Nat
  | [] => 0
  | e :: es => e.name.length + ebulk es
theorem ebulk_append (xs ys : List En) : ebulk (xs ++ ys) = ebulk xs + ebulk ys := by
  induction xs with
  | nil => simp [ebulk]
  | cons x xs ih => simp [ebulk, ih]; omega
theorem ebulk_take_succ (es : List En) (k : Nat) (h : k < es.length) : ebulk (es.take (k + 1)) = ebulk (es.take k) + es[k].name.length := by
  rw [List.take_succ_eq_append_getElem h, ebulk_append]
  simp [ebulk]
theorem ebulk_take_le (es : List En) (k : Nat) : ebulk (es.take k) ≤ ebulk es := by
  have h := ebulk_append (es.take k) (es.drop k)
  rw [List.take_append_drop] at h
  omega
theorem name_le_ebulk (es : List En) (k : Nat) (h : k < es.length) : es[k].name.length ≤ ebulk es := by
  have := ebulk_take_succ es k h
  have := ebulk_take_le es (k + 1)
  omega

/-! The law's reckoning of sizes. -/

end Go.Proofs.YtepkicgnhjaokaaGreatDoor
