/-
  What the law writes into what it was handed back, and what it finds there.
-/
import Derived.Test.YtepkicgnhjaokaaGreatDoorFresh
import Derived.BigQuiet
import Derived.Deep.QuietTactic
namespace Go.Proofs.YtepkicgnhjaokaaGreatDoor
open Go.RowKit

/-- Written is between L and B alone, and into no cell that there was not. -/
structure Inside (L B : Nat) (w w' : World) : Prop where
  below : Below L w w'
  above : ∀ b, B ≤ b → b < w.heap.size → w'.heap[b]? = w.heap[b]?
  frozen : ∀ p : Addr, p.block < w.heap.size → w'.frozen? p = w.frozen? p
  ex : ∀ p v, w.cell? p = some v → ∃ v', w'.cell? p = some v'

section
variable {L L' B B' : Nat} {a b c : World}

theorem Inside.refl (L B : Nat) (w : World) : Inside L B w w := ⟨Below.refl _ _, fun _ _ _ => rfl, fun _ _ => rfl, fun _ v h => ⟨v, h⟩⟩
theorem Inside.trans (h : Inside L B a b) (k : Inside L B b c) : Inside L B a c :=
  ⟨h.below.trans k.below, fun x hx hs => (k.above x hx (by have := h.below.size; omega)).trans (h.above x hx hs), fun p hp => (k.frozen p (by have := h.below.size; omega)).trans (h.frozen p hp), fun p v hv => by
    obtain ⟨v', hv'⟩ := h.ex p v hv
    exact k.ex p v' hv'⟩
theorem Inside.wider (h : Inside L B a b) (hL : L' ≤ L) (hB : B ≤ B') : Inside L' B' a b :=
  ⟨h.below.mono hL, fun x hx hs => h.above x (by omega) hs, h.frozen, h.ex⟩
theorem Inside.setCell (h : Inside L B a b) {p : Addr} (hp : L ≤ p.block) (hB : p.block < B) (v : Value) : Inside L B a (b.setCell p v) :=
  ⟨h.below.setCell hp v, fun x hx hs => by rw [Below.heap_setCell _ _ _ _ (by omega)]; exact h.above x hx hs, fun q hq => by rw [World.frozen?_setCell]; exact h.frozen q hq, fun q u hu => by
    obtain ⟨u', hu'⟩ := h.ex q u hu
    by_cases e : q = p
    · subst e
      exact ⟨v, World.cell?_setCell_same _ _ _ (by rw [hu'])⟩
    · exact ⟨u', (World.cell?_setCell_other _ _ _ _ (fun h => e h.symm)).trans hu'⟩⟩
theorem Inside.grown (h : Inside L B a b) (hb : Below b.heap.size b c) (hL : L ≤ a.heap.size) : Inside L B a c :=
  ⟨h.below.trans (hb.mono (by have := h.below.size; omega)), fun x hx hs => (hb.block x (by have := h.below.size; omega)).trans (h.above x hx hs), fun p hp => (hb.frozen (by have := h.below.size; omega)).trans (h.frozen p hp), fun p v hv => by
    obtain ⟨v', hv'⟩ := h.ex p v hv
    exact ⟨v', (hb.cell (World.block_lt_of_cell? _ _ hv')).trans hv'⟩⟩
theorem Inside.cell (h : Inside L B a b) {p : Addr} (hp : p.block < L ∨ (B ≤ p.block ∧ p.block < a.heap.size)) : b.cell? p = a.cell? p := by
  rcases hp with hp | ⟨h1, h2⟩
  · exact h.below.cell hp
  · exact World.cell?_of_block (w := a) (h.above p.block h1 h2)
end

/-- n cells there are. -/
def BytesEx (w : World) (L B : Nat) (A : Option Addr) (n : Nat) : Prop :=
  0 < n → ∃ b o, A = some ⟨b, o, none⟩ ∧ L ≤ b ∧ b < B ∧ ∀ j, j < n → ∃ v, w.cell? ⟨b, o + j, none⟩ = some v

theorem BytesIn.exist {w : World} {L B : Nat} {A : Option Addr} {l : List UInt8} (h : BytesIn w L B A l) : BytesEx w L B A l.length := fun hl => by
  obtain ⟨b, o, e, hL, hb, hc⟩ := h hl
  exact ⟨b, o, e, hL, hb, fun j hj => ⟨_, hc j hj⟩⟩
theorem BytesEx.inside {w w' : World} {L B L' B' n : Nat} {A : Option Addr} (h : BytesEx w L B A n) (hi : Inside L' B' w w') : BytesEx w' L B A n := fun hl => by
  obtain ⟨b, o, e, hL, hb, hc⟩ := h hl
  refine ⟨b, o, e, hL, hb, fun j hj => ?_⟩
  obtain ⟨v, hv⟩ := hc j hj
  exact hi.ex _ v hv

/-- What is there to be written into: a ledger's cells and texts. -/
def CopyEx (w : World) (R B : Nat) (ns : List Nat) : Prop :=
  ∀ i (hi : i < ns.length), (∃ v, w.cell? ⟨R, i * 4, none⟩ = some v) ∧ (∃ v, w.cell? ⟨R, i * 4 + 1, none⟩ = some v) ∧ (∃ v, w.cell? ⟨R, i * 4 + 2, none⟩ = some v) ∧ ∃ A c, w.cell? ⟨R, i * 4 + 3, none⟩ = some (.slice A ns[i] c) ∧ BytesEx w (R + 1) B A ns[i]

theorem CopyIn.exist {w : World} {R B : Nat} {ts : List Tm} (h : CopyIn w R B ts) : CopyEx w R B (ts.map fun t => t.text.length) := fun i hi => by
  have hi' : i < ts.length := by simpa using hi
  obtain ⟨A, c, h0, h1, h2, h3, _, _, h6⟩ := h i hi'
  simp only [List.getElem_map]
  exact ⟨⟨_, h0⟩, ⟨_, h1⟩, ⟨_, h2⟩, A, c, h3, h6.exist⟩

/-- How many numbers are written into the first k terms. -/
def marksOf (ns : List Nat) : Nat := 3 * ns.length + ns.sum
theorem marksOf_succ (ns : List Nat) (k : Nat) (h : k < ns.length) : marksOf (ns.take (k + 1)) = marksOf (ns.take k) + 3 + ns[k] := by
  unfold marksOf
  rw [List.take_succ_eq_append_getElem h, List.length_append, List.sum_append]
  simp only [List.length_cons, List.length_nil, List.sum_cons, List.sum_nil]
  omega
theorem marksOf_le (ns : List Nat) (k : Nat) : marksOf (ns.take k) ≤ marksOf ns := by
  have h : marksOf (ns.take k ++ ns.drop k) = marksOf (ns.take k) + marksOf (ns.drop k) := by
    unfold marksOf
    rw [List.length_append, List.sum_append]
    omega
  rw [List.take_append_drop] at h
  omega
theorem marksOf_texts (ts : List Tm) : marksOf (ts.map fun t => t.text.length) = 3 * ts.length + bulk ts := by
  induction ts with
  | nil => rfl
  | cons t ts ih => simp [marksOf, bulk] at ih ⊢; omega

/-- As IntsIn, in cells that may be written into. -/
def IntsFr (w : World) (L B : Nat) (A : Option Addr) (l : List Int) : Prop :=
  0 < l.length → ∃ b o, A = some ⟨b, o, none⟩ ∧ L ≤ b ∧ b < B ∧ ∀ j (hj : j < l.length), w.cell? ⟨b, o + j, none⟩ = some (.int .i64 l[j]) ∧ w.frozen? ⟨b, o + j, none⟩ = false

theorem IntsFr.keep {w w' : World} {L B : Nat} {A : Option Addr} {l : List Int} (h : IntsFr w L B A l) (hk : ∀ p : Addr, L ≤ p.block → p.block < B → w'.cell? p = w.cell? p ∧ w'.frozen? p = w.frozen? p) : IntsFr w' L B A l := fun hl => by
  obtain ⟨b, o, e, hL, hb, hc⟩ := h hl
  exact ⟨b, o, e, hL, hb, fun j hj => ⟨(hk _ hL hb).1.trans (hc j hj).1, (hk _ hL hb).2.trans (hc j hj).2⟩⟩
theorem IntsFr.mono {w : World} {L B B' : Nat} {A : Option Addr} {l : List Int} (h : IntsFr w L B A l) (hB : B ≤ B') : IntsFr w L B' A l := fun hl => by
  obtain ⟨b, o, e, hL, hb, hc⟩ := h hl
  exact ⟨b, o, e, hL, by omega, hc⟩
theorem IntsFr.low {w : World} {L L' B : Nat} {A : Option Addr} {l : List Int} (h : IntsFr w L B A l) (hL' : L' ≤ L) : IntsFr w L' B A l := fun hl => by
  obtain ⟨b, o, e, hL, hb, hc⟩ := h hl
  exact ⟨b, o, e, by omega, hb, hc⟩
theorem IntsFr.below {w w' : World} {L B : Nat} {A : Option Addr} {l : List Int} (h : IntsFr w L B A l) (hb : Below B w w') : IntsFr w' L B A l := h.keep fun _ _ hp => ⟨hb.cell hp, hb.frozen hp⟩

/-- n numbers from k on. -/
def marks (k : Int) (n : Nat) : List Int := (List.range n).map fun (j : Nat) => k + (j : Int)
theorem marks_length (k : Int) (n : Nat) : (marks k n).length = n := by simp [marks]
theorem marks_get (k : Int) (n j : Nat) (h : j < (marks k n).length) : (marks k n)[j] = k + j := by simp [marks]

end Go.Proofs.YtepkicgnhjaokaaGreatDoor
