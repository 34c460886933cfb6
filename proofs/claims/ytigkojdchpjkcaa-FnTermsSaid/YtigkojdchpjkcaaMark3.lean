/-
  What the law writes into a ledger that it was handed back, and what it finds there.
-/
import Derived.Test.YtigkojdchpjkcaaCopyL
namespace Go.Proofs.Ytigkojdchpjkcaa
open Go.RowKit Go.Maps

/-- As MkFr, in a block of bytes. -/
def MkTx (w : World) (L B : Nat) (A : Option Addr) (k : Int) (n : Nat) : Prop :=
  0 < n → ∃ b cur, A = some ⟨b, 0, none⟩ ∧ L ≤ b ∧ b < B ∧ w.heap[b]? = some (.cells cur 5 (0, 0)) ∧ ∀ j, j < n → cur[j]? = some (.int .u8 ((k + j) % 256))
theorem MkTx.keep {w w' : World} {L B n : Nat} {k : Int} {A : Option Addr} (h : MkTx w L B A k n) (hk : ∀ b, L ≤ b → b < B → w'.heap[b]? = w.heap[b]?) : MkTx w' L B A k n := fun hl => by
  obtain ⟨b, cur, e, hL, hb, hh, hc⟩ := h hl
  exact ⟨b, cur, e, hL, hb, (hk b hL hb).trans hh, hc⟩
theorem MkTx.keepT {w w' : World} {L B n : Nat} {k : Int} {A : Option Addr} (h : MkTx w L B A k n) (hk : ∀ b cur, L ≤ b → b < B → w.heap[b]? = some (.cells cur 5 (0, 0)) → w'.heap[b]? = w.heap[b]?) : MkTx w' L B A k n := fun hl => by
  obtain ⟨b, cur, e, hL, hb, hh, hc⟩ := h hl
  exact ⟨b, cur, e, hL, hb, (hk b cur hL hb hh).trans hh, hc⟩
theorem MkTx.low {w : World} {L L' B n : Nat} {k : Int} {A : Option Addr} (h : MkTx w L B A k n) (hL' : L' ≤ L) : MkTx w L' B A k n := fun hl => by
  obtain ⟨b, cur, e, hL, hb, hh, hc⟩ := h hl
  exact ⟨b, cur, e, by omega, hb, hh, hc⟩
theorem MkTx.fr {w : World} {L B n : Nat} {k : Int} {A : Option Addr} (h : MkTx w L B A k n) : MkFr w L B A k n := fun hl => by
  obtain ⟨b, cur, e, hL, hb, hh, hc⟩ := h hl
  refine ⟨b, 0, e, hL, hb, fun j hj => ⟨?_, ?_⟩⟩
  · rw [Nat.zero_add, World.cell?, hh]
    simpa using hc j hj
  · simp [World.frozen?, hh]

/-- What is no block of bytes is as it was. -/
def NB (w w' : World) : Prop := ∀ (i : Nat) (cur : Array Value) (t : TypeId) (fr : Nat × Nat), w.heap[i]? = some (Obj.cells cur t fr) → t ≠ 5 → w'.heap[i]? = w.heap[i]?

/-- The texts, written into from k on. -/
def MkChain (w : World) : Nat → List Tx → Nat → Int → Prop
  | L, [], B, _ => L ≤ B
  | L, x :: xs, B, k => ∃ M, L ≤ M ∧ MkTx w L M x.A (k + 3) x.t.text.length ∧ MkChain w M xs B (k + 3 + x.t.text.length)

theorem MkChain.le {w : World} {L B : Nat} {us : List Tx} {k : Int} (h : MkChain w L us B k) : L ≤ B := by
  induction us generalizing L k with
  | nil => exact h
  | cons x xs ih =>
    obtain ⟨M, hM, _, hr⟩ := h
    have := ih hr
    omega
theorem MkChain.keepT {w w' : World} {L B : Nat} {us : List Tx} {k : Int} (h : MkChain w L us B k) (hk : ∀ b cur, L ≤ b → b < B → w.heap[b]? = some (.cells cur 5 (0, 0)) → w'.heap[b]? = w.heap[b]?) : MkChain w' L us B k := by
  induction us generalizing L k with
  | nil => exact h
  | cons x xs ih =>
    obtain ⟨M, hM, ht, hr⟩ := h
    have hle := hr.le
    exact ⟨M, hM, ht.keepT fun b cur h1 h2 => hk b cur h1 (by omega), ih hr fun b cur h1 h2 => hk b cur (by omega) h2⟩
theorem MkChain.mono {w : World} {L B B' : Nat} {us : List Tx} {k : Int} (h : MkChain w L us B k) (hB : B ≤ B') : MkChain w L us B' k := by
  induction us generalizing L k with
  | nil => exact Nat.le_trans h hB
  | cons x xs ih =>
    obtain ⟨M, hM, ht, hr⟩ := h
    exact ⟨M, hM, ht, ih hr⟩
theorem MkChain.snoc {w : World} {L M B : Nat} {us : List Tx} {x : Tx} {k : Int} (h : MkChain w L us M k) (ht : MkTx w M B x.A (k + marksOf (us.map fun x => x.t.text.length) + 3) x.t.text.length) (hB : M ≤ B) : MkChain w L (us ++ [x]) B k := by
  induction us generalizing L k with
  | nil => exact ⟨B, Nat.le_trans h hB, by have := ht.low h; simpa [marksOf] using this, Nat.le_refl _⟩
  | cons y ys ih =>
    obtain ⟨N, hN, hy, hr⟩ := h
    refine ⟨N, hN, hy, ih hr ?_⟩
    have e : k + 3 + (y.t.text.length : Int) + (marksOf (ys.map fun x => x.t.text.length) : Int) + 3 = k + (marksOf ((y :: ys).map fun x => x.t.text.length) : Int) + 3 := by
      simp [marksOf]
      omega
    rw [e]
    exact ht

/-- How many numbers are written into the first j. -/
def mk (us : List Tx) (j : Nat) : Nat := marksOf ((us.take j).map fun x => x.t.text.length)
theorem mk_succ (us : List Tx) (j : Nat) (h : j < us.length) : mk us (j + 1) = mk us j + 3 + us[j].t.text.length := by
  unfold mk
  rw [List.map_take, List.map_take, marksOf_succ _ _ (by simpa using h)]
  simp
theorem mk_le (us : List Tx) (j : Nat) : mk us j ≤ marksOf (us.map fun x => x.t.text.length) := by
  unfold mk
  rw [List.map_take]
  exact marksOf_le _ _
theorem mk_all (us : List Tx) : mk us us.length = marksOf (us.map fun x => x.t.text.length) := by
  unfold mk
  rw [List.take_length]
theorem mk_zero (us : List Tx) : mk us 0 = 0 := by simp [mk, marksOf]

/-- The row of a ledger, the first j terms of it written into from k on. -/
def RowMk (w : World) (R m : Nat) (us : List Tx) (j : Nat) (k : Int) : Prop :=
  ∃ f, w.rowIs R 27 m f ∧ us.length * 4 ≤ m ∧ (∀ i (hi : i < us.length), f (i * 4 + 3) = .slice us[i].A us[i].t.text.length us[i].c) ∧
    ∀ i, i < j → f (i * 4) = .int .i64 (k + mk us i) ∧ f (i * 4 + 1) = .int .i64 (k + mk us i + 1) ∧ f (i * 4 + 2) = .int .i64 (k + mk us i + 2)

theorem RowMk.keep {w w' : World} {R m j : Nat} {us : List Tx} {k : Int} (h : RowMk w R m us j k) (e : w'.heap[R]? = w.heap[R]?) : RowMk w' R m us j k := by
  obtain ⟨f, hrow, h⟩ := h
  exact ⟨f, hrow.of_block e, h⟩

theorem other_type {w : World} {R b m : Nat} {f : Nat → Value} {cur : Array Value} (hrow : w.rowIs R 27 m f) (hb : w.heap[b]? = some (.cells cur 5 (0, 0))) : b ≠ R := fun e => by
  subst e
  obtain ⟨c, hh, _⟩ := hrow
  rw [hb] at hh
  cases hh

end Go.Proofs.Ytigkojdchpjkcaa
