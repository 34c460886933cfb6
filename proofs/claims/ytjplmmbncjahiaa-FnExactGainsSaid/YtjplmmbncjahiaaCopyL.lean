/-
  The program's copy of a ledger: a row of its own, with room for one more, and texts of their own.
-/
import Derived.Test.YtjplmmbncjahiaaLed
namespace Go.Proofs.Ytjplmmbncjahiaa
open Go.RowKit Go.Maps

theorem row_bounds {w : World} {base : Nat} {e : TypeId} {size n c : Nat} {A : Option Addr} {xs : List Value} (h : w.ownsRow base e size (.slice A n c) n xs) : n ≤ c ∧ c ≤ maxLen := by
  obtain ⟨_, ⟨h, hn⟩ | ⟨g, cap, cur, hv, _, _, h1, h2, _⟩⟩ := h
  · injection h with _ h3 h4
    subst h4
    exact ⟨by omega, by unfold maxLen; omega⟩
  · injection hv with _ _ h3
    subst h3
    exact ⟨h1, h2⟩

/-- 'make([]Term, 0, n)': a row of none, with room for n. -/
theorem run_make_room (n : Nat) (hn : n ≤ 1048577) (w : World) :
    (Instr.makeSlice 28 (.int .i64 0) (.int .i64 (n : Int))).run Try.prog w = .ok (.slice (some ⟨w.heap.size, 0, none⟩) 0 n) (w.alloc (.cells (madeCells #[.int .i64 0, .int .i64 0, .int .i64 0, .slice none 0 0] (n * 4)) 67)) := by
  obtain ⟨i0, hi, hz0, hz1, hz2⟩ := info_parts Try.info35
  have hr := run_make (P := Try.prog) w 28 67 i0 _ Try.underlying28 hi hz0 .i64 .i64 0 n (by omega) (by omega) (by rw [hz2]; omega) (by omega)
  simp only [Int.toNat_natCast, hz1] at hr
  exact hr

theorem owns_room (w : World) (n : Nat) (hn : n ≤ 1048577) : (w.alloc (.cells (madeCells #[.int .i64 0, .int .i64 0, .int .i64 0, .slice none 0 0] (n * 4)) 67)).ownsRow w.heap.size 67 4 (.slice (some ⟨w.heap.size, 0, none⟩) 0 n) 0 [] :=
  ⟨rfl, .inr ⟨w.heap.size, n, _, rfl, Nat.le_refl _, heap_alloc_new w _, Nat.zero_le _, by unfold maxLen; omega, size_madeCells _ _, by simp⟩⟩

theorem TxFr.keepT {w w' : World} {L B : Nat} {A : Option Addr} {l : List UInt8} (h : TxFr w L B A l) (hk : ∀ b cur, L ≤ b → b < B → w.heap[b]? = some (.cells cur 5 (0, 0)) → w'.heap[b]? = w.heap[b]?) : TxFr w' L B A l := fun hl => by
  obtain ⟨b, cur, e, hL, hb, hh, hc⟩ := h hl
  exact ⟨b, cur, e, hL, hb, (hk b cur hL hb hh).trans hh, hc⟩
theorem TxChain.keepT {w w' : World} {L B : Nat} {us : List Tx} (h : TxChain w L us B) (hk : ∀ b cur, L ≤ b → b < B → w.heap[b]? = some (.cells cur 5 (0, 0)) → w'.heap[b]? = w.heap[b]?) : TxChain w' L us B := by
  induction us generalizing L with
  | nil => exact h
  | cons x xs ih =>
    obtain ⟨M, hM, ht, hr⟩ := h
    have hle := hr.le
    exact ⟨M, hM, ht.keepT fun b cur h1 h2 => hk b cur h1 (by omega), ih hr fun b cur h1 h2 => hk b cur (by omega) h2⟩

theorem own_type {w : World} {base : Nat} {e : TypeId} {size n : Nat} {v : Value} {xs : List Value} (h : w.ownsRow base e size v n xs) {g : Nat} (hg : v.ownBlock = some g) : ∃ cur, w.heap[g]? = some (.cells cur e (0, 0)) := by
  obtain ⟨_, ⟨h, _⟩ | ⟨g', cap, cur, hv, _, hb, _⟩⟩ := h
  · rw [h] at hg; cases hg
  · rw [hv] at hg
    cases hg
    exact ⟨cur, hb⟩


theorem ownsRow_low {w : World} {base base' : Nat} {e : TypeId} {size n : Nat} {v : Value} {xs : List Value} (h : w.ownsRow base e size v n xs) (hb : base' ≤ base) : w.ownsRow base' e size v n xs := by
  obtain ⟨h1, h | ⟨g, cap, cur, hv, hg, h3⟩⟩ := h
  · exact ⟨h1, .inl h⟩
  · exact ⟨h1, .inr ⟨g, cap, cur, hv, by omega, h3⟩⟩

/-- Where a row of terms grows, no block of bytes turns. -/
theorem chain_grown {w w' : World} {base L B : Nat} {v : Value} {n : Nat} {xs : List Value} {us : List Tx} (h : TxChain w L us B) (hown : w.ownsRow base 67 4 v n xs) (hg : w.grownBy w' v.ownBlock) (hB : B ≤ w.heap.size) : TxChain w' L us B :=
  h.keepT fun b cur _ hb hh => hg.block b (by omega) (fun e => by
    obtain ⟨cur', hh'⟩ := own_type hown e.symm
    rw [hh] at hh'
    cases hh')

theorem news4 (w : World) (v0 v1 v2 v3 : Value) (t : TypeId) : ∀ j u, [v0, v1, v2, v3][j]? = some u → (w.alloc (.cells #[v0, v1, v2, v3] t)).cell? ((⟨w.heap.size, 0, none⟩ : Addr).add j) = some u := fun j u hu => by
  rw [Addr.add_lit, Nat.zero_add, World.cell?, heap_alloc_new]
  simpa using hu

/-- A ledger of its own is handed back. -/
def NewLed (ts : List Tm) (w : World) (e : Ending) (w' : World) : Prop :=
  ∃ (us : List Tx) (A : Option Addr) (c : Nat), e = .returned (.agg #[.slice A ts.length c]) ∧ us.map (·.t) = ts ∧ (∀ x ∈ us, x.t.text.length ≤ x.c ∧ x.c ≤ maxLen) ∧ LedIs w' w.heap.size w'.heap.size (.slice A ts.length c) us ∧ Below w.heap.size w w'

end Go.Proofs.Ytjplmmbncjahiaa
