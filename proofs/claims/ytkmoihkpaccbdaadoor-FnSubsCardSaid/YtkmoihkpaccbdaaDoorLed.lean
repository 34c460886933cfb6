/-
  A ledger that was handed back: its row, and each text in a block of its own.
-/
import Derived.Test.YtkmoihkpaccbdaaDoorCopy
import Derived.Test.YtkmoihkpaccbdaaDoorMark2
namespace Go.Proofs.YtkmoihkpaccbdaaDoor
open Go.RowKit Go.Maps

/-- The bytes l in a block of bytes of their own, from L on, below B. -/
def TxFr (w : World) (L B : Nat) (A : Option Addr) (l : List UInt8) : Prop :=
  0 < l.length → ∃ b cur, A = some ⟨b, 0, none⟩ ∧ L ≤ b ∧ b < B ∧ w.heap[b]? = some (.cells cur 5 (0, 0)) ∧ ∀ j (hj : j < l.length), cur[j]? = some (.int .u8 (l[j].toNat : Int))

section
variable {w w' : World} {L L' B B' : Nat} {A : Option Addr} {l : List UInt8}
theorem TxFr.keep (h : TxFr w L B A l) (hk : ∀ b, L ≤ b → b < B → w'.heap[b]? = w.heap[b]?) : TxFr w' L B A l := fun hl => by
  obtain ⟨b, cur, e, hL, hb, hh, hc⟩ := h hl
  exact ⟨b, cur, e, hL, hb, (hk b hL hb).trans hh, hc⟩
theorem TxFr.mono (h : TxFr w L B A l) (hB : B ≤ B') : TxFr w L B' A l := fun hl => by
  obtain ⟨b, cur, e, hL, hb, hh, hc⟩ := h hl
  exact ⟨b, cur, e, hL, by omega, hh, hc⟩
theorem TxFr.low (h : TxFr w L B A l) (hL' : L' ≤ L) : TxFr w L' B A l := fun hl => by
  obtain ⟨b, cur, e, hL, hb, hh, hc⟩ := h hl
  exact ⟨b, cur, e, by omega, hb, hh, hc⟩
theorem TxFr.bytes (h : TxFr w L B A l) : BytesFr w L B A l := fun hl => by
  obtain ⟨b, cur, e, hL, hb, hh, hc⟩ := h hl
  refine ⟨b, 0, e, hL, hb, fun j hj => ⟨?_, ?_⟩⟩
  · rw [Nat.zero_add, World.cell?, hh]
    simpa using hc j hj
  · simp [World.frozen?, hh]
theorem TxFr.nil : TxFr w L B A [] := fun h => absurd h (by simp)
end

theorem tx_of_row {w : World} {base : Nat} {A : Option Addr} {c : Nat} {l : List UInt8} (h : w.ownsRow base 5 1 (.slice A l.length c) l.length (vbytes l)) : TxFr w base w.heap.size A l := fun hl => by
  obtain ⟨_, hh | ⟨g, cap, cur, hv, hg, hb, _, _, _, htk⟩⟩ := h
  · omega
  · injection hv with h1 _ _
    subst h1
    refine ⟨g, cur, rfl, hg, (Array.getElem?_eq_some_iff.1 hb).1, hb, fun i hi => ?_⟩
    have h2 : (vbytes l)[i]? = some (.int .u8 (l[i].toNat : Int)) := by simp [vbytes, hi]
    rw [← htk, Nat.mul_one, List.getElem?_take, if_pos hi] at h2
    simpa using h2

/-- A term, and where its text lies. -/
structure Tx where
  t : Tm
  A : Option Addr
  c : Nat

/-- The values of a row of terms. -/
def rowT (us : List Tx) : List Value := us.flatMap fun x => [.int .i64 x.t.kind, .int .i64 x.t.a, .int .i64 x.t.b, .slice x.A x.t.text.length x.c]

theorem rowT_length (us : List Tx) : (rowT us).length = us.length * 4 := by
  induction us with
  | nil => rfl
  | cons x xs ih =>
    have : rowT (x :: xs) = [.int .i64 x.t.kind, .int .i64 x.t.a, .int .i64 x.t.b, .slice x.A x.t.text.length x.c] ++ rowT xs := rfl
    rw [this, List.length_append, ih]
    simp
    omega
theorem rowT_snoc (us : List Tx) (x : Tx) : rowT (us ++ [x]) = rowT us ++ [.int .i64 x.t.kind, .int .i64 x.t.a, .int .i64 x.t.b, .slice x.A x.t.text.length x.c] := by
  simp [rowT]
theorem rowT_get (us : List Tx) (i : Nat) (hi : i < us.length) :
    (rowT us)[i * 4]? = some (.int .i64 us[i].t.kind) ∧ (rowT us)[i * 4 + 1]? = some (.int .i64 us[i].t.a) ∧ (rowT us)[i * 4 + 2]? = some (.int .i64 us[i].t.b) ∧ (rowT us)[i * 4 + 3]? = some (.slice us[i].A us[i].t.text.length us[i].c) := by
  induction us generalizing i with
  | nil => simp at hi
  | cons x xs ih =>
    have e : rowT (x :: xs) = [.int .i64 x.t.kind, .int .i64 x.t.a, .int .i64 x.t.b, .slice x.A x.t.text.length x.c] ++ rowT xs := rfl
    cases i with
    | zero => rw [e]; simp
    | succ i =>
      obtain ⟨h0, h1, h2, h3⟩ := ih i (by simpa using hi)
      rw [e]
      refine ⟨?_, ?_, ?_, ?_⟩
      · rw [List.getElem?_append_right (by simp; omega), show (i + 1) * 4 - [Value.int .i64 x.t.kind, .int .i64 x.t.a, .int .i64 x.t.b, .slice x.A x.t.text.length x.c].length = i * 4 by simp; omega]
        simpa using h0
      · rw [List.getElem?_append_right (by simp; omega), show (i + 1) * 4 + 1 - [Value.int .i64 x.t.kind, .int .i64 x.t.a, .int .i64 x.t.b, .slice x.A x.t.text.length x.c].length = i * 4 + 1 by simp; omega]
        simpa using h1
      · rw [List.getElem?_append_right (by simp; omega), show (i + 1) * 4 + 2 - [Value.int .i64 x.t.kind, .int .i64 x.t.a, .int .i64 x.t.b, .slice x.A x.t.text.length x.c].length = i * 4 + 2 by simp; omega]
        simpa using h2
      · rw [List.getElem?_append_right (by simp; omega), show (i + 1) * 4 + 3 - [Value.int .i64 x.t.kind, .int .i64 x.t.a, .int .i64 x.t.b, .slice x.A x.t.text.length x.c].length = i * 4 + 3 by simp; omega]
        simpa using h3

/-- The texts, each behind the one ahead of it. -/
def TxChain (w : World) : Nat → List Tx → Nat → Prop
  | L, [], B => L ≤ B
  | L, x :: xs, B => ∃ M, L ≤ M ∧ TxFr w L M x.A x.t.text ∧ TxChain w M xs B

theorem TxChain.le {w : World} {L B : Nat} {us : List Tx} (h : TxChain w L us B) : L ≤ B := by
  induction us generalizing L with
  | nil => exact h
  | cons x xs ih =>
    obtain ⟨M, hM, _, hr⟩ := h
    have := ih hr
    omega
theorem TxChain.keep {w w' : World} {L B : Nat} {us : List Tx} (h : TxChain w L us B) (hk : ∀ b, L ≤ b → b < B → w'.heap[b]? = w.heap[b]?) : TxChain w' L us B := by
  induction us generalizing L with
  | nil => exact h
  | cons x xs ih =>
    obtain ⟨M, hM, ht, hr⟩ := h
    have hle := hr.le
    exact ⟨M, hM, ht.keep fun b h1 h2 => hk b h1 (by omega), ih hr fun b h1 h2 => hk b (by omega) h2⟩
theorem TxChain.snoc {w : World} {L M B : Nat} {us : List Tx} {x : Tx} (h : TxChain w L us M) (ht : TxFr w M B x.A x.t.text) (hB : M ≤ B) : TxChain w L (us ++ [x]) B := by
  induction us generalizing L with
  | nil => exact ⟨B, Nat.le_trans h hB, ht.low h, Nat.le_refl _⟩
  | cons y ys ih =>
    obtain ⟨N, hN, hy, hr⟩ := h
    exact ⟨N, hN, hy, ih hr⟩
theorem TxChain.mono {w : World} {L B B' : Nat} {us : List Tx} (h : TxChain w L us B) (hB : B ≤ B') : TxChain w L us B' := by
  induction us generalizing L with
  | nil => exact Nat.le_trans h hB
  | cons x xs ih =>
    obtain ⟨M, hM, ht, hr⟩ := h
    exact ⟨M, hM, ht, ih hr⟩
theorem TxChain.low {w : World} {L L' B : Nat} {us : List Tx} (h : TxChain w L us B) (hL : L' ≤ L) : TxChain w L' us B := by
  cases us with
  | nil => exact Nat.le_trans hL h
  | cons x xs =>
    obtain ⟨M, hM, ht, hr⟩ := h
    exact ⟨M, by omega, ht.low hL, hr⟩
theorem TxChain.at {w : World} {L B : Nat} {us : List Tx} (h : TxChain w L us B) (i : Nat) (hi : i < us.length) : TxFr w L B us[i].A us[i].t.text := by
  induction us generalizing L i with
  | nil => simp at hi
  | cons x xs ih =>
    obtain ⟨M, hM, ht, hr⟩ := h
    cases i with
    | zero => exact ht.mono hr.le
    | succ i => exact (ih hr i (by simpa using hi)).low hM

/-- A ledger of a row of its own, and texts of their own. -/
def LedIs (w : World) (L B : Nat) (v : Value) (us : List Tx) : Prop :=
  w.ownsRow L 71 4 v us.length (rowT us) ∧ TxChain w L us B

theorem LedIs.cells {w : World} {L B : Nat} {A : Option Addr} {c : Nat} {us : List Tx} (h : LedIs w L B (.slice A us.length c) us) (hpos : 0 < us.length) :
    ∃ g cur, A = some ⟨g, 0, none⟩ ∧ L ≤ g ∧ g < w.heap.size ∧ w.heap[g]? = some (.cells cur 71 (0, 0)) ∧ ∀ i (hi : i < us.length), cur[i * 4]? = some (.int .i64 us[i].t.kind) ∧ cur[i * 4 + 1]? = some (.int .i64 us[i].t.a) ∧ cur[i * 4 + 2]? = some (.int .i64 us[i].t.b) ∧ cur[i * 4 + 3]? = some (.slice us[i].A us[i].t.text.length us[i].c) := by
  obtain ⟨⟨_, hh | ⟨g, cap, cur, hv, hg, hb, _, _, _, htk⟩⟩, _⟩ := h
  · omega
  · injection hv with h1 _ _
    subst h1
    refine ⟨g, cur, rfl, hg, (Array.getElem?_eq_some_iff.1 hb).1, hb, fun i hi => ?_⟩
    have hg : ∀ k, k < 4 → cur[i * 4 + k]? = (rowT us)[i * 4 + k]? := fun k hk => by
      rw [← htk, List.getElem?_take, if_pos (by omega)]
      simp
    obtain ⟨h0, h1, h2, h3⟩ := rowT_get us i hi
    exact ⟨(hg 0 (by omega)).trans h0, (hg 1 (by omega)).trans h1, (hg 2 (by omega)).trans h2, (hg 3 (by omega)).trans h3⟩

theorem LedIs.tms {w : World} {L B : Nat} {A : Option Addr} {c : Nat} {us : List Tx} {ts : List Tm} (h : LedIs w L B (.slice A us.length c) us) (hB : B ≤ w.heap.size) (ht : us.map (·.t) = ts) (hc : ∀ x ∈ us, x.t.text.length ≤ x.c ∧ x.c ≤ maxLen) : TmsIn w L w.heap.size A ts := fun hl => by
  subst ht
  have hpos : 0 < us.length := by simpa using hl
  obtain ⟨g, cur, rfl, hg, hlt, hb, hcell⟩ := h.cells hpos
  refine ⟨g, 0, rfl, hg, hlt, fun i hi => ?_⟩
  have hi' : i < us.length := by simpa using hi
  obtain ⟨h0, h1, h2, h3⟩ := hcell i hi'
  obtain ⟨e1, e2⟩ := hc us[i] (List.getElem_mem hi')
  have hce : ∀ k v, cur[i * 4 + k]? = some v → w.cell? ⟨g, i * 4 + k, none⟩ = some v := fun k v hv => by rw [World.cell?, hb]; simpa using hv
  rw [Nat.zero_add, List.getElem_map]
  exact ⟨_, _, hce 0 _ h0, hce 1 _ h1, hce 2 _ h2, hce 3 _ h3, e1, e2, ((h.2.at i hi').bytes.bytes).mono hB⟩

/-- A new term, its text in a block of its own, is handed back. -/
def NewTmX (t : Tm) (w : World) (e : Ending) (w' : World) : Prop :=
  ∃ A c, e = .returned (.agg #[.int .i64 t.kind, .int .i64 t.a, .int .i64 t.b, .slice A t.text.length c]) ∧ t.text.length ≤ c ∧ c ≤ maxLen ∧ TxFr w' w.heap.size w'.heap.size A t.text ∧ Below w.heap.size w w'

end Go.Proofs.YtkmoihkpaccbdaaDoor
