/-
  What a ledger looks like in memory: a list of terms read at a slice's cells; kept below a block's number.
-/
import Derived.WalkKit
import Derived.WalkSpells
import Derived.WalkLawsBesides
import Derived.Lib.Hide
import Derived.Deep.Draws
namespace Go.Proofs.YtepkicgnhjaokaaGreatDoor
open Go.RowKit

/-- A term as plain data. -/
structure Tm where
  kind : Int
  a : Int
  b : Int
  text : List UInt8
deriving DecidableEq, Inhabited

/-- The slice address A (of l.length bytes) holds the bytes l, in a block from L on, below B. -/
def BytesIn (w : World) (L B : Nat) (A : Option Addr) (l : List UInt8) : Prop :=
  0 < l.length → ∃ b o, A = some ⟨b, o, none⟩ ∧ L ≤ b ∧ b < B ∧ ∀ j (hj : j < l.length), w.cell? ⟨b, o + j, none⟩ = some (.int .u8 (l[j].toNat : Int))

/-- Four cells from o on in block b hold the term t. -/
def TmIn (w : World) (L B : Nat) (b o : Nat) (t : Tm) : Prop :=
  ∃ A c, w.cell? ⟨b, o, none⟩ = some (.int .i64 t.kind) ∧ w.cell? ⟨b, o + 1, none⟩ = some (.int .i64 t.a) ∧ w.cell? ⟨b, o + 2, none⟩ = some (.int .i64 t.b) ∧
    w.cell? ⟨b, o + 3, none⟩ = some (.slice A t.text.length c) ∧ t.text.length ≤ c ∧ c ≤ maxLen ∧ BytesIn w L B A t.text

/-- The slice address A (of ts.length terms) holds the terms ts. -/
def TmsIn (w : World) (L B : Nat) (A : Option Addr) (ts : List Tm) : Prop :=
  0 < ts.length → ∃ b o, A = some ⟨b, o, none⟩ ∧ L ≤ b ∧ b < B ∧ ∀ i (hi : i < ts.length), TmIn w L B b (o + i * 4) ts[i]

section
variable {w w' : World} {L L' B B' : Nat} {A : Option Addr}

theorem BytesIn.mono {l : List UInt8} (h : BytesIn w L B A l) (hB : B ≤ B') : BytesIn w L B' A l := fun hl => by
  obtain ⟨b, o, e, hL, hb, hc⟩ := h hl
  exact ⟨b, o, e, hL, by omega, hc⟩

theorem BytesIn.low {l : List UInt8} (h : BytesIn w L B A l) (hL' : L' ≤ L) : BytesIn w L' B A l := fun hl => by
  obtain ⟨b, o, e, hL, hb, hc⟩ := h hl
  exact ⟨b, o, e, by omega, hb, hc⟩

theorem BytesIn.keep {l : List UInt8} (h : BytesIn w L B A l) (hk : ∀ p : Addr, L ≤ p.block → p.block < B → w'.cell? p = w.cell? p) : BytesIn w' L B A l := fun hl => by
  obtain ⟨b, o, e, hL, hb, hc⟩ := h hl
  exact ⟨b, o, e, hL, hb, fun j hj => (hk _ hL hb).trans (hc j hj)⟩

theorem TmIn.keep {b o : Nat} {t : Tm} (h : TmIn w L B b o t) (hL : L ≤ b) (hb : b < B) (hk : ∀ p : Addr, L ≤ p.block → p.block < B → w'.cell? p = w.cell? p) : TmIn w' L B b o t := by
  obtain ⟨A, c, h0, h1, h2, h3, h4, h5, h6⟩ := h
  exact ⟨A, c, (hk _ hL hb).trans h0, (hk _ hL hb).trans h1, (hk _ hL hb).trans h2, (hk _ hL hb).trans h3, h4, h5, h6.keep hk⟩

theorem TmIn.mono {b o : Nat} {t : Tm} (h : TmIn w L B b o t) (hB : B ≤ B') : TmIn w L B' b o t := by
  obtain ⟨A, c, h0, h1, h2, h3, h4, h5, h6⟩ := h
  exact ⟨A, c, h0, h1, h2, h3, h4, h5, h6.mono hB⟩

theorem TmIn.low {b o : Nat} {t : Tm} (h : TmIn w L B b o t) (hL' : L' ≤ L) : TmIn w L' B b o t := by
  obtain ⟨A, c, h0, h1, h2, h3, h4, h5, h6⟩ := h
  exact ⟨A, c, h0, h1, h2, h3, h4, h5, h6.low hL'⟩

theorem TmsIn.keep {ts : List Tm} (h : TmsIn w L B A ts) (hk : ∀ p : Addr, L ≤ p.block → p.block < B → w'.cell? p = w.cell? p) : TmsIn w' L B A ts := fun hl => by
  obtain ⟨b, o, e, hL, hb, hc⟩ := h hl
  exact ⟨b, o, e, hL, hb, fun i hi => (hc i hi).keep hL hb hk⟩

theorem TmsIn.mono {ts : List Tm} (h : TmsIn w L B A ts) (hB : B ≤ B') : TmsIn w L B' A ts := fun hl => by
  obtain ⟨b, o, e, hL, hb, hc⟩ := h hl
  exact ⟨b, o, e, hL, by omega, fun i hi => (hc i hi).mono hB⟩

theorem TmsIn.low {ts : List Tm} (h : TmsIn w L B A ts) (hL' : L' ≤ L) : TmsIn w L' B A ts := fun hl => by
  obtain ⟨b, o, e, hL, hb, hc⟩ := h hl
  exact ⟨b, o, e, by omega, hb, fun i hi => (hc i hi).low hL'⟩

theorem BytesIn.block {l : List UInt8} {g o : Nat} (h : BytesIn w L B (some ⟨g, o, none⟩) l) (hk : ∀ j, w'.cell? ⟨g, j, none⟩ = w.cell? ⟨g, j, none⟩) (hB : B ≤ B') : BytesIn w' L B' (some ⟨g, o, none⟩) l := fun hl => by
  obtain ⟨b, o', e, hL, hb, hc⟩ := h hl
  simp only [Option.some.injEq, Addr.mk.injEq] at e
  obtain ⟨rfl, rfl, _⟩ := e
  exact ⟨_, _, rfl, hL, by omega, fun j hj => (hk _).trans (hc j hj)⟩

theorem BytesIn.set {l : List UInt8} (h : BytesIn w L B A l) {p : Addr} (hp : p.block < L) (v : Value) : BytesIn (w.setCell p v) L B A l :=
  h.keep fun q hq _ => World.cell?_setCell_other _ _ _ _ (by rintro rfl; omega)
theorem TmsIn.set {ts : List Tm} (h : TmsIn w L B A ts) {p : Addr} (hp : p.block < L) (v : Value) : TmsIn (w.setCell p v) L B A ts :=
  h.keep fun q hq _ => World.cell?_setCell_other _ _ _ _ (by rintro rfl; omega)
theorem BytesIn.drew {l : List UInt8} (h : BytesIn w L B A l) : BytesIn w.drew L B A l := h
theorem TmsIn.drew {ts : List Tm} (h : TmsIn w L B A ts) : TmsIn w.drew L B A ts := h
theorem BytesIn.below {l : List UInt8} (h : BytesIn w L B A l) (hb : Below B w w') : BytesIn w' L B A l := h.keep fun _ _ hp => hb.cell hp
theorem TmIn.below {b o : Nat} {t : Tm} (h : TmIn w L B b o t) (hL : L ≤ b) (hlt : b < B) (hb : Below B w w') : TmIn w' L B b o t := h.keep hL hlt fun _ _ hp => hb.cell hp
theorem TmsIn.below {ts : List Tm} (h : TmsIn w L B A ts) (hb : Below B w w') : TmsIn w' L B A ts := h.keep fun _ _ hp => hb.cell hp
theorem BytesIn.up {l : List UInt8} (h : BytesIn w L w.heap.size A l) (hb : Below w.heap.size w w') : BytesIn w' L w'.heap.size A l := (h.below hb).mono hb.size
theorem TmsIn.up {ts : List Tm} (h : TmsIn w L w.heap.size A ts) (hb : Below w.heap.size w w') : TmsIn w' L w'.heap.size A ts := (h.below hb).mono hb.size
end

theorem below_drewN {B : Nat} {a w : World} (h : Below B a w) (n : Nat) : Below B a (w.drewN n) := ⟨h.os, h.tape, h.output, h.size, h.block⟩

/-- Behind a call that keeps what was there: each old cell, each old mark. -/
theorem bcell {W w1 : World} (hb : Below W.heap.size W w1) : (∀ b o, b < W.heap.size → w1.cell? ⟨b, o, none⟩ = W.cell? ⟨b, o, none⟩) ∧ (∀ b o, b < W.heap.size → w1.frozen? ⟨b, o, none⟩ = W.frozen? ⟨b, o, none⟩) :=
  ⟨fun b o h => hb.cell (p := ⟨b, o, none⟩) h, fun b o h => hb.frozen (p := ⟨b, o, none⟩) h⟩

theorem ret_bool {a b : Bool} (h : a = b) : Ending.returned (.bool a) = Ending.returned (.bool b) := by rw [h]
theorem ret_int {k : IntKind} {a b : Int} (h : a = b) : Ending.returned (.int k a) = Ending.returned (.int k b) := by rw [h]

/-- What is left of a bound. -/
def szB (left n : Int) : Int := if left - n < 0 then -1 else left - n

/-- r is what is left of 'left' when n is taken away; -1: that is more than there is. -/
def SzOk (left n r : Int) : Prop := r = -1 ∨ (0 ≤ r ∧ r + n = left)

theorem szB_ok (left n : Int) : SzOk left n (szB left n) := by
  unfold SzOk szB; split <;> omega

theorem SzOk.neg {left n r : Int} (h : SzOk left n r) (hr : r < 0) : r = -1 := by
  unfold SzOk at h; omega

/-- All bytes of the texts of these terms. -/
def bulk : List Tm → Nat
  | [] => 0
  | t :: ts => t.text.length + bulk ts

theorem bulk_nil : bulk [] = 0 := rfl
theorem bulk_append (xs ys : List Tm) : bulk (xs ++ ys) = bulk xs + bulk ys := by
  induction xs with
  | nil => simp [bulk]
  | cons x xs ih => simp [bulk, ih]; omega
theorem bulk_take_succ (ts : List Tm) (k : Nat) (h : k < ts.length) : bulk (ts.take (k + 1)) = bulk (ts.take k) + ts[k].text.length := by
  rw [List.take_succ_eq_append_getElem h, bulk_append]
  simp [bulk]

theorem bulk_take_le (ts : List Tm) (k : Nat) : bulk (ts.take k) ≤ bulk ts := by
  have h := bulk_append (ts.take k) (ts.drop k)
  rw [List.take_append_drop] at h
  omega

theorem text_le_bulk (ts : List Tm) (k : Nat) (h : k < ts.length) : ts[k].text.length ≤ bulk ts := by
  have := bulk_take_succ ts k h
  have := bulk_take_le ts (k + 1)
  omega

end Go.Proofs.YtepkicgnhjaokaaGreatDoor
