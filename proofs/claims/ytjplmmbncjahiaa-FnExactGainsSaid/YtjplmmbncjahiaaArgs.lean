/-
  The law's arguments, opened: a term, a ledger, as plain data.
-/
import Derived.Test.YtjplmmbncjahiaaRows
import Derived.Test.YtjplmmbncjahiaaMem
import Derived.ProofKit
import Derived.SizedLaws
import Derived.Deep.Slices
import Derived.Deep.Fields
namespace Go.Proofs.Ytjplmmbncjahiaa
open Go.ChangeShapes Go.WideShapes Go.ChangeAt Go.RowKit Go.Deep

section
variable {H : Type} {enc : TypeId × Value → H} {W : World} {base : Nat} {sp : Nat → Bool} {held : Bool}

theorem Try.laidOut : laidOutB Try.prog = true := by kernel_rfl
theorem Try.cellsB : Try.prog.cellsOf 5 = 1 := by kernel_rfl
theorem Try.cellsT : Try.prog.cellsOf 73 = 4 := by kernel_rfl
theorem Try.cellsL : Try.prog.cellsOf 24 = 1 := by kernel_rfl
theorem Try.cellsTS : Try.prog.cellsOf 22 = 1 := by kernel_rfl
theorem Try.cellsBS : Try.prog.cellsOf 65 = 1 := by kernel_rfl
theorem Try.cellsInt : Try.prog.cellsOf 3 = 1 := by kernel_rfl

theorem byte_nat {z : Int} (h : (Lit.int .u8 z).wf = true) : ((UInt8.ofNat z.toNat).toNat : Int) = z := by
  have hz : 0 ≤ z ∧ z ≤ 255 := by simpa [Lit.wf, IntKind.min, IntKind.max, IntKind.signed, IntKind.bits] using h
  rw [UInt8.toNat_ofNat']
  omega

/-- A slice of bytes. -/
theorem open_bytes {fuel : Nat} {cs : List Value} {x : DataW H × List MemPlace} (h : DataW.trod enc Try.prog W base sp held fuel 65 cs = some x) :
    ∃ A c l, cs = [.slice A (l : List UInt8).length c] ∧ l.length ≤ c ∧ c ≤ maxLen ∧ BytesIn W 0 W.heap.size A l := by
  rcases open_ints Try.underlying65 Try.underlying5 Try.cellsB h with ⟨rfl, _⟩ | ⟨a, len, cap, zs, rfl, _, hl, hm, hz, _, hcell, hwz⟩
  · exact ⟨none, 0, [], rfl, Nat.le_refl _, by unfold maxLen; omega, fun h => absurd h (by simp)⟩
  · have hlz : len ≤ zs.length := by rw [hz]; split <;> omega
    have hlen : ((zs.take len).map fun z => UInt8.ofNat z.toNat).length = len := by simp; omega
    refine ⟨some a, cap, (zs.take len).map fun z => UInt8.ofNat z.toNat, by rw [hlen], by omega, hm, fun hpos => ?_⟩
    rw [hlen] at hpos
    have h0 := hcell 0 (by omega)
    obtain ⟨b, off, spot⟩ := a
    have hspot : spot = none := by simpa [Addr.add] using World.cell?_spot h0
    subst hspot
    have hblk := World.block_lt_of_cell? W _ h0
    refine ⟨b, off, rfl, Nat.zero_le _, by simpa [Addr.add] using hblk, fun j hj => ?_⟩
    rw [hlen] at hj
    have hc := hcell j (by omega)
    rw [Addr.add_lit] at hc
    rw [hc]
    have hj' : j < zs.length := by omega
    simp only [List.getElem_map, List.getElem_take, List.getD_eq_getElem?_getD, List.getElem?_eq_getElem hj', Option.getD_some]
    rw [byte_nat (hwz _ (List.getElem_mem hj'))]

set_option maxRecDepth 100000 in
/-- The four cells of a term. -/
theorem open_termCells {fuel : Nat} {cs : List Value} {x : DataW H × List MemPlace} (h : DataW.trod enc Try.prog W base sp held fuel 73 cs = some x) :
    ∃ (t : Tm) (A : Option Addr) (c : Nat), cs = [.int .i64 t.kind, .int .i64 t.a, .int .i64 t.b, .slice A t.text.length c] ∧ t.text.length ≤ c ∧ c ≤ maxLen ∧ BytesIn W 0 W.heap.size A t.text := by
  obtain ⟨xs, n, _, _, hlen, hxs, hg⟩ := DataW.trod_struct Try.underlying73 h
  rw [Try.cellsT] at hlen
  match cs, hlen with
  | [c0, c1, c2, c3], _ =>
    match xs, hxs with
    | [y0, y1, y2, y3], _ =>
      have g0 := hg 0 _ rfl
      have g1 := hg 1 _ rfl
      have g2 := hg 2 _ rfl
      have g3 := hg 3 _ rfl
      simp [Try.cellsInt, Try.cellsBS] at g0 g1 g2 g3
      obtain ⟨k, e0, _, _⟩ := DataW.trod_int Try.underlying3 g0
      obtain ⟨a, e1, _, _⟩ := DataW.trod_int Try.underlying3 g1
      obtain ⟨b, e2, _, _⟩ := DataW.trod_int Try.underlying3 g2
      obtain ⟨A, c, l, e3, hl, hm, hb⟩ := open_bytes g3
      simp at e0 e1 e2 e3
      subst e0 e1 e2 e3
      exact ⟨⟨k, a, b, l⟩, A, c, rfl, hl, hm, hb⟩

set_option maxRecDepth 100000 in
/-- A term, by value. -/
theorem open_term {v : Value} {d : DataW H} {p : List MemPlace} (hv : Value.okWide Try.prog W .any base 73 v) (h : DataW.Trod enc Try.prog W 0 sp held 73 v d p) :
    ∃ (t : Tm) (A : Option Addr) (c : Nat), v = .agg #[.int .i64 t.kind, .int .i64 t.a, .int .i64 t.b, .slice A t.text.length c] ∧ t.text.length ≤ 9223372036854775807 ∧ BytesIn W 0 W.heap.size A t.text := by
  obtain ⟨cs, rfl, _⟩ := okWide_struct Try.underlying73 hv
  obtain ⟨fuel, hf⟩ := h
  obtain ⟨t, A, c, e, hl, hm, hb⟩ := open_termCells hf
  obtain ⟨l⟩ := cs
  simp [Value.cells] at e
  subst e
  exact ⟨t, A, c, rfl, by unfold maxLen at hm; omega, hb⟩

set_option maxRecDepth 100000 in
/-- A ledger, by value. -/
theorem open_ledger {v : Value} {d : DataW H} {p : List MemPlace} (hv : Value.okWide Try.prog W .any base 24 v) (h : DataW.Trod enc Try.prog W 0 sp held 24 v d p) :
    ∃ (A : Option Addr) (ts : List Tm) (c : Nat), v = .agg #[.slice A ts.length c] ∧ ts.length ≤ 9223372036854775807 ∧ TmsIn W 0 W.heap.size A ts := by
  obtain ⟨cs, rfl, hsz⟩ := okWide_struct Try.underlying24 hv
  obtain ⟨fuel, hf⟩ := h
  obtain ⟨xs, n, _, _, hlen, hxs, hg⟩ := DataW.trod_struct Try.underlying24 hf
  obtain ⟨l⟩ := cs
  rw [Try.cellsL] at hsz
  match l, hsz with
  | [c0], _ =>
    match xs, hxs with
    | [y0], _ =>
      have g0 := hg 0 _ rfl
      simp [Try.cellsTS, Value.cells] at g0
      rcases open_slice Try.underlying22 g0 with ⟨e, _⟩ | ⟨a, len, cap, m, n, D, Pl, e, hb, hl, hm, hmm, _, hi⟩
      · simp at e
        subst e
        exact ⟨none, [], 0, rfl, by simp, fun h => absurd h (by simp)⟩
      · simp at e
        subst e
        rw [Try.cellsT] at hi
        have hlm : len ≤ m := by rw [hmm]; split <;> omega
        obtain ⟨f, hf⟩ := choose_lt (α := Tm) (p := fun i t => ∃ (A : Option Addr) (c : Nat) (cs' : List Value), W.cells? 0 (a.add (i * 4)) 4 = some cs' ∧ cs' = [.int .i64 t.kind, .int .i64 t.a, .int .i64 t.b, .slice A t.text.length c] ∧ t.text.length ≤ c ∧ c ≤ maxLen ∧ BytesIn W 0 W.heap.size A t.text) (n := len) (fun i hil => by
          obtain ⟨cs', h1, h2⟩ := hi i (by omega)
          obtain ⟨t, A, c, e, hx⟩ := open_termCells h2
          exact ⟨t, A, c, cs', h1, e, hx⟩)
        have hlen2 : ((List.range len).map f).length = len := by simp
        refine ⟨some a, (List.range len).map f, cap, by rw [hlen2], by rw [hlen2]; unfold maxLen at hm; omega, fun hpos => ?_⟩
        rw [hlen2] at hpos
        obtain ⟨A0, c0', cs0, k1, k2, _⟩ := hf 0 hpos
        obtain ⟨_, _, kk⟩ := World.cells?_some k1
        have q0 := kk 0 (by omega)
        rw [k2] at q0
        obtain ⟨b, off, spot⟩ := a
        have hspot : spot = none := by simpa [Addr.add] using World.cell?_spot q0
        subst hspot
        have hblk := World.block_lt_of_cell? W _ q0
        refine ⟨b, off, rfl, Nat.zero_le _, by simpa [Addr.add] using hblk, fun i hi' => ?_⟩
        rw [hlen2] at hi'
        obtain ⟨A1, c1, cs1, k1, k2, k3, k4, k5⟩ := hf i hi'
        obtain ⟨_, _, kk⟩ := World.cells?_some k1
        have q0 := kk 0 (by omega)
        have q1 := kk 1 (by omega)
        have q2 := kk 2 (by omega)
        have q3 := kk 3 (by omega)
        rw [k2] at q0 q1 q2 q3
        simp only [Addr.add_lit, Nat.add_zero] at q0 q1 q2 q3
        simp only [List.getElem_map, List.getElem_range]
        exact ⟨A1, c1, q0, q1, q2, q3, k3, k4, k5⟩
end

end Go.Proofs.Ytjplmmbncjahiaa
