/-
  The law's arguments, opened: a term, a ledger, as plain data.
-/
import Derived.Test.YtkmoihkpaccbdaaDoorRows
import Derived.Test.YtkmoihkpaccbdaaDoorMem
import Derived.ProofKit
import Derived.SizedLaws
import Derived.Deep.Slices
import Derived.Deep.Fields
namespace Go.Proofs.YtkmoihkpaccbdaaDoor
open Go.ChangeShapes Go.WideShapes Go.ChangeAt Go.RowKit Go.Deep

section
variable {H : Type} {enc : TypeId × Value → H} {W : World} {base : Nat} {sp : Nat → Bool} {held : Bool}

theorem Tryd.laidOut : laidOutB Tryd.prog = true := by kernel_rfl
theorem Tryd.cellsB : Tryd.prog.cellsOf 5 = 1 := by kernel_rfl
theorem Tryd.cellsT : Tryd.prog.cellsOf 102 = 4 := by kernel_rfl
theorem Tryd.cellsL : Tryd.prog.cellsOf 37 = 1 := by kernel_rfl
theorem Tryd.cellsTS : Tryd.prog.cellsOf 35 = 1 := by kernel_rfl
theorem Tryd.cellsBS : Tryd.prog.cellsOf 22 = 1 := by kernel_rfl
theorem Tryd.cellsInt : Tryd.prog.cellsOf 3 = 1 := by kernel_rfl

theorem byte_nat {z : Int} (h : (Lit.int .u8 z).wf = true) : ((UInt8.ofNat z.toNat).toNat : Int) = z := by
  have hz : 0 ≤ z ∧ z ≤ 255 := by simpa [Lit.wf, IntKind.min, IntKind.max, IntKind.signed, IntKind.bits] using h
  rw [UInt8.toNat_ofNat']
  omega

/-- A slice of bytes. -/
theorem open_bytes {fuel : Nat} {cs : List Value} {x : DataW H × List MemPlace} (h : DataW.trod enc Tryd.prog W base sp held fuel 22 cs = some x) :
    ∃ A c l, cs = [.slice A (l : List UInt8).length c] ∧ l.length ≤ c ∧ c ≤ maxLen ∧ BytesIn W 0 W.heap.size A l := by
  rcases open_ints Tryd.underlying22 Tryd.underlying5 Tryd.cellsB h with ⟨rfl, _⟩ | ⟨a, len, cap, zs, rfl, _, hl, hm, hz, _, hcell, hwz⟩
  · exact ⟨none, 0, [], rfl, Nat.le_refl _, by unfold maxLen; omega, fun h => absurd h (by simp)⟩
  · have hlz : len ≤ zs.length := by rw [hz]; split <;> omega
    have hlen : ((zs.take len).map fun z => UInt8.ofNat z.toNat).length = len := by simp; omega
    refine ⟨some a, cap, (zs.take len).map fun z => UInt8.ofNat z.toNat, by rw [hlen], by omega, hm, fun hpos => ?_⟩
    rw [hlen] at hpos
    have h0 := hcell 0 (by omega)
    obtain ⟨b, off, spot⟩ := a
    have hspot : spot = none := by simpa [Addr.add] using World.cell?_spot h0
    subst hspot
    have hblk := World.block_lt_of_cell? W _ h0
    refine ⟨b, off, rfl, Nat.zero_le _, by simpa [Addr.add] using hblk, fun j hj => ?_⟩
    rw [hlen] at hj
    have hc := hcell j (by omega)
    rw [Addr.add_lit] at hc
    rw [hc]
    have hj' : j < zs.length := by omega
    simp only [List.getElem_map, List.getElem_take, List.getD_eq_getElem?_getD, List.getElem?_eq_getElem hj', Option.getD_some]
    rw [byte_nat (hwz _ (List.getElem_mem hj'))]

set_option maxRecDepth 100000 in
/-- The four cells of a term. -/
theorem open_termCells {fuel : Nat} {cs : List Value} {x : DataW H × List MemPlace} (h : DataW.trod enc Tryd.prog W base sp held fuel 102 cs = some x) :
    ∃ (t : Tm) (A : Option Addr) (c : Nat), cs = [.int .i64 t.kind, .int .i64 t.a, .int .i64 t.b, .slice A t.text.length c] ∧ t.text.length ≤ c ∧ c ≤ maxLen ∧ BytesIn W 0 W.heap.size A t.text := by
  obtain ⟨xs, n, _, _, hlen, hxs, hg⟩ := DataW.trod_struct Tryd.underlying102 h
  rw [Tryd.cellsT] at hlen
  match cs, hlen with
  | [c0, c1, c2, c3], _ =>
    match xs, hxs with
    | [y0, y1, y2, y3], _ =>
      have g0 := hg 0 _ rfl
      have g1 := hg 1 _ rfl
      have g2 := hg 2 _ rfl
      have g3 := hg 3 _ rfl
      simp [Tryd.cellsInt, Tryd.cellsBS] at g0 g1 g2 g3
      obtain ⟨k, e0, _, _⟩ := DataW.trod_int Tryd.underlying3 g0
      obtain ⟨a, e1, _, _⟩ := DataW.trod_int Tryd.underlying3 g1
      obtain ⟨b, e2, _, _⟩ := DataW.trod_int Tryd.underlying3 g2
      obtain ⟨A, c, l, e3, hl, hm, hb⟩ := open_bytes g3
      simp at e0 e1 e2 e3
      subst e0 e1 e2 e3
      exact ⟨⟨k, a, b, l⟩, A, c, rfl, hl, hm, hb⟩

set_option maxRecDepth 100000 in
/-- A term, by value. -/
theorem open_term {v : Value} {d : DataW H} {p : List MemPlace} (hv : Value.okWide Tryd.prog W .any base 102 v) (h : DataW.Trod enc Tryd.prog W 0 sp held 102 v d p) :
    ∃ (t : Tm) (A : Option Addr) (c : Nat), v = .agg #[.int .i64 t.kind, .int .i64 t.a, .int .i64 t.b, .slice A t.text.length c] ∧ t.text.length ≤ 9223372036854775807 ∧ BytesIn W 0 W.heap.size A t.text := by
  obtain ⟨cs, rfl, _⟩ := okWide_struct Tryd.underlying102 hv
  obtain ⟨fuel, hf⟩ := h
  obtain ⟨t, A, c, e, hl, hm, hb⟩ := open_termCells hf
  obtain ⟨l⟩ := cs
  simp [Value.cells] at e
  subst e
  exact ⟨t, A, c, rfl, by unfold maxLen at hm; omega, hb⟩

set_option maxRecDepth 100000 in
/-- A ledger, by value. -/
theorem open_ledger {v : Value} {d : DataW H} {p : List MemPlace} (hv : Value.okWide Tryd.prog W .any base 37 v) (h : DataW.Trod enc Tryd.prog W 0 sp held 37 v d p) :
    ∃ (A : Option Addr) (ts : List Tm) (c : Nat), v = .agg #[.slice A ts.length c] ∧ ts.length ≤ 9223372036854775807 ∧ TmsIn W 0 W.heap.size A ts := by
  obtain ⟨cs, rfl, hsz⟩ := okWide_struct Tryd.underlying37 hv
  obtain ⟨fuel, hf⟩ := h
  obtain ⟨xs, n, _, _, hlen, hxs, hg⟩ := DataW.trod_struct Tryd.underlying37 hf
  obtain ⟨l⟩ := cs
  rw [Tryd.cellsL] at hsz
  match l, hsz with
  | [c0], _ =>
    match xs, hxs with
    | [y0], _ =>
      have g0 := hg 0 _ rfl
      simp [Tryd.cellsTS, Value.cells] at g0
      rcases open_slice Tryd.underlying35 g0 with ⟨e, _⟩ | ⟨a, len, cap, m, n, D, Pl, e, hb, hl, hm, hmm, _, hi⟩
      · simp at e
        subst e
        exact ⟨none, [], 0, rfl, by simp, fun h => absurd h (by simp)⟩
      · simp at e
        subst e
        rw [Tryd.cellsT] at hi
        have hlm : len ≤ m := by rw [hmm]; split <;> omega
        obtain ⟨f, hf⟩ := choose_lt (α := Tm) (p := fun i t => ∃ (A : Option Addr) (c : Nat) (cs' : List Value), W.cells? 0 (a.add (i * 4)) 4 = some cs' ∧ cs' = [.int .i64 t.kind, .int .i64 t.a, .int .i64 t.b, .slice A t.text.length c] ∧ t.text.length ≤ c ∧ c ≤ maxLen ∧ BytesIn W 0 W.heap.size A t.text) (n := len) (fun i hil => by
          obtain ⟨cs', h1, h2⟩ := hi i (by omega)
          obtain ⟨t, A, c, e, hx⟩ := open_termCells h2
          exact ⟨t, A, c, cs', h1, e, hx⟩)
        have hlen2 : ((List.range len).map f).length = len := by simp
        refine ⟨some a, (List.range len).map f, cap, by rw [hlen2], by rw [hlen2]; unfold maxLen at hm; omega, fun hpos => ?_⟩
        rw [hlen2] at hpos
        obtain ⟨A0, c0', cs0, k1, k2, _⟩ := hf 0 hpos
        obtain ⟨_, _, kk⟩ := World.cells?_some k1
        have q0 := kk 0 (by omega)
        rw [k2] at q0
        obtain ⟨b, off, spot⟩ := a
        have hspot : spot = none := by simpa [Addr.add] using World.cell?_spot q0
        subst hspot
        have hblk := World.block_lt_of_cell? W _ q0
        refine ⟨b, off, rfl, Nat.zero_le _, by simpa [Addr.add] using hblk, fun i hi' => ?_⟩
        rw [hlen2] at hi'
        obtain ⟨A1, c1, cs1, k1, k2, k3, k4, k5⟩ := hf i hi'
        obtain ⟨_, _, kk⟩ := World.cells?_some k1
        have q0 := kk 0 (by omega)
        have q1 := kk 1 (by omega)
        have q2 := kk 2 (by omega)
        have q3 := kk 3 (by omega)
        rw [k2] at q0 q1 q2 q3
        simp only [Addr.add_lit, Nat.add_zero] at q0 q1 q2 q3
        simp only [List.getElem_map, List.getElem_range]
        exact ⟨A1, c1, q0, q1, q2, q3, k3, k4, k5⟩
end

end Go.Proofs.YtkmoihkpaccbdaaDoor
