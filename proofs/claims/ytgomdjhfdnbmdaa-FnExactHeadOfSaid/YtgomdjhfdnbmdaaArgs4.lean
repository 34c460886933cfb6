/-
  The law's argument, opened: a manifest, as plain data.
-/
import Derived.Test.YtgomdjhfdnbmdaaArgs3
namespace Go.Proofs.Ytgomdjhfdnbmdaa
open Go.ChangeShapes Go.WideShapes Go.ChangeAt Go.RowKit Go.Deep

section
variable {H : Type} {enc : TypeId × Value → H} {W : World} {base : Nat} {sp : Nat → Bool} {held : Bool}

theorem Try.cellsMan : Try.prog.cellsOf 77 = 6 := by kernel_rfl

set_option maxRecDepth 100000 in
/-- The two cells of a tree. -/
theorem open_trCells {fuel : Nat} {cs : List Value} {x : DataW H × List MemPlace} (h : DataW.trod enc Try.prog W 0 sp held fuel 25 cs = some x) :
    ∃ (AV : Option Addr) (vec : List Int) (cv : Nat) (A : Option Addr) (es : List En) (c : Nat), cs = [.slice AV vec.length cv, .slice A es.length c] ∧ vec.length ≤ 9223372036854775807 ∧ es.length ≤ 9223372036854775807 ∧ (∀ i (hi : i < es.length), es[i].name.length ≤ 9223372036854775807) ∧ IntsIn W 0 W.heap.size AV vec ∧ EnsIn W 0 W.heap.size A es := by
  obtain ⟨xs, n, _, _, hlen, hxs, hg⟩ := DataW.trod_struct Try.underlying25 h
  rw [Try.cellsTr] at hlen
  match cs, hlen with
  | [c0, c1], _ =>
    match xs, hxs with
    | [y0, y1], _ =>
      have g0 := hg 0 _ rfl
      have g1 := hg 1 _ rfl
      simp [Try.cellsIS, Try.cellsES] at g0 g1
      obtain ⟨AV, vec, cv, e0, hvl, hvi⟩ := open_numCells g0
      obtain ⟨A, es, c, e1, hel, hnl, hei⟩ := open_ensCells g1
      simp at e0 e1
      subst e0 e1
      exact ⟨AV, vec, cv, A, es, c, rfl, hvl, hel, hnl, hvi, hei⟩

set_option maxRecDepth 100000 in
/-- A manifest, by value. -/
theorem open_man {v : Value} {d : DataW H} {p : List MemPlace} (hv : Value.okWide Try.prog W .any base 77 v) (h : DataW.Trod enc Try.prog W 0 sp held 77 v d p) :
    ∃ (au sq pv : Int) (AV : Option Addr) (vec : List Int) (cv : Nat) (A : Option Addr) (es : List En) (c : Nat) (sg : Int), v = .agg #[.int .i64 au, .int .i64 sq, .int .i64 pv, .slice AV vec.length cv, .slice A es.length c, .int .i64 sg] ∧ vec.length ≤ 9223372036854775807 ∧ es.length ≤ 9223372036854775807 ∧ (∀ i (hi : i < es.length), es[i].name.length ≤ 9223372036854775807) ∧ IntsIn W 0 W.heap.size AV vec ∧ EnsIn W 0 W.heap.size A es := by
  obtain ⟨cs, rfl, hsz⟩ := okWide_struct Try.underlying77 hv
  obtain ⟨fuel, hf⟩ := h
  obtain ⟨xs, n, _, _, hlen, hxs, hg⟩ := DataW.trod_struct Try.underlying77 hf
  obtain ⟨l⟩ := cs
  rw [Try.cellsMan] at hsz
  match l, hsz with
  | [c0, c1, c2, c3, c4, c5], _ =>
    match xs, hxs with
    | [y0, y1, y2, y3, y4], _ =>
      have g0 := hg 0 _ rfl
      have g1 := hg 1 _ rfl
      have g2 := hg 2 _ rfl
      have g3 := hg 3 _ rfl
      have g4 := hg 4 _ rfl
      simp [Try.cellsInt, Try.cellsTr, Value.cells] at g0 g1 g2 g3 g4
      obtain ⟨au, e0, _, _⟩ := DataW.trod_int Try.underlying3 g0
      obtain ⟨sq, e1, _, _⟩ := DataW.trod_int Try.underlying3 g1
      obtain ⟨pv, e2, _, _⟩ := DataW.trod_int Try.underlying3 g2
      obtain ⟨AV, vec, cv, A, es, c, e3, hvl, hel, hnl, hvi, hei⟩ := open_trCells g3
      obtain ⟨sg, e4, _, _⟩ := DataW.trod_int Try.underlying3 g4
      simp at e0 e1 e2 e3 e4
      obtain ⟨e3, e3'⟩ := e3
      subst e0 e1 e2 e3 e3' e4
      exact ⟨au, sq, pv, AV, vec, cv, A, es, c, sg, rfl, hvl, hel, hnl, hvi, hei⟩
end

end Go.Proofs.Ytgomdjhfdnbmdaa
