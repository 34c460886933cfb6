/-
  The law's argument, opened: a device, as plain data.
-/
import Derived.Test.YtgomdjhfdnbmdaaArgs4
import Derived.Test.YtgomdjhfdnbmdaaMn
namespace Go.Proofs.Ytgomdjhfdnbmdaa
open Go.ChangeShapes Go.WideShapes Go.ChangeAt Go.RowKit Go.Deep

section
variable {H : Type} {enc : TypeId × Value → H} {W : World} {base : Nat} {sp : Nat → Bool} {held : Bool}

theorem Try.cellsMS : Try.prog.cellsOf 26 = 1 := by kernel_rfl
theorem Try.cellsBool : Try.prog.cellsOf 4 = 1 := by kernel_rfl
theorem Try.cellsDev : Try.prog.cellsOf 28 = 6 := by kernel_rfl

/-- The six cells of a manifest, and what they lead to. -/
def MnCells (W : World) (cs : List Value) (m : Mn) : Prop :=
  ∃ AV cv A c, cs = [.int .i64 m.au, .int .i64 m.sq, .int .i64 m.pv, .slice AV m.vec.length cv, .slice A m.es.length c, .int .i64 m.sg] ∧ m.vec.length ≤ 9223372036854775807 ∧ m.es.length ≤ 9223372036854775807 ∧ (∀ i (hi : i < m.es.length), m.es[i].name.length ≤ 9223372036854775807) ∧ IntsIn W 0 W.heap.size AV m.vec ∧ EnsIn W 0 W.heap.size A m.es

set_option maxRecDepth 100000 in
theorem open_manCells {fuel : Nat} {cs : List Value} {x : DataW H × List MemPlace} (h : DataW.trod enc Try.prog W 0 sp held fuel 77 cs = some x) : ∃ m, MnCells W cs m := by
  obtain ⟨xs, n, _, _, hlen, hxs, hg⟩ := DataW.trod_struct Try.underlying77 h
  rw [Try.cellsMan] at hlen
  match cs, hlen with
  | [c0, c1, c2, c3, c4, c5], _ =>
    match xs, hxs with
    | [y0, y1, y2, y3, y4], _ =>
      have g0 := hg 0 _ rfl
      have g1 := hg 1 _ rfl
      have g2 := hg 2 _ rfl
      have g3 := hg 3 _ rfl
      have g4 := hg 4 _ rfl
      simp [Try.cellsInt, Try.cellsTr] at g0 g1 g2 g3 g4
      obtain ⟨au, e0, _, _⟩ := DataW.trod_int Try.underlying3 g0
      obtain ⟨sq, e1, _, _⟩ := DataW.trod_int Try.underlying3 g1
      obtain ⟨pv, e2, _, _⟩ := DataW.trod_int Try.underlying3 g2
      obtain ⟨AV, vec, cv, A, es, c, e3, hvl, hel, hnl, hvi, hei⟩ := open_trCells g3
      obtain ⟨sg, e4, _, _⟩ := DataW.trod_int Try.underlying3 g4
      simp at e0 e1 e2 e3 e4
      obtain ⟨e3, e3'⟩ := e3
      subst e0 e1 e2 e3 e3' e4
      exact ⟨⟨au, sq, pv, vec, es, sg⟩, AV, cv, A, c, rfl, hvl, hel, hnl, hvi, hei⟩

set_option maxRecDepth 100000 in
/-- A list of manifests, as cells. -/
theorem open_mnsCells {fuel : Nat} {cs : List Value} {x : DataW H × List MemPlace} (h : DataW.trod enc Try.prog W 0 sp held fuel 26 cs = some x) :
    ∃ (A : Option Addr) (ms : List Mn) (c : Nat), cs = [.slice A ms.length c] ∧ ms.length ≤ 9223372036854775807 ∧ MnsSz ms ∧ MnsIn W 0 W.heap.size A ms := by
  rcases open_slice Try.underlying26 h with ⟨e, _⟩ | ⟨a, len, cap, m, n, D, Pl, e, hb, hl, hm, hmm, _, hi⟩
  · subst e
    exact ⟨none, [], 0, rfl, by simp, fun i hi => absurd hi (by simp), fun h => absurd h (by simp)⟩
  · subst e
    rw [Try.cellsMan] at hi
    have hlm : len ≤ m := by rw [hmm]; split <;> omega
    obtain ⟨f, hf⟩ := choose_lt (α := Mn) (p := fun i t => ∃ (cs' : List Value), W.cells? 0 (a.add (i * 6)) 6 = some cs' ∧ MnCells W cs' t) (n := len) (fun i hil => by
      obtain ⟨cs', h1, h2⟩ := hi i (by omega)
      obtain ⟨t, hx⟩ := open_manCells h2
      exact ⟨t, cs', h1, hx⟩)
    have hlen2 : ((List.range len).map f).length = len := by simp
    refine ⟨some a, (List.range len).map f, cap, by rw [hlen2], by rw [hlen2]; unfold maxLen at hm; omega, fun i hi' => ?_, fun hpos => ?_⟩
    · rw [hlen2] at hi'
      obtain ⟨cs1, k1, AV, cv, A1, c1, k2, k3, k4, k5, k6, k7⟩ := hf i hi'
      simp only [List.getElem_map, List.getElem_range]
      exact ⟨k3, k4, k5⟩
    rw [hlen2] at hpos
    obtain ⟨cs0, k1, _, _, _, _, k2, _⟩ := hf 0 hpos
    obtain ⟨_, _, kk⟩ := World.cells?_some k1
    have q0 := kk 0 (by omega)
    rw [k2] at q0
    obtain ⟨b, off, spot⟩ := a
    have hspot : spot = none := by simpa [Addr.add] using World.cell?_spot q0
    subst hspot
    have hblk := World.block_lt_of_cell? W _ q0
    refine ⟨b, off, rfl, Nat.zero_le _, by simpa [Addr.add] using hblk, fun i hi' => ?_⟩
    rw [hlen2] at hi'
    obtain ⟨cs1, k1, AV, cv, A1, c1, k2, k3, k4, k5, k6, k7⟩ := hf i hi'
    obtain ⟨_, _, kk⟩ := World.cells?_some k1
    have q0 := kk 0 (by omega)
    have q1 := kk 1 (by omega)
    have q2 := kk 2 (by omega)
    have q3 := kk 3 (by omega)
    have q4 := kk 4 (by omega)
    have q5 := kk 5 (by omega)
    rw [k2] at q0 q1 q2 q3 q4 q5
    simp only [Addr.add_lit, Nat.add_zero] at q0 q1 q2 q3 q4 q5
    simp only [List.getElem_map, List.getElem_range]
    exact ⟨AV, cv, A1, c1, q0, q1, q2, q3, q4, q5, k6, k7⟩

set_option maxRecDepth 100000 in
/-- A device, by value. -/
theorem open_dev {v : Value} {d : DataW H} {p : List MemPlace} (hv : Value.okWide Try.prog W .any base 28 v) (h : DataW.Trod enc Try.prog W 0 sp held 28 v d p) :
    ∃ (id : Int) (AV : Option Addr) (vec : List Int) (cv : Nat) (A : Option Addr) (es : List En) (c : Nat) (AH : Option Addr) (hs : List Mn) (ch : Nat) (al : Bool) (AP : Option Addr) (ps : List Mn) (cp : Nat), v = .agg #[.int .i64 id, .slice AV vec.length cv, .slice A es.length c, .slice AH hs.length ch, .bool al, .slice AP ps.length cp] ∧ vec.length ≤ 9223372036854775807 ∧ es.length ≤ 9223372036854775807 ∧ (∀ i (hi : i < es.length), es[i].name.length ≤ 9223372036854775807) ∧ hs.length ≤ 9223372036854775807 ∧ MnsSz hs ∧ ps.length ≤ 9223372036854775807 ∧ MnsSz ps ∧ IntsIn W 0 W.heap.size AV vec ∧ EnsIn W 0 W.heap.size A es ∧ MnsIn W 0 W.heap.size AH hs ∧ MnsIn W 0 W.heap.size AP ps := by
  obtain ⟨cs, rfl, hsz⟩ := okWide_struct Try.underlying28 hv
  obtain ⟨fuel, hf⟩ := h
  obtain ⟨xs, n, _, _, hlen, hxs, hg⟩ := DataW.trod_struct Try.underlying28 hf
  obtain ⟨l⟩ := cs
  rw [Try.cellsDev] at hsz
  match l, hsz with
  | [c0, c1, c2, c3, c4, c5], _ =>
    match xs, hxs with
    | [y0, y1, y2, y3, y4], _ =>
      have g0 := hg 0 _ rfl
      have g1 := hg 1 _ rfl
      have g2 := hg 2 _ rfl
      have g3 := hg 3 _ rfl
      have g4 := hg 4 _ rfl
      simp [Try.cellsInt, Try.cellsTr, Try.cellsMS, Try.cellsBool, Value.cells] at g0 g1 g2 g3 g4
      obtain ⟨id, e0, _, _⟩ := DataW.trod_int Try.underlying3 g0
      obtain ⟨AV, vec, cv, A, es, c, e1, hvl, hel, hnl, hvi, hei⟩ := open_trCells g1
      obtain ⟨AH, hs, ch, e2, hhl, hhn, hhi⟩ := open_mnsCells g2
      obtain ⟨al, e3, _⟩ := DataW.trod_bool Try.underlying4 g3
      obtain ⟨AP, ps, cp, e4, hpl, hpn, hpi⟩ := open_mnsCells g4
      simp at e0 e1 e2 e3 e4
      obtain ⟨e1, e1'⟩ := e1
      subst e0 e1 e1' e2 e3 e4
      exact ⟨id, AV, vec, cv, A, es, c, AH, hs, ch, al, AP, ps, cp, rfl, hvl, hel, hnl, hhl, hhn, hpl, hpn, hvi, hei, hhi, hpi⟩
end

end Go.Proofs.Ytgomdjhfdnbmdaa
