/-
  The law's argument, opened: a tree, as plain data.
-/
import Derived.Test.YtepkicgnhjaokaaDoorArgs2
import Derived.Test.YtepkicgnhjaokaaDoorTr
namespace Go.Proofs.YtepkicgnhjaokaaDoor
open Go.ChangeShapes Go.WideShapes Go.ChangeAt Go.RowKit Go.Deep

section
variable {H : Type} {enc : TypeId × Value → H} {W : World} {base : Nat} {sp : Nat → Bool} {held : Bool}

theorem Tryd.cellsE : Tryd.prog.cellsOf 122 = 4 := by kernel_rfl
theorem Tryd.cellsTr : Tryd.prog.cellsOf 52 = 2 := by kernel_rfl
theorem Tryd.cellsES : Tryd.prog.cellsOf 50 = 1 := by kernel_rfl
theorem Tryd.cellsIS : Tryd.prog.cellsOf 23 = 1 := by kernel_rfl

set_option maxRecDepth 100000 in
/-- A list of numbers, as cells. -/
theorem open_numCells {fuel : Nat} {cs : List Value} {x : DataW H × List MemPlace} (h : DataW.trod enc Tryd.prog W 0 sp held fuel 23 cs = some x) :
    ∃ (A : Option Addr) (l : List Int) (c : Nat), cs = [.slice A l.length c] ∧ l.length ≤ 9223372036854775807 ∧ IntsIn W 0 W.heap.size A l := by
  rcases open_ints Tryd.underlying23 Tryd.underlying3 Tryd.cellsInt h with ⟨rfl, _⟩ | ⟨a, len, cap, zs, rfl, _, hl, hm, hz, _, hcell, _⟩
  · exact ⟨none, [], 0, rfl, by simp, fun h => absurd h (by simp)⟩
  · have hlz : len ≤ zs.length := by rw [hz]; split <;> omega
    have hlen : (zs.take len).length = len := by simp; omega
    refine ⟨some a, zs.take len, cap, by rw [hlen], by rw [hlen]; unfold maxLen at hm; omega, fun hpos => ?_⟩
    rw [hlen] at hpos
    have h0 := hcell 0 (by omega)
    obtain ⟨b, off, spot⟩ := a
    have hspot : spot = none := by simpa [Addr.add] using World.cell?_spot h0
    subst hspot
    have hblk := World.block_lt_of_cell? W _ h0
    refine ⟨b, off, rfl, Nat.zero_le _, by simpa [Addr.add] using hblk, fun j hj => ?_⟩
    rw [hlen] at hj
    have hc := hcell j (by omega)
    rw [Addr.add_lit] at hc
    rw [hc]
    have hj' : j < zs.length := by omega
    simp [List.getD_eq_getElem?_getD, List.getElem?_eq_getElem hj']

set_option maxRecDepth 100000 in
/-- The four cells of an entry. -/
theorem open_enCells {fuel : Nat} {cs : List Value} {x : DataW H × List MemPlace} (h : DataW.trod enc Tryd.prog W base sp held fuel 122 cs = some x) :
    ∃ (t : En) (A : Option Addr) (c : Nat), cs = [.slice A t.name.length c, .int .i64 t.val, .int .i64 t.dev, .int .i64 t.num] ∧ t.name.length ≤ c ∧ c ≤ maxLen ∧ BytesIn W 0 W.heap.size A t.name := by
  obtain ⟨xs, n, _, _, hlen, hxs, hg⟩ := DataW.trod_struct Tryd.underlying122 h
  rw [Tryd.cellsE] at hlen
  match cs, hlen with
  | [c0, c1, c2, c3], _ =>
    match xs, hxs with
    | [y0, y1, y2, y3], _ =>
      have g0 := hg 0 _ rfl
      have g1 := hg 1 _ rfl
      have g2 := hg 2 _ rfl
      have g3 := hg 3 _ rfl
      simp [Tryd.cellsInt, Tryd.cellsBS] at g0 g1 g2 g3
      obtain ⟨A, c, l, e0, hl, hm, hb⟩ := open_bytes g0
      obtain ⟨v, e1, _, _⟩ := DataW.trod_int Tryd.underlying3 g1
      obtain ⟨d, e2, _, _⟩ := DataW.trod_int Tryd.underlying3 g2
      obtain ⟨m, e3, _, _⟩ := DataW.trod_int Tryd.underlying3 g3
      simp at e0 e1 e2 e3
      subst e0 e1 e2 e3
      exact ⟨⟨l, v, d, m⟩, A, c, rfl, hl, hm, hb⟩

set_option maxRecDepth 100000 in
/-- A list of entries, as cells. -/
theorem open_ensCells {fuel : Nat} {cs : List Value} {x : DataW H × List MemPlace} (h : DataW.trod enc Tryd.prog W 0 sp held fuel 50 cs = some x) :
    ∃ (A : Option Addr) (es : List En) (c : Nat), cs = [.slice A es.length c] ∧ es.length ≤ 9223372036854775807 ∧ (∀ i (hi : i < es.length), es[i].name.length ≤ 9223372036854775807) ∧ EnsIn W 0 W.heap.size A es := by
  rcases open_slice Tryd.underlying50 h with ⟨e, _⟩ | ⟨a, len, cap, m, n, D, Pl, e, hb, hl, hm, hmm, _, hi⟩
  · subst e
    exact ⟨none, [], 0, rfl, by simp, fun i hi => absurd hi (by simp), fun h => absurd h (by simp)⟩
  · subst e
    rw [Tryd.cellsE] at hi
    have hlm : len ≤ m := by rw [hmm]; split <;> omega
    obtain ⟨f, hf⟩ := choose_lt (α := En) (p := fun i t => ∃ (A : Option Addr) (c : Nat) (cs' : List Value), W.cells? 0 (a.add (i * 4)) 4 = some cs' ∧ cs' = [.slice A t.name.length c, .int .i64 t.val, .int .i64 t.dev, .int .i64 t.num] ∧ t.name.length ≤ c ∧ c ≤ maxLen ∧ BytesIn W 0 W.heap.size A t.name) (n := len) (fun i hil => by
      obtain ⟨cs', h1, h2⟩ := hi i (by omega)
      obtain ⟨t, A, c, e, hx⟩ := open_enCells h2
      exact ⟨t, A, c, cs', h1, e, hx⟩)
    have hlen2 : ((List.range len).map f).length = len := by simp
    refine ⟨some a, (List.range len).map f, cap, by rw [hlen2], by rw [hlen2]; unfold maxLen at hm; omega, fun i hi' => ?_, fun hpos => ?_⟩
    · rw [hlen2] at hi'
      obtain ⟨A1, c1, cs1, k1, k2, k3, k4, k5⟩ := hf i hi'
      simp only [List.getElem_map, List.getElem_range]
      unfold maxLen at k4
      omega
    rw [hlen2] at hpos
    obtain ⟨A0, c0', cs0, k1, k2, _⟩ := hf 0 hpos
    obtain ⟨_, _, kk⟩ := World.cells?_some k1
    have q0 := kk 0 (by omega)
    rw [k2] at q0
    obtain ⟨b, off, spot⟩ := a
    have hspot : spot = none := by simpa [Addr.add] using World.cell?_spot q0
    subst hspot
    have hblk := World.block_lt_of_cell? W _ q0
    refine ⟨b, off, rfl, Nat.zero_le _, by simpa [Addr.add] using hblk, fun i hi' => ?_⟩
    rw [hlen2] at hi'
    obtain ⟨A1, c1, cs1, k1, k2, k3, k4, k5⟩ := hf i hi'
    obtain ⟨_, _, kk⟩ := World.cells?_some k1
    have q0 := kk 0 (by omega)
    have q1 := kk 1 (by omega)
    have q2 := kk 2 (by omega)
    have q3 := kk 3 (by omega)
    rw [k2] at q0 q1 q2 q3
    simp only [Addr.add_lit, Nat.add_zero] at q0 q1 q2 q3
    simp only [List.getElem_map, List.getElem_range]
    exact ⟨A1, c1, q0, q1, q2, q3, k5⟩

set_option maxRecDepth 100000 in
/-- A tree, by value. -/
theorem open_tree {v : Value} {d : DataW H} {p : List MemPlace} (hv : Value.okWide Tryd.prog W .any base 52 v) (h : DataW.Trod enc Tryd.prog W 0 sp held 52 v d p) :
    ∃ (AV : Option Addr) (vec : List Int) (cv : Nat) (A : Option Addr) (es : List En) (c : Nat), v = .agg #[.slice AV vec.length cv, .slice A es.length c] ∧ vec.length ≤ 9223372036854775807 ∧ es.length ≤ 9223372036854775807 ∧ (∀ i (hi : i < es.length), es[i].name.length ≤ 9223372036854775807) ∧ IntsIn W 0 W.heap.size AV vec ∧ EnsIn W 0 W.heap.size A es := by
  obtain ⟨cs, rfl, hsz⟩ := okWide_struct Tryd.underlying52 hv
  obtain ⟨fuel, hf⟩ := h
  obtain ⟨xs, n, _, _, hlen, hxs, hg⟩ := DataW.trod_struct Tryd.underlying52 hf
  obtain ⟨l⟩ := cs
  rw [Tryd.cellsTr] at hsz
  match l, hsz with
  | [c0, c1], _ =>
    match xs, hxs with
    | [y0, y1], _ =>
      have g0 := hg 0 _ rfl
      have g1 := hg 1 _ rfl
      simp [Tryd.cellsIS, Tryd.cellsES, Value.cells] at g0 g1
      obtain ⟨AV, vec, cv, e0, hvl, hvi⟩ := open_numCells g0
      obtain ⟨A, es, c, e1, hel, hnl, hei⟩ := open_ensCells g1
      simp at e0 e1
      subst e0 e1
      exact ⟨AV, vec, cv, A, es, c, rfl, hvl, hel, hnl, hvi, hei⟩
end

end Go.Proofs.YtepkicgnhjaokaaDoor
