/-
  append onto a row of bytes, at a step of a region that draws its order; what stays as long as such a region runs.
-/
import Derived.Test.YtepkicgnhjaokaaDoorTxtM
import Derived.Test.YtepkicgnhjaokaaDoorTxtI
import Derived.Deep.RegionHeld3
import Derived.Deep.CutRange
namespace Go.Proofs.YtepkicgnhjaokaaDoor
open Go.RowKit Go.Maps

theorem step_append_byt {P : Program} {w : World} {ops : Array Oper} {o : Oper} {a : Act} {K : Act → World → Prop} {Q : Exit → Act → World → Prop} {E : Prop} (hgd : o.guard = none) (s x : Operand) (t tx : TypeId)
    (ho : o.op = .call { callee := .builtin .append, args := #[s, x], argTypes := #[t, tx] })
    (B : Nat) (e : TypeId) (i : TypeInfo) (ht : P.underlying t = some (.slice e)) (hi : P.info? e = some i) (hz : i.zero = some (.int .u8 0)) (hsize : i.size = 1) (hby : i.bytes = 1)
    (v : Value) (n : Nat) (xs : List Value) (hv : a.eval s = v) (hown : Byt w B e v n xs) (y : Value) (m : Nat) (news : List Value) (hx : a.eval x = y) (hs : Src P 1 tx y m news w) (hlim : n + m ≤ 140737488355328) (hB : B ≤ w.heap.size)
    (h : ∀ v' w', Byt w' B e v' (n + m) (xs ++ news) → w.grownBy w' v.ownBlock → K (a.put o.dst v') w') :
    if Region.wanted o (yielded ops a.tmps) = true then Oper.wp P o a w K Q else E := by
  have hw : Region.wanted o (yielded ops a.tmps) = true := by simp [Region.wanted, hgd]
  rw [if_pos hw]
  obtain ⟨v', w', hr, h2, h3⟩ := run_append_byt (P := P) w B t tx o.type e i ht hi hz hsize hby v n xs hown y m news hs hlim hB
  unfold Oper.wp execOp
  simp only [ho, resolve, invoke, builtin, Sem.run_bind, Sem.run_pure, Result.andThen_ok, List.map_toArray, List.map_cons, List.map_nil, hv, hx, hr]
  exact h v' w' h2 h3

/-- A blank in a row of its own. -/
def SpIn (W : World) (q : Nat) : Prop := W.cell? ⟨q, 0, none⟩ = some (.int .u8 32)
theorem SpIn.fresh {W : World} {q : Nat} (h : W.heap.size = q) : SpIn (W.alloc (.cells #[.int .u8 32] 5)) q := by
  subst h
  simp [SpIn]
theorem SpIn.drew {W : World} {q : Nat} (h : SpIn W q) : SpIn W.drew q := h
theorem SpIn.alloc {W : World} {q : Nat} (h : SpIn W q) (o : Obj) : SpIn (W.alloc o) q := (World.cell?_alloc_lt _ _ _ (World.block_lt_of_cell? W _ h)).trans h
theorem SpIn.below {W W' : World} {q : Nat} (h : SpIn W q) (hb : Below W.heap.size W W') : SpIn W' q := (hb.cell (World.block_lt_of_cell? W _ h)).trans h
theorem SpIn.src {W : World} {q : Nat} (h : SpIn W q) : Src Tryd.prog 1 22 (.slice (some ⟨q, 0, none⟩) 1 1) 1 [.int .u8 32] W :=
  Src.ofSlice _ Tryd.underlying22 ⟨q, 0, none⟩ 1 1 _ rfl (fun j u hj => by match j, hj with | 0, hj => simp at hj; subst hj; simpa [Addr.add, SpIn] using h) (fun u hu => by simp at hu; subst hu; rfl)

/-- Digits in a row. -/
structure Dg (g c : Nat) (l : List UInt8) (W : World) : Prop where
  cells : ∀ j u, (Lib.byteCells l)[j]? = some u → W.cell? ((⟨g, 0, none⟩ : Addr).add j) = some u
  lt : g < W.heap.size
theorem add_block (g j : Nat) : (((⟨g, 0, none⟩ : Addr).add j)).block = g := by rw [Addr.add_lit]
section
variable {g c : Nat} {l : List UInt8} {W W' : World}
theorem Dg.drew (h : Dg g c l W) : Dg g c l W.drew := ⟨h.cells, h.lt⟩
theorem Dg.alloc (h : Dg g c l W) (o : Obj) : Dg g c l (W.alloc o) := ⟨fun j u hj => (World.cell?_alloc_lt _ _ _ (by rw [add_block]; exact h.lt)).trans (h.cells j u hj), by have := h.lt; simp; omega⟩
theorem Dg.grown {row : Option Nat} (h : Dg g c l W) (hg : W.grownBy W' row) (hne : row ≠ some g) : Dg g c l W' :=
  ⟨fun j u hj => (World.cell?_of_block (hg.block _ (by rw [add_block]; exact h.lt) (by rw [add_block]; exact fun e => hne e.symm))).trans (h.cells j u hj), by have := h.lt; have := hg.size; omega⟩
theorem Dg.src (h : Dg g c l W) : Src Tryd.prog 1 22 (.slice (some ⟨g, 0, none⟩) l.length c) l.length (Lib.byteCells l) W :=
  Src.ofSlice _ Tryd.underlying22 ⟨g, 0, none⟩ l.length c _ (by rw [Lib.byteCells_length, Nat.mul_one]) h.cells (fun u hu => by simp only [Lib.byteCells, List.mem_map] at hu; obtain ⟨b, _, rfl⟩ := hu; rfl)
end

/-- What stays: the term's box at b, the row behind it, all that was there. -/
structure Yx (w : World) (b : Nat) (v0 v1 v2 v3 : Value) (rv : Value) (n : Nat) (xs : List Value) (W : World) : Prop where
  t0 : W.cell? ⟨b, 0, none⟩ = some v0
  t1 : W.cell? ⟨b, 1, none⟩ = some v1
  t2 : W.cell? ⟨b, 2, none⟩ = some v2
  t3 : W.cell? ⟨b, 3, none⟩ = some v3
  row : Byt W (b + 1) 5 rv n xs
  bel : Below w.heap.size w W
  hb : w.heap.size ≤ b

section
variable {w W W' : World} {b : Nat} {v0 v1 v2 v3 rv : Value} {n : Nat} {xs : List Value}
theorem Yx.lt (h : Yx w b v0 v1 v2 v3 rv n xs W) : b < W.heap.size := World.block_lt_of_cell? W _ h.t0
theorem Yx.le (h : Yx w b v0 v1 v2 v3 rv n xs W) : b + 1 ≤ W.heap.size := h.lt
theorem Yx.drew (h : Yx w b v0 v1 v2 v3 rv n xs W) : Yx w b v0 v1 v2 v3 rv n xs W.drew := ⟨h.t0, h.t1, h.t2, h.t3, h.row.drew, h.bel.drew, h.hb⟩
theorem Yx.below (h : Yx w b v0 v1 v2 v3 rv n xs W) (hb : Below W.heap.size W W') : Yx w b v0 v1 v2 v3 rv n xs W' :=
  ⟨(hb.cell (p := ⟨b, 0, none⟩) h.lt).trans h.t0, (hb.cell (p := ⟨b, 1, none⟩) h.lt).trans h.t1, (hb.cell (p := ⟨b, 2, none⟩) h.lt).trans h.t2, (hb.cell (p := ⟨b, 3, none⟩) h.lt).trans h.t3, h.row.same hb.block, h.bel.trans (hb.mono h.bel.size), h.hb⟩
theorem Yx.alloc (h : Yx w b v0 v1 v2 v3 rv n xs W) (o : Obj) : Yx w b v0 v1 v2 v3 rv n xs (W.alloc o) := h.below ((Below.refl _ _).alloc (Nat.le_refl _) o)
theorem Yx.put (h : Yx w b v0 v1 v2 v3 rv n xs W) {rv' : Value} {n' : Nat} {xs' : List Value} (hr : Byt W' (b + 1) 5 rv' n' xs') (hg : W.grownBy W' rv.ownBlock) : Yx w b v0 v1 v2 v3 rv' n' xs' W' := by
  have hlt := h.lt
  have hbne : some b ≠ rv.ownBlock := fun e => by have := (h.row.lt b e.symm).1; omega
  have hc : ∀ j, W'.cell? ⟨b, j, none⟩ = W.cell? ⟨b, j, none⟩ := fun j => World.cell?_of_block (hg.block b hlt hbne)
  exact ⟨(hc 0).trans h.t0, (hc 1).trans h.t1, (hc 2).trans h.t2, (hc 3).trans h.t3, hr, h.bel.grown hg (by have := h.bel.size; omega) (fun k hk => by have := (h.row.lt k hk).1; have := h.hb; omega), h.hb⟩
theorem Yx.ne (h : Yx w b v0 v1 v2 v3 rv n xs W) {g : Nat} (hg : W.heap.size ≤ g) : rv.ownBlock ≠ some g := fun e => by have := (h.row.lt g e).2; omega
end

/-- l1digits, as a row to read from. -/
theorem l1digits_dg (x : Nat) (hx : x < 9223372036854775808) (W : World) : Calls Tryd.prog 59 #[.int .i64 (x : Int)] W fun e W' => ∃ g c, e = .returned (.slice (some ⟨g, 0, none⟩) (Lib.decDigits x).length c) ∧ Dg g c (Lib.decDigits x) W' ∧ W.heap.size ≤ g ∧ Below W.heap.size W W' :=
  (l1digits_any x hx W).mono fun e W' h => by
    obtain ⟨v, rfl, hby, hbel⟩ := h
    obtain ⟨g, c, rfl, _, _, hB, hlt, hc⟩ := hby.cells
    exact ⟨g, c, rfl, ⟨hc, hlt⟩, hB, hbel⟩

end Go.Proofs.YtepkicgnhjaokaaDoor
