/-
  The model's Gains.
-/
import Derived.Test.YtigkojdchpjkcaaDedM
import Derived.Deep.RegionHeld3
import Derived.Deep.CutRange
namespace Go.Proofs.Ytigkojdchpjkcaa
open Go.RowKit Go.Maps

theorem op_mono {ts : List Tm} {h h' : Nat → Bool} (hh : ∀ j, h j = true → h' j = true) {i : Nat} (hi : Op ts h i) : Op ts h' i := by
  induction hi with
  | had h => exact .had (hh _ h)
  | pairL _ h3 ih => exact .pairL ih h3
  | pairR _ h3 ih => exact .pairR ih h3
  | sign _ h6 ih => exact .sign ih h6
  | lock _ h5 _ ih ihk => exact .lock ih h5 ihk

theorem endB_more (ts : List Tm) (hv : List Int) (id : Int) (j : Nat) (h : endB ts hv j = true) : endB ts (hv ++ [id]) j = true := by
  unfold endB at *
  rw [opB_iff] at *
  refine op_mono (fun i hi => ?_) h
  unfold haveB at *
  simp only [Bool.and_eq_true, decide_eq_true_eq, List.contains_iff_mem, List.mem_append] at *
  exact ⟨hi.1, .inl hi.2⟩

theorem pick_filter {f g : Nat → Bool} (h : ∀ j, f j = true → g j = true) (n : Nat) : pick f n = (pick g n).filter fun x => f x.toNat := by
  induction n with
  | zero => rfl
  | succ n ih =>
    unfold pick
    cases hf : f n with
    | true => rw [if_pos rfl, if_pos (h n hf), List.filter_append, ← ih]; simp [hf]
    | false =>
      simp only [Bool.false_eq_true, if_false]
      split
      · rw [List.filter_append, ← ih]; simp [hf]
      · exact ih

/-- Can one make it without the one more? -/
noncomputable def oldB (ts : List Tm) (hv : List Int) (x : Int) : Bool := cnB ts (endB ts hv) x.toNat
open Classical in
noncomputable def gainsV (ts : List Tm) (hv : List Int) (id : Int) : List Int := if lokB ts = true ∧ hv.length < 1000 then (allV ts (hv ++ [id])).filter (fun x => !oldB ts hv x) else []

theorem all_old (ts : List Tm) (hv : List Int) (id : Int) (h : lokB ts = true) (h1 : hv.length < 1000) : allV ts hv = (allV ts (hv ++ [id])).filter (oldB ts hv) := by
  have e1 : allV ts hv = pick (cnB ts (endB ts hv)) ts.length := by simp [allV, askB, h, show hv.length ≤ 1000 by omega]
  have e2 : allV ts (hv ++ [id]) = pick (cnB ts (endB ts (hv ++ [id]))) ts.length := by simp [allV, askB, h, show hv.length + 1 ≤ 1000 by omega]
  rw [e1, e2]
  exact pick_filter (fun j hj => by
    rw [cnB_iff] at *
    exact cn_mono hj (endB_more ts hv id)) ts.length

/-- Where the elder list stands, and what it holds there. -/
theorem old_next {b : List Int} {p : Int → Bool} {i : Nat} (hi : i < b.length) :
    (p b[i] = true → (b.filter p)[((b.take i).filter p).length]? = some b[i]) ∧ (p b[i] = false → (b.filter p)[((b.take i).filter p).length]? ≠ some b[i]) := by
  have e : b.filter p = (b.take i).filter p ++ (b.drop i).filter p := by rw [← List.filter_append, List.take_append_drop]
  constructor
  · intro h
    rw [e, List.getElem?_append_right (Nat.le_refl _), Nat.sub_self, List.drop_eq_getElem_cons hi, List.filter_cons, if_pos h]
    rfl
  · intro h he
    have := List.mem_of_getElem? he
    rw [List.mem_filter] at this
    rw [h] at this
    cases this.2

theorem cell_alloc_at {w : World} {p : Addr} {v : Value} (o : Obj) (h : w.cell? p = some v) : (w.alloc o).cell? p = some v :=
  (World.cell?_alloc_lt w o p (World.block_lt_of_cell? w _ h)).trans h
theorem cell_drew_at {w : World} {p : Addr} {v : Value} (h : w.cell? p = some v) : w.drew.cell? p = some v := h

section
variable {P : Program} (w : World)
theorem step_append_src {ops : Array Oper} {o : Oper} {a : Act} {K : Act → World → Prop} {Q : Exit → Act → World → Prop} {E : Prop} (hgd : o.guard = none) (s x : Operand) (t : TypeId)
    (ho : o.op = .call { callee := .builtin .append, args := #[s, x], argTypes := #[t, t] })
    (base : Nat) (e : TypeId) (i : TypeInfo) (z : Value) (size bytes : Nat) (ht : P.underlying t = some (.slice e)) (hi : P.info? e = some i) (hz : i.zero = some z)
    (hsize : i.size = size) (hby : i.bytes = bytes) (hzs : z.cells.size = size) (hsz : 0 < size)
    (v : Value) (n : Nat) (xs : List Value) (hs : a.eval s = v) (hown : w.ownsRow base e size v n xs)
    (ad : Addr) (m c : Nat) (news : List Value) (hx : a.eval x = .slice (some ad) m c) (hl : news.length = m * size) (hnews : ∀ j u, news[j]? = some u → w.cell? (ad.add j) = some u) (h1 : ∀ u ∈ news, u.oneCell' = true)
    (h63 : n + m ≤ maxLen) (hbytes : (n + m) * bytes ≤ 140737488355328) (hbase : base ≤ w.heap.size)
    (h : ∀ A cap w', w'.ownsRow base e size (.slice A (n + m) cap) (n + m) (xs ++ news) → w.grownBy w' v.ownBlock → K (a.put o.dst (.slice A (n + m) cap)) w') :
    if Region.wanted o (yielded ops a.tmps) = true then Oper.wp P o a w K Q else E := by
  have hw : Region.wanted o (yielded ops a.tmps) = true := by simp [Region.wanted, hgd]
  rw [if_pos hw]
  obtain ⟨v', w', hr, h2, h3, _⟩ := run_append_own_at (P := P) w base t o.type e i z size bytes ht hi hz hsize hby hzs hsz v n xs hown ad m c news hl hnews h1 h63 hbytes hbase
  obtain ⟨A, cap, rfl⟩ := row_shapeN h2
  unfold Oper.wp execOp
  simp only [ho, resolve, invoke, builtin, Sem.run_bind, Sem.run_pure, Result.andThen_ok, List.map_toArray, List.map_cons, List.map_nil, hs, hx, hr]
  exact h A cap w' h2 h3
end
end Go.Proofs.Ytigkojdchpjkcaa
