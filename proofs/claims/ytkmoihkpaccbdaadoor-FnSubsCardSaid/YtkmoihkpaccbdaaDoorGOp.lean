/-
  Several texts in one: Oo, Om, Oc, Of.
-/
import Derived.Test.YtkmoihkpaccbdaaDoorGSq
namespace Go.Proofs.YtkmoihkpaccbdaaDoor
open Go.RowKit Go.Maps Go.Shelf
attribute [local go_sem] Oper.semAt_some

/-- What one has to begin with. -/
theorem had_list {n : Nat} (hv : List Int) (x : Int) : x ∈ addAll [] (hv.filter fun y => hasB n y) ↔ ∃ j : Nat, j < n ∧ x = (j : Int) ∧ haveB n hv j = true := by
  rw [mem_addAll]
  simp only [List.not_mem_nil, false_or, List.mem_filter, hasB, haveB, Bool.and_eq_true, decide_eq_true_eq, List.contains_iff_mem]
  constructor
  · rintro ⟨h1, h2, h3⟩
    exact ⟨x.toNat, by omega, by omega, by omega, by rw [show ((x.toNat : Nat) : Int) = x by omega]; exact h1⟩
  · rintro ⟨j, h1, rfl, _, h2⟩
    exact ⟨h2, by omega, by omega⟩

theorem addAll_app (us es fs : List Int) : addAll us (es ++ fs) = addAll (addAll us es) fs := by simp [addAll, List.foldl_append]

/-- What stays: the book in its box, the set's pointer in its box. -/
structure Fx (w : World) (A : Option Addr) (n c : Nat) (Mb : Option Nat) (W : World) : Prop where
  b0 : W.cell? ⟨w.heap.size, 0, none⟩ = some (.slice A n c)
  b1 : W.cell? ⟨w.heap.size, 1, none⟩ = some (.map Mb)
  bh : W.cell? ⟨w.heap.size + 1 + 2, 0, none⟩ = some (.pointer (some ⟨w.heap.size + 1 + 1, 0, none⟩))
  sz : w.heap.size + 4 ≤ W.heap.size
  bel : Below w.heap.size w W
theorem Fx.off {w W W' : World} {A : Option Addr} {n c : Nat} {Mb : Option Nat} (h : Fx w A n c Mb W) {T : Nat → Prop} (hb : Off T W W') (hT : ∀ i, T i → i = w.heap.size + 1 ∨ i = w.heap.size + 2 ∨ w.heap.size + 4 ≤ i) : Fx w A n c Mb W' :=
  have hs := h.sz
  ⟨(hb.cell (p := ⟨w.heap.size, 0, none⟩) (by show w.heap.size < _; omega) (fun h' => by have := hT _ h'; simp only at this; omega)).trans h.b0,
   (hb.cell (p := ⟨w.heap.size, 1, none⟩) (by show w.heap.size < _; omega) (fun h' => by have := hT _ h'; simp only at this; omega)).trans h.b1,
   (hb.cell (p := ⟨w.heap.size + 1 + 2, 0, none⟩) (by show w.heap.size + 1 + 2 < _; omega) (fun h' => by have := hT _ h'; simp only at this; omega)).trans h.bh,
   by have := hb.size; omega, h.bel.trans (hb.low (by omega) fun i hi => by have := hT i hi; omega)⟩
theorem Fx.below {w W W' : World} {A : Option Addr} {n c : Nat} {Mb : Option Nat} (h : Fx w A n c Mb W) (hb : Below W.heap.size W W') : Fx w A n c Mb W' := h.off (T := fun _ => False) (.of_below hb) fun _ h => h.elim
theorem Fx.add {w W W' : World} {A : Option Addr} {n c : Nat} {Mb : Option Nat} (h : Fx w A n c Mb W) {us : List Int} {v : Value} (hs : NumSet W (w.heap.size + 1) (w.heap.size + 4) us v) (hb : Off (Own2 (w.heap.size + 1) v) W W') : Fx w A n c Mb W' := h.off hb fun i hi => by
  rcases hi with rfl | rfl | hi
  · omega
  · omega
  · have := (hs.row.lt _ hi).1
    omega

theorem off_grown {w w' : World} {row : Option Nat} (hg : w.grownBy w' row) : Off (fun i => row = some i) w w' :=
  ⟨hg.os, hg.tape, hg.output, hg.size, fun i hi hT => hg.block i hi fun e => hT e.symm⟩

/-- Between two rounds: K the block of what waits, its box and the iterator's behind it. -/
structure Rn (w : World) (A : Option Addr) (ts : List Tm) (c : Nat) (Mb : Option Nat) (h : Nat → Bool) (K k : Nat) (ms : List Int) (W : World) (v : Value) (G : Int → List Int) (D : DataW Unit) (cnt : Nat) : Prop where
  fx : Fx w A ts.length c Mb W
  set : NumSet W (w.heap.size + 1) (w.heap.size + 4) ms v
  opn : Opn ts h k ms G
  grp : W.ownsGroups (H := Unit) Tryd.prog 3 (K + 3) 3 .i64 K cnt D
  gs : Gs D G
  shun : W.Shuns K (fun g => v.ownBlock = some g)
  cnt : cnt ≤ k
  row : ∀ g, v.ownBlock = some g → g < K ∨ K + 3 ≤ g
  bw : W.cell? ⟨K + 1, 0, none⟩ = some (.map (some K))
  bn : W.cell? ⟨K + 1 + 1, 0, none⟩ = some (.pointer (some ⟨w.heap.size + 1 + 1, 0, none⟩))
  ksz : K + 3 ≤ W.heap.size
  kge : w.heap.size + 4 ≤ K

def Rnd (w : World) (A : Option Addr) (ts : List Tm) (c : Nat) (Mb : Option Nat) (h : Nat → Bool) (K k : Nat) (ms : List Int) (W : World) : Prop := ∃ v G D cnt, Rn w A ts c Mb h K k ms W v G D cnt

section
variable {w W W' : World} {A : Option Addr} {ts : List Tm} {c : Nat} {Mb : Option Nat} {h : Nat → Bool} {K k : Nat} {ms : List Int} {v : Value} {G : Int → List Int} {D : DataW Unit} {cnt : Nat}
theorem Rn.off (r : Rn w A ts c Mb h K k ms W v G D cnt) {T : Nat → Prop} (hb : Off T W W') (hT : ∀ i, T i → K + 3 ≤ i) (hv : ∀ g, v.ownBlock = some g → ¬ T g) (hg : W.Shuns K T) : Rn w A ts c Mb h K k ms W' v G D cnt :=
  have h1 := r.kge
  have h2 := r.ksz
  have nT : ∀ i, i < K + 3 → ¬ T i := fun i hi h' => by have := hT i h'; omega
  ⟨r.fx.off hb fun i hi => by have := hT i hi; omega, r.set.off hb (nT _ (by omega)) (nT _ (by omega)) hv, r.opn, groups_off r.grp hb (nT _ (by omega)) hg, r.gs, shuns_off r.shun hb (by omega) (nT _ (by omega)), r.cnt, r.row,
   (hb.cell (p := ⟨K + 1, 0, none⟩) (by show K + 1 < _; omega) (nT _ (by show K + 1 < _; omega))).trans r.bw, (hb.cell (p := ⟨K + 1 + 1, 0, none⟩) (by show K + 1 + 1 < _; omega) (nT _ (by show K + 1 + 1 < _; omega))).trans r.bn, by have := hb.size; omega, h1⟩
theorem Rn.below (r : Rn w A ts c Mb h K k ms W v G D cnt) (hb : Below W.heap.size W W') : Rn w A ts c Mb h K k ms W' v G D cnt :=
  r.off (T := fun _ => False) (.of_below hb) (fun _ h => h.elim) (fun _ _ h => h) (fun _ _ _ _ _ _ _ h => h)
/-- The set has grown. -/
theorem Rn.add (r : Rn w A ts c Mb h K k ms W v G D cnt) {ms' : List Int} {v' : Value} {k' : Nat} (hs : NumSet W' (w.heap.size + 1) (w.heap.size + 4) ms' v') (hloc : v'.ownBlock = v.ownBlock ∨ ∃ g, v'.ownBlock = some g ∧ W.heap.size ≤ g) (hb : Off (Own2 (w.heap.size + 1) v) W W')
    (ho : Opn ts h k' ms' G) (hk : k ≤ k') : Rn w A ts c Mb h K k' ms' W' v' G D cnt := by
  have h1 := r.kge
  have h2 := r.ksz
  have nT : ∀ i, K ≤ i → i < K + 3 → ¬ Own2 (w.heap.size + 1) v i := fun i h3 h4 h' => by
    rcases h' with h' | h' | h'
    · omega
    · omega
    · have := r.row i h'
      omega
  have hlow : W.Shuns K (Own2 (w.heap.size + 1) v) := shuns_sub (shuns_or (groups_low r.grp) r.shun) fun g hg => by
    rcases hg with hg | hg | hg
    · exact .inl (by omega)
    · exact .inl (by omega)
    · exact .inr hg
  refine ⟨r.fx.add r.set hb, hs, ho, groups_off r.grp hb (nT _ (by omega) (by omega)) hlow, r.gs, shuns_off (r.shun.reno r.grp fun g hg => ?_) hb (by omega) (nT _ (by omega) (by omega)), Nat.le_trans r.cnt hk, fun g hg => ?_,
   (hb.cell (p := ⟨K + 1, 0, none⟩) (by show K + 1 < _; omega) (nT _ (by show K ≤ K + 1; omega) (by show K + 1 < _; omega))).trans r.bw, (hb.cell (p := ⟨K + 1 + 1, 0, none⟩) (by show K + 1 + 1 < _; omega) (nT _ (by show K ≤ K + 1 + 1; omega) (by show K + 1 + 1 < _; omega))).trans r.bn, by have := hb.size; omega, h1⟩
  · rcases hloc with h' | ⟨g', h', hg'⟩
    · exact .inl (h' ▸ hg)
    · rw [h'] at hg; cases hg; exact .inr hg'
  · rcases hloc with h' | ⟨g', h', hg'⟩
    · exact r.row g (h' ▸ hg)
    · rw [h'] at hg; cases hg; omega
theorem Rn.own (r : Rn w A ts c Mb h K k ms W v G D cnt) {row : Option Nat} (hg : W.grownBy W' row) (hr : ∀ j, row = some j → K + 3 ≤ j ∧ ∃ o : Obj, W.heap[j]? = some o ∧ o.isCells = false) : Rn w A ts c Mb h K k ms W' v G D cnt := by
  refine r.off (off_grown hg) (fun i hi => (hr i hi).1) (fun g hv hT => ?_) (fun es clock hm x hx g hv hT => ?_)
  · obtain ⟨_, o, ho, hc⟩ := hr g hT
    rcases r.set.row.2 with ⟨h1, _⟩ | ⟨g', cap, cur, h1, _, hh, _⟩
    · rw [h1] at hv; cases hv
    · rw [h1] at hv
      cases hv
      rw [hh] at ho; cases ho; cases hc
  · obtain ⟨_, o, ho, hc⟩ := hr g hT
    obtain ⟨es', clock', hm', F, _⟩ := r.grp
    obtain ⟨rfl, rfl⟩ : es' = es ∧ clock' = clock := by rw [hm'] at hm; simpa using hm
    obtain ⟨y, hy⟩ := F.reads x hx
    obtain ⟨z, hz, _⟩ := Go.WideElems.rd_val hy
    obtain ⟨zs, hoi, _⟩ := rowElem_inv hz
    rcases hoi.1.2 with ⟨h1, _⟩ | ⟨g', cap, cur, h1, _, hh, _⟩
    · rw [h1] at hv; cases hv
    · rw [h1] at hv
      cases hv
      rw [hh] at ho; cases ho; cases hc
/-- What is no cells, and new since the loop began, has not turned where the set alone has. -/
theorem NumSet.keeps {M R0 : Nat} {us : List Int} (hs : NumSet W M R0 us v) (hb : Off (Own2 M v) W W') {B : Nat} (hB : M + 2 ≤ B) : KeepsFrom B W W' :=
  ⟨hb.size, fun i o hi ho hc => (hb.block i (Array.getElem?_eq_some_iff.1 ho).1 (fun h' => by
    rcases h' with h' | h' | h'
    · omega
    · omega
    · rcases hs.row.2 with ⟨h1, _⟩ | ⟨g', cap, cur, h1, _, hh, _⟩
      · rw [h1] at h'; cases h'
      · rw [h1] at h'
        cases h'
        rw [hh] at ho; cases ho; cases hc)).trans ho⟩
theorem keeps_below {B : Nat} (hb : Below W.heap.size W W') : KeepsFrom B W W' := ⟨hb.size, fun i _ _ ho _ => (hb.block i (Array.getElem?_eq_some_iff.1 ho).1).trans ho⟩

theorem Rn.low (r : Rn w A ts c Mb h K k ms W v G D cnt) : W.Shuns K (Own2 (w.heap.size + 1) v) := shuns_sub (shuns_or (groups_low r.grp) r.shun) fun g hg => by
  have h1 := r.kge
  rcases hg with hg | hg | hg
  · exact .inl (by omega)
  · exact .inl (by omega)
  · exact .inr hg
theorem zeroInts (w : World) : (zeroValue 28).run Tryd.prog w = .ok (.slice none 0 0) w := by kernel_rfl

/-- What waits by a key, as it is found. -/
theorem Rn.look (r : Rn w A ts c Mb h K k ms W v G D cnt) (x : Int) (hx : 0 ≤ x ∧ x < ts.length) (hlen : ts.length ≤ 400) :
    ∃ Ae ce, (∀ W' : World, W'.heap[K]? = W.heap[K]? → (Instr.lookup 127 (.map (some K)) (.int .i64 x) false).run Tryd.prog W' = .ok (.slice Ae (G x).length ce) W') ∧ W.ownsInts (K + 3) 3 .i64 (.slice Ae (G x).length ce) (G x) ∧ (G x).length ≤ cnt ∧
      W.groupBack Tryd.prog 127 3 (K + 3) 3 .i64 K cnt D (.int .i64 x) (klI x) (.slice Ae (G x).length ce) ∧ (∀ g, (Value.slice Ae (G x).length ce).ownBlock = some g → ¬ Own2 (w.heap.size + 1) v g) ∧ ∀ b o, Ae = some ⟨b, o, none⟩ → (Value.slice Ae (G x).length ce).ownBlock = some b := by
  have hml := r.opn.length
  have hkl := r.opn.kle
  have hcnt := r.cnt
  obtain ⟨u, zs, hrun, hat, hoi, hzl, hback, hsh⟩ := groups_look r.grp Tryd.keyedI Tryd.underlying127 zeroInts (by unfold maxLen; omega) (keyOf_I (wfI_of hx.1 (by omega)))
  obtain rfl := r.gs.at hat hoi
  obtain ⟨Ae, ce, rfl⟩ := row_shape hoi.1
  refine ⟨Ae, ce, hrun, hoi, hzl, hback, fun g hg => hsh _ r.low g hg, fun b o e => ?_⟩
  subst e
  rcases hoi.1.2 with ⟨h1, _⟩ | ⟨g, cap, cur, h1, _⟩
  · injection h1 with h2 _ _
    cases h2
  · injection h1 with h2 _ _
    cases h2
    rfl

/-- A round that adds to the set. -/
theorem add_round {W2 : World} (r : Rn w A ts c Mb h K k ms W v G D cnt) (hb : Below W.heap.size W W2) (Ae : Option Addr) (es : List Int) (ce : Nat) (hA : IntsIn W2 0 W2.heap.size Ae es) (hoff : ∀ b o, Ae = some ⟨b, o, none⟩ → ¬ Own2 (w.heap.size + 1) v b) (hes : ∀ y ∈ es, 0 ≤ y ∧ y < ts.length) (hlen : ts.length ≤ 400) (hel : es.length ≤ 10000) (ho : Opn ts h (k + 1) (addAll ms es) G) :
    Calls Tryd.prog 63 #[.pointer (some ⟨w.heap.size + 1 + 1, 0, none⟩), .slice Ae es.length ce] W2 fun e w' => e = .returned (.tuple #[]) ∧ KeepsFrom (K + 3) W w' ∧ Rnd w A ts c Mb h K (k + 1) (addAll ms es) w' := by
  have r2 := r.below hb
  have hml := r.opn.length
  have h1 := r2.kge
  have h2 := r2.ksz
  refine (addI_any (w.heap.size + 1) (w.heap.size + 4) ms v Ae es ce W2 r2.set (fun y hy => ?_) (fun y hy => ?_) hA hoff (by omega) (by omega)).mono ?_
  · have := r.opn.rng y hy
    exact wfI_of this.1 (by omega)
  · have := hes y hy
    exact wfI_of this.1 (by omega)
  · rintro e w' ⟨rfl, v', hset, hloc, hof⟩
    exact ⟨rfl, (keeps_below hb).trans (r2.set.keeps hof (by omega)), v', G, D, cnt, r2.add hset hloc hof ho (Nat.le_succ k)⟩

/-- Numbers in a block that is new. -/
theorem ints_new {W2 : World} {g : Nat} {es : List Int} (hg : g < W2.heap.size) (hc : ∀ j (hj : j < es.length), W2.cell? ⟨g, 0 + j, none⟩ = some (.int .i64 es[j])) : IntsIn W2 0 W2.heap.size (some ⟨g, 0, none⟩) es := fun _ => ⟨g, 0, rfl, Nat.zero_le _, hg, hc⟩
theorem Rn.fresh (r : Rn w A ts c Mb h K k ms W v G D cnt) {g : Nat} (hg : W.heap.size ≤ g) : ∀ b o, (some ⟨g, 0, none⟩ : Option Addr) = some ⟨b, o, none⟩ → ¬ Own2 (w.heap.size + 1) v b := by
  intro b o e h'
  cases e
  have h1 := r.kge
  have h2 := r.ksz
  rcases h' with h' | h' | h'
  · omega
  · omega
  · have := (r.set.row.lt _ h').2
    omega
/-- A round in which something is to wait. -/
theorem wait_round {w3 : World} (r : Rn w A ts c Mb h K k ms W v G D cnt) (hb3 : Below W.heap.size W w3) (x b : Int) (hx : 0 ≤ x ∧ x < ts.length) (hb : 0 ≤ b ∧ b < ts.length) (hlen : ts.length ≤ 400) (ho : Opn ts h (k + 1) ms (fun y => if y = x then G x ++ [b] else G y)) :
    ∃ vg v2 w5 w6, (∀ W' : World, W'.heap[K]? = w3.heap[K]? → (Instr.lookup 127 (.map (some K)) (.int .i64 x) false).run Tryd.prog W' = .ok vg W') ∧
      (Builtin.append_ #[28, 28] 28 #[vg, .slice (some ⟨w3.heap.size, 0, none⟩) 1 1]).run Tryd.prog (w3.drew.alloc (.cells #[.int .i64 b] 3)) = .ok v2 w5 ∧
      (Instr.mapUpdate 127 (.map (some K)) (.int .i64 x) v2).run Tryd.prog w5 = .ok () w6 ∧
      (∀ p : Addr, p.block < w3.heap.size → (p.block < K + 3 ∨ W.heap.size ≤ p.block) → w5.cell? p = w3.cell? p) ∧ KeepsFrom (K + 3) W w6 ∧ Rnd w A ts c Mb h K (k + 1) ms w6 := by
  have h1 := r.kge
  have h2 := r.ksz
  have hz3 := hb3.size
  obtain ⟨Ae, ce, hrun, hoi, hzl, hback, hno, _⟩ := r.look x hx hlen
  have hcnt := r.cnt
  have hkl := r.opn.kle
  have hml := r.opn.length
  obtain ⟨i0, hi, hz0, hz1', hz2'⟩ := info_parts Tryd.infoInt
  have hrow3 : (w3.drew.alloc (.cells #[.int .i64 b] 3)).ownsRow (K + 3) 3 1 (.slice Ae (G x).length ce) (G x).length ((G x).map (Value.int .i64)) := (ownsRow_below hoi.1 hb3 fun g hg => (hoi.1.lt g hg).2).drew.alloc _
  obtain ⟨v2, w5, happ, hown5, hgr5, _, hloc5⟩ := run_append_own_at (P := Tryd.prog) (w3.drew.alloc (.cells #[.int .i64 b] 3)) (K + 3) 28 28 3 i0 (.int .i64 0) 1 8 Tryd.underlying28 hi hz0 hz1' hz2' rfl (by decide) _ _ _ hrow3 ⟨w3.heap.size, 0, none⟩ 1 1 [.int .i64 b] rfl (cell_one_new _ _ _) (by simp [Value.oneCell']) (by unfold maxLen; omega) (by omega) (by simp; omega)
  have hoi5 := hoi.appended hown5 (wfI_of hb.1 (by omega))
  have hgr3 : w3.grownBy w5 (Value.slice Ae (G x).length ce).ownBlock := (⟨rfl, rfl, rfl, Nat.le_refl _, fun _ _ _ => rfl⟩ : w3.grownBy w3.drew (Value.slice Ae (G x).length ce).ownBlock).trans ((World.grownBy_alloc _ _ _).trans hgr5)
  have hgr : W.grownBy w5 (Value.slice Ae (G x).length ce).ownBlock := (⟨hb3.os, hb3.tape, hb3.output, hb3.size, fun i hi _ => hb3.block i hi⟩ : W.grownBy w3 (Value.slice Ae (G x).length ce).ownBlock).trans hgr3
  have hloc : v2.ownBlock = (Value.slice Ae (G x).length ce).ownBlock ∨ ∃ g, v2.ownBlock = some g ∧ W.heap.size ≤ g := hloc5.imp id fun h' => ⟨_, h', by simp; omega⟩
  obtain ⟨w6, hupd, hgrp6, hgr6⟩ := hback w5 v2 (G x ++ [b]) hgr hoi5 (by simp; omega) hloc
  have hown : ∀ g, (Value.slice Ae (G x).length ce).ownBlock = some g → K + 3 ≤ g ∧ g < W.heap.size := fun g hg => hoi.1.lt g hg
  have hoff : Off (fun i => i = K ∨ (Value.slice Ae (G x).length ce).ownBlock = some i) W w6 := ((off_grown hgr).wider fun i _ h' => .inr h').grown hgr6 fun j e _ => by cases e; exact .inl rfl
  have hm5 : w5.heap[K]? = W.heap[K]? := hgr.block K (by omega) fun e => by have := hown _ e.symm; omega
  have hv : ∀ g, v.ownBlock = some g → ¬ (g = K ∨ (Value.slice Ae (G x).length ce).ownBlock = some g) := fun g hg h' => by
    rcases h' with h' | h'
    · have := r.row g hg
      omega
    · exact hno g h' (.inr (.inr hg))
  have nT : ∀ i, i < K + 3 → i ≠ K → ¬ (i = K ∨ (Value.slice Ae (G x).length ce).ownBlock = some i) := fun i hi hne h' => by
    rcases h' with h' | h'
    · omega
    · have := hown i h'
      omega
  refine ⟨_, v2, w5, w6, fun W' hW' => hrun W' (hW'.trans (hb3.block K (by omega))), happ, hupd, fun p hp hpk => ?_, ⟨hoff.size, fun i o hi ho hc => (hoff.block i (Array.getElem?_eq_some_iff.1 ho).1 fun h' => ?_).trans ho⟩, v, (fun y => if y = x then G x ++ [b] else G y), D.put (klI x) (rowDatum .i64 v2 (G x ++ [b])), cnt + 1, ?_⟩
  · refine World.cell?_of_block (hgr3.block p.block hp fun e => ?_)
    have := hown _ e.symm
    omega
  · rcases h' with h' | h'
    · omega
    · rcases hoi.1.2 with ⟨h3, _⟩ | ⟨g, cap, cur, h3, _, hh, _⟩
      · rw [h3] at h'; cases h'
      · rw [h3] at h'
        cases h'
        rw [hh] at ho; cases ho; cases hc
  · refine ⟨r.fx.off hoff fun i h' => ?_, r.set.off hoff (nT _ (by omega) (by omega)) (nT _ (by omega) (by omega)) hv, ho, hgrp6, r.gs.put x hoi5, ?_, by omega, r.row,
      (hoff.cell (p := ⟨K + 1, 0, none⟩) (by show K + 1 < _; omega) (nT _ (by show K + 1 < _; omega) (by show K + 1 ≠ K; omega))).trans r.bw, (hoff.cell (p := ⟨K + 1 + 1, 0, none⟩) (by show K + 1 + 1 < _; omega) (nT _ (by show K + 1 + 1 < _; omega) (by show K + 1 + 1 ≠ K; omega))).trans r.bn, by have := hoff.size; omega, h1⟩
    · rcases h' with h' | h'
      · omega
      · have := hown i h'
        omega
    · refine shuns_stored r.grp Tryd.keyedI Tryd.underlying127 (by unfold maxLen; omega) (keyOf_I (wfI_of hx.1 (by omega))) r.shun hm5 (fun g hg hvg => ?_) hupd
      have hvlt := (r.set.row.lt _ hvg).2
      rcases hloc with h' | ⟨g', h', hg'⟩
      · exact hno g (h' ▸ hg) (.inr (.inr hvg))
      · rw [h'] at hg
        cases hg
        omega
end

set_option maxRecDepth 100000 in
set_option maxHeartbeats 2000000 in
theorem opened_any (A : Option Addr) (ts : List Tm) (c L B : Nat) (Mb : Option Nat) (A2 : Option Addr) (hv : List Int) (c2 : Nat) (w : World) (hok : LOk ts) (hA : BkIn w L B A ts) (hB : B ≤ w.heap.size) (hA2 : IntsIn w 0 w.heap.size A2 hv) (hn2 : hv.length ≤ 1048576) :
    Calls Tryd.prog 61 #[.agg #[.slice A ts.length c, .map Mb], .slice A2 hv.length c2] w fun e w' => ∃ M v ms, e = .returned (.pointer (some ⟨M + 1, 0, none⟩)) ∧ w.heap.size ≤ M ∧ NumSet w' M (M + 3) ms v ∧ M + 3 ≤ w'.heap.size ∧ ms.Nodup ∧ (∀ x, x ∈ ms ↔ ∃ j : Nat, j < ts.length ∧ x = (j : Int) ∧ opB ts (haveB ts.length hv) j = true) ∧ Below w.heap.size w w' := by
  have HOk := Lib.hid hok
  have HA := Lib.hid hA
  have HA2 := Lib.hid hA2
  clear hok hA hA2
  have hlen : ts.length ≤ 400 := HOk.out.1
  have hmm := @run_makeMap Tryd.prog
  refine (callsIn_wide (n := 9)).1 ?_
  refine callsIn_of_wp_marks Tryd.func61 rfl trivial ?_ rfl
  simp only [Tryd.ntmps61, List.size_toArray, List.length_cons, List.length_nil, Nat.reduceAdd, Nat.reduceSub, Array.replicate_succ, Array.replicate_zero, List.push_toArray, List.append_toArray, List.nil_append, List.cons_append]
  gi_wp2_with (refine ⟨trivial, ?_⟩; gi_at_call 71; refine (callsIn_wide.2 (newSetI_any _)).mono ?_; rintro e w1 ⟨rfl, hset, hz1, hb1⟩)
  have hz1' : w1.heap.size = w.heap.size + 3 := by rw [hz1]; simp
  have HSet := Lib.hid (show NumSet w1 (w.heap.size + 1) (w.heap.size + 4) [] (.slice none 0 0) from by have h := hset (w.heap.size + 4) (by simp); simpa using h)
  have x0 : w1.cell? ⟨w.heap.size, 0, none⟩ = some (.slice A ts.length c) := (hb1.cell (p := ⟨w.heap.size, 0, none⟩) (by simp)).trans (by simp)
  have x1 : w1.cell? ⟨w.heap.size, 1, none⟩ = some (.map Mb) := (hb1.cell (p := ⟨w.heap.size, 1, none⟩) (by simp)).trans (by simp)
  have HB1 := Lib.hid (show Below w.heap.size w w1 from ((Below.refl _ _).alloc (Nat.le_refl _) _).trans (hb1.mono (by simp)))
  clear hset hz1 hb1
  gi_wp2
  obtain ⟨W0, hW0⟩ : ∃ x, x = w1.alloc (.cells #[.pointer (some ⟨w.heap.size + 1 + 1, 0, none⟩)] 98) := ⟨_, rfl⟩
  have HFx0 := Lib.hid (show Fx w A ts.length c Mb W0 from by
    rw [hW0]
    exact ⟨cellN_alloc _ x0, cellN_alloc _ x1, by rw [show w.heap.size + 1 + 2 = w1.heap.size by omega]; simp, by simp; omega, HB1.out.alloc (by omega) _⟩)
  have HSet0 := Lib.hid (show NumSet W0 (w.heap.size + 1) (w.heap.size + 4) [] (.slice none 0 0) from by rw [hW0]; exact HSet.out.below ((Below.refl _ _).alloc (Nat.le_refl _) _))
  rw [← hW0]
  clear hW0 x0 x1 HB1 HSet hz1'
  gi_loopw [17] (fun i wr => ∃ (k : Nat) (v : Value), k ≤ hv.length ∧ i = .int .i64 k ∧ NumSet wr (w.heap.size + 1) (w.heap.size + 4) (addAll [] ((hv.take k).filter fun y => hasB ts.length y)) v ∧ Fx w A ts.length c Mb wr) (fun i _ => hv.length - (intOf i).toNat)
  case atStart => exact ⟨0, _, Nat.zero_le _, rfl, HSet0.out, HFx0.out⟩
  case round =>
    clear HSet0 HFx0
    obtain ⟨k, v, hk, rfl, hset, hfx⟩ := hrel
    have HSet := Lib.hid hset
    have HFx := Lib.hid hfx
    clear hset hfx
    have hszr := HFx.out.sz
    by_cases hlt : k < hv.length
    · obtain ⟨g, o, rfl, _, hg, hc⟩ := HA2.out (by omega)
      have c0 := (HFx.out.bel.cell (p := ⟨g, o + k, none⟩) hg).trans (hc k hlt)
      have y0 := HFx.out.b0
      have y1 := HFx.out.b1
      have HTake := Lib.hid (show hv.take (k + 1) = hv.take k ++ [hv[k]] from List.take_succ_eq_append_getElem hlt)
      obtain ⟨x, hx⟩ : ∃ x, x = hv[k] := ⟨_, rfl⟩
      rw [← hx] at c0 HTake
      clear hc hx
      have hcall := fun W => has_any A ts.length c Mb x W
      cases hh : hasB ts.length x with
      | false =>
        rw [hh] at hcall
        have HHas := Lib.hid hh
        clear hh
        gi_wp2_with (refine ⟨trivial, ?_⟩; gi_at_call 21; refine (callsIn_wide.2 (hcall _)).mono ?_; rintro e w2 ⟨rfl, hb2⟩)
        go_roundw
        case rel => exact ⟨k + 1, v, by omega, by go_num, by rw [HTake.out, List.filter_append]; simpa [HHas.out] using HSet.out.below hb2, HFx.out.below hb2⟩
        case measure => simp [intOf]; omega
      | true =>
        rw [hh] at hcall
        have HHas := Lib.hid hh
        clear hh
        gi_wp2_with (refine ⟨trivial, ?_⟩; gi_at_call 21; refine (callsIn_wide.2 (hcall _)).mono ?_; rintro e w2 ⟨rfl, hb2⟩; have z0 := (HFx.out.below hb2).bh)
        have HFx2 := Lib.hid (HFx.out.below hb2)
        have HSet2 := Lib.hid (HSet.out.below hb2)
        have hz2 := hb2.size
        clear hb2 z0
        obtain ⟨W2, hW2⟩ : ∃ W, W = w2.alloc (.cells #[.int .i64 x] 3) := ⟨_, rfl⟩
        have hbW : Below w2.heap.size w2 W2 := by rw [hW2]; exact (Below.refl _ _).alloc (Nat.le_refl _) _
        have hzW : W2.heap.size = w2.heap.size + 1 := by rw [hW2]; simp
        have hxW : W2.cell? ⟨w2.heap.size, 0, none⟩ = some (.int .i64 x) := by rw [hW2]; simp
        rw [← hW2]
        have hxb : 0 ≤ x ∧ x < ts.length := by have := HHas.out; simpa [hasB] using this
        have hlt2 := HSet2.out.lt
        have hul : (addAll [] ((hv.take k).filter fun y => hasB ts.length y)).length ≤ k := by
          have h1 := addAll_length [] ((hv.take k).filter fun y => hasB ts.length y)
          have h2 := List.length_filter_le (fun y => hasB ts.length y) (hv.take k)
          simp at h1 h2
          omega
        have hus : ∀ y ∈ addAll [] ((hv.take k).filter fun y => hasB ts.length y), WfI y := fun y hy => by
          rcases mem_addAll.1 hy with h | h
          · simp at h
          · have := (List.mem_filter.1 h).2
            simp [hasB] at this
            exact wfI_of this.1 (by omega)
        refine ⟨trivial, (callsIn_wide.2 (addI_any (w.heap.size + 1) (w.heap.size + 4) _ v (some ⟨w2.heap.size, 0, none⟩) [x] 1 W2 (HSet2.out.below hbW) hus (fun y hy => ?_) (fun _ => ⟨w2.heap.size, 0, rfl, Nat.zero_le _, by omega, fun j hj => ?_⟩) (fun b o e => ?_) (by omega) (by simp; omega))).mono ?_⟩
        · simp at hy
          subst hy
          exact wfI_of hxb.1 (by omega)
        · have hj0 : j = 0 := by simpa using hj
          subst hj0
          exact hxW
        · cases e
          rintro (h | h | h)
          · omega
          · omega
          · have := (HSet2.out.row.lt _ h).2
            omega
        · rintro e w3 ⟨rfl, v3, hset3, _, hoff3⟩
          have HR := Lib.hid (show addAll [] ((hv.take (k + 1)).filter fun y => hasB ts.length y) = addAll (addAll [] ((hv.take k).filter fun y => hasB ts.length y)) [x] by
            rw [HTake.out, List.filter_append, addAll_app]
            simp [HHas.out])
          have HSet3 := Lib.hid hset3
          have HFx3 := Lib.hid ((HFx2.out.below hbW).add (HSet2.out.below hbW) hoff3)
          clear hset3 hoff3 hbW hW2 hxW hus
          gi_wp2
          go_roundw
          case rel => exact ⟨k + 1, v3, by omega, by go_num, by rw [HR.out]; exact HSet3.out, HFx3.out⟩
          case measure => simp [intOf]; omega
    · have hke : k = hv.length := by omega
      have HSet2 := Lib.hid (show NumSet wr (w.heap.size + 1) (w.heap.size + 4) (addAll [] (hv.filter fun y => hasB ts.length y)) v from by have := HSet.out; rwa [hke, List.take_length] at this)
      have y0 := HFx.out.b0
      have y1 := HFx.out.b1
      have y2 := cellN_alloc (.cells #[.map (some wr.heap.size)] 127) (cellN_alloc (.map #[] 0) HFx.out.bh)
      clear HSet
      gi_wp2_with (refine ⟨trivial, ?_⟩; gi_at_call 72; refine (each_in _ _ _).mono ?_; rintro e w2 ⟨rfl, rfl⟩)
      have hw3 : (((wr.alloc (.map #[] 0)).alloc (.cells #[.map (some wr.heap.size)] 127)).alloc (.cells #[.pointer (some ⟨w.heap.size + 1 + 1, 0, none⟩)] 98)).heap.size = wr.heap.size + 3 := by simp
      have HH := Lib.hid (fun j (hj : haveB ts.length hv j = true) => show j < ts.length by unfold haveB at hj; simp at hj; exact hj.1)
      have HStart := Lib.hid (show Rnd w A ts c Mb (haveB ts.length hv) wr.heap.size 0 (addAll [] (hv.filter fun y => hasB ts.length y)) (((wr.alloc (.map #[] 0)).alloc (.cells #[.map (some wr.heap.size)] 127)).alloc (.cells #[.pointer (some ⟨w.heap.size + 1 + 1, 0, none⟩)] 98)) from by
        have hb : Below wr.heap.size wr (((wr.alloc (.map #[] 0)).alloc (.cells #[.map (some wr.heap.size)] 127)).alloc (.cells #[.pointer (some ⟨w.heap.size + 1 + 1, 0, none⟩)] 98)) := (((Below.refl _ _).alloc (Nat.le_refl _) _).alloc (by simp) _).alloc (by simp; omega) _
        have hm : (((wr.alloc (.map #[] 0)).alloc (.cells #[.map (some wr.heap.size)] 127)).alloc (.cells #[.pointer (some ⟨w.heap.size + 1 + 1, 0, none⟩)] 98)).heap[wr.heap.size]? = some (.map #[] 0) := by
          rw [heap_alloc_old _ _ (by simp; omega), heap_alloc_old _ _ (by simp), heap_alloc_new]
        refine ⟨v, fun _ => [], .map [], 0, HFx.out.below hb, HSet2.out.below hb, .start (nodup_addAll List.nodup_nil _) (had_list hv) HH.out, groups_made hm (by omega), .made, shuns_made hm, Nat.le_refl _, fun g hg => .inl (HSet2.out.row.lt g hg).2, ?_, ?_, by omega, hszr⟩
        · exact cellN_alloc _ (by simp)
        · have h3 := (Boxed.new ((wr.alloc (.map #[] 0)).alloc (.cells #[.map (some wr.heap.size)] 127)) 98 (.pointer (some ⟨w.heap.size + 1 + 1, 0, none⟩))).cell
          simpa only [World.size_alloc] using h3)
      refine wpIn_rangeFunc_ms rfl (by omega) (gf := 78) (lb := #[.pointer (some ⟨wr.heap.size + 1 + 1, 0, none⟩)]) rfl trivial (enters_of Tryd.func78 (by kernel_rfl) rfl)
        (each1_seq 8 (wr.heap.size + 1 + 1) (w.heap.size + 1 + 1) ts.length (by omega) (by omega)) rfl
        (fun k ms W => Rnd w A ts c Mb (haveB ts.length hv) wr.heap.size k ms W)
        (fun s W W' row hs hg hr => by
          obtain ⟨v, G, D, cnt, r⟩ := hs
          exact ⟨v, G, D, cnt, r.own hg (by rw [hw3] at hr; exact hr)⟩)
        (fun k ms W h => by
          obtain ⟨v, G, D, cnt, r⟩ := h
          exact ⟨⟨r.bn, r.set.mem⟩, r.opn.kle, r.opn.length⟩)
        _ HStart.out
        (fun x => { tmps := #[.agg #[.slice A ts.length c, .map Mb], .slice A2 hv.length c2, .pointer (some ⟨w.heap.size, 0, none⟩), undef, .pointer none, .pointer (some ⟨w.heap.size + 1 + 2, 0, none⟩), undef, u7, .pointer (some ⟨wr.heap.size + 1, 0, none⟩), .int .i64 x, undef, undef, undef, undef, .pointer (some ⟨w.heap.size + 1 + 1, 0, none⟩), .slice A2 hv.length c2, .int .i64 hv.length, .int .i64 hv.length, .bool false, u19, u20, u21, u22, u23, u24, u25, u26, u27, u28, .map (some wr.heap.size), .pointer (some ⟨w.heap.size + 1 + 1, 0, none⟩), .func (.func 78) #[] #[.pointer (some ⟨wr.heap.size + 1 + 1, 0, none⟩)], .int .i64 x, undef, undef, undef, undef, undef, undef, undef, undef, undef, undef, undef, undef, undef, undef, undef, undef, undef, undef, undef, undef, undef, undef, undef, undef, undef, undef, undef, undef, undef, undef, undef, undef, undef, undef, undef, undef, undef, undef, undef, undef, undef, undef, undef, undef, undef, undef, undef, undef, undef, undef, undef, undef, undef, undef, undef, undef], defers := [] }) ?assign ?body ?done
      case assign =>
        intro l x W K hK
        gi_wp2
        exact hK
      case done =>
        rintro D ms W hD hR hK
        obtain ⟨v', G, Dd, cnt, r⟩ := hR
        have HR := Lib.hid r
        have q0 := r.fx.bh
        clear r
        gi_wp2
        refine ⟨by simp, .inl ⟨_, _, rfl, run_takeDeferred hK, ?_⟩⟩
        have r' := HR.out.own (grownBy_putObj' W D (.deferred none)) (fun j e => by cases e; exact ⟨by omega, _, hK, rfl⟩)
        exact ⟨_, results_tmp rfl _ _ _, w.heap.size + 1, v', ms, rfl, by omega, r'.set, r'.fx.sz, r'.opn.nd, fun x => r'.opn.done HOk.out x, r'.fx.bel⟩
      case body =>
        rintro l k ms W hk hR _
        obtain ⟨v', G, D, cnt, r⟩ := hR
        have HR := Lib.hid r
        have hx := r.opn.rng _ (List.getElem_mem hk)
        have q0 := r.fx.b0
        have q1 := r.fx.b1
        have q2 := r.fx.bh
        have q3 := r.bw
        have hkge := r.kge
        have hksz := r.ksz
        clear r
        obtain ⟨j, hj⟩ := Int.eq_ofNat_of_zero_le hx.1
        have hjl : j < ts.length := by omega
        obtain ⟨gb, ob, rfl, _, hgb, hcb⟩ := HA.out (by omega)
        have c0 := (HR.out.fx.bel.cell (p := ⟨gb, ob + j, none⟩) (by show gb < _; omega)).trans (hcb j hjl)
        have HTm := Lib.hid (show tmAt ts ms[k].toNat = ts[j] by rw [hj]; exact tmAt_nat ts j hjl)
        have hgood := HOk.out.2 j hjl
        obtain ⟨_, hkd⟩ := kind_of_good hgood
        clear hcb hgood
        obtain ⟨t, ht⟩ : ∃ t, t = ts[j] := ⟨_, rfl⟩
        rw [← ht] at c0 HTm hkd
        clear ht
        rw [hj]
        have HMs := Lib.hid (fun (y : Int) (hy : y ∈ ms) => show WfI y from by have := HR.out.opn.rng y hy; exact wfI_of this.1 (by omega))
        have hml := HR.out.opn.length
        obtain ⟨kd, a, b, tx⟩ := t
        simp only at hkd
        have hnone : kd = 0 ∨ kd = 2 ∨ kd = 4 → KeepsFrom (wr.heap.size + 3) W W ∧ ∃ ms', Rnd w (some ⟨gb, ob, none⟩) ts c Mb (haveB ts.length hv) wr.heap.size (k + 1) ms' W := fun h => ⟨KeepsFrom.refl _ _, ms, v', G, D, cnt, { HR.out with opn := HR.out.opn.none HOk.out hk HTm.out h, cnt := Nat.le_succ_of_le HR.out.cnt }⟩
        have hpart := fun (p : Int) (hp : p ∈ partsV ⟨kd, a, b, tx⟩) => HR.out.opn.part HOk.out hk HTm.out hp
        rw [hw3]
        rcases hkd with rfl | rfl | rfl | rfl | rfl | rfl | rfl
        · -- a nonce
          have HN := Lib.hid (hnone (.inl rfl))
          clear hnone hpart
          simp only [tv, if_true] at c0
          gi_wp2
          exact HN.out
        · -- a key
          clear hnone hpart
          obtain ⟨Ae, ce, hrun, hoi, hzl, _, hno, hbl⟩ := HR.out.look (j : Int) (by omega) hlen
          have hcnt := HR.out.cnt
          have hkl := HR.out.opn.kle
          have HI := Lib.hid (ints_of_row (l := G j) hoi.1)
          have HG := Lib.hid (show G ms[k] = G j by rw [hj])
          simp [tv] at c0
          have q4 := cellN_alloc (.cells #[.int .i64 a] 59) q2
          have q5 := cellN_alloc (.cells #[.int .i64 a] 59) q3
          have hl := hrun (W.alloc (.cells #[.int .i64 a] 59)) (heap_alloc_old _ _ (by omega))
          clear hrun hoi
          gi_wp2
          obtain ⟨W2, hW2⟩ : ∃ x, x = W.alloc (.cells #[.int .i64 a] 59) := ⟨_, rfl⟩
          have hbW : Below W.heap.size W W2 := by rw [hW2]; exact (Below.refl _ _).alloc (Nat.le_refl _) _
          have hI : IntsIn W2 0 W2.heap.size Ae (G j) := ((HI.out.ints.low (Nat.zero_le _)).keep fun p _ hp => hbW.cell hp).mono hbW.size
          rw [← hW2]
          refine ⟨trivial, (CallsIn.inRound l (callsIn_wide.2 (add_round HR.out hbW Ae (G j) ce hI (fun b o e => hno b (hbl b o e)) (fun y hy => ?_) hlen (by omega) (HG.out ▸ HR.out.opn.key hk HTm.out rfl)))).mono ?_⟩
          · have := HR.out.opn.wait _ _ hy
            exact ⟨this.1, this.2.1⟩
          · rintro e w3 ⟨rfl, hkf, hrd⟩
            have HN := Lib.hid (show KeepsFrom (wr.heap.size + 3) W w3 ∧ ∃ ms', Rnd w (some ⟨gb, ob, none⟩) ts c Mb (haveB ts.length hv) wr.heap.size (k + 1) ms' w3 from ⟨hkf, _, hrd⟩)
            clear hkf hrd hbW hI hW2 q4 q5 hl
            gi_wp2
            exact HN.out
        · -- a text
          have HN := Lib.hid (hnone (.inr (.inl rfl)))
          clear hnone hpart
          simp [tv] at c0
          gi_wp2
          exact HN.out
        · -- a pair
          have ha := hpart a (by simp [partsV])
          have hb := hpart b (by simp [partsV])
          clear hnone hpart
          simp [tv] at c0
          have q4 := cellN_alloc (.cells #[.int .i64 a, .int .i64 b] 63) q2
          gi_wp2
          obtain ⟨W2, hW2⟩ : ∃ x, x = (W.alloc (.cells #[.int .i64 a, .int .i64 b] 63)).alloc (.cells #[.int .i64 a, .int .i64 b] 3) := ⟨_, rfl⟩
          have hbW : Below W.heap.size W W2 := by rw [hW2]; exact ((Below.refl _ _).alloc (Nat.le_refl _) _).alloc (by simp) _
          have hcW : W2.heap.size = W.heap.size + 2 := by rw [hW2]; simp
          have hI : IntsIn W2 0 W2.heap.size (some ⟨W.heap.size + 1, 0, none⟩) [a, b] := ints_new (by omega) fun j hj => by
            have hj2 : j = 0 ∨ j = 1 := by simp at hj; omega
            rw [hW2]
            rcases hj2 with rfl | rfl <;> simp
          rw [← hW2]
          refine ⟨trivial, (CallsIn.inRound l (callsIn_wide.2 (add_round HR.out hbW (some ⟨W.heap.size + 1, 0, none⟩) [a, b] 2 hI (HR.out.fresh (by omega)) (fun y hy => ?_) hlen (by simp) (HR.out.opn.pairs HOk.out hk HTm.out rfl)))).mono ?_⟩
          · simp at hy
            rcases hy with rfl | rfl
            · exact ha
            · exact hb
          · rintro e w3 ⟨rfl, hkf, hrd⟩
            have HN := Lib.hid (show KeepsFrom (wr.heap.size + 3) W w3 ∧ ∃ ms', Rnd w (some ⟨gb, ob, none⟩) ts c Mb (haveB ts.length hv) wr.heap.size (k + 1) ms' w3 from ⟨hkf, _, hrd⟩)
            clear hkf hrd hbW hcW hI hW2
            gi_wp2
            exact HN.out
        · -- a hash
          have HN := Lib.hid (hnone (.inr (.inr rfl)))
          clear hnone hpart
          simp [tv] at c0
          gi_wp2
          exact HN.out
        · -- a seal
          have hb := hpart b (by simp [partsV])
          have ha := hpart a (by simp [partsV])
          clear hnone hpart
          simp [tv] at c0
          have q4 := cellN_alloc (.cells #[.int .i64 a, .int .i64 b] 67) q2
          have hinW : ∀ W' : World, Below W.heap.size W W' → ∀ g, g < W'.heap.size → W'.cell? ⟨g, 0, none⟩ = some (.int .i64 a) → Calls Tryd.prog 46 #[.pointer (some ⟨w.heap.size + 1 + 1, 0, none⟩), .slice (some ⟨g, 0, none⟩) 1 1] W' fun e w' => e = .returned (.bool (inB ms a)) ∧ w' = W' := fun W' hb' g hg hc' => by
            refine (hasI_any (w.heap.size + 1) (w.heap.size + 4) ms v' (some ⟨g, 0, none⟩) [a] 1 W' (HR.out.set.below hb') HMs.out (fun y hy => ?_) (ints_new hg fun j hj => ?_) (by simp)).mono ?_
            · simp at hy
              subst hy
              exact wfI_of ha.1 (by omega)
            · have hj0 : j = 0 := by simpa using hj
              subst hj0
              exact hc'
            · rintro e w' ⟨rfl, rfl⟩
              exact ⟨by simp, rfl⟩
          gi_wp2
          obtain ⟨W2, hW2⟩ : ∃ x, x = (W.alloc (.cells #[.int .i64 a, .int .i64 b] 67)).alloc (.cells #[.int .i64 a] 3) := ⟨_, rfl⟩
          have hbW : Below W.heap.size W W2 := by rw [hW2]; exact ((Below.refl _ _).alloc (Nat.le_refl _) _).alloc (by simp) _
          have hcW : W2.heap.size = W.heap.size + 2 := by rw [hW2]; simp
          have p0 : W2.cell? ⟨W.heap.size + 1, 0, none⟩ = some (.int .i64 a) := by rw [hW2]; simp
          have p1 : W2.cell? ⟨W.heap.size, 0, none⟩ = some (.int .i64 a) := by rw [hW2]; simp
          have p2 : W2.cell? ⟨W.heap.size, 1, none⟩ = some (.int .i64 b) := by rw [hW2]; simp
          have p3 := (hbW.cell (p := ⟨w.heap.size + 1 + 2, 0, none⟩) (by show w.heap.size + 1 + 2 < _; omega)).trans q2
          have p4 := (hbW.cell (p := ⟨wr.heap.size + 1, 0, none⟩) (by show wr.heap.size + 1 < _; omega)).trans q3
          have HR2 := Lib.hid (HR.out.below hbW)
          have HB3 := Lib.hid hbW
          have HKf := Lib.hid (keeps_below (B := wr.heap.size + 3) hbW)
          rw [← hW2]
          refine ⟨trivial, (CallsIn.inRound l (callsIn_wide.2 (hinW W2 hbW (W.heap.size + 1) (by omega) p0))).mono ?_⟩
          rintro e w3 ⟨rfl, rfl⟩
          clear hinW hbW hW2 p0 q0 q1 q2 q3 q4 c0
          by_cases hin : a ∈ ms
          · have hinB : inB ms a = true := by simp [inB, hin]
            rw [hinB]
            clear hinB p4
            gi_wp2
            obtain ⟨W4, hW4⟩ : ∃ x, x = w3.alloc (.cells #[.int .i64 b] 3) := ⟨_, rfl⟩
            have hbW : Below w3.heap.size w3 W4 := by rw [hW4]; exact (Below.refl _ _).alloc (Nat.le_refl _) _
            have hcW4 : W4.heap.size = w3.heap.size + 1 := by rw [hW4]; simp
            have hI : IntsIn W4 0 W4.heap.size (some ⟨W.heap.size + 2, 0, none⟩) [b] := ints_new (by omega) fun j hj => by
              have hj2 : j = 0 := by simp at hj; omega
              rw [hW4, ← hcW]
              subst hj2
              simp
            rw [← hW4]
            refine ⟨trivial, (CallsIn.inRound l (callsIn_wide.2 (add_round HR2.out hbW (some ⟨W.heap.size + 2, 0, none⟩) [b] 1 hI (HR2.out.fresh (by omega)) (fun y hy => ?_) hlen (by simp) (HR2.out.opn.lock1 HOk.out hk HTm.out rfl hin)))).mono ?_⟩
            · simp at hy
              subst hy
              exact hb
            · rintro e w5 ⟨rfl, hkf, hrd⟩
              have HN := Lib.hid (show KeepsFrom (wr.heap.size + 3) W w5 ∧ ∃ ms', Rnd w (some ⟨gb, ob, none⟩) ts c Mb (haveB ts.length hv) wr.heap.size (k + 1) ms' w5 from ⟨HKf.out.trans hkf, _, hrd⟩)
              clear hkf hrd hbW hcW4 hI hW4
              gi_wp2
              exact HN.out
          · have hinB : inB ms a = false := by simp [inB, hin]
            rw [hinB]
            clear hinB
            gi_wp2
            have hb3 : Below W.heap.size W w3 := HB3.out
            obtain ⟨vg, v2, w5, w6, hlook, happ, hupd, hcell, hkf, hrd⟩ := wait_round HR.out hb3 a b ha hb hlen (HR.out.opn.lock0 HOk.out hk HTm.out rfl hin)
            have HN := Lib.hid (show KeepsFrom (wr.heap.size + 3) W w6 ∧ ∃ ms', Rnd w (some ⟨gb, ob, none⟩) ts c Mb (haveB ts.length hv) wr.heap.size (k + 1) ms' w6 from ⟨hkf, _, hrd⟩)
            refine region_append (fun _ => trivial) (wr.heap.size + 1) W.heap.size wr.heap.size a b vg v2 _ w5 w6 rfl (by kernel_rfl) rfl rfl rfl rfl p4 p1 p2 ((hcell ⟨wr.heap.size + 1, 0, none⟩ (by show wr.heap.size + 1 < _; omega) (.inl (by show wr.heap.size + 1 < _; omega))).trans p4) ((hcell ⟨W.heap.size, 0, none⟩ (by show W.heap.size < _; omega) (.inr (Nat.le_refl _))).trans p1) ((hcell ⟨W.heap.size, 1, none⟩ (by show W.heap.size < _; omega) (.inr (Nat.le_refl _))).trans p2) (by omega) hlook happ hupd (fun a' => ?_)
            clear hlook happ hupd hcell hkf hrd
            gi_wp2
            exact HN.out
        · -- a sign
          have hb := hpart b (by simp [partsV])
          clear hnone hpart
          simp [tv] at c0
          have q4 := cellN_alloc (.cells #[.int .i64 a, .int .i64 b] 68) q2
          gi_wp2
          obtain ⟨W2, hW2⟩ : ∃ x, x = (W.alloc (.cells #[.int .i64 a, .int .i64 b] 68)).alloc (.cells #[.int .i64 b] 3) := ⟨_, rfl⟩
          have hbW : Below W.heap.size W W2 := by rw [hW2]; exact ((Below.refl _ _).alloc (Nat.le_refl _) _).alloc (by simp) _
          have hcW : W2.heap.size = W.heap.size + 2 := by rw [hW2]; simp
          have hI : IntsIn W2 0 W2.heap.size (some ⟨W.heap.size + 1, 0, none⟩) [b] := ints_new (by omega) fun j hj => by
            have hj2 : j = 0 := by simp at hj; omega
            rw [hW2]
            subst hj2
            simp
          rw [← hW2]
          refine ⟨trivial, (CallsIn.inRound l (callsIn_wide.2 (add_round HR.out hbW (some ⟨W.heap.size + 1, 0, none⟩) [b] 1 hI (HR.out.fresh (by omega)) (fun y hy => ?_) hlen (by simp) (HR.out.opn.signs HOk.out hk HTm.out rfl)))).mono ?_⟩
          · simp at hy
            subst hy
            exact hb
          · rintro e w3 ⟨rfl, hkf, hrd⟩
            have HN := Lib.hid (show KeepsFrom (wr.heap.size + 3) W w3 ∧ ∃ ms', Rnd w (some ⟨gb, ob, none⟩) ts c Mb (haveB ts.length hv) wr.heap.size (k + 1) ms' w3 from ⟨hkf, _, hrd⟩)
            clear hkf hrd hbW hcW hI hW2
            gi_wp2
            exact HN.out

end Go.Proofs.YtkmoihkpaccbdaaDoor

namespace Go.Proofs.YtkmoihkpaccbdaaDoor
open Go.RowKit Go.Maps

set_option maxRecDepth 100000 in
set_option maxHeartbeats 1000000 in
theorem onlyTold_any (A : Option Addr) (ts : List Tm) (c L B : Nat) (Mb : Option Nat) (x : Int) (w : World) (hok : LOk ts) (hA : BkIn w L B A ts) (hx : 0 ≤ x ∧ x < ts.length) :
    Calls Tryd.prog 62 #[.agg #[.slice A ts.length c, .map Mb], .int .i64 x] w fun e w' => e = .returned (.bool (lowB ts x)) ∧ Below w.heap.size w w' := by
  obtain ⟨j, rfl⟩ := Int.eq_ofNat_of_zero_le hx.1
  have hj : j < ts.length := by omega
  obtain ⟨b, o, rfl, _, hb, hc⟩ := hA (by omega)
  have c0 := cellN_alloc (.cells #[.slice (some ⟨b, o, none⟩) ts.length c, .map Mb] 47) (hc j hj)
  have HL := Lib.hid (show lowB ts j = decide (ts[j].kind ≤ 1) by simp [lowB, tmAt_nat ts j hj])
  have hn : ts.length ≤ 400 := hok.1
  obtain ⟨_, hkd⟩ := kind_of_good (hok.2 j hj)
  obtain ⟨t, ht⟩ : ∃ t, t = ts[j] := ⟨_, rfl⟩
  rw [← ht] at c0 HL hkd
  clear ht hc hA hok
  obtain ⟨kd, p, q, tx⟩ := t
  simp only at hkd HL
  go_enter Tryd.func62, Tryd.ntmps62
  rcases hkd with rfl | rfl | rfl | rfl | rfl | rfl | rfl
  all_goals simp [tv] at c0
  all_goals go_wp2_with fail
  all_goals go_ret
  all_goals exact ⟨ret_bool (by rw [HL.out]; rfl), (Below.refl _ _).alloc (Nat.le_refl _) _⟩

/-- What can be made, the first k gone through. -/
def MadeAt (ts : List Tm) (f : Nat → Bool) (k : Nat) (us : List Int) : Prop := us.Nodup ∧ ∀ x, x ∈ us ↔ ∃ j : Nat, j < ts.length ∧ x = (j : Int) ∧ (f j = true ∨ (j < k ∧ cnB ts f j = true))

theorem MadeAt.next {ts : List Tm} {f : Nat → Bool} {k : Nat} {us : List Int} (hok : LOk ts) (h : MadeAt ts f k us) (hk : k < ts.length) :
    MadeAt ts f (k + 1) (if (!lowB ts (k : Int) && (partsV ts[k]).all (inB us)) = true then addI us (k : Int) else us) := by
  have htm : tmAt ts k = ts[k] := tmAt_nat ts k hk
  have hin : ∀ p ∈ partsV ts[k], inB us p = cnB ts f p.toNat := fun p hp => by
    have hb := parts_below hok hk (htm ▸ hp)
    rw [Bool.eq_iff_iff, inB, decide_eq_true_eq, h.2]
    constructor
    · rintro ⟨j, _, rfl, hj | hj⟩
      · rw [cnB_iff]; exact .had (by simpa using hj)
      · simpa using hj.2
    · intro hc
      exact ⟨p.toNat, by omega, by omega, .inr ⟨by omega, hc⟩⟩
  have hall : (partsV ts[k]).all (inB us) = (partsV ts[k]).all fun p => cnB ts f p.toNat := by
    rw [Bool.eq_iff_iff, List.all_eq_true, List.all_eq_true]
    exact ⟨fun h' p hp => by rw [← hin p hp]; exact h' p hp, fun h' p hp => by rw [hin p hp]; exact h' p hp⟩
  have hlow : (!lowB ts (k : Int)) = (decide (0 < (partsV ts[k]).length) || (ts[k].kind == 2)) := by
    obtain ⟨_, hkd⟩ := kind_of_good (hok.2 k hk)
    have e : lowB ts (k : Int) = decide (ts[k].kind ≤ 1) := by simp [lowB, htm]
    rw [e]
    unfold partsV
    rcases hkd with h' | h' | h' | h' | h' | h' | h' <;> simp [h']
  have hcn : cnB ts f k = (f k || (!lowB ts (k : Int) && (partsV ts[k]).all (inB us))) := by
    rw [cnB_eq, hall, hlow, htm]
  have hnd : (if (!lowB ts (k : Int) && (partsV ts[k]).all (inB us)) = true then addI us (k : Int) else us).Nodup := by
    split
    · exact nodup_addI h.1 _
    · exact h.1
  refine ⟨hnd, fun x => ?_⟩
  have hm : x ∈ (if (!lowB ts (k : Int) && (partsV ts[k]).all (inB us)) = true then addI us (k : Int) else us) ↔ x ∈ us ∨ (x = (k : Int) ∧ (!lowB ts (k : Int) && (partsV ts[k]).all (inB us)) = true) := by
    split
    · rename_i h'
      rw [mem_addI, h']
      simp
    · rename_i h'
      simp [h']
  rw [hm, h.2]
  constructor
  · rintro (⟨j, h1, h2, h3⟩ | ⟨rfl, h2⟩)
    · exact ⟨j, h1, h2, h3.imp id fun h4 => ⟨by omega, h4.2⟩⟩
    · exact ⟨k, hk, rfl, .inr ⟨by omega, by rw [hcn, h2]; simp⟩⟩
  · rintro ⟨j, h1, rfl, h3⟩
    by_cases e : j = k
    · subst e
      by_cases hf : f j = true
      · exact .inl ⟨j, h1, rfl, .inl hf⟩
      · rcases h3 with h3 | h3
        · exact absurd h3 hf
        · refine .inr ⟨rfl, ?_⟩
          have h4 := h3.2
          rw [hcn] at h4
          simpa [hf] using h4
    · exact .inl ⟨j, h1, rfl, h3.imp id fun h4 => ⟨by omega, h4.2⟩⟩

set_option maxRecDepth 100000 in
set_option maxHeartbeats 2000000 in
theorem made_any (A : Option Addr) (ts : List Tm) (c L B : Nat) (Mb : Option Nat) (A2 : Option Addr) (hv : List Int) (c2 : Nat) (w : World) (hok : LOk ts) (hA : BkIn w L B A ts) (hB : B ≤ w.heap.size) (hA2 : IntsIn w 0 w.heap.size A2 hv) (hn2 : hv.length ≤ 1048576) :
    Calls Tryd.prog 45 #[.agg #[.slice A ts.length c, .map Mb], .slice A2 hv.length c2] w fun e w' => ∃ M v ms, e = .returned (.pointer (some ⟨M + 1, 0, none⟩)) ∧ w.heap.size ≤ M ∧ NumSet w' M (M + 3) ms v ∧ M + 3 ≤ w'.heap.size ∧ ms.Nodup ∧ (∀ x, x ∈ ms ↔ ∃ j : Nat, j < ts.length ∧ x = (j : Int) ∧ cnB ts (endB ts hv) j = true) ∧ Below w.heap.size w w' := by
  have HOk := Lib.hid hok
  have HA := Lib.hid hA
  have HA2 := Lib.hid hA2
  clear hok hA hA2
  have hlen : ts.length ≤ 400 := HOk.out.1
  go_enter Tryd.func45, Tryd.ntmps45
  go_wp2_with fail
  have hb0 : Below w.heap.size w (w.alloc (.cells #[.slice A ts.length c, .map Mb] 47)) := (Below.refl _ _).alloc (Nat.le_refl _) _
  refine (opened_any A ts c L B Mb A2 hv c2 _ HOk.out (HA.out.below (hb0.mono hB)) (by simp; omega) ((HA2.out.keep fun p _ hp => hb0.cell hp).mono hb0.size) hn2).mono ?_
  rintro e w1 ⟨M, v, ms, rfl, hM, hset, hsz, hnd, hmem, hb1⟩
  have hM' : w.heap.size + 1 ≤ M := by simpa using hM
  have HSet := Lib.hid hset
  have HMade := Lib.hid (show MadeAt ts (endB ts hv) 0 ms from ⟨hnd, fun x => by rw [hmem]; simp [endB]⟩)
  have x0 : w1.cell? ⟨w.heap.size, 0, none⟩ = some (.slice A ts.length c) := (hb1.cell (p := ⟨w.heap.size, 0, none⟩) (by simp)).trans (by simp)
  have x1 : w1.cell? ⟨w.heap.size, 1, none⟩ = some (.map Mb) := (hb1.cell (p := ⟨w.heap.size, 1, none⟩) (by simp)).trans (by simp)
  have HB1 := Lib.hid (hb0.trans (hb1.mono (by simp)))
  clear hset hnd hmem hb1 hb0 hM
  go_wp2_with fail
  go_loopw [14] (fun i wr => ∃ (k : Nat) (u : Value) (us : List Int), k ≤ ts.length ∧ i = .int .i64 k ∧ NumSet wr M (M + 3) us u ∧ MadeAt ts (endB ts hv) k us ∧ M + 3 ≤ wr.heap.size ∧ Below M w1 wr) (fun i _ => ts.length - (intOf i).toNat)
  case atStart => exact ⟨0, v, ms, Nat.zero_le _, rfl, HSet.out, HMade.out, hsz, Below.refl _ _⟩
  case round =>
    clear HSet HMade
    obtain ⟨k, u, us, hk, rfl, hset, hmade, hszr, hbr⟩ := hrel
    have HSet := Lib.hid hset
    have HMade := Lib.hid hmade
    have HBr := Lib.hid hbr
    have y0 := (hbr.cell (p := ⟨w.heap.size, 0, none⟩) (by show w.heap.size < M; omega)).trans x0
    have y1 := (hbr.cell (p := ⟨w.heap.size, 1, none⟩) (by show w.heap.size < M; omega)).trans x1
    clear hset hmade hbr
    by_cases hlt : k < ts.length
    · obtain ⟨b, o, rfl, _, hb, hc⟩ := HA.out (by omega)
      have hbw : Below w.heap.size w wr := HB1.out.trans (HBr.out.mono (by omega))
      have HBk := Lib.hid (HA.out.below (hbw.mono hB))
      have hck := (hbw.cell (p := ⟨b, o + k, none⟩) (by show b < _; omega)).trans (hc k hlt)
      have HNext := Lib.hid (HMade.out.next HOk.out hlt)
      have HTold := Lib.hid (fun W (hW : Below wr.heap.size wr W) => onlyTold_any (some ⟨b, o, none⟩) ts c L B Mb (k : Int) W HOk.out (HBk.out.below (hW.mono (by have := HB1.out.size; have := HBr.out.size; omega))) ⟨by omega, by omega⟩)
      obtain ⟨_, hkind⟩ := kind_of_good (HOk.out.2 k hlt)
      obtain ⟨T, vt, Fn, htv, hmeth, hcf, hcall⟩ := parts_invoke ts[k] hkind
      rw [htv] at hck
      clear htv hkind hc hbw
      have htold := HTold.out wr (Below.refl _ _)
      cases hl : lowB ts (k : Int) with
      | true =>
        rw [hl] at htold
        have HN := Lib.hid (show MadeAt ts (endB ts hv) (k + 1) us from by have := HNext.out; rw [hl] at this; simpa using this)
        clear hl HNext hmeth hcf hcall
        go_wp2_with fail
        refine htold.mono ?_
        rintro e w2 ⟨rfl, hb2⟩
        have HSet2 := Lib.hid (HSet.out.below hb2)
        have HBr2 := Lib.hid (HBr.out.trans (hb2.mono (by omega)))
        have hz2 := hb2.size
        clear hb2 htold HTold
        go_wp2_with fail
        go_roundw
        case rel => exact ⟨k + 1, u, us, by omega, by go_num, HSet2.out, HN.out, by omega, HBr2.out⟩
        case measure => simp [intOf]; omega
      | false =>
        rw [hl] at htold
        have HNext2 := Lib.hid (show MadeAt ts (endB ts hv) (k + 1) (if (partsV ts[k]).all (inB us) = true then addI us (k : Int) else us) from by have := HNext.out; rw [hl] at this; simpa using this)
        have HWf := Lib.hid (fun (y : Int) (hy : y ∈ us) => show WfI y from by
          obtain ⟨j, h1, h2, _⟩ := (HMade.out.2 y).1 hy
          exact wfI_of (by omega) (by omega))
        have HWp := Lib.hid (fun (y : Int) (hy : y ∈ partsV ts[k]) => show WfI y from by
          have := parts_below HOk.out hlt (p := y) (by rw [tmAt_nat ts k hlt]; exact hy)
          exact wfI_of (by omega) (by omega))
        have hpl := partsV_length ts[k]
        have hul : us.length ≤ ts.length := nodup_length HMade.out.1 fun y hy => by
          obtain ⟨j, h1, h2, _⟩ := (HMade.out.2 y).1 hy
          omega
        generalize partsV ts[k] = l at *
        clear hl HNext
        go_wp2_with fail
        refine htold.mono ?_
        rintro e w2 ⟨rfl, hb2⟩
        have HSet2 := Lib.hid (HSet.out.below hb2)
        have HBr2 := Lib.hid (HBr.out.trans (hb2.mono (by omega)))
        have hz2 := hb2.size
        clear hb2 htold HTold
        go_wp2_with fail
        refine (hcall w2).mono ?_
        rintro e w3 ⟨A3, c3, rfl, _, _, hints, hb3⟩
        have HSet3 := Lib.hid (HSet2.out.below hb3)
        have HBr3 := Lib.hid (HBr2.out.trans (hb3.mono (by omega)))
        have hz3 := hb3.size
        have hhas := hasI_any M (M + 3) us u A3 l c3 w3 HSet3.out HWf.out HWp.out (hints.low (Nat.zero_le _)) (by omega)
        obtain ⟨al, hal⟩ : ∃ al, al = l.all (inB us) := ⟨_, rfl⟩
        rw [← hal] at hhas HNext2
        clear hb3 hints hcall hmeth hcf hal
        go_wp2_with fail
        refine hhas.mono ?_
        rintro e w4 ⟨rfl, rfl⟩
        clear hhas
        cases hb : al with
        | false =>
          have HN := Lib.hid (show MadeAt ts (endB ts hv) (k + 1) us from by have := HNext2.out; rw [hb] at this; simpa using this)
          clear HNext2 hb
          go_wp2_with fail
          go_roundw
          case rel => exact ⟨k + 1, u, us, by omega, by go_num, HSet3.out, HN.out, by omega, HBr3.out⟩
          case measure => simp [intOf]; omega
        | true =>
          have HN := Lib.hid (show MadeAt ts (endB ts hv) (k + 1) (addAll us [(k : Int)]) from by have := HNext2.out; rw [hb] at this; simpa [addAll] using this)
          clear HNext2 hb
          go_wp2_with fail
          obtain ⟨W5, hW5⟩ : ∃ x, x = w4.alloc (.cells #[.int .i64 (k : Int)] 3) := ⟨_, rfl⟩
          have hb5 : Below w4.heap.size w4 W5 := by rw [hW5]; exact (Below.refl _ _).alloc (Nat.le_refl _) _
          have hz5 : W5.heap.size = w4.heap.size + 1 := by rw [hW5]; simp
          have hc5 : W5.cell? ⟨w4.heap.size, 0, none⟩ = some (.int .i64 (k : Int)) := by rw [hW5]; simp
          rw [← hW5]
          have hset5 := HSet3.out.below hb5
          have hadd := addI_any M (M + 3) us u (some ⟨w4.heap.size, 0, none⟩) [(k : Int)] 1 W5 hset5 HWf.out (fun y hy => by simp at hy; subst hy; exact wfI_of (by omega) (by omega)) (ints_new (by omega) fun j hj => by
            have hj0 : j = 0 := by simpa using hj
            subst hj0
            exact hc5) (fun b o e h' => by
              cases e
              have := HSet3.out.lt
              rcases h' with h' | h' | h'
              · omega
              · omega
              · have := (HSet3.out.row.lt _ h').2
                omega) (by omega) (by simp; omega)
          clear hW5 hc5
          refine hadd.mono ?_
          rintro e w6 ⟨rfl, u6, hset6, _, hoff6⟩
          have HSet6 := Lib.hid hset6
          have hz6 := hoff6.size
          have HBr6 := Lib.hid ((HBr3.out.trans (hb5.mono (by omega))).trans (hoff6.low (B := M) (by omega) fun i h' => by
            rcases h' with h' | h' | h'
            · omega
            · omega
            · have := (hset5.row.lt _ h').1
              omega))
          clear hset6 hoff6 hset5 hadd hb5
          go_wp2_with fail
          go_roundw
          case rel => exact ⟨k + 1, u6, _, by omega, by go_num, HSet6.out, HN.out, by omega, HBr6.out⟩
          case measure => simp [intOf]; omega
    · have hke : k = ts.length := by omega
      have HR := Lib.hid (show us.Nodup ∧ ∀ x, x ∈ us ↔ ∃ j : Nat, j < ts.length ∧ x = (j : Int) ∧ cnB ts (endB ts hv) j = true from ⟨HMade.out.1, fun x => by
        rw [HMade.out.2]
        constructor
        · rintro ⟨j, h1, h2, h3 | h3⟩
          · exact ⟨j, h1, h2, by rw [cnB_iff]; exact .had h3⟩
          · exact ⟨j, h1, h2, h3.2⟩
        · rintro ⟨j, h1, h2, h3⟩
          exact ⟨j, h1, h2, .inr ⟨by omega, h3⟩⟩⟩)
      have HBf := Lib.hid (HB1.out.trans (HBr.out.mono (by omega)))
      go_wp2_with fail
      go_ret
      exact ⟨M, u, us, rfl, by omega, HSet.out, hszr, HR.out.1, HR.out.2, HBf.out⟩

end Go.Proofs.YtkmoihkpaccbdaaDoor

namespace Go.Proofs.YtkmoihkpaccbdaaDoor
open Go.RowKit Go.Maps Go.Shelf
attribute [local go_sem] Oper.semAt_some

end Go.Proofs.YtkmoihkpaccbdaaDoor

namespace Go.Proofs.YtkmoihkpaccbdaaDoor
open Go.RowKit Go.Maps

theorem ownsRow_lowF {w : World} {base base' size n : Nat} {e : TypeId} {v : Value} {xs : List Value} (h : w.ownsRow base e size v n xs) (hb : base' ≤ base) : w.ownsRow base' e size v n xs :=
  ⟨h.1, h.2.imp id fun ⟨g, cap, cur, h1, h2, h3⟩ => ⟨g, cap, cur, h1, Nat.le_trans hb h2, h3⟩⟩

/-- What readFor hands back. -/
def RfPost (ts : List Tm) (n : Int) (w : World) (e : Ending) (w' : World) : Prop :=
  (LOk ts ∧ n ≤ 1000 ∧ ∃ A c M, e = .returned (.tuple #[.agg #[.slice A ts.length c, .map (some M)], .bool true]) ∧ BkIn w' w.heap.size w'.heap.size A ts ∧ Below w.heap.size w w') ∨
  (¬ (LOk ts ∧ n ≤ 1000) ∧ e = .returned (.tuple #[.agg #[.slice none 0 0, .map none], .bool false]) ∧ Below w.heap.size w w')

set_option maxRecDepth 100000 in
set_option maxHeartbeats 1000000 in
theorem readFor_any (A : Option Addr) (ts : List Tm) (c L B : Nat) (n : Int) (w : World) (hA : TmsIn w L B A ts) (hB : B ≤ w.heap.size) (hn : ts.length ≤ 1048576) (hbk : bulk ts ≤ 1048576) :
    Calls Tryd.prog 44 #[.agg #[.slice A ts.length c], .int .i64 n] w (RfPost ts n w) := by
  have HA := Lib.hid hA
  clear hA
  go_enter Tryd.func44, Tryd.ntmps44
  by_cases h1000 : 1000 < n
  · go_wp2_with fail
    refine bodyPost_ret (v := .tuple #[.agg #[.slice none 0 0, .map none], .bool false]) (by simp [results, Tryd.results44, go_sem]) rfl ?_
    exact .inr ⟨by omega, rfl, ((Below.refl _ _).alloc (Nat.le_refl _) _).alloc (by simp) _⟩
  · go_wp2_with fail
    obtain ⟨W0, hW0⟩ : ∃ x, x = (w.alloc (.cells #[.slice A ts.length c] 25)).alloc (.cells #[.slice none 0 0, .map none] 47) := ⟨_, rfl⟩
    have hb0 : Below w.heap.size w W0 := by rw [hW0]; exact ((Below.refl _ _).alloc (Nat.le_refl _) _).alloc (by simp) _
    have hz0 : W0.heap.size = w.heap.size + 2 := by rw [hW0]; simp
    have x0 : W0.cell? ⟨w.heap.size + 1, 0, none⟩ = some (.slice none 0 0) := by rw [hW0]; simp
    have x1 : W0.cell? ⟨w.heap.size + 1, 1, none⟩ = some (.map none) := by rw [hW0]; simp
    have x2 : ∀ o, W0.frozen? ⟨w.heap.size + 1, o, none⟩ = false := fun o => by rw [hW0]; exact (((Fresh.refl w).alloc _ _).alloc _ _) ⟨w.heap.size + 1, o, none⟩ (by show w.heap.size ≤ w.heap.size + 1; omega)
    rw [← hW0]
    clear hW0
    refine (readLedger_any A ts c L B W0 (HA.out.keep fun p _ hp => hb0.cell (by omega)) (by omega) hn hbk).mono ?_
    rintro e w1 (⟨hok, A1, c1, M, rfl, _, hbk1, _, hb1⟩ | ⟨hno, rfl, hb1⟩)
    · have y0 := (hb1.cell (p := ⟨w.heap.size + 1, 0, none⟩) (by show w.heap.size + 1 < _; omega)).trans x0
      have y1 := (hb1.cell (p := ⟨w.heap.size + 1, 1, none⟩) (by show w.heap.size + 1 < _; omega)).trans x1
      have f0 := (hb1.frozen (p := ⟨w.heap.size + 1, 0, none⟩) (by show w.heap.size + 1 < _; omega)).trans (x2 0)
      have f1 := (hb1.frozen (p := ⟨w.heap.size + 1, 1, none⟩) (by show w.heap.size + 1 < _; omega)).trans (x2 1)
      have HBk := Lib.hid hbk1
      have HB1 := Lib.hid (hb0.trans (hb1.mono (by omega)))
      have hz1 := hb1.size
      clear hb1 hb0 x0 x1 x2 hbk1
      go_wp2_with fail
      refine bodyPost_ret (v := .tuple #[.agg #[.slice A1 ts.length c1, .map (some M)], .bool true]) (by simp [results, Tryd.results44, go_sem, y0, y1]) rfl ?_
      refine .inl ⟨hok, by omega, A1, c1, M, rfl, ?_, (HB1.out.setCell (by show w.heap.size ≤ w.heap.size + 1; omega) _).setCell (by show w.heap.size ≤ w.heap.size + 1; omega) _⟩
      refine ((HBk.out.keep fun p hp _ => ?_).low (by omega)).mono (by simp)
      rw [World.cell?_setCell_other _ _ _ _ (by rintro rfl; simp at hp; omega), World.cell?_setCell_other _ _ _ _ (by rintro rfl; simp at hp; omega)]
    · have y0 := (hb1.cell (p := ⟨w.heap.size + 1, 0, none⟩) (by show w.heap.size + 1 < _; omega)).trans x0
      have y1 := (hb1.cell (p := ⟨w.heap.size + 1, 1, none⟩) (by show w.heap.size + 1 < _; omega)).trans x1
      have f0 := (hb1.frozen (p := ⟨w.heap.size + 1, 0, none⟩) (by show w.heap.size + 1 < _; omega)).trans (x2 0)
      have f1 := (hb1.frozen (p := ⟨w.heap.size + 1, 1, none⟩) (by show w.heap.size + 1 < _; omega)).trans (x2 1)
      have HB1 := Lib.hid (hb0.trans (hb1.mono (by omega)))
      have hz1 := hb1.size
      clear hb1 hb0 x0 x1 x2
      go_wp2_with fail
      refine bodyPost_ret (v := .tuple #[.agg #[.slice none 0 0, .map none], .bool false]) (by simp [results, Tryd.results44, go_sem, y0, y1]) rfl ?_
      exact .inr ⟨fun h => hno h.1, rfl, (HB1.out.setCell (by show w.heap.size ≤ w.heap.size + 1; omega) _).setCell (by show w.heap.size ≤ w.heap.size + 1; omega) _⟩

theorem each_any (p : Option Addr) (w : World) : Calls Tryd.prog 72 #[.pointer p] w fun e w' => e = .returned (.func (.func 78) #[] #[.pointer (some ⟨w.heap.size, 0, none⟩)]) ∧ w' = w.alloc (.cells #[.pointer p] 98) := callsIn_wide.1 (each_in 1 p w)

set_option maxRecDepth 100000 in
set_option maxHeartbeats 1000000 in
theorem implCan_any (A : Option Addr) (ts : List Tm) (c L B : Nat) (A2 : Option Addr) (hv : List Int) (c2 : Nat) (want : Int) (w : World) (hwant : WfI want) (hA : TmsIn w L B A ts) (hB : B ≤ w.heap.size) (hn : ts.length ≤ 1048576) (hbk : bulk ts ≤ 1048576) (hA2 : IntsIn w 0 w.heap.size A2 hv) (hn2 : hv.length ≤ 1048576) :
    Calls Tryd.prog 26 #[.agg #[.slice A ts.length c], .slice A2 hv.length c2, .int .i64 want] w (fun e w' => e = .returned (.bool (canV ts hv want)) ∧ Below w.heap.size w w') := by
  have HA := Lib.hid hA
  have HA2 := Lib.hid hA2
  clear hA hA2
  go_enter Tryd.func26, Tryd.ntmps26
  go_wp2_with fail
  have hb0 : Below w.heap.size w (w.alloc (.cells #[.slice A ts.length c] 25)) := (Below.refl _ _).alloc (Nat.le_refl _) _
  refine (readFor_any A ts c L B hv.length _ (HA.out.keep fun p _ hp => hb0.cell (by omega)) (by simp; omega) hn hbk).mono ?_
  rintro e w1 (⟨hok, hle, A1, c1, M1, rfl, hbk1, hb1⟩ | ⟨hno, rfl, hb1⟩)
  · have hask : askB ts hv = true := by simp [askB, lokB_true hok, show hv.length ≤ 1000 by omega]
    have HB1 := Lib.hid (hb0.trans (hb1.mono (by simp)))
    have HOk := Lib.hid hok
    have HBk := Lib.hid hbk1
    have hlen := hok.1
    have hz1 := HB1.out.size
    clear hb0 hb1 hok hbk1
    go_wp2_with fail
    obtain ⟨W2, hW2⟩ : ∃ x, x = w1.alloc (.cells #[.slice A1 ts.length c1, .map (some M1)] 47) := ⟨_, rfl⟩
    have hb2 : Below w1.heap.size w1 W2 := by rw [hW2]; exact (Below.refl _ _).alloc (Nat.le_refl _) _
    have hx2 : W2.cell? ⟨w1.heap.size, 0, none⟩ = some (.slice A1 ts.length c1) ∧ W2.cell? ⟨w1.heap.size, 1, none⟩ = some (.map (some M1)) := by rw [hW2]; exact ⟨by simp, by simp⟩
    have hz2 : W2.heap.size = w1.heap.size + 1 := by rw [hW2]; simp
    have HX2 := Lib.hid hx2
    have HB2 := Lib.hid (HB1.out.trans (hb2.mono hz1))
    have HBk2 := Lib.hid (HBk.out.below hb2)
    have HA22 := Lib.hid ((HA2.out.keep fun p _ hp => HB2.out.cell hp).mono (show w.heap.size ≤ W2.heap.size by omega))
    rw [← hW2]
    clear hW2 hb2 hx2 HBk HA2
    refine (made_any A1 ts c1 _ _ (some M1) A2 hv c2 W2 HOk.out HBk2.out (by omega) HA22.out hn2).mono ?_
    rintro e w3 ⟨M, v, ms, rfl, hM, hset, hsz, hnd, hmem, hb3⟩
    have hml : ms.length ≤ ts.length := nodup_length hnd fun y hy => by
      obtain ⟨j, h1, h2, _⟩ := (hmem y).1 hy
      omega
    have HSet := Lib.hid hset
    have hz3 := hb3.size
    have HB3 := Lib.hid (HB2.out.trans (hb3.mono (by omega)))
    have HWf := Lib.hid (fun (y : Int) (hy : y ∈ ms) => show WfI y from by
      obtain ⟨j, h1, h2, _⟩ := (hmem y).1 hy
      exact wfI_of (by omega) (by omega))
    have HR := Lib.hid (show canV ts hv want = inB ms want by
      unfold canV
      rw [hask, Bool.eq_iff_iff, inB]
      simp only [Bool.true_and, Bool.and_eq_true, decide_eq_true_eq, hasB]
      rw [hmem]
      constructor
      · rintro ⟨h1, h2⟩
        exact ⟨want.toNat, by omega, by omega, h2⟩
      · rintro ⟨j, h1, rfl, h3⟩
        exact ⟨⟨by omega, by omega⟩, by simpa using h3⟩)
    clear hset hnd hmem hb3 hask
    go_wp2_with fail
    obtain ⟨W4, hW4⟩ : ∃ x, x = w3.alloc (.cells #[.int .i64 want] 3) := ⟨_, rfl⟩
    have hb4 : Below w3.heap.size w3 W4 := by rw [hW4]; exact (Below.refl _ _).alloc (Nat.le_refl _) _
    have hz4 : W4.heap.size = w3.heap.size + 1 := by rw [hW4]; simp
    have hc4 : W4.cell? ⟨w3.heap.size, 0, none⟩ = some (.int .i64 want) := by rw [hW4]; simp
    rw [← hW4]
    clear hW4
    refine (hasI_any M (M + 3) ms v (some ⟨w3.heap.size, 0, none⟩) [want] 1 W4 (HSet.out.below hb4) HWf.out (fun y hy => by simp at hy; subst hy; exact hwant) (ints_new (by omega) fun j hj => by
      have hj0 : j = 0 := by simpa using hj
      subst hj0
      exact hc4) (by simp)).mono ?_
    rintro e w5 ⟨rfl, rfl⟩
    have HB5 := Lib.hid (HB3.out.trans (hb4.mono (by omega)))
    simp only [List.all_cons, List.all_nil, Bool.and_true]
    obtain ⟨r, hr⟩ : ∃ r, r = inB ms want := ⟨_, rfl⟩
    have HR2 := Lib.hid (HR.out.trans hr.symm)
    rw [← hr]
    clear hb4 hc4 hr HR
    go_wp2_with fail
    all_goals go_ret
    all_goals exact ⟨ret_bool HR2.out.symm, HB5.out⟩
  · have HV := Lib.hid (show canV ts hv want = false by
      cases h : askB ts hv with
      | false => simp [canV, h]
      | true =>
        unfold askB at h
        simp only [Bool.and_eq_true, decide_eq_true_eq] at h
        exact absurd ⟨lok_of h.1, by omega⟩ hno)
    have HB1 := Lib.hid (hb0.trans (hb1.mono (by simp)))
    clear hb0 hb1 hno
    go_wp2_with fail
    all_goals go_ret
    all_goals exact ⟨ret_bool HV.out.symm, HB1.out.alloc HB1.out.size _⟩

end Go.Proofs.YtkmoihkpaccbdaaDoor
