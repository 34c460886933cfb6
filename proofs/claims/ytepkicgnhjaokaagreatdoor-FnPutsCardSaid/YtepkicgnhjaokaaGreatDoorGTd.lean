/-
  Several texts in one: DropM, Td, Tn, Tg, Tw, Tb, Tc, Te.
-/
import Derived.Test.YtepkicgnhjaokaaGreatDoorGOw
import Derived.Deep.CutRange
import Derived.Test.YtepkicgnhjaokaaGreatDoorGVd
import Derived.Test.YtepkicgnhjaokaaGreatDoorGPs
import Derived.Test.YtepkicgnhjaokaaGreatDoorGL3
import Derived.Test.YtepkicgnhjaokaaGreatDoorGCmp
import Derived.Maps.AppendAt
import Derived.Deep.RegionHeld3
import Derived.Deep.LoopGhost
import Derived.Deep.RegionLaw
namespace Go.Proofs.YtepkicgnhjaokaaGreatDoor
open Go.RowKit Go.Maps

theorem treeB_np {vec : List Int} {es : List En} (h : treeB vec es = true) (l : List UInt8) : ∀ i (hi : i < (notName l es).length), 0 < (notName l es)[i].name.length := by
  intro i hi
  have hm : (notName l es)[i] ∈ es := (List.mem_filter.1 (List.getElem_mem hi)).1
  obtain ⟨j, hj, he⟩ := List.getElem_of_mem hm
  rw [← he]
  exact treeB_names h j hj
theorem ebulk_filter (es : List En) (p : En → Bool) : ebulk (es.filter p) ≤ ebulk es := by
  induction es with
  | nil => simp [ebulk]
  | cons e es ih =>
    by_cases h : p e
    · simp [h, ebulk]; omega
    · simp [h, ebulk]; omega

theorem drVec_len {vec : List Int} {es : List En} (h : vec.length ≤ 1048576) : (drVec vec es).length ≤ 1048576 := by
  unfold drVec
  split
  · exact h
  · simp
theorem drEs_len {vec : List Int} {es : List En} {l : List UInt8} (h : es.length ≤ 1048576) : (drEs vec es l).length ≤ 1048576 := by
  unfold drEs
  split
  · exact Nat.le_trans (notName_le _ _) h
  · simp
theorem drEs_bulk {vec : List Int} {es : List En} {l : List UInt8} (h : ebulk es ≤ 1048576) : ebulk (drEs vec es l) ≤ 1048576 := by
  unfold drEs
  split
  · exact Nat.le_trans (ebulk_filter _ _) h
  · simp [ebulk]

theorem new2_cells {X wt : World} {v0 v1 : Value} {t : TypeId} (h : Below (X.alloc (.cells #[v0, v1] t)).heap.size (X.alloc (.cells #[v0, v1] t)) wt) :
    wt.cell? ⟨X.heap.size, 0, none⟩ = some v0 ∧ wt.cell? ⟨X.heap.size, 1, none⟩ = some v1 ∧ wt.frozen? ⟨X.heap.size, 0, none⟩ = false ∧ wt.frozen? ⟨X.heap.size, 1, none⟩ = false := by
  have hl : ∀ o, (⟨X.heap.size, o, none⟩ : Addr).block < (X.alloc (.cells #[v0, v1] t)).heap.size := fun o => by simp
  have hf : ∀ o, (X.alloc (.cells #[v0, v1] t)).frozen? ⟨X.heap.size, o, none⟩ = false := fun o => ((Fresh.refl X).alloc _ _) ⟨X.heap.size, o, none⟩ (Nat.le_refl _)
  exact ⟨(h.cell (hl 0)).trans (by simp), (h.cell (hl 1)).trans (by simp), (h.frozen (hl 0)).trans (hf 0), (h.frozen (hl 1)).trans (hf 1)⟩

theorem new2_drew {X wt : World} {v0 v1 : Value} {t : TypeId} (h : Below (X.alloc (.cells #[v0, v1] t)).drew.heap.size (X.alloc (.cells #[v0, v1] t)).drew wt) :
    wt.cell? ⟨X.heap.size, 0, none⟩ = some v0 ∧ wt.cell? ⟨X.heap.size, 1, none⟩ = some v1 ∧ wt.frozen? ⟨X.heap.size, 0, none⟩ = false ∧ wt.frozen? ⟨X.heap.size, 1, none⟩ = false :=
  new2_cells ((Below.refl _ _).drew.trans h)

theorem treeB_vec {vec : List Int} {es : List En} (h : treeB vec es = true) : ∃ a b c d, vec = [a, b, c, d] := by
  unfold treeB at h
  simp only [Bool.and_eq_true] at h
  exact vecB_four h.1.1.1

end Go.Proofs.YtepkicgnhjaokaaGreatDoor

namespace Go.Proofs.YtepkicgnhjaokaaGreatDoor
open Go.RowKit Go.Maps

/-- What any tree that is drawn keeps. -/
structure Wk (vec : List Int) (es : List En) : Prop where
  len : vec.length = 4
  num : ∀ m, m < 4 → 0 ≤ vec.getD m 0 ∧ vec.getD m 0 ≤ 1000
  few : es.length ≤ 12
  nm : ∀ e ∈ es, e.name.length ≤ 24
  dev : ∀ e ∈ es, 0 ≤ e.dev ∧ e.dev < 4
theorem nameB_24 {l : List UInt8} (h : nameB l = true) : l.length ≤ 24 := by
  unfold nameB at h
  split at h
  · cases h
  · simp only [Bool.and_eq_true, decide_eq_true_eq] at h
    exact h.2
theorem wk_dev {vec : List Int} {es : List En} (h : treeB vec es = true) : ∀ e ∈ es, 0 ≤ e.dev ∧ e.dev < 4 := by
  intro e he
  unfold treeB at h
  simp only [Bool.and_eq_true] at h
  have hf := tok_fit h.2 e he
  unfold fitB devB at hf
  simp only [Bool.and_eq_true, decide_eq_true_eq] at hf
  exact hf.1.1.2
theorem vecB_iff4d (a b c d : Int) : vecB [a, b, c, d] = true ↔ (0 ≤ a ∧ a ≤ 1000) ∧ (0 ≤ b ∧ b ≤ 1000) ∧ (0 ≤ c ∧ c ≤ 1000) ∧ (0 ≤ d ∧ d ≤ 1000) := by
  simp [vecB]
theorem Wk.of_ok {vec : List Int} {es : List En} (h : treeB vec es = true) : Wk vec es := by
  obtain ⟨a, b, c, d, rfl⟩ := treeB_four h
  have hd := wk_dev h
  have hl := treeB_len3 h
  unfold treeB at h
  simp only [Bool.and_eq_true, List.all_eq_true] at h
  have hv := (vecB_iff4d a b c d).1 h.1.1.1
  refine ⟨rfl, fun m hm => ?_, hl, fun e he => nameB_24 (h.1.2 e he), fun e he => hd e he⟩
  have : m = 0 ∨ m = 1 ∨ m = 2 ∨ m = 3 := by omega
  rcases this with rfl | rfl | rfl | rfl
  · exact hv.1
  · exact hv.2.1
  · exact hv.2.2.1
  · exact hv.2.2.2
theorem Wk.filter {vec : List Int} {es : List En} (h : Wk vec es) (p : En → Bool) : Wk vec (es.filter p) :=
  ⟨h.len, h.num, Nat.le_trans (List.length_filter_le _ _) h.few, fun e he => h.nm e (List.mem_filter.1 he).1, fun e he => h.dev e (List.mem_filter.1 he).1⟩
theorem Wk.new : Wk [0, 0, 0, 0] [] :=
  ⟨rfl, fun m hm => by
    have : m = 0 ∨ m = 1 ∨ m = 2 ∨ m = 3 := by omega
    rcases this with rfl | rfl | rfl | rfl <;> decide, by simp, fun e he => absurd he (by simp), fun e he => absurd he (by simp)⟩
theorem bulk_le24 : ∀ {es : List En}, (∀ e ∈ es, e.name.length ≤ 24) → ebulk es ≤ 24 * es.length
  | [], _ => by simp [ebulk]
  | e :: es, h => by
    have h1 := h e (by simp)
    have h2 := bulk_le24 (es := es) fun x hx => h x (by simp [hx])
    simp only [ebulk, List.length_cons]
    omega
theorem Wk.bulk {vec : List Int} {es : List En} (h : Wk vec es) : ebulk es ≤ 288 := by
  have := bulk_le24 h.nm
  have := h.few
  omega

/-- A tree: where its two parts are told to lie, and what they hold. -/
structure Tt where
  AV : Option Addr
  cv : Nat
  vec : List Int
  A : Option Addr
  c : Nat
  es : List En

/-- Its parts, readable; its entries at the head of a block. -/
structure TtIn (W : World) (t : Tt) : Prop where
  v : IntsIn W 0 W.heap.size t.AV t.vec
  e : EnsIn W 0 W.heap.size t.A t.es
  z : 0 < t.es.length → ∃ g, t.A = some ⟨g, 0, none⟩
  cap : t.es.length ≤ t.c
  wk : Wk t.vec t.es

theorem CurCells.no4 {w : World} {K : Nat} {code : List UInt8} (h : Cur w K code) {o : Nat} : w.cell? ⟨K, o + 3, none⟩ = none := by
  obtain ⟨A, c, i, x, h1, h2, h3, h4, h5, h6, h7⟩ := h
  exact h7.2 _ (by omega)
theorem Cur.nobyte {w : World} {K : Nat} {code : List UInt8} (h : Cur w K code) {o : Nat} {y : Int} : w.cell? ⟨K, o, none⟩ ≠ some (.int .u8 y) := fun e => by
  obtain ⟨A, c, i, x, h1, h2, h3, h4, h5, h6, h7⟩ := h
  have : o = 0 ∨ o = 1 ∨ o = 2 ∨ 3 ≤ o := by omega
  rcases this with rfl | rfl | rfl | ho
  · rw [h2] at e; cases e
  · rw [h3] at e; cases e
  · rw [h4] at e; cases e
  · rw [h7.2 _ ho] at e; cases e

section
variable {w w' : World} {K L B : Nat} {code : List UInt8}
/-- Bytes are not where the cursor lies. -/
theorem BytesIn.cur {A : Option Addr} {l : List UInt8} (h : BytesIn w L w.heap.size A l) (hC : Cur w K code) (ho : OffK K w w') : BytesIn w' L w'.heap.size A l := fun hl => by
  obtain ⟨b, o, e, h1, h2, hc⟩ := h hl
  have hz := ho.size
  refine ⟨b, o, e, h1, by omega, fun j hj => ?_⟩
  have hx := hc j hj
  refine (ho.cell (p := ⟨b, o + j, none⟩) h2 (fun e2 => ?_)).trans hx
  have e3 : b = K := e2
  subst e3
  exact hC.nobyte hx
theorem IntsIn.cur {A : Option Addr} {l : List Int} (h : IntsIn w L w.heap.size A l) (h4 : l.length = 4) (hC : Cur w K code) (ho : OffK K w w') : IntsIn w' L w'.heap.size A l := fun hl => by
  obtain ⟨b, o, e, h1, h2, hc⟩ := h hl
  have hz := ho.size
  refine ⟨b, o, e, h1, by omega, fun j hj => ?_⟩
  refine (ho.cell (p := ⟨b, o + j, none⟩) h2 (fun e2 => ?_)).trans (hc j hj)
  have e3 : b = K := e2
  subst e3
  have hx := hc 3 (by omega)
  rw [CurCells.no4 hC] at hx
  cases hx
theorem EnsIn.cur {A : Option Addr} {es : List En} (h : EnsIn w L w.heap.size A es) (hC : Cur w K code) (ho : OffK K w w') : EnsIn w' L w'.heap.size A es := fun hl => by
  obtain ⟨b, o, e, h1, h2, hc⟩ := h hl
  have hz := ho.size
  refine ⟨b, o, e, h1, by omega, fun i hi => ?_⟩
  obtain ⟨A', c', k0, k1, k2, k3, k4⟩ := hc i hi
  have hb : b ≠ K := fun e2 => by
    subst e2
    rw [CurCells.no4 hC] at k3
    cases k3
  exact ⟨A', c', (ho.cell (p := ⟨b, _, none⟩) h2 hb).trans k0, (ho.cell (p := ⟨b, _, none⟩) h2 hb).trans k1, (ho.cell (p := ⟨b, _, none⟩) h2 hb).trans k2, (ho.cell (p := ⟨b, _, none⟩) h2 hb).trans k3, BytesIn.cur k4 hC ho⟩
theorem TtIn.cur {t : Tt} (h : TtIn w t) (hC : Cur w K code) (ho : OffK K w w') : TtIn w' t :=
  ⟨h.v.cur h.wk.len hC ho, h.e.cur hC ho, h.z, h.cap, h.wk⟩
theorem TtIn.below {t : Tt} (h : TtIn w t) (hb : Below w.heap.size w w') : TtIn w' t :=
  ⟨(h.v.keep fun _ _ h2 => hb.cell h2).mono hb.size, (h.e.below hb).mono hb.size, h.z, h.cap, h.wk⟩
/-- Two cells that held slices turn. -/
theorem TtIn.two {t : Tt} (h : TtIn w t) {T d : Nat} {A0 A1 : Option Addr} {n0 c0 n1 c1 : Nat} (h0 : w.cell? ⟨T, d * 2, none⟩ = some (.slice A0 n0 c0)) (h1 : w.cell? ⟨T, d * 2 + 1, none⟩ = some (.slice A1 n1 c1))
    (hs : w.heap.size ≤ w'.heap.size) (hk : ∀ p : Addr, p ≠ ⟨T, d * 2, none⟩ → p ≠ ⟨T, d * 2 + 1, none⟩ → w'.cell? p = w.cell? p) : TtIn w' t := by
  have hint : ∀ (p : Addr) (k : IntKind) (y : Int), w.cell? p = some (.int k y) → w'.cell? p = some (.int k y) := fun p k y hp => by
    refine (hk p (fun e => ?_) (fun e => ?_)).trans hp
    · rw [e, h0] at hp; cases hp
    · rw [e, h1] at hp; cases hp
  refine ⟨fun hl => ?_, fun hl => ?_, h.z, h.cap, h.wk⟩
  · obtain ⟨b, o, e, h1, h2, hc⟩ := h.v hl
    exact ⟨b, o, e, h1, by omega, fun j hj => hint _ _ _ (hc j hj)⟩
  · obtain ⟨g, hg⟩ := h.z hl
    obtain ⟨b, o, e, h3, h2, hc⟩ := h.e hl
    rw [hg] at e
    injection e with e
    injection e with e1 e2
    subst e1
    subst e2
    refine ⟨g, 0, hg, h3, by omega, fun i hi => ?_⟩
    obtain ⟨A', c', k0, k1, k2, k3, k4⟩ := hc i hi
    refine ⟨A', c', ?_, hint _ _ _ k1, hint _ _ _ k2, hint _ _ _ k3, fun hl => ?_⟩
    · refine (hk _ (fun e => ?_) (fun e => ?_)).trans k0
      · injection e with e1 e2
        subst e1
        rw [e2, h1] at k1
        cases k1
      · injection e with e1 e2
        omega
    · obtain ⟨b', o', e', h5, h6, hc'⟩ := k4 hl
      exact ⟨b', o', e', h5, by omega, fun j hj => hint _ _ _ (hc' j hj)⟩
end

/-- The d-th one is put anew. -/
def upd (f : Nat → Tt) (d : Nat) (t : Tt) : Nat → Tt := fun i => if i = d then t else f i
theorem upd_same (f : Nat → Tt) (d : Nat) (t : Tt) : upd f d t d = t := if_pos rfl
theorem upd_else (f : Nat → Tt) {d i : Nat} (t : Tt) (h : i ≠ d) : upd f d t i = f i := if_neg h

/-- n trees in the slice that begins at block T. -/
structure Trs (W : World) (T n : Nat) (f : Nat → Tt) : Prop where
  c0 : ∀ i, i < n → W.cell? ⟨T, i * 2, none⟩ = some (.slice (f i).AV 4 (f i).cv)
  c1 : ∀ i, i < n → W.cell? ⟨T, i * 2 + 1, none⟩ = some (.slice (f i).A (f i).es.length (f i).c)
  fz : ∀ o, W.frozen? ⟨T, o, none⟩ = false
  lt : T < W.heap.size
  ok : ∀ i, i < n → TtIn W (f i)

section
variable {w w' : World} {T n K : Nat} {f : Nat → Tt} {code : List UInt8}
theorem Trs.below (h : Trs w T n f) (hb : Below w.heap.size w w') : Trs w' T n f :=
  ⟨fun i hi => (hb.cell (p := ⟨T, _, none⟩) h.lt).trans (h.c0 i hi), fun i hi => (hb.cell (p := ⟨T, _, none⟩) h.lt).trans (h.c1 i hi), fun o => (hb.frozen (p := ⟨T, o, none⟩) h.lt).trans (h.fz o), Nat.lt_of_lt_of_le h.lt hb.size, fun i hi => (h.ok i hi).below hb⟩
theorem Trs.cur (h : Trs w T n f) (hC : Cur w K code) (ho : OffK K w w') (hT : T ≠ K) : Trs w' T n f :=
  ⟨fun i hi => (ho.cell (p := ⟨T, _, none⟩) h.lt hT).trans (h.c0 i hi), fun i hi => (ho.cell (p := ⟨T, _, none⟩) h.lt hT).trans (h.c1 i hi), fun o => (ho.frozen (p := ⟨T, o, none⟩) h.lt hT).trans (h.fz o), Nat.lt_of_lt_of_le h.lt ho.size, fun i hi => (h.ok i hi).cur hC ho⟩
theorem Trs.put (h : Trs w T n f) {d : Nat} (hd : d < n) {t : Tt} (ht : TtIn w t) (hs : w.heap.size ≤ w'.heap.size) (hf : ∀ o, w'.frozen? ⟨T, o, none⟩ = w.frozen? ⟨T, o, none⟩)
    (hk : ∀ p : Addr, p ≠ ⟨T, d * 2, none⟩ → p ≠ ⟨T, d * 2 + 1, none⟩ → w'.cell? p = w.cell? p) (e0 : w'.cell? ⟨T, d * 2, none⟩ = some (.slice t.AV 4 t.cv)) (e1 : w'.cell? ⟨T, d * 2 + 1, none⟩ = some (.slice t.A t.es.length t.c)) : Trs w' T n (upd f d t) := by
  refine ⟨fun i hi => ?_, fun i hi => ?_, fun o => (hf o).trans (h.fz o), Nat.lt_of_lt_of_le h.lt hs, fun i hi => ?_⟩
  · by_cases hid : i = d
    · subst hid
      rw [upd_same]
      exact e0
    · rw [upd_else f t hid]
      exact (hk _ (by first | (simp; done) | (simp; omega)) (by first | (simp; done) | (simp; omega))).trans (h.c0 i hi)
  · by_cases hid : i = d
    · subst hid
      rw [upd_same]
      exact e1
    · rw [upd_else f t hid]
      exact (hk _ (by first | (simp; done) | (simp; omega)) (by first | (simp; done) | (simp; omega))).trans (h.c1 i hi)
  · have hx : TtIn w (upd f d t i) := by
      by_cases hid : i = d
      · subst hid
        rw [upd_same]
        exact ht
      · rw [upd_else f t hid]
        exact h.ok i hi
    exact hx.two (h.c0 d hd) (h.c1 d hd) hs hk
end

/-- The draw's state: n trees, the cursor. -/
structure Dq (w : World) (K : Nat) (code : List UInt8) (T n : Nat) (f : Nat → Tt) (X : World) : Prop where
  tr : Trs X T n f
  cur : Cur X K code
  off : OffK K w X
  hK : K < w.heap.size
  hT : w.heap.size ≤ T

section
variable {w X Y : World} {T n K : Nat} {f : Nat → Tt} {code : List UInt8}
theorem Dq.next (h : Dq w K code T n f X) (hc : Cur Y K code) (ho : OffK K X Y) : Dq w K code T n f Y :=
  ⟨h.tr.cur h.cur ho (by have := h.hK; have := h.hT; omega), hc, h.off.trans ho (.inl rfl), h.hK, h.hT⟩
theorem Dq.below (h : Dq w K code T n f X) (hb : Below X.heap.size X Y) : Dq w K code T n f Y :=
  ⟨h.tr.below hb, h.cur.below hb h.cur.lt, h.off.below hb, h.hK, h.hT⟩
theorem Dq.drew (h : Dq w K code T n f X) : Dq w K code T n f X.drew := h.below (Below.refl _ _).drew
theorem Dq.alloc (h : Dq w K code T n f X) (o : Obj) : Dq w K code T n f (X.alloc o) := h.below ((Below.refl _ _).alloc (Nat.le_refl _) _)
/-- The d-th tree's row turns. -/
theorem Dq.row (h : Dq w K code T n f X) {d : Nat} (hd : d < n) {A : Option Addr} {c : Nat} {es : List En} (hE : EnsIn X 0 X.heap.size A es) (hz : 0 < es.length → ∃ g, A = some ⟨g, 0, none⟩) (hc : es.length ≤ c) (hw : Wk (f d).vec es) :
    Dq w K code T n (upd f d ⟨(f d).AV, (f d).cv, (f d).vec, A, c, es⟩) (X.setCell ⟨T, d * 2 + 1, none⟩ (.slice A es.length c)) := by
  have hx := h.tr.ok d hd
  have hT := h.hT
  have hK := h.hK
  refine ⟨h.tr.put hd ⟨hx.v, hE, hz, hc, hw⟩ (by simp) (fun o => World.frozen?_setCell _ _ _ _) (fun p _ hp => World.cell?_setCell_other _ _ _ _ (Ne.symm hp)) ((World.cell?_setCell_other _ _ _ _ (by simp)).trans (h.tr.c0 d hd)) (World.cell?_setCell_same _ _ _ (h.tr.c1 d hd)),
    h.cur.set (by show K < T; omega) _, h.off.setCell (.inr (by show w.heap.size ≤ T; omega)) _, h.hK, h.hT⟩
/-- The d-th tree turns. -/
theorem Dq.both (h : Dq w K code T n f X) {d : Nat} (hd : d < n) {t : Tt} (ht : TtIn X t) :
    Dq w K code T n (upd f d t) ((X.setCell ⟨T, d * 2, none⟩ (.slice t.AV 4 t.cv)).setCell ⟨T, d * 2 + 1, none⟩ (.slice t.A t.es.length t.c)) := by
  have hT := h.hT
  have hK := h.hK
  refine ⟨h.tr.put hd ht (by simp) (fun o => by rw [World.frozen?_setCell, World.frozen?_setCell]) (fun p hp hp2 => (World.cell?_setCell_other _ _ _ _ (Ne.symm hp2)).trans (World.cell?_setCell_other _ _ _ _ (Ne.symm hp)))
      ((World.cell?_setCell_other _ _ _ _ (by simp)).trans (World.cell?_setCell_same _ _ _ (h.tr.c0 d hd))) (World.cell?_setCell_same _ _ _ ((World.cell?_setCell_other _ _ _ _ (by simp)).trans (h.tr.c1 d hd))),
    (h.cur.set (by show K < T; omega) _).set (by show K < T; omega) _, (h.off.setCell (.inr (by show w.heap.size ≤ T; omega)) _).setCell (.inr (by show w.heap.size ≤ T; omega)) _, h.hK, h.hT⟩
end

end Go.Proofs.YtepkicgnhjaokaaGreatDoor

namespace Go.Proofs.YtepkicgnhjaokaaGreatDoor
open Go.RowKit Go.Maps

def NewNm (K : Nat) (code : List UInt8) (w : World) (e : Ending) (w' : World) : Prop :=
  ∃ A l c, e = .returned (.slice A l.length c) ∧ (0 < l.length ∧ l.length ≤ 24) ∧ BytesIn w' w.heap.size w'.heap.size A l ∧ Cur w' K code ∧ OffK K w w'

set_option maxRecDepth 100000 in
set_option maxHeartbeats 1000000 in
theorem l3name_any (K : Nat) (code : List UInt8) (w : World) (hC : Cur w K code) :
    Calls Tryz.prog 34 #[.pointer (some ⟨K, 0, none⟩)] w (NewNm K code w) := by
  have HC := Lib.hid hC
  have hK := hC.lt
  clear hC
  go_enter Tryz.func34, Tryz.ntmps34
  go_wp2_with fail
  obtain ⟨W1, hW⟩ : ∃ X, X = w.alloc (.cells #[.string { data := #[97] }, .string { data := #[98] }, .string { data := #[195, 169, 116, 195, 169] }, .string { data := #[228, 184, 173, 230, 150, 135] }, .string { data := #[97] }, .string { data := #[122, 122] }] 9) := ⟨_, rfl⟩
  have HI1 := Lib.hid (show ∀ j, j < 6 → ∃ l : List UInt8, W1.cell? ⟨w.heap.size, j, none⟩ = some (.string ⟨l.toArray⟩) ∧ 0 < l.length ∧ l.length ≤ 24 from fun j hj => by
    rw [hW]
    have : j = 0 ∨ j = 1 ∨ j = 2 ∨ j = 3 ∨ j = 4 ∨ j = 5 := by omega
    rcases this with rfl | rfl | rfl | rfl | rfl | rfl
    · exact ⟨[97], by simp, by decide, by decide⟩
    · exact ⟨[98], by simp, by decide, by decide⟩
    · exact ⟨[195, 169, 116, 195, 169], by simp, by decide, by decide⟩
    · exact ⟨[228, 184, 173, 230, 150, 135], by simp, by decide, by decide⟩
    · exact ⟨[97], by simp, by decide, by decide⟩
    · exact ⟨[122, 122], by simp, by decide, by decide⟩)
  have hb1 : Below w.heap.size w W1 := by rw [hW]; exact (Below.refl _ _).alloc (Nat.le_refl _) _
  have hz1 : w.heap.size < W1.heap.size := by rw [hW]; simp
  have HO1 := Lib.hid (OffK.of_below (K := K) hb1 (Nat.le_refl _))
  have HC1 := Lib.hid (HC.out.below hb1 hK)
  rw [← hW]
  clear hW hb1 HC
  refine (l1Below_any K code 6 W1 HC1.out).mono ?_
  rintro e w2 ⟨x, rfl, hx, hc, ho⟩
  obtain ⟨n, rfl⟩ := Int.eq_ofNat_of_zero_le hx.1
  have hn : n < 6 := by have := hx.2.1 (by omega); omega
  obtain ⟨l, hl0, hl1, hl2⟩ := HI1.out n hn
  have hcell := (ho.cell (p := ⟨w.heap.size, n, none⟩) hz1 (by show w.heap.size ≠ K; omega)).trans hl0
  have hz2 := ho.size
  have HO2 := Lib.hid (HO1.out.trans ho (.inl rfl))
  have HC2 := Lib.hid hc
  have HL := Lib.hid (And.intro hl1 hl2)
  clear hx hc ho HO1 HC1 HI1 hl0 hl1 hl2
  have hcv := Lib.run_convert_string_bytes (P := Tryz.prog) w2 9 22 5 ⟨l.toArray⟩ Tryz.underlying9 Tryz.underlying22 Tryz.underlying5
  obtain ⟨W3, hW3⟩ : ∃ y, y = Lib.bytesWorld w2 5 ⟨l.toArray⟩ := ⟨_, rfl⟩
  obtain ⟨gc, hgc⟩ : ∃ y, y = grownCap w2 (ByteArray.size ⟨l.toArray⟩) 0 5 := ⟨_, rfl⟩
  rw [← hW3, ← hgc, show ByteArray.size ⟨l.toArray⟩ = l.length from rfl] at hcv
  have hb3 : Below w2.heap.size w2 W3 := by rw [hW3]; exact conv_below _ _ _
  have HB3 := Lib.hid (show BytesIn W3 w2.heap.size W3.heap.size (some ⟨w2.heap.size, 0, none⟩) l by rw [hW3]; exact conv_drawn w2 _ _ _ rfl _ (Nat.le_refl _))
  have HO3 := Lib.hid (HO2.out.below hb3)
  have HC3 := Lib.hid (HC2.out.below hb3 (by omega))
  clear hW3 hgc hb3 HO2 HC2
  go_wp2_with fail
  go_ret
  exact ⟨some ⟨w2.heap.size, 0, none⟩, l, gc, rfl, HL.out, HB3.out.low (by omega), HC3.out, HO3.out⟩

end Go.Proofs.YtepkicgnhjaokaaGreatDoor

namespace Go.Proofs.YtepkicgnhjaokaaGreatDoor
open Go.RowKit Go.Maps

theorem Tryz.infoTree : (Tryz.prog.info? 26).map (fun i => (i.zero, i.size, i.bytes)) = some (some (.agg #[.slice none 0 0, .slice none 0 0]), 2, 48) := by kernel_rfl

/-- A tree that was made: it may be no right one. -/
structure TtQ (W : World) (t : Tt) : Prop where
  v : IntsIn W 0 W.heap.size t.AV t.vec
  e : EnsIn W 0 W.heap.size t.A t.es
  z : 0 < t.es.length → ∃ g, t.A = some ⟨g, 0, none⟩
  cap : t.es.length ≤ t.c
  len : t.vec.length = 4
  few : t.es.length ≤ 24
  bulk : ebulk t.es ≤ 1000
theorem TtQ.below {w w' : World} {t : Tt} (h : TtQ w t) (hb : Below w.heap.size w w') : TtQ w' t :=
  ⟨(h.v.keep fun _ _ h2 => hb.cell h2).mono hb.size, (h.e.below hb).mono hb.size, h.z, h.cap, h.len, h.few, h.bulk⟩
theorem TtQ.ok {w : World} {t : Tt} (h : TtQ w t) (hb : treeB t.vec t.es = true) : TtIn w t := ⟨h.v, h.e, h.z, h.cap, .of_ok hb⟩

theorem treeOk_q {w : World} {t : Tt} (h : TtQ w t) : Calls Tryz.prog 24 #[.agg #[.slice t.AV 4 t.cv, .slice t.A t.es.length t.c]] w fun e w' => e = .returned (.bool (treeB t.vec t.es)) ∧ Below w.heap.size w w' := by
  have := specTreeOk_any t.AV t.vec t.cv t.A t.es t.c w h.v h.e (by rw [h.len]; omega) (by have := h.few; omega) (by have := h.bulk; omega) h.cap
  rw [h.len] at this
  exact this
theorem mgE_24 {vec : List Int} {es : List En} {vec2 : List Int} {us : List En} (h : ∀ e ∈ es, e.name.length ≤ 24) (h2 : ∀ e ∈ us, e.name.length ≤ 24) : ∀ e ∈ mgE vec es vec2 us, e.name.length ≤ 24 := by
  intro e he
  have hp : ∀ (xs l : List En), (insAll l xs).Perm (l ++ xs) := fun xs => by
    induction xs with
    | nil => intro l; simp [insAll]
    | cons x xs ih =>
      intro l
      have h2 : (insE l x ++ xs).Perm (l ++ x :: xs) := ((ins_perm l x).append_right xs).trans (by simpa using (List.perm_middle (a := x) (l₁ := l) (l₂ := xs)).symm)
      exact (ih (insE l x)).trans h2
  have hm : e ∈ fil (q1B vec2 us) es ++ fil (q2B vec es) us := ((hp _ _).trans ((hp _ _).append_right _)).mem_iff.1 he
  rcases List.mem_append.1 hm with hm | hm
  · exact h e (List.mem_filter.1 hm).1
  · exact h2 e (List.mem_filter.1 hm).1
theorem mgE_len (vec : List Int) (es : List En) (vec2 : List Int) (us : List En) : (mgE vec es vec2 us).length ≤ es.length + us.length := by
  unfold mgE mg1
  rw [insAll_len, insAll_len]
  have h1 : (fil (q1B vec2 us) es).length ≤ es.length := List.length_filter_le _ _
  have h2 : (fil (q2B vec es) us).length ≤ us.length := List.length_filter_le _ _
  simp only [List.length_nil]
  omega
theorem l3merge_q {w : World} {t u : Tt} (h : TtIn w t) (h2 : TtIn w u) : Calls Tryz.prog 77 #[.agg #[.slice t.AV 4 t.cv, .slice t.A t.es.length t.c], .agg #[.slice u.AV 4 u.cv, .slice u.A u.es.length u.c]] w fun e w' => ∃ s, e = .returned (.agg #[.slice s.AV 4 s.cv, .slice s.A s.es.length s.c]) ∧ TtQ w' s ∧ Below w.heap.size w w' := by
  have f1 := h.wk.few
  have f2 := h2.wk.few
  refine (l3merge_own t.AV t.vec t.cv t.A t.es t.c u.AV u.vec u.cv u.A u.es u.c w h.v h.e h2.v h2.e h.wk.len h2.wk.len (by omega) (by omega) h.wk.dev h2.wk.dev).mono ?_
  rintro e w' ⟨AV, cv, A, c, rfl, hc, hi, he, hz, hb⟩
  have hl := mgE_len t.vec t.es u.vec u.es
  have hk := bulk_le24 (mgE_24 (vec := t.vec) (vec2 := u.vec) h.wk.nm h2.wk.nm)
  exact ⟨⟨AV, cv, mxs t.vec u.vec 4, A, c, mgE t.vec t.es u.vec u.es⟩, rfl, ⟨hi, he, fun hl => by
    rcases hz with rfl | hz
    · obtain ⟨b, o, e, _⟩ := he hl
      cases e
    · exact hz, hc, by simp [mxs], by show (mgE _ _ _ _).length ≤ 24; omega, by show ebulk (mgE _ _ _ _) ≤ 1000; omega⟩, hb⟩
theorem l3put_q {w : World} {t : Tt} (h : TtIn w t) (d : Nat) (hd : d < 4) {Ab : Option Addr} {l : List UInt8} {cb : Nat} (val : Int) (hB : BytesIn w 0 w.heap.size Ab l) (hl : l.length ≤ 24) : Calls Tryz.prog 78 #[.agg #[.slice t.AV 4 t.cv, .slice t.A t.es.length t.c], .int .i64 d, .slice Ab l.length cb, .int .i64 val] w fun e w' => ∃ s, e = .returned (.agg #[.slice s.AV 4 s.cv, .slice s.A s.es.length s.c]) ∧ TtQ w' s ∧ Below w.heap.size w w' := by
  have f1 := h.wk.few
  have hn := h.wk.num d hd
  have hp := l3put_own t.AV t.vec t.cv t.A t.es t.c Ab l cb d val w h.v h.e hB (by rw [h.wk.len]; omega) (by omega) (by rw [h.wk.len]; exact hd) hn.1 (by omega) (by omega)
  rw [h.wk.len] at hp
  refine hp.mono ?_
  rintro e w' ⟨AV, cv, A, c, rfl, hc, hi, he, hz, hb⟩
  have hl2 : (puE t.vec t.es d l val).length ≤ 13 := by
    unfold puE
    rw [ins_len]
    have := notName_le l t.es
    omega
  have hk : ∀ e ∈ puE t.vec t.es d l val, e.name.length ≤ 24 := fun e he => by
    rcases List.mem_cons.1 ((ins_perm _ _).mem_iff.1 he) with rfl | he
    · exact hl
    · exact h.wk.nm e (List.mem_filter.1 he).1
  have hk2 := bulk_le24 hk
  exact ⟨⟨AV, cv, puV t.vec d, A, c, puE t.vec t.es d l val⟩, rfl, ⟨hi, he, fun _ => hz, hc, by simp [puV, h.wk.len], by show (puE _ _ _ _ _).length ≤ 24; omega, by show ebulk (puE _ _ _ _ _) ≤ 1000; omega⟩, hb⟩

/-- Two cells of a variable that held slices turn. -/
theorem TtQ.two {w w' : World} {t : Tt} (h : TtQ w t) {b : Nat} {A0 A1 : Option Addr} {n0 c0 n1 c1 : Nat} (h0 : w.cell? ⟨b, 0, none⟩ = some (.slice A0 n0 c0)) (h1 : w.cell? ⟨b, 1, none⟩ = some (.slice A1 n1 c1))
    (hs : w.heap.size ≤ w'.heap.size) (hk : ∀ p : Addr, p ≠ ⟨b, 0, none⟩ → p ≠ ⟨b, 1, none⟩ → w'.cell? p = w.cell? p) : TtQ w' t := by
  have hint : ∀ (p : Addr) (k : IntKind) (y : Int), w.cell? p = some (.int k y) → w'.cell? p = some (.int k y) := fun p k y hp => by
    refine (hk p (fun e => ?_) (fun e => ?_)).trans hp
    · rw [e, h0] at hp; cases hp
    · rw [e, h1] at hp; cases hp
  refine ⟨fun hl => ?_, fun hl => ?_, h.z, h.cap, h.len, h.few, h.bulk⟩
  · obtain ⟨b, o, e, h1, h2, hc⟩ := h.v hl
    exact ⟨b, o, e, h1, by omega, fun j hj => hint _ _ _ (hc j hj)⟩
  · obtain ⟨g, hg⟩ := h.z hl
    obtain ⟨b, o, e, h3, h2, hc⟩ := h.e hl
    rw [hg] at e
    injection e with e
    injection e with e1 e2
    subst e1
    subst e2
    refine ⟨g, 0, hg, h3, by omega, fun i hi => ?_⟩
    obtain ⟨A', c', k0, k1, k2, k3, k4⟩ := hc i hi
    refine ⟨A', c', ?_, hint _ _ _ k1, hint _ _ _ k2, hint _ _ _ k3, fun hl => ?_⟩
    · refine (hk _ (fun e => ?_) (fun e => ?_)).trans k0
      · injection e with e1 e2
        subst e1
        rw [e2, h1] at k1
        cases k1
      · injection e with e1 e2
        omega
    · obtain ⟨b', o', e', h5, h6, hc'⟩ := k4 hl
      exact ⟨b', o', e', h5, by omega, fun j hj => hint _ _ _ (hc' j hj)⟩
theorem TtQ.box {X : World} {t : Tt} (h : TtQ X t) {b : Nat} {A0 A1 : Option Addr} {n0 c0 n1 c1 : Nat} (h0 : X.cell? ⟨b, 0, none⟩ = some (.slice A0 n0 c0)) (h1 : X.cell? ⟨b, 1, none⟩ = some (.slice A1 n1 c1)) (v0 v1 : Value) : TtQ ((X.setCell ⟨b, 0, none⟩ v0).setCell ⟨b, 1, none⟩ v1) t :=
  h.two h0 h1 (by simp) fun _ hp hp2 => (World.cell?_setCell_other _ _ _ _ (Ne.symm hp2)).trans (World.cell?_setCell_other _ _ _ _ (Ne.symm hp))
theorem Dq.box {w X : World} {T n K : Nat} {f : Nat → Tt} {code : List UInt8} (h : Dq w K code T n f X) {b : Nat} {A0 A1 : Option Addr} {n0 c0 n1 c1 : Nat} (h0 : X.cell? ⟨b, 0, none⟩ = some (.slice A0 n0 c0)) (h1 : X.cell? ⟨b, 1, none⟩ = some (.slice A1 n1 c1)) (hb : w.heap.size ≤ b) (hT : b ≠ T) (v0 v1 : Value) :
    Dq w K code T n f ((X.setCell ⟨b, 0, none⟩ v0).setCell ⟨b, 1, none⟩ v1) := by
  have hK := h.hK
  have hk : ∀ p : Addr, p ≠ ⟨b, 0, none⟩ → p ≠ ⟨b, 1, none⟩ → ((X.setCell ⟨b, 0, none⟩ v0).setCell ⟨b, 1, none⟩ v1).cell? p = X.cell? p := fun p hp hp2 => (World.cell?_setCell_other _ _ _ _ (Ne.symm hp2)).trans (World.cell?_setCell_other _ _ _ _ (Ne.symm hp))
  have hne : ∀ o o', (⟨T, o, none⟩ : Addr) ≠ ⟨b, o', none⟩ := fun o o' e => by injection e with e; exact hT e.symm
  exact ⟨⟨fun i hi => (hk _ (hne _ _) (hne _ _)).trans (h.tr.c0 i hi), fun i hi => (hk _ (hne _ _) (hne _ _)).trans (h.tr.c1 i hi), fun o => by rw [World.frozen?_setCell, World.frozen?_setCell]; exact h.tr.fz o, by have := h.tr.lt; simpa using this, fun i hi => (h.tr.ok i hi).two (T := b) (d := 0) h0 h1 (by simp) hk⟩,
    (h.cur.set (by show K < b; omega) _).set (by show K < b; omega) _, (h.off.setCell (.inr hb) _).setCell (.inr hb) _, h.hK, h.hT⟩
theorem box_off {K : Nat} {X Y : World} {v0 v1 : Value} {t : TypeId} (h : OffK K (X.alloc (.cells #[v0, v1] t)) Y) (hK : K < X.heap.size) :
    Y.cell? ⟨X.heap.size, 0, none⟩ = some v0 ∧ Y.cell? ⟨X.heap.size, 1, none⟩ = some v1 ∧ Y.frozen? ⟨X.heap.size, 0, none⟩ = false ∧ Y.frozen? ⟨X.heap.size, 1, none⟩ = false := by
  have hl : ∀ o, (⟨X.heap.size, o, none⟩ : Addr).block < (X.alloc (.cells #[v0, v1] t)).heap.size := fun o => by simp
  have hne : ∀ o, (⟨X.heap.size, o, none⟩ : Addr).block ≠ K := fun o => by show X.heap.size ≠ K; omega
  have hf : ∀ o, (X.alloc (.cells #[v0, v1] t)).frozen? ⟨X.heap.size, o, none⟩ = false := fun o => ((Fresh.refl X).alloc _ _) ⟨X.heap.size, o, none⟩ (Nat.le_refl _)
  exact ⟨(h.cell (hl 0) (hne 0)).trans (by simp), (h.cell (hl 1) (hne 1)).trans (by simp), (h.frozen (hl 0) (hne 0)).trans (hf 0), (h.frozen (hl 1) (hne 1)).trans (hf 1)⟩
theorem box_offd {K : Nat} {X Y : World} {v0 v1 : Value} {t : TypeId} (h : OffK K (X.alloc (.cells #[v0, v1] t)).drew Y) (hK : K < X.heap.size) :
    Y.cell? ⟨X.heap.size, 0, none⟩ = some v0 ∧ Y.cell? ⟨X.heap.size, 1, none⟩ = some v1 ∧ Y.frozen? ⟨X.heap.size, 0, none⟩ = false ∧ Y.frozen? ⟨X.heap.size, 1, none⟩ = false :=
  box_off ((OffK.refl K (X.alloc (.cells #[v0, v1] t))).drew.trans h (.inl rfl)) hK

/-- A new tree's numbers lie in block b. -/
def NewB (W : World) (b : Nat) : Prop := W.heap[b]? = some (.cells (madeCells #[.int .i64 0] 4) 3 (0, 0))
theorem NewB.lt {W : World} {b : Nat} (h : NewB W b) : b < W.heap.size := (Array.getElem?_eq_some_iff.1 h).1
theorem NewB.ints {W : World} {b : Nat} (h : NewB W b) : IntsIn W 0 W.heap.size (some ⟨b, 0, none⟩) [0, 0, 0, 0] := fun _ =>
  ⟨b, 0, rfl, Nat.zero_le _, h.lt, fun j hj => by
    have hj4 : j = 0 ∨ j = 1 ∨ j = 2 ∨ j = 3 := by simp at hj; omega
    unfold NewB at h
    rw [World.cell?, h]
    have hl : ∀ k : Nat, (madeCells #[Value.int .i64 0] 4)[k]? = (List.replicate 4 (Value.int .i64 0))[k]? := fun k => by rw [← toList_madeCells_one, Array.getElem?_toList]
    refine (hl _).trans ?_
    rcases hj4 with rfl | rfl | rfl | rfl <;> rfl⟩
theorem NewB.below {W W' : World} {b : Nat} (h : NewB W b) (hb : Below W.heap.size W W') : NewB W' b := (hb.block b h.lt).trans h
theorem NewB.grown {W W' : World} {b base k : Nat} {v : Value} {xs : List Value} (h : NewB W b) (ho : W.ownsRow base 26 2 v k xs) (hg : W.grownBy W' v.ownBlock) : NewB W' b := by
  refine (hg.block b h.lt fun e => ?_).trans h
  obtain ⟨_, hh | ⟨g, cap, cur, hv, _, hb, _⟩⟩ := ho
  · rw [hh.1] at e
    cases e
  · rw [hv] at e
    injection e with e
    subst e
    unfold NewB at h
    rw [hb] at h
    injection h with h
    injection h with _ h _
    exact absurd h (by decide)

set_option maxRecDepth 100000 in
set_option maxHeartbeats 1000000 in
theorem l3new_typ (w : World) :
    Calls Tryz.prog 75 #[] w fun e w' => ∃ b, e = .returned (.agg #[.slice (some ⟨b, 0, none⟩) 4 4, .slice none 0 0]) ∧ NewB w' b ∧ w.heap.size ≤ b ∧ Below w.heap.size w w' := by
  have hmk := fun W => run_make_ints 4 (by omega) W
  simp only [Int.cast_ofNat_Int] at hmk
  go_enter Tryz.func75, Tryz.ntmps75
  go_wp2_with fail
  refine bodyPost_ret (v := .agg #[.slice (some ⟨w.heap.size + 1, 0, none⟩) 4 4, .slice none 0 0]) (by simp [results, Tryz.results75, go_sem]) rfl ?_
  obtain ⟨W0, hW0⟩ : ∃ W0, W0 = w.alloc (.cells #[.slice (some ⟨w.heap.size + 1, 0, none⟩) 4 4, .slice none 0 0] 26) := ⟨_, rfl⟩
  have hz0 : W0.heap.size = w.heap.size + 1 := by rw [hW0]; simp
  have hb : Below w.heap.size w (W0.alloc (.cells (madeCells #[.int .i64 0] 4) 3)) := by rw [hW0]; exact ((Below.refl _ _).alloc (Nat.le_refl _) _).alloc (by simp) _
  rw [← hW0]
  refine ⟨w.heap.size + 1, rfl, ?_, by omega, hb⟩
  rw [← hz0]
  exact heap_alloc_new W0 _

def tv0 (bs : List Nat) : List Value := bs.flatMap fun b => [.slice (some ⟨b, 0, none⟩) 4 4, .slice none 0 0]
theorem tv0_snoc (bs : List Nat) (b : Nat) : tv0 (bs ++ [b]) = tv0 bs ++ [.slice (some ⟨b, 0, none⟩) 4 4, .slice none 0 0] := by simp [tv0]
theorem tv0_get : ∀ (bs : List Nat) (i : Nat), i < bs.length → (tv0 bs)[i * 2]? = some (.slice (some ⟨bs.getD i 0, 0, none⟩) 4 4) ∧ (tv0 bs)[i * 2 + 1]? = some (.slice none 0 0)
  | [], i, hi => absurd hi (by simp)
  | b :: bs, 0, _ => ⟨rfl, rfl⟩
  | b :: bs, i + 1, hi => by
    have h := tv0_get bs i (by simpa using hi)
    have e : tv0 (b :: bs) = .slice (some ⟨b, 0, none⟩) 4 4 :: .slice none 0 0 :: tv0 bs := rfl
    rw [e, show (i + 1) * 2 = i * 2 + 1 + 1 by omega]
    simpa using h
def newT (bs : List Nat) (i : Nat) : Tt := ⟨some ⟨bs.getD i 0, 0, none⟩, 4, [0, 0, 0, 0], none, 0, []⟩
theorem trs_of_row {W : World} {base n c : Nat} {A : Option Addr} {bs : List Nat} (ho : W.ownsRow base 26 2 (.slice A n c) n (tv0 bs)) (hl : bs.length = n) (hn : 0 < n) (hb : ∀ b ∈ bs, NewB W b) :
    ∃ T, A = some ⟨T, 0, none⟩ ∧ base ≤ T ∧ Trs W T n (newT bs) := by
  obtain ⟨_, hh | ⟨g, cap, cur, hv, hg, hbk, _, _, _, htk⟩⟩ := ho
  · omega
  · injection hv with h1 _ _
    subst h1
    have hq : ∀ k, k < n * 2 → cur[k]? = (tv0 bs)[k]? := fun k hk => by
      rw [← htk, List.getElem?_take, if_pos (by omega)]
      simp
    have hce : ∀ k v, cur[k]? = some v → W.cell? ⟨g, k, none⟩ = some v := fun k v hv => by rw [World.cell?, hbk]; simpa using hv
    refine ⟨g, rfl, hg, fun i hi => hce _ _ ((hq _ (by omega)).trans (tv0_get bs i (by omega)).1), fun i hi => hce _ _ ((hq _ (by omega)).trans (tv0_get bs i (by omega)).2), fun o => by simp [World.frozen?, hbk], (Array.getElem?_eq_some_iff.1 hbk).1, fun i hi => ⟨?_, fun h => absurd h (by simp [newT]), fun h => absurd h (by simp [newT]), Nat.le_refl _, .new⟩⟩
    refine NewB.ints (hb _ ?_)
    rw [List.getD_eq_getElem?_getD, List.getElem?_eq_getElem (by omega)]
    exact List.getElem_mem _
theorem new2T (w : World) (v0 v1 : Value) (t : TypeId) : ∀ j u, [v0, v1][j]? = some u → (w.alloc (.cells #[v0, v1] t)).cell? ((⟨w.heap.size, 0, none⟩ : Addr).add j) = some u := by
  intro j u hu
  have h := heap_alloc_new w (.cells #[v0, v1] t)
  rw [Addr.add_lit, Nat.zero_add, World.cell?, h]
  simpa using hu

end Go.Proofs.YtepkicgnhjaokaaGreatDoor

namespace Go.Proofs.YtepkicgnhjaokaaGreatDoor
open Go.RowKit Go.Maps

def NewDs (K : Nat) (code : List UInt8) (n : Nat) (w : World) (e : Ending) (w' : World) : Prop :=
  ∃ T c f, e = .returned (.slice (some ⟨T, 0, none⟩) n c) ∧ Dq w K code T n f w'

set_option maxRecDepth 100000 in
set_option maxHeartbeats 4000000 in
theorem l3draws_any (K : Nat) (code : List UInt8) (n : Nat) (hn0 : 0 < n) (hn4 : n ≤ 4) (w : World) (hC : Cur w K code) :
    Calls Tryz.prog 47 #[.pointer (some ⟨K, 0, none⟩), .int .i64 n] w (NewDs K code n w) := by
  have HC := Lib.hid hC
  have hK := hC.lt
  clear hC
  go_enter Tryz.func47, Tryz.ntmps47
  go_wp2_with fail
  go_loopw [5, 6] (fun l i wr => ∃ (k : Nat) (bs : List Nat) (A : Option Addr) (c : Nat), k ≤ n ∧ i = .int .i64 k ∧ bs.length = k ∧ l = .slice A k c ∧ wr.ownsRow w.heap.size 26 2 (.slice A k c) k (tv0 bs) ∧ (∀ b ∈ bs, NewB wr b) ∧ Below w.heap.size w wr) (fun _ i _ => n - (intOf i).toNat)
  case atStart => exact ⟨0, [], none, 0, Nat.zero_le _, rfl, rfl, rfl, World.ownsRow_nil _ _ _ _, fun b h => absurd h (by simp), Below.refl _ _⟩
  case round =>
    obtain ⟨k, bs, A, c, hk, rfl, hbl, rfl, hown, hnb, hbr⟩ := hrel
    have HOwn := Lib.hid hown
    have HNb := Lib.hid hnb
    have HBr := Lib.hid hbr
    have HBl := Lib.hid hbl
    have hzr := hbr.size
    clear hown hnb hbr hbl
    by_cases hlt : k < n
    · go_wp2_with fail
      refine (l3new_typ _).mono ?_
      rintro e w1 ⟨b, rfl, hb, hbs, hbw⟩
      have hz1 := hbw.size
      have HOwn1 := Lib.hid (ownsRow_below HOwn.out hbw fun g hg => (HOwn.out.lt g hg).2)
      have HNb1 := Lib.hid (show ∀ x ∈ bs ++ [b], NewB w1 x from fun x hx => by
        rcases List.mem_append.1 hx with h | h
        · exact (HNb.out x h).below hbw
        · simp only [List.mem_singleton] at h
          subst h
          exact hb)
      have HBr1 := Lib.hid (HBr.out.trans (hbw.mono hzr))
      obtain ⟨i1, hi1, hy0, hy1, hy2⟩ := info_parts Tryz.infoTree
      clear hb hbs hbw HOwn HNb HBr
      go_wp2_with (at_builtin; refine wpList_append_own _ rfl _ _ 84 rfl w.heap.size 26 i1 (.agg #[.slice none 0 0, .slice none 0 0]) 2 48 Tryz.underlying84 hi1 hy0 hy1 hy2 rfl (by decide) _ _ _ rfl (HOwn1.out.alloc _) ⟨w1.heap.size, 0, none⟩ 1 1 [.slice (some ⟨b, 0, none⟩) 4 4, .slice none 0 0] rfl rfl ?c1 ?c2 ?c3 ?c4 ?c5 ?_)
      case c1 => exact new2T _ _ _ _
      case c2 => intro u hu; simp at hu; rcases hu with rfl | rfl <;> rfl
      case c3 => unfold maxLen; omega
      case c4 => omega
      case c5 => first | omega | (simp; omega)
      intro v12 w12 hrow12 hgr12 _
      obtain ⟨A12, c12, rfl⟩ := row_shapeN hrow12
      have HRow12 := Lib.hid hrow12
      have HNb12 := Lib.hid (show ∀ x ∈ bs ++ [b], NewB w12 x from fun x hx => ((HNb1.out x hx).below ((Below.refl _ _).alloc (Nat.le_refl _) _)).grown (HOwn1.out.alloc _) hgr12)
      have HB12 := Lib.hid ((HBr1.out.alloc (by omega) (.cells #[.slice (some ⟨b, 0, none⟩) 4 4, .slice none 0 0] 26)).grown hgr12 (by simp; omega) (fun g hg => (HOwn1.out.lt g hg).1))
      clear hrow12 hgr12 HOwn1 HNb1 HBr1
      go_wp2_with fail
      go_roundw
      case rel => exact ⟨k + 1, bs ++ [b], A12, c12, by omega, by go_num, by simp [HBl.out], rfl, by rw [tv0_snoc]; exact HRow12.out, HNb12.out, HB12.out⟩
      case measure => simp [intOf]; omega
    · have hke : k = n := by omega
      subst hke
      obtain ⟨T, rfl, hT, htr⟩ := trs_of_row HOwn.out HBl.out hn0 HNb.out
      have HD := Lib.hid (show Dq w K code T k (newT bs) wr from ⟨htr, HC.out.below HBr.out hK, OffK.of_below HBr.out (Nat.le_refl _), hK, hT⟩)
      clear htr HOwn HNb HBr HBl HC
      go_wp2_with fail
      refine (l1Below_any K code 14 _ HD.out.cur).mono ?_
      rintro e w2 ⟨x1, rfl, hx1, hc1, ho1⟩
      obtain ⟨m, rfl⟩ := Int.eq_ofNat_of_zero_le hx1.1
      have hm : m < 14 := by have := hx1.2.1 (by omega); omega
      have HD2 := Lib.hid (HD.out.next hc1 ho1)
      clear hx1 hc1 ho1 HD
      go_wp2_with fail
      go_loopw [8] (fun i wq => ∃ (j : Nat) (f : Nat → Tt), j ≤ m ∧ i = .int .i64 j ∧ Dq w K code T k f wq) (fun i _ => m - (intOf i).toNat)
      case atStart => exact ⟨0, _, Nat.zero_le _, rfl, HD2.out⟩
      case round =>
        obtain ⟨j, f, hj, rfl, hd⟩ := hrel
        have HD := Lib.hid hd
        clear hd HD2
        by_cases hlt2 : j < m
        · go_wp2_with fail
          refine (l1Below_any K code k _ HD.out.cur).mono ?_
          rintro e w3 ⟨x3, rfl, hx3, hc3, ho3⟩
          obtain ⟨d, rfl⟩ := Int.eq_ofNat_of_zero_le hx3.1
          have hd : d < k := by have := hx3.2.1 (by omega); omega
          have HD3 := Lib.hid (HD.out.next hc3 ho3)
          clear hx3 hc3 ho3 HD
          go_wp2_with fail
          refine (l1Below_any K code 5 _ HD3.out.cur).mono ?_
          rintro e w4 ⟨x4, rfl, hx4, hc4, ho4⟩
          have HD4 := Lib.hid (HD3.out.next hc4 ho4)
          clear hx4 hc4 ho4 HD3
          have HS := Lib.hid (show ∀ X, Dq w K code T k f X → ((∀ i, i < k → X.cell? ⟨T, i * 2, none⟩ = some (.slice (f i).AV 4 (f i).cv)) ∧ (∀ i, i < k → X.cell? ⟨T, i * 2 + 1, none⟩ = some (.slice (f i).A (f i).es.length (f i).c))) from fun X h => ⟨h.tr.c0, h.tr.c1⟩)
          have HFz := Lib.hid (show ∀ X, Dq w K code T k f X → (∀ o, X.frozen? ⟨T, o, none⟩ = false) ∧ T < X.heap.size from fun X h => ⟨h.tr.fz, h.tr.lt⟩)
          have hdk : (d : Int) < (k : Int) := by omega
          by_cases h0 : x4 = 0
          · subst h0
            go_upto_region 16 with fail
            have c14 := HD4.out.tr.c1 d hd
            have lT4 := HD4.out.tr.lt
            go_region_law
              (first
                | (go_simp
                   go_at_call 34
                   refine (l3name_any K code _ (Dq.cur (show Dq w K code T k f _ from by repeat first | with_reducible exact HD4.out | with_reducible exact HD5.out | with_reducible exact HD6.out | with_reducible apply Dq.drew | with_reducible apply Dq.alloc))).mono ?_
                   rintro r w5 ⟨An, nm, cn, rfl, hnl, hnb, hc5, ho5⟩
                   have HD5 := Lib.hid (Dq.next (show Dq w K code T k f _ from by repeat first | with_reducible exact HD4.out | with_reducible exact HD5.out | with_reducible exact HD6.out | with_reducible apply Dq.drew | with_reducible apply Dq.alloc) hc5 ho5)
                   have HN5 := Lib.hid (show BytesIn w5 0 w5.heap.size An nm from hnb.low (Nat.zero_le _))
                   have c15 := HD5.out.tr.c1 d hd
                   have lT5 := HD5.out.tr.lt
                   clear hnb hc5 ho5
                   go_wp2_with fail)
                | (go_simp
                   go_at_call 76
                   refine (l3without_own (f d).A (f d).es (f d).c An nm cn _ _ ?_ (Nat.le_refl _) ?_ ?_).mono ?_
                   · exact ((show Dq w K code T k f _ from by repeat first | with_reducible exact HD4.out | with_reducible exact HD5.out | with_reducible exact HD6.out | with_reducible apply Dq.drew | with_reducible apply Dq.alloc).tr.ok d hd).e
                   · have := (HD4.out.tr.ok d hd).wk.few
                     omega
                   · exact HN5.out
                   rintro r w6 ⟨A6, c6, rfl, hc6, hz6, hwo, hb6⟩
                   have HD6 := Lib.hid (Dq.below (show Dq w K code T k f _ from by repeat first | with_reducible exact HD4.out | with_reducible exact HD5.out | with_reducible exact HD6.out | with_reducible apply Dq.drew | with_reducible apply Dq.alloc) hb6)
                   have HE6 := Lib.hid (show EnsIn w6 0 w6.heap.size A6 (notName nm (f d).es) from hwo.ens hb6.size)
                   have HZ6 := Lib.hid (show 0 < (notName nm (f d).es).length → ∃ g, A6 = some ⟨g, 0, none⟩ from fun hl => by
                     rcases hz6 with ⟨_, h⟩ | h
                     · omega
                     · exact h)
                   have HC6 := Lib.hid hc6
                   have c16 := HD6.out.tr.c1 d hd
                   have sf := HD6.out.tr.fz (d * 2 + 1)
                   have lT6 := HD6.out.tr.lt
                   clear hc6 hz6 hwo hb6
                   go_wp2_with fail))
            all_goals
              have HD7 := Lib.hid (HD6.out.row hd HE6.out HZ6.out HC6.out ((HD6.out.tr.ok d hd).wk.filter _))
              clear HD5 HN5 HE6 HZ6 HC6 hnl
              go_wp2_with fail
              go_roundw
              case rel => exact ⟨j + 1, _, by omega, by go_num, HD7.out⟩
              case measure => simp [intOf]; omega
          · by_cases h1 : x4 = 1
            · subst h1
              have hz4 := HD4.out.hK
              have hK4 : K < w4.heap.size := HD4.out.cur.lt
              have hT4 := HD4.out.tr.lt
              have hw4 := HD4.out.off.size
              go_upto_region 18 with fail
              go_cut [10] from 65 to 75 (fun s10 wx => ∃ (b : Nat) (s : Tt), s10 = .pointer (some ⟨b, 0, none⟩) ∧ (wx.cell? ⟨b, 0, none⟩ = some (.slice s.AV 4 s.cv) ∧ wx.cell? ⟨b, 1, none⟩ = some (.slice s.A s.es.length s.c)) ∧ TtQ wx s ∧ Dq w K code T k f wx)
              case first =>
                go_region_held3 (fun X => (∀ i, i < k → X.cell? ⟨T, i * 2, none⟩ = some (.slice (f i).AV 4 (f i).cv)) ∧ (∀ i, i < k → X.cell? ⟨T, i * 2 + 1, none⟩ = some (.slice (f i).A (f i).es.length (f i).c)))
                  (first
                    | (refine HS.out _ (Dq.box HD6.out q0 q1 (by first | omega | (simp; omega)) (by first | omega | (simp; omega)) _ _))
                    | (refine HS.out _ ?_; repeat first | with_reducible exact HD4.out | with_reducible exact HD5.out | with_reducible exact HD6.out | with_reducible apply Dq.drew | with_reducible apply Dq.alloc))
                  (first
                    | (go_at_call 33
                       refine (l1Below_any K code k _ (Dq.cur (show Dq w K code T k f _ from by repeat first | with_reducible exact HD4.out | with_reducible exact HD5.out | with_reducible exact HD6.out | with_reducible apply Dq.drew | with_reducible apply Dq.alloc))).mono ?_
                       rintro r w5 ⟨x5, rfl, hx5, hc5, ho5⟩
                       obtain ⟨e5, rfl⟩ := Int.eq_ofNat_of_zero_le hx5.1
                       have he5 : e5 < k := by have := hx5.2.1 (by omega); omega
                       have he5' : (e5 : Int) < (k : Int) := by omega
                       have HD5 := Lib.hid (Dq.next (show Dq w K code T k f _ from by repeat first | with_reducible exact HD4.out | with_reducible exact HD5.out | with_reducible exact HD6.out | with_reducible apply Dq.drew | with_reducible apply Dq.alloc) hc5 ho5)
                       try (first | (have hq := box_off ho5 hK4; obtain ⟨q0, q1, qf0, qf1⟩ := hq) | (have hq := box_offd ho5 hK4; obtain ⟨q0, q1, qf0, qf1⟩ := hq))
                       have hz5 : w4.heap.size ≤ w5.heap.size := by have := ho5.size; first | omega | (simp at this; omega)
                       clear hx5 hc5 ho5)
                    | (go_at_call 77
                       refine (l3merge_q ((show Dq w K code T k f _ from by repeat first | with_reducible exact HD4.out | with_reducible exact HD5.out | with_reducible exact HD6.out | with_reducible apply Dq.drew | with_reducible apply Dq.alloc).tr.ok d hd) ((show Dq w K code T k f _ from by repeat first | with_reducible exact HD4.out | with_reducible exact HD5.out | with_reducible exact HD6.out | with_reducible apply Dq.drew | with_reducible apply Dq.alloc).tr.ok e5 he5)).mono ?_
                       rintro r w6 ⟨s, rfl, hq6, hb6⟩
                       have HD6 := Lib.hid (Dq.below (show Dq w K code T k f _ from by repeat first | with_reducible exact HD4.out | with_reducible exact HD5.out | with_reducible exact HD6.out | with_reducible apply Dq.drew | with_reducible apply Dq.alloc) hb6)
                       have HQ6 := Lib.hid hq6
                       first
                         | (have hq := new2_cells hb6; obtain ⟨q0, q1, qf0, qf1⟩ := hq)
                         | (have hq := new2_drew hb6; obtain ⟨q0, q1, qf0, qf1⟩ := hq)
                         | (have hlq := World.block_lt_of_cell? _ _ q0
                            replace q0 := (hb6.cell (p := ⟨w4.heap.size, 0, none⟩) hlq).trans q0
                            replace q1 := (hb6.cell (p := ⟨w4.heap.size, 1, none⟩) hlq).trans q1
                            replace qf0 := (hb6.frozen (p := ⟨w4.heap.size, 0, none⟩) hlq).trans qf0
                            replace qf1 := (hb6.frozen (p := ⟨w4.heap.size, 1, none⟩) hlq).trans qf1)
                         | skip
                       clear hq6 hb6))
                all_goals go_wp2_with fail
                all_goals go_meet
                all_goals first
                  | exact ⟨w6.heap.size, s, rfl, ⟨by simp, by simp⟩, HQ6.out.below ((Below.refl _ _).alloc (Nat.le_refl _) _), HD6.out.alloc _⟩
                  | exact ⟨w5.heap.size, s, rfl, two_get q0 q1, HQ6.out.box q0 q1 _ _, HD6.out.box q0 q1 (by omega) (by omega) _ _⟩
                  | exact ⟨w4.heap.size, s, rfl, two_get q0 q1, HQ6.out.box q0 q1 _ _, HD6.out.box q0 q1 (by omega) (by omega) _ _⟩
              case rest =>
                obtain ⟨b, s, rfl, ⟨b0, b1⟩, hq, hd7⟩ := hcut
                rename World => W7
                have lb : b < W7.heap.size := World.block_lt_of_cell? W7 _ b0
                have HD7 := Lib.hid hd7
                have HQ7 := Lib.hid hq
                clear hq hd7 HD4 HS HFz
                go_wp2_with fail
                refine (treeOk_q HQ7.out).mono ?_
                rintro e w8 ⟨rfl, hb8⟩
                have HD8 := Lib.hid (HD7.out.below hb8)
                have HQ8 := Lib.hid (HQ7.out.below hb8)
                have e0 := (hb8.cell (p := ⟨b, 0, none⟩) lb).trans b0
                have e1 := (hb8.cell (p := ⟨b, 1, none⟩) lb).trans b1
                have lb8 : b < w8.heap.size := Nat.lt_of_lt_of_le lb hb8.size
                clear hb8 b0 b1 HD7 HQ7
                cases hok : treeB s.vec s.es with
                | false =>
                  clear hok
                  go_wp2_with fail
                  go_roundw
                  case rel => exact ⟨j + 1, f, by omega, by go_num, HD8.out⟩
                  case measure => simp [intOf]; omega
                | true =>
                  have HN := Lib.hid (HD8.out.both hd (HQ8.out.ok hok))
                  have t0 := HD8.out.tr.c0 d hd
                  have t1 := HD8.out.tr.c1 d hd
                  have f0 := HD8.out.tr.fz (d * 2)
                  have f1 := HD8.out.tr.fz (d * 2 + 1)
                  have lT := HD8.out.tr.lt
                  clear hok HQ8
                  go_wp2_with fail
                  go_roundw
                  case rel => exact ⟨j + 1, _, by omega, by go_num, HN.out⟩
                  case measure => simp [intOf]; omega
            · have hz4 := HD4.out.hK
              have hK4 : K < w4.heap.size := HD4.out.cur.lt
              have hT4 := HD4.out.tr.lt
              have hw4 := HD4.out.off.size
              go_upto_region 12 with fail
              go_cut [11] from 33 to 64 (fun s11 wx => ∃ (b : Nat) (s : Tt), s11 = .pointer (some ⟨b, 0, none⟩) ∧ (wx.cell? ⟨b, 0, none⟩ = some (.slice s.AV 4 s.cv) ∧ wx.cell? ⟨b, 1, none⟩ = some (.slice s.A s.es.length s.c)) ∧ TtQ wx s ∧ Dq w K code T k f wx)
              case first =>
                go_region_held3 (fun X => (∀ i, i < k → X.cell? ⟨T, i * 2, none⟩ = some (.slice (f i).AV 4 (f i).cv)) ∧ (∀ i, i < k → X.cell? ⟨T, i * 2 + 1, none⟩ = some (.slice (f i).A (f i).es.length (f i).c)))
                  (first
                    | (refine HS.out _ (Dq.box HD6.out q0 q1 (by first | omega | (simp; omega)) (by first | omega | (simp; omega)) _ _))
                    | (refine HS.out _ ?_; repeat first | with_reducible exact HD4.out | with_reducible exact HD5.out | with_reducible exact HD9.out | with_reducible exact HD6.out | with_reducible apply Dq.drew | with_reducible apply Dq.alloc))
                  (first
                    | (go_at_call 34
                       refine (l3name_any K code _ (Dq.cur (show Dq w K code T k f _ from by repeat first | with_reducible exact HD4.out | with_reducible exact HD5.out | with_reducible exact HD9.out | with_reducible exact HD6.out | with_reducible apply Dq.drew | with_reducible apply Dq.alloc))).mono ?_
                       rintro r w5 ⟨An, nm, cn, rfl, hnl, hnb, hc5, ho5⟩
                       have HD5 := Lib.hid (Dq.next (show Dq w K code T k f _ from by repeat first | with_reducible exact HD4.out | with_reducible exact HD5.out | with_reducible exact HD9.out | with_reducible exact HD6.out | with_reducible apply Dq.drew | with_reducible apply Dq.alloc) hc5 ho5)
                       have HN5 := Lib.hid (show BytesIn w5 (K + 1) w5.heap.size An nm from hnb.low (by first | omega | (simp; omega)))
                       have HL5 := Lib.hid hnl.2
                       first
                         | (have hq := box_off ho5 hK4; obtain ⟨q0, q1, qf0, qf1⟩ := hq)
                         | (have hq := box_offd ho5 hK4; obtain ⟨q0, q1, qf0, qf1⟩ := hq)
                         | skip
                       have hz5 : w4.heap.size ≤ w5.heap.size := by have := ho5.size; first | omega | (simp at this; omega)
                       have hK5 : K < w5.heap.size := by omega
                       clear hnl hnb hc5 ho5)
                    | (go_at_call 33
                       refine (l1Below_any K code 50 _ (Dq.cur (show Dq w K code T k f _ from by repeat first | with_reducible exact HD4.out | with_reducible exact HD5.out | with_reducible exact HD9.out | with_reducible exact HD6.out | with_reducible apply Dq.drew | with_reducible apply Dq.alloc))).mono ?_
                       rintro r w9 ⟨x9, rfl, _, hc9, ho9⟩
                       have HD9 := Lib.hid (Dq.next (show Dq w K code T k f _ from by repeat first | with_reducible exact HD4.out | with_reducible exact HD5.out | with_reducible exact HD9.out | with_reducible exact HD6.out | with_reducible apply Dq.drew | with_reducible apply Dq.alloc) hc9 ho9)
                       have HN9 := Lib.hid (show BytesIn w9 (K + 1) w9.heap.size An nm from (HN5.out.keep fun p h1 h2 => (ho9.cell (by first | omega | (simp; omega)) (by omega)).trans (by first | rfl | exact World.cell?_alloc_lt _ _ _ h2)).mono (by have := ho9.size; first | omega | (simp at this; omega)))
                       have hz9 : w5.heap.size ≤ w9.heap.size := by have := ho9.size; first | omega | (simp at this; omega)
                       first
                         | (have hq := box_off ho9 hK5; obtain ⟨q0, q1, qf0, qf1⟩ := hq)
                         | (have hq := box_offd ho9 hK5; obtain ⟨q0, q1, qf0, qf1⟩ := hq)
                         | (have hlq := World.block_lt_of_cell? _ _ q0
                            replace q0 := (ho9.cell (p := ⟨w4.heap.size, 0, none⟩) hlq (by show w4.heap.size ≠ K; omega)).trans q0
                            replace q1 := (ho9.cell (p := ⟨w4.heap.size, 1, none⟩) hlq (by show w4.heap.size ≠ K; omega)).trans q1
                            replace qf0 := (ho9.frozen (p := ⟨w4.heap.size, 0, none⟩) hlq (by show w4.heap.size ≠ K; omega)).trans qf0
                            replace qf1 := (ho9.frozen (p := ⟨w4.heap.size, 1, none⟩) hlq (by show w4.heap.size ≠ K; omega)).trans qf1)
                         | skip
                       clear hc9 ho9)
                    | (go_at_call 78
                       refine (l3put_q ((show Dq w K code T k f _ from by repeat first | with_reducible exact HD4.out | with_reducible exact HD5.out | with_reducible exact HD9.out | with_reducible exact HD6.out | with_reducible apply Dq.drew | with_reducible apply Dq.alloc).tr.ok d hd) d (by omega) _ (l := nm) ?_ HL5.out).mono ?_
                       · exact ((HN9.out.keep fun p h1 h2 => by first | rfl | exact World.cell?_alloc_lt _ _ _ h2).low (Nat.zero_le _)).mono (by first | exact Nat.le_refl _ | (simp; done) | (simp; omega))
                       rintro r w6 ⟨s, rfl, hq6, hb6⟩
                       have HD6 := Lib.hid (Dq.below (show Dq w K code T k f _ from by repeat first | with_reducible exact HD4.out | with_reducible exact HD5.out | with_reducible exact HD9.out | with_reducible exact HD6.out | with_reducible apply Dq.drew | with_reducible apply Dq.alloc) hb6)
                       have HQ6 := Lib.hid hq6
                       first
                         | (have hq := new2_cells hb6; obtain ⟨q0, q1, qf0, qf1⟩ := hq)
                         | (have hq := new2_drew hb6; obtain ⟨q0, q1, qf0, qf1⟩ := hq)
                         | (have hlq := World.block_lt_of_cell? _ _ q0
                            replace q0 := (hb6.cell (p := ⟨w4.heap.size, 0, none⟩) hlq).trans q0
                            replace q1 := (hb6.cell (p := ⟨w4.heap.size, 1, none⟩) hlq).trans q1
                            replace qf0 := (hb6.frozen (p := ⟨w4.heap.size, 0, none⟩) hlq).trans qf0
                            replace qf1 := (hb6.frozen (p := ⟨w4.heap.size, 1, none⟩) hlq).trans qf1)
                         | (have hlq := World.block_lt_of_cell? _ _ q0
                            replace q0 := (hb6.cell (p := ⟨w5.heap.size, 0, none⟩) hlq).trans q0
                            replace q1 := (hb6.cell (p := ⟨w5.heap.size, 1, none⟩) hlq).trans q1
                            replace qf0 := (hb6.frozen (p := ⟨w5.heap.size, 0, none⟩) hlq).trans qf0
                            replace qf1 := (hb6.frozen (p := ⟨w5.heap.size, 1, none⟩) hlq).trans qf1)
                         | skip
                       clear hq6 hb6))
                all_goals go_wp2_with fail
                all_goals go_meet
                all_goals first
                  | exact ⟨w6.heap.size, s, rfl, ⟨by simp, by simp⟩, HQ6.out.below ((Below.refl _ _).alloc (Nat.le_refl _) _), HD6.out.alloc _⟩
                  | exact ⟨w9.heap.size, s, rfl, two_get q0 q1, HQ6.out.box q0 q1 _ _, HD6.out.box q0 q1 (by omega) (by omega) _ _⟩
                  | exact ⟨w5.heap.size, s, rfl, two_get q0 q1, HQ6.out.box q0 q1 _ _, HD6.out.box q0 q1 (by omega) (by omega) _ _⟩
                  | exact ⟨w4.heap.size, s, rfl, two_get q0 q1, HQ6.out.box q0 q1 _ _, HD6.out.box q0 q1 (by omega) (by omega) _ _⟩
              case rest =>
                obtain ⟨b, s, rfl, ⟨b0, b1⟩, hq, hd7⟩ := hcut
                rename World => W7
                have lb : b < W7.heap.size := World.block_lt_of_cell? W7 _ b0
                have HD7 := Lib.hid hd7
                have HQ7 := Lib.hid hq
                clear hq hd7 HD4 HS HFz
                go_wp2_with fail
                refine (treeOk_q HQ7.out).mono ?_
                rintro e w8 ⟨rfl, hb8⟩
                have HD8 := Lib.hid (HD7.out.below hb8)
                have HQ8 := Lib.hid (HQ7.out.below hb8)
                have e0 := (hb8.cell (p := ⟨b, 0, none⟩) lb).trans b0
                have e1 := (hb8.cell (p := ⟨b, 1, none⟩) lb).trans b1
                have lb8 : b < w8.heap.size := Nat.lt_of_lt_of_le lb hb8.size
                clear hb8 b0 b1 HD7 HQ7
                cases hok : treeB s.vec s.es with
                | false =>
                  clear hok
                  go_wp2_with fail
                  go_roundw
                  case rel => exact ⟨j + 1, f, by omega, by go_num, HD8.out⟩
                  case measure => simp [intOf]; omega
                | true =>
                  have HN := Lib.hid (HD8.out.both hd (HQ8.out.ok hok))
                  have t0 := HD8.out.tr.c0 d hd
                  have t1 := HD8.out.tr.c1 d hd
                  have f0 := HD8.out.tr.fz (d * 2)
                  have f1 := HD8.out.tr.fz (d * 2 + 1)
                  have lT := HD8.out.tr.lt
                  clear hok HQ8
                  go_wp2_with fail
                  go_roundw
                  case rel => exact ⟨j + 1, _, by omega, by go_num, HN.out⟩
                  case measure => simp [intOf]; omega
        · go_wp2_with fail
          go_ret
          exact ⟨T, c, f, rfl, HD.out⟩

end Go.Proofs.YtepkicgnhjaokaaGreatDoor

namespace Go.Proofs.YtepkicgnhjaokaaGreatDoor
open Go.RowKit Go.Maps

/-- A drawn tree, right or not. -/
structure TdIn (W : World) (L : Nat) (t : Tt) : Prop where
  v : IntsIn W L W.heap.size t.AV t.vec
  e : EnsIn W L W.heap.size t.A t.es
  cap : t.es.length ≤ t.c
  len : t.vec.length ≤ 4
  few : t.es.length ≤ 24
  bulk : ebulk t.es ≤ 1000
theorem TdIn.below {w w' : World} {L : Nat} {t : Tt} (h : TdIn w L t) (hb : Below w.heap.size w w') : TdIn w' L t :=
  ⟨(h.v.keep fun _ _ h2 => hb.cell h2).mono hb.size, (h.e.below hb).mono hb.size, h.cap, h.len, h.few, h.bulk⟩
theorem TdIn.off {w w' : World} {K L : Nat} {t : Tt} (h : TdIn w L t) (ho : OffK K w w') (hK : K < L) : TdIn w' L t :=
  ⟨(h.v.keep fun _ h1 h2 => ho.cell h2 (by omega)).mono ho.size, (h.e.keep fun _ h1 h2 => ho.cell h2 (by omega)).mono ho.size, h.cap, h.len, h.few, h.bulk⟩
theorem TdIn.low {w : World} {L L' : Nat} {t : Tt} (h : TdIn w L t) (hL : L' ≤ L) : TdIn w L' t :=
  ⟨h.v.low hL, h.e.low hL, h.cap, h.len, h.few, h.bulk⟩

def NewBt (K : Nat) (code : List UInt8) (w : World) (e : Ending) (w' : World) : Prop :=
  ∃ t : Tt, e = .returned (.agg #[.slice t.AV t.vec.length t.cv, .slice t.A t.es.length t.c]) ∧ TdIn w' w.heap.size t ∧ Cur w' K code ∧ OffK K w w'

/-- Bent, in its variable at g; what is handed back is still none. -/
structure Bf (w X : World) (K : Nat) (code : List UInt8) (g : Nat) (t : Tt) : Prop where
  b0 : X.cell? ⟨g, 0, none⟩ = some (.slice t.AV t.vec.length t.cv)
  b1 : X.cell? ⟨g, 1, none⟩ = some (.slice t.A t.es.length t.c)
  r0 : X.cell? ⟨w.heap.size, 0, none⟩ = some (.slice none 0 0)
  r1 : X.cell? ⟨w.heap.size, 1, none⟩ = some (.slice none 0 0)
  rf : ∀ o, X.frozen? ⟨w.heap.size, o, none⟩ = false
  lt : g < X.heap.size
  gw : w.heap.size < g
  td : TdIn X (w.heap.size + 1) t
  cur : Cur X K code
  off : OffK K w X
  hK : K < w.heap.size
theorem Bf.fin {w X : World} {K g : Nat} {code : List UInt8} {t : Tt} (h : Bf w X K code g t) (v0 v1 : Value) :
    NewBt K code w (.returned (.agg #[.slice t.AV t.vec.length t.cv, .slice t.A t.es.length t.c])) ((X.setCell ⟨w.heap.size, 0, none⟩ v0).setCell ⟨w.heap.size, 1, none⟩ v1) := by
  have hk : ∀ p : Addr, w.heap.size + 1 ≤ p.block → ((X.setCell ⟨w.heap.size, 0, none⟩ v0).setCell ⟨w.heap.size, 1, none⟩ v1).cell? p = X.cell? p := fun p hp => (two_other (by omega)).1
  have hd := h.td
  refine ⟨t, rfl, TdIn.low (L := w.heap.size + 1) ⟨(hd.v.keep fun p h1 _ => hk p h1).mono (by simp), (hd.e.keep fun p h1 _ => hk p h1).mono (by simp), hd.cap, hd.len, hd.few, hd.bulk⟩ (by omega), (h.cur.set (by show K < w.heap.size; exact h.hK) _).set (by show K < w.heap.size; exact h.hK) _, (h.off.setCell (.inr (Nat.le_refl _)) _).setCell (.inr (Nat.le_refl _)) _⟩

theorem own_farT {w : World} {base : Nat} {e t : TypeId} {size n o : Nat} {v : Value} {xs : List Value} {cs : Array Value} (h : w.ownsRow base e size v n xs) (ho : w.heap[o]? = some (.cells cs t (0, 0))) (hne : t ≠ e) : v.ownBlock ≠ some o := fun hg => by
  obtain ⟨_, hh | ⟨g, cap, cur, hv, _, hb, _⟩⟩ := h
  · rw [hh.1] at hg
    cases hg
  · rw [hv] at hg
    injection hg with hg
    subst hg
    rw [hb] at ho
    injection ho with ho
    injection ho with _ h2 _
    exact hne h2.symm
theorem OutRel.more {w : World} {base : Nat} {es : List En} {k : Nat} {vs : List Value} {G : List Nat} (h : OutRel w base es k vs G) (hk : k ≤ es.length) (e : En) : OutRel w base (es ++ [e]) k vs G := by
  have hg : ∀ i, i < k → (es ++ [e]).getD i default = es.getD i default := fun i hi => by
    rw [List.getD_eq_getElem?_getD, List.getD_eq_getElem?_getD, List.getElem?_append_left (by omega)]
  exact ⟨h.gl, h.vl, fun i hi => by rw [hg i hi]; exact h.cs i hi, fun i hi => by rw [hg i hi]; exact h.nm i hi, h.inc⟩

/-- The copy in its variable at g, as long as nothing is bent. -/
structure Bt (w X : World) (K : Nat) (code : List UInt8) (g M : Nat) (t : Tt) (vs : List Value) (G : List Nat) : Prop where
  oh : ∃ cs, X.heap[g]? = some (.cells cs 26 (0, 0))
  b0 : X.cell? ⟨g, 0, none⟩ = some (.slice t.AV 4 t.cv)
  b1 : X.cell? ⟨g, 1, none⟩ = some (.slice t.A t.es.length t.c)
  r0 : X.cell? ⟨w.heap.size, 0, none⟩ = some (.slice none 0 0)
  r1 : X.cell? ⟨w.heap.size, 1, none⟩ = some (.slice none 0 0)
  rf : ∀ o, X.frozen? ⟨w.heap.size, o, none⟩ = false
  iv : IntsFr X (w.heap.size + 1) M t.AV t.vec
  row : X.ownsRow M 34 4 (.slice t.A t.es.length t.c) t.es.length vs
  out : OutRel X M t.es t.es.length vs G
  hM : w.heap.size < M
  hg : M ≤ g
  wk : Wk t.vec t.es
  cv : 4 ≤ t.cv
  cur : Cur X K code
  off : OffK K w X
  hK : K < w.heap.size

section
variable {w X Y : World} {K g M : Nat} {code : List UInt8} {t : Tt} {vs : List Value} {G : List Nat}
theorem Bt.lt (h : Bt w X K code g M t vs G) : g < X.heap.size := World.block_lt_of_cell? X _ h.b0
theorem Bt.frz (h : Bt w X K code g M t vs G) (o : Nat) : X.frozen? ⟨g, o, none⟩ = false := by
  obtain ⟨cs, hcs⟩ := h.oh
  simp [World.frozen?, hcs]
theorem Bt.next (h : Bt w X K code g M t vs G) (hc : Cur Y K code) (ho : OffK K X Y) : Bt w Y K code g M t vs G := by
  have hlt := h.lt
  have hK := h.hK
  have hM := h.hM
  have hg := h.hg
  have hw := h.off.size
  obtain ⟨cs, hcs⟩ := h.oh
  refine ⟨⟨cs, (ho.block g hlt (fun e => by injection e with e; omega)).trans hcs⟩, (ho.cell (p := ⟨g, 0, none⟩) hlt (by show g ≠ K; omega)).trans h.b0, (ho.cell (p := ⟨g, 1, none⟩) hlt (by show g ≠ K; omega)).trans h.b1,
    (ho.cell (p := ⟨w.heap.size, 0, none⟩) (by show w.heap.size < _; omega) (by show w.heap.size ≠ K; omega)).trans h.r0, (ho.cell (p := ⟨w.heap.size, 1, none⟩) (by show w.heap.size < _; omega) (by show w.heap.size ≠ K; omega)).trans h.r1,
    fun o => (ho.frozen (p := ⟨w.heap.size, o, none⟩) (by show w.heap.size < _; omega) (by show w.heap.size ≠ K; omega)).trans (h.rf o),
    h.iv.keep fun p h1 h2 => ⟨ho.cell (by omega) (by omega), ho.frozen (by omega) (by omega)⟩,
    h.row.kept ho ?_, h.out.keep fun i hi => ho.block _ (h.out.nm i hi).2.lt (fun e => by injection e with e; have := (h.out.nm i hi).1; omega), h.hM, h.hg, h.wk, h.cv, hc, h.off.trans ho (.inl rfl), hK⟩
  cases hq : (Value.slice t.A t.es.length t.c).ownBlock with
  | none => exact .inr (by simp)
  | some g => exact .inr (fun e => by
      injection e with e
      have := (h.row.lt g hq).1
      omega)
theorem Bt.below (h : Bt w X K code g M t vs G) (hb : Below X.heap.size X Y) : Bt w Y K code g M t vs G :=
  h.next (h.cur.below hb h.cur.lt) (OffK.of_below hb (Nat.le_refl _))
theorem Bt.drew (h : Bt w X K code g M t vs G) : Bt w X.drew K code g M t vs G := h.below (Below.refl _ _).drew
theorem Bt.alloc (h : Bt w X K code g M t vs G) (o : Obj) : Bt w (X.alloc o) K code g M t vs G := h.below ((Below.refl _ _).alloc (Nat.le_refl _) o)
theorem Bt.ens (h : Bt w X K code g M t vs G) : EnsIn X M X.heap.size t.A t.es := (h.out.own h.row).ens
/-- A cell below the row's blocks, or of the variable, turns. -/
theorem Bt.ens_set (h : Bt w X K code g M t vs G) {p : Addr} (hp : p.block < M ∨ p.block = g) (v : Value) : EnsIn (X.setCell p v) M (X.setCell p v).heap.size t.A t.es := by
  obtain ⟨cs, hcs⟩ := h.oh
  have hne : (Value.slice t.A t.es.length t.c).ownBlock ≠ some p.block := fun e => by
    rcases hp with hp | hp
    · have := (h.row.lt _ e).1
      omega
    · rw [hp] at e
      exact own_farT h.row hcs (by decide) e
  have hgr : X.grownBy (X.setCell p v) (some p.block) := ⟨rfl, rfl, rfl, by simp, fun j hj hj2 => Below.heap_setCell _ _ _ _ (fun e => hj2 (by rw [e]))⟩
  refine ((h.out.keep fun i hi => Below.heap_setCell _ _ _ _ (fun e => ?_)).own (h.row.kept hgr (.inr hne))).ens
  rcases hp with hp | hp
  · have := (h.out.nm i hi).1
    omega
  · obtain ⟨cur, fz, h1, _⟩ := (h.out.nm i hi).2
    rw [e, hp, hcs] at h1
    injection h1 with h1
    injection h1 with _ h1 _
    exact absurd h1 (by decide)

/-- Nothing is bent. -/
theorem Bt.still (h : Bt w X K code g M t vs G) : Bf w X K code g t := by
  have hM := h.hM
  have hf := h.wk.few
  have hk := h.wk.bulk
  have hl := h.wk.len
  have hg := h.hg
  have hlt := h.lt
  exact ⟨by rw [hl]; exact h.b0, h.b1, h.r0, h.r1, h.rf, hlt, by omega, ⟨h.iv.ints.mono (by omega), (h.ens.low (by omega)), row_cap h.row, by omega, by omega, by omega⟩, h.cur, h.off, h.hK⟩
/-- The first number turns. -/
theorem Bt.num (h : Bt w X K code g M t vs G) {gV oV : Nat} (hA : t.AV = some ⟨gV, oV, none⟩) (y : Int) : Bf w (X.setCell ⟨gV, oV, none⟩ (.int .i64 y)) K code g { t with vec := t.vec.set 0 y } := by
  have hM := h.hM
  have hf := h.wk.few
  have hk := h.wk.bulk
  have hl := h.wk.len
  have hg := h.hg
  have hlt := h.lt
  have hKw := h.hK
  obtain ⟨b, o, e, h1, h2, hc⟩ := h.iv (by omega)
  rw [hA] at e
  injection e with e
  injection e with e1 e2
  subst e1
  subst e2
  have ho : ∀ q : Addr, q.block ≠ gV → (X.setCell ⟨gV, oV, none⟩ (.int .i64 y)).cell? q = X.cell? q := fun q hq => World.cell?_setCell_other _ _ _ _ (fun e => hq (by rw [← e]))
  refine ⟨(ho _ (by show g ≠ gV; omega)).trans (by rw [h.b0]; simp [hl]), (ho _ (by show g ≠ gV; omega)).trans h.b1, (ho _ (by show w.heap.size ≠ gV; omega)).trans h.r0, (ho _ (by show w.heap.size ≠ gV; omega)).trans h.r1, fun o => (World.frozen?_setCell _ _ _ _).trans (h.rf o), by simpa using hlt, by omega,
    ⟨fun _ => ⟨gV, oV, hA, h1, by simp; omega, fun j hj => ?_⟩, ((h.ens_set (p := ⟨gV, oV, none⟩) (.inl h2) _).low (by omega)), row_cap h.row, by simp [hl], by show t.es.length ≤ 24; omega, by show ebulk t.es ≤ 1000; omega⟩, h.cur.set (by show K < gV; omega) _, h.off.setCell (.inr (by show w.heap.size ≤ gV; omega)) _, hKw⟩
  have hj' : j < t.vec.length := by simpa using hj
  by_cases h0 : j = 0
  · subst h0
    rw [Nat.add_zero]
    have := (hc 0 hj').1
    rw [Nat.add_zero] at this
    rw [World.cell?_setCell_same _ _ _ this]
    simp
  · refine (World.cell?_setCell_other _ _ _ _ (fun e => by injection e with _ e _; omega)).trans ((hc j hj').1.trans ?_)
    simp [Ne.symm h0]
/-- The first number is left out. -/
theorem Bt.tail (h : Bt w X K code g M t vs G) {gV oV : Nat} (hA : t.AV = some ⟨gV, oV, none⟩) (c' : Nat) : Bf w (X.setCell ⟨g, 0, none⟩ (.slice (some ⟨gV, oV + 1, none⟩) 3 c')) K code g { t with AV := some ⟨gV, oV + 1, none⟩, cv := c', vec := t.vec.tail } := by
  have hM := h.hM
  have hf := h.wk.few
  have hk := h.wk.bulk
  have hl := h.wk.len
  have hg := h.hg
  have hlt := h.lt
  have hKw := h.hK
  obtain ⟨b, o, e, h1, h2, hc⟩ := h.iv (by omega)
  rw [hA] at e
  injection e with e
  injection e with e1 e2
  subst e1
  subst e2
  have hl3 : t.vec.tail.length = 3 := by simp [hl]
  refine ⟨by rw [World.cell?_setCell_same _ _ _ h.b0]; simp [hl], (World.cell?_setCell_other _ _ _ _ (by simp)).trans h.b1, (World.cell?_setCell_other _ _ _ _ (fun e => by injection e; omega)).trans h.r0, (World.cell?_setCell_other _ _ _ _ (fun e => by injection e; omega)).trans h.r1, fun o => (World.frozen?_setCell _ _ _ _).trans (h.rf o), by simpa using hlt, by omega,
    ⟨fun _ => ⟨gV, oV + 1, rfl, h1, by simp; omega, fun j hj => ?_⟩, ((h.ens_set (p := ⟨g, 0, none⟩) (.inr rfl) _).low (by omega)), row_cap h.row, by show t.vec.tail.length ≤ 4; omega, by show t.es.length ≤ 24; omega, by show ebulk t.es ≤ 1000; omega⟩, h.cur.set (by show K < g; omega) _, h.off.setCell (.inr (by show w.heap.size ≤ g; omega)) _, hKw⟩
  have hj' : j + 1 < t.vec.length := by have : j < t.vec.tail.length := hj; omega
  refine (World.cell?_setCell_other _ _ _ _ (fun e => by injection e; omega)).trans ?_
  have := (hc (j + 1) hj').1
  rw [show oV + 1 + j = oV + (j + 1) by omega, this]
  simp
/-- The first entry's name turns. -/
theorem Bt.name (h : Bt w X K code g M t vs G) {R gn cn : Nat} {e0 : En} {es : List En} (hA : t.A = some ⟨R, 0, none⟩) (he : t.es = e0 :: es) {l : List UInt8} (hl24 : l.length ≤ 24) (hB : BytesIn X (w.heap.size + 1) X.heap.size (some ⟨gn, 0, none⟩) l) (hgn : gn ≠ R) :
    Bf w (X.setCell ⟨R, 0, none⟩ (.slice (some ⟨gn, 0, none⟩) l.length cn)) K code g { t with es := { e0 with name := l } :: es } := by
  have hM := h.hM
  have hf := h.wk.few
  have hl := h.wk.len
  have hg := h.hg
  have hlt := h.lt
  have hKw := h.hK
  have hbk := bulk_le24 h.wk.nm
  obtain ⟨cs, hcs⟩ := h.oh
  obtain ⟨R', N, lo, up, c, e, hlay, hc⟩ := (h.out.own h.row) (by rw [he]; simp)
  rw [hA] at e
  injection e with e
  injection e with e _
  subst e
  have hRg : R ≠ g := fun e2 => own_farT h.row hcs (by decide) (by rw [hA, e2]; rfl)
  have hR1 := hlay.low
  have hR2 := hlay.up
  have ho : ∀ q : Addr, q.block ≠ R → (X.setCell ⟨R, 0, none⟩ (.slice (some ⟨gn, 0, none⟩) l.length cn)).cell? q = X.cell? q := fun q hq => World.cell?_setCell_other _ _ _ _ (fun e => hq (by rw [← e]))
  have hcap := row_cap h.row
  have hlen : t.es.length = es.length + 1 := by rw [he]; simp
  have hc0 : ∀ i (hi : i < t.es.length), EnIn X M X.heap.size R (i * 4) t.es[i] := fun i hi => by
    have hx := hc i hi
    exact ⟨_, c i, hx.c0, hx.c1, hx.c2, hx.c3, ((hx.nm.bytes.low (hlay.at_ i hi).1).mono (hlay.at_ i hi).2.1)⟩
  refine ⟨(ho _ (Ne.symm hRg)).trans (by rw [hl]; exact h.b0), (ho _ (Ne.symm hRg)).trans (by rw [h.b1]; simp [hlen]), (ho _ (by show w.heap.size ≠ R; omega)).trans h.r0, (ho _ (by show w.heap.size ≠ R; omega)).trans h.r1, fun o => (World.frozen?_setCell _ _ _ _).trans (h.rf o), by simpa using hlt, by omega,
    ⟨(h.iv.ints.keep fun p h1 h2 => ho p (by omega)).mono (by simp; omega), fun _ => ⟨R, 0, hA, by omega, by simpa using hR2, fun i hi => ?_⟩, by show (_ :: es).length ≤ t.c; simp; omega, by show t.vec.length ≤ 4; omega, by show (_ :: es).length ≤ 24; simp; omega, ?_⟩, h.cur.set (by show K < R; omega) _, h.off.setCell (.inr (by show w.heap.size ≤ R; omega)) _, hKw⟩
  · have hi' : i < t.es.length := by rw [hlen]; simpa using hi
    rw [Nat.zero_add]
    have hx := hc i hi'
    have hne : ∀ k, (⟨R, 0, none⟩ : Addr) ≠ ⟨R, i * 4 + (k + 1), none⟩ := fun k e => by injection e with _ e _; omega
    have k1 := (World.cell?_setCell_other X ⟨R, 0, none⟩ _ (.slice (some ⟨gn, 0, none⟩) l.length cn) (hne 0)).trans hx.c1
    have k2 := (World.cell?_setCell_other X ⟨R, 0, none⟩ _ (.slice (some ⟨gn, 0, none⟩) l.length cn) (hne 1)).trans hx.c2
    have k3 := (World.cell?_setCell_other X ⟨R, 0, none⟩ _ (.slice (some ⟨gn, 0, none⟩) l.length cn) (hne 2)).trans hx.c3
    match i, hi, hi', hx, k1, k2, k3 with
    | 0, hi, hi', hx, k1, k2, k3 =>
      have e0' : t.es[0] = e0 := by simp [he]
      rw [e0'] at k1 k2 k3
      have h0 := hx.c0
      simp only [Nat.zero_mul, Nat.zero_add] at h0 k1 k2 k3 ⊢
      refine ⟨some ⟨gn, 0, none⟩, cn, World.cell?_setCell_same _ _ _ h0, k1, k2, k3, fun hln => ?_⟩
      obtain ⟨b, o, e, h1, h2, hcc⟩ := hB hln
      have hb : b = gn := by injection e with e; injection e with e _; exact e.symm
      exact ⟨b, o, e, h1, by simpa using h2, fun j hj => (ho _ (by show b ≠ R; omega)).trans (hcc j hj)⟩
    | i + 1, hi, hi', hx, k1, k2, k3 =>
      have ei : t.es[i + 1] = es[i]'(by simpa using hi) := by simp [he]
      rw [ei] at k1 k2 k3
      have h0 := hx.c0
      rw [ei] at h0
      have hnm := hx.nm
      rw [ei] at hnm
      refine ⟨N (i + 1), c (i + 1), (World.cell?_setCell_other _ _ _ _ (fun e => by injection e with _ e _; omega)).trans h0, k1, k2, k3, ?_⟩
      have hla := hlay.at_ (i + 1) hi'
      refine ((hnm.bytes.keep fun p h1 h2 => ho p (by omega)).low (by omega)).mono (by simp; omega)
  · show ebulk ({ e0 with name := l } :: es) ≤ 1000
    have h2 := bulk_le24 (es := es) fun x hx => h.wk.nm x (by rw [he]; simp [hx])
    simp only [ebulk]
    omega
/-- One more entry behind the others. -/
theorem Bt.grow (h : Bt w X K code g M t vs G) {A7 : Option Addr} {c7 : Nat} {e : En} {gq cq : Nat} (hg7 : X.grownBy Y (Value.slice t.A t.es.length t.c).ownBlock)
    (hrow : Y.ownsRow M 34 4 (.slice A7 (t.es.length + 1) c7) (t.es.length + 1) (vs ++ [.slice (some ⟨gq, 0, none⟩) e.name.length cq, .int .i64 e.val, .int .i64 e.dev, .int .i64 e.num])) (hq : NameAt X gq e.name) (hqM : M ≤ gq) (hqG : ∀ i, i < t.es.length → G.getD i 0 < gq) (hen : e.name.length ≤ 24) :
    (Y.cell? ⟨g, 1, none⟩ = some (.slice t.A t.es.length t.c) ∧ Y.frozen? ⟨g, 1, none⟩ = false ∧ g < Y.heap.size) ∧
    Bf w (Y.setCell ⟨g, 1, none⟩ (.slice A7 (t.es.length + 1) c7)) K code g { t with A := A7, c := c7, es := t.es ++ [e] } := by
  have hM := h.hM
  have hf := h.wk.few
  have hl := h.wk.len
  have hg := h.hg
  have hlt := h.lt
  have hKw := h.hK
  have hw := h.off.size
  have hbk := bulk_le24 h.wk.nm
  obtain ⟨cs, hcs⟩ := h.oh
  have hne := own_farT h.row hcs (by decide)
  have hbase : ∀ k, (Value.slice t.A t.es.length t.c).ownBlock = some k → M ≤ k := fun k e => (h.row.lt k e).1
  have hsz := hg7.size
  have blk : ∀ b, b < X.heap.size → (∀ k, (Value.slice t.A t.es.length t.c).ownBlock = some k → b ≠ k) → Y.heap[b]? = X.heap[b]? := fun b hb hn => hg7.block b hb (fun e => hn b e.symm rfl)
  have bg := blk g hlt (fun k hk e => hne (by rw [hk, e]))
  have bw := blk w.heap.size (by omega) (fun k hk e => by have := hbase k hk; omega)
  have bl : ∀ b, b < M → b < X.heap.size → Y.heap[b]? = X.heap[b]? := fun b hb hb2 => blk b hb2 (fun k hk e => by have := hbase k hk; omega)
  have q1 : Y.cell? ⟨g, 1, none⟩ = some (.slice t.A t.es.length t.c) := (World.cell?_of_block bg).trans h.b1
  have hcs7 : Y.heap[g]? = some (.cells cs 26 (0, 0)) := bg.trans hcs
  have hln : (t.es ++ [e]).length = t.es.length + 1 := by simp
  have ho : OutRel Y M (t.es ++ [e]) (t.es.length + 1) (vs ++ [.slice (some ⟨gq, 0, none⟩) e.name.length cq, .int .i64 e.val, .int .i64 e.dev, .int .i64 e.num]) (G ++ [gq]) := by
    have h1 := (h.out.more (Nat.le_refl _) e).add (c := cq) (e := e) (by simp [List.getD_eq_getElem?_getD]) hqM hq hqG
    exact h1.keep fun i hi => blk _ (h1.nm i hi).2.lt (fun k hk e => (h1.nm i hi).2.ne h.row (by rw [hk, e]))
  rw [← hln] at hrow ho
  have hne7 : (Value.slice A7 (t.es ++ [e]).length c7).ownBlock ≠ some g := own_farT hrow hcs7 (by decide)
  have hgr : Y.grownBy (Y.setCell ⟨g, 1, none⟩ (.slice A7 (t.es.length + 1) c7)) (some g) := ⟨rfl, rfl, rfl, by simp, fun j hj hj2 => Below.heap_setCell _ _ _ _ (fun e => hj2 (by rw [e]))⟩
  have hen2 := ((ho.keep fun i hi => Below.heap_setCell Y ⟨g, 1, none⟩ (.slice A7 (t.es.length + 1) c7) _ (fun e => by
    obtain ⟨cur, fz, h1, _⟩ := (ho.nm i hi).2
    rw [e, hcs7] at h1
    injection h1 with h1
    injection h1 with _ h1 _
    exact absurd h1 (by decide))).own (hrow.kept hgr (.inr hne7))).ens
  have hoff : OffK K w Y := ⟨hg7.os.trans h.off.os, hg7.tape.trans h.off.tape, hg7.output.trans h.off.output, Nat.le_trans h.off.size hg7.size, fun i hi hT => (bl i (by omega) (by omega)).trans (h.off.block i hi hT)⟩
  have hcur : Cur Y K code := by
    obtain ⟨A1, c1, i1, x1, k1, k2, k3, k4, k5, k6, k7⟩ := h.cur
    have bK := bl K (by omega) (by omega)
    exact ⟨A1, c1, i1, x1, k1, (World.cell?_of_block bK).trans k2, (World.cell?_of_block bK).trans k3, (World.cell?_of_block bK).trans k4, (World.frozen?_of_block bK).trans k5, (World.frozen?_of_block bK).trans k6, k7.keep fun p hp => World.cell?_of_block (bl _ (by omega) (by omega))⟩
  have hoth : ∀ q : Addr, q.block ≠ g → (Y.setCell ⟨g, 1, none⟩ (.slice A7 (t.es.length + 1) c7)).cell? q = Y.cell? q := fun q hq => World.cell?_setCell_other _ _ _ _ (fun e => hq (by rw [← e]))
  refine ⟨⟨q1, by simp [World.frozen?, hcs7], by omega⟩, (World.cell?_setCell_other _ _ _ _ (by simp)).trans ((World.cell?_of_block bg).trans (by rw [hl]; exact h.b0)), by rw [World.cell?_setCell_same _ _ _ q1]; simp, (hoth _ (by show w.heap.size ≠ g; omega)).trans ((World.cell?_of_block bw).trans h.r0), (hoth _ (by show w.heap.size ≠ g; omega)).trans ((World.cell?_of_block bw).trans h.r1),
    fun o => (World.frozen?_setCell _ _ _ _).trans ((World.frozen?_of_block bw).trans (h.rf o)), by simp; omega, by omega,
    ⟨((h.iv.ints.keep fun p h1 h2 => (hoth p (by omega)).trans (World.cell?_of_block (bl _ h2 (by omega)))).mono (by simp; omega)), hen2.low (by omega), ?_, by show t.vec.length ≤ 4; omega, by show (t.es ++ [e]).length ≤ 24; omega, by show ebulk (t.es ++ [e]) ≤ 1000; rw [ebulk_append]; simp only [ebulk]; omega⟩,
    hcur.set (by show K < g; omega) _, hoff.setCell (.inr (by show w.heap.size ≤ g; omega)) _, hKw⟩
  exact row_cap hrow
theorem convert_mark (W : World) (C : Array Value) (g n c : Nat) (hh : W.heap[g]? = some (.cells C 5 (0, 0))) :
    (convert 22 22 (.slice (some ⟨g, 0, none⟩) n c)).run Tryz.prog W = .ok (.slice (some ⟨g, 0, none⟩) n c) (W.freeze ⟨g, C.size, none⟩ 1) := by
  have hsh : W.shape? g = some (5, C.size) := by
    unfold World.shape?
    rw [hh]
  simp [convert, run_underlying (P := Tryz.prog) Tryz.underlying22, run_underlying (P := Tryz.prog) Tryz.underlying5, markStringish, hsh]
theorem frz_off {W : World} {g k : Nat} : OffK g W (W.freeze ⟨g, k, none⟩ 1) := by
  unfold World.freeze
  rw [if_neg (by decide)]
  refine ⟨rfl, rfl, rfl, by simp, fun i hi hne => ?_⟩
  have : g ≠ i := fun e => hne (by rw [e])
  simp [Array.getElem?_modify, this]
theorem frz_at {W : World} {C : Array Value} {e : TypeId} {g k : Nat} (hh : W.heap[g]? = some (.cells C e (0, 0))) : (W.freeze ⟨g, k, none⟩ 1).heap[g]? = some (.cells C e (k, k + 1)) := by
  unfold World.freeze
  rw [if_neg (by decide)]
  simp [Array.getElem?_modify, hh]
/-- Nothing of it lies in block q. -/
theorem Bt.mark (h : Bt w X K code g M t vs G) {q : Nat} (ho : OffK q X Y) (hqM : M ≤ q) (hqg : g ≠ q) (hqG : ∀ i, i < t.es.length → G.getD i 0 < q) (hqr : (Value.slice t.A t.es.length t.c).ownBlock ≠ some q) : Bt w Y K code g M t vs G := by
  have hlt := h.lt
  have hK := h.hK
  have hM := h.hM
  have hg := h.hg
  have hw := h.off.size
  obtain ⟨cs, hcs⟩ := h.oh
  have bl : ∀ b, b < X.heap.size → b ≠ q → Y.heap[b]? = X.heap[b]? := fun b hb hn => ho.block b hb (fun e => by injection e with e; exact hn e)
  have hcur : Cur Y K code := by
    obtain ⟨A1, c1, i1, x1, k1, k2, k3, k4, k5, k6, k7⟩ := h.cur
    have bK := bl K (by omega) (by omega)
    exact ⟨A1, c1, i1, x1, k1, (World.cell?_of_block bK).trans k2, (World.cell?_of_block bK).trans k3, (World.cell?_of_block bK).trans k4, (World.frozen?_of_block bK).trans k5, (World.frozen?_of_block bK).trans k6, k7.keep fun p hp => World.cell?_of_block (bl _ (by omega) (by omega))⟩
  have bw := bl w.heap.size (by omega) (by omega)
  have bg := bl g hlt hqg
  exact ⟨⟨cs, bg.trans hcs⟩, (World.cell?_of_block bg).trans h.b0, (World.cell?_of_block bg).trans h.b1, (World.cell?_of_block bw).trans h.r0, (World.cell?_of_block bw).trans h.r1, fun o => (World.frozen?_of_block bw).trans (h.rf o),
    h.iv.keep fun p h1 h2 => ⟨World.cell?_of_block (bl _ (by omega) (by omega)), World.frozen?_of_block (bl _ (by omega) (by omega))⟩,
    h.row.kept ho (.inr hqr), h.out.keep fun i hi => bl _ (h.out.nm i hi).2.lt (by have := hqG i hi; omega), h.hM, h.hg, h.wk, h.cv, hcur, h.off.trans ho (.inr (by omega)), hK⟩
/-- A literal's bytes, as a step of a region. -/
theorem Bt.conv {ops : Array Oper} {o : Oper} {a : Act} {Q : Exit → Act → World → Prop} {E : Prop} {KK : Act → World → Prop} (h : Bt w Y K code g M t vs G) (hgd : o.guard = none) (x : Operand)
    (ho : o.op = .convert 22 22 x) (gq cq : Nat) (hx : a.eval x = .slice (some ⟨gq, 0, none⟩) 1 cq) (hq : Y.heap[gq]? = some (.cells #[.int .u8 113] 5 (0, 0))) (hqM : M ≤ gq) (hqg : g < gq) (hqG : ∀ i, i < t.es.length → G.getD i 0 < gq)
    (hK : ∀ w8, Bt w w8 K code g M t vs G → w8.heap[gq]? = some (.cells #[.int .u8 113] 5 (1, 2)) → OffK gq Y w8 → KK (a.put o.dst (.slice (some ⟨gq, 0, none⟩) 1 cq)) w8) :
    if Region.wanted o (yielded ops a.tmps) = true then Oper.wp Tryz.prog o a Y KK Q else E := by
  have hw : Region.wanted o (yielded ops a.tmps) = true := by simp [Region.wanted, hgd]
  rw [if_pos hw]
  have hr := convert_mark Y #[.int .u8 113] gq 1 cq hq
  unfold Oper.wp execOp
  simp only [ho, Sem.run_bind, Sem.run_pure, Result.andThen_ok, hx, hr]
  exact hK _ (h.mark frz_off hqM (by omega) hqG (own_farT h.row hq (by decide))) (frz_at hq) frz_off

/-- One more entry, as a step of a region. -/
theorem Bt.step {ops : Array Oper} {o : Oper} {a : Act} {Q : Exit → Act → World → Prop} {E : Prop} {KK : Act → World → Prop} (h : Bt w Y K code g M t vs G) (hgd : o.guard = none) (s x : Operand)
    (ho : o.op = .call { callee := .builtin .append, args := #[s, x], argTypes := #[24, 24] }) (hs : a.eval s = .slice t.A t.es.length t.c) (ge gq cq : Nat) (y : Int) (hx : a.eval x = .slice (some ⟨ge, 0, none⟩) 1 1)
    (hge : Y.heap[ge]? = some (.cells #[.slice (some ⟨gq, 0, none⟩) 1 cq, .int .i64 0, .int .i64 y, .int .i64 1] 34 (0, 0))) (hq : Y.heap[gq]? = some (.cells #[.int .u8 113] 5 (1, 2))) (hqM : M ≤ gq) (hqG : ∀ i, i < t.es.length → G.getD i 0 < gq)
    (hK : ∀ A7 c7 w7, ((w7.cell? ⟨g, 1, none⟩ = some (.slice t.A t.es.length t.c) ∧ w7.frozen? ⟨g, 1, none⟩ = false ∧ g < w7.heap.size) ∧
      Bf w (w7.setCell ⟨g, 1, none⟩ (.slice A7 (t.es.length + 1) c7)) K code g { t with A := A7, c := c7, es := t.es ++ [⟨[113], 0, y, 1⟩] }) → KK (a.put o.dst (.slice A7 (t.es.length + 1) c7)) w7) :
    if Region.wanted o (yielded ops a.tmps) = true then Oper.wp Tryz.prog o a Y KK Q else E := by
  obtain ⟨i1, hi1, hy0, hy1, hy2⟩ := info_parts Tryz.infoEntry
  have hf := h.wk.few
  have hM := h.hg
  have hlt := h.lt
  refine step_append_row Y hgd s x 24 ho M 0 34 i1 _ 4 48 Tryz.underlying24 hi1 hy0 hy1 hy2 rfl (by decide) (.slice t.A t.es.length t.c) t.es.length vs hs h.row (.slice (some ⟨ge, 0, none⟩) 1 1) 1 [.slice (some ⟨gq, 0, none⟩) 1 cq, .int .i64 0, .int .i64 y, .int .i64 1] hx ?_ ?_ (by unfold maxLen; omega) (by omega) (by omega) ?_
  · exact ⟨by simp, .inr ⟨ge, 1, _, rfl, Nat.zero_le _, hge, Nat.le_refl _, by unfold maxLen; omega, by simp, by simp⟩⟩
  · intro u hu; simp at hu; rcases hu with rfl | rfl | rfl | rfl <;> rfl
  intro A7 c7 w7 hown7 hgr7
  refine hK A7 c7 w7 ?_
  exact h.grow (e := ⟨[113], 0, y, 1⟩) (gq := gq) (cq := cq) hgr7 hown7 ⟨_, _, hq, .inr (by simp), fun j hj => by
    have : j = 0 := by simp at hj; omega
    subst this
    rfl⟩ hqM hqG (by simp)
end

end Go.Proofs.YtepkicgnhjaokaaGreatDoor

namespace Go.Proofs.YtepkicgnhjaokaaGreatDoor
open Go.RowKit Go.Maps

theorem l3own_q {w : World} {t : Tt} (h : TtIn w t) : Calls Tryz.prog 49 #[.agg #[.slice t.AV 4 t.cv, .slice t.A t.es.length t.c]] w fun e w' => ∃ (u : Tt) (vs : List Value) (G : List Nat) (M : Nat), e = .returned (.agg #[.slice u.AV 4 u.cv, .slice u.A u.es.length u.c]) ∧ Wk u.vec u.es ∧ (w.heap.size ≤ M ∧ M ≤ w'.heap.size ∧ 4 ≤ u.cv) ∧
    IntsFr w' w.heap.size M u.AV u.vec ∧ w'.ownsRow M 34 4 (.slice u.A u.es.length u.c) u.es.length vs ∧ OutRel w' M u.es u.es.length vs G ∧ Below w.heap.size w w' := by
  have hl := h.wk.len
  have hp := l3own_row t.AV t.vec t.cv t.A t.es t.c w h.v h.e (by omega) (by have := h.wk.few; omega) (by have := h.wk.bulk; omega)
  rw [hl] at hp
  refine hp.mono ?_
  rintro e w' ⟨AV, cv, A, c, vs, G, M, rfl, ⟨hM1, hM2, hcv⟩, hiv, hrow, hout, _, hb⟩
  exact ⟨⟨AV, cv, t.vec, A, c, t.es⟩, vs, G, M, by rw [hl], h.wk, ⟨hM1, hM2, by show 4 ≤ cv; omega⟩, hiv, hrow, hout, hb⟩
theorem two_new (w : World) (v0 v1 : Value) (t : TypeId) : (w.alloc (.cells #[v0, v1] t)).cell? ⟨w.heap.size, 0, none⟩ = some v0 ∧ (w.alloc (.cells #[v0, v1] t)).cell? ⟨w.heap.size, 1, none⟩ = some v1 ∧ ∀ o, (w.alloc (.cells #[v0, v1] t)).frozen? ⟨w.heap.size, o, none⟩ = false :=
  ⟨by simp, by simp, fun o => ((Fresh.refl w).alloc _ _) ⟨w.heap.size, o, none⟩ (Nat.le_refl _)⟩

theorem ints_new3 (W : World) (a b c : Int) (t : TypeId) {L : Nat} (hL : L ≤ W.heap.size) : IntsIn (W.alloc (.cells #[.int .i64 a, .int .i64 b, .int .i64 c] t)) L (W.alloc (.cells #[.int .i64 a, .int .i64 b, .int .i64 c] t)).heap.size (some ⟨W.heap.size, 0, none⟩) [a, b, c] := fun _ =>
  ⟨W.heap.size, 0, rfl, hL, by simp, fun j hj => by
    have : j = 0 ∨ j = 1 ∨ j = 2 := by simp at hj; omega
    rcases this with rfl | rfl | rfl <;> simp⟩
theorem ints_alloc {W : World} {L : Nat} {A : Option Addr} {l : List Int} (o : Obj) (h : IntsIn W L W.heap.size A l) : IntsIn (W.alloc o) L (W.alloc o).heap.size A l :=
  (h.keep fun p _ hp => World.cell?_alloc_lt _ _ _ hp).mono (by simp)
theorem ints_off {q a L : Nat} {X Y : World} {l : List Int} (h : OffK q X Y) (hn : a ≠ q) (hx : IntsIn X L X.heap.size (some ⟨a, 0, none⟩) l) : IntsIn Y L Y.heap.size (some ⟨a, 0, none⟩) l := fun hl => by
  obtain ⟨b, o, e, h1, h2, hc⟩ := hx hl
  have hb : b = a := by injection e with e; injection e with e _; exact e.symm
  exact ⟨b, o, e, h1, Nat.lt_of_lt_of_le h2 h.size, fun j hj => (h.cell (p := ⟨b, o + j, none⟩) h2 (by show b ≠ q; omega)).trans (hc j hj)⟩
theorem q_off {K n : Nat} {X Y : World} {ob : Obj} (h : OffK K X Y) (hn : n ≠ K) (hx : X.heap[n]? = some ob) : Y.heap[n]? = some ob :=
  (h.block n (Array.getElem?_eq_some_iff.1 hx).1 (fun e => by injection e with e; exact hn e)).trans hx
theorem strs_at {K n : Nat} {X Y : World} {cs : Array Value} {t : TypeId} {v : Value} (h : OffK K (X.alloc (.cells cs t)) Y) (hK : K < X.heap.size) (hv : cs[n]? = some v) : Y.cell? ⟨X.heap.size, n, none⟩ = some v := by
  have hh := heap_alloc_new X (.cells cs t)
  refine (h.cell (p := ⟨X.heap.size, n, none⟩) (by simp) (by show X.heap.size ≠ K; omega)).trans ?_
  rw [World.cell?, hh]
  simpa using hv
theorem strs_atd {K n : Nat} {X Y : World} {cs : Array Value} {t : TypeId} {v : Value} (h : OffK K (X.alloc (.cells cs t)).drew Y) (hK : K < X.heap.size) (hv : cs[n]? = some v) : Y.cell? ⟨X.heap.size, n, none⟩ = some v :=
  strs_at ((OffK.refl K (X.alloc (.cells cs t))).drew.trans h (.inl rfl)) hK hv
theorem strs_new {n : Nat} (X : World) {cs : Array Value} (t : TypeId) {v : Value} (hv : cs[n]? = some v) : (X.alloc (.cells cs t)).cell? ⟨X.heap.size, n, none⟩ = some v := by
  have hh := heap_alloc_new X (.cells cs t)
  rw [World.cell?, hh]
  simpa using hv
theorem strs_off {K : Nat} {X Y : World} {v0 v1 v2 v3 v4 : Value} {t : TypeId} (h : OffK K (X.alloc (.cells #[v0, v1, v2, v3, v4] t)) Y) (hK : K < X.heap.size) :
    Y.cell? ⟨X.heap.size, 0, none⟩ = some v0 ∧ Y.cell? ⟨X.heap.size, 1, none⟩ = some v1 ∧ Y.cell? ⟨X.heap.size, 2, none⟩ = some v2 ∧ Y.cell? ⟨X.heap.size, 3, none⟩ = some v3 ∧ Y.cell? ⟨X.heap.size, 4, none⟩ = some v4 := by
  have hl : ∀ o, (⟨X.heap.size, o, none⟩ : Addr).block < (X.alloc (.cells #[v0, v1, v2, v3, v4] t)).heap.size := fun o => by simp
  have hne : ∀ o, (⟨X.heap.size, o, none⟩ : Addr).block ≠ K := fun o => by show X.heap.size ≠ K; omega
  exact ⟨(h.cell (hl 0) (hne 0)).trans (by simp), (h.cell (hl 1) (hne 1)).trans (by simp), (h.cell (hl 2) (hne 2)).trans (by simp), (h.cell (hl 3) (hne 3)).trans (by simp), (h.cell (hl 4) (hne 4)).trans (by simp)⟩
theorem strs_offd {K : Nat} {X Y : World} {v0 v1 v2 v3 v4 : Value} {t : TypeId} (h : OffK K (X.alloc (.cells #[v0, v1, v2, v3, v4] t)).drew Y) (hK : K < X.heap.size) :
    Y.cell? ⟨X.heap.size, 0, none⟩ = some v0 ∧ Y.cell? ⟨X.heap.size, 1, none⟩ = some v1 ∧ Y.cell? ⟨X.heap.size, 2, none⟩ = some v2 ∧ Y.cell? ⟨X.heap.size, 3, none⟩ = some v3 ∧ Y.cell? ⟨X.heap.size, 4, none⟩ = some v4 :=
  strs_off ((OffK.refl K (X.alloc (.cells #[v0, v1, v2, v3, v4] t))).drew.trans h (.inl rfl)) hK

set_option maxRecDepth 100000 in
set_option maxHeartbeats 4000000 in
theorem l3bent_any (K : Nat) (code : List UInt8) (w : World) (hC : Cur w K code) :
    Calls Tryz.prog 32 #[.pointer (some ⟨K, 0, none⟩)] w (NewBt K code w) := by
  have HC := Lib.hid hC
  have hK := hC.lt
  clear hC
  go_enter Tryz.func32, Tryz.ntmps32
  go_wp2_with fail
  obtain ⟨W0, hW0⟩ : ∃ x, x = w.alloc (.cells #[.slice none 0 0, .slice none 0 0] 26) := ⟨_, rfl⟩
  have hb0 : Below w.heap.size w W0 := by rw [hW0]; exact (Below.refl _ _).alloc (Nat.le_refl _) _
  have hz0 : w.heap.size < W0.heap.size := by rw [hW0]; simp
  have HR0 := Lib.hid (show W0.cell? ⟨w.heap.size, 0, none⟩ = some (.slice none 0 0) ∧ W0.cell? ⟨w.heap.size, 1, none⟩ = some (.slice none 0 0) ∧ ∀ o, W0.frozen? ⟨w.heap.size, o, none⟩ = false by rw [hW0]; exact two_new _ _ _ _)
  have HO0 := Lib.hid (OffK.of_below (K := K) hb0 (Nat.le_refl _))
  have HC0 := Lib.hid (HC.out.below hb0 hK)
  rw [← hW0]
  clear hW0 hb0 HC
  have hdr := l3draws_any K code 2 (by omega) (by omega) W0 HC0.out
  simp only [Int.cast_ofNat_Int] at hdr
  refine hdr.mono ?_
  clear hdr
  rintro e w1 ⟨T, c0, f, rfl, hd⟩
  have HD := Lib.hid hd
  have d0 : w1.cell? ⟨T, 0, none⟩ = some (.slice (f 0).AV 4 (f 0).cv) := by simpa using hd.tr.c0 0 (by omega)
  have d1 : w1.cell? ⟨T, 1, none⟩ = some (.slice (f 0).A (f 0).es.length (f 0).c) := by simpa using hd.tr.c1 0 (by omega)
  have lT := hd.tr.lt
  have hz1 := hd.off.size
  clear hd
  go_wp2_with fail
  refine (l3own_q (HD.out.tr.ok 0 (by omega))).mono ?_
  rintro e w2 ⟨u, vs, G, M, rfl, hwk, ⟨hM1, hM2, hcv⟩, hiv, hrow, hout, hb2⟩
  have hz2 := hb2.size
  obtain ⟨g, hg⟩ : ∃ g, g = w2.heap.size := ⟨_, rfl⟩
  obtain ⟨W3, hW3⟩ : ∃ x, x = w2.alloc (.cells #[.slice u.AV 4 u.cv, .slice u.A u.es.length u.c] 26) := ⟨_, rfl⟩
  have hb3 : Below w2.heap.size w2 W3 := by rw [hW3]; exact (Below.refl _ _).alloc (Nat.le_refl _) _
  have hb13 := hb2.trans (hb3.mono hz2)
  have HB3 := Lib.hid (show Bt w W3 K code g M u vs G from by
    have h0 : W3.heap[g]? = some (.cells #[.slice u.AV 4 u.cv, .slice u.A u.es.length u.c] 26 (0, 0)) := by rw [hW3, hg]; exact heap_alloc_new w2 _
    have hKne : w.heap.size ≠ K := by omega
    refine ⟨⟨_, h0⟩, by simp [World.cell?, h0], by simp [World.cell?, h0], ?_, ?_, fun o => ?_, ?_, ?_, ?_, by omega, by omega, hwk, hcv, ?_, ?_, hK⟩
    · exact (hb13.cell (p := ⟨w.heap.size, 0, none⟩) (by show w.heap.size < _; omega)).trans ((HD.out.off.cell (p := ⟨w.heap.size, 0, none⟩) hz0 hKne).trans HR0.out.1)
    · exact (hb13.cell (p := ⟨w.heap.size, 1, none⟩) (by show w.heap.size < _; omega)).trans ((HD.out.off.cell (p := ⟨w.heap.size, 1, none⟩) hz0 hKne).trans HR0.out.2.1)
    · exact (hb13.frozen (p := ⟨w.heap.size, o, none⟩) (by show w.heap.size < _; omega)).trans ((HD.out.off.frozen (p := ⟨w.heap.size, o, none⟩) hz0 hKne).trans (HR0.out.2.2 o))
    · exact (hiv.keep fun p _ hp => ⟨hb3.cell (by omega), hb3.frozen (by omega)⟩).low (by omega)
    · exact ownsRow_below hrow hb3 fun g hg => (hrow.lt g hg).2
    · exact hout.keep fun i hi => hb3.block _ (hout.nm i hi).2.lt
    · exact HD.out.cur.below hb13 (by have := HD.out.cur.lt; omega)
    · exact (HO0.out.trans HD.out.off (.inl rfl)).below_at hb13 (by omega))
  go_wp2_with fail
  rw [← hW3, ← hg]
  clear hW3 hg hwk hM1 hM2 hcv hiv hrow hout hb2 hb3 hb13 hz2 d0 d1 lT HD HO0 HR0 HC0
  refine (l1Once_any K code 7 _ HB3.out.cur).mono ?_
  rintro e w4 ⟨b4, rfl, hc4, ho4⟩
  have HB4 := Lib.hid (HB3.out.next hc4 ho4)
  clear hc4 ho4 HB3
  cases b4 with
  | false =>
    have HF := Lib.hid HB4.out.still
    clear HB4
    have lw := HF.out.lt
    have gw := HF.out.gw
    have lw2 : w.heap.size < w4.heap.size := by omega
    obtain ⟨t', hf⟩ : ∃ t', Bf w w4 K code g t' := ⟨_, HF.out⟩
    have HF2 := Lib.hid hf
    have b0 := hf.b0
    have b1 := hf.b1
    have r0 := hf.r0
    have r1 := hf.r1
    have rf0 := hf.rf 0
    have rf1 := hf.rf 1
    obtain ⟨g0, g1⟩ := two_get (v0 := .slice t'.AV t'.vec.length t'.cv) (v1 := .slice t'.A t'.es.length t'.c) r0 r1
    have HG := Lib.hid (And.intro g0 g1)
    clear hf HF g0 g1 
    go_wp2_with fail
    obtain ⟨g0, g1⟩ := HG.out
    refine bodyPost_ret (v := .agg #[.slice t'.AV t'.vec.length t'.cv, .slice t'.A t'.es.length t'.c]) (by simp [results, Tryz.results32, g0, g1, go_sem]) rfl ?_
    exact HF2.out.fin _ _
  | true =>
    go_wp2_with fail
    refine (l1Below_any K code 4 _ HB4.out.cur).mono ?_
    rintro e w5 ⟨x5, rfl, hx5, hc5, ho5⟩
    have HB5 := Lib.hid (HB4.out.next hc5 ho5)
    clear hc5 ho5 HB4
    have hlen := HB5.out.wk.len
    obtain ⟨gV, oV, hAV, hgV1, hgV2, hvc⟩ := HB5.out.iv (by omega)
    have hvc0 := hvc 0 (by omega)
    clear hvc
    have hlg := HB5.out.lt
    have hMg := HB5.out.hg
    have hMw := HB5.out.hM
    have hw5 := HB5.out.off.size
    have HS0 := Lib.hid (show ∀ X, Bt w X K code g M u vs G → X.cell? ⟨g, 0, none⟩ = some (.slice (some ⟨gV, oV, none⟩) 4 u.cv) from fun X h => by rw [← hAV]; exact h.b0)
    have HS1 := Lib.hid (show ∀ X, Bt w X K code g M u vs G → X.cell? ⟨g, 1, none⟩ = some (.slice u.A u.es.length u.c) from fun X h => h.b1)
    have HV0 := Lib.hid (show ∀ X, Bt w X K code g M u vs G → X.cell? ⟨gV, oV, none⟩ = some (.int .i64 u.vec[0]) ∧ X.frozen? ⟨gV, oV, none⟩ = false ∧ gV < X.heap.size from fun X h => by
      obtain ⟨b, o, e, _, h2, hc⟩ := h.iv (by omega)
      rw [hAV] at e
      injection e with e
      injection e with e1 e2
      subst e1
      subst e2
      have hh := hc 0 (by omega)
      rw [Nat.add_zero] at hh
      have := h.lt
      exact ⟨hh.1, hh.2, by omega⟩)
    clear hvc0
    by_cases h0 : x5 = 0
    · subst h0
      go_upto_region 7 with fail
      go_region_held3 (fun X => X.cell? ⟨g, 0, none⟩ = some (.slice (some ⟨gV, oV, none⟩) 4 u.cv))
        (first
          | exact (World.cell?_setCell_other _ _ _ _ (fun e => by injection e; omega)).trans (HS0.out _ HB6.out)
          | (refine HS0.out _ ?_; repeat first | with_reducible exact HB5.out | with_reducible exact HB6.out | with_reducible apply Bt.drew | with_reducible apply Bt.alloc))
        (first
          | (go_at_call 35
             refine (l1PickInt_any K code _ 4 [-1, 0, 1000, 1001] _ (Bt.cur (show Bt w _ K code g M u vs G from by repeat first | with_reducible exact HB5.out | with_reducible exact HB6.out | with_reducible apply Bt.drew | with_reducible apply Bt.alloc)) ?_ (by simp) (by simp)).mono ?_
             · exact (Bq.new _ _ _ _ _ _).ints (by first | omega | (simp; omega))
             rintro r w6 ⟨y, rfl, _, hc6, ho6⟩
             have HB6 := Lib.hid (Bt.next (show Bt w _ K code g M u vs G from by repeat first | with_reducible exact HB5.out | with_reducible exact HB6.out | with_reducible apply Bt.drew | with_reducible apply Bt.alloc) hc6 ho6)
             obtain ⟨c6, f6, l6⟩ := HV0.out w6 HB6.out
             clear hc6 ho6))
      obtain ⟨X, hX⟩ : ∃ X, X = w6.setCell ⟨gV, oV, none⟩ (.int .i64 y) := ⟨_, rfl⟩
      have HF := Lib.hid (show Bf w X K code g _ by rw [hX]; exact HB6.out.num hAV y)
      rw [← hX]
      clear hX HS0 HS1 HV0 HB5 HB6 c6 f6 l6
      have lw := HF.out.lt
      have gw := HF.out.gw
      have lw2 : w.heap.size < X.heap.size := by omega
      obtain ⟨t', hf⟩ : ∃ t', Bf w X K code g t' := ⟨_, HF.out⟩
      have HF2 := Lib.hid hf
      have b0 := hf.b0
      have b1 := hf.b1
      have r0 := hf.r0
      have r1 := hf.r1
      have rf0 := hf.rf 0
      have rf1 := hf.rf 1
      obtain ⟨g0, g1⟩ := two_get (v0 := .slice t'.AV t'.vec.length t'.cv) (v1 := .slice t'.A t'.es.length t'.c) r0 r1
      have HG := Lib.hid (And.intro g0 g1)
      clear hf HF g0 g1 
      go_wp2_with fail
      obtain ⟨g0, g1⟩ := HG.out
      refine bodyPost_ret (v := .agg #[.slice t'.AV t'.vec.length t'.cv, .slice t'.A t'.es.length t'.c]) (by simp [results, Tryz.results32, g0, g1, go_sem]) rfl ?_
      exact HF2.out.fin _ _
    · by_cases h1 : x5 = 1
      · subst h1
        have b0 := HS0.out _ HB5.out
        have f0 := HB5.out.frz 0
        have hcv4 := HB5.out.cv
        go_upto_region 12 with fail
        obtain ⟨X, hX⟩ : ∃ X, X = w5.setCell ⟨g, 0, none⟩ (.slice (some ⟨gV, oV + 1, none⟩) 3 (u.cv - 1)) := ⟨_, rfl⟩
        have HF := Lib.hid (show Bf w X K code g _ by rw [hX]; exact HB5.out.tail hAV (u.cv - 1))
        rw [← hX]
        clear hX HS0 HS1 HV0 HB5 b0 f0
        have lw := HF.out.lt
        have gw := HF.out.gw
        have lw2 : w.heap.size < X.heap.size := by omega
        obtain ⟨t', hf⟩ : ∃ t', Bf w X K code g t' := ⟨_, HF.out⟩
        have HF2 := Lib.hid hf
        have b0 := hf.b0
        have b1 := hf.b1
        have r0 := hf.r0
        have r1 := hf.r1
        have rf0 := hf.rf 0
        have rf1 := hf.rf 1
        obtain ⟨g0, g1⟩ := two_get (v0 := .slice t'.AV t'.vec.length t'.cv) (v1 := .slice t'.A t'.es.length t'.c) r0 r1
        have HG := Lib.hid (And.intro g0 g1)
        clear hf HF g0 g1 
        go_wp2_with fail
        obtain ⟨g0, g1⟩ := HG.out
        refine bodyPost_ret (v := .agg #[.slice t'.AV t'.vec.length t'.cv, .slice t'.A t'.es.length t'.c]) (by simp [results, Tryz.results32, g0, g1, go_sem]) rfl ?_
        exact HF2.out.fin _ _
      · by_cases h2 : x5 = 2
        · subst h2
          have b1 := HS1.out _ HB5.out
          have bf1 := HB5.out.frz 1
          have HG5 := Lib.hid (show ∀ i, i < u.es.length → G.getD i 0 < w5.heap.size from fun i hi => (HB5.out.out.nm i hi).2.lt)
          have hq1 : ((w5.alloc (.cells #[.int .u8 113] 5)).drew).heap[w5.heap.size]? = some (.cells #[.int .u8 113] 5 (0, 0)) := heap_drewF (heap_newF _ rfl)
          have k1 := convert_mark ((w5.alloc (.cells #[.int .u8 113] 5)).drew) #[.int .u8 113] (w5.heap.size) 1 1 hq1
          obtain ⟨W1, hW1⟩ : ∃ x, x = ((w5.alloc (.cells #[.int .u8 113] 5)).drew).freeze ⟨w5.heap.size, #[Value.int .u8 113].size, none⟩ 1 := ⟨_, rfl⟩
          rw [← hW1] at k1
          have ho1 : OffK (w5.heap.size) ((w5.alloc (.cells #[.int .u8 113] 5)).drew) W1 := by rw [hW1]; exact frz_off
          have HB_1 := Lib.hid (show Bt w W1 K code g M u vs G from Bt.mark (show Bt w ((w5.alloc (.cells #[.int .u8 113] 5)).drew) K code g M u vs G from by repeat first | with_reducible exact HB5.out | with_reducible apply Bt.drew | with_reducible apply Bt.alloc) ho1 (by omega) (by omega) (fun i hi => Nat.lt_of_lt_of_le (HG5.out i hi) (by omega)) (own_farT (Bt.row (show Bt w ((w5.alloc (.cells #[.int .u8 113] 5)).drew) K code g M u vs G from by repeat first | with_reducible exact HB5.out | with_reducible apply Bt.drew | with_reducible apply Bt.alloc)) hq1 (by decide)))
          have HQ_1 := Lib.hid (show W1.heap[w5.heap.size]? = some (.cells #[.int .u8 113] 5 (1, 2)) from by rw [hW1]; exact frz_at hq1)
          have b1_1 := HS1.out _ HB_1.out
          have f1_1 := HB_1.out.frz 1
          have lg_1 : g < W1.heap.size := HB_1.out.lt
          have hz_1 : w5.heap.size < W1.heap.size := by have := ho1.size; simp at this; omega
          have hq2 : (((w5.alloc (.cells #[.int .u8 113] 5)).alloc (.cells #[.int .i64 (-1), .int .i64 0, .int .i64 4] 3)).drew).heap[w5.heap.size]? = some (.cells #[.int .u8 113] 5 (0, 0)) := heap_drewF (heap_oldE (heap_newF _ rfl))
          have k2 := convert_mark (((w5.alloc (.cells #[.int .u8 113] 5)).alloc (.cells #[.int .i64 (-1), .int .i64 0, .int .i64 4] 3)).drew) #[.int .u8 113] (w5.heap.size) 1 1 hq2
          obtain ⟨W2, hW2⟩ : ∃ x, x = (((w5.alloc (.cells #[.int .u8 113] 5)).alloc (.cells #[.int .i64 (-1), .int .i64 0, .int .i64 4] 3)).drew).freeze ⟨w5.heap.size, #[Value.int .u8 113].size, none⟩ 1 := ⟨_, rfl⟩
          rw [← hW2] at k2
          have ho2 : OffK (w5.heap.size) (((w5.alloc (.cells #[.int .u8 113] 5)).alloc (.cells #[.int .i64 (-1), .int .i64 0, .int .i64 4] 3)).drew) W2 := by rw [hW2]; exact frz_off
          have HB_2 := Lib.hid (show Bt w W2 K code g M u vs G from Bt.mark (show Bt w (((w5.alloc (.cells #[.int .u8 113] 5)).alloc (.cells #[.int .i64 (-1), .int .i64 0, .int .i64 4] 3)).drew) K code g M u vs G from by repeat first | with_reducible exact HB5.out | with_reducible apply Bt.drew | with_reducible apply Bt.alloc) ho2 (by omega) (by omega) (fun i hi => Nat.lt_of_lt_of_le (HG5.out i hi) (by omega)) (own_farT (Bt.row (show Bt w (((w5.alloc (.cells #[.int .u8 113] 5)).alloc (.cells #[.int .i64 (-1), .int .i64 0, .int .i64 4] 3)).drew) K code g M u vs G from by repeat first | with_reducible exact HB5.out | with_reducible apply Bt.drew | with_reducible apply Bt.alloc)) hq2 (by decide)))
          have HQ_2 := Lib.hid (show W2.heap[w5.heap.size]? = some (.cells #[.int .u8 113] 5 (1, 2)) from by rw [hW2]; exact frz_at hq2)
          have b1_2 := HS1.out _ HB_2.out
          have f1_2 := HB_2.out.frz 1
          have lg_2 : g < W2.heap.size := HB_2.out.lt
          have hz_2 : w5.heap.size < W2.heap.size := by have := ho2.size; simp at this; omega
          have HI_2 := Lib.hid (show IntsIn W2 (K + 1) W2.heap.size (some ⟨w5.heap.size + 1, 0, none⟩) [-1, 0, 4] from ints_off ho2 (by omega) (by have h3 := ints_new3 (w5.alloc (.cells #[.int .u8 113] 5)) (-1) 0 4 3 (L := K + 1) (by simp; omega); rw [show (w5.alloc (.cells #[.int .u8 113] 5)).heap.size = w5.heap.size + 1 by simp] at h3; exact h3))
          have hq4 : (((w5.alloc (.cells #[.int .i64 (-1), .int .i64 0, .int .i64 4] 3)).alloc (.cells #[.int .u8 113] 5)).drew).heap[w5.heap.size + 1]? = some (.cells #[.int .u8 113] 5 (0, 0)) := heap_drewF (heap_newF _ (by simp))
          have k4 := convert_mark (((w5.alloc (.cells #[.int .i64 (-1), .int .i64 0, .int .i64 4] 3)).alloc (.cells #[.int .u8 113] 5)).drew) #[.int .u8 113] (w5.heap.size + 1) 1 1 hq4
          obtain ⟨W4, hW4⟩ : ∃ x, x = (((w5.alloc (.cells #[.int .i64 (-1), .int .i64 0, .int .i64 4] 3)).alloc (.cells #[.int .u8 113] 5)).drew).freeze ⟨w5.heap.size + 1, #[Value.int .u8 113].size, none⟩ 1 := ⟨_, rfl⟩
          rw [← hW4] at k4
          have ho4 : OffK (w5.heap.size + 1) (((w5.alloc (.cells #[.int .i64 (-1), .int .i64 0, .int .i64 4] 3)).alloc (.cells #[.int .u8 113] 5)).drew) W4 := by rw [hW4]; exact frz_off
          have HB_4 := Lib.hid (show Bt w W4 K code g M u vs G from Bt.mark (show Bt w (((w5.alloc (.cells #[.int .i64 (-1), .int .i64 0, .int .i64 4] 3)).alloc (.cells #[.int .u8 113] 5)).drew) K code g M u vs G from by repeat first | with_reducible exact HB5.out | with_reducible apply Bt.drew | with_reducible apply Bt.alloc) ho4 (by omega) (by omega) (fun i hi => Nat.lt_of_lt_of_le (HG5.out i hi) (by omega)) (own_farT (Bt.row (show Bt w (((w5.alloc (.cells #[.int .i64 (-1), .int .i64 0, .int .i64 4] 3)).alloc (.cells #[.int .u8 113] 5)).drew) K code g M u vs G from by repeat first | with_reducible exact HB5.out | with_reducible apply Bt.drew | with_reducible apply Bt.alloc)) hq4 (by decide)))
          have HQ_4 := Lib.hid (show W4.heap[w5.heap.size + 1]? = some (.cells #[.int .u8 113] 5 (1, 2)) from by rw [hW4]; exact frz_at hq4)
          have b1_4 := HS1.out _ HB_4.out
          have f1_4 := HB_4.out.frz 1
          have lg_4 : g < W4.heap.size := HB_4.out.lt
          have hz_4 : w5.heap.size < W4.heap.size := by have := ho4.size; simp at this; omega
          have HI_4 := Lib.hid (show IntsIn W4 (K + 1) W4.heap.size (some ⟨w5.heap.size, 0, none⟩) [-1, 0, 4] from ints_off ho4 (by omega) (ints_alloc _ (ints_new3 w5 (-1) 0 4 3 (L := K + 1) (by omega))))
          have HI_3 := Lib.hid (show IntsIn ((w5.alloc (.cells #[.int .u8 113] 5)).alloc (.cells #[.int .i64 (-1), .int .i64 0, .int .i64 4] 3)).drew (K + 1) ((w5.alloc (.cells #[.int .u8 113] 5)).alloc (.cells #[.int .i64 (-1), .int .i64 0, .int .i64 4] 3)).drew.heap.size (some ⟨w5.heap.size + 1, 0, none⟩) [-1, 0, 4] from by
            have h3 := ints_new3 (w5.alloc (.cells #[.int .u8 113] 5)) (-1) 0 4 3 (L := K + 1) (by simp; omega)
            rw [show (w5.alloc (.cells #[.int .u8 113] 5)).heap.size = w5.heap.size + 1 by simp] at h3
            exact h3)
          have HI_5 := Lib.hid (show IntsIn ((w5.alloc (.cells #[.int .i64 (-1), .int .i64 0, .int .i64 4] 3)).alloc (.cells #[.int .u8 113] 5)).drew (K + 1) ((w5.alloc (.cells #[.int .i64 (-1), .int .i64 0, .int .i64 4] 3)).alloc (.cells #[.int .u8 113] 5)).drew.heap.size (some ⟨w5.heap.size, 0, none⟩) [-1, 0, 4] from ints_alloc _ (ints_new3 w5 (-1) 0 4 3 (L := K + 1) (by omega)))
          have HI_6 := Lib.hid (show IntsIn (w5.alloc (.cells #[.int .i64 (-1), .int .i64 0, .int .i64 4] 3)).drew (K + 1) (w5.alloc (.cells #[.int .i64 (-1), .int .i64 0, .int .i64 4] 3)).drew.heap.size (some ⟨w5.heap.size, 0, none⟩) [-1, 0, 4] from ints_new3 w5 (-1) 0 4 3 (L := K + 1) (by omega))
          have HI_1 := Lib.hid (ints_new3 W1 (-1) 0 4 3 (L := K + 1) (by omega))
          have hn1 : w5.heap.size ≠ K := by omega
          have hn2 : w5.heap.size + 1 ≠ K := by omega
          have hsI : (w5.alloc (.cells #[.int .i64 (-1), .int .i64 0, .int .i64 4] 3)).heap.size = w5.heap.size + 1 := by simp
          have HsI := Lib.hid hsI
          clear hsI
          clear hW1 hW2 hW4 hq1 hq2 hq4 ho1 ho2 ho4
          go_upto_region 11 with fail
          go_region_law
            (first
              | (first
                   | (refine Bt.step (w := w) (K := K) (code := code) (g := g) (M := M) (t := u) (vs := vs) (G := G) ?_ (by rfl) _ _ (by rfl) (by rfl) _ (w5.heap.size) 1 y (by rfl) ?_ ?_ ?_ ?_ ?_
                      · exact (show Bt w _ K code g M u vs G from by repeat first | with_reducible exact HB5.out | with_reducible exact HB_1.out | with_reducible exact HB_2.out | with_reducible exact HB_4.out | with_reducible exact HB6.out | with_reducible exact HB8.out | with_reducible apply Bt.drew | with_reducible apply Bt.alloc)
                      · (repeat first | with_reducible apply heap_drewF | exact heap_newF _ (by first | rfl | (simp; done) | (simp; omega)) | exact heap_oldE (heap_newF _ (by first | rfl | (simp; done) | (simp; omega))))
                      · (first | exact HQ6.out | exact HQ8.out | exact heap_oldE HQ6.out | exact heap_oldE HQ8.out)
                      · (first | omega | (simp; omega))
                      · exact fun i hi => Nat.lt_of_lt_of_le (HG5.out i hi) (by first | omega | (simp; omega)))
                   | (refine Bt.step (w := w) (K := K) (code := code) (g := g) (M := M) (t := u) (vs := vs) (G := G) ?_ (by rfl) _ _ (by rfl) (by rfl) _ (w5.heap.size + 1) 1 y (by rfl) ?_ ?_ ?_ ?_ ?_
                      · exact (show Bt w _ K code g M u vs G from by repeat first | with_reducible exact HB5.out | with_reducible exact HB_1.out | with_reducible exact HB_2.out | with_reducible exact HB_4.out | with_reducible exact HB6.out | with_reducible exact HB8.out | with_reducible apply Bt.drew | with_reducible apply Bt.alloc)
                      · (repeat first | with_reducible apply heap_drewF | exact heap_newF _ (by first | rfl | (simp; done) | (simp; omega)) | exact heap_oldE (heap_newF _ (by first | rfl | (simp; done) | (simp; omega))))
                      · (first | exact HQ6.out | exact HQ8.out | exact heap_oldE HQ6.out | exact heap_oldE HQ8.out)
                      · (first | omega | (simp; omega))
                      · exact fun i hi => Nat.lt_of_lt_of_le (HG5.out i hi) (by first | omega | (simp; omega)))
                   | (refine Bt.step (w := w) (K := K) (code := code) (g := g) (M := M) (t := u) (vs := vs) (G := G) ?_ (by rfl) _ _ (by rfl) (by rfl) _ (w6.heap.size) 1 y (by rfl) ?_ ?_ ?_ ?_ ?_
                      · exact (show Bt w _ K code g M u vs G from by repeat first | with_reducible exact HB5.out | with_reducible exact HB_1.out | with_reducible exact HB_2.out | with_reducible exact HB_4.out | with_reducible exact HB6.out | with_reducible exact HB8.out | with_reducible apply Bt.drew | with_reducible apply Bt.alloc)
                      · (repeat first | with_reducible apply heap_drewF | exact heap_newF _ (by first | rfl | (simp; done) | (simp; omega)) | exact heap_oldE (heap_newF _ (by first | rfl | (simp; done) | (simp; omega))))
                      · (first | exact HQ6.out | exact HQ8.out | exact heap_oldE HQ6.out | exact heap_oldE HQ8.out)
                      · (first | omega | (simp; omega))
                      · exact fun i hi => Nat.lt_of_lt_of_le (HG5.out i hi) (by first | omega | (simp; omega)))
                 intro A7 c7 w7 hf
                 obtain ⟨q1, qf1, ql1⟩ := hf.1
                 have HF := Lib.hid hf.2
                 clear hf)
              | (go_simp
                 go_at_call 35
                 refine (l1PickInt_any K code _ 3 [-1, 0, 4] _ (Bt.cur (show Bt w _ K code g M u vs G from by repeat first | with_reducible exact HB5.out | with_reducible exact HB_1.out | with_reducible exact HB_2.out | with_reducible exact HB_4.out | with_reducible exact HB6.out | with_reducible exact HB8.out | with_reducible apply Bt.drew | with_reducible apply Bt.alloc)) ?_ (by simp) (by simp)).mono ?_
                 · first | exact HI_1.out | exact HI_2.out | exact HI_3.out | exact HI_4.out | exact HI_5.out | exact HI_6.out
                 rintro r w6 ⟨y, rfl, _, hc6, ho6⟩
                 have HB6 := Lib.hid (Bt.next (show Bt w _ K code g M u vs G from by repeat first | with_reducible exact HB5.out | with_reducible exact HB_1.out | with_reducible exact HB_2.out | with_reducible exact HB_4.out | with_reducible exact HB6.out | with_reducible exact HB8.out | with_reducible apply Bt.drew | with_reducible apply Bt.alloc) hc6 ho6)
                 have b16 := HS1.out _ HB6.out
                 have bf6 := HB6.out.frz 1
                 have lg6 : g < w6.heap.size := HB6.out.lt
                 have hz6 : w5.heap.size ≤ w6.heap.size := by have := ho6.size; first | omega | (simp at this; omega)
                 first
                   | (first | have hq6 : w6.heap[w5.heap.size]? = some (.cells #[.int .u8 113] 5 (1, 2)) := q_off ho6 hn1 HQ_2.out | have hq6 : w6.heap[w5.heap.size]? = some (.cells #[.int .u8 113] 5 (1, 2)) := q_off ho6 hn1 (heap_oldE HQ_1.out) | have hq6 : w6.heap[w5.heap.size]? = some (.cells #[.int .u8 113] 5 (1, 2)) := q_off ho6 hn1 HQ_1.out
                      have HQ6 := Lib.hid hq6
                      clear hq6)
                   | (first | have hq6 : w6.heap[w5.heap.size + 1]? = some (.cells #[.int .u8 113] 5 (1, 2)) := q_off ho6 hn2 HQ_4.out
                      have HQ6 := Lib.hid hq6
                      clear hq6)
                   | (first | have hu6 : w6.heap[w5.heap.size]? = some (.cells #[.int .u8 113] 5 (0, 0)) := q_off ho6 hn1 (heap_drewF (heap_oldE (heap_newF _ rfl))) | have hu6 : w6.heap[w5.heap.size]? = some (.cells #[.int .u8 113] 5 (0, 0)) := q_off ho6 hn1 (heap_oldE (heap_newF _ rfl)) | have hu6 : w6.heap[w5.heap.size]? = some (.cells #[.int .u8 113] 5 (0, 0)) := q_off ho6 hn1 (heap_newF _ rfl)
                      have k6 := convert_mark w6 #[.int .u8 113] (w5.heap.size) 1 1 hu6
                      obtain ⟨W8, hW8⟩ : ∃ x, x = w6.freeze ⟨w5.heap.size, #[Value.int .u8 113].size, none⟩ 1 := ⟨_, rfl⟩
                      rw [← hW8] at k6
                      have ho8 : OffK (w5.heap.size) w6 W8 := by rw [hW8]; exact frz_off
                      have HB8 := Lib.hid (HB6.out.mark ho8 (by omega) (by omega) (fun i hi => Nat.lt_of_lt_of_le (HG5.out i hi) (by omega)) (own_farT HB6.out.row hu6 (by decide)))
                      have HQ8 := Lib.hid (show W8.heap[w5.heap.size]? = some (.cells #[.int .u8 113] 5 (1, 2)) from by rw [hW8]; exact frz_at hu6)
                      have b18 := HS1.out _ HB8.out
                      have bf8 := HB8.out.frz 1
                      have lg8 : g < W8.heap.size := HB8.out.lt
                      have hz8 := ho8.size
                      clear hW8 ho8 hu6)
                   | (first | have hu6 : w6.heap[w5.heap.size + 1]? = some (.cells #[.int .u8 113] 5 (0, 0)) := q_off ho6 hn2 (heap_drewF (heap_newF _ HsI.out)) | have hu6 : w6.heap[w5.heap.size + 1]? = some (.cells #[.int .u8 113] 5 (0, 0)) := q_off ho6 hn2 (heap_newF _ HsI.out)
                      have k6 := convert_mark w6 #[.int .u8 113] (w5.heap.size + 1) 1 1 hu6
                      obtain ⟨W8, hW8⟩ : ∃ x, x = w6.freeze ⟨w5.heap.size + 1, #[Value.int .u8 113].size, none⟩ 1 := ⟨_, rfl⟩
                      rw [← hW8] at k6
                      have ho8 : OffK (w5.heap.size + 1) w6 W8 := by rw [hW8]; exact frz_off
                      have HB8 := Lib.hid (HB6.out.mark ho8 (by omega) (by omega) (fun i hi => Nat.lt_of_lt_of_le (HG5.out i hi) (by omega)) (own_farT HB6.out.row hu6 (by decide)))
                      have HQ8 := Lib.hid (show W8.heap[w5.heap.size + 1]? = some (.cells #[.int .u8 113] 5 (1, 2)) from by rw [hW8]; exact frz_at hu6)
                      have b18 := HS1.out _ HB8.out
                      have bf8 := HB8.out.frz 1
                      have lg8 : g < W8.heap.size := HB8.out.lt
                      have hz8 := ho8.size
                      clear hW8 ho8 hu6)
                   | (have hu6 : (w6.alloc (.cells #[.int .u8 113] 5)).heap[w6.heap.size]? = some (.cells #[.int .u8 113] 5 (0, 0)) := heap_newF _ rfl
                      have k6 := convert_mark (w6.alloc (.cells #[.int .u8 113] 5)) #[.int .u8 113] w6.heap.size 1 1 hu6
                      obtain ⟨W8, hW8⟩ : ∃ x, x = (w6.alloc (.cells #[.int .u8 113] 5)).freeze ⟨w6.heap.size, #[Value.int .u8 113].size, none⟩ 1 := ⟨_, rfl⟩
                      rw [← hW8] at k6
                      have ho8 : OffK w6.heap.size (w6.alloc (.cells #[.int .u8 113] 5)) W8 := by rw [hW8]; exact frz_off
                      have hlt6 := HB6.out.lt
                      have HB8 := Lib.hid ((HB6.out.alloc (.cells #[.int .u8 113] 5)).mark ho8 (by omega) (by omega) (fun i hi => Nat.lt_of_lt_of_le (HG5.out i hi) (by omega)) (own_farT (HB6.out.alloc (.cells #[.int .u8 113] 5)).row hu6 (by decide)))
                      have HQ8 := Lib.hid (show W8.heap[w6.heap.size]? = some (.cells #[.int .u8 113] 5 (1, 2)) from by rw [hW8]; exact frz_at hu6)
                      have b18 := HS1.out _ HB8.out
                      have bf8 := HB8.out.frz 1
                      have lg8 : g < W8.heap.size := HB8.out.lt
                      have hz8 : w6.heap.size < W8.heap.size := by have := ho8.size; simp at this; omega
                      clear hW8 ho8 hu6)
                 clear hc6 ho6
                 go_wp2_with fail))
          all_goals
            obtain ⟨X, hX⟩ : ∃ X, X = w7.setCell ⟨g, 1, none⟩ (.slice A7 (u.es.length + 1) c7) := ⟨_, rfl⟩
            rw [← hX] at HF ⊢
            clear hX HS0 HS1 HV0 HB5 HB6 HB_1 HB_2 HB_4 HQ_1 HQ_2 HQ_4 HI_1 HI_2 HI_3 HI_4 HI_5 HI_6 k1 k2 k4 b1_1 b1_2 b1_4 f1_1 f1_2 f1_4 q1 qf1 ql1 b1 bf1
            have lw := HF.out.lt
            have gw := HF.out.gw
            have lw2 : w.heap.size < X.heap.size := by omega
            obtain ⟨t', hf⟩ : ∃ t', Bf w X K code g t' := ⟨_, HF.out⟩
            have HF2 := Lib.hid hf
            have b0 := hf.b0
            have b1 := hf.b1
            have r0 := hf.r0
            have r1 := hf.r1
            have rf0 := hf.rf 0
            have rf1 := hf.rf 1
            obtain ⟨g0, g1⟩ := two_get (v0 := .slice t'.AV t'.vec.length t'.cv) (v1 := .slice t'.A t'.es.length t'.c) r0 r1
            have HG := Lib.hid (And.intro g0 g1)
            clear hf HF g0 g1 
            go_wp2_with fail
            obtain ⟨g0, g1⟩ := HG.out
            refine bodyPost_ret (v := .agg #[.slice t'.AV t'.vec.length t'.cv, .slice t'.A t'.es.length t'.c]) (by simp [results, Tryz.results32, g0, g1, go_sem]) rfl ?_
            exact HF2.out.fin _ _
        · have b1 := HS1.out _ HB5.out
          by_cases hpos : u.es.length = 0
          · have hp0 : ¬ (0 : Int) < (u.es.length : Int) := by omega
            go_upto_region 12 with fail
            have HF := Lib.hid HB5.out.still
            clear HS0 HS1 HV0 HB5 b1
            have lw := HF.out.lt
            have gw := HF.out.gw
            have lw2 : w.heap.size < w5.heap.size := by omega
            obtain ⟨t', hf⟩ : ∃ t', Bf w w5 K code g t' := ⟨_, HF.out⟩
            have HF2 := Lib.hid hf
            have b0 := hf.b0
            have b1 := hf.b1
            have r0 := hf.r0
            have r1 := hf.r1
            have rf0 := hf.rf 0
            have rf1 := hf.rf 1
            obtain ⟨g0, g1⟩ := two_get (v0 := .slice t'.AV t'.vec.length t'.cv) (v1 := .slice t'.A t'.es.length t'.c) r0 r1
            have HG := Lib.hid (And.intro g0 g1)
            clear hf HF g0 g1 
            go_wp2_with fail
            obtain ⟨g0, g1⟩ := HG.out
            refine bodyPost_ret (v := .agg #[.slice t'.AV t'.vec.length t'.cv, .slice t'.A t'.es.length t'.c]) (by simp [results, Tryz.results32, g0, g1, go_sem]) rfl ?_
            exact HF2.out.fin _ _
          · have hp0 : (0 : Int) < (u.es.length : Int) := by omega
            obtain ⟨e0, es, hes⟩ : ∃ e0 es, u.es = e0 :: es := by
              cases hh : u.es with
              | nil => rw [hh] at hpos; exact absurd rfl hpos
              | cons a b => exact ⟨a, b, rfl⟩
            obtain ⟨R, hR⟩ : ∃ R, u.A = some ⟨R, 0, none⟩ := by
              obtain ⟨R, _, _, _, _, e, _⟩ := (HB5.out.out.own HB5.out.row) (by omega)
              exact ⟨R, e⟩
            have HRc := Lib.hid (show ∀ X, Bt w X K code g M u vs G → ∃ v, X.cell? ⟨R, 0, none⟩ = some v ∧ X.frozen? ⟨R, 0, none⟩ = false ∧ R < X.heap.size from fun X h => by
              obtain ⟨R', N, lo, up, c, e, hlay, hc⟩ := (h.out.own h.row) (by omega)
              rw [hR] at e
              injection e with e
              injection e with e _
              subst e
              have hx := hc 0 (by omega)
              have h0 := hx.c0
              have h1 := hx.fr 0 (by omega)
              rw [Nat.zero_mul] at h0 h1
              exact ⟨_, h0, h1, hlay.up⟩)
            have HS2 := Lib.hid (show ∀ X, Bt w X K code g M u vs G → X.cell? ⟨g, 1, none⟩ = some (.slice (some ⟨R, 0, none⟩) u.es.length u.c) from fun X h => by rw [← hR]; exact h.b1)
            obtain ⟨_, _, _, lR5⟩ := HRc.out w5 HB5.out
            have hK5 : K < w5.heap.size := HB5.out.cur.lt
            replace b1 := HS2.out _ HB5.out
            have HEs := Lib.hid hes
            have HRr := Lib.hid hR
            clear hes hR
            go_upto_region 5 with fail
            go_region_law
              (first
                | (go_simp
                   go_at_call 33
                   refine (l1Below_any K code 5 _ (Bt.cur (show Bt w _ K code g M u vs G from by repeat first | with_reducible exact HB5.out | with_reducible exact HB6.out | with_reducible apply Bt.drew | with_reducible apply Bt.alloc))).mono ?_
                   rintro r w6 ⟨x6, rfl, hx6, hc6, ho6⟩
                   have HB6 := Lib.hid (Bt.next (show Bt w _ K code g M u vs G from by repeat first | with_reducible exact HB5.out | with_reducible exact HB6.out | with_reducible apply Bt.drew | with_reducible apply Bt.alloc) hc6 ho6)
                   have b16 := HS2.out _ HB6.out
                   have lg6 : g < w6.heap.size := HB6.out.lt
                   have hz6 : w5.heap.size ≤ w6.heap.size := by have := ho6.size; first | omega | (simp at this; omega)
                   obtain ⟨n, rfl⟩ := Int.eq_ofNat_of_zero_le hx6.1
                   have hn5 : n < 5 := by have := hx6.2.1 (by omega); omega
                   have hn5' : (n : Int) < 5 := by omega
                   clear hx6
                   obtain ⟨l, hs6, hl24⟩ : ∃ l : List UInt8, (#[.string { data := #[] }, .string { data := #[97, 126] }, .string { data := #[97, 47, 98] }, .string { data := #[255] }, .string { data := #[97, 98, 99, 100, 101, 102, 103] }] : Array Value)[n]? = some (.string ⟨l.toArray⟩) ∧ l.length ≤ 24 := by
                     have : n = 0 ∨ n = 1 ∨ n = 2 ∨ n = 3 ∨ n = 4 := by omega
                     rcases this with rfl | rfl | rfl | rfl | rfl
                     · exact ⟨[], rfl, by decide⟩
                     · exact ⟨[97, 126], rfl, by decide⟩
                     · exact ⟨[97, 47, 98], rfl, by decide⟩
                     · exact ⟨[255], rfl, by decide⟩
                     · exact ⟨[97, 98, 99, 100, 101, 102, 103], rfl, by decide⟩
                   try (first
                     | have hsA := strs_at (h := ho6) hK5 hs6
                     | have hsA := strs_atd (h := ho6) hK5 hs6)
                   have hsB := strs_new w6 9 hs6
                   clear hc6 ho6
                   have hcvA := Lib.run_convert_string_bytes (P := Tryz.prog) w6 9 22 5 ⟨l.toArray⟩ Tryz.underlying9 Tryz.underlying22 Tryz.underlying5
                   obtain ⟨WA, hWA⟩ : ∃ y, y = Lib.bytesWorld w6 5 ⟨l.toArray⟩ := ⟨_, rfl⟩
                   obtain ⟨gcA, hgcA⟩ : ∃ y, y = grownCap w6 (ByteArray.size ⟨l.toArray⟩) 0 5 := ⟨_, rfl⟩
                   rw [← hWA, ← hgcA, show ByteArray.size ⟨l.toArray⟩ = l.length from rfl] at hcvA
                   have hbA : Below w6.heap.size w6 WA := by rw [hWA]; exact conv_below _ _ _
                   have hNA : BytesIn WA (w.heap.size + 1) WA.heap.size (some ⟨w6.heap.size, 0, none⟩) l := by rw [hWA]; exact conv_drawn w6 _ _ _ rfl _ (by first | omega | (simp; omega))
                   have HBA := Lib.hid (Bt.below HB6.out hbA)
                   obtain ⟨vRA, c8A, f8A, l8A⟩ := HRc.out WA HBA.out
                   have b1A := HS2.out _ HBA.out
                   have lgA : g < WA.heap.size := HBA.out.lt
                   obtain ⟨XA, hXA⟩ : ∃ X, X = WA.setCell ⟨R, 0, none⟩ (.slice (some ⟨w6.heap.size, 0, none⟩) l.length gcA) := ⟨_, rfl⟩
                   have HFA := Lib.hid (show ∃ t', Bf w XA K code g t' from ⟨_, by rw [hXA]; exact HBA.out.name HRr.out HEs.out (l := l) (cn := gcA) hl24 hNA (by first | omega | (simp; omega))⟩)
                   clear hWA hgcA hbA hNA
                   have hcvB := Lib.run_convert_string_bytes (P := Tryz.prog) (w6.alloc (.cells #[.string { data := #[] }, .string { data := #[97, 126] }, .string { data := #[97, 47, 98] }, .string { data := #[255] }, .string { data := #[97, 98, 99, 100, 101, 102, 103] }] 9)) 9 22 5 ⟨l.toArray⟩ Tryz.underlying9 Tryz.underlying22 Tryz.underlying5
                   obtain ⟨WB, hWB⟩ : ∃ y, y = Lib.bytesWorld (w6.alloc (.cells #[.string { data := #[] }, .string { data := #[97, 126] }, .string { data := #[97, 47, 98] }, .string { data := #[255] }, .string { data := #[97, 98, 99, 100, 101, 102, 103] }] 9)) 5 ⟨l.toArray⟩ := ⟨_, rfl⟩
                   obtain ⟨gcB, hgcB⟩ : ∃ y, y = grownCap (w6.alloc (.cells #[.string { data := #[] }, .string { data := #[97, 126] }, .string { data := #[97, 47, 98] }, .string { data := #[255] }, .string { data := #[97, 98, 99, 100, 101, 102, 103] }] 9)) (ByteArray.size ⟨l.toArray⟩) 0 5 := ⟨_, rfl⟩
                   rw [← hWB, ← hgcB, show ByteArray.size ⟨l.toArray⟩ = l.length from rfl] at hcvB
                   have hbB : Below (w6.alloc (.cells #[.string { data := #[] }, .string { data := #[97, 126] }, .string { data := #[97, 47, 98] }, .string { data := #[255] }, .string { data := #[97, 98, 99, 100, 101, 102, 103] }] 9)).heap.size (w6.alloc (.cells #[.string { data := #[] }, .string { data := #[97, 126] }, .string { data := #[97, 47, 98] }, .string { data := #[255] }, .string { data := #[97, 98, 99, 100, 101, 102, 103] }] 9)) WB := by rw [hWB]; exact conv_below _ _ _
                   have hNB : BytesIn WB (w.heap.size + 1) WB.heap.size (some ⟨(w6.alloc (.cells #[.string { data := #[] }, .string { data := #[97, 126] }, .string { data := #[97, 47, 98] }, .string { data := #[255] }, .string { data := #[97, 98, 99, 100, 101, 102, 103] }] 9)).heap.size, 0, none⟩) l := by rw [hWB]; exact conv_drawn (w6.alloc (.cells #[.string { data := #[] }, .string { data := #[97, 126] }, .string { data := #[97, 47, 98] }, .string { data := #[255] }, .string { data := #[97, 98, 99, 100, 101, 102, 103] }] 9)) _ _ _ rfl _ (by first | omega | (simp; omega))
                   have HBB := Lib.hid (Bt.below (HB6.out.alloc _) hbB)
                   obtain ⟨vRB, c8B, f8B, l8B⟩ := HRc.out WB HBB.out
                   have b1B := HS2.out _ HBB.out
                   have lgB : g < WB.heap.size := HBB.out.lt
                   obtain ⟨XB, hXB⟩ : ∃ X, X = WB.setCell ⟨R, 0, none⟩ (.slice (some ⟨(w6.alloc (.cells #[.string { data := #[] }, .string { data := #[97, 126] }, .string { data := #[97, 47, 98] }, .string { data := #[255] }, .string { data := #[97, 98, 99, 100, 101, 102, 103] }] 9)).heap.size, 0, none⟩) l.length gcB) := ⟨_, rfl⟩
                   have HFB := Lib.hid (show ∃ t', Bf w XB K code g t' from ⟨_, by rw [hXB]; exact HBB.out.name HRr.out HEs.out (l := l) (cn := gcB) hl24 hNB (by first | omega | (simp; omega))⟩)
                   clear hWB hgcB hbB hNB
                   go_wp2_with fail))
            all_goals first
              | (rw [← hXA]; have HF0 := HFA; obtain ⟨X, hXX⟩ : ∃ X, X = XA := ⟨_, rfl⟩; rw [← hXX] at HF0 ⊢; clear hXX)
              | (have esz : (w6.alloc (.cells #[.string { data := #[] }, .string { data := #[97, 126] }, .string { data := #[97, 47, 98] }, .string { data := #[255] }, .string { data := #[97, 98, 99, 100, 101, 102, 103] }] 9)).heap.size = w6.heap.size + 1 := by simp
                 rw [esz] at hXB; clear esz; rw [← hXB]; have HF0 := HFB; obtain ⟨X, hXX⟩ : ∃ X, X = XB := ⟨_, rfl⟩; rw [← hXX] at HF0 ⊢; clear hXX)
            all_goals obtain ⟨t0, hf0⟩ := HF0.out
            all_goals have HF := Lib.hid hf0
            all_goals clear hf0 HF0 HFA HFB hXA hXB HS0 HS1 HS2 HV0 HRc HB5 HB6 HBA HBB b1 b1A b1B hcvA hcvB c8A c8B f8A f8B l8A l8B hs6 hsB b16
            all_goals
              have lw := HF.out.lt
              have gw := HF.out.gw
              have lw2 : w.heap.size < X.heap.size := by omega
              obtain ⟨t', hf⟩ : ∃ t', Bf w X K code g t' := ⟨_, HF.out⟩
              have HF2 := Lib.hid hf
              have b0 := hf.b0
              have b1 := hf.b1
              have r0 := hf.r0
              have r1 := hf.r1
              have rf0 := hf.rf 0
              have rf1 := hf.rf 1
              obtain ⟨g0, g1⟩ := two_get (v0 := .slice t'.AV t'.vec.length t'.cv) (v1 := .slice t'.A t'.es.length t'.c) r0 r1
              have HG := Lib.hid (And.intro g0 g1)
              clear hf HF g0 g1 
              go_wp2_with fail
              obtain ⟨g0, g1⟩ := HG.out
              refine bodyPost_ret (v := .agg #[.slice t'.AV t'.vec.length t'.cv, .slice t'.A t'.es.length t'.c]) (by simp [results, Tryz.results32, g0, g1, go_sem]) rfl ?_
              exact HF2.out.fin _ _

end Go.Proofs.YtepkicgnhjaokaaGreatDoor

namespace Go.Proofs.YtepkicgnhjaokaaGreatDoor
open Go.RowKit Go.Maps

theorem TdIn.set {X : World} {L : Nat} {t : Tt} (h : TdIn X L t) {p : Addr} (hp : p.block < L) (v : Value) : TdIn (X.setCell p v) L t := by
  have hk : ∀ q : Addr, L ≤ q.block → (X.setCell p v).cell? q = X.cell? q := fun q hq => World.cell?_setCell_other _ _ _ _ (fun e => by rw [e] at hp; omega)
  exact ⟨(h.v.keep fun q h1 _ => hk q h1).mono (by simp), (h.e.keep fun q h1 _ => hk q h1).mono (by simp), h.cap, h.len, h.few, h.bulk⟩
/-- A copy is a drawn tree. -/
theorem td_own {X : World} {u : Tt} {vs : List Value} {G : List Nat} {M L : Nat} (hwk : Wk u.vec u.es) (hL : L ≤ M) (hM : M ≤ X.heap.size) (hiv : IntsFr X L M u.AV u.vec) (hrow : X.ownsRow M 34 4 (.slice u.A u.es.length u.c) u.es.length vs) (hout : OutRel X M u.es u.es.length vs G) : TdIn X L u :=
  ⟨hiv.ints.mono hM, (hout.own hrow).ens.low hL, row_cap hrow, by have := hwk.len; omega, by have := hwk.few; omega, by have := hwk.bulk; omega⟩
theorem l3own_t {w : World} {t : Tt} (h : TtIn w t) : Calls Tryz.prog 49 #[.agg #[.slice t.AV 4 t.cv, .slice t.A t.es.length t.c]] w fun e w' => ∃ u : Tt, e = .returned (.agg #[.slice u.AV u.vec.length u.cv, .slice u.A u.es.length u.c]) ∧ TdIn w' w.heap.size u ∧ Below w.heap.size w w' :=
  (l3own_q h).mono fun e w' ⟨u, vs, G, M, he, hwk, hM, hiv, hrow, hout, hb⟩ => ⟨u, by rw [he, hwk.len], td_own hwk hM.1 hM.2.1 hiv hrow hout, hb⟩

theorem TtQ.cur {w w' : World} {K : Nat} {code : List UInt8} {t : Tt} (h : TtQ w t) (hC : Cur w K code) (ho : OffK K w w') : TtQ w' t :=
  ⟨h.v.cur h.len hC ho, h.e.cur hC ho, h.z, h.cap, h.len, h.few, h.bulk⟩

/-- Two result variables. -/
structure Rs (X : World) (a b : Nat) : Prop where
  a0 : X.cell? ⟨a, 0, none⟩ = some (.slice none 0 0)
  a1 : X.cell? ⟨a, 1, none⟩ = some (.slice none 0 0)
  b0 : X.cell? ⟨b, 0, none⟩ = some (.slice none 0 0)
  b1 : X.cell? ⟨b, 1, none⟩ = some (.slice none 0 0)
  fa : ∀ o, X.frozen? ⟨a, o, none⟩ = false
  fb : ∀ o, X.frozen? ⟨b, o, none⟩ = false
theorem Rs.off {K a b : Nat} {X Y : World} (h : Rs X a b) (ho : OffK K X Y) (ha : a < X.heap.size) (hb : b < X.heap.size) (hKa : a ≠ K) (hKb : b ≠ K) : Rs Y a b :=
  ⟨(ho.cell (p := ⟨a, 0, none⟩) ha hKa).trans h.a0, (ho.cell (p := ⟨a, 1, none⟩) ha hKa).trans h.a1, (ho.cell (p := ⟨b, 0, none⟩) hb hKb).trans h.b0, (ho.cell (p := ⟨b, 1, none⟩) hb hKb).trans h.b1, fun o => (ho.frozen (p := ⟨a, o, none⟩) ha hKa).trans (h.fa o), fun o => (ho.frozen (p := ⟨b, o, none⟩) hb hKb).trans (h.fb o)⟩
/-- Both are stored into. -/
def putR (X : World) (a b : Nat) (v0 v1 v2 v3 : Value) : World := (((X.setCell ⟨a, 0, none⟩ v0).setCell ⟨a, 1, none⟩ v1).setCell ⟨b, 0, none⟩ v2).setCell ⟨b, 1, none⟩ v3
theorem Rs.get {X : World} {a b : Nat} (h : Rs X a b) (hab : a ≠ b) (v0 v1 v2 v3 : Value) : (putR X a b v0 v1 v2 v3).cell? ⟨a, 0, none⟩ = some v0 ∧ (putR X a b v0 v1 v2 v3).cell? ⟨a, 1, none⟩ = some v1 ∧ (putR X a b v0 v1 v2 v3).cell? ⟨b, 0, none⟩ = some v2 ∧ (putR X a b v0 v1 v2 v3).cell? ⟨b, 1, none⟩ = some v3 := by
  have hne : ∀ o o', (⟨b, o', none⟩ : Addr) ≠ ⟨a, o, none⟩ := fun o o' e => by injection e with e; exact hab e.symm
  have hne2 : ∀ o o', (⟨a, o', none⟩ : Addr) ≠ ⟨b, o, none⟩ := fun o o' e => by injection e with e; exact hab e
  unfold putR
  refine ⟨?_, ?_, ?_, ?_⟩
  · rw [World.cell?_setCell_other _ _ _ _ (hne 0 1), World.cell?_setCell_other _ _ _ _ (hne 0 0), World.cell?_setCell_other _ _ _ _ (by simp)]
    exact World.cell?_setCell_same _ _ _ h.a0
  · rw [World.cell?_setCell_other _ _ _ _ (hne 1 1), World.cell?_setCell_other _ _ _ _ (hne 1 0)]
    exact World.cell?_setCell_same _ _ _ ((World.cell?_setCell_other _ _ _ _ (by simp)).trans h.a1)
  · rw [World.cell?_setCell_other _ _ _ _ (by simp)]
    exact World.cell?_setCell_same _ _ _ ((World.cell?_setCell_other _ _ _ _ (hne2 0 1)).trans ((World.cell?_setCell_other _ _ _ _ (hne2 0 0)).trans h.b0))
  · exact World.cell?_setCell_same _ _ _ ((World.cell?_setCell_other _ _ _ _ (by simp)).trans ((World.cell?_setCell_other _ _ _ _ (hne2 1 1)).trans ((World.cell?_setCell_other _ _ _ _ (hne2 1 0)).trans h.b1)))

theorem setCell_comm (X : World) {p q : Addr} (h : p.block ≠ q.block) (u v : Value) : (X.setCell p u).setCell q v = (X.setCell q v).setCell p u := by
  unfold World.setCell
  simp only [World.mk.injEq, and_true]
  apply Array.ext
  · simp
  · intro i h1 h2
    simp only [Array.getElem_modify]
    by_cases e1 : p.block = i
    · subst e1
      simp [Ne.symm h]
    · by_cases e2 : q.block = i
      · subst e2
        simp [h]
      · simp [e1, e2]
theorem swapR (X : World) (a b : Nat) (h : a ≠ b) (v0 v1 v2 v3 : Value) : (((X.setCell ⟨b, 0, none⟩ v2).setCell ⟨b, 1, none⟩ v3).setCell ⟨a, 0, none⟩ v0).setCell ⟨a, 1, none⟩ v1 = (((X.setCell ⟨a, 0, none⟩ v0).setCell ⟨a, 1, none⟩ v1).setCell ⟨b, 0, none⟩ v2).setCell ⟨b, 1, none⟩ v3 := by
  rw [setCell_comm (X.setCell ⟨b, 0, none⟩ v2) (p := ⟨b, 1, none⟩) (q := ⟨a, 0, none⟩) (Ne.symm h), setCell_comm X (p := ⟨b, 0, none⟩) (q := ⟨a, 0, none⟩) (Ne.symm h), setCell_comm _ (p := ⟨b, 1, none⟩) (q := ⟨a, 1, none⟩) (Ne.symm h), setCell_comm _ (p := ⟨b, 0, none⟩) (q := ⟨a, 1, none⟩) (Ne.symm h)]

/-- Two trees, drawn. -/
def NewTw (w : World) (e : Ending) (w' : World) : Prop :=
  ∃ t u : Tt, e = .returned (.tuple #[.agg #[.slice t.AV t.vec.length t.cv, .slice t.A t.es.length t.c], .agg #[.slice u.AV u.vec.length u.cv, .slice u.A u.es.length u.c]]) ∧ TdIn w' 0 t ∧ TdIn w' 0 u ∧ Below w.heap.size w w'
theorem tw_fin {w X : World} {a b L : Nat} {t u : Tt} (hb : Below w.heap.size w X) (ha : w.heap.size ≤ a) (hab : w.heap.size ≤ b) (hLa : a < L) (hLb : b < L) (ht : TdIn X L t) (hu : TdIn X L u) (v0 v1 v2 v3 : Value) :
    NewTw w (.returned (.tuple #[.agg #[.slice t.AV t.vec.length t.cv, .slice t.A t.es.length t.c], .agg #[.slice u.AV u.vec.length u.cv, .slice u.A u.es.length u.c]])) (putR X a b v0 v1 v2 v3) := by
  have hs : ∀ s, TdIn X L s → TdIn (putR X a b v0 v1 v2 v3) L s := fun s h => (((h.set (p := ⟨a, 0, none⟩) hLa v0).set (p := ⟨a, 1, none⟩) hLa v1).set (p := ⟨b, 0, none⟩) hLb v2).set (p := ⟨b, 1, none⟩) hLb v3
  exact ⟨t, u, rfl, (hs t ht).low (Nat.zero_le _), (hs u hu).low (Nat.zero_le _), (((hb.setCell (show w.heap.size ≤ a from ha) _).setCell (show w.heap.size ≤ a from ha) _).setCell (show w.heap.size ≤ b from hab) _).setCell (show w.heap.size ≤ b from hab) _⟩

set_option maxRecDepth 100000 in
set_option maxHeartbeats 4000000 in
theorem drawMerge_any (A : Option Addr) (c : Nat) (code : List UInt8) (w : World) (hA : BytesIn w 0 w.heap.size A code) (hn : code.length ≤ 9223372036854775807) :
    Calls Tryz.prog 20 #[.slice A code.length c] w (NewTw w) := by
  have HA := Lib.hid hA
  clear hA
  go_enter Tryz.func20, Tryz.ntmps20
  go_wp2_with fail
  obtain ⟨Wa, hWa⟩ : ∃ x, x = w.alloc (.cells #[.slice none 0 0, .slice none 0 0] 26) := ⟨_, rfl⟩
  obtain ⟨W0, hW0⟩ : ∃ x, x = Wa.alloc (.cells #[.slice none 0 0, .slice none 0 0] 26) := ⟨_, rfl⟩
  have hba : Below w.heap.size w Wa := by rw [hWa]; exact (Below.refl _ _).alloc (Nat.le_refl _) _
  have hsa : Wa.heap.size = w.heap.size + 1 := by rw [hWa]; simp
  have hb0 : Below w.heap.size w W0 := by rw [hW0]; exact hba.alloc (by omega) _
  have hz0 : w.heap.size + 1 < W0.heap.size := by rw [hW0]; simp; omega
  have HR0 := Lib.hid (show Rs W0 w.heap.size (w.heap.size + 1) from by
    obtain ⟨q0, q1, q2⟩ := two_new w (.slice none 0 0) (.slice none 0 0) 26
    rw [← hWa] at q0 q1 q2
    obtain ⟨p0, p1, p2⟩ := two_new Wa (.slice none 0 0) (.slice none 0 0) 26
    rw [← hW0, hsa] at p0 p1 p2
    have hb : Below Wa.heap.size Wa W0 := by rw [hW0]; exact (Below.refl _ _).alloc (Nat.le_refl _) _
    exact ⟨(hb.cell (p := ⟨w.heap.size, 0, none⟩) (by show w.heap.size < _; omega)).trans q0, (hb.cell (p := ⟨w.heap.size, 1, none⟩) (by show w.heap.size < _; omega)).trans q1, p0, p1, fun o => (hb.frozen (p := ⟨w.heap.size, o, none⟩) (by show w.heap.size < _; omega)).trans (q2 o), p2⟩)
  have HB0 := Lib.hid hb0
  rw [← hWa, ← hW0]
  clear hWa hW0 hba hsa hb0
  refine (l1New_any A c code W0 ((HA.out.below HB0.out).mono (by omega)) hn).mono ?_
  rintro e w1 ⟨rfl, hc1, hb1⟩
  obtain ⟨K, hKe⟩ : ∃ K, K = W0.heap.size := ⟨_, rfl⟩
  have hKw : w.heap.size + 1 < K := by omega
  have HR1 := Lib.hid (HR0.out.off (K := W0.heap.size) (OffK.of_below hb1 (Nat.le_refl _)) (by omega) hz0 (by omega) (by omega))
  have HB1 := Lib.hid (HB0.out.trans (hb1.mono (by omega)))
  rw [← hKe] at hc1 ⊢
  have HC1 := Lib.hid hc1
  have hz1 := hc1.lt
  clear hc1 hb1 hKe HR0 HB0 HA hz0
  go_wp2_with fail
  have hdr := l3draws_any K code 3 (by omega) (by omega) w1 HC1.out
  simp only [Int.cast_ofNat_Int] at hdr
  refine hdr.mono ?_
  clear hdr
  rintro e w2 ⟨T, c0, f, rfl, hd⟩
  have HD2 := Lib.hid hd
  have HR2 := Lib.hid (HR1.out.off hd.off (by omega) (by omega) (by omega) (by omega))
  have HB2 := Lib.hid (HB1.out.trans (hd.off.low (by omega) (by omega)))
  have hz2 := hd.off.size
  clear hd HR1 HB1 HC1
  go_wp2_with fail
  refine (l1Once_any K code 9 _ HD2.out.cur).mono ?_
  rintro e w3 ⟨b3, rfl, hc3, ho3⟩
  have HD3 := Lib.hid (HD2.out.next hc3 ho3)
  have HR3 := Lib.hid (HR2.out.off ho3 (by omega) (by omega) (by omega) (by omega))
  have HB3 := Lib.hid (HB2.out.trans (ho3.low (by omega) (by omega)))
  have hz3 := ho3.size
  clear hc3 ho3 HD2 HR2 HB2
  obtain ⟨t0, HT0, HI0⟩ : ∃ t0 : Tt, Hid (∀ X, Dq w1 K code T 3 f X → X.cell? ⟨T, 0, none⟩ = some (.slice t0.AV 4 t0.cv) ∧ X.cell? ⟨T, 1, none⟩ = some (.slice t0.A t0.es.length t0.c)) ∧ Hid (∀ X, Dq w1 K code T 3 f X → TtIn X t0) := ⟨f 0, Lib.hid (fun X h => ⟨by simpa using h.tr.c0 0 (by omega), by simpa using h.tr.c1 0 (by omega)⟩), Lib.hid (fun X h => h.tr.ok 0 (by omega))⟩
  obtain ⟨t1, HT1, HI1⟩ : ∃ t1 : Tt, Hid (∀ X, Dq w1 K code T 3 f X → X.cell? ⟨T, 2, none⟩ = some (.slice t1.AV 4 t1.cv) ∧ X.cell? ⟨T, 3, none⟩ = some (.slice t1.A t1.es.length t1.c)) ∧ Hid (∀ X, Dq w1 K code T 3 f X → TtIn X t1) := ⟨f 1, Lib.hid (fun X h => ⟨by simpa using h.tr.c0 1 (by omega), by simpa using h.tr.c1 1 (by omega)⟩), Lib.hid (fun X h => h.tr.ok 1 (by omega))⟩
  cases b3 with
  | true =>
    have HR5b := HR3
    clear HR5b
    obtain ⟨x0w3, x1w3⟩ := HT0.out _ HD3.out
    obtain ⟨y0w3, y1w3⟩ := HT1.out _ HD3.out
    have lTw3 := HD3.out.tr.lt
    obtain ⟨ra0w3, ra1w3, rb0w3, rb1w3, rfaw3, rfbw3⟩ := HR3.out
    have rfa0w3 := rfaw3 0
    have rfa1w3 := rfaw3 1
    have rfb0w3 := rfbw3 0
    have rfb1w3 := rfbw3 1
    have lraw3 : w.heap.size < w3.heap.size := by omega
    have lrbw3 : w.heap.size + 1 < w3.heap.size := by omega
    clear rfaw3 rfbw3
    go_upto_region 4 with fail
    go_region_law
      (first
        | (go_simp
           go_at_call 32
           refine (l3bent_any K code _ (Dq.cur (show Dq w1 K code T 3 f _ from by repeat first | with_reducible exact HD3.out | with_reducible exact HD5.out | with_reducible apply Dq.drew | with_reducible apply Dq.alloc))).mono ?_
           rintro r w5 ⟨t, rfl, ht, hc5, ho5'⟩
           have HD5 := Lib.hid (Dq.next (show Dq w1 K code T 3 f _ from by repeat first | with_reducible exact HD3.out | with_reducible exact HD5.out | with_reducible apply Dq.drew | with_reducible apply Dq.alloc) hc5 ho5')
           have ho5 : OffK K w3 w5 := by first | with_reducible exact ho5' | with_reducible exact (OffK.refl K w3).drew.trans ho5' (.inl rfl)
           have hz5 : w3.heap.size ≤ w5.heap.size := ho5.size
           have HT5 := Lib.hid (show TdIn w5 K t from ht.low (by show K ≤ w3.heap.size; omega))
           have HR5 := Lib.hid (show Rs w5 w.heap.size (w.heap.size + 1) from HR3.out.off ho5 (by omega) (by omega) (by omega) (by omega))
           have HB5 := Lib.hid (show Below w.heap.size w w5 from HB3.out.trans (ho5.low (by show w.heap.size ≤ w3.heap.size; omega) (by omega)))
           obtain ⟨x0w5, x1w5⟩ := HT0.out _ HD5.out
           obtain ⟨y0w5, y1w5⟩ := HT1.out _ HD5.out
           have lTw5 := HD5.out.tr.lt
           obtain ⟨ra0w5, ra1w5, rb0w5, rb1w5, rfaw5, rfbw5⟩ := HR5.out
           have rfa0w5 := rfaw5 0
           have rfa1w5 := rfaw5 1
           have rfb0w5 := rfbw5 0
           have rfb1w5 := rfbw5 1
           have lraw5 : w.heap.size < w5.heap.size := by omega
           have lrbw5 : w.heap.size + 1 < w5.heap.size := by omega
           clear rfaw5 rfbw5
           clear ht hc5 ho5 ho5'
           go_wp2_with fail)
        | (go_simp
           go_at_call 49
           refine (l3own_t (HI1.out _ (show Dq w1 K code T 3 f _ from by repeat first | with_reducible exact HD3.out | with_reducible exact HD5.out | with_reducible apply Dq.drew | with_reducible apply Dq.alloc))).mono ?_
           rintro r w6 ⟨u, rfl, hu, hb6⟩
           have hz6 := hb6.size
           have HD6 := Lib.hid (Dq.below (show Dq w1 K code T 3 f _ from by repeat first | with_reducible exact HD3.out | with_reducible exact HD5.out | with_reducible apply Dq.drew | with_reducible apply Dq.alloc) hb6)
           have HU6 := Lib.hid (show TdIn w6 K u from hu.low (by first | omega | (simp; omega)))
           have HT6 := Lib.hid (show TdIn w6 K t from HT5.out.below hb6)
           have HR6 := Lib.hid (show Rs w6 w.heap.size (w.heap.size + 1) from HR5.out.off (K := w6.heap.size + 1) (OffK.of_below hb6 (Nat.le_refl _)) (by omega) (by omega) (by omega) (by omega))
           have HB6 := Lib.hid (show Below w.heap.size w w6 from HB5.out.trans (hb6.mono (by omega)))
           obtain ⟨x0w6, x1w6⟩ := HT0.out _ HD6.out
           obtain ⟨y0w6, y1w6⟩ := HT1.out _ HD6.out
           have lTw6 := HD6.out.tr.lt
           obtain ⟨ra0w6, ra1w6, rb0w6, rb1w6, rfaw6, rfbw6⟩ := HR6.out
           have rfa0w6 := rfaw6 0
           have rfa1w6 := rfaw6 1
           have rfb0w6 := rfbw6 0
           have rfb1w6 := rfbw6 1
           have lraw6 : w.heap.size < w6.heap.size := by omega
           have lrbw6 : w.heap.size + 1 < w6.heap.size := by omega
           clear rfaw6 rfbw6
           clear hu hb6
           go_wp2_with fail))
    all_goals
      have hg := HR6.out.get (by omega) (.slice t.AV t.vec.length t.cv) (.slice t.A t.es.length t.c) (.slice u.AV u.vec.length u.cv) (.slice u.A u.es.length u.c)
      obtain ⟨W, hW⟩ : ∃ W, W = putR w6 w.heap.size (w.heap.size + 1) (.slice t.AV t.vec.length t.cv) (.slice t.A t.es.length t.c) (.slice u.AV u.vec.length u.cv) (.slice u.A u.es.length u.c) := ⟨_, rfl⟩
      have HFin := Lib.hid (show NewTw w _ W from by rw [hW]; exact tw_fin (t := t) (u := u) HB6.out (Nat.le_refl _) (by omega) (L := K) (by omega) (by omega) HT6.out HU6.out _ _ _ _)
      rw [← hW] at hg
      unfold putR at hW
      obtain ⟨g0, g1, g2, g3⟩ := hg
      first | rw [← hW] | (rw [swapR _ _ _ (by omega), ← hW])
      clear hW HD3 HD5 HD6 HT0 HT1 HR3 HR5 HR6 HB3 HB5 HB6 HT5 HT6 HU6
      go_wp2_with fail
      refine bodyPost_ret (v := .tuple #[.agg #[.slice t.AV t.vec.length t.cv, .slice t.A t.es.length t.c], .agg #[.slice u.AV u.vec.length u.cv, .slice u.A u.es.length u.c]]) (by simp [results, Tryz.results20, g0, g1, g2, g3, go_sem]) rfl ?_
      exact HFin.out
  | false =>
    obtain ⟨x0w3, x1w3⟩ := HT0.out _ HD3.out
    obtain ⟨y0w3, y1w3⟩ := HT1.out _ HD3.out
    have lTw3 := HD3.out.tr.lt
    obtain ⟨ra0w3, ra1w3, rb0w3, rb1w3, rfaw3, rfbw3⟩ := HR3.out
    have rfa0w3 := rfaw3 0
    have rfa1w3 := rfaw3 1
    have rfb0w3 := rfbw3 0
    have rfb1w3 := rfbw3 1
    have lraw3 : w.heap.size < w3.heap.size := by omega
    have lrbw3 : w.heap.size + 1 < w3.heap.size := by omega
    clear rfaw3 rfbw3
    go_upto_region 5 with fail
    go_region_law
      (first
        | (go_simp
           go_at_call 49
           with_reducible refine (l3own_t (HI0.out _ (show Dq w1 K code T 3 f _ from by repeat first | with_reducible exact HD3.out | with_reducible exact HD5.out | with_reducible apply Dq.drew | with_reducible apply Dq.alloc))).mono ?_
           rintro r w5 ⟨t, rfl, ht, hb5'⟩
           have HD5 := Lib.hid (Dq.below (show Dq w1 K code T 3 f _ from by repeat first | with_reducible exact HD3.out | with_reducible exact HD5.out | with_reducible apply Dq.drew | with_reducible apply Dq.alloc) hb5')
           have hb5 : Below w3.heap.size w3 w5 := by first | with_reducible exact hb5' | with_reducible exact (Below.refl w3.heap.size w3).drew.trans (hb5'.mono (by simp))
           have hz5 : w3.heap.size ≤ w5.heap.size := hb5.size
           have HT5 := Lib.hid (show TdIn w5 K t from ht.low (by show K ≤ w3.heap.size; omega))
           have HR5 := Lib.hid (show Rs w5 w.heap.size (w.heap.size + 1) from HR3.out.off (K := w3.heap.size + 1) (OffK.of_below hb5 (Nat.le_refl _)) (by omega) (by omega) (by omega) (by omega))
           have HB5 := Lib.hid (show Below w.heap.size w w5 from HB3.out.trans (hb5.mono (by show w.heap.size ≤ w3.heap.size; omega)))
           obtain ⟨x0w5, x1w5⟩ := HT0.out _ HD5.out
           obtain ⟨y0w5, y1w5⟩ := HT1.out _ HD5.out
           have lTw5 := HD5.out.tr.lt
           obtain ⟨ra0w5, ra1w5, rb0w5, rb1w5, rfaw5, rfbw5⟩ := HR5.out
           have rfa0w5 := rfaw5 0
           have rfa1w5 := rfaw5 1
           have rfb0w5 := rfbw5 0
           have rfb1w5 := rfbw5 1
           have lraw5 : w.heap.size < w5.heap.size := by omega
           have lrbw5 : w.heap.size + 1 < w5.heap.size := by omega
           clear rfaw5 rfbw5
           clear ht hb5 hb5'
           go_wp2_with fail)
        | (go_simp
           go_at_call 49
           refine (l3own_t (HI1.out _ (show Dq w1 K code T 3 f _ from by repeat first | with_reducible exact HD3.out | with_reducible exact HD5.out | with_reducible apply Dq.drew | with_reducible apply Dq.alloc))).mono ?_
           rintro r w6 ⟨u, rfl, hu, hb6⟩
           have hz6 := hb6.size
           have HD6 := Lib.hid (Dq.below (show Dq w1 K code T 3 f _ from by repeat first | with_reducible exact HD3.out | with_reducible exact HD5.out | with_reducible apply Dq.drew | with_reducible apply Dq.alloc) hb6)
           have HU6 := Lib.hid (show TdIn w6 K u from hu.low (by first | omega | (simp; omega)))
           have HT6 := Lib.hid (show TdIn w6 K t from HT5.out.below hb6)
           have HR6 := Lib.hid (show Rs w6 w.heap.size (w.heap.size + 1) from HR5.out.off (K := w6.heap.size + 1) (OffK.of_below hb6 (Nat.le_refl _)) (by omega) (by omega) (by omega) (by omega))
           have HB6 := Lib.hid (show Below w.heap.size w w6 from HB5.out.trans (hb6.mono (by omega)))
           obtain ⟨x0w6, x1w6⟩ := HT0.out _ HD6.out
           obtain ⟨y0w6, y1w6⟩ := HT1.out _ HD6.out
           have lTw6 := HD6.out.tr.lt
           obtain ⟨ra0w6, ra1w6, rb0w6, rb1w6, rfaw6, rfbw6⟩ := HR6.out
           have rfa0w6 := rfaw6 0
           have rfa1w6 := rfaw6 1
           have rfb0w6 := rfbw6 0
           have rfb1w6 := rfbw6 1
           have lraw6 : w.heap.size < w6.heap.size := by omega
           have lrbw6 : w.heap.size + 1 < w6.heap.size := by omega
           clear rfaw6 rfbw6
           clear hu hb6
           go_wp2_with fail))
    all_goals
      have hg := HR6.out.get (by omega) (.slice t.AV t.vec.length t.cv) (.slice t.A t.es.length t.c) (.slice u.AV u.vec.length u.cv) (.slice u.A u.es.length u.c)
      obtain ⟨W, hW⟩ : ∃ W, W = putR w6 w.heap.size (w.heap.size + 1) (.slice t.AV t.vec.length t.cv) (.slice t.A t.es.length t.c) (.slice u.AV u.vec.length u.cv) (.slice u.A u.es.length u.c) := ⟨_, rfl⟩
      have HFin := Lib.hid (show NewTw w _ W from by rw [hW]; exact tw_fin (t := t) (u := u) HB6.out (Nat.le_refl _) (by omega) (L := K) (by omega) (by omega) HT6.out HU6.out _ _ _ _)
      rw [← hW] at hg
      unfold putR at hW
      obtain ⟨g0, g1, g2, g3⟩ := hg
      first | rw [← hW] | (rw [swapR _ _ _ (by omega), ← hW])
      clear hW HD3 HD5 HD6 HT0 HT1 HR3 HR5 HR6 HB3 HB5 HB6 HT5 HT6 HU6
      go_wp2_with fail
      refine bodyPost_ret (v := .tuple #[.agg #[.slice t.AV t.vec.length t.cv, .slice t.A t.es.length t.c], .agg #[.slice u.AV u.vec.length u.cv, .slice u.A u.es.length u.c]]) (by simp [results, Tryz.results20, g0, g1, g2, g3, go_sem]) rfl ?_
      exact HFin.out

theorem l3own_tq {w : World} {t : Tt} (h : TtQ w t) : Calls Tryz.prog 49 #[.agg #[.slice t.AV 4 t.cv, .slice t.A t.es.length t.c]] w fun e w' => ∃ u : Tt, e = .returned (.agg #[.slice u.AV u.vec.length u.cv, .slice u.A u.es.length u.c]) ∧ TdIn w' w.heap.size u ∧ Below w.heap.size w w' := by
  have hl := h.len
  have hp := l3own_row t.AV t.vec t.cv t.A t.es t.c w h.v h.e (by omega) (by have := h.few; omega) (by have := h.bulk; omega)
  rw [hl] at hp
  refine hp.mono ?_
  rintro e w' ⟨AV, cv, A, c, vs, G, M, rfl, ⟨hM1, hM2, hcv⟩, hiv, hrow, hout, _, hb⟩
  exact ⟨⟨AV, cv, t.vec, A, c, t.es⟩, rfl, ⟨hiv.ints.mono hM2, (hout.own hrow).ens.low hM1, row_cap hrow, by show t.vec.length ≤ 4; omega, h.few, h.bulk⟩, hb⟩

/-- A tree, drawn. -/
def NewOne (w : World) (e : Ending) (w' : World) : Prop :=
  ∃ t : Tt, e = .returned (.agg #[.slice t.AV t.vec.length t.cv, .slice t.A t.es.length t.c]) ∧ TdIn w' 0 t ∧ Below w.heap.size w w'

set_option maxRecDepth 100000 in
set_option maxHeartbeats 4000000 in
theorem drawView_any (A : Option Addr) (c : Nat) (code : List UInt8) (w : World) (hA : BytesIn w 0 w.heap.size A code) (hn : code.length ≤ 9223372036854775807) :
    Calls Tryz.prog 58 #[.slice A code.length c] w (NewOne w) := by
  have HA := Lib.hid hA
  clear hA
  go_enter Tryz.func58, Tryz.ntmps58
  go_wp2_with fail
  obtain ⟨W0, hW0⟩ : ∃ x, x = w.alloc (.cells #[.slice none 0 0, .slice none 0 0] 26) := ⟨_, rfl⟩
  have hb0 : Below w.heap.size w W0 := by rw [hW0]; exact (Below.refl _ _).alloc (Nat.le_refl _) _
  have hz0 : w.heap.size < W0.heap.size := by rw [hW0]; simp
  have HR0 := Lib.hid (show Rs W0 w.heap.size w.heap.size from by
    obtain ⟨q0, q1, q2⟩ := two_new w (.slice none 0 0) (.slice none 0 0) 26
    rw [← hW0] at q0 q1 q2
    exact ⟨q0, q1, q0, q1, q2, q2⟩)
  have HB0 := Lib.hid hb0
  rw [← hW0]
  clear hW0 hb0
  refine (l1New_any A c code W0 ((HA.out.below HB0.out).mono (by omega)) hn).mono ?_
  rintro e w1 ⟨rfl, hc1, hb1⟩
  obtain ⟨K, hKe⟩ : ∃ K, K = W0.heap.size := ⟨_, rfl⟩
  have hKw : w.heap.size < K := by omega
  have HR1 := Lib.hid (HR0.out.off (K := W0.heap.size) (OffK.of_below hb1 (Nat.le_refl _)) hz0 hz0 (by omega) (by omega))
  have HB1 := Lib.hid (HB0.out.trans (hb1.mono (by omega)))
  rw [← hKe] at hc1 ⊢
  have HC1 := Lib.hid hc1
  have hz1 := hc1.lt
  clear hc1 hb1 hKe HR0 HB0 HA hz0
  go_wp2_with fail
  have hdr := l3draws_any K code 3 (by omega) (by omega) w1 HC1.out
  simp only [Int.cast_ofNat_Int] at hdr
  refine hdr.mono ?_
  clear hdr
  rintro e w4 ⟨T, c0, f, rfl, hd⟩
  have HD4 := Lib.hid hd
  have HR4 := Lib.hid (HR1.out.off hd.off (by omega) (by omega) (by omega) (by omega))
  have HB4 := Lib.hid (HB1.out.trans (hd.off.low (by omega) (by omega)))
  have hz4 := hd.off.size
  have hTw := hd.hT
  clear hd HR1 HB1 HC1
  have HT0 := Lib.hid (show ∀ X, Dq w1 K code T 3 f X → ((X.cell? ⟨T, 0, none⟩ = some (.slice (f 0).AV 4 (f 0).cv) ∧ X.cell? ⟨T, 1, none⟩ = some (.slice (f 0).A (f 0).es.length (f 0).c)) ∧ X.cell? ⟨T, 2, none⟩ = some (.slice (f 1).AV 4 (f 1).cv) ∧ X.cell? ⟨T, 3, none⟩ = some (.slice (f 1).A (f 1).es.length (f 1).c)) from fun X h => ⟨⟨by simpa using h.tr.c0 0 (by omega), by simpa using h.tr.c1 0 (by omega)⟩, by simpa using h.tr.c0 1 (by omega), by simpa using h.tr.c1 1 (by omega)⟩)
  obtain ⟨⟨x0, x1⟩, y0, y1⟩ := HT0.out _ HD4.out
  have lT := HD4.out.tr.lt
  go_upto_region 3 with fail
  go_cut [5] from 10 to 16 (fun s5 wx => ∃ (b : Nat) (s : Tt), s5 = .pointer (some ⟨b, 0, none⟩) ∧ (wx.cell? ⟨b, 0, none⟩ = some (.slice s.AV 4 s.cv) ∧ wx.cell? ⟨b, 1, none⟩ = some (.slice s.A s.es.length s.c)) ∧ (w4.heap.size ≤ b ∧ b < wx.heap.size) ∧ TtQ wx s ∧ Cur wx K code ∧ Rs wx w.heap.size w.heap.size ∧ OffK K w4 wx)
  case first =>
    go_region_held3 (fun X => (X.cell? ⟨T, 0, none⟩ = some (.slice (f 0).AV 4 (f 0).cv) ∧ X.cell? ⟨T, 1, none⟩ = some (.slice (f 0).A (f 0).es.length (f 0).c)) ∧ X.cell? ⟨T, 2, none⟩ = some (.slice (f 1).AV 4 (f 1).cv) ∧ X.cell? ⟨T, 3, none⟩ = some (.slice (f 1).A (f 1).es.length (f 1).c))
      (first
        | (refine HT0.out _ (Dq.box HD6.out q0 q1 (by first | omega | (simp; omega)) (by first | omega | (simp; omega)) _ _))
        | (refine HT0.out _ ?_; repeat first | with_reducible exact HD4.out | with_reducible exact HD6.out | with_reducible apply Dq.drew | with_reducible apply Dq.alloc))
      (first
        | (go_at_call 77
           refine (l3merge_q ((show Dq w1 K code T 3 f _ from by repeat first | with_reducible exact HD4.out | with_reducible exact HD6.out | with_reducible apply Dq.drew | with_reducible apply Dq.alloc).tr.ok 0 (by omega)) ((show Dq w1 K code T 3 f _ from by repeat first | with_reducible exact HD4.out | with_reducible exact HD6.out | with_reducible apply Dq.drew | with_reducible apply Dq.alloc).tr.ok 1 (by omega))).mono ?_
           rintro r w6 ⟨s, rfl, hq6, hb6⟩
           have HD6 := Lib.hid (Dq.below (show Dq w1 K code T 3 f _ from by repeat first | with_reducible exact HD4.out | with_reducible exact HD6.out | with_reducible apply Dq.drew | with_reducible apply Dq.alloc) hb6)
           have HQ6 := Lib.hid hq6
           have HB6 := Lib.hid (show Below w4.heap.size w4 w6 from by first | with_reducible exact hb6 | with_reducible exact (Below.refl w4.heap.size w4).drew.trans (hb6.mono (by simp)) | with_reducible exact ((Below.refl w4.heap.size w4).alloc (Nat.le_refl _) _).trans (hb6.mono (by simp)) | with_reducible exact ((Below.refl w4.heap.size w4).alloc (Nat.le_refl _) _).drew.trans (hb6.mono (by simp)))
           first
             | (have hq := new2_cells hb6; obtain ⟨q0, q1, qf0, qf1⟩ := hq)
             | (have hq := new2_drew hb6; obtain ⟨q0, q1, qf0, qf1⟩ := hq)
             | skip
           clear hq6 hb6))
    all_goals go_wp2_with fail
    all_goals go_meet
    all_goals have hz6 := HB6.out.size
    all_goals first
      | exact ⟨w6.heap.size, s, rfl, ⟨by simp, by simp⟩, ⟨hz6, by simp⟩, HQ6.out.below ((Below.refl _ _).alloc (Nat.le_refl _) _), (HD6.out.alloc _).cur, HR4.out.off (K := w4.heap.size) (OffK.of_below (HB6.out.alloc hz6 _) (Nat.le_refl _)) (by omega) (by omega) (by omega) (by omega), OffK.of_below (HB6.out.alloc hz6 _) (Nat.le_refl _)⟩
      | exact ⟨w4.heap.size, s, rfl, two_get q0 q1, ⟨Nat.le_refl _, by have := World.block_lt_of_cell? w6 _ q0; simpa using this⟩, HQ6.out.box q0 q1 _ _, (HD6.out.box q0 q1 (by omega) (by omega) _ _).cur, HR4.out.off (K := w4.heap.size) (((OffK.of_below HB6.out (Nat.le_refl _)).setCell (p := ⟨w4.heap.size, 0, none⟩) (.inl rfl) _).setCell (p := ⟨w4.heap.size, 1, none⟩) (.inl rfl) _) (by omega) (by omega) (by omega) (by omega), ((OffK.of_below HB6.out (Nat.le_refl _)).setCell (p := ⟨w4.heap.size, 0, none⟩) (.inr (Nat.le_refl _)) _).setCell (p := ⟨w4.heap.size, 1, none⟩) (.inr (Nat.le_refl _)) _⟩
  case rest =>
    obtain ⟨b, s, rfl, ⟨b0, b1⟩, ⟨hb1, hb2⟩, hq, hc7, hr7, ho7⟩ := hcut
    rename World => W7
    have HQ7 := Lib.hid hq
    have HC7 := Lib.hid hc7
    have HR7 := Lib.hid hr7
    have HB7 := Lib.hid (HB4.out.trans (ho7.low (by omega) (by omega)))
    have hz7 := ho7.size
    clear hq hc7 hr7 ho7 HD4 HR4 HB4 HT0 x0 x1 y0 y1
    go_wp2_with fail
    refine (l1Once_any K code 8 _ HC7.out).mono ?_
    rintro e w8 ⟨b8, rfl, hc8, ho8⟩
    have hz8 := ho8.size
    have HR8 := Lib.hid (HR7.out.off ho8 (by omega) (by omega) (by omega) (by omega))
    have HB8 := Lib.hid (HB7.out.trans (ho8.low (by omega) (by omega)))
    have HC8 := Lib.hid hc8
    have e0 := (ho8.cell (p := ⟨b, 0, none⟩) hb2 (by show b ≠ K; omega)).trans b0
    have e1 := (ho8.cell (p := ⟨b, 1, none⟩) hb2 (by show b ≠ K; omega)).trans b1
    have HQ8 := Lib.hid (HQ7.out.cur HC7.out ho8)
    have lb8 : b < w8.heap.size := by omega
    clear hc8 ho8 b0 b1 HQ7 HC7 HR7 HB7
    cases b8 with
    | true =>
      go_wp2_with fail
      refine (l3bent_any K code _ HC8.out).mono ?_
      rintro e w9 ⟨t, rfl, ht, hc9, ho9⟩
      have hz9 := ho9.size
      have HR9 := Lib.hid (HR8.out.off ho9 (by omega) (by omega) (by omega) (by omega))
      have HB9 := Lib.hid (HB8.out.trans (ho9.low (by omega) (by omega)))
      have HT9 := Lib.hid (show TdIn w9 K t from ht.low (by omega))
      clear ht hc9 ho9 HR8 HB8 HC8 HQ8 e0 e1
      obtain ⟨ra0, ra1, _, _, rfa, _⟩ := HR9.out
      have rf0 := rfa 0
      have rf1 := rfa 1
      have lw9 : w.heap.size < w9.heap.size := by omega
      obtain ⟨g0, g1⟩ := two_get (v0 := .slice t.AV t.vec.length t.cv) (v1 := .slice t.A t.es.length t.c) ra0 ra1
      have HG := Lib.hid (And.intro g0 g1)
      clear g0 g1 rfa
      go_wp2_with fail
      obtain ⟨g0, g1⟩ := HG.out
      refine bodyPost_ret (v := .agg #[.slice t.AV t.vec.length t.cv, .slice t.A t.es.length t.c]) (by simp [results, Tryz.results58, g0, g1, go_sem]) rfl ?_
      exact ⟨t, rfl, ((HT9.out.set (p := ⟨w.heap.size, 0, none⟩) hKw _).set (p := ⟨w.heap.size, 1, none⟩) hKw _).low (Nat.zero_le _), (HB9.out.setCell (Nat.le_refl _) _).setCell (Nat.le_refl _) _⟩
    | false =>
      go_wp2_with fail
      refine (l3own_tq HQ8.out).mono ?_
      rintro e w9 ⟨t, rfl, ht, hb9⟩
      have hz9 := hb9.size
      have HR9 := Lib.hid (HR8.out.off (K := w8.heap.size) (OffK.of_below hb9 (Nat.le_refl _)) (by omega) (by omega) (by omega) (by omega))
      have HB9 := Lib.hid (HB8.out.trans (hb9.mono (by omega)))
      have HT9 := Lib.hid (show TdIn w9 K t from ht.low (by omega))
      clear ht hb9 HR8 HB8 HC8 HQ8 e0 e1
      obtain ⟨ra0, ra1, _, _, rfa, _⟩ := HR9.out
      have rf0 := rfa 0
      have rf1 := rfa 1
      have lw9 : w.heap.size < w9.heap.size := by omega
      obtain ⟨g0, g1⟩ := two_get (v0 := .slice t.AV t.vec.length t.cv) (v1 := .slice t.A t.es.length t.c) ra0 ra1
      have HG := Lib.hid (And.intro g0 g1)
      clear g0 g1 rfa
      go_wp2_with fail
      obtain ⟨g0, g1⟩ := HG.out
      refine bodyPost_ret (v := .agg #[.slice t.AV t.vec.length t.cv, .slice t.A t.es.length t.c]) (by simp [results, Tryz.results58, g0, g1, go_sem]) rfl ?_
      exact ⟨t, rfl, ((HT9.out.set (p := ⟨w.heap.size, 0, none⟩) hKw _).set (p := ⟨w.heap.size, 1, none⟩) hKw _).low (Nat.zero_le _), (HB9.out.setCell (Nat.le_refl _) _).setCell (Nat.le_refl _) _⟩

end Go.Proofs.YtepkicgnhjaokaaGreatDoor
