/-
  Several texts in one: OutIf, PutP, PutQ, InsS, PutR, L3p, PutS.
-/
import Derived.Test.YtepkicgnhjaokaaGreatDoorDropI
import Derived.Deep.Cut
import Derived.Test.YtepkicgnhjaokaaGreatDoorOrd
import Derived.Test.YtepkicgnhjaokaaGreatDoorDropS
import Derived.Test.YtepkicgnhjaokaaGreatDoorGOw
import Derived.Test.YtepkicgnhjaokaaGreatDoorKept
import Derived.Deep.RegionLaw
import Derived.Deep.RegionHeld3
namespace Go.Proofs.YtepkicgnhjaokaaGreatDoor
open Go.RowKit Go.Maps

set_option maxRecDepth 100000 in
set_option maxHeartbeats 2000000 in
theorem outIf_any (x0 x1 x2 x3 : Int) (A : Option Addr) (es : List En) (cap : Nat) (b : Bool) (w : World) (hA : EvsIn w 0 w.heap.size A es) (hn : es.length ≤ 1000) :
    Calls Tryz.prog 40 #[.agg #[.int .i64 x0, .int .i64 x1, .int .i64 x2, .int .i64 x3, .slice A es.length cap], .bool b] w (NewTrB (if b = true then [x0, x1, x2, x3] else []) (if b = true then es else []) b w) := by
  have HA := Lib.hid hA
  clear hA
  go_enter Tryz.func40, Tryz.ntmps40
  obtain ⟨W0, hW0⟩ : ∃ W0, W0 = w.alloc (.cells #[.int .i64 x0, .int .i64 x1, .int .i64 x2, .int .i64 x3, .slice A es.length cap] 66) := ⟨_, rfl⟩
  obtain ⟨W, hW⟩ : ∃ W, W = W0.alloc (.cells #[.slice none 0 0, .slice none 0 0] 26) := ⟨_, rfl⟩
  have hz0 : W0.heap.size = w.heap.size + 1 := by rw [hW0]; simp
  have hz : w.heap.size + 1 < W.heap.size := by rw [hW]; simp [hz0]
  have HX := Lib.hid (show Bx W w.heap.size [.int .i64 x0, .int .i64 x1, .int .i64 x2, .int .i64 x3, .slice A es.length cap] by rw [hW]; exact Bx.alloc (by rw [hW0]; exact Bx.new' _ _ _ _ rfl) (by omega) _)
  have HY := Lib.hid (show Bx W (w.heap.size + 1) [.slice none 0 0, .slice none 0 0] by rw [hW, ← hz0]; exact Bx.new' _ _ _ _ rfl)
  have HF := Lib.hid (show ∀ o, W.frozen? ⟨w.heap.size + 1, o, none⟩ = false from fun o => by rw [hW, hW0]; exact (((Fresh.refl w).alloc _ _).alloc _ _) ⟨w.heap.size + 1, o, none⟩ (by show w.heap.size ≤ w.heap.size + 1; omega))
  have HBel := Lib.hid (show Below w.heap.size w W by rw [hW, hW0]; exact ((Below.refl _ _).alloc (Nat.le_refl _) _).alloc (by simp) _)
  go_upto_region 1 with fail
  rw [← hW0, ← hW]
  clear hW hW0 hz0
  have r0 := HY.out 0 (by simp)
  have r1 := HY.out 1 (by simp)
  simp only [List.getElem_cons_succ, List.getElem_cons_zero] at r0 r1
  have f0 := HF.out 0
  have f1 := HF.out 1
  cases b with
  | false =>
    have hq := two_get (v0 := .slice none 0 0) (v1 := .slice none 0 0) r0 r1
    have HB2 := Lib.hid (show Below w.heap.size w ((W.setCell ⟨w.heap.size + 1, 0, none⟩ (.slice none 0 0)).setCell ⟨w.heap.size + 1, 1, none⟩ (.slice none 0 0)) from (HBel.out.setCell (by simp) _).setCell (by simp) _)
    have hsz : w.heap.size < ((W.setCell ⟨w.heap.size + 1, 0, none⟩ (.slice none 0 0)).setCell ⟨w.heap.size + 1, 1, none⟩ (.slice none 0 0)).heap.size := by simp; omega
    have HQ := Lib.hid hq
    clear hq
    go_wp2_with fail
    obtain ⟨q0, q1⟩ := HQ.out
    refine bodyPost_ret (v := .tuple #[.agg #[.slice none 0 0, .slice none 0 0], .bool false]) (by simp [results, Tryz.results40, q0, q1, go_sem]) rfl ?_
    exact ⟨none, 0, none, 0, rfl, TrOwn.none _ _ _ (by omega), hsz, HB2.out⟩
  | true =>
    have g0 := HX.out 0 (by simp)
    have g1 := HX.out 1 (by simp)
    have g2 := HX.out 2 (by simp)
    have g3 := HX.out 3 (by simp)
    have g4 := HX.out 4 (by simp)
    simp only [List.getElem_cons_succ, List.getElem_cons_zero] at g0 g1 g2 g3 g4
    have HO := Lib.hid (out_any x0 x1 x2 x3 A es cap W ((HA.out.keep fun p _ hp => HBel.out.cell (by omega)).mono (by omega)) hn)
    go_wp2_with fail
    refine HO.out.mono ?_
    rintro r wt ⟨AV4, cv4, A4, c4, rfl, htr, hlt4, hbt⟩
    have q0 := (hbt.cell (p := ⟨w.heap.size + 1, 0, none⟩) hz).trans r0
    have q1 := (hbt.cell (p := ⟨w.heap.size + 1, 1, none⟩) hz).trans r1
    have qf0 := (hbt.frozen (p := ⟨w.heap.size + 1, 0, none⟩) hz).trans f0
    have qf1 := (hbt.frozen (p := ⟨w.heap.size + 1, 1, none⟩) hz).trans f1
    have hzt := hbt.size
    have hB9 : Below w.heap.size w ((wt.setCell ⟨w.heap.size + 1, 0, none⟩ (.slice AV4 4 cv4)).setCell ⟨w.heap.size + 1, 1, none⟩ (.slice A4 es.length c4)) := ((HBel.out.trans (hbt.mono (by omega))).setCell (by simp) _).setCell (by simp) _
    have hT9 : TrOwn ((wt.setCell ⟨w.heap.size + 1, 0, none⟩ (.slice AV4 4 cv4)).setCell ⟨w.heap.size + 1, 1, none⟩ (.slice A4 es.length c4)) W.heap.size wt.heap.size AV4 [x0, x1, x2, x3] A4 es := htr.keep fun p hp _ => two_other (by omega)
    have hs9 : ((wt.setCell ⟨w.heap.size + 1, 0, none⟩ (.slice AV4 4 cv4)).setCell ⟨w.heap.size + 1, 1, none⟩ (.slice A4 es.length c4)).heap.size = wt.heap.size := by simp
    have HQ := Lib.hid (two_get (v0 := .slice AV4 4 cv4) (v1 := .slice A4 es.length c4) q0 q1)
    have HT9 := Lib.hid (hT9.mono (show w.heap.size ≤ W.heap.size by omega) (Nat.le_of_eq hs9.symm))
    have hlt9 : w.heap.size < ((wt.setCell ⟨w.heap.size + 1, 0, none⟩ (.slice AV4 4 cv4)).setCell ⟨w.heap.size + 1, 1, none⟩ (.slice A4 es.length c4)).heap.size := by rw [hs9]; omega
    have HB9 := Lib.hid hB9
    clear hbt htr hB9 hT9 hs9 hlt4 HO r0 r1 f0 f1 g0 g1 g2 g3 g4
    go_wp2_with fail
    obtain ⟨p0, p1⟩ := HQ.out
    refine bodyPost_ret (v := .tuple #[.agg #[.slice AV4 4 cv4, .slice A4 es.length c4], .bool true]) (by simp [results, Tryz.results40, p0, p1, go_sem]) rfl ?_
    exact ⟨AV4, cv4, A4, c4, rfl, HT9.out, hlt9, HB9.out⟩

end Go.Proofs.YtepkicgnhjaokaaGreatDoor

namespace Go.Proofs.YtepkicgnhjaokaaGreatDoor
open Go.RowKit Go.Maps

/-- The new entry; the numbers behind it. -/
def newE (vec : List Int) (b : Int) (l : List UInt8) (val : Int) : En := ⟨l, val, b, vec.getD b.toNat 0 + 1⟩
def puV (vec : List Int) (b : Int) : List Int := vec.set b.toNat (vec.getD b.toNat 0 + 1)
/-- An entry laid into its place. -/
def insE : List En → En → List En
  | [], e => [e]
  | x :: l, e => if plaV x e < 0 then x :: insE l e else e :: x :: l
def puE (vec : List Int) (es : List En) (b : Int) (l : List UInt8) (val : Int) : List En := insE (notName l es) (newE vec b l val)
/-- Is it written? -/
def puOk (vec : List Int) (es : List En) (b : Int) (l : List UInt8) (val : Int) : Bool :=
  treeB vec es && devB b && nameB l && tokB ((puV vec b).getD 0 0) ((puV vec b).getD 1 0) ((puV vec b).getD 2 0) ((puV vec b).getD 3 0) (puE vec es b l val)
def puVec (vec : List Int) (es : List En) (b : Int) (l : List UInt8) (val : Int) : List Int := if puOk vec es b l val = true then puV vec b else []
def puEs (vec : List Int) (es : List En) (b : Int) (l : List UInt8) (val : Int) : List En := if puOk vec es b l val = true then puE vec es b l val else []

theorem ins_perm (l : List En) (e : En) : (insE l e).Perm (e :: l) := by
  induction l with
  | nil => exact List.Perm.refl _
  | cons x l ih =>
    unfold insE
    split
    · exact (List.Perm.cons x ih).trans (List.Perm.swap e x l)
    · exact List.Perm.refl _
theorem ins_ord {l : List En} {e : En} (h : InOrd l) (hne : ∀ x ∈ l, plaV x e ≠ 0) : InOrd (insE l e) := by
  unfold InOrd at *
  induction l with
  | nil => simp [insE]
  | cons x l ih =>
    rw [List.pairwise_cons] at h
    have hx := hne x (by simp)
    have ih' := ih h.2 (fun y hy => hne y (by simp [hy]))
    unfold insE
    split
    · rename_i hlt
      rw [List.pairwise_cons]
      refine ⟨fun y hy => ?_, ih'⟩
      rcases List.mem_cons.1 ((ins_perm l e).mem_iff.1 hy) with rfl | hy
      · exact hlt
      · exact h.1 y hy
    · rename_i hlt
      have hex : plaV e x < 0 := by have := pla_anti x e; omega
      rw [List.pairwise_cons]
      refine ⟨fun y hy => ?_, List.pairwise_cons.2 h⟩
      rcases List.mem_cons.1 hy with rfl | hy
      · exact hex
      · exact pla_trans hex (h.1 y hy)
theorem tok_ord {a b c d : Int} {es : List En} (h : tokB a b c d es = true) : InOrd es := by
  unfold tokB at h
  simp only [Bool.and_eq_true, decide_eq_true_eq, List.all_eq_true, List.mem_range] at h
  have hadj : ∀ i (hi : i + 1 < es.length), plaV es[i] es[i + 1] < 0 := fun i hi => by
    have h1 := h.2 (i + 1) hi
    unfold goodB at h1
    simp only [Bool.and_eq_true, Bool.or_eq_true, decide_eq_true_eq] at h1
    rcases h1.2 with h2 | h2
    · omega
    · rw [List.getD_eq_getElem?_getD, List.getD_eq_getElem?_getD, List.getElem?_eq_getElem (by omega), List.getElem?_eq_getElem hi] at h2
      simpa using h2
  unfold InOrd
  rw [List.pairwise_iff_getElem]
  intro i j hi hj hij
  obtain ⟨m, rfl⟩ : ∃ m, j = i + 1 + m := ⟨j - (i + 1), by omega⟩
  induction m with
  | zero => exact hadj i hj
  | succ m ih =>
    exact pla_trans (ih (by omega) (by omega)) (hadj (i + 1 + m) hj)
theorem nn_ord {es : List En} (l : List UInt8) (h : InOrd es) : InOrd (notName l es) := List.Pairwise.filter _ h
theorem nn_ne {es : List En} {l : List UInt8} {x : En} (h : x ∈ notName l es) : x.name ≠ l := by
  unfold notName at h
  have h2 := (List.mem_filter.1 h).2
  simpa using h2
theorem tree_tok {vec : List Int} {es : List En} (h : treeB vec es = true) : InOrd es := by
  unfold treeB at h
  simp only [Bool.and_eq_true] at h
  exact tok_ord h.2

/-- Sorted by place, what stays and the new one are as if it were laid into its place. -/
theorem sorted_put {vec : List Int} {es es' : List En} {l : List UInt8} {e : En} (hv : treeB vec es = true) (he : e.name = l) (hp : es'.Perm (notName l es ++ [e])) (hs : es'.Pairwise fun e f => 0 ≤ plaV f e) : es' = insE (notName l es) e := by
  have hne : ∀ x ∈ notName l es, plaV x e ≠ 0 := fun x hx h0 => nn_ne hx (by rw [((pla_zero x e).1 h0).1, he])
  have hin : InOrd (insE (notName l es) e) := ins_ord (nn_ord l (tree_tok hv)) hne
  have hpp : es'.Perm (insE (notName l es) e) := hp.trans ((List.perm_append_comm (l₁ := notName l es) (l₂ := [e])).trans (ins_perm _ _).symm)
  have hR : (insE (notName l es) e).Pairwise fun e f => plaV e f ≠ 0 := List.Pairwise.imp (fun h => by omega) hin
  have hR' : es'.Pairwise fun e f => plaV e f ≠ 0 := (hpp.pairwise_iff (fun {a b} h => by have := pla_anti a b; omega)).2 hR
  refine ord_one hpp ?_ hin
  unfold InOrd
  refine List.Pairwise.imp (fun {a b} h => ?_) (hs.and hR')
  have := pla_anti a b
  omega

theorem put_len {vec : List Int} {es : List En} {l : List UInt8} (e : En) (h : treeB vec es = true) : (notName l es ++ [e]).length ≤ 13 ∧ 0 < (notName l es ++ [e]).length := by
  have := treeB_len3 h
  have := notName_le l es
  simp
  omega

end Go.Proofs.YtepkicgnhjaokaaGreatDoor

namespace Go.Proofs.YtepkicgnhjaokaaGreatDoor
open Go.RowKit Go.Maps

theorem ins_split : ∀ (es : List En) (e : En) (k : Nat), k ≤ es.length → (∀ j (hj : j < es.length), j < k → plaV es[j] e < 0) → (∀ hk : k < es.length, ¬ plaV es[k] e < 0) → insE es e = es.take k ++ e :: es.drop k
  | [], e, k, hk, _, _ => by
    have : k = 0 := by simpa using hk
    subst this
    rfl
  | x :: es, e, 0, _, _, h0 => by
    have h := h0 (by simp)
    simp only [List.getElem_cons_zero] at h
    unfold insE
    rw [if_neg h]
    rfl
  | x :: es, e, k + 1, hk, hlt, h0 => by
    have h := hlt 0 (by simp) (by omega)
    simp only [List.getElem_cons_zero] at h
    unfold insE
    rw [if_pos h, ins_split es e k (by simpa using hk) (fun j hj hjk => by have := hlt (j + 1) (by simp; omega) (by omega); simpa using this) (fun hk2 => by have := h0 (by simp; omega); simpa using this)]
    rfl

theorem WoRel.take {w : World} {B k : Nat} {fs : List En} {vs : List Value} (h : WoRel w B fs vs) (hk : k ≤ fs.length) : WoRel w B (fs.take k) (vs.take (k * 4)) where
  vl := by have := h.vl; simp; omega
  cs i hi := by
    have hi' : i < k := by simp at hi; omega
    obtain ⟨A, c, h0, h1, h2, h3, h4⟩ := h.cs i (by omega)
    have hg : (fs.take k)[i]'hi = fs[i]'(by omega) := by simp
    rw [hg]
    exact ⟨A, c, by rw [List.getElem?_take, if_pos (by omega)]; exact h0, by rw [List.getElem?_take, if_pos (by omega)]; exact h1, by rw [List.getElem?_take, if_pos (by omega)]; exact h2, by rw [List.getElem?_take, if_pos (by omega)]; exact h3, h4⟩
theorem WoRel.drop {w : World} {B k : Nat} {fs : List En} {vs : List Value} (h : WoRel w B fs vs) (hk : k ≤ fs.length) : WoRel w B (fs.drop k) (vs.drop (k * 4)) where
  vl := by have := h.vl; simp; omega
  cs i hi := by
    have hi' : k + i < fs.length := by simp at hi; omega
    obtain ⟨A, c, h0, h1, h2, h3, h4⟩ := h.cs (k + i) hi'
    have hg : (fs.drop k)[i]'hi = fs[k + i]'hi' := by simp
    rw [hg]
    exact ⟨A, c, by rw [List.getElem?_drop, show k * 4 + i * 4 = (k + i) * 4 by omega]; exact h0, by rw [List.getElem?_drop, show k * 4 + (i * 4 + 1) = (k + i) * 4 + 1 by omega]; exact h1, by rw [List.getElem?_drop, show k * 4 + (i * 4 + 2) = (k + i) * 4 + 2 by omega]; exact h2, by rw [List.getElem?_drop, show k * 4 + (i * 4 + 3) = (k + i) * 4 + 3 by omega]; exact h3, h4⟩
theorem WoRel.app {w : World} {B : Nat} {fs gs : List En} {vs us : List Value} (h : WoRel w B fs vs) (k : WoRel w B gs us) : WoRel w B (fs ++ gs) (vs ++ us) where
  vl := by simp [h.vl, k.vl]; omega
  cs i hi := by
    have hv := h.vl
    by_cases hik : i < fs.length
    · obtain ⟨A', c', h0, h1, h2, h3, h4⟩ := h.cs i hik
      rw [List.getElem_append_left hik]
      exact ⟨A', c', by rw [List.getElem?_append_left (by omega)]; exact h0, by rw [List.getElem?_append_left (by omega)]; exact h1, by rw [List.getElem?_append_left (by omega)]; exact h2, by rw [List.getElem?_append_left (by omega)]; exact h3, h4⟩
    · have hi2 : i - fs.length < gs.length := by simp at hi; omega
      obtain ⟨A', c', h0, h1, h2, h3, h4⟩ := k.cs (i - fs.length) hi2
      rw [List.getElem_append_right (by omega)]
      refine ⟨A', c', ?_, ?_, ?_, ?_, h4⟩
      · rw [List.getElem?_append_right (by omega), hv, show i * 4 - fs.length * 4 = (i - fs.length) * 4 by omega]; exact h0
      · rw [List.getElem?_append_right (by omega), hv, show i * 4 + 1 - fs.length * 4 = (i - fs.length) * 4 + 1 by omega]; exact h1
      · rw [List.getElem?_append_right (by omega), hv, show i * 4 + 2 - fs.length * 4 = (i - fs.length) * 4 + 2 by omega]; exact h2
      · rw [List.getElem?_append_right (by omega), hv, show i * 4 + 3 - fs.length * 4 = (i - fs.length) * 4 + 3 by omega]; exact h3

/-- The cells of a row that can be read, as a list. -/
theorem rel_of_ens {w : World} {B0 : Nat} {A : Option Addr} : ∀ {es : List En}, EnsIn w 0 B0 A es → ∃ vs, WoRel w B0 es vs ∧ (∀ u ∈ vs, u.oneCell' = true) ∧ (0 < es.length → ∃ b o, A = some ⟨b, o, none⟩ ∧ b < B0 ∧ ∀ j u, vs[j]? = some u → w.cell? ⟨b, o + j, none⟩ = some u) := by
  intro es h
  by_cases hne : 0 < es.length
  · obtain ⟨b, o, rfl, _, hb, hc⟩ := h hne
    have hk : ∀ k, k ≤ es.length → ∃ vs, WoRel w B0 (es.take k) vs ∧ (∀ u ∈ vs, u.oneCell' = true) ∧ ∀ j u, vs[j]? = some u → w.cell? ⟨b, o + j, none⟩ = some u := by
      intro k
      induction k with
      | zero => exact fun _ => ⟨[], by simpa using WoRel.nil w B0, by simp, fun j u hj => by simp at hj⟩
      | succ k ih =>
        intro hk
        obtain ⟨vs, hr, h1, hs⟩ := ih (by omega)
        obtain ⟨A', c', c0, c1, c2, c3, hby⟩ := hc k (by omega)
        refine ⟨vs ++ [.slice A' es[k].name.length c', .int .i64 es[k].val, .int .i64 es[k].dev, .int .i64 es[k].num], ?_, fun u hu => ?_, fun j u hj => ?_⟩
        · rw [List.take_succ_eq_append_getElem (by omega)]
          exact hr.add (by first | exact hby | exact hby.low (Nat.zero_le _))
        · rcases List.mem_append.1 hu with h | h
          · exact h1 u h
          · simp at h
            rcases h with rfl | rfl | rfl | rfl <;> rfl
        · have hvl := hr.vl
          have hvl' : vs.length = k * 4 := by rw [hvl]; simp; omega
          by_cases hjl : j < vs.length
          · rw [List.getElem?_append_left hjl] at hj
            exact hs j u hj
          · rw [List.getElem?_append_right (by omega), hvl'] at hj
            have hj4 : j - k * 4 = 0 ∨ j - k * 4 = 1 ∨ j - k * 4 = 2 ∨ j - k * 4 = 3 := by
              have := (List.getElem?_eq_some_iff.1 hj).1
              simp at this
              omega
            rcases hj4 with e | e | e | e
            · rw [e] at hj; simp at hj; subst hj; rw [show o + j = o + k * 4 by omega]; exact c0
            · rw [e] at hj; simp at hj; subst hj; rw [show o + j = o + k * 4 + 1 by omega]; exact c1
            · rw [e] at hj; simp at hj; subst hj; rw [show o + j = o + k * 4 + 2 by omega]; exact c2
            · rw [e] at hj; simp at hj; subst hj; rw [show o + j = o + k * 4 + 3 by omega]; exact c3
    obtain ⟨vs, hr, h1, hs⟩ := hk es.length (Nat.le_refl _)
    rw [List.take_length] at hr
    exact ⟨vs, hr, h1, fun _ => ⟨b, o, rfl, hb, hs⟩⟩
  · have : es = [] := by
      cases es with
      | nil => rfl
      | cons x l => simp at hne
    subst this
    exact ⟨[], WoRel.nil w B0, by simp, fun h => absurd h (by simp)⟩

/-- append of any slice, at a step of a region that draws. -/
theorem step_append_anyE {P : Program} {w : World} {ops : Array Oper} {o : Oper} {a : Act} {K : Act → World → Prop} {Q : Exit → Act → World → Prop} {E : Prop} (hgd : o.guard = none) (s x : Operand) (t : TypeId)
    (ho : o.op = .call { callee := .builtin .append, args := #[s, x], argTypes := #[t, t] })
    (base : Nat) (e : TypeId) (i : TypeInfo) (z : Value) (size bytes : Nat) (ht : P.underlying t = some (.slice e)) (hi : P.info? e = some i) (hz : i.zero = some z)
    (hsize : i.size = size) (hby : i.bytes = bytes) (hzs : z.cells.size = size) (hsz : 0 < size)
    (v : Value) (n : Nat) (xs : List Value) (hs : a.eval s = v) (hown : w.ownsRow base e size v n xs)
    (A : Option Addr) (m c : Nat) (ys : List Value) (hx : a.eval x = .slice A m c) (hl : ys.length = m * size) (hsrc : SrcAt w A m ys) (h1 : ∀ u ∈ ys, u.oneCell' = true)
    (h63 : n + m ≤ maxLen) (hbytes : (n + m) * bytes ≤ 140737488355328) (hbase : base ≤ w.heap.size)
    (h : ∀ A' cap w', w'.ownsRow base e size (.slice A' (n + m) cap) (n + m) (xs ++ ys) → w.grownBy w' v.ownBlock → K (a.put o.dst (.slice A' (n + m) cap)) w') :
    if Region.wanted o (yielded ops a.tmps) = true then Oper.wp P o a w K Q else E := by
  have hw : Region.wanted o (yielded ops a.tmps) = true := by simp [Region.wanted, hgd]
  rw [if_pos hw]
  obtain ⟨A', cap, w', hr, h2, h3, _⟩ := run_append_any (P := P) w base t o.type e i z size bytes ht hi hz hsize hby hzs hsz v n xs hown A m c ys hl hsrc h1 h63 hbytes hbase
  unfold Oper.wp execOp
  simp only [ho, resolve, invoke, builtin, Sem.run_bind, Sem.run_pure, Result.andThen_ok, List.map_toArray, List.map_cons, List.map_nil, hs, hx, hr]
  exact h A' cap w' h2 h3

end Go.Proofs.YtepkicgnhjaokaaGreatDoor

namespace Go.Proofs.YtepkicgnhjaokaaGreatDoor
open Go.RowKit Go.Maps

theorem Tryz.infoEn : (Tryz.prog.info? 34).map (fun i => (i.zero, i.size, i.bytes)) = some (some (.agg #[.slice none 0 0, .int .i64 0, .int .i64 0, .int .i64 0]), 4, 48) := by kernel_rfl
theorem owns_noneE {w : World} {base g : Nat} {e : TypeId} {size : Nat} (hg : base ≤ g) (hb : w.heap[g]? = some (.cells #[] e (0, 0))) : w.ownsRow base e size (.slice (some ⟨g, 0, none⟩) 0 0) 0 [] :=
  ⟨by simp, .inr ⟨g, 0, _, rfl, hg, hb, Nat.le_refl _, by unfold maxLen; omega, by simp, by simp⟩⟩
theorem heap_oldE {w : World} {n : Nat} {x : Obj} {o : Obj} (h : w.heap[n]? = some x) : (w.alloc o).heap[n]? = some x := (heap_alloc_old w o (Array.getElem?_eq_some_iff.1 h).1).trans h

/-- The new entry's box, and all below, as long as the region runs. -/
structure Q4 (W5 : World) (bt : Nat) (vs : List Value) (X : World) : Prop where
  c : Bx X bt vs
  bel : Below W5.heap.size W5 X
  lt : bt < W5.heap.size
section
variable {W5 X Y : World} {bt : Nat} {vs : List Value}
theorem Q4.below (h : Q4 W5 bt vs X) (hb : Below X.heap.size X Y) : Q4 W5 bt vs Y :=
  have h1 := h.bel.size
  have h2 := h.lt
  ⟨h.c.below hb (by omega), h.bel.trans (hb.mono h1), h2⟩
theorem Q4.alloc (h : Q4 W5 bt vs X) (o : Obj) : Q4 W5 bt vs (X.alloc o) := h.below ((Below.refl _ _).alloc (Nat.le_refl _) o)
theorem Q4.drew (h : Q4 W5 bt vs X) : Q4 W5 bt vs X.drew := h.below (Below.refl _ _).drew
theorem Q4.grown (h : Q4 W5 bt vs X) {row : Option Nat} (hg : X.grownBy Y row) (hr : ∀ k, row = some k → W5.heap.size ≤ k) : Q4 W5 bt vs Y := by
  have h1 := h.bel.size
  have h2 := h.lt
  have hblk : Y.heap[bt]? = X.heap[bt]? := hg.block bt (by omega) (fun e => by have := hr bt e.symm; omega)
  exact ⟨fun i hi => (World.cell?_of_block hblk).trans (h.c i hi), h.bel.grown hg h1 hr, h2⟩
theorem heap_grownE {w w' : World} {row : Option Nat} {n : Nat} {x : Obj} (hg : w.grownBy w' row) (h : w.heap[n]? = some x) (hne : some n ≠ row) : w'.heap[n]? = some x :=
  (hg.block n (Array.getElem?_eq_some_iff.1 h).1 hne).trans h
end

theorem heap_newF {w : World} {n : Nat} (o : Obj) (h : w.heap.size = n) : (w.alloc o).heap[n]? = some o := by
  subst h
  exact heap_alloc_new w o
theorem heap_drewF {w : World} {n : Nat} {x : Obj} (h : w.heap[n]? = some x) : w.drew.heap[n]? = some x := h
theorem c1_after {W5 w7 : World} {c0 c1 : Obj} (hg : ((W5.alloc c0).alloc c1).drew.grownBy w7 (Value.slice (some ⟨W5.heap.size, 0, none⟩) 0 0).ownBlock) : w7.heap[W5.heap.size + 1]? = some c1 := by
  refine heap_grownE hg (heap_drewF (heap_newF _ (by simp))) ?_
  simp [Value.ownBlock]
theorem c1_before {W5 w7 : World} {c0 c1 : Obj} (hg : ((W5.alloc c1).alloc c0).drew.grownBy w7 (Value.slice (some ⟨W5.heap.size + 1, 0, none⟩) 0 0).ownBlock) : w7.heap[W5.heap.size]? = some c1 := by
  refine heap_grownE hg (heap_drewF (heap_oldE (heap_newF _ rfl))) ?_
  simp [Value.ownBlock]
theorem c1_after' {W5 w7 : World} {c0 c1 : Obj} (hg : ((W5.alloc c0).drew.alloc c1).grownBy w7 (Value.slice (some ⟨W5.heap.size, 0, none⟩) 0 0).ownBlock) : w7.heap[W5.heap.size + 1]? = some c1 := by
  refine heap_grownE hg (heap_newF _ (by simp)) ?_
  simp [Value.ownBlock]
theorem c1_before' {W5 w7 : World} {c0 c1 : Obj} (hg : ((W5.alloc c1).drew.alloc c0).grownBy w7 (Value.slice (some ⟨W5.heap.size + 1, 0, none⟩) 0 0).ownBlock) : w7.heap[W5.heap.size]? = some c1 := by
  refine heap_grownE hg (heap_oldE (heap_drewF (heap_newF _ rfl))) ?_
  simp [Value.ownBlock]
theorem own_one4f {w : World} {base g : Nat} {e : TypeId} {v0 v1 v2 v3 : Value} (hg : base ≤ g) (hb : w.heap[g]? = some (.cells #[v0, v1, v2, v3] e (0, 0))) : w.ownsRow base e 4 (.slice (some ⟨g, 0, none⟩) 1 1) 1 [v0, v1, v2, v3] :=
  ⟨by simp, .inr ⟨g, 1, _, rfl, hg, hb, Nat.le_refl _, by unfold maxLen; omega, by simp, by simp⟩⟩
theorem one4c (A : Option Addr) (n c : Nat) (a b d : Int) : ∀ u ∈ [Value.slice A n c, .int .i64 a, .int .i64 b, .int .i64 d], u.oneCell' = true := by
  intro u hu
  simp at hu
  rcases hu with rfl | rfl | rfl | rfl <;> rfl
theorem le_alloc {n : Nat} {w : World} (o : Obj) (h : n ≤ w.heap.size) : n ≤ (w.alloc o).heap.size := by simp; omega

set_option maxRecDepth 100000 in
set_option maxHeartbeats 4000000 in
theorem l3insert_any (A : Option Addr) (es : List En) (c : Nat) (e : En) (An : Option Addr) (cn B0 : Nat) (w : World) (hA : EnsIn w 0 B0 A es) (hB0 : B0 ≤ w.heap.size) (hn : es.length ≤ 1000) (hc : es.length ≤ c) (hA0 : A = none ∧ c = 0 ∨ ∃ b o, A = some ⟨b, o, none⟩) (hN : BytesIn w 0 B0 An e.name) :
    Calls Tryz.prog 96 #[.slice A es.length c, enV An cn e] w
      fun r w' => ∃ A' c', r = .returned (.slice A' (insE es e).length c') ∧ (insE es e).length ≤ c' ∧ (∃ g, A' = some ⟨g, 0, none⟩) ∧ WoOut w' w.heap.size B0 A' (insE es e) ∧ Below w.heap.size w w' := by
  have HA := Lib.hid hA
  have HN := Lib.hid hN
  clear hA hN
  unfold enV
  go_enter Tryz.func96, Tryz.ntmps96
  go_wp2_with fail
  obtain ⟨W, hW⟩ : ∃ X, X = w.alloc (.cells #[.slice An e.name.length cn, .int .i64 e.val, .int .i64 e.dev, .int .i64 e.num] 34) := ⟨_, rfl⟩
  have HBel := Lib.hid (show Below w.heap.size w W by rw [hW]; exact (Below.refl _ _).alloc (Nat.le_refl _) _)
  have HX := Lib.hid (show Bx W w.heap.size [.slice An e.name.length cn, .int .i64 e.val, .int .i64 e.dev, .int .i64 e.num] by rw [hW]; exact Bx.new' _ _ _ _ rfl)
  have hzW : w.heap.size < W.heap.size := by rw [hW]; simp
  rw [← hW]
  clear hW
  go_loopw [5] (fun i wr => ∃ k : Nat, k ≤ es.length ∧ i = .int .i64 k ∧ (∀ j (hj : j < es.length), j < k → plaV es[j] e < 0) ∧ Below W.heap.size W wr) (fun i _ => es.length - (intOf i).toNat)
  case atStart => exact ⟨0, Nat.zero_le _, rfl, fun j _ h => absurd h (by omega), Below.refl _ _⟩
  case round =>
    obtain ⟨k, hk, rfl, hlo, hbr⟩ := hrel
    obtain ⟨wq, rfl⟩ : ∃ X : World, X = wr := ⟨_, rfl⟩
    have HLo := Lib.hid hlo
    have HBr := Lib.hid hbr
    have hzr := hbr.size
    obtain ⟨t0, t1, t2, t3⟩ := (HX.out.below hbr hzW).four
    clear hlo hbr
    have q0 : ∀ x : Kp wq, x.val.cell? ⟨w.heap.size, 0, none⟩ = some (.slice An e.name.length cn) := fun x => x.cell t0
    have q1 : ∀ x : Kp wq, x.val.cell? ⟨w.heap.size, 1, none⟩ = some (.int .i64 e.val) := fun x => x.cell t1
    have q2 : ∀ x : Kp wq, x.val.cell? ⟨w.heap.size, 2, none⟩ = some (.int .i64 e.dev) := fun x => x.cell t2
    have q3 : ∀ x : Kp wq, x.val.cell? ⟨w.heap.size, 3, none⟩ = some (.int .i64 e.num) := fun x => x.cell t3
    have HBw := Lib.hid (HBel.out.trans (HBr.out.mono (by omega)))
    by_cases hlt : k < es.length
    · obtain ⟨b, o, hAe, _, hb, hc'⟩ := HA.out (by omega)
      obtain ⟨A2, c2, p0, p1, p2, p3, hby⟩ := hc' k hlt
      have s0 : ∀ x : Kp wq, x.val.cell? ⟨b, o + k * 4, none⟩ = some (.slice A2 es[k].name.length c2) := fun x => x.cell ((HBw.out.cell (p := ⟨b, o + k * 4, none⟩) (by show b < _; omega)).trans p0)
      have s1 : ∀ x : Kp wq, x.val.cell? ⟨b, o + k * 4 + 1, none⟩ = some (.int .i64 es[k].val) := fun x => x.cell ((HBw.out.cell (p := ⟨b, o + k * 4 + 1, none⟩) (by show b < _; omega)).trans p1)
      have s2 : ∀ x : Kp wq, x.val.cell? ⟨b, o + k * 4 + 2, none⟩ = some (.int .i64 es[k].dev) := fun x => x.cell ((HBw.out.cell (p := ⟨b, o + k * 4 + 2, none⟩) (by show b < _; omega)).trans p2)
      have s3 : ∀ x : Kp wq, x.val.cell? ⟨b, o + k * 4 + 3, none⟩ = some (.int .i64 es[k].num) := fun x => x.cell ((HBw.out.cell (p := ⟨b, o + k * 4 + 3, none⟩) (by show b < _; omega)).trans p3)
      obtain ⟨pv, hpv⟩ : ∃ y, y = plaV es[k] e := ⟨_, rfl⟩
      have HC := Lib.hid (fun (x : Kp wq) => show Calls Tryz.prog 57 #[.agg #[.slice A2 es[k].name.length c2, .int .i64 es[k].val, .int .i64 es[k].dev, .int .i64 es[k].num], .agg #[.slice An e.name.length cn, .int .i64 e.val, .int .i64 e.dev, .int .i64 e.num]] x.val (fun r w' => r = .returned (.int .i64 pv) ∧ Below x.val.heap.size x.val w') from by
        have hx : Below w.heap.size w x.val := HBw.out.trans (x.ok.mono (by omega))
        have h := l3cmp_any A2 An c2 cn es[k] e x.val ((hby.low (Nat.zero_le _)).keep (fun p _ hp => hx.cell (by omega)) |>.mono (by have := hx.size; omega)) ((HN.out.keep fun p _ hp => hx.cell (by omega)).mono (by have := hx.size; omega))
        unfold enV at h
        rw [← hpv] at h
        exact h)
      by_cases hp : pv < 0
      · have HLo2 := Lib.hid (show ∀ j (hj : j < es.length), j < k + 1 → plaV es[j] e < 0 from fun j hj hjk => by
          by_cases ej : j = k
          · subst ej; rw [← hpv]; exact hp
          · exact HLo.out j hj (by omega))
        subst hAe
        clear hpv p0 p1 p2 p3 hby hc'
        go_upto_region 2 with fail
        refine wp_region_kept (by kernel_rfl) (by kernel_rfl) ?_
        repeat (go_big_quiet_step ((go_at_call 57; refine kept_of (v := .int .i64 pv) (HC.out _))))
        refine wpQuiet_nil ?_
        rintro W5 ⟨⟨_, hb5⟩, rfl⟩
        have HB5 := Lib.hid (HBr.out.trans (hb5.mono hzr))
        clear q0 q1 q2 q3 s0 s1 s2 s3 HC hb5
        go_wp2_with fail
        go_roundw
        case rel => exact ⟨k + 1, by omega, by go_num, HLo2.out, HB5.out⟩
        case measure => simp [intOf]; omega
      · have HSp := Lib.hid (ins_split es e k hk HLo.out (fun _ => by rw [← hpv]; exact hp))
        subst hAe
        clear hpv p0 p1 p2 p3 hby hc'
        go_upto_region 2 with fail
        have hp3 : ¬ (pv < 0) := by omega
        refine wp_region_kept (by kernel_rfl) (by kernel_rfl) ?_
        repeat (go_big_quiet_step ((go_at_call 57; refine kept_of (v := .int .i64 pv) (HC.out _))))
        refine wpQuiet_nil ?_
        rintro W5 ⟨⟨_, hb5⟩, rfl⟩
        have HB5 := Lib.hid (HBr.out.trans (hb5.mono hzr))
        clear q0 q1 q2 q3 s0 s1 s2 s3 HC hb5
        obtain ⟨vs, hrel, hone, hsrc⟩ := rel_of_ens (w := W5) (B0 := B0) (A := some ⟨b, o, none⟩) (es := es) (HA.out.keep fun p _ hp => (HBel.out.trans (HB5.out.mono (by omega))).cell (by omega))
        have hvl := hrel.vl
        obtain ⟨i1, hi1, hy0, hy1, hy2⟩ := info_parts Tryz.infoEn
        have HS1 := Lib.hid (fun (X : World) (hX : Below W5.heap.size W5 X) => show SrcAt X (some ⟨b, o, none⟩) k (vs.take (k * 4)) from ⟨fun h => (by cases h), fun a ha j u hj => by
          cases ha
          have hj2 : vs[j]? = some u := by
            rw [List.getElem?_take] at hj
            split at hj
            · exact hj
            · cases hj
          have hne : 0 < es.length := by have := (List.getElem?_eq_some_iff.1 hj2).1; omega
          obtain ⟨b1, o1, he1, hb1, hs1⟩ := hsrc hne
          cases he1
          rw [Addr.add_lit]
          exact (hX.cell (by have := HB5.out.size; exact Nat.lt_of_lt_of_le hb1 (by omega))).trans (hs1 j u hj2)⟩)
        have hk4 : (vs.take (k * 4)).length = k * 4 := by simp; omega
        have hone1 : ∀ u ∈ vs.take (k * 4), u.oneCell' = true := fun u hu => hone u (List.mem_of_mem_take hu)
        have hkc : k ≤ c := by omega
        have hkci : (k : Int) ≤ (c : Int) := by omega
        have t0 := (HX.out.below HB5.out hzW).four
        obtain ⟨t0, t1, t2, t3⟩ := t0
        have HQ5 := Lib.hid (show Q4 W5 w.heap.size [.slice An e.name.length cn, .int .i64 e.val, .int .i64 e.dev, .int .i64 e.num] W5 from ⟨HX.out.below HB5.out hzW, Below.refl _ _, by have := HB5.out.size; omega⟩)
        have hz5 : w.heap.size < W5.heap.size := by have := HB5.out.size; omega
        have hm1 : 0 + k ≤ maxLen := by unfold maxLen; omega
        have hm2 : (0 + k) * 48 ≤ 140737488355328 := by omega
        have hm3 : k + 1 ≤ maxLen := by unfold maxLen; omega
        have hm4 : (k + 1) * 48 ≤ 140737488355328 := by omega
        go_upto_region 4 with fail
        go_region_law
          (first
            | (refine step_append_anyE (by rfl) _ _ _ (by rfl) W5.heap.size 34 i1 _ 4 48 Tryz.underlying24 hi1 hy0 hy1 hy2 rfl (by decide) (.slice (some ⟨_, 0, none⟩) 0 0) 0 [] (by rfl) (owns_noneE ?_ ?_) (some ⟨b, o, none⟩) k c (vs.take (k * 4)) (by rfl) hk4 (HS1.out _ ?_) hone1 hm1 hm2 ?_ ?_
               · first | exact Nat.le_refl _ | (simp; done) | (simp; omega)
               · first | exact heap_alloc_new _ _ | exact heap_oldE (heap_alloc_new _ _) | (refine heap_newF _ ?_; simp; done) | (refine heap_oldE ?_; refine heap_newF _ ?_; simp; done) | (refine heap_drewF (heap_newF _ ?_); simp; done) | (refine heap_drewF (heap_oldE (heap_newF _ ?_)); rfl) | (refine heap_drewF (heap_oldE (heap_newF _ ?_)); simp; done)
               · exact Q4.bel (bt := w.heap.size) (vs := [.slice An e.name.length cn, .int .i64 e.val, .int .i64 e.dev, .int .i64 e.num]) (by repeat first | with_reducible exact HQ5.out | with_reducible apply Q4.drew | with_reducible apply Q4.alloc)
               · first | omega | (simp; done) | (simp; omega)
               intro A7 c7 w7 hown7 hgr7
               rw [Nat.zero_add, List.nil_append] at hown7
               have HOwn7 := Lib.hid hown7
               have Q7 : Q4 W5 w.heap.size [.slice An e.name.length cn, .int .i64 e.val, .int .i64 e.dev, .int .i64 e.num] w7 := Q4.grown (by repeat first | with_reducible exact HQ5.out | with_reducible apply Q4.drew | with_reducible apply Q4.alloc) hgr7 (fun g hg => by simp [Value.ownBlock] at hg; omega)
               have HQ7 := Lib.hid Q7
               obtain ⟨t0_7, t1_7, t2_7, t3_7⟩ := Q7.c.four
               have HG7 := Lib.hid hgr7
               have hz7 := Q7.bel.size
               clear hgr7 hown7 Q7)
            | (refine step_append_row _ (by rfl) _ _ _ (by rfl) W5.heap.size 0 34 i1 _ 4 48 Tryz.underlying24 hi1 hy0 hy1 hy2 rfl (by decide) (.slice A7 k c7) k (vs.take (k * 4)) (by rfl) ?_ (.slice (some ⟨_, 0, none⟩) 1 1) 1 [.slice An e.name.length cn, .int .i64 e.val, .int .i64 e.dev, .int .i64 e.num] (by rfl) (own_one4f (Nat.zero_le _) ?_) ?_ hm3 hm4 ?_ ?_
               try any_goals (first | with_reducible exact HOwn7.out.alloc _ | with_reducible exact HOwn7.out | with_reducible exact (HOwn7.out.alloc _).drew | with_reducible exact HOwn7.out.drew.alloc _ | with_reducible exact (HOwn7.out.alloc _).drew.alloc _)
               try any_goals (first | exact heap_alloc_new _ _ | exact c1_after HG7.out | exact c1_before HG7.out | exact c1_after' HG7.out | exact c1_before' HG7.out)
               try any_goals exact one4c _ _ _ _ _ _
               try any_goals (first | exact hz7 | exact le_alloc _ hz7 | exact le_alloc _ (le_alloc _ hz7))
               intro A8 c8 w8 hown8 hgr8
               have HOwn8 := Lib.hid hown8
               have HQ8 := Lib.hid (show Q4 W5 w.heap.size [.slice An e.name.length cn, .int .i64 e.val, .int .i64 e.dev, .int .i64 e.num] w8 from Q4.grown (by repeat first | with_reducible exact HQ7.out | with_reducible apply Q4.drew | with_reducible apply Q4.alloc) hgr8 (fun g hg => (HOwn7.out.lt g hg).1))
               clear hgr8 hown8))
        all_goals
          have hkn2 : (k : Int) ≤ (es.length : Int) := by omega
          have hvd : (vs.drop (k * 4)).length = (es.length - k) * 4 := by simp; omega
          have hone2 : ∀ u ∈ vs.drop (k * 4), u.oneCell' = true := fun u hu => hone u (List.mem_of_mem_drop hu)
          have HS2 := Lib.hid (show SrcAt w8 (some ⟨b, o + k * 4, none⟩) (es.length - k) (vs.drop (k * 4)) from ⟨fun h => (by cases h), fun a ha j u hj => by
            cases ha
            rw [List.getElem?_drop] at hj
            have hne : 0 < es.length := by have := (List.getElem?_eq_some_iff.1 hj).1; omega
            obtain ⟨b1, o1, he1, hb1, hs1⟩ := hsrc hne
            cases he1
            rw [Addr.add_lit, show o + k * 4 + j = o + (k * 4 + j) by omega]
            exact (HQ8.out.bel.cell (by have := HB5.out.size; exact Nat.lt_of_lt_of_le hb1 (by omega))).trans (hs1 _ u hj)⟩)
          have hm5 : k + 1 + (es.length - k) ≤ maxLen := by unfold maxLen; omega
          have hm6 : (k + 1 + (es.length - k)) * 48 ≤ 140737488355328 := by omega
          have hz8 := HQ8.out.bel.size
          clear t0 t1 t2 t3 t0_7 t1_7 t2_7 t3_7
          go_upto_region 5 with fail
          go_wp2_with (at_builtin; refine wpList_append_any _ rfl _ _ 24 rfl W5.heap.size 34 i1 (.agg #[.slice none 0 0, .int .i64 0, .int .i64 0, .int .i64 0]) 4 48 Tryz.underlying24 hi1 hy0 hy1 hy2 rfl (by decide) (.slice A8 (k + 1) c8) (k + 1) _ rfl HOwn8.out (some ⟨b, o + k * 4, none⟩) (es.length - k) (c - k) (vs.drop (k * 4)) rfl hvd HS2.out hone2 hm5 hm6 hz8 ?_)
          intro A9 c9 w9 hown9 hgr9
          have hlen : k + 1 + (es.length - k) = (insE es e).length := by rw [HSp.out]; simp; omega
          have HR9 := Lib.hid (show WoRel w9 B0 (insE es e) (vs.take (k * 4) ++ [.slice An e.name.length cn, .int .i64 e.val, .int .i64 e.dev, .int .i64 e.num] ++ vs.drop (k * 4)) from by
            have hkeep : ∀ p : Addr, p.block < B0 → w9.cell? p = W5.cell? p := fun p hp => by
              have h1 := HB5.out.size
              refine (World.cell?_of_block (hgr9.block _ (by omega) (fun e2 => ?_))).trans (HQ8.out.bel.cell (by omega))
              have := (HOwn8.out.lt _ e2.symm).1
              omega
            have h5 := hrel.keep hkeep
            rw [HSp.out, show List.take k es ++ e :: List.drop k es = (List.take k es ++ [e]) ++ List.drop k es by simp]
            exact ((h5.take hk).add (HN.out.keep fun p _ hp => (hkeep p hp).trans ((HBel.out.trans (HB5.out.mono (by omega))).cell (by omega)))).app (h5.drop hk))
          rw [show vs.take (k * 4) ++ Value.slice An e.name.length cn :: .int .i64 e.val :: .int .i64 e.dev :: .int .i64 e.num :: vs.drop (k * 4) = vs.take (k * 4) ++ [.slice An e.name.length cn, .int .i64 e.val, .int .i64 e.dev, .int .i64 e.num] ++ vs.drop (k * 4) by simp] at hown9
          rw [hlen] at hown9 ⊢
          have HO9 := Lib.hid ((HR9.out.out hown9).lower (L' := w.heap.size) (by have h1 := HBel.out.size; have h2 := HB5.out.size; exact Nat.le_trans h1 h2))
          have hcap : (insE es e).length ≤ c9 := by
            obtain ⟨_, hh | ⟨g, cap, cur, hv, hg, hb9, hle, _⟩⟩ := hown9
            · omega
            · injection hv with _ _ h3
              omega
          have HA9 : ∃ g, A9 = some ⟨g, 0, none⟩ := by
            obtain ⟨_, hh | ⟨g, cap, cur, hv, hg, hb9, hle, _⟩⟩ := hown9
            · have := hlen
              omega
            · injection hv with h1 _ _
              exact ⟨g, h1⟩
          have HB9 := Lib.hid (show Below w.heap.size w w9 from (HBel.out.trans (HB5.out.mono (by omega))).trans ((HQ8.out.bel.mono (by omega)).grown hgr9 (by omega) (fun g hg => by have := (HOwn8.out.lt g hg).1; omega)))
          clear hown9 hgr9
          go_wp2_with fail
          go_ret
          exact ⟨A9, c9, rfl, hcap, HA9, HO9.out, HB9.out⟩
    · have HSp := Lib.hid (ins_split es e k hk HLo.out (fun h => absurd h hlt))
      have HD := Lib.hid (show es.length - k = 0 ∧ es.length * 4 ≤ k * 4 from ⟨by omega, by omega⟩)
      rcases hA0 with ⟨rfl, rfl⟩ | ⟨b, o, rfl⟩
      · obtain rfl : es = [] := by
          cases es with
          | nil => rfl
          | cons x l => simp at hc
        obtain rfl : k = 0 := by simpa using hk
        simp only [List.length_nil] at *
        go_upto_region 2 with fail
        refine wp_region_kept (by kernel_rfl) (by kernel_rfl) ?_
        repeat (go_big_quiet_step (fail))
        refine wpQuiet_nil ?_
        rintro W5 ⟨⟨_, hb5⟩, rfl⟩
        have HB5 := Lib.hid (HBr.out.trans (hb5.mono hzr))
        clear q0 q1 q2 q3 hb5
        have HS1 := Lib.hid (fun (X : World) => show SrcAt X none 0 ([] : List Value) from ⟨fun _ => rfl, fun a ha => by cases ha⟩)
        obtain ⟨i1, hi1, hy0, hy1, hy2⟩ := info_parts Tryz.infoEn
        have t0 := (HX.out.below HB5.out hzW).four
        obtain ⟨t0, t1, t2, t3⟩ := t0
        have HQ5 := Lib.hid (show Q4 W5 w.heap.size [.slice An e.name.length cn, .int .i64 e.val, .int .i64 e.dev, .int .i64 e.num] W5 from ⟨HX.out.below HB5.out hzW, Below.refl _ _, by have := HB5.out.size; omega⟩)
        have hz5 : w.heap.size < W5.heap.size := by have := HB5.out.size; omega
        have hm1 : 0 + 0 ≤ maxLen := by unfold maxLen; omega
        have hm2 : (0 + 0) * 48 ≤ 140737488355328 := by omega
        have hm3 : 0 + 1 ≤ maxLen := by unfold maxLen; omega
        have hm4 : (0 + 1) * 48 ≤ 140737488355328 := by omega
        go_upto_region 4 with fail
        go_region_law
          (first
            | (refine step_append_anyE (by rfl) _ _ _ (by rfl) W5.heap.size 34 i1 _ 4 48 Tryz.underlying24 hi1 hy0 hy1 hy2 rfl (by decide) (.slice (some ⟨_, 0, none⟩) 0 0) 0 [] (by rfl) (owns_noneE ?_ ?_) none 0 0 [] (by rfl) (by rfl) (HS1.out _) (by simp) hm1 hm2 ?_ ?_
               · first | exact Nat.le_refl _ | (simp; done) | (simp; omega)
               · first | exact heap_alloc_new _ _ | exact heap_oldE (heap_alloc_new _ _) | (refine heap_newF _ ?_; simp; done) | (refine heap_oldE ?_; refine heap_newF _ ?_; simp; done) | (refine heap_drewF (heap_newF _ ?_); simp; done) | (refine heap_drewF (heap_oldE (heap_newF _ ?_)); rfl) | (refine heap_drewF (heap_oldE (heap_newF _ ?_)); simp; done)
               · first | omega | (simp; done) | (simp; omega)
               intro A7 c7 w7 hown7 hgr7
               rw [Nat.zero_add, List.nil_append] at hown7
               have HOwn7 := Lib.hid hown7
               have Q7 : Q4 W5 w.heap.size [.slice An e.name.length cn, .int .i64 e.val, .int .i64 e.dev, .int .i64 e.num] w7 := Q4.grown (by repeat first | with_reducible exact HQ5.out | with_reducible apply Q4.drew | with_reducible apply Q4.alloc) hgr7 (fun g hg => by simp [Value.ownBlock] at hg; omega)
               have HQ7 := Lib.hid Q7
               obtain ⟨t0_7, t1_7, t2_7, t3_7⟩ := Q7.c.four
               have HG7 := Lib.hid hgr7
               have hz7 := Q7.bel.size
               clear hgr7 hown7 Q7)
            | (refine step_append_row _ (by rfl) _ _ _ (by rfl) W5.heap.size 0 34 i1 _ 4 48 Tryz.underlying24 hi1 hy0 hy1 hy2 rfl (by decide) (.slice A7 0 c7) 0 [] (by rfl) ?_ (.slice (some ⟨_, 0, none⟩) 1 1) 1 [.slice An e.name.length cn, .int .i64 e.val, .int .i64 e.dev, .int .i64 e.num] (by rfl) (own_one4f (Nat.zero_le _) ?_) ?_ hm3 hm4 ?_ ?_
               try any_goals (first | with_reducible exact HOwn7.out.alloc _ | with_reducible exact HOwn7.out | with_reducible exact (HOwn7.out.alloc _).drew | with_reducible exact HOwn7.out.drew.alloc _ | with_reducible exact (HOwn7.out.alloc _).drew.alloc _)
               try any_goals (first | exact heap_alloc_new _ _ | exact c1_after HG7.out | exact c1_before HG7.out | exact c1_after' HG7.out | exact c1_before' HG7.out)
               try any_goals exact one4c _ _ _ _ _ _
               try any_goals (first | exact hz7 | exact le_alloc _ hz7 | exact le_alloc _ (le_alloc _ hz7))
               intro A8 c8 w8 hown8 hgr8
               have HOwn8 := Lib.hid hown8
               have HQ8 := Lib.hid (show Q4 W5 w.heap.size [.slice An e.name.length cn, .int .i64 e.val, .int .i64 e.dev, .int .i64 e.num] w8 from Q4.grown (by repeat first | with_reducible exact HQ7.out | with_reducible apply Q4.drew | with_reducible apply Q4.alloc) hgr8 (fun g hg => (HOwn7.out.lt g hg).1))
               clear hgr8 hown8))
        all_goals
          have HS2 := Lib.hid (show SrcAt w8 none 0 ([] : List Value) from ⟨fun _ => rfl, fun a ha => by cases ha⟩)
          have hm5 : 1 + 0 ≤ maxLen := by unfold maxLen; omega
          have hm6 : (1 + 0) * 48 ≤ 140737488355328 := by omega
          have hz8 := HQ8.out.bel.size
          have HOwn8' := Lib.hid (show w8.ownsRow W5.heap.size 34 4 (.slice A8 1 c8) 1 [.slice An e.name.length cn, .int .i64 e.val, .int .i64 e.dev, .int .i64 e.num] from by simpa using HOwn8.out)
          clear t0 t1 t2 t3 t0_7 t1_7 t2_7 t3_7
          go_upto_region 5 with fail
          go_wp2_with (at_builtin; refine wpList_append_any _ rfl _ _ 24 rfl W5.heap.size 34 i1 (.agg #[.slice none 0 0, .int .i64 0, .int .i64 0, .int .i64 0]) 4 48 Tryz.underlying24 hi1 hy0 hy1 hy2 rfl (by decide) (.slice A8 1 c8) 1 _ rfl HOwn8'.out none 0 0 [] rfl rfl HS2.out (by simp) hm5 hm6 hz8 ?_)
          intro A9 c9 w9 hown9 hgr9
          have hown9' : w9.ownsRow W5.heap.size 34 4 (.slice A9 [e].length c9) [e].length [.slice An e.name.length cn, .int .i64 e.val, .int .i64 e.dev, .int .i64 e.num] := by simpa using hown9
          have HR9 := Lib.hid (show WoRel w9 B0 [e] [.slice An e.name.length cn, .int .i64 e.val, .int .i64 e.dev, .int .i64 e.num] from by
            have hkeep : ∀ p : Addr, p.block < B0 → w9.cell? p = W5.cell? p := fun p hp => by
              have h1 := HB5.out.size
              refine (World.cell?_of_block (hgr9.block _ (by omega) (fun e2 => ?_))).trans (HQ8.out.bel.cell (by omega))
              have := (HOwn8.out.lt _ e2.symm).1
              omega
            exact (WoRel.nil w9 B0).add (HN.out.keep fun p _ hp => (hkeep p hp).trans ((HBel.out.trans (HB5.out.mono (by omega))).cell (by omega))))
          have HO9 := Lib.hid ((HR9.out.out hown9').lower (L' := w.heap.size) (by have h1 := HBel.out.size; have h2 := HB5.out.size; exact Nat.le_trans h1 h2))
          have hcap : 1 ≤ c9 := by
            obtain ⟨_, hh | ⟨g, cap, cur, hv, hg, hb9, hle, _⟩⟩ := hown9'
            · simp at hh
            · injection hv with _ _ h3
              simp at hle
              omega
          have HA9 : ∃ g, A9 = some ⟨g, 0, none⟩ := by
            obtain ⟨_, hh | ⟨g, cap, cur, hv, hg, hb9, hle, _⟩⟩ := hown9'
            · simp at hh
            · injection hv with h1 _ _
              exact ⟨g, h1⟩
          have HB9 := Lib.hid (show Below w.heap.size w w9 from (HBel.out.trans (HB5.out.mono (by omega))).trans ((HQ8.out.bel.mono (by omega)).grown hgr9 (by omega) (fun g hg => by have := (HOwn8.out.lt g hg).1; omega)))
          clear hown9 hown9' hgr9
          go_wp2_with fail
          go_ret
          exact ⟨A9, c9, rfl, hcap, HA9, HO9.out, HB9.out⟩
      · rcases Nat.lt_or_ge k c with hck | hck
        · go_upto_region 2 with fail
          have hlt2 : ¬ ((k : Int) < (es.length : Int)) := by omega
          have hlt3 : ¬ (k < es.length) := by omega
          refine wp_region_kept (by kernel_rfl) (by kernel_rfl) ?_
          repeat (go_big_quiet_step (fail))
          refine wpQuiet_nil ?_
          rintro W5 ⟨⟨_, hb5⟩, rfl⟩
          have HB5 := Lib.hid (HBr.out.trans (hb5.mono hzr))
          clear q0 q1 q2 q3 hb5 hlt2 hlt3 hlt
          obtain ⟨vs, hrel, hone, hsrc⟩ := rel_of_ens (w := W5) (B0 := B0) (A := some ⟨b, o, none⟩) (es := es) (HA.out.keep fun p _ hp => (HBel.out.trans (HB5.out.mono (by omega))).cell (by omega))
          have hvl := hrel.vl
          obtain ⟨i1, hi1, hy0, hy1, hy2⟩ := info_parts Tryz.infoEn
          have HS1 := Lib.hid (fun (X : World) (hX : Below W5.heap.size W5 X) => show SrcAt X (some ⟨b, o, none⟩) k (vs.take (k * 4)) from ⟨fun h => (by cases h), fun a ha j u hj => by
            cases ha
            have hj2 : vs[j]? = some u := by
              rw [List.getElem?_take] at hj
              split at hj
              · exact hj
              · cases hj
            have hne : 0 < es.length := by have := (List.getElem?_eq_some_iff.1 hj2).1; omega
            obtain ⟨b1, o1, he1, hb1, hs1⟩ := hsrc hne
            cases he1
            rw [Addr.add_lit]
            exact (hX.cell (by have := HB5.out.size; exact Nat.lt_of_lt_of_le hb1 (by omega))).trans (hs1 j u hj2)⟩)
          have hk4 : (vs.take (k * 4)).length = k * 4 := by simp; omega
          have hone1 : ∀ u ∈ vs.take (k * 4), u.oneCell' = true := fun u hu => hone u (List.mem_of_mem_take hu)
          have hkc : k ≤ c := by omega
          have hkci : (k : Int) ≤ (c : Int) := by omega
          have t0 := (HX.out.below HB5.out hzW).four
          obtain ⟨t0, t1, t2, t3⟩ := t0
          have HQ5 := Lib.hid (show Q4 W5 w.heap.size [.slice An e.name.length cn, .int .i64 e.val, .int .i64 e.dev, .int .i64 e.num] W5 from ⟨HX.out.below HB5.out hzW, Below.refl _ _, by have := HB5.out.size; omega⟩)
          have hz5 : w.heap.size < W5.heap.size := by have := HB5.out.size; omega
          have hm1 : 0 + k ≤ maxLen := by unfold maxLen; omega
          have hm2 : (0 + k) * 48 ≤ 140737488355328 := by omega
          have hm3 : k + 1 ≤ maxLen := by unfold maxLen; omega
          have hm4 : (k + 1) * 48 ≤ 140737488355328 := by omega
          go_upto_region 4 with fail
          go_region_law
            (first
              | (refine step_append_anyE (by rfl) _ _ _ (by rfl) W5.heap.size 34 i1 _ 4 48 Tryz.underlying24 hi1 hy0 hy1 hy2 rfl (by decide) (.slice (some ⟨_, 0, none⟩) 0 0) 0 [] (by rfl) (owns_noneE ?_ ?_) (some ⟨b, o, none⟩) k c (vs.take (k * 4)) (by rfl) hk4 (HS1.out _ ?_) hone1 hm1 hm2 ?_ ?_
                 · first | exact Nat.le_refl _ | (simp; done) | (simp; omega)
                 · first | exact heap_alloc_new _ _ | exact heap_oldE (heap_alloc_new _ _) | (refine heap_newF _ ?_; simp; done) | (refine heap_oldE ?_; refine heap_newF _ ?_; simp; done) | (refine heap_drewF (heap_newF _ ?_); simp; done) | (refine heap_drewF (heap_oldE (heap_newF _ ?_)); rfl) | (refine heap_drewF (heap_oldE (heap_newF _ ?_)); simp; done)
                 · exact Q4.bel (bt := w.heap.size) (vs := [.slice An e.name.length cn, .int .i64 e.val, .int .i64 e.dev, .int .i64 e.num]) (by repeat first | with_reducible exact HQ5.out | with_reducible apply Q4.drew | with_reducible apply Q4.alloc)
                 · first | omega | (simp; done) | (simp; omega)
                 intro A7 c7 w7 hown7 hgr7
                 rw [Nat.zero_add, List.nil_append] at hown7
                 have HOwn7 := Lib.hid hown7
                 have Q7 : Q4 W5 w.heap.size [.slice An e.name.length cn, .int .i64 e.val, .int .i64 e.dev, .int .i64 e.num] w7 := Q4.grown (by repeat first | with_reducible exact HQ5.out | with_reducible apply Q4.drew | with_reducible apply Q4.alloc) hgr7 (fun g hg => by simp [Value.ownBlock] at hg; omega)
                 have HQ7 := Lib.hid Q7
                 obtain ⟨t0_7, t1_7, t2_7, t3_7⟩ := Q7.c.four
                 have HG7 := Lib.hid hgr7
                 have hz7 := Q7.bel.size
                 clear hgr7 hown7 Q7)
              | (refine step_append_row _ (by rfl) _ _ _ (by rfl) W5.heap.size 0 34 i1 _ 4 48 Tryz.underlying24 hi1 hy0 hy1 hy2 rfl (by decide) (.slice A7 k c7) k (vs.take (k * 4)) (by rfl) ?_ (.slice (some ⟨_, 0, none⟩) 1 1) 1 [.slice An e.name.length cn, .int .i64 e.val, .int .i64 e.dev, .int .i64 e.num] (by rfl) (own_one4f (Nat.zero_le _) ?_) ?_ hm3 hm4 ?_ ?_
                 try any_goals (first | with_reducible exact HOwn7.out.alloc _ | with_reducible exact HOwn7.out | with_reducible exact (HOwn7.out.alloc _).drew | with_reducible exact HOwn7.out.drew.alloc _ | with_reducible exact (HOwn7.out.alloc _).drew.alloc _)
                 try any_goals (first | exact heap_alloc_new _ _ | exact c1_after HG7.out | exact c1_before HG7.out | exact c1_after' HG7.out | exact c1_before' HG7.out)
                 try any_goals exact one4c _ _ _ _ _ _
                 try any_goals (first | exact hz7 | exact le_alloc _ hz7 | exact le_alloc _ (le_alloc _ hz7))
                 intro A8 c8 w8 hown8 hgr8
                 have HOwn8 := Lib.hid hown8
                 have HQ8 := Lib.hid (show Q4 W5 w.heap.size [.slice An e.name.length cn, .int .i64 e.val, .int .i64 e.dev, .int .i64 e.num] w8 from Q4.grown (by repeat first | with_reducible exact HQ7.out | with_reducible apply Q4.drew | with_reducible apply Q4.alloc) hgr8 (fun g hg => (HOwn7.out.lt g hg).1))
                 clear hgr8 hown8))
          all_goals
            have hkn2 : (k : Int) ≤ (es.length : Int) := by omega
            have hvd : (vs.drop (k * 4)).length = (es.length - k) * 4 := by simp; omega
            have hone2 : ∀ u ∈ vs.drop (k * 4), u.oneCell' = true := fun u hu => hone u (List.mem_of_mem_drop hu)
            have HS2 := Lib.hid (show SrcAt w8 (some ⟨b, o + k * 4, none⟩) (es.length - k) (vs.drop (k * 4)) from by
              have h0 : vs.drop (k * 4) = [] := List.drop_eq_nil_of_le (by have := HD.out.2; omega)
              rw [h0]
              exact ⟨fun h => (by cases h), fun a ha j u hj => (by simp at hj)⟩)
            have hm5 : k + 1 + (es.length - k) ≤ maxLen := by unfold maxLen; omega
            have hm6 : (k + 1 + (es.length - k)) * 48 ≤ 140737488355328 := by omega
            have hz8 := HQ8.out.bel.size
            clear t0 t1 t2 t3 t0_7 t1_7 t2_7 t3_7
            go_upto_region 5 with fail
            go_wp2_with (at_builtin; refine wpList_append_any _ rfl _ _ 24 rfl W5.heap.size 34 i1 (.agg #[.slice none 0 0, .int .i64 0, .int .i64 0, .int .i64 0]) 4 48 Tryz.underlying24 hi1 hy0 hy1 hy2 rfl (by decide) (.slice A8 (k + 1) c8) (k + 1) _ rfl HOwn8.out (some ⟨b, o + k * 4, none⟩) (es.length - k) (c - k) (vs.drop (k * 4)) rfl hvd HS2.out hone2 hm5 hm6 hz8 ?_)
            intro A9 c9 w9 hown9 hgr9
            have hlen : k + 1 + (es.length - k) = (insE es e).length := by rw [HSp.out]; simp; omega
            have HR9 := Lib.hid (show WoRel w9 B0 (insE es e) (vs.take (k * 4) ++ [.slice An e.name.length cn, .int .i64 e.val, .int .i64 e.dev, .int .i64 e.num] ++ vs.drop (k * 4)) from by
              have hkeep : ∀ p : Addr, p.block < B0 → w9.cell? p = W5.cell? p := fun p hp => by
                have h1 := HB5.out.size
                refine (World.cell?_of_block (hgr9.block _ (by omega) (fun e2 => ?_))).trans (HQ8.out.bel.cell (by omega))
                have := (HOwn8.out.lt _ e2.symm).1
                omega
              have h5 := hrel.keep hkeep
              rw [HSp.out, show List.take k es ++ e :: List.drop k es = (List.take k es ++ [e]) ++ List.drop k es by simp]
              exact ((h5.take hk).add (HN.out.keep fun p _ hp => (hkeep p hp).trans ((HBel.out.trans (HB5.out.mono (by omega))).cell (by omega)))).app (h5.drop hk))
            rw [show vs.take (k * 4) ++ Value.slice An e.name.length cn :: .int .i64 e.val :: .int .i64 e.dev :: .int .i64 e.num :: vs.drop (k * 4) = vs.take (k * 4) ++ [.slice An e.name.length cn, .int .i64 e.val, .int .i64 e.dev, .int .i64 e.num] ++ vs.drop (k * 4) by simp] at hown9
            rw [hlen] at hown9 ⊢
            have HO9 := Lib.hid ((HR9.out.out hown9).lower (L' := w.heap.size) (by have h1 := HBel.out.size; have h2 := HB5.out.size; exact Nat.le_trans h1 h2))
            have hcap : (insE es e).length ≤ c9 := by
              obtain ⟨_, hh | ⟨g, cap, cur, hv, hg, hb9, hle, _⟩⟩ := hown9
              · omega
              · injection hv with _ _ h3
                omega
            have HA9 : ∃ g, A9 = some ⟨g, 0, none⟩ := by
              obtain ⟨_, hh | ⟨g, cap, cur, hv, hg, hb9, hle, _⟩⟩ := hown9
              · have := hlen
                omega
              · injection hv with h1 _ _
                exact ⟨g, h1⟩
            have HB9 := Lib.hid (show Below w.heap.size w w9 from (HBel.out.trans (HB5.out.mono (by omega))).trans ((HQ8.out.bel.mono (by omega)).grown hgr9 (by omega) (fun g hg => by have := (HOwn8.out.lt g hg).1; omega)))
            clear hown9 hgr9
            go_wp2_with fail
            go_ret
            exact ⟨A9, c9, rfl, hcap, HA9, HO9.out, HB9.out⟩
        · obtain rfl : c = k := by omega
          go_upto_region 2 with fail
          have hlt2 : ¬ ((c : Int) < (es.length : Int)) := by omega
          have hlt3 : ¬ (c < es.length) := by omega
          refine wp_region_kept (by kernel_rfl) (by kernel_rfl) ?_
          repeat (go_big_quiet_step (fail))
          refine wpQuiet_nil ?_
          rintro W5 ⟨⟨_, hb5⟩, rfl⟩
          have HB5 := Lib.hid (HBr.out.trans (hb5.mono hzr))
          clear q0 q1 q2 q3 hb5 hlt2 hlt3 hlt hck
          obtain ⟨vs, hrel, hone, hsrc⟩ := rel_of_ens (w := W5) (B0 := B0) (A := some ⟨b, o, none⟩) (es := es) (HA.out.keep fun p _ hp => (HBel.out.trans (HB5.out.mono (by omega))).cell (by omega))
          have hvl := hrel.vl
          obtain ⟨i1, hi1, hy0, hy1, hy2⟩ := info_parts Tryz.infoEn
          have HS1 := Lib.hid (fun (X : World) (hX : Below W5.heap.size W5 X) => show SrcAt X (some ⟨b, o, none⟩) c (vs.take (c * 4)) from ⟨fun h => (by cases h), fun a ha j u hj => by
            cases ha
            have hj2 : vs[j]? = some u := by
              rw [List.getElem?_take] at hj
              split at hj
              · exact hj
              · cases hj
            have hne : 0 < es.length := by have := (List.getElem?_eq_some_iff.1 hj2).1; omega
            obtain ⟨b1, o1, he1, hb1, hs1⟩ := hsrc hne
            cases he1
            rw [Addr.add_lit]
            exact (hX.cell (by have := HB5.out.size; exact Nat.lt_of_lt_of_le hb1 (by omega))).trans (hs1 j u hj2)⟩)
          have hk4 : (vs.take (c * 4)).length = c * 4 := by simp; omega
          have hone1 : ∀ u ∈ vs.take (c * 4), u.oneCell' = true := fun u hu => hone u (List.mem_of_mem_take hu)
          have hkc : c ≤ c := by omega
          have hkci : (c : Int) ≤ (c : Int) := by omega
          have t0 := (HX.out.below HB5.out hzW).four
          obtain ⟨t0, t1, t2, t3⟩ := t0
          have HQ5 := Lib.hid (show Q4 W5 w.heap.size [.slice An e.name.length cn, .int .i64 e.val, .int .i64 e.dev, .int .i64 e.num] W5 from ⟨HX.out.below HB5.out hzW, Below.refl _ _, by have := HB5.out.size; omega⟩)
          have hz5 : w.heap.size < W5.heap.size := by have := HB5.out.size; omega
          have hm1 : 0 + c ≤ maxLen := by unfold maxLen; omega
          have hm2 : (0 + c) * 48 ≤ 140737488355328 := by omega
          have hm3 : c + 1 ≤ maxLen := by unfold maxLen; omega
          have hm4 : (c + 1) * 48 ≤ 140737488355328 := by omega
          go_upto_region 4 with fail
          go_region_law
            (first
              | (refine step_append_anyE (by rfl) _ _ _ (by rfl) W5.heap.size 34 i1 _ 4 48 Tryz.underlying24 hi1 hy0 hy1 hy2 rfl (by decide) (.slice (some ⟨_, 0, none⟩) 0 0) 0 [] (by rfl) (owns_noneE ?_ ?_) (some ⟨b, o, none⟩) c c (vs.take (c * 4)) (by rfl) hk4 (HS1.out _ ?_) hone1 hm1 hm2 ?_ ?_
                 · first | exact Nat.le_refl _ | (simp; done) | (simp; omega)
                 · first | exact heap_alloc_new _ _ | exact heap_oldE (heap_alloc_new _ _) | (refine heap_newF _ ?_; simp; done) | (refine heap_oldE ?_; refine heap_newF _ ?_; simp; done) | (refine heap_drewF (heap_newF _ ?_); simp; done) | (refine heap_drewF (heap_oldE (heap_newF _ ?_)); rfl) | (refine heap_drewF (heap_oldE (heap_newF _ ?_)); simp; done)
                 · exact Q4.bel (bt := w.heap.size) (vs := [.slice An e.name.length cn, .int .i64 e.val, .int .i64 e.dev, .int .i64 e.num]) (by repeat first | with_reducible exact HQ5.out | with_reducible apply Q4.drew | with_reducible apply Q4.alloc)
                 · first | omega | (simp; done) | (simp; omega)
                 intro A7 c7 w7 hown7 hgr7
                 rw [Nat.zero_add, List.nil_append] at hown7
                 have HOwn7 := Lib.hid hown7
                 have Q7 : Q4 W5 w.heap.size [.slice An e.name.length cn, .int .i64 e.val, .int .i64 e.dev, .int .i64 e.num] w7 := Q4.grown (by repeat first | with_reducible exact HQ5.out | with_reducible apply Q4.drew | with_reducible apply Q4.alloc) hgr7 (fun g hg => by simp [Value.ownBlock] at hg; omega)
                 have HQ7 := Lib.hid Q7
                 obtain ⟨t0_7, t1_7, t2_7, t3_7⟩ := Q7.c.four
                 have HG7 := Lib.hid hgr7
                 have hz7 := Q7.bel.size
                 clear hgr7 hown7 Q7)
              | (refine step_append_row _ (by rfl) _ _ _ (by rfl) W5.heap.size 0 34 i1 _ 4 48 Tryz.underlying24 hi1 hy0 hy1 hy2 rfl (by decide) (.slice A7 c c7) c (vs.take (c * 4)) (by rfl) ?_ (.slice (some ⟨_, 0, none⟩) 1 1) 1 [.slice An e.name.length cn, .int .i64 e.val, .int .i64 e.dev, .int .i64 e.num] (by rfl) (own_one4f (Nat.zero_le _) ?_) ?_ hm3 hm4 ?_ ?_
                 try any_goals (first | with_reducible exact HOwn7.out.alloc _ | with_reducible exact HOwn7.out | with_reducible exact (HOwn7.out.alloc _).drew | with_reducible exact HOwn7.out.drew.alloc _ | with_reducible exact (HOwn7.out.alloc _).drew.alloc _)
                 try any_goals (first | exact heap_alloc_new _ _ | exact c1_after HG7.out | exact c1_before HG7.out | exact c1_after' HG7.out | exact c1_before' HG7.out)
                 try any_goals exact one4c _ _ _ _ _ _
                 try any_goals (first | exact hz7 | exact le_alloc _ hz7 | exact le_alloc _ (le_alloc _ hz7))
                 intro A8 c8 w8 hown8 hgr8
                 have HOwn8 := Lib.hid hown8
                 have HQ8 := Lib.hid (show Q4 W5 w.heap.size [.slice An e.name.length cn, .int .i64 e.val, .int .i64 e.dev, .int .i64 e.num] w8 from Q4.grown (by repeat first | with_reducible exact HQ7.out | with_reducible apply Q4.drew | with_reducible apply Q4.alloc) hgr8 (fun g hg => (HOwn7.out.lt g hg).1))
                 clear hgr8 hown8))
          all_goals
            have hkn2 : (c : Int) ≤ (es.length : Int) := by omega
            have hone2 : ∀ u ∈ vs.drop (c * 4), u.oneCell' = true := fun u hu => hone u (List.mem_of_mem_drop hu)
            have h0 : vs.drop (c * 4) = [] := List.drop_eq_nil_of_le (by have := HD.out.2; omega)
            have HS2 := Lib.hid (show SrcAt w8 (some ⟨b, o, none⟩) 0 ([] : List Value) from ⟨fun h => (by cases h), fun a ha j u hj => (by simp at hj)⟩)
            have hm5 : c + 1 + 0 ≤ maxLen := by unfold maxLen; omega
            have hm6 : (c + 1 + 0) * 48 ≤ 140737488355328 := by omega
            have hz8 := HQ8.out.bel.size
            clear t0 t1 t2 t3 t0_7 t1_7 t2_7 t3_7
            go_upto_region 5 with fail
            go_wp2_with (at_builtin; refine wpList_append_any _ rfl _ _ 24 rfl W5.heap.size 34 i1 (.agg #[.slice none 0 0, .int .i64 0, .int .i64 0, .int .i64 0]) 4 48 Tryz.underlying24 hi1 hy0 hy1 hy2 rfl (by decide) (.slice A8 (c + 1) c8) (c + 1) _ rfl HOwn8.out (some ⟨b, o, none⟩) 0 0 [] rfl rfl HS2.out (by simp) hm5 hm6 hz8 ?_)
            intro A9 c9 w9 hown9 hgr9
            have hlen : c + 1 = (insE es e).length := by rw [HSp.out]; simp; have := HD.out.2; omega
            have hown9 : w9.ownsRow W5.heap.size 34 4 (.slice A9 (c + 1) c9) (c + 1) (vs.take (c * 4) ++ [.slice An e.name.length cn, .int .i64 e.val, .int .i64 e.dev, .int .i64 e.num] ++ vs.drop (c * 4)) := by simpa [h0] using hown9
            have HR9 := Lib.hid (show WoRel w9 B0 (insE es e) (vs.take (c * 4) ++ [.slice An e.name.length cn, .int .i64 e.val, .int .i64 e.dev, .int .i64 e.num] ++ vs.drop (c * 4)) from by
              have hkeep : ∀ p : Addr, p.block < B0 → w9.cell? p = W5.cell? p := fun p hp => by
                have h1 := HB5.out.size
                refine (World.cell?_of_block (hgr9.block _ (by omega) (fun e2 => ?_))).trans (HQ8.out.bel.cell (by omega))
                have := (HOwn8.out.lt _ e2.symm).1
                omega
              have h5 := hrel.keep hkeep
              rw [HSp.out, show List.take c es ++ e :: List.drop c es = (List.take c es ++ [e]) ++ List.drop c es by simp]
              exact ((h5.take hk).add (HN.out.keep fun p _ hp => (hkeep p hp).trans ((HBel.out.trans (HB5.out.mono (by omega))).cell (by omega)))).app (h5.drop hk))
            rw [hlen] at hown9 ⊢
            have HO9 := Lib.hid ((HR9.out.out hown9).lower (L' := w.heap.size) (by have h1 := HBel.out.size; have h2 := HB5.out.size; exact Nat.le_trans h1 h2))
            have hcap : (insE es e).length ≤ c9 := by
              obtain ⟨_, hh | ⟨g, cap, cur, hv, hg, hb9, hle, _⟩⟩ := hown9
              · omega
              · injection hv with _ _ h3
                omega
            have HA9 : ∃ g, A9 = some ⟨g, 0, none⟩ := by
              obtain ⟨_, hh | ⟨g, cap, cur, hv, hg, hb9, hle, _⟩⟩ := hown9
              · have := hlen
                omega
              · injection hv with h1 _ _
                exact ⟨g, h1⟩
            have HB9 := Lib.hid (show Below w.heap.size w w9 from (HBel.out.trans (HB5.out.mono (by omega))).trans ((HQ8.out.bel.mono (by omega)).grown hgr9 (by omega) (fun g hg => by have := (HOwn8.out.lt g hg).1; omega)))
            clear hown9 hgr9
            go_wp2_with fail
            go_ret
            exact ⟨A9, c9, rfl, hcap, HA9, HO9.out, HB9.out⟩

end Go.Proofs.YtepkicgnhjaokaaGreatDoor

namespace Go.Proofs.YtepkicgnhjaokaaGreatDoor
open Go.RowKit Go.Maps

theorem treeB_four {vec : List Int} {es : List En} (h : treeB vec es = true) : ∃ a b c d, vec = [a, b, c, d] := by
  unfold treeB at h
  simp only [Bool.and_eq_true] at h
  exact vecB_four h.1.1.1
theorem ins_len (l : List En) (e : En) : (insE l e).length = l.length + 1 := by rw [(ins_perm l e).length_eq]; simp
theorem ins_bulk : ∀ (l : List En) (e : En), ebulk (insE l e) = e.name.length + ebulk l
  | [], e => rfl
  | x :: l, e => by
    unfold insE
    split
    · have := ins_bulk l e
      simp only [ebulk]
      omega
    · rfl
theorem name_24 {l : List UInt8} (h : nameB l = true) : l.length ≤ 24 := by
  unfold nameB at h
  split at h
  · cases h
  · simp only [Bool.and_eq_true, decide_eq_true_eq] at h
    exact h.2
theorem bulk_24 : ∀ {es : List En}, (∀ e ∈ es, nameB e.name = true) → ebulk es ≤ 24 * es.length
  | [], _ => Nat.le_refl _
  | e :: es, h => by
    have h1 := name_24 (h e (by simp))
    have h2 := bulk_24 (es := es) (fun x hx => h x (by simp [hx]))
    simp only [ebulk, List.length_cons]
    omega
theorem tree_names {vec : List Int} {es : List En} (h : treeB vec es = true) : ∀ e ∈ es, nameB e.name = true := by
  unfold treeB at h
  simp only [Bool.and_eq_true, List.all_eq_true] at h
  exact fun e he => h.1.2 e he
theorem puE_len {vec : List Int} {es : List En} {b : Int} {l : List UInt8} {val : Int} : (puE vec es b l val).length = (notName l es).length + 1 := ins_len _ _
theorem puE_names {vec : List Int} {es : List En} {b : Int} {l : List UInt8} {val : Int} (h : treeB vec es = true) (hl : nameB l = true) : ∀ e ∈ puE vec es b l val, nameB e.name = true := by
  intro e he
  rcases List.mem_cons.1 ((ins_perm _ _).mem_iff.1 he) with rfl | he
  · exact hl
  · exact tree_names h e (List.mem_filter.1 he).1
theorem puE_bulk {vec : List Int} {es : List En} {b : Int} {l : List UInt8} {val : Int} (h : treeB vec es = true) (hl : nameB l = true) : ebulk (puE vec es b l val) ≤ 1048576 := by
  have h1 := bulk_24 (puE_names (b := b) (val := val) h hl)
  have h2 := treeB_len3 h
  have h3 := notName_le l es
  rw [puE_len] at h1
  omega
theorem tok_fit {a b c d : Int} {es : List En} (h : tokB a b c d es = true) : ∀ e ∈ es, fitB a b c d e = true := by
  intro e he
  obtain ⟨i, hi, rfl⟩ := List.getElem_of_mem he
  unfold tokB at h
  simp only [Bool.and_eq_true, List.all_eq_true, List.mem_range] at h
  have h1 := h.2 i hi
  unfold goodB at h1
  simp only [Bool.and_eq_true] at h1
  have h2 := h1.1.1
  rwa [List.getD_eq_getElem?_getD, List.getElem?_eq_getElem hi] at h2
theorem tok_vec {a b c d : Int} {es : List En} (h : tokB a b c d es = true) : vecB [a, b, c, d] = true ∧ es.length ≤ 12 := by
  unfold tokB at h
  simp only [Bool.and_eq_true, decide_eq_true_eq] at h
  exact h.1
theorem pu_model {vec : List Int} {es : List En} {b : Int} {l : List UInt8} {val : Int} (ht : treeB vec es = true) (hb : devB b = true) (hl : nameB l = true) :
    puOk vec es b l val = (decide (0 ≤ val) && decide (val ≤ 999) && decide (vec.getD b.toNat 0 < 1000) && treeB (puV vec b) (puE vec es b l val)) := by
  obtain ⟨v0, v1, v2, v3, rfl⟩ := treeB_four ht
  unfold devB at hb
  simp only [Bool.and_eq_true, decide_eq_true_eq] at hb
  have hp4 : ∃ a b' c d, puV [v0, v1, v2, v3] b = [a, b', c, d] := by
    have h4 : (puV [v0, v1, v2, v3] b).length = 4 := by simp [puV]
    match hq : puV [v0, v1, v2, v3] b, h4 with
    | [a, b', c, d], _ => exact ⟨a, b', c, d, rfl⟩
  obtain ⟨p0, p1, p2, p3, hp⟩ := hp4
  have hpu : puOk [v0, v1, v2, v3] es b l val = tokB p0 p1 p2 p3 (puE [v0, v1, v2, v3] es b l val) := by
    unfold puOk
    rw [ht, hl, hp]
    simp [devB, hb.1, hb.2]
  have hall : (puE [v0, v1, v2, v3] es b l val).all (fun e => nameB e.name) = true := by
    rw [List.all_eq_true]
    exact puE_names ht hl
  rw [hpu]
  cases ht2 : tokB p0 p1 p2 p3 (puE [v0, v1, v2, v3] es b l val) with
  | false =>
    have : treeB (puV [v0, v1, v2, v3] b) (puE [v0, v1, v2, v3] es b l val) = false := by
      unfold treeB
      rw [hp]
      simp [ht2]
    rw [this]
    simp
  | true =>
    obtain ⟨hv, h12⟩ := tok_vec ht2
    have hn : newE [v0, v1, v2, v3] b l val ∈ puE [v0, v1, v2, v3] es b l val := (ins_perm _ _).mem_iff.2 (by simp)
    have hf := tok_fit ht2 _ hn
    unfold fitB newE at hf
    simp only [Bool.and_eq_true, decide_eq_true_eq] at hf
    have hx : ([v0, v1, v2, v3].getD b.toNat 0) + 1 ∈ puV [v0, v1, v2, v3] b := by
      unfold puV
      exact List.mem_iff_getElem.2 ⟨b.toNat, by simp; omega, by simp⟩
    rw [hp] at hx
    have hle : ([v0, v1, v2, v3].getD b.toNat 0) + 1 ≤ 1000 := by
      unfold vecB at hv
      simp only [Bool.and_eq_true, List.all_eq_true, decide_eq_true_eq] at hv
      exact (hv.2 _ hx).2
    have htr : treeB (puV [v0, v1, v2, v3] b) (puE [v0, v1, v2, v3] es b l val) = true := by
      unfold treeB
      rw [hp, hv, hall]
      simp [ht2, h12]
    rw [htr]
    have h1 : decide ([v0, v1, v2, v3].getD b.toNat 0 < 1000) = true := by rw [decide_eq_true_eq]; omega
    rw [h1]
    simp [hf.1.1.1.1, hf.1.1.1.2]

/-- What is asked first, one after the other. -/
theorem pur_no {vec : List Int} {es : List En} {b : Int} {l : List UInt8} {val : Int} (h : puOk vec es b l val = false) : puVec vec es b l val = [] ∧ puEs vec es b l val = [] := by
  unfold puVec puEs
  rw [h]
  simp
theorem pur_yes {vec : List Int} {es : List En} {b : Int} {l : List UInt8} {val : Int} (h : puOk vec es b l val = true) : puVec vec es b l val = puV vec b ∧ puEs vec es b l val = puE vec es b l val := by
  unfold puVec puEs
  rw [h]
  simp
theorem pur_f1 {vec : List Int} {es : List En} {b : Int} {l : List UInt8} {val : Int} (h : treeB vec es = false) : puOk vec es b l val = false := by simp [puOk, h]
theorem pur_f2 {vec : List Int} {es : List En} {b : Int} {l : List UInt8} {val : Int} (h : devB b = false) : puOk vec es b l val = false := by simp [puOk, h]
theorem pur_f3 {vec : List Int} {es : List En} {b : Int} {l : List UInt8} {val : Int} (h : nameB l = false) : puOk vec es b l val = false := by simp [puOk, h]
theorem puVec_len {vec : List Int} {es : List En} {b : Int} {l : List UInt8} {val : Int} (h : vec.length ≤ 1048576) : (puVec vec es b l val).length ≤ 1048576 := by
  unfold puVec
  split
  · simpa [puV] using h
  · simp
theorem puEs_len {vec : List Int} {es : List En} {b : Int} {l : List UInt8} {val : Int} (_h : es.length ≤ 1048576) : (puEs vec es b l val).length ≤ 1048576 := by
  unfold puEs
  split
  · rename_i h2
    unfold puOk at h2
    simp only [Bool.and_eq_true] at h2
    have := treeB_len3 h2.1.1.1
    have := notName_le l es
    rw [puE_len]
    omega
  · simp
theorem puEs_bulk {vec : List Int} {es : List En} {b : Int} {l : List UInt8} {val : Int} (_h : ebulk es ≤ 1048576) : ebulk (puEs vec es b l val) ≤ 1048576 := by
  unfold puEs
  split
  · rename_i h2
    unfold puOk at h2
    simp only [Bool.and_eq_true] at h2
    exact puE_bulk h2.1.1.1 h2.1.2
  · simp [ebulk]

end Go.Proofs.YtepkicgnhjaokaaGreatDoor

namespace Go.Proofs.YtepkicgnhjaokaaGreatDoor
open Go.RowKit Go.Maps

/-- All of W4 is as it was. -/
def S4 (W X : World) : Prop := Below W.heap.size W X
theorem S4.refl (W : World) : S4 W W := Below.refl _ _
theorem S4.drew {W X : World} (h : S4 W X) : S4 W X.drew := Below.drew h
theorem S4.alloc {W X : World} (h : S4 W X) (o : Obj) : S4 W (X.alloc o) := Below.alloc h (Below.size h) o
theorem S4.below {W X Y : World} (h : S4 W X) (hb : Below X.heap.size X Y) : S4 W Y := Below.trans h (hb.mono (Below.size h))
theorem S4.grown {W X Y : World} (h : S4 W X) {row : Option Nat} (hg : X.grownBy Y row) (hr : ∀ k, row = some k → W.heap.size ≤ k) : S4 W Y := Below.grown h hg (Below.size h) hr
/-- A name, anywhere. -/
def N6 (A : Option Addr) (l : List UInt8) (X : World) : Prop := BytesIn X 0 X.heap.size A l
theorem N6.drew {A : Option Addr} {l : List UInt8} {X : World} (h : N6 A l X) : N6 A l X.drew := h
theorem N6.below {A : Option Addr} {l : List UInt8} {X Y : World} (h : N6 A l X) (hb : Below X.heap.size X Y) : N6 A l Y := (BytesIn.keep h fun _ _ hp => hb.cell hp).mono hb.size
/-- Entries in blocks L .. s, their names below B. -/
def E6 (B L s : Nat) (A : Option Addr) (F : List En) (X : World) : Prop :=
  B ≤ L ∧ L ≤ s ∧ s ≤ X.heap.size ∧ (0 < F.length → ∃ R, A = some ⟨R, 0, none⟩ ∧ L ≤ R ∧ R < s ∧ ∀ i (hi : i < F.length), EnIn X 0 B R (i * 4) F[i])
section
variable {B L s : Nat} {A : Option Addr} {F : List En} {X Y : World}
theorem E6.keep (h : E6 B L s A F X) (hs : X.heap.size ≤ Y.heap.size) (hk : ∀ p : Addr, p.block < B ∨ (L ≤ p.block ∧ p.block < s) → Y.cell? p = X.cell? p) : E6 B L s A F Y := by
  obtain ⟨h1, h2, h3, h4⟩ := h
  refine ⟨h1, h2, by omega, fun hl => ?_⟩
  obtain ⟨R, e, hL, hR, hc⟩ := h4 hl
  refine ⟨R, e, hL, hR, fun i hi => ?_⟩
  obtain ⟨A', c', k0, k1, k2, k3, k4⟩ := hc i hi
  exact ⟨A', c', (hk _ (.inr ⟨hL, hR⟩)).trans k0, (hk _ (.inr ⟨hL, hR⟩)).trans k1, (hk _ (.inr ⟨hL, hR⟩)).trans k2, (hk _ (.inr ⟨hL, hR⟩)).trans k3, k4.keep fun p _ hp => hk p (.inl hp)⟩
theorem E6.drew (h : E6 B L s A F X) : E6 B L s A F X.drew := h
theorem E6.alloc (h : E6 B L s A F X) (o : Obj) : E6 B L s A F (X.alloc o) := h.keep (by simp) fun p hp => World.cell?_alloc_lt X o p (by obtain ⟨h1, h2, h3, _⟩ := h; omega)
theorem E6.below (h : E6 B L s A F X) (hb : Below X.heap.size X Y) : E6 B L s A F Y := h.keep hb.size fun p hp => hb.cell (by obtain ⟨h1, h2, h3, _⟩ := h; omega)
theorem E6.grown (h : E6 B L s A F X) {row : Option Nat} (hg : X.grownBy Y row) (hr : ∀ k, row = some k → B ≤ k ∧ (k < L ∨ s ≤ k)) : E6 B L s A F Y :=
  h.keep hg.size fun p hp => World.cell?_of_block (hg.block _ (by obtain ⟨h1, h2, h3, _⟩ := h; omega) (fun e => by have := hr _ e.symm; omega))
theorem E6.ens (h : E6 B L s A F X) : EnsIn X 0 X.heap.size A F := fun hl => by
  obtain ⟨h1, h2, h3, h4⟩ := h
  obtain ⟨R, e, hL, hR, hc⟩ := h4 hl
  exact ⟨R, 0, e, Nat.zero_le _, by omega, fun i hi => by rw [Nat.zero_add]; exact (hc i hi).mono (by omega)⟩
end
theorem WoOut.e6 {w : World} {L B B' : Nat} {A : Option Addr} {F : List En} (h : WoOut w L B A F) (hB : B ≤ B') (hL : B' ≤ L) (hs : L ≤ w.heap.size) : E6 B' L w.heap.size A F w :=
  ⟨hL, hs, Nat.le_refl _, fun hl => by
    obtain ⟨R, e, h1, h2, hc⟩ := h hl
    exact ⟨R, e, h1, h2, fun i hi => (hc i hi).2.mono hB⟩⟩

/-- A slice in a cell is no byte. -/
theorem bytes_set1 {w : World} {L B : Nat} {A : Option Addr} {l : List UInt8} (h : BytesIn w L B A l) {p : Addr} {A' : Option Addr} {n c : Nat} (hp : w.cell? p = some (.slice A' n c)) (v : Value) : BytesIn (w.setCell p v) L B A l := fun hl => by
  obtain ⟨b, o, e, h1, h2, hc⟩ := h hl
  refine ⟨b, o, e, h1, h2, fun j hj => ?_⟩
  rw [World.cell?_setCell_other _ _ _ _ (fun e2 => ?_)]
  · exact hc j hj
  · have h3 := hc j hj
    rw [← e2, hp] at h3
    simp at h3
theorem ens_set1 {w : World} {L B : Nat} {A : Option Addr} {es : List En} (h : EnsIn w L B A es) {p : Addr} {A' : Option Addr} {n c : Nat} (hp : w.cell? p = some (.slice A' n c)) (hne : ∀ b o, A = some ⟨b, o, none⟩ → b ≠ p.block) (v : Value) : EnsIn (w.setCell p v) L B A es := fun hl => by
  obtain ⟨b, o, e, h1, h2, hc⟩ := h hl
  have hb := hne b o e
  have hk : ∀ q : Addr, q.block = b → (w.setCell p v).cell? q = w.cell? q := fun q hq => World.cell?_setCell_other _ _ _ _ (fun e2 => hb (by rw [e2]; exact hq.symm))
  refine ⟨b, o, e, h1, h2, fun i hi => ?_⟩
  obtain ⟨A2, c2, k0, k1, k2, k3, k4⟩ := hc i hi
  exact ⟨A2, c2, (hk _ rfl).trans k0, (hk _ rfl).trans k1, (hk _ rfl).trans k2, (hk _ rfl).trans k3, bytes_set1 k4 hp v⟩
theorem ints_set {w : World} {L B b o m : Nat} {vec : List Int} (h : ∀ j (hj : j < vec.length), w.cell? ⟨b, o + j, none⟩ = some (.int .i64 vec[j])) (hL : L ≤ b) (hB : b < B) (hm : m < vec.length) (y : Int) :
    IntsIn (w.setCell ⟨b, o + m, none⟩ (.int .i64 y)) L B (some ⟨b, o, none⟩) (vec.set m y) := fun _ => by
  refine ⟨b, o, rfl, hL, hB, fun j hj => ?_⟩
  have hj' : j < vec.length := by simpa using hj
  by_cases e : j = m
  · subst e
    rw [World.cell?_setCell_same _ _ _ (h j hj')]
    simp
  · rw [World.cell?_setCell_other _ _ _ _ (fun e2 => e (by injection e2; omega)), h j hj']
    simp [Ne.symm e]

set_option maxRecDepth 100000 in
set_option maxHeartbeats 4000000 in
theorem l3put_own (AV : Option Addr) (vec : List Int) (cv : Nat) (A : Option Addr) (es : List En) (cA : Nat) (Ab : Option Addr) (l : List UInt8) (cb m : Nat) (val : Int) (w : World) (hV : IntsIn w 0 w.heap.size AV vec) (hA : EnsIn w 0 w.heap.size A es) (hB : BytesIn w 0 w.heap.size Ab l) (hvl : vec.length ≤ 1048576) (hn : es.length ≤ 999) (hm : m < vec.length) (hx0 : 0 ≤ vec.getD m 0) (hx1 : vec.getD m 0 ≤ 1000000) (hll : l.length ≤ 1048576) :
    Calls Tryz.prog 78 #[.agg #[.slice AV vec.length cv, .slice A es.length cA], .int .i64 m, .slice Ab l.length cb, .int .i64 val] w
      fun r w' => ∃ AV' cv' A' c', r = .returned (.agg #[.slice AV' vec.length cv', .slice A' (puE vec es m l val).length c']) ∧ (puE vec es m l val).length ≤ c' ∧ IntsIn w' 0 w'.heap.size AV' (puV vec m) ∧ EnsIn w' 0 w'.heap.size A' (puE vec es m l val) ∧ (∃ g, A' = some ⟨g, 0, none⟩) ∧ Below w.heap.size w w' := by
  have HV := Lib.hid hV
  have HA := Lib.hid hA
  have HB := Lib.hid hB
  clear hV hA hB
  go_enter Tryz.func78, Tryz.ntmps78
  obtain ⟨W0, hW0⟩ : ∃ W0, W0 = w.alloc (.cells #[.slice AV vec.length cv, .slice A es.length cA] 26) := ⟨_, rfl⟩
  obtain ⟨W, hW⟩ : ∃ W, W = W0.alloc (.cells #[.slice none 0 0, .slice none 0 0] 26) := ⟨_, rfl⟩
  have hz0 : W0.heap.size = w.heap.size + 1 := by rw [hW0]; simp
  have hz : w.heap.size + 1 < W.heap.size := by rw [hW]; simp [hz0]
  have HY := Lib.hid (show Bx W w.heap.size [.slice AV vec.length cv, .slice A es.length cA] by rw [hW]; exact Bx.alloc (by rw [hW0]; exact Bx.new' _ _ _ _ rfl) (by omega) _)
  have HX := Lib.hid (show Bx W (w.heap.size + 1) [.slice none 0 0, .slice none 0 0] by rw [hW, ← hz0]; exact Bx.new' _ _ _ _ rfl)
  have HF := Lib.hid (show ∀ o, W.frozen? ⟨w.heap.size + 1, o, none⟩ = false from fun o => by rw [hW, hW0]; exact (((Fresh.refl w).alloc _ _).alloc _ _) ⟨w.heap.size + 1, o, none⟩ (by show w.heap.size ≤ w.heap.size + 1; omega))
  have HBel := Lib.hid (show Below w.heap.size w W by rw [hW, hW0]; exact ((Below.refl _ _).alloc (Nat.le_refl _) _).alloc (by simp) _)
  obtain ⟨W5, hW5⟩ : ∃ W5, W5 = W.alloc (.cells #[] 3) := ⟨_, rfl⟩
  have hzW : W.heap.size = w.heap.size + 1 + 1 := by rw [hW]; simp [hz0]
  have hE : W5.heap[w.heap.size + 1 + 1]? = some (.cells #[] 3 (0, 0)) := by rw [hW5, ← hzW]; exact heap_alloc_new W _
  have HE0 := Lib.hid (owns_empty (base := w.heap.size + 1 + 1) (Nat.le_refl _) hE)
  have hb5 : Below W.heap.size W W5 := by rw [hW5]; exact (Below.refl _ _).alloc (Nat.le_refl _) _
  have HSrc := Lib.hid (show IntsIn W5 0 w.heap.size AV vec from HV.out.keep fun p _ hp => (hb5.cell (by omega)).trans (HBel.out.cell hp))
  have HB5 := Lib.hid (HBel.out.trans (hb5.mono (by omega)))
  have HY5 := Lib.hid (HY.out.below hb5 (by omega))
  have HX5 := Lib.hid (HX.out.below hb5 (by omega))
  have HF5 := Lib.hid (show ∀ o, W5.frozen? ⟨w.heap.size + 1, o, none⟩ = false from fun o => (hb5.frozen (p := ⟨w.heap.size + 1, o, none⟩) hz).trans (HF.out o))
  have HS5 := Lib.hid (show W5.heap.size = w.heap.size + 1 + 1 + 1 by rw [hW5]; simp [hzW])
  obtain ⟨i0, hi, hq0, hq1, hq2⟩ := info_parts Tryz.infoInt
  clear hE hb5 hz0 hz hzW HY HX HF HBel
  rw [hW, hW0] at hW5
  clear hW hW0
  subst hW5
  go_wp2_with (at_builtin; refine wpList_append_any _ rfl _ _ 23 rfl (w.heap.size + 1 + 1) 3 i0 (.int .i64 0) 1 8 Tryz.underlying23 hi hq0 hq1 hq2 rfl (by decide) _ _ _ rfl HE0.out AV vec.length cv (vec.map vint) rfl ?c0 ?c1 ?c2 ?c3 ?c4 ?c5 ?_)
  case c0 => first | rfl | simp
  case c1 => exact ints_src HSrc.out
  try case c2 => intro u hu; simp only [List.mem_map] at hu; obtain ⟨x, _, rfl⟩ := hu; rfl
  try case c3 => first | omega | (unfold maxLen; omega)
  try case c4 => omega
  try case c5 => first | omega | (simp; done) | (simp; omega)
  intro AV6 c6 w6 hrow6 hgr6 _
  try simp only [Nat.zero_add, List.nil_append] at hrow6
  have HV6 := Lib.hid (show IntsFr w6 (w.heap.size + 1 + 1) w6.heap.size AV6 vec from ints_of_row (l := vec) hrow6)
  have hb6 : Below (w.heap.size + 1 + 1) _ w6 := (Below.refl _ _).grown hgr6 (by have := HS5.out; omega) (fun k hk => by cases hk; exact Nat.le_refl _)
  have hz6 : w.heap.size + 1 + 1 < w6.heap.size := by have := hgr6.size; have := HS5.out; omega
  have HB6 := Lib.hid (HB5.out.trans (hb6.mono (by omega)))
  have HY6 := Lib.hid (HY5.out.below hb6 (by omega))
  have HX6 := Lib.hid (HX5.out.below hb6 (by omega))
  have HF6 := Lib.hid (show ∀ o, w6.frozen? ⟨w.heap.size + 1, o, none⟩ = false from fun o => (hb6.frozen (p := ⟨w.heap.size + 1, o, none⟩) (by show w.heap.size + 1 < w.heap.size + 1 + 1; omega)).trans (HF5.out o))
  clear hrow6 hgr6 hb6 HB5 HY5 HX5 HF5 HE0 HSrc HS5 i0 hi hq0 hq1 hq2 HV
  go_upto_region 2 with fail
  obtain ⟨W7, hW7⟩ : ∃ W7, W7 = w6.alloc (.cells #[.slice AV6 vec.length c6, .slice none 0 0] 26) := ⟨_, rfl⟩
  have HT7 := Lib.hid (show W7.heap[w6.heap.size]? = some (.cells #[.slice AV6 vec.length c6, .slice none 0 0] 26 (0, 0)) by rw [hW7]; exact heap_alloc_new w6 _)
  have HB7 := Lib.hid (show Below w6.heap.size w6 W7 by rw [hW7]; exact (Below.refl _ _).alloc (Nat.le_refl _) _)
  have hz7 : w6.heap.size < W7.heap.size := by rw [hW7]; simp
  rw [← hW7]
  clear hW7
  obtain ⟨g, o, hAe, hgL, hgB, hrow⟩ := HV6.out (by omega)
  have hrow' : ∀ j (hj : j < vec.length), W7.cell? ⟨g, o + j, none⟩ = some (.int .i64 vec[j]) := fun j hj => (HB7.out.cell (p := ⟨g, o + j, none⟩) hgB).trans (hrow j hj).1
  have hxm : vec[m] = vec.getD m 0 := by simp [hm]
  obtain ⟨x, hx⟩ : ∃ x, x = vec.getD m 0 := ⟨_, rfl⟩
  have v0 : W7.cell? ⟨g, o + m, none⟩ = some (.int .i64 x) := by rw [hrow' m hm, hxm, hx]
  have vf : W7.frozen? ⟨g, o + m, none⟩ = false := (HB7.out.frozen (p := ⟨g, o + m, none⟩) hgB).trans (hrow m hm).2
  have q0 : W7.cell? ⟨w6.heap.size, 0, none⟩ = some (.slice AV6 vec.length c6) := by simp [World.cell?, HT7.out]
  have hIs := Lib.hid (ints_set hrow' (Nat.le_refl _) (Nat.lt_succ_self _) hm (x + 1))
  have hpuv := Lib.hid (show puV vec m = vec.set m (x + 1) by unfold puV; rw [hx]; rfl)
  have HNe := Lib.hid (show newE vec m l val = ⟨l, val, m, x + 1⟩ by unfold newE; rw [hx]; rfl)
  rw [← hx] at hx0 hx1
  have hmi : (m : Int) < (vec.length : Int) := by omega
  subst hAe
  clear hrow hrow' hxm hx HV6
  go_upto_region 3 with fail
  obtain ⟨W4, hW4⟩ : ∃ X, X = W7.setCell ⟨g, o + m, none⟩ (.int .i64 (x + 1)) := ⟨_, rfl⟩
  have hz4 : W7.heap.size ≤ W4.heap.size := by rw [hW4]; simp
  have hb74 : Below w6.heap.size w6 W7 := HB7.out
  have hb64 : Below (w.heap.size + 1 + 1) w6 W4 := by rw [hW4]; exact (hb74.mono (by omega)).setCell (show w.heap.size + 1 + 1 ≤ g from hgL) _
  have HB4 := Lib.hid (show Below w.heap.size w W4 from HB6.out.trans (hb64.mono (by omega)))
  have hfz : ∀ p, W4.frozen? p = W7.frozen? p := fun p => by rw [hW4, World.frozen?_setCell]
  have y1 : W4.cell? ⟨w.heap.size, 1, none⟩ = some (.slice A es.length cA) := (hb64.cell (p := ⟨w.heap.size, 1, none⟩) (by show w.heap.size < w.heap.size + 1 + 1; omega)).trans (HY6.out 1 (by simp))
  have r0 : W4.cell? ⟨w.heap.size + 1, 0, none⟩ = some (.slice none 0 0) := (hb64.cell (p := ⟨w.heap.size + 1, 0, none⟩) (by show w.heap.size + 1 < w.heap.size + 1 + 1; omega)).trans (HX6.out 0 (by simp))
  have r1 : W4.cell? ⟨w.heap.size + 1, 1, none⟩ = some (.slice none 0 0) := (hb64.cell (p := ⟨w.heap.size + 1, 1, none⟩) (by show w.heap.size + 1 < w.heap.size + 1 + 1; omega)).trans (HX6.out 1 (by simp))
  have s0 : W4.cell? ⟨w6.heap.size, 0, none⟩ = some (.slice (some ⟨g, o, none⟩) vec.length c6) := by
    rw [hW4, World.cell?_setCell_other _ _ _ _ (fun e => by injection e; omega)]
    exact q0
  have s1 : W4.cell? ⟨w6.heap.size, 1, none⟩ = some (.slice none 0 0) := by
    rw [hW4, World.cell?_setCell_other _ _ _ _ (fun e => by injection e; omega)]
    simp [World.cell?, HT7.out]
  have sv : W4.cell? ⟨g, o + m, none⟩ = some (.int .i64 (x + 1)) := by rw [hW4]; exact World.cell?_setCell_same _ _ _ v0
  have sf : W4.frozen? ⟨w6.heap.size, 1, none⟩ = false := by rw [hfz]; simp [World.frozen?, HT7.out]
  have f0 : W4.frozen? ⟨w.heap.size + 1, 0, none⟩ = false := (hb64.frozen (p := ⟨w.heap.size + 1, 0, none⟩) (by show w.heap.size + 1 < w.heap.size + 1 + 1; omega)).trans (HF6.out 0)
  have f1 : W4.frozen? ⟨w.heap.size + 1, 1, none⟩ = false := (hb64.frozen (p := ⟨w.heap.size + 1, 1, none⟩) (by show w.heap.size + 1 < w.heap.size + 1 + 1; omega)).trans (HF6.out 1)
  rw [← hW4] at hIs ⊢
  have lh : w.heap.size < W4.heap.size := by omega
  have lq : w6.heap.size < W4.heap.size := by omega
  have lg : g < W4.heap.size := by omega
  have HC4 := Lib.hid (fun (X : World) (hX : S4 W4 X) => show X.cell? ⟨w.heap.size, 1, none⟩ = some (.slice A es.length cA) ∧ X.cell? ⟨w6.heap.size, 0, none⟩ = some (.slice (some ⟨g, o, none⟩) vec.length c6) ∧ X.cell? ⟨w6.heap.size, 1, none⟩ = some (.slice none 0 0) ∧ X.cell? ⟨g, o + m, none⟩ = some (.int .i64 (x + 1)) ∧ X.frozen? ⟨w6.heap.size, 1, none⟩ = false from
    ⟨(Below.cell hX (p := ⟨w.heap.size, 1, none⟩) lh).trans y1, (Below.cell hX (p := ⟨w6.heap.size, 0, none⟩) lq).trans s0, (Below.cell hX (p := ⟨w6.heap.size, 1, none⟩) lq).trans s1, (Below.cell hX (p := ⟨g, o + m, none⟩) lg).trans sv, (Below.frozen hX (p := ⟨w6.heap.size, 1, none⟩) lq).trans sf⟩)
  have HCell := Lib.hid (show ∀ X, S4 W4 X → X.cell? ⟨w.heap.size, 1, none⟩ = some (.slice A es.length cA) ∧ X.cell? ⟨w6.heap.size, 0, none⟩ = some (.slice (some ⟨g, o, none⟩) vec.length c6) ∧ X.cell? ⟨g, o + m, none⟩ = some (.int .i64 (x + 1)) from fun X hX => ⟨(HC4.out X hX).1, (HC4.out X hX).2.1, (HC4.out X hX).2.2.2.1⟩)
  have HCellS := Lib.hid (show ∀ (X : World) (v : Value), S4 W4 X → (X.setCell ⟨w6.heap.size, 1, none⟩ v).cell? ⟨w.heap.size, 1, none⟩ = some (.slice A es.length cA) ∧ (X.setCell ⟨w6.heap.size, 1, none⟩ v).cell? ⟨w6.heap.size, 0, none⟩ = some (.slice (some ⟨g, o, none⟩) vec.length c6) ∧ (X.setCell ⟨w6.heap.size, 1, none⟩ v).cell? ⟨g, o + m, none⟩ = some (.int .i64 (x + 1)) from fun X v hX => ⟨(World.cell?_setCell_other _ _ _ _ (fun e => by injection e; omega)).trans (HCell.out X hX).1, (World.cell?_setCell_other _ _ _ _ (fun e => by injection e; omega)).trans (HCell.out X hX).2.1, (World.cell?_setCell_other _ _ _ _ (fun e => by injection e; omega)).trans (HCell.out X hX).2.2⟩)
  have HR4 := Lib.hid (And.intro r0 (And.intro r1 (And.intro f0 f1)))
  have HS0 := Lib.hid (S4.refl W4)
  obtain ⟨nn, hnn⟩ : ∃ y, y = (notName l es).length := ⟨_, rfl⟩
  have hnl : nn ≤ 999 := by rw [hnn]; have := notName_le l es; omega
  have HWt := Lib.hid (fun (X : World) (hX : S4 W4 X) => show Calls Tryz.prog 76 #[.slice A es.length cA, .slice Ab l.length cb] X (fun r w' => ∃ A5 c5, r = .returned (.slice A5 nn c5) ∧ nn ≤ c5 ∧ (A5 = none ∧ c5 = 0 ∨ ∃ g, A5 = some ⟨g, 0, none⟩) ∧ E6 W4.heap.size X.heap.size w'.heap.size A5 (notName l es) w' ∧ Below X.heap.size X w') from by
    have hXs := Below.size hX
    have hk : ∀ p : Addr, p.block < w.heap.size → X.cell? p = w.cell? p := fun p hp => (Below.cell hX (by omega)).trans (HB4.out.cell hp)
    rw [hnn]
    refine (l3without_own A es cA Ab l cb w.heap.size X (HA.out.keep fun p _ hp => hk p hp) (by omega) (by omega) ((HB.out.keep fun p _ hp => hk p hp).mono (by omega))).mono ?_
    rintro r w' ⟨A5, c5, rfl, h1, h2, h3, h4⟩
    exact ⟨A5, c5, rfl, h1, h2, h3.e6 (by omega) hXs h4.size, h4⟩)
  have HIn := Lib.hid (fun (X : World) (A5 : Option Addr) (c5 : Nat) (A7 : Option Addr) (c7 : Nat) (hE : EnsIn X 0 X.heap.size A5 (notName l es)) (hN : N6 A7 l X) (hc : nn ≤ c5) (hf : A5 = none ∧ c5 = 0 ∨ ∃ g, A5 = some ⟨g, 0, none⟩) => show Calls Tryz.prog 96 #[.slice A5 nn c5, .agg #[.slice A7 l.length c7, .int .i64 val, .int .i64 m, .int .i64 (x + 1)]] X (fun r w' => ∃ A8 c8, r = .returned (.slice A8 (puE vec es m l val).length c8) ∧ (puE vec es m l val).length ≤ c8 ∧ (∃ R, A8 = some ⟨R, 0, none⟩ ∧ X.heap.size ≤ R) ∧ EnsIn w' 0 w'.heap.size A8 (puE vec es m l val) ∧ Below X.heap.size X w') from by
    rw [hnn] at hc ⊢
    have h := l3insert_any A5 (notName l es) c5 (newE vec m l val) A7 c7 X.heap.size X hE (Nat.le_refl _) (by omega) hc (by rcases hf with h | ⟨g, h⟩; exact .inl h; exact .inr ⟨g, 0, h⟩) (by rw [HNe.out]; exact hN)
    unfold enV at h
    rw [HNe.out] at h
    refine h.mono ?_
    rintro r w' ⟨A8, c8, rfl, h1, ⟨R, hR⟩, h3, h4⟩
    have hp : puE vec es m l val = insE (notName l es) ⟨l, val, m, x + 1⟩ := by unfold puE; rw [HNe.out]
    rw [hp]
    refine ⟨A8, c8, rfl, h1, ⟨R, hR, ?_⟩, h3.ens h4.size, h4⟩
    obtain ⟨R', e, hL, _⟩ := h3 (by rw [(ins_perm _ _).length_eq]; simp)
    rw [hR] at e
    injection e with e
    injection e with e
    omega)
  have HS1 := Lib.hid (fun (X : World) (hX : S4 W4 X) => show SrcAt X Ab l.length (vbytes l) from bytes_src (HB.out.keep fun p _ hp => (Below.cell hX (by omega)).trans (HB4.out.cell hp)))
  obtain ⟨i0, hi, hq0, hq1, hq2⟩ := info_parts Tryz.info5
  have hvb := vb_length l
  have hvb' : (vbytes l).length = l.length * 1 := by omega
  have hm1 : 0 + l.length ≤ maxLen := by unfold maxLen; omega
  have hm2 : (0 + l.length) * 1 ≤ 140737488355328 := by omega
  obtain ⟨pn, hpn⟩ : ∃ y, y = (puE vec es m l val).length := ⟨_, rfl⟩
  rw [← hpn] at HIn
  have HPn := Lib.hid hpn
  clear hvb hW4 hb74 hb64 hfz r0 r1 f0 f1 HB6 HY6 HX6 HF6 HB7 HT7 v0 vf q0 hnn hpn
  go_region_held3 (fun X => X.cell? ⟨w.heap.size, 1, none⟩ = some (.slice A es.length cA) ∧ X.cell? ⟨w6.heap.size, 0, none⟩ = some (.slice (some ⟨g, o, none⟩) vec.length c6) ∧ X.cell? ⟨g, o + m, none⟩ = some (.int .i64 (x + 1)))
    (first | (refine HCellS.out _ _ ?_; with_reducible exact HS8.out) | (refine HCell.out _ ?_; repeat first | with_reducible exact HS0.out | with_reducible exact HS5.out | with_reducible exact HS7.out | with_reducible exact HS8.out | with_reducible apply S4.drew | with_reducible apply S4.alloc))
    (first
      | (go_simp
         go_at_call 76
         refine (HWt.out _ ?_).mono ?_
         · repeat first | with_reducible exact HS0.out | with_reducible exact HS5.out | with_reducible exact HS7.out | with_reducible exact HS8.out | with_reducible apply S4.drew | with_reducible apply S4.alloc
         rintro r w5 ⟨A5, c5, rfl, hc5, hf5, he5, hb5⟩
         have HE5 := Lib.hid he5
         have HBx5 := Lib.hid hb5
         have HK5 := Lib.hid (fun (n : Nat) (ob : Obj) (h : _ = some ob) => (hb5.block n (Array.getElem?_eq_some_iff.1 h).1).trans h)
         have HF5 := Lib.hid (And.intro hc5 hf5)
         have HS5 := Lib.hid (show S4 W4 w5 from S4.below (by repeat first | with_reducible exact HS0.out | with_reducible exact HS5.out | with_reducible exact HS7.out | with_reducible exact HS8.out | with_reducible apply S4.drew | with_reducible apply S4.alloc) hb5)
         obtain ⟨y1, s0, s1, sv, sf⟩ := HC4.out w5 HS5.out
         have hz5 := Below.size HS5.out
         have lh5 : w.heap.size < w5.heap.size := by omega
         have lq5 : w6.heap.size < w5.heap.size := by omega
         have lg5 : g < w5.heap.size := by omega
         clear hc5 hf5 he5 hb5
         go_wp2_with fail)
      | (refine step_append_anyE (by rfl) _ _ _ (by rfl) W4.heap.size 5 i0 _ 1 1 Tryz.underlying22 hi hq0 hq1 hq2 rfl (by decide) (.slice (some ⟨_, 0, none⟩) 0 0) 0 [] (by rfl) (owns_empty ?_ ?_) Ab l.length cb (vbytes l) (by rfl) hvb' (HS1.out _ ?_) (vb_one l) hm1 hm2 ?_ ?_
         · first | exact Nat.le_refl _ | omega | (simp; done) | (simp; omega)
         · first | exact heap_alloc_new _ _ | exact heap_oldE (heap_alloc_new _ _) | (refine heap_newF _ ?_; first | rfl | (simp; done)) | (refine heap_drewF (heap_newF _ ?_); first | rfl | (simp; done)) | (refine HK5.out _ _ ?_; first | exact heap_alloc_new _ _ | (refine heap_newF _ ?_; first | rfl | (simp; done)))
         · repeat first | with_reducible exact HS0.out | with_reducible exact HS5.out | with_reducible exact HS7.out | with_reducible exact HS8.out | with_reducible apply S4.drew | with_reducible apply S4.alloc
         · first | omega | (simp; done) | (simp; omega)
         intro A7 c7 w7 hown7 hgr7
         rw [Nat.zero_add, List.nil_append] at hown7
         have HS7 := Lib.hid (show S4 W4 w7 from S4.grown (by repeat first | with_reducible exact HS0.out | with_reducible exact HS5.out | with_reducible exact HS7.out | with_reducible exact HS8.out | with_reducible apply S4.drew | with_reducible apply S4.alloc) hgr7 (fun g hg => by simp [Value.ownBlock] at hg; omega))
         have HN7 := Lib.hid (show N6 A7 l w7 from fun hl => by
           obtain ⟨b, o, e, hL, hb, hc⟩ := bytes_of_row hown7 hl
           exact ⟨b, o, e, Nat.zero_le _, hb, fun j hj => (hc j hj).1⟩)
         have HG7 := Lib.hid hgr7
         obtain ⟨y1, s0, s1, sv, sf⟩ := HC4.out w7 HS7.out
         have hz7 := Below.size HS7.out
         have lh7 : w.heap.size < w7.heap.size := by omega
         have lq7 : w6.heap.size < w7.heap.size := by omega
         have lg7 : g < w7.heap.size := by omega
         clear hgr7 hown7)
      | (go_simp
         go_at_call 96
         refine (HIn.out _ A5 c5 A7 c7 ?_ ?_ HF5.out.1 HF5.out.2).mono ?_
         · apply E6.ens
           first
             | with_reducible exact HE5.out
             | (apply E6.grown (hg := HG7.out)
                case h => repeat first | with_reducible exact HE5.out | with_reducible apply E6.drew | with_reducible apply E6.alloc
                case hr =>
                  intro k hk
                  simp [Value.ownBlock] at hk
                  subst hk
                  first | (simp; done) | (simp; omega))
         · repeat first | with_reducible exact HN7.out | with_reducible apply N6.drew | with_reducible refine N6.below ?_ HBx5.out
         rintro r w8 ⟨A8, c8, rfl, hc8, hR8, he8, hb8⟩
         have HC8 := Lib.hid hc8
         have HR8 := Lib.hid (show ∃ R, A8 = some ⟨R, 0, none⟩ ∧ W4.heap.size ≤ R from by
           obtain ⟨R, e, hR⟩ := hR8
           first | exact ⟨R, e, Nat.le_trans hz7 hR⟩ | exact ⟨R, e, Nat.le_trans hz5 hR⟩)
         have HE8 := Lib.hid he8
         have HS8 := Lib.hid (show S4 W4 w8 from S4.below (by repeat first | with_reducible exact HS0.out | with_reducible exact HS5.out | with_reducible exact HS7.out | with_reducible exact HS8.out | with_reducible apply S4.drew | with_reducible apply S4.alloc) hb8)
         obtain ⟨y1, s0, s1, sv, sf⟩ := HC4.out w8 HS8.out
         have hz8 := Below.size HS8.out
         have lh8 : w.heap.size < w8.heap.size := by omega
         have lq8 : w6.heap.size < w8.heap.size := by omega
         have lg8 : g < w8.heap.size := by omega
         clear hR8 he8 hb8 hc8
         go_wp2_with fail))
  all_goals
    obtain ⟨W9, hW9⟩ : ∃ X, X = w8.setCell ⟨w6.heap.size, 1, none⟩ (.slice A8 pn c8) := ⟨_, rfl⟩
    obtain ⟨y1, s0, s1, sv, sf⟩ := HC4.out w8 HS8.out
    obtain ⟨r0, r1, f0, f1⟩ := HR4.out
    obtain ⟨R, hRe, hRl⟩ := HR8.out
    have HRow := Lib.hid (show ∃ g, A8 = some ⟨g, 0, none⟩ from ⟨R, hRe⟩)
    have hb48 : Below W4.heap.size W4 w8 := HS8.out
    have lh1 : w.heap.size + 1 < W4.heap.size := by omega
    have x0 : w8.cell? ⟨w.heap.size + 1, 0, none⟩ = some (.slice none 0 0) := (hb48.cell (p := ⟨w.heap.size + 1, 0, none⟩) lh1).trans r0
    have x1 : w8.cell? ⟨w.heap.size + 1, 1, none⟩ = some (.slice none 0 0) := (hb48.cell (p := ⟨w.heap.size + 1, 1, none⟩) lh1).trans r1
    have p0 : W9.cell? ⟨w6.heap.size, 0, none⟩ = some (.slice (some ⟨g, o, none⟩) vec.length c6) := by rw [hW9]; exact (HCellS.out w8 _ HS8.out).2.1
    have p1 : W9.cell? ⟨w6.heap.size, 1, none⟩ = some (.slice A8 pn c8) := by rw [hW9]; exact World.cell?_setCell_same _ _ _ s1
    have t0 : W9.cell? ⟨w.heap.size + 1, 0, none⟩ = some (.slice none 0 0) := by rw [hW9, World.cell?_setCell_other _ _ _ _ (fun e => by injection e; omega)]; exact x0
    have t1 : W9.cell? ⟨w.heap.size + 1, 1, none⟩ = some (.slice none 0 0) := by rw [hW9, World.cell?_setCell_other _ _ _ _ (fun e => by injection e; omega)]; exact x1
    have z0 : W9.frozen? ⟨w.heap.size + 1, 0, none⟩ = false := by rw [hW9, World.frozen?_setCell]; exact (hb48.frozen (p := ⟨w.heap.size + 1, 0, none⟩) lh1).trans f0
    have z1 : W9.frozen? ⟨w.heap.size + 1, 1, none⟩ = false := by rw [hW9, World.frozen?_setCell]; exact (hb48.frozen (p := ⟨w.heap.size + 1, 1, none⟩) lh1).trans f1
    have hneR : ∀ b, b < W4.heap.size → ∀ b' o', A8 = some ⟨b', o', none⟩ → b' ≠ b := fun b hb b' o' e => by
      rw [hRe] at e
      injection e with e
      injection e with e
      omega
    have HE9 := Lib.hid (show EnsIn W9 0 w8.heap.size A8 (puE vec es m l val) from by rw [hW9]; exact ens_set1 HE8.out s1 (fun b' o' e => hneR w6.heap.size lq b' o' e) _)
    have HI9 := Lib.hid (show IntsIn W9 g (g + 1) (some ⟨g, o, none⟩) (vec.set m (x + 1)) from by
      rw [hW9]
      exact hIs.out.keep fun p h1 h2 => (World.cell?_setCell_other _ _ _ _ (fun e => by rw [← e] at h2; have h3 : w6.heap.size < g + 1 := h2; omega)).trans (hb48.cell (by omega)))
    have HB9 := Lib.hid (show Below w.heap.size w W9 from by rw [hW9]; exact (HB4.out.trans (hb48.mono (by omega))).setCell (show w.heap.size ≤ w6.heap.size by omega) _)
    have HT9 := Lib.hid (And.intro t0 t1)
    have hz9 : W9.heap.size = w8.heap.size := by rw [hW9]; simp
    have HZ9 := Lib.hid hz9
    have HNR := Lib.hid (hneR (w.heap.size + 1) lh1)
    obtain ⟨g0, g1⟩ := two_get (v0 := .slice (some ⟨g, o, none⟩) vec.length c6) (v1 := .slice A8 pn c8) t0 t1
    have HG := Lib.hid (And.intro g0 g1)
    rw [← hW9]
    clear hW9 y1 s0 s1 sv sf r0 r1 f0 f1 hRe x0 x1 hneR hz9 g0 g1 hb48
    go_wp2_with fail
    obtain ⟨g0, g1⟩ := HG.out
    refine bodyPost_ret (v := .agg #[.slice (some ⟨g, o, none⟩) vec.length c6, .slice A8 pn c8]) (by simp [results, Tryz.results78, g0, g1, go_sem]) rfl ?_
    refine ⟨some ⟨g, o, none⟩, c6, A8, c8, by rw [HPn.out], by rw [← HPn.out]; exact HC8.out, fun hl => ?_, ?_, HRow.out, ?_⟩
    · rw [hpuv.out] at hl ⊢
      obtain ⟨b, o', e, h1, h2, hc⟩ := (HI9.out.keep fun p h1 h2 => (two_other (w := W9) (b := w.heap.size + 1) (p := p) (by omega)).1) hl
      exact ⟨b, o', e, Nat.zero_le _, by have := HZ9.out; simp; omega, hc⟩
    · have h1 := ens_set1 HE9.out HT9.out.1 (fun b' o' e => HNR.out b' o' e) (.slice (some ⟨g, o, none⟩) vec.length c6)
      have h2 := ens_set1 (p := ⟨w.heap.size + 1, 1, none⟩) h1 ((World.cell?_setCell_other _ _ _ _ (by simp)).trans HT9.out.2) (fun b' o' e => HNR.out b' o' e) (.slice A8 pn c8)
      exact h2.mono (by have := HZ9.out; simp; omega)
    · exact (HB9.out.setCell (show w.heap.size ≤ w.heap.size + 1 by omega) _).setCell (show w.heap.size ≤ w.heap.size + 1 by omega) _

theorem l3put_any (AV : Option Addr) (vec : List Int) (cv : Nat) (A : Option Addr) (es : List En) (cA : Nat) (Ab : Option Addr) (l : List UInt8) (cb m : Nat) (val : Int) (w : World) (hV : IntsIn w 0 w.heap.size AV vec) (hA : EnsIn w 0 w.heap.size A es) (hB : BytesIn w 0 w.heap.size Ab l) (hvl : vec.length ≤ 1048576) (hn : es.length ≤ 999) (hm : m < vec.length) (hx0 : 0 ≤ vec.getD m 0) (hx1 : vec.getD m 0 ≤ 1000000) (hll : l.length ≤ 1048576) :
    Calls Tryz.prog 78 #[.agg #[.slice AV vec.length cv, .slice A es.length cA], .int .i64 m, .slice Ab l.length cb, .int .i64 val] w
      fun r w' => ∃ AV' cv' A' c', r = .returned (.agg #[.slice AV' vec.length cv', .slice A' (puE vec es m l val).length c']) ∧ (puE vec es m l val).length ≤ c' ∧ IntsIn w' 0 w'.heap.size AV' (puV vec m) ∧ EnsIn w' 0 w'.heap.size A' (puE vec es m l val) ∧ Below w.heap.size w w' :=
  (l3put_own AV vec cv A es cA Ab l cb m val w hV hA hB hvl hn hm hx0 hx1 hll).mono fun _ _ ⟨AV', cv', A', c', h1, h2, h3, h4, _, h5⟩ => ⟨AV', cv', A', c', h1, h2, h3, h4, h5⟩

end Go.Proofs.YtepkicgnhjaokaaGreatDoor

namespace Go.Proofs.YtepkicgnhjaokaaGreatDoor
open Go.RowKit Go.Maps

end Go.Proofs.YtepkicgnhjaokaaGreatDoor
