/-
  Several texts in one: Tp, Fpp, Fp, RowFnPuts.
-/
import Derived.Test.YtepkicgnhjaokaaGreatDoorGTd
import Derived.Deep.RegionHeld3
import Derived.Test.YtepkicgnhjaokaaGreatDoorGTx
import Derived.Test.YtepkicgnhjaokaaGreatDoorGCp
import Derived.Lib.SlBytesConst
import Derived.Test.YtepkicgnhjaokaaGreatDoorGRow
namespace Go.Proofs.YtepkicgnhjaokaaGreatDoor
open Go.RowKit Go.Maps

theorem cur_drew {w : World} {K : Nat} {code : List UInt8} (h : Cur w K code) : Cur w.drew K code := h.below (Below.refl _ _).drew h.lt
theorem cur_alloc {w : World} {K : Nat} {code : List UInt8} (h : Cur w K code) (o : Obj) : Cur (w.alloc o) K code := h.below ((Below.refl _ _).alloc (Nat.le_refl _) _) h.lt
theorem ints_offK {K : Nat} {X Y : World} {A : Option Addr} {l : List Int} (h : Hid (OffK K X Y)) (hi : IntsIn X (K + 1) X.heap.size A l) : IntsIn Y (K + 1) Y.heap.size A l := h.out.keeps hi (Nat.lt_succ_self K)
theorem ints_drewK {K : Nat} {X : World} {A : Option Addr} {l : List Int} (hi : IntsIn X (K + 1) X.heap.size A l) : IntsIn X.drew (K + 1) X.drew.heap.size A l := hi
theorem ints_new6 (W : World) (a b c d e f : Int) (t : TypeId) {L : Nat} (hL : L ≤ W.heap.size) : IntsIn (W.alloc (.cells #[.int .i64 a, .int .i64 b, .int .i64 c, .int .i64 d, .int .i64 e, .int .i64 f] t)) L (W.alloc (.cells #[.int .i64 a, .int .i64 b, .int .i64 c, .int .i64 d, .int .i64 e, .int .i64 f] t)).heap.size (some ⟨W.heap.size, 0, none⟩) [a, b, c, d, e, f] := fun _ =>
  ⟨W.heap.size, 0, rfl, hL, by simp, fun j hj => by
    have : j = 0 ∨ j = 1 ∨ j = 2 ∨ j = 3 ∨ j = 4 ∨ j = 5 := by simp at hj; omega
    rcases this with rfl | rfl | rfl | rfl | rfl | rfl <;> simp⟩
theorem pick6 {w : World} {K : Nat} {code : List UInt8} {A : Option Addr} {c : Nat} {a b d e f g : Int} (hC : Cur w K code) (hA : IntsIn w (K + 1) w.heap.size A [a, b, d, e, f, g]) :
    Calls Tryz.prog 35 #[.pointer (some ⟨K, 0, none⟩), .slice A 6 c] w (fun e w' => ∃ x, e = .returned (.int .i64 x) ∧ Cur w' K code ∧ OffK K w w') := by
  have h := l1PickInt_any K code A c [a, b, d, e, f, g] w hC hA (by simp) (by simp)
  refine Calls.mono (show Calls Tryz.prog 35 #[.pointer (some ⟨K, 0, none⟩), .slice A 6 c] w _ from h) ?_
  rintro e w' ⟨x, h1, _, h3, h4⟩
  exact ⟨x, h1, h3, h4⟩
theorem below6 {w : World} {K : Nat} {code : List UInt8} (hC : Cur w K code) :
    Calls Tryz.prog 33 #[.pointer (some ⟨K, 0, none⟩), .int .i64 6] w (fun e w' => ∃ x : Int, e = .returned (.int .i64 x) ∧ (0 ≤ x ∧ x < 6) ∧ Cur w' K code ∧ OffK K w w') := by
  refine (l1Below_any K code 6 w hC).mono ?_
  rintro e w' ⟨x, h1, h2, h3, h4⟩
  exact ⟨x, h1, ⟨h2.1, h2.2.1 (by omega)⟩, h3, h4⟩
theorem name6 {w : World} {K : Nat} {code : List UInt8} (hC : Cur w K code) :
    Calls Tryz.prog 34 #[.pointer (some ⟨K, 0, none⟩)] w (fun e w' => ∃ A l c, e = .returned (.slice A l.length c) ∧ (l.length ≤ 24 ∧ BytesIn w' (K + 1) w'.heap.size A l) ∧ Cur w' K code ∧ OffK K w w') := by
  have hlt := hC.lt
  refine (l3name_any K code w hC).mono ?_
  rintro e w' ⟨A, l, c, h1, h2, h3, h4, h5⟩
  exact ⟨A, l, c, h1, ⟨h2.2, h3.low hlt⟩, h4, h5⟩

/-- What is put, drawn. -/
def NewTp (w : World) (e : Ending) (w' : World) : Prop :=
  ∃ (t : Tt) (b : Int) (A : Option Addr) (l : List UInt8) (c : Nat) (v : Int), e = .returned (.tuple #[.agg #[.slice t.AV t.vec.length t.cv, .slice t.A t.es.length t.c], .int .i64 b, .slice A l.length c, .int .i64 v]) ∧ TdIn w' 0 t ∧ (l.length ≤ 24 ∧ BytesIn w' 0 w'.heap.size A l) ∧ Below w.heap.size w w'

set_option maxRecDepth 100000 in
set_option maxHeartbeats 4000000 in
theorem drawPut_any (A : Option Addr) (c : Nat) (code : List UInt8) (w : World) (hA : BytesIn w 0 w.heap.size A code) (hn : code.length ≤ 9223372036854775807) :
    Calls Tryz.prog 8 #[.slice A code.length c] w (NewTp w) := by
  have HA := Lib.hid hA
  clear hA
  go_enter Tryz.func8, Tryz.ntmps8
  go_wp2_with fail
  obtain ⟨W0, hW0⟩ : ∃ x, x = w.alloc (.cells #[.slice none 0 0, .slice none 0 0] 26) := ⟨_, rfl⟩
  have hb0 : Below w.heap.size w W0 := by rw [hW0]; exact (Below.refl _ _).alloc (Nat.le_refl _) _
  have hz0 : w.heap.size < W0.heap.size := by rw [hW0]; simp
  have HR0 := Lib.hid (show Rs W0 w.heap.size w.heap.size from by
    obtain ⟨q0, q1, q2⟩ := two_new w (.slice none 0 0) (.slice none 0 0) 26
    rw [← hW0] at q0 q1 q2
    exact ⟨q0, q1, q0, q1, q2, q2⟩)
  have HB0 := Lib.hid hb0
  rw [← hW0]
  clear hW0 hb0
  refine (l1New_any A c code W0 ((HA.out.below HB0.out).mono (by omega)) hn).mono ?_
  rintro e w1 ⟨rfl, hc1, hb1⟩
  obtain ⟨K, hKe⟩ : ∃ K, K = W0.heap.size := ⟨_, rfl⟩
  have hKw : w.heap.size < K := by omega
  have HR1 := Lib.hid (HR0.out.off (K := W0.heap.size) (OffK.of_below hb1 (Nat.le_refl _)) hz0 hz0 (by omega) (by omega))
  have HB1 := Lib.hid (HB0.out.trans (hb1.mono (by omega)))
  rw [← hKe] at hc1 ⊢
  have HC1 := Lib.hid hc1
  have hz1 := hc1.lt
  clear hc1 hb1 hKe HR0 HB0 HA hz0
  go_wp2_with fail
  refine (l3bent_any K code w1 HC1.out).mono ?_
  rintro e w2 ⟨t, rfl, ht, hc2, ho2⟩
  have hz2 := ho2.size
  go_upto_region 3 with fail
  obtain ⟨W3, hW3⟩ : ∃ x, x = w2.alloc (.cells #[.slice t.AV t.vec.length t.cv, .slice t.A t.es.length t.c] 26) := ⟨_, rfl⟩
  have hb3 : Below w2.heap.size w2 W3 := by rw [hW3]; exact (Below.refl _ _).alloc (Nat.le_refl _) _
  obtain ⟨q0, q1, qf⟩ : W3.cell? ⟨w2.heap.size, 0, none⟩ = some (.slice t.AV t.vec.length t.cv) ∧ W3.cell? ⟨w2.heap.size, 1, none⟩ = some (.slice t.A t.es.length t.c) ∧ ∀ o, W3.frozen? ⟨w2.heap.size, o, none⟩ = false := by rw [hW3]; exact two_new _ _ _ _
  have ho3 := ho2.below hb3
  have lg : w2.heap.size < W3.heap.size := World.block_lt_of_cell? W3 _ q0
  have hz3 := hb3.size
  have HT3 := Lib.hid (show TdIn W3 (K + 1) t from (ht.below hb3).low (by omega))
  have HC3 := Lib.hid (hc2.below hb3 (by omega))
  have HR3 := Lib.hid (HR1.out.off ho3 (by omega) (by omega) (by omega) (by omega))
  have HB3 := Lib.hid (HB1.out.trans (ho3.low (by omega) (by omega)))
  rw [← hW3]
  have hgK : w2.heap.size ≠ K := by omega
  clear hW3 ht hc2 ho2 hb3 ho3 HR1 HB1 HC1 qf
  have HU := Lib.hid (OffK.refl K W3)
  have HCu := Lib.hid HC3.out
  have HT := Lib.hid (fun X (hX : OffK K W3 X) => show (X.cell? ⟨w2.heap.size, 0, none⟩ = some (.slice t.AV t.vec.length t.cv) ∧ X.cell? ⟨w2.heap.size, 1, none⟩ = some (.slice t.A t.es.length t.c)) from ⟨(hX.cell (p := ⟨w2.heap.size, 0, none⟩) lg hgK).trans q0, (hX.cell (p := ⟨w2.heap.size, 1, none⟩) lg hgK).trans q1⟩)
  have HKs := Lib.hid (fun (X : World) (v0 v1 : Value) (hX : X.cell? ⟨w2.heap.size, 0, none⟩ = some (.slice t.AV t.vec.length t.cv) ∧ X.cell? ⟨w2.heap.size, 1, none⟩ = some (.slice t.A t.es.length t.c)) => show (((X.setCell ⟨w.heap.size, 0, none⟩ v0).setCell ⟨w.heap.size, 1, none⟩ v1).cell? ⟨w2.heap.size, 0, none⟩ = some (.slice t.AV t.vec.length t.cv) ∧ ((X.setCell ⟨w.heap.size, 0, none⟩ v0).setCell ⟨w.heap.size, 1, none⟩ v1).cell? ⟨w2.heap.size, 1, none⟩ = some (.slice t.A t.es.length t.c)) from
    ⟨((two_other (by show w2.heap.size ≠ w.heap.size; omega)).1).trans hX.1, ((two_other (by show w2.heap.size ≠ w.heap.size; omega)).1).trans hX.2⟩)
  go_region_held3 (fun X => X.cell? ⟨w2.heap.size, 0, none⟩ = some (.slice t.AV t.vec.length t.cv) ∧ X.cell? ⟨w2.heap.size, 1, none⟩ = some (.slice t.A t.es.length t.c))
    (first
      | (refine HT.out _ ?_; (repeat first | with_reducible exact HU.out | with_reducible apply OffK.drew | with_reducible apply OffK.alloc); done)
      | (refine HKs.out _ _ _ ?_; refine HT.out _ ?_; (repeat first | with_reducible exact HU.out | with_reducible apply OffK.drew | with_reducible apply OffK.alloc); done))
    (first
      | (go_at_call 33
         with_reducible refine (below6 (show Cur _ K code from by repeat first | with_reducible exact HCu.out | with_reducible apply cur_drew | with_reducible apply cur_alloc)).mono ?_
         rintro r w5 ⟨n5, rfl, hn5, hc5, ho5⟩
         replace HU := Lib.hid (OffK.trans (show OffK K W3 _ from by repeat first | with_reducible exact HU.out | with_reducible apply OffK.drew | with_reducible apply OffK.alloc) ho5 (.inl rfl))
         have HS1 := Lib.hid ho5
         have hz5 := HU.out.size
         replace HCu := Lib.hid hc5
         have hw5 : IntKind.i64.wrap (n5 - 1) = n5 - 1 := by rw [IntKind.wrap_i64]; omega
         clear ho5 hc5)
      | (go_at_call 34
         with_reducible refine (name6 (show Cur _ K code from by repeat first | with_reducible exact HCu.out | with_reducible apply cur_drew | with_reducible apply cur_alloc)).mono ?_
         rintro r w6 ⟨An, nm, cn, rfl, hnm, hc6, ho6⟩
         replace HU := Lib.hid (OffK.trans (show OffK K W3 _ from by repeat first | with_reducible exact HU.out | with_reducible apply OffK.drew | with_reducible apply OffK.alloc) ho6 (.inl rfl))
         have HS2 := Lib.hid ho6
         have hz6 := HU.out.size
         have HNm := Lib.hid hnm
         have HV := Lib.hid (OffK.refl K w6)
         replace HCu := Lib.hid hc6
         clear ho6 hc6 hnm)
      | (go_at_call 35
         with_reducible refine (pick6 (show Cur _ K code from by repeat first | with_reducible exact HCu.out | with_reducible apply cur_drew | with_reducible apply cur_alloc) (show IntsIn _ (K + 1) _ _ [0, 7, 999, 1000, -1, 5] from by repeat first | exact ints_new6 _ _ _ _ _ _ _ _ (by first | omega | (simp; omega)) | with_reducible refine ints_offK HS2 ?_ | with_reducible refine ints_offK HS1 ?_ | with_reducible refine ints_drewK ?_)).mono ?_
         rintro r w7 ⟨n7, rfl, hc7, ho7⟩
         have HV7 := Lib.hid (OffK.trans (show OffK K w6 _ from by repeat first | with_reducible exact HV.out | with_reducible apply OffK.drew | with_reducible apply OffK.alloc) ho7 (.inl rfl))
         replace HU := Lib.hid (OffK.trans (show OffK K W3 _ from by repeat first | with_reducible exact HU.out | with_reducible apply OffK.drew | with_reducible apply OffK.alloc) ho7 (.inl rfl))
         have hz7 := HU.out.size
         obtain ⟨ra0, ra1, _, _, rfa, _⟩ := HR3.out.off HU.out (by omega) (by omega) (by omega) (by omega)
         have rf0 := rfa 0
         have rf1 := rfa 1
         have lw7 : w.heap.size < w7.heap.size := by omega
         clear rfa ho7 hc7))
  all_goals
    have HG := Lib.hid (two_get (v0 := .slice t.AV t.vec.length t.cv) (v1 := .slice t.A t.es.length t.c) ra0 ra1)
    go_wp2_with fail
    obtain ⟨g0, g1⟩ := HG.out
    refine bodyPost_ret (v := .tuple #[.agg #[.slice t.AV t.vec.length t.cv, .slice t.A t.es.length t.c], .int .i64 (n5 - 1), .slice An nm.length cn, .int .i64 n7]) (by simp [results, Tryz.results8, g0, g1, go_sem]) rfl ?_
    have HT7 := HT3.out.off HU.out (Nat.lt_succ_self K)
    have HB7 := HNm.out.2.keep fun p h1 h2 => HV7.out.cell h2 (by omega)
    exact ⟨t, n5 - 1, An, nm, cn, n7, rfl, ((HT7.set (p := ⟨w.heap.size, 0, none⟩) (by show w.heap.size < K + 1; omega) _).set (p := ⟨w.heap.size, 1, none⟩) (by show w.heap.size < K + 1; omega) _).low (Nat.zero_le _), ⟨HNm.out.1, ((HB7.keep fun p h1 _ => (two_other (by omega)).1).low (Nat.zero_le _)).mono (by have := HV7.out.size; simp; omega)⟩, ((HB3.out.trans (HU.out.low (by omega) (by omega))).setCell (Nat.le_refl _) _).setCell (Nat.le_refl _) _⟩

end Go.Proofs.YtepkicgnhjaokaaGreatDoor

namespace Go.Proofs.YtepkicgnhjaokaaGreatDoor
open Go.RowKit Go.Maps

/-- Is e among the first of fs, by name, number and device, or is it named so? -/
def fndB (l : List UInt8) (e : En) (fs : List En) : Bool := decide (e.name = l) || fs.any fun f => decide (f.name = e.name) && (f.num == e.num) && (f.dev == e.dev)
theorem fndB_nil (l : List UInt8) (e : En) (fs : List En) : fndB l e (fs.take 0) = decide (e.name = l) := by simp [fndB]
theorem fndB_succ (l : List UInt8) (e : En) (fs : List En) {k : Nat} (hk : k < fs.length) : fndB l e (fs.take (k + 1)) = (fndB l e (fs.take k) || (decide (fs[k].name = e.name) && (fs[k].num == e.num) && (fs[k].dev == e.dev))) := by
  unfold fndB
  rw [List.take_succ_eq_append_getElem hk, List.any_append]
  simp [Bool.or_assoc]
structure PutsYes (vt : List Int) (et : List En) (vx : List Int) (ex : List En) (b : Int) (l : List UInt8) (val : Int) : Prop where
  dev : 0 ≤ b ∧ b < (vt.length : Int)
  nm : nameB l = true
  ht : treeB vt et = true
  hx : treeB vx ex = true
  bel : belowV vt vx = true
  len : ex.length ≤ 12
  dlen : (notName l ex).length + 1 = ex.length
  one : (ofName l ex).length = 1
  new : ∀ i (hi : i < ex.length), ex[i].name = l → ex[i].val = val ∧ ex[i].dev = b ∧ ex[i].num = vt.getD b.toNat 0 + 1
  all : ∀ i (hi : i < et.length), fndB l et[i] ex = true
theorem mx_le {x y : Int} (h : x ≤ y) : (mx x y == y) = true := by rw [mx_beq]; exact decide_eq_true h
theorem puts_yes {vt vx : List Int} {et ex : List En} {b val : Int} {l : List UInt8} (h : vx = puVec vt et b l val ∧ ex = puEs vt et b l val) (o : puOk vt et b l val = true) : PutsYes vt et vx ex b l val := by
  obtain ⟨hv, he⟩ := h
  rw [(pur_yes o).1] at hv
  rw [(pur_yes o).2] at he
  have o' := o
  unfold puOk at o'
  simp only [Bool.and_eq_true] at o'
  obtain ⟨⟨⟨h1, h2⟩, h3⟩, _⟩ := o'
  have hd := h2
  unfold devB at hd
  simp only [Bool.and_eq_true, decide_eq_true_eq] at hd
  rw [pu_model h1 h2 h3] at o
  simp only [Bool.and_eq_true] at o
  have hx := o.2
  rw [← hv, ← he] at hx
  obtain ⟨a0, a1, a2, a3, rfl⟩ := treeB_four h1
  have hp : ∀ e, e ∈ ex ↔ e = newE [a0, a1, a2, a3] b l val ∨ e ∈ notName l et := fun e => by
    rw [he]
    unfold puE
    rw [(ins_perm _ _).mem_iff]
    simp
  have hone : (ofName l ex).length = 1 := by
    rw [he]
    unfold puE ofName
    rw [((ins_perm _ _).filter _).length_eq]
    have : List.filter (fun e => e.name == l) (notName l et) = [] := by
      rw [List.filter_eq_nil_iff]
      intro e hm hq
      have := (List.mem_filter.1 hm).2
      rw [hq] at this
      cases this
    simp [newE, this]
  have hsplit : (ofName l ex).length + (notName l ex).length = ex.length := by
    unfold ofName notName
    clear hx hone hp he
    induction ex with
    | nil => rfl
    | cons e ex ih =>
      by_cases hq : (e.name == l) = true
      · simp [hq]; omega
      · have hq' : (e.name == l) = false := by simpa using hq
        simp [hq']; omega
  refine ⟨⟨hd.1, by show b < 4; exact hd.2⟩, h3, h1, hx, ?_, treeB_len3 hx, by omega, hone, ?_, ?_⟩
  · have v1 := (tree_parts h1).1
    have v2 := (tree_parts hx).1
    unfold belowV
    rw [v1, v2, hv]
    have hb : b = 0 ∨ b = 1 ∨ b = 2 ∨ b = 3 := by omega
    unfold belB
    have r : ∀ x : Int, mx x x = x := fun x => by simpa using mx_le (Int.le_refl x)
    have s : ∀ x : Int, mx x (x + 1) = x + 1 := fun x => by simpa using mx_le (show x ≤ x + 1 by omega)
    rcases hb with rfl | rfl | rfl | rfl <;> simp [puV, r, s]
  · intro i hi hn
    rcases (hp ex[i]).1 (List.getElem_mem hi) with k | k
    · rw [k]
      exact ⟨rfl, rfl, rfl⟩
    · have := (List.mem_filter.1 k).2
      rw [hn] at this
      simp at this
  · intro i hi
    unfold fndB
    by_cases hn : et[i].name = l
    · simp [hn]
    · have hm : et[i] ∈ ex := (hp _).2 (.inr (List.mem_filter.2 ⟨List.getElem_mem hi, by simp [hn]⟩))
      rw [Bool.or_eq_true]
      right
      rw [List.any_eq_true]
      exact ⟨et[i], hm, by simp⟩
theorem puts_drop {vx : List Int} {ex : List En} {l : List UInt8} (hx : treeB vx ex = true) (hl : (notName l ex).length + 1 = ex.length) : drOk vx ex l = true ∧ drVec vx ex = vx ∧ drEs vx ex l = notName l ex := by
  unfold drOk drVec drEs
  rw [hx]
  simp
  omega

end Go.Proofs.YtepkicgnhjaokaaGreatDoor

namespace Go.Proofs.YtepkicgnhjaokaaGreatDoor
open Go.RowKit Go.Maps

theorem vec_range {vec : List Int} {es : List En} (h : treeB vec es = true) (j : Nat) : 0 ≤ vec.getD j 0 ∧ vec.getD j 0 ≤ 1000 := by
  have hv := (tree_parts h).1
  unfold vecB at hv
  simp only [Bool.and_eq_true, List.all_eq_true, decide_eq_true_eq] at hv
  by_cases hj : j < vec.length
  · rw [List.getD_eq_getElem?_getD, List.getElem?_eq_getElem hj]
    exact hv.2 _ (List.getElem_mem hj)
  · rw [List.getD_eq_getElem?_getD, List.getElem?_eq_none (by omega)]
    simp
theorem dropP {w : World} {t : Tt} (ht : Tx w t) {Ab : Option Addr} {l : List UInt8} {cb : Nat} (hB : BytesIn w 0 w.heap.size Ab l) (hl : l.length ≤ 1048576) : Calls Tryz.prog 12 #[.agg #[.slice t.AV t.vec.length t.cv, .slice t.A t.es.length t.c], .slice Ab l.length cb] w
    fun e w' => ∃ s : Tt, e = .returned (.tuple #[.agg #[.slice s.AV s.vec.length s.cv, .slice s.A s.es.length s.c], .bool (drOk t.vec t.es l)]) ∧ (s.vec = drVec t.vec t.es ∧ s.es = drEs t.vec t.es l ∧ Tx w' s) ∧ Below w.heap.size w w' :=
  (implDrop_any t.AV t.vec t.cv t.A t.es t.c Ab l cb w ht.v ht.e ht.lv ht.le ht.lb hB hl).mono fun _ _ ⟨AV, cv, A, c, he, ho, _, hb⟩ =>
    ⟨⟨AV, cv, _, A, c, _⟩, he, ⟨rfl, rfl, tx_own ho (drVec_len ht.lv) (drEs_len ht.le) (drEs_bulk ht.lb)⟩, hb⟩

set_option maxRecDepth 100000 in
set_option maxHeartbeats 4000000 in
theorem fnPuts_any (A : Option Addr) (c : Nat) (code : List UInt8) (w : World) (hA : BytesIn w 0 w.heap.size A code) (hn : code.length ≤ 9223372036854775807) (htab : Lib.TabIs Tryz.prog w "internal/strconv.uint64pow10" .u64 Lib.pow10Tab) :
    Calls Tryz.prog 3 #[.slice A code.length c] w fun e w' => e = .returned (.bool true) ∧ Below w.heap.size w w' := by
  have HTab := Lib.hid (Lib.tabBelow_of_tabIs htab)
  have HTb := Lib.hid (fun X (h : Below w.heap.size w X) => HTab.out X h)
  have HC := Lib.hid hA
  clear hA htab HTab
  have kc := fun (w : World) (C : Array Value) (n c : Nat) => Lib.run_convert_bytes_const (P := Tryz.prog) w 22 5 C n c Tryz.underlying22 Tryz.underlying5
  go_enter Tryz.func3, Tryz.ntmps3
  go_wp2_with fail
  have Hbel_1 := Lib.hid (Below.refl w.heap.size w)
  refine (drawPut_any A c code w HC.out hn).mono ?_
  rintro e w1 ⟨t, b, An, nm, cn, v, rfl, ht, ⟨hnl, hnb⟩, hb⟩
  have z_2 := hb.size
  have Hbel_3 := Lib.hid (Hbel_1.out.trans (hb.mono (by omega)))
  clear Hbel_1
  have HTt_4 := Lib.hid (ht.tx)
  have HN_5 := Lib.hid (hnb)
  clear hb
  have HL := Lib.hid hnl
  clear ht hnl hnb HC
  go_upto_region 2 with fail
  obtain ⟨W6_0, hW6_0⟩ : ∃ xW, xW = w1.alloc (.cells #[.slice t.AV t.vec.length t.cv, .slice t.A t.es.length t.c] 26) := ⟨_, rfl⟩
  have hZ6_0 : W6_0.heap.size = w1.heap.size + 1 := by rw [hW6_0]; simp
  have hx0 : Bx W6_0 (w1.heap.size) [.slice t.AV t.vec.length t.cv, .slice t.A t.es.length t.c] := by rw [hW6_0]; exact Bx.new' _ _ _ _ rfl
  have hb0 : Below w1.heap.size w1 W6_0 := by rw [hW6_0]; exact ((Below.refl _ _).alloc (by first | exact Nat.le_refl _ | (simp; done) | (simp; omega)) _)
  have hlt : w1.heap.size + 0 < W6_0.heap.size := by omega
  rw [← hW6_0]
  clear hW6_0 hZ6_0
  have z_7 := hb0.size
  have Hbel_8 := Lib.hid (Hbel_3.out.trans (hb0.mono (by omega)))
  have HTt_9 := Lib.hid (HTt_4.out.below hb0)
  have HN_10 := Lib.hid ((HN_5.out.keep fun _ _ h2 => hb0.cell h2).mono hb0.size)
  clear Hbel_3 HTt_4 HN_5
  have Hxt_11 := Lib.hid (hx0)
  clear hb0 hx0
  have hl_12 := hlt
  clear hlt
  have qxt_0 := Hxt_11.out 0 (by simp)
  have qxt_1 := Hxt_11.out 1 (by simp)
  have lxt : w1.heap.size < W6_0.heap.size := by omega
  simp only [List.getElem_cons_succ, List.getElem_cons_zero] at qxt_0 qxt_1
  go_wp2_with fail
  have hP := putX (cb := cn) HTt_9.out b v HN_10.out (by have := HL.out; omega)
  obtain ⟨o, ho⟩ : ∃ o, o = puOk t.vec t.es b nm v := ⟨_, rfl⟩
  rw [← ho] at hP
  have HO := Lib.hid ho
  clear ho
  refine (hP).mono ?_
  rintro e w2 ⟨x, rfl, ⟨hv, he, hx⟩, hb⟩
  clear qxt_0 qxt_1 lxt
  have z_13 := hb.size
  have Hbel_14 := Lib.hid (Hbel_8.out.trans (hb.mono (by omega)))
  have HTt_15 := Lib.hid (HTt_9.out.below hb)
  have HN_16 := Lib.hid ((HN_10.out.keep fun _ _ h2 => hb.cell h2).mono hb.size)
  have Hxt_17 := Lib.hid (Hxt_11.out.below hb (by omega))
  clear Hbel_8 HTt_9 HN_10 Hxt_11
  clear hb
  have HTx_18 := Lib.hid (hx)
  have HEx := Lib.hid (And.intro hv he)
  clear hv he hx hP
  go_upto_region 3 with fail
  obtain ⟨W19_0, hW19_0⟩ : ∃ xW, xW = w2.alloc (.cells #[.slice x.AV x.vec.length x.cv, .slice x.A x.es.length x.c] 26) := ⟨_, rfl⟩
  have hZ19_0 : W19_0.heap.size = w2.heap.size + 1 := by rw [hW19_0]; simp
  have hx0 : Bx W19_0 (w2.heap.size) [.slice x.AV x.vec.length x.cv, .slice x.A x.es.length x.c] := by rw [hW19_0]; exact Bx.new' _ _ _ _ rfl
  have hb0 : Below w2.heap.size w2 W19_0 := by rw [hW19_0]; exact ((Below.refl _ _).alloc (by first | exact Nat.le_refl _ | (simp; done) | (simp; omega)) _)
  have hlt : w2.heap.size + 0 < W19_0.heap.size := by omega
  rw [← hW19_0]
  clear hW19_0 hZ19_0
  have z_20 := hb0.size
  have Hbel_21 := Lib.hid (Hbel_14.out.trans (hb0.mono (by omega)))
  have HTt_22 := Lib.hid (HTt_15.out.below hb0)
  have HN_23 := Lib.hid ((HN_16.out.keep fun _ _ h2 => hb0.cell h2).mono hb0.size)
  have Hxt_24 := Lib.hid (Hxt_17.out.below hb0 (by omega))
  have HTx_25 := Lib.hid (HTx_18.out.below hb0)
  clear Hbel_14 HTt_15 HN_16 Hxt_17 HTx_18
  have Hxx_26 := Lib.hid (hx0)
  clear hb0 hx0
  have hl_27 := hlt
  clear hlt
  cases o with
  | false =>
    have hx0 : x.vec = [] := HEx.out.1.trans (pur_no HO.out.symm).1
    have qxx_0 := Hxx_26.out 0 (by simp)
    have qxx_1 := Hxx_26.out 1 (by simp)
    have lxx : w2.heap.size < W19_0.heap.size := by omega
    simp only [List.getElem_cons_succ, List.getElem_cons_zero] at qxx_0 qxx_1
    rw [hx0] at qxx_0
    simp only [List.length_nil] at qxx_0
    clear hx0
    go_wp2_with fail
    clear qxx_0 qxx_1 lxx
    refine (trees_any _ (HTb.out _ Hbel_21.out)).mono ?_
    rintro e wz ⟨rfl, hbz⟩
    have HBz := Lib.hid (Hbel_21.out.trans (hbz.mono (by omega)))
    clear hbz
    go_wp2_with fail
    go_ret
    exact ⟨rfl, HBz.out⟩
  | true =>
    have HY := Lib.hid (puts_yes HEx.out HO.out.symm)
    obtain ⟨bn, rfl⟩ := Int.eq_ofNat_of_zero_le HY.out.dev.1
    have hbn : (bn : Int) < (t.vec.length : Int) := HY.out.dev.2
    have hbn0 : (0 : Int) ≤ (bn : Int) := by omega
    have h12 : x.es.length ≤ 12 := HY.out.len
    have ht12 : t.es.length ≤ 1048576 := (HTt_22.out).le
    have lXT : w1.heap.size < W19_0.heap.size := by omega
    have lXX : w2.heap.size < W19_0.heap.size := by omega
    have HB0 := Lib.hid (show ∀ X, Below W19_0.heap.size W19_0 X → (X.cell? ⟨w1.heap.size, 0, none⟩ = some (.slice t.AV t.vec.length t.cv) ∧ X.cell? ⟨w1.heap.size, 1, none⟩ = some (.slice t.A t.es.length t.c)) ∧ (X.cell? ⟨w2.heap.size, 0, none⟩ = some (.slice x.AV x.vec.length x.cv) ∧ X.cell? ⟨w2.heap.size, 1, none⟩ = some (.slice x.A x.es.length x.c)) from fun X hX =>
      ⟨⟨(hX.cell (p := ⟨w1.heap.size, 0, none⟩) lXT).trans (Hxt_24.out 0 (by simp)), (hX.cell (p := ⟨w1.heap.size, 1, none⟩) lXT).trans (Hxt_24.out 1 (by simp))⟩, (hX.cell (p := ⟨w2.heap.size, 0, none⟩) lXX).trans (Hxx_26.out 0 (by simp)), (hX.cell (p := ⟨w2.heap.size, 1, none⟩) lXX).trans (Hxx_26.out 1 (by simp))⟩)
    obtain ⟨⟨b0, b1⟩, b2, b3⟩ := HB0.out _ (Below.refl _ _)
    go_upto_region 7 with fail
    clear b0 b1 b2 b3
    go_wp2_with fail
    go_loopw [9, 10] (fun m i wr => ∃ k : Nat, k ≤ x.es.length ∧ m = .int .i64 ((ofName nm (x.es.take k)).length : Nat) ∧ i = .int .i64 k ∧ Below W19_0.heap.size W19_0 wr) (fun _ i _ => x.es.length - (intOf i).toNat)
    case atStart => exact ⟨0, Nat.zero_le _, rfl, rfl, Below.refl _ _⟩
    case round =>
      obtain ⟨k, hk, rfl, rfl, hbr⟩ := hrel
      obtain ⟨wo, rfl⟩ : ∃ X : World, X = wr := ⟨_, rfl⟩
      have HBr := Lib.hid hbr
      have hzr := hbr.size
      clear hbr
      obtain ⟨⟨b0, b1⟩, b2, b3⟩ := HB0.out wo HBr.out
      by_cases hlt : k < x.es.length
      · obtain ⟨bt, ot, hAt, _, hbt, hct⟩ := (HTx_25.out).e (by omega)
        obtain ⟨NA, cA, e0, e1, e2, e3, eb⟩ := (hct k hlt).keep (Nat.zero_le _) hbt (fun p _ hp => HBr.out.cell hp)
        have HAt := Lib.hid hAt
        clear hAt
        rw [HAt.out] at b3
        have HSc := Lib.hid (ofName_succ nm x.es k hlt)
        have HNw := Lib.hid (HY.out.new k hlt)
        obtain ⟨f, hf⟩ : ∃ f, f = x.es[k] := ⟨_, rfl⟩
        have HSc2 := HSc.out
        have HNw2 := HNw.out
        rw [← hf] at e0 e1 e2 e3 eb HSc2 HNw2
        have hltI : (k : Int) < (x.es.length : Int) := by omega
        have hs := sameN_any f.name nm NA An cA cn 0 0 W19_0.heap.size W19_0.heap.size wo eb (HN_23.out.keep fun p _ hp => HBr.out.cell hp)
        have HSc := Lib.hid HSc2
        have HNw := Lib.hid HNw2
        obtain ⟨m0, hm0⟩ : ∃ y, y = (ofName nm (x.es.take k)).length := ⟨_, rfl⟩
        have hm12 : m0 ≤ 12 := by
          rw [hm0]
          have h1 := ofName_le nm (x.es.take k)
          have h2 : (x.es.take k).length ≤ x.es.length := by simp; omega
          omega
        have HM0 := Lib.hid hm0
        rw [← hm0]
        have lbt : bt < wo.heap.size := by omega
        clear hf HSc2 HNw2 hct hm0
        go_wp2_with fail
        refine hs.mono ?_
        rintro e w5 ⟨rfl, hb5⟩
        have HB5 := Lib.hid (HBr.out.trans (hb5.mono hzr))
        obtain ⟨⟨b0, b1⟩, b2, b3⟩ := HB0.out w5 HB5.out
        rw [HAt.out] at b3
        clear hs
        cases hnn : decide (f.name = nm) with
        | false =>
          have hne : ¬ f.name = nm := of_decide_eq_false hnn
          have hst : ((ofName nm (x.es.take (k + 1))).length : Int) = m0 := by
            rw [HSc.out, HM0.out]
            simp [hne]
          have HSt := Lib.hid hst
          clear hst hb5
          go_wp2_with fail
          go_roundw
          case rel => exact ⟨k + 1, by omega, by rw [HSt.out], by go_num, HB5.out⟩
          case measure => simp [intOf]; omega
        | true =>
          have hne : f.name = nm := of_decide_eq_true hnn
          have hst : ((ofName nm (x.es.take (k + 1))).length : Int) = m0 + 1 := by
            rw [HSc.out, HM0.out]
            simp [hne]
          have HSt := Lib.hid hst
          obtain ⟨hv1, hd1, hn1⟩ := HNw.out hne
          rw [hv1] at e1
          rw [hd1] at e2
          rw [hn1, Int.toNat_natCast] at e3
          obtain ⟨bv, ov, hVt, _, hbv, hcv⟩ := (HTt_22.out).v (by omega)
          have HVt := Lib.hid hVt
          rw [hVt] at b0
          obtain ⟨vb, hvb⟩ : ∃ y, y = t.vec.getD bn 0 := ⟨_, rfl⟩
          have hbN : bn < t.vec.length := by omega
          have hvg : t.vec[bn] = vb := by rw [hvb, List.getD_eq_getElem?_getD, List.getElem?_eq_getElem hbN]; rfl
          have d0 := (HB5.out.cell (p := ⟨bv, ov + bn, none⟩) hbv).trans (hcv bn hbN)
          rw [hvg] at d0
          rw [← hvb] at e3
          have hvr := vec_range HY.out.ht bn
          rw [← hvb] at hvr
          have hz5 := hb5.size
          have x0 : ∀ y : Kp w5, y.val.cell? ⟨w1.heap.size, 0, none⟩ = some (.slice (some ⟨bv, ov, none⟩) t.vec.length t.cv) := fun y => y.cell b0
          have x3 : ∀ y : Kp w5, y.val.cell? ⟨w2.heap.size, 1, none⟩ = some (.slice (some ⟨bt, ot, none⟩) x.es.length x.c) := fun y => y.cell b3
          have y1 : ∀ y : Kp w5, y.val.cell? ⟨bt, ot + k * 4 + 1, none⟩ = some (.int .i64 v) := fun y => y.cell ((hb5.cell (p := ⟨bt, ot + k * 4 + 1, none⟩) lbt).trans e1)
          have y2 : ∀ y : Kp w5, y.val.cell? ⟨bt, ot + k * 4 + 2, none⟩ = some (.int .i64 bn) := fun y => y.cell ((hb5.cell (p := ⟨bt, ot + k * 4 + 2, none⟩) lbt).trans e2)
          have y3 : ∀ y : Kp w5, y.val.cell? ⟨bt, ot + k * 4 + 3, none⟩ = some (.int .i64 (vb + 1)) := fun y => y.cell ((hb5.cell (p := ⟨bt, ot + k * 4 + 3, none⟩) lbt).trans e3)
          have y4 : ∀ y : Kp w5, y.val.cell? ⟨bv, ov + bn, none⟩ = some (.int .i64 vb) := fun y => y.cell d0
          have hvv : (v != v) = false := by simp
          have hbb : ((bn : Int) != (bn : Int)) = false := by simp
          have hww : (vb + 1 != vb + 1) = false := by simp
          have hwr : IntKind.i64.wrap (vb + 1) = vb + 1 := by rw [IntKind.wrap_i64]; omega
          clear hst hb5 hVt hvb hvg hcv d0 hv1 hd1 hn1 e0 e1 e2 e3 eb hne b1 b2 hvr
          go_upto_region 13 with fail
          refine wp_region_kept (by kernel_rfl) (by kernel_rfl) ?_
          repeat (go_big_quiet_step (fail))
          refine wpQuiet_nil ?_
          rintro _ ⟨y, rfl⟩
          have HB6 := Lib.hid (HB5.out.trans (y.ok.mono (by omega)))
          clear x0 x3 y1 y2 y3 y4
          go_wp2_with fail
          go_roundw
          case rel => exact ⟨k + 1, by omega, by rw [HSt.out], by go_num, HB6.out⟩
          case measure => simp [intOf]; omega
      · obtain rfl : k = x.es.length := by omega
        have hone : (((ofName nm (x.es.take x.es.length)).length : Nat) : Int) = 1 := by rw [List.take_length, HY.out.one]; rfl
        rw [hone]
        clear hone hk hlt
        go_wp2_with fail
        go_loopw [11] (fun i wr => ∃ j : Nat, j ≤ t.es.length ∧ i = .int .i64 j ∧ Below W19_0.heap.size W19_0 wr) (fun i _ => t.es.length - (intOf i).toNat)
        case atStart => exact ⟨0, Nat.zero_le _, rfl, HBr.out⟩
        case round =>
          clear b0 b1 b2 b3
          obtain ⟨j, hj, rfl, hbq⟩ := hrel
          obtain ⟨wq, rfl⟩ : ∃ X : World, X = wr := ⟨_, rfl⟩
          have HBq := Lib.hid hbq
          have hzq := hbq.size
          clear hbq
          obtain ⟨⟨b0, b1⟩, b2, b3⟩ := HB0.out wq HBq.out
          by_cases hlt2 : j < t.es.length
          · obtain ⟨bt, ot, hAt, _, hbt, hct⟩ := (HTt_22.out).e (by omega)
            have HAt := Lib.hid hAt
            rw [hAt] at b1
            have hfd := HY.out.all j hlt2
            obtain ⟨e, he⟩ : ∃ e, e = t.es[j] := ⟨_, rfl⟩
            have hce := hct j hlt2
            rw [← he] at hfd hce
            have HCe := Lib.hid hce
            obtain ⟨NA, cA, e0, e1, e2, e3, eb⟩ := hce.keep (Nat.zero_le _) hbt (fun p _ hp => HBq.out.cell hp)
            have HFd := Lib.hid hfd
            have hltJ : (j : Int) < (t.es.length : Int) := by omega
            have hs := sameN_any e.name nm NA An cA cn 0 0 W19_0.heap.size W19_0.heap.size wq eb (HN_23.out.keep fun p _ hp => HBq.out.cell hp)
            have lbt : bt < wq.heap.size := by omega
            obtain ⟨nn, hnn⟩ : ∃ q, q = decide (e.name = nm) := ⟨_, rfl⟩
            rw [← hnn] at hs
            have HNn := Lib.hid hnn
            clear he hce hct hfd hAt hnn
            go_wp2_with fail
            refine hs.mono ?_
            rintro r w5 ⟨rfl, hb5⟩
            have HB5 := Lib.hid (HBq.out.trans (hb5.mono hzq))
            clear hs hb5 e0 e1 e2 e3 eb b0 b1 b2 b3
            go_wp2_with fail
            go_loopw [12, 13] (fun fd m wr => ∃ k : Nat, k ≤ x.es.length ∧ fd = .bool (fndB nm e (x.es.take k)) ∧ m = .int .i64 k ∧ Below W19_0.heap.size W19_0 wr) (fun _ m _ => x.es.length - (intOf m).toNat)
            case atStart => exact ⟨0, Nat.zero_le _, by rw [fndB_nil, HNn.out], rfl, HB5.out⟩
            case round =>
              obtain ⟨k, hk, rfl, rfl, hbz⟩ := hrel
              obtain ⟨wz, rfl⟩ : ∃ X : World, X = wr := ⟨_, rfl⟩
              have HBz := Lib.hid hbz
              have hzz := hbz.size
              clear hbz
              obtain ⟨⟨b0, b1⟩, b2, b3⟩ := HB0.out wz HBz.out
              by_cases hlt3 : k < x.es.length
              · obtain ⟨bx, ox, hAx, _, hbx, hcx⟩ := (HTx_25.out).e (by omega)
                rw [hAx] at b3
                rw [HAt.out] at b1
                have HFs := Lib.hid (fndB_succ nm e x.es hlt3)
                have hcf := hcx k hlt3
                have HFs2 := HFs.out
                obtain ⟨f, hf⟩ : ∃ f, f = x.es[k] := ⟨_, rfl⟩
                rw [← hf] at hcf HFs2
                have HFs := Lib.hid HFs2
                obtain ⟨NX, cX, f0, f1, f2, f3, fb⟩ := hcf.keep (Nat.zero_le _) hbx (fun p _ hp => HBz.out.cell hp)
                obtain ⟨NA, cA, e0, e1, e2, e3, eb⟩ := HCe.out.keep (Nat.zero_le _) hbt (fun p _ hp => HBz.out.cell hp)
                have hltK : (k : Int) < (x.es.length : Int) := by omega
                have x1 : ∀ y : Kp wz, y.val.cell? ⟨w1.heap.size, 1, none⟩ = some (.slice (some ⟨bt, ot, none⟩) t.es.length t.c) := fun y => y.cell b1
                have x3 : ∀ y : Kp wz, y.val.cell? ⟨w2.heap.size, 1, none⟩ = some (.slice (some ⟨bx, ox, none⟩) x.es.length x.c) := fun y => y.cell b3
                have y0 : ∀ y : Kp wz, y.val.cell? ⟨bx, ox + k * 4, none⟩ = some (.slice NX f.name.length cX) := fun y => y.cell f0
                have y2 : ∀ y : Kp wz, y.val.cell? ⟨bx, ox + k * 4 + 2, none⟩ = some (.int .i64 f.dev) := fun y => y.cell f2
                have y3 : ∀ y : Kp wz, y.val.cell? ⟨bx, ox + k * 4 + 3, none⟩ = some (.int .i64 f.num) := fun y => y.cell f3
                have z0 : ∀ y : Kp wz, y.val.cell? ⟨bt, ot + j * 4, none⟩ = some (.slice NA e.name.length cA) := fun y => y.cell e0
                have z2 : ∀ y : Kp wz, y.val.cell? ⟨bt, ot + j * 4 + 2, none⟩ = some (.int .i64 e.dev) := fun y => y.cell e2
                have z3 : ∀ y : Kp wz, y.val.cell? ⟨bt, ot + j * 4 + 3, none⟩ = some (.int .i64 e.num) := fun y => y.cell e3
                have HS0 := Lib.hid (fun y : Kp wz => sameN_any f.name e.name NX NA cX cA 0 0 W19_0.heap.size W19_0.heap.size y.val (fb.keep fun p _ hp => y.ok.cell (by omega)) (eb.keep fun p _ hp => y.ok.cell (by omega)))
                clear HFs2 hcf hcx hf hAx f0 f1 f2 f3 fb e0 e1 e2 e3 eb b0 b1 b2
                cases hfb : fndB nm e (x.es.take k) with
                | true =>
                  have HFb := Lib.hid hfb
                  clear hfb
                  go_upto_region 22 with fail
                  clear b3
                  refine wp_region_kept (by kernel_rfl) (by kernel_rfl) ?_
                  repeat (go_big_quiet_step (fail))
                  refine wpQuiet_nil ?_
                  rintro _ ⟨y, rfl⟩
                  have HB6 := Lib.hid (HBz.out.trans (y.ok.mono (by omega)))
                  clear x1 x3 y0 y2 y3 z0 z2 z3
                  go_wp2_with fail
                  go_roundw
                  case rel => exact ⟨k + 1, by omega, by rw [HFs.out]; simp [HFb.out], by go_num, HB6.out⟩
                  case measure => simp [intOf]; omega
                | false =>
                  have HFb := Lib.hid hfb
                  clear hfb
                  cases hne : decide (f.name = e.name) with
                  | false =>
                    have HNe := Lib.hid hne
                    have HS := Lib.hid (fun y : Kp wz => show Calls Tryz.prog 11 #[.slice NX f.name.length cX, .slice NA e.name.length cA] y.val (fun e w' => e = .returned (.bool false) ∧ Below y.val.heap.size y.val w') from (HS0.out y).mono fun _ _ ⟨h1, h2⟩ => ⟨by rw [h1, hne], h2⟩)
                    clear hne
                    go_upto_region 22 with fail
                    clear b3
                    refine wp_region_kept (by kernel_rfl) (by kernel_rfl) ?_
                    repeat (go_big_quiet_step ((go_at_call 11; refine kept_of (v := .bool false) (HS.out _))))
                    refine wpQuiet_nil ?_
                    rintro _ ⟨y, rfl⟩
                    have HB6 := Lib.hid (HBz.out.trans (y.ok.mono (by omega)))
                    clear x1 x3 y0 y2 y3 z0 z2 z3
                    go_wp2_with fail
                    go_roundw
                    case rel => exact ⟨k + 1, by omega, by rw [HFs.out]; simp [HFb.out, HNe.out], by go_num, HB6.out⟩
                    case measure => simp [intOf]; omega
                  | true =>
                    have HNe := Lib.hid hne
                    have HS := Lib.hid (fun y : Kp wz => show Calls Tryz.prog 11 #[.slice NX f.name.length cX, .slice NA e.name.length cA] y.val (fun e w' => e = .returned (.bool true) ∧ Below y.val.heap.size y.val w') from (HS0.out y).mono fun _ _ ⟨h1, h2⟩ => ⟨by rw [h1, hne], h2⟩)
                    clear hne
                    cases hnu : (f.num == e.num) with
                    | false =>
                      go_upto_region 22 with fail
                      clear b3
                      refine wp_region_kept (by kernel_rfl) (by kernel_rfl) ?_
                      repeat (go_big_quiet_step ((go_at_call 11; refine kept_of (v := .bool true) (HS.out _))))
                      refine wpQuiet_nil ?_
                      rintro _ ⟨y, rfl⟩
                      have HB6 := Lib.hid (HBz.out.trans (y.ok.mono (by omega)))
                      clear x1 x3 y0 y2 y3 z0 z2 z3
                      go_wp2_with fail
                      go_roundw
                      case rel => exact ⟨k + 1, by omega, by rw [HFs.out]; simp [HFb.out, HNe.out, hnu], by go_num, HB6.out⟩
                      case measure => simp [intOf]; omega
                    | true =>
                      cases hde : (f.dev == e.dev) with
                      | false =>
                        go_upto_region 22 with fail
                        clear b3
                        refine wp_region_kept (by kernel_rfl) (by kernel_rfl) ?_
                        repeat (go_big_quiet_step ((go_at_call 11; refine kept_of (v := .bool true) (HS.out _))))
                        refine wpQuiet_nil ?_
                        rintro _ ⟨y, rfl⟩
                        have HB6 := Lib.hid (HBz.out.trans (y.ok.mono (by omega)))
                        clear x1 x3 y0 y2 y3 z0 z2 z3
                        go_wp2_with fail
                        go_roundw
                        case rel => exact ⟨k + 1, by omega, by rw [HFs.out]; simp [HFb.out, HNe.out, hnu, hde], by go_num, HB6.out⟩
                        case measure => simp [intOf]; omega
                      | true =>
                        go_upto_region 22 with fail
                        clear b3
                        refine wp_region_kept (by kernel_rfl) (by kernel_rfl) ?_
                        repeat (go_big_quiet_step ((go_at_call 11; refine kept_of (v := .bool true) (HS.out _))))
                        refine wpQuiet_nil ?_
                        rintro _ ⟨y, rfl⟩
                        have HB6 := Lib.hid (HBz.out.trans (y.ok.mono (by omega)))
                        clear x1 x3 y0 y2 y3 z0 z2 z3
                        go_wp2_with fail
                        go_roundw
                        case rel => exact ⟨k + 1, by omega, by rw [HFs.out]; simp [HFb.out, HNe.out, hnu, hde], by go_num, HB6.out⟩
                        case measure => simp [intOf]; omega
              · obtain rfl : k = x.es.length := by omega
                have hfd : fndB nm e (x.es.take x.es.length) = true := by rw [List.take_length]; exact HFd.out
                rw [hfd]
                clear hfd hk hlt3
                go_wp2_with fail
                go_roundw
                case rel => exact ⟨j + 1, by omega, by go_num, HBz.out⟩
                case measure => simp [intOf]; omega
          · obtain rfl : j = t.es.length := by omega
            clear hj hlt2
            have HD := Lib.hid (puts_drop HY.out.hx HY.out.dlen)
            have hP := dropP (cb := cn) (Tx.below HTx_25.out HBq.out) ((HN_23.out.keep fun p _ hp => HBq.out.cell hp).mono hzq) (by have := HL.out; omega)
            rw [HD.out.1] at hP
            go_wp2_with fail
            refine hP.mono ?_
            rintro r w5 ⟨y, rfl, ⟨hv, he, hy⟩, hb5⟩
            rw [HD.out.2.1] at hv
            rw [HD.out.2.2] at he
            have HB5 := Lib.hid (HBq.out.trans (hb5.mono hzq))
            have HYv := Lib.hid hv
            have HYe := Lib.hid he
            clear hP b0 b1 b2 b3 hv he hb5
            go_upto_region 26 with fail
            obtain ⟨W6, hW6⟩ : ∃ X, X = w5.alloc (.cells #[.slice y.AV y.vec.length y.cv, .slice y.A y.es.length y.c] 26) := ⟨_, rfl⟩
            have hb6 : Below w5.heap.size w5 W6 := by rw [hW6]; exact (Below.refl _ _).alloc (Nat.le_refl _) _
            obtain ⟨q0, q1, _⟩ : W6.cell? ⟨w5.heap.size, 0, none⟩ = some (.slice y.AV y.vec.length y.cv) ∧ W6.cell? ⟨w5.heap.size, 1, none⟩ = some (.slice y.A y.es.length y.c) ∧ ∀ o, W6.frozen? ⟨w5.heap.size, o, none⟩ = false := by rw [hW6]; exact two_new _ _ _ _
            rw [← hW6]
            have lw6 : w5.heap.size < W6.heap.size := World.block_lt_of_cell? W6 _ q0
            have HB6 := Lib.hid (HB5.out.trans (hb6.mono HB5.out.size))
            have HYx := Lib.hid (fun X (hX : Below W6.heap.size W6 X) => Tx.below (Tx.below hy hb6) hX)
            have HQ := Lib.hid (fun X (hX : Below W6.heap.size W6 X) => And.intro ((hX.cell (p := ⟨w5.heap.size, 0, none⟩) lw6).trans q0) ((hX.cell (p := ⟨w5.heap.size, 1, none⟩) lw6).trans q1))
            have HC := Lib.hid (fun X (hX : Below W6.heap.size W6 X) => show Below W19_0.heap.size W19_0 X from HB6.out.trans (hX.mono HB6.out.size))
            have HU := Lib.hid (Below.refl W6.heap.size W6)
            have hyl : (y.es.length : Int) = (x.es.length : Int) - 1 := by
              have := HY.out.dlen
              rw [HYe.out]
              omega
            have hyq : ((y.es.length : Int) == (x.es.length : Int) - 1) = true := by rw [hyl]; simp
            have HYl := Lib.hid hyl
            have hx1 : 1 ≤ x.es.length := by have := HY.out.dlen; omega
            clear hW6 hb6 hy q0 q1 hyl
            obtain ⟨⟨b0, b1⟩, b2, b3⟩ := HB0.out W6 HB6.out
            go_wp2_with fail
            have hTo := implTreeOk_any x.AV x.vec x.cv x.A x.es x.c W6 (Tx.below HTx_25.out HB6.out).v (Tx.below HTx_25.out HB6.out).e (HTx_25.out).lv (HTx_25.out).le (HTx_25.out).lb
            rw [HY.out.hx] at hTo
            refine hTo.mono ?_
            rintro r w7 ⟨rfl, hb7⟩
            have HU7 := Lib.hid hb7
            obtain ⟨⟨b0, b1⟩, b2, b3⟩ := HB0.out w7 (HC.out w7 hb7)
            clear hb7 hTo
            go_wp2_with fail
            have hVb := implVecBelow_any t.AV x.AV t.vec x.vec t.cv x.cv w7 (Tx.below HTt_22.out (HC.out w7 HU7.out)).v (Tx.below HTx_25.out (HC.out w7 HU7.out)).v
            rw [HY.out.bel] at hVb
            refine hVb.mono ?_
            rintro r w8 ⟨rfl, hb8⟩
            have HU8 := Lib.hid (HU7.out.trans (hb8.mono HU7.out.size))
            obtain ⟨⟨b0, b1⟩, b2, b3⟩ := HB0.out w8 (HC.out w8 HU8.out)
            obtain ⟨q0, q1⟩ := HQ.out w8 HU8.out
            clear hb8 hVb
            go_wp2_with fail
            have hSi := sameI_any y.AV x.AV y.vec x.vec y.cv x.cv w8 (HYx.out w8 HU8.out).v (Tx.below HTx_25.out (HC.out w8 HU8.out)).v (HYx.out w8 HU8.out).lv (HTx_25.out).lv
            rw [decide_eq_true HYv.out] at hSi
            refine hSi.mono ?_
            rintro r w9 ⟨rfl, hb9⟩
            have HU9 := Lib.hid (HU8.out.trans (hb9.mono HU8.out.size))
            clear hb9 hSi
            go_wp2_with fail
            have hNo := implNameOk_any An nm cn w9 ((HN_23.out.keep fun p _ hp => (HC.out w9 HU9.out).cell hp).mono (HC.out w9 HU9.out).size) (by have := HL.out; omega)
            rw [HY.out.nm] at hNo
            refine hNo.mono ?_
            rintro r wa ⟨rfl, hba⟩
            have HUa := Lib.hid (HU9.out.trans (hba.mono HU9.out.size))
            clear hba hNo
            have HBa := Lib.hid (Below.trans Hbel_21.out ((HC.out wa HUa.out).mono (by omega)))
            go_wp2_with fail
            refine (trees_any _ (HTb.out _ HBa.out)).mono ?_
            rintro r wz ⟨rfl, hbz⟩
            have HBf := Lib.hid (HBa.out.trans (hbz.mono (by have := HBa.out.size; omega)))
            clear hbz
            go_wp2_with fail
            go_ret
            exact ⟨rfl, HBf.out⟩

end Go.Proofs.YtepkicgnhjaokaaGreatDoor

namespace Go.Proofs.YtepkicgnhjaokaaGreatDoor
open Go.ChangeShapes Go.WideShapes Go.ChangeAt Go.RowKit

theorem Tryz.ownFnPuts : ownKnob Tryz.prog.godebug = none := by kernel_rfl

set_option maxRecDepth 100000 in
theorem fnPuts_lifted (os : Os) (started : os.Started) (H : Type) (enc : TypeId × Value → H) :
    ReturnsInHanded {} Tryz.checked os 3 .any (fun w args => (Rows.fnPutsSpec.pre enc Tryz.prog Tryz.f3 [] false w args ∧ laidMetH Tryz.prog laid3 w) ∧ sizedMet enc Tryz.prog Tryz.f3 (OpenSpec.ofChange Rows.fnPutsSpec) false w args)
      (Rows.fnPutsSpec.post enc Tryz.prog Tryz.f3 false true false false) := by
  refine returnsInHanded_of_change_and (C := Tryz.checked) (X := fun w _ => laidMetH Tryz.prog laid3 w) (fun _ _ _ hh h => h.of_heap hh) Tryz.ownFnPuts started (by kernel_rfl) Tryz.func3
    (ChangeSpec.witness_shaped (enc := enc) (C := Tryz.checked) (os := os) (X := fun w _ => laidMetH Tryz.prog laid3 w) false (World.doorLaid Tryz.prog 24 os) #[.slice none 0 0] 8 rfl (World.shaped_of_RefB (by kernel_rfl) (by kernel_rfl)) (by kernel_rfl) (by kernel_rfl) (by kernel_rfl) (door_met os _)) ?_
  intro W base args ds gs before hval0 hW _ _ hL _
  have hval : ∀ (j : Nat) t v, Tryz.f3.params[j]? = some t → args[j]? = some v → Value.okWide Tryz.prog W .any base t v := hval0
  have hW' := hW
  obtain ⟨p, q, hA0, hV, rfl, _, _⟩ := hW
  have hA : DataW.TrodAll enc Tryz.prog W 0 (fun _ => true) true Tryz.f3.params.toList args.toList ds p := hA0
  rw [Tryz.params3] at hA hval
  obtain ⟨v0, d0, rfl, rfl, h0⟩ := trodAll_one hA
  obtain ⟨rfl, rfl⟩ := trodVars_none hV
  have h0k := h0
  obtain ⟨A, l, c, rfl, hlen, hts⟩ := open_byteS (hval 0 22 v0 rfl rfl) h0
  clear hA0 hval0
  have htab := pow10_of_laid hL
  simp only [List.append_nil] at hW'
  have hlt : ∀ x ∈ p, x.block < W.heap.size := fun x hx => by simpa using hW'.lt x (by simp [hx])
  refine (fnPuts_any A c l W hts hlen htab).mono fun e W' ⟨he, hb⟩ => ?_
  subst he
  exact ⟨_, rfl, _, _, _, [], p, [], hW', trodAll_mk1 (shut_bool Tryz.underlying4 _), trodAll_mk1 (Below.trod Tryz.laidOut (by kernel_rfl) (of_decide_eq_true (by kernel_rfl)) h0k hb hlt), rfl, hb.frame _, fun h => by cases h⟩

theorem fnPuts_holds : Rows.FnPutsSaid :=
  OpenClaim.holds_of_wide 3 Tryz.f3 rfl rfl rfl rfl rfl rfl rfl ⟨rfl, rfl, rfl, rfl, rfl⟩ rfl rfl rfl rfl rfl (by kernel_rfl) Tryz.func3 (by kernel_rfl)
    (of_decide_eq_true (by kernel_rfl)) (by unfold Func.isWrapper; first | (rw [if_pos (by decide +kernel)]; kernel_rfl) | (rw [if_neg (by decide +kernel)]; exact ⟨rfl, rfl⟩))
    (fun os started H enc _ => fnPuts_lifted os started H enc)

end Go.Proofs.YtepkicgnhjaokaaGreatDoor
