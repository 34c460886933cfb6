/-
  Several texts in one: PutI, Put, Rts, OrdN, MgI, MgP, MgM, MgS.
-/
import Derived.Test.YtepkicgnhjaokaaGreatDoorGPs
import Derived.Test.YtepkicgnhjaokaaGreatDoorGSf
import Derived.Test.YtepkicgnhjaokaaGreatDoorGMgA
import Derived.Test.YtepkicgnhjaokaaGreatDoorFit
import Derived.Test.YtepkicgnhjaokaaGreatDoorNameS
import Derived.Test.YtepkicgnhjaokaaGreatDoorStep
import Derived.Deep.RegionLaw
import Derived.Test.YtepkicgnhjaokaaGreatDoorTrO
import Derived.Test.YtepkicgnhjaokaaGreatDoorRdTr
import Derived.StillTailTactics
import Derived.BigGuardPart
import Derived.Shelf.SlSortCmp.NoneTotal
import Derived.Test.YtepkicgnhjaokaaGreatDoorGVec
import Derived.Test.YtepkicgnhjaokaaGreatDoorGL3
namespace Go.Proofs.YtepkicgnhjaokaaGreatDoor
open Go.RowKit Go.Maps

theorem puV_get {vec : List Int} {j i : Nat} (hj : j < vec.length) (hi : i < vec.length) : (puV vec (j : Int)).getD i 0 = if i = j then vec.getD j 0 + 1 else vec.getD i 0 := by
  unfold puV
  rw [Int.toNat_natCast, List.getD_eq_getElem?_getD, List.getD_eq_getElem?_getD, List.getD_eq_getElem?_getD, List.getElem?_set]
  by_cases h : j = i
  · subst h; simp [hj]
  · rw [if_neg h, if_neg (fun e => h e.symm)]
theorem own_one4e {w : World} {base g : Nat} {e : TypeId} {v0 v1 v2 v3 : Value} (hg : base ≤ g) (hb : w.heap[g]? = some (.cells #[v0, v1, v2, v3] e (0, 0))) : w.ownsRow base e 4 (.slice (some ⟨g, 0, none⟩) 1 1) 1 [v0, v1, v2, v3] :=
  ⟨by simp, .inr ⟨g, 1, _, rfl, hg, hb, Nat.le_refl _, by unfold maxLen; omega, by simp, by simp⟩⟩
theorem own_setBelow {w : World} {base : Nat} {e : TypeId} {size n : Nat} {v : Value} {xs : List Value} (h : w.ownsRow base e size v n xs) {a : Addr} (ha : a.block < base) (u : Value) : (w.setCell a u).ownsRow base e size v n xs := by
  obtain ⟨h0, hh | ⟨g, cap, cur, hv, hg, hb, hr⟩⟩ := h
  · exact ⟨h0, .inl hh⟩
  · exact ⟨h0, .inr ⟨g, cap, cur, hv, hg, (Below.heap_setCell _ _ _ _ (by omega)).trans hb, hr⟩⟩
theorem pu_no {vec : List Int} {es : List En} {b val : Int} {l : List UInt8} (h : puOk vec es b l val = false) : puVec vec es b l val = [] ∧ puEs vec es b l val = [] ∧ puOk vec es b l val = false :=
  ⟨by unfold puVec; rw [if_neg (by simp [h])], by unfold puEs; rw [if_neg (by simp [h])], h⟩

/-- The tree's variable at bt, as long as the region runs; nothing else below base has turned. -/
structure P5 (W4 : World) (bt base : Nat) (v0 v1 v2 v3 : Int) (sl : Value) (j : Nat) (y : Int) (X : World) : Prop where
  c : Bx X bt [.int .i64 v0, .int .i64 v1, .int .i64 v2, .int .i64 v3, sl]
  cj : X.cell? ⟨bt, j, none⟩ = some (.int .i64 y)
  f : ∀ o, X.frozen? ⟨bt, o, none⟩ = false
  bel : Below base W4 X
  lt : bt < base
  le : base ≤ X.heap.size
section
variable {W4 X Y : World} {bt base j : Nat} {v0 v1 v2 v3 y : Int} {sl : Value}
theorem P5.below (h : P5 W4 bt base v0 v1 v2 v3 sl j y X) (hb : Below X.heap.size X Y) : P5 W4 bt base v0 v1 v2 v3 sl j y Y :=
  have hl := h.lt
  have he := h.le
  ⟨h.c.below hb (by omega), (hb.cell (p := ⟨bt, j, none⟩) (by show bt < _; omega)).trans h.cj, fun o => (hb.frozen (p := ⟨bt, o, none⟩) (by show bt < _; omega)).trans (h.f o), h.bel.trans (hb.mono he), hl, Nat.le_trans he hb.size⟩
theorem P5.alloc (h : P5 W4 bt base v0 v1 v2 v3 sl j y X) (o : Obj) : P5 W4 bt base v0 v1 v2 v3 sl j y (X.alloc o) := h.below ((Below.refl _ _).alloc (Nat.le_refl _) o)
theorem P5.drew (h : P5 W4 bt base v0 v1 v2 v3 sl j y X) : P5 W4 bt base v0 v1 v2 v3 sl j y X.drew := h.below (Below.refl _ _).drew
theorem P5.grown (h : P5 W4 bt base v0 v1 v2 v3 sl j y X) {row : Option Nat} (hg : X.grownBy Y row) (hr : ∀ k, row = some k → base ≤ k) : P5 W4 bt base v0 v1 v2 v3 sl j y Y := by
  have hl := h.lt
  have he := h.le
  have hblk : Y.heap[bt]? = X.heap[bt]? := hg.block bt (by omega) (fun e => by have := hr bt e.symm; omega)
  exact ⟨fun i hi => (World.cell?_of_block hblk).trans (h.c i hi), (World.cell?_of_block hblk).trans h.cj, fun o => (World.frozen?_of_block hblk).trans (h.f o), h.bel.grown hg he (fun k hk => hr k hk), hl, Nat.le_trans he hg.size⟩
end
theorem heap_newE {w : World} {n : Nat} (o : Obj) (h : w.heap.size = n) : (w.alloc o).heap[n]? = some o := by
  subst h
  exact heap_alloc_new w o
theorem heap_drewE {w : World} {n : Nat} {x : Obj} (h : w.heap[n]? = some x) : w.drew.heap[n]? = some x := h

set_option maxRecDepth 100000 in
set_option maxHeartbeats 4000000 in
theorem implPut_any (AV : Option Addr) (vec : List Int) (cv : Nat) (A : Option Addr) (es : List En) (c : Nat) (b : Int) (Ab : Option Addr) (l : List UInt8) (cb : Nat) (val : Int) (w : World) (hV : IntsIn w 0 w.heap.size AV vec) (hA : EnsIn w 0 w.heap.size A es) (_hv : vec.length ≤ 1048576) (hn : es.length ≤ 1048576) (hbk : ebulk es ≤ 1048576) (hB : BytesIn w 0 w.heap.size Ab l) (hbl : l.length ≤ 1048576) :
    Calls Tryz.prog 9 #[.agg #[.slice AV vec.length cv, .slice A es.length c], .int .i64 b, .slice Ab l.length cb, .int .i64 val] w (NewTrB (puVec vec es b l val) (puEs vec es b l val) (puOk vec es b l val) w) := by
  have HV := Lib.hid hV
  have HA := Lib.hid hA
  have HB := Lib.hid hB
  clear hV hA hB
  go_enter Tryz.func9, Tryz.ntmps9
  go_wp2_with fail
  obtain ⟨W0, hW0⟩ : ∃ W0, W0 = w.alloc (.cells #[.slice AV vec.length cv, .slice A es.length c] 26) := ⟨_, rfl⟩
  obtain ⟨W, hW⟩ : ∃ W, W = W0.alloc (.cells #[.slice none 0 0, .slice none 0 0] 26) := ⟨_, rfl⟩
  have hz0 : W0.heap.size = w.heap.size + 1 := by rw [hW0]; simp
  have hz : w.heap.size + 1 < W.heap.size := by rw [hW]; simp [hz0]
  have HX := Lib.hid (show Bx W (w.heap.size + 1) [.slice none 0 0, .slice none 0 0] by rw [hW, ← hz0]; exact Bx.new' _ _ _ _ rfl)
  have HF := Lib.hid (show ∀ o, W.frozen? ⟨w.heap.size + 1, o, none⟩ = false from fun o => by rw [hW, hW0]; exact (((Fresh.refl w).alloc _ _).alloc _ _) ⟨w.heap.size + 1, o, none⟩ (by show w.heap.size ≤ w.heap.size + 1; omega))
  have HBel := Lib.hid (show Below w.heap.size w W by rw [hW, hW0]; exact ((Below.refl _ _).alloc (Nat.le_refl _) _).alloc (by simp) _)
  rw [← hW0, ← hW]
  clear hW hW0 hz0
  refine (readTree_any AV vec cv A es c W ((HV.out.keep fun p _ hp => HBel.out.cell hp).mono (by omega)) ((HA.out.below HBel.out).mono (by omega)) hn hbk).mono ?_
  rintro e w1 ⟨x0, x1, x2, x3, A', n, c', rfl, htr, hb1⟩
  have hz1 := hb1.size
  have lw1 : w.heap.size + 1 < w1.heap.size := by omega
  obtain ⟨W2, hW2⟩ : ∃ W2, W2 = w1.alloc (.cells #[.int .i64 x0, .int .i64 x1, .int .i64 x2, .int .i64 x3, .slice A' n c'] 66) := ⟨_, rfl⟩
  have hb2 : Below w1.heap.size w1 W2 := by rw [hW2]; exact (Below.refl _ _).alloc (Nat.le_refl _) _
  have hz2 : w1.heap.size < W2.heap.size := by rw [hW2]; simp
  have HY := Lib.hid (show Bx W2 w1.heap.size [.int .i64 x0, .int .i64 x1, .int .i64 x2, .int .i64 x3, .slice A' n c'] by rw [hW2]; exact Bx.new' _ _ _ _ rfl)
  have HYF := Lib.hid (show ∀ o, W2.frozen? ⟨w1.heap.size, o, none⟩ = false from fun o => by rw [hW2]; exact ((Fresh.refl w1).alloc _ _) ⟨w1.heap.size, o, none⟩ (Nat.le_refl _))
  have HB2 := Lib.hid (show Below w.heap.size w W2 from (HBel.out.trans (hb1.mono (by omega))).trans (hb2.mono (by omega)))
  -- the result's box, in each later world
  have HRes := Lib.hid (fun (X : World) (hX : Below w1.heap.size W2 X) => show (X.cell? ⟨w.heap.size + 1, 0, none⟩ = some (.slice none 0 0) ∧ X.cell? ⟨w.heap.size + 1, 1, none⟩ = some (.slice none 0 0)) ∧ X.frozen? ⟨w.heap.size + 1, 0, none⟩ = false ∧ X.frozen? ⟨w.heap.size + 1, 1, none⟩ = false from by
    have hc : ∀ o, X.cell? ⟨w.heap.size + 1, o, none⟩ = W.cell? ⟨w.heap.size + 1, o, none⟩ := fun o => (hX.cell (p := ⟨w.heap.size + 1, o, none⟩) (by show w.heap.size + 1 < _; omega)).trans ((hb2.cell (p := ⟨w.heap.size + 1, o, none⟩) (by show w.heap.size + 1 < _; omega)).trans (hb1.cell (p := ⟨w.heap.size + 1, o, none⟩) (by show w.heap.size + 1 < _; omega)))
    have hf : ∀ o, X.frozen? ⟨w.heap.size + 1, o, none⟩ = W.frozen? ⟨w.heap.size + 1, o, none⟩ := fun o => (hX.frozen (p := ⟨w.heap.size + 1, o, none⟩) (by show w.heap.size + 1 < _; omega)).trans ((hb2.frozen (p := ⟨w.heap.size + 1, o, none⟩) (by show w.heap.size + 1 < _; omega)).trans (hb1.frozen (p := ⟨w.heap.size + 1, o, none⟩) (by show w.heap.size + 1 < _; omega)))
    exact ⟨⟨(hc 0).trans (HX.out 0 (by simp)), (hc 1).trans (HX.out 1 (by simp))⟩, (hf 0).trans (HF.out 0), (hf 1).trans (HF.out 1)⟩)
  have HEv := Lib.hid (show treeB vec es = true → vec = [x0, x1, x2, x3] ∧ n = es.length ∧ EvsIn W2 0 w1.heap.size A' es from fun h => by
    obtain ⟨h1, h2, h3⟩ := htr h
    exact ⟨h1, h2, (h3.below hb2).low (Nat.zero_le _)⟩)
  clear hb1 hb2 htr HX HF HBel
  obtain ⟨tb, htb⟩ : ∃ tb, tb = treeB vec es := ⟨_, rfl⟩
  have HT := Lib.hid htb
  rw [← htb]
  clear htb
  go_upto_region 2 with fail
  rw [← hW2]
  clear hW2
  cases tb with
  | false =>
    obtain ⟨⟨r0, r1⟩, f0, f1⟩ := HRes.out W2 (Below.refl _ _)
    have HQ := Lib.hid (two_get (v0 := .slice none 0 0) (v1 := .slice none 0 0) r0 r1)
    have HB9 := Lib.hid (show Below w.heap.size w ((W2.setCell ⟨w.heap.size + 1, 0, none⟩ (.slice none 0 0)).setCell ⟨w.heap.size + 1, 1, none⟩ (.slice none 0 0)) from (HB2.out.setCell (by simp) _).setCell (by simp) _)
    have hsz : w.heap.size < ((W2.setCell ⟨w.heap.size + 1, 0, none⟩ (.slice none 0 0)).setCell ⟨w.heap.size + 1, 1, none⟩ (.slice none 0 0)).heap.size := by simp; omega
    have HNo := Lib.hid (pu_no (vec := vec) (es := es) (b := b) (l := l) (val := val) (by unfold puOk; rw [← HT.out]; rfl))
    clear HRes HEv HY HYF HT
    go_wp2_with fail
    obtain ⟨q0, q1⟩ := HQ.out
    refine bodyPost_ret (v := .tuple #[.agg #[.slice none 0 0, .slice none 0 0], .bool false]) (by simp [results, Tryz.results9, q0, q1, go_sem]) rfl ?_
    rw [HNo.out.1, HNo.out.2.1, HNo.out.2.2]
    exact ⟨none, 0, none, 0, rfl, TrOwn.none _ _ _ (by omega), hsz, HB9.out⟩
  | true =>
    cases hdv : devB b with
    | false =>
      obtain ⟨⟨r0, r1⟩, f0, f1⟩ := HRes.out W2 (Below.refl _ _)
      have HQ := Lib.hid (two_get (v0 := .slice none 0 0) (v1 := .slice none 0 0) r0 r1)
      have HB9 := Lib.hid (show Below w.heap.size w ((W2.setCell ⟨w.heap.size + 1, 0, none⟩ (.slice none 0 0)).setCell ⟨w.heap.size + 1, 1, none⟩ (.slice none 0 0)) from (HB2.out.setCell (by simp) _).setCell (by simp) _)
      have hsz : w.heap.size < ((W2.setCell ⟨w.heap.size + 1, 0, none⟩ (.slice none 0 0)).setCell ⟨w.heap.size + 1, 1, none⟩ (.slice none 0 0)).heap.size := by simp; omega
      have HNo := Lib.hid (pu_no (vec := vec) (es := es) (b := b) (l := l) (val := val) (by unfold puOk; rw [hdv]; simp))
      have HDv := Lib.hid (isDevice_any b W2)
      rw [hdv] at HDv
      clear HRes HEv HY HYF HT hdv
      go_wp2_with fail
      refine HDv.out.mono ?_
      rintro e w3 ⟨rfl, rfl⟩
      go_wp2_with fail
      obtain ⟨q0, q1⟩ := HQ.out
      refine bodyPost_ret (v := .tuple #[.agg #[.slice none 0 0, .slice none 0 0], .bool false]) (by simp [results, Tryz.results9, q0, q1, go_sem]) rfl ?_
      rw [HNo.out.1, HNo.out.2.1, HNo.out.2.2]
      exact ⟨none, 0, none, 0, rfl, TrOwn.none _ _ _ (by omega), hsz, HB9.out⟩
    | true =>
      have HDv := Lib.hid (isDevice_any b W2)
      rw [hdv] at HDv
      have HNm := Lib.hid (implNameOk_any Ab l cb W2 ((HB.out.keep fun p _ hp => HB2.out.cell hp).mono (by omega)) (by omega))
      go_wp2_with fail
      refine HDv.out.mono ?_
      rintro e w2' ⟨rfl, rfl⟩
      clear HDv
      go_wp2_with fail
      refine HNm.out.mono ?_
      rintro e w3 ⟨rfl, hb3⟩
      have hz3 := hb3.size
      have HB3 := Lib.hid hb3
      clear HNm hb3
      cases hnm : nameB l with
      | false =>
        obtain ⟨⟨r0, r1⟩, f0, f1⟩ := HRes.out w3 (HB3.out.mono (by omega))
        have HQ := Lib.hid (two_get (v0 := .slice none 0 0) (v1 := .slice none 0 0) r0 r1)
        have HB9 := Lib.hid (show Below w.heap.size w ((w3.setCell ⟨w.heap.size + 1, 0, none⟩ (.slice none 0 0)).setCell ⟨w.heap.size + 1, 1, none⟩ (.slice none 0 0)) from ((HB2.out.trans (HB3.out.mono (by omega))).setCell (by simp) _).setCell (by simp) _)
        have hsz : w.heap.size < ((w3.setCell ⟨w.heap.size + 1, 0, none⟩ (.slice none 0 0)).setCell ⟨w.heap.size + 1, 1, none⟩ (.slice none 0 0)).heap.size := by simp; omega
        have HNo := Lib.hid (pu_no (vec := vec) (es := es) (b := b) (l := l) (val := val) (by unfold puOk; rw [hnm]; simp))
        clear HRes HEv HY HYF HT hdv hnm
        go_wp2_with fail
        obtain ⟨q0, q1⟩ := HQ.out
        refine bodyPost_ret (v := .tuple #[.agg #[.slice none 0 0, .slice none 0 0], .bool false]) (by simp [results, Tryz.results9, q0, q1, go_sem]) rfl ?_
        rw [HNo.out.1, HNo.out.2.1, HNo.out.2.2]
        exact ⟨none, 0, none, 0, rfl, TrOwn.none _ _ _ (by omega), hsz, HB9.out⟩
      | true =>
        obtain ⟨hvx, rfl, hev⟩ := HEv.out HT.out.symm
        have htr := HT.out.symm
        have hl12 := treeB_len3 htr
        have hdv' : 0 ≤ b ∧ b < 4 := by unfold devB at hdv; simpa using hdv
        obtain ⟨j, rfl⟩ := Int.eq_ofNat_of_zero_le hdv'.1
        have hj4 : j < 4 := by omega
        subst hvx
        have hvb : vecB [x0, x1, x2, x3] = true := by
          unfold treeB at htr
          simp only [Bool.and_eq_true] at htr
          exact htr.1.1.1
        obtain ⟨xj, hxj⟩ : ∃ y, y = [x0, x1, x2, x3].getD j 0 := ⟨_, rfl⟩
        have hxr : 0 ≤ xj ∧ xj ≤ 1000 := by
          unfold vecB at hvb
          simp only [Bool.and_eq_true, List.all_eq_true, decide_eq_true_eq] at hvb
          rw [hxj, List.getD_eq_getElem?_getD, List.getElem?_eq_getElem (by simpa using hj4)]
          exact hvb.2 _ (List.getElem_mem _)
        have hwx : IntKind.i64.wrap (xj + 1) = xj + 1 := by rw [IntKind.wrap_i64]; omega
        have hY3 : Bx w3 w1.heap.size [.int .i64 x0, .int .i64 x1, .int .i64 x2, .int .i64 x3, .slice A' es.length c'] := HY.out.below HB3.out hz2
        have yj : w3.cell? ⟨w1.heap.size, j, none⟩ = some (.int .i64 xj) := by
          have hjj : j = 0 ∨ j = 1 ∨ j = 2 ∨ j = 3 := by omega
          rw [hxj]
          rcases hjj with rfl | rfl | rfl | rfl
          · exact hY3 0 (by simp)
          · exact hY3 1 (by simp)
          · exact hY3 2 (by simp)
          · exact hY3 3 (by simp)
        have yf : w3.frozen? ⟨w1.heap.size, j, none⟩ = false := (HB3.out.frozen (p := ⟨w1.heap.size, j, none⟩) hz2).trans (HYF.out j)
        obtain ⟨W4, hW4⟩ : ∃ X, X = w3.setCell ⟨w1.heap.size, j, none⟩ (.int .i64 (xj + 1)) := ⟨_, rfl⟩
        have hs4 : W4.heap.size = w3.heap.size := by rw [hW4]; simp
        obtain ⟨v0, hv0⟩ : ∃ y, y = (puV [x0, x1, x2, x3] (j : Int)).getD 0 0 := ⟨_, rfl⟩
        obtain ⟨v1, hv1⟩ : ∃ y, y = (puV [x0, x1, x2, x3] (j : Int)).getD 1 0 := ⟨_, rfl⟩
        obtain ⟨v2, hv2⟩ : ∃ y, y = (puV [x0, x1, x2, x3] (j : Int)).getD 2 0 := ⟨_, rfl⟩
        obtain ⟨v3, hv3⟩ : ∃ y, y = (puV [x0, x1, x2, x3] (j : Int)).getD 3 0 := ⟨_, rfl⟩
        have hcell : ∀ i, i < 4 → W4.cell? ⟨w1.heap.size, i, none⟩ = some (.int .i64 ((puV [x0, x1, x2, x3] (j : Int)).getD i 0)) := fun i hi => by
          rw [hW4, puV_get (by simpa using hj4) (by simpa using hi)]
          by_cases e : i = j
          · subst e
            rw [if_pos rfl, ← hxj]
            exact World.cell?_setCell_same _ _ _ (by rw [yj])
          · rw [if_neg e]
            refine (World.cell?_setCell_other _ _ _ _ (fun e2 => e (congrArg Addr.off e2).symm)).trans ?_
            have hii : i = 0 ∨ i = 1 ∨ i = 2 ∨ i = 3 := by omega
            rcases hii with rfl | rfl | rfl | rfl
            · exact hY3 0 (by simp)
            · exact hY3 1 (by simp)
            · exact hY3 2 (by simp)
            · exact hY3 3 (by simp)
        have hP4 : P5 W4 w1.heap.size W4.heap.size v0 v1 v2 v3 (.slice A' es.length c') j (xj + 1) W4 := by
          refine ⟨fun i hi => ?_, by rw [hW4]; exact World.cell?_setCell_same _ _ _ (by rw [yj]), fun o => ?_, Below.refl _ _, by omega, Nat.le_refl _⟩
          · have hii : i = 0 ∨ i = 1 ∨ i = 2 ∨ i = 3 ∨ i = 4 := by simp at hi; omega
            rcases hii with rfl | rfl | rfl | rfl | rfl
            · rw [hcell 0 (by omega), hv0]; rfl
            · rw [hcell 1 (by omega), hv1]; rfl
            · rw [hcell 2 (by omega), hv2]; rfl
            · rw [hcell 3 (by omega), hv3]; rfl
            · rw [hW4]
              exact (World.cell?_setCell_other _ _ _ _ (fun e2 => by have := congrArg Addr.off e2; simp at this; omega)).trans (hY3 4 (by simp))
          · rw [hW4, World.frozen?_setCell]
            exact (HB3.out.frozen (p := ⟨w1.heap.size, o, none⟩) hz2).trans (HYF.out o)
        have HP4 := Lib.hid hP4
        have hb4 : Below w1.heap.size w3 W4 := by rw [hW4]; exact (Below.refl _ _).setCell (show w1.heap.size ≤ w1.heap.size from Nat.le_refl _) _
        have HB24 := Lib.hid (show Below w1.heap.size W2 W4 from (HB3.out.mono (by omega)).trans hb4)
        have HB4 := Lib.hid (show Below w.heap.size w W4 from (HB2.out.trans (HB3.out.mono (by omega))).trans (hb4.mono (by omega)))
        have HE4 := Lib.hid (show EvsIn W4 0 w1.heap.size A' es from by
          have h1 : EvsIn w3 0 w1.heap.size A' es := hev.keep fun p _ hp => HB3.out.cell (by omega)
          rw [hW4]
          exact h1.keep fun p _ hp => World.cell?_setCell_other _ _ _ _ (fun e2 => by rw [← e2] at hp; exact absurd hp (Nat.lt_irrefl _)))
        have HVv := Lib.hid (And.intro hv0 (And.intro hv1 (And.intro hv2 hv3)))
        have HXj := Lib.hid hxj
        -- the entries but those of the name; the name as a string
        have HNn := Lib.hid (fun (X : World) (hX : Below W4.heap.size W4 X) => show Calls Tryz.prog 38 #[.agg #[.int .i64 v0, .int .i64 v1, .int .i64 v2, .int .i64 v3, .slice A' es.length c'], .slice Ab l.length cb] X (fun r w' => ∃ A5 c5, r = .returned (.slice A5 (notName l es).length c5) ∧ w'.ownsRow W4.heap.size 74 4 (.slice A5 (notName l es).length c5) (notName l es).length ((notName l es).flatMap encE) ∧ Below X.heap.size X w' ∧ Below W4.heap.size W4 w') from by
          have hXs := hX.size
          refine (notNamed_own v0 v1 v2 v3 A' es c' Ab l cb X ((HE4.out.keep fun p _ hp => hX.cell (by omega)).mono (by omega)) hl12 ((HB.out.keep fun p _ hp => (hX.cell (by have := HB4.out.size; omega)).trans (HB4.out.cell hp)).mono (by have := HB4.out.size; omega))).mono ?_
          rintro r w' ⟨A5, c5, rfl, ho, hb⟩
          exact ⟨A5, c5, rfl, ownsRow_lowE ho hXs, hb, hX.trans (hb.mono hXs)⟩)
        have HCv := Lib.hid (fun (X : World) (hX : Below W4.heap.size W4 X) => run_str (w := X) ((HB.out.keep fun p _ hp => (hX.cell (by have := HB4.out.size; omega)).trans (HB4.out.cell hp)) : BytesIn X _ _ Ab l) cb)
        obtain ⟨i1, hi1, hy0, hy1, hy2⟩ := info_parts Tryz.infoEnt
        obtain ⟨nn, hnn⟩ : ∃ y, y = (notName l es).length := ⟨_, rfl⟩
        have hnl : nn ≤ 12 := by rw [hnn]; have := notName_le l es; omega
        have hl3 : nn + 1 ≤ maxLen := by unfold maxLen; omega
        have hl4 : (nn + 1) * 40 ≤ 140737488355328 := by omega
        rw [← hnn] at HNn
        have HNl := Lib.hid hnn
        have hcv4 := HCv.out W4.drew (Below.refl _ _).drew
        have hcv40 := HCv.out W4 (Below.refl _ _)
        obtain ⟨u0, u1, u2, u3, u4⟩ : W4.cell? ⟨w1.heap.size, 0, none⟩ = some (.int .i64 v0) ∧ W4.cell? ⟨w1.heap.size, 1, none⟩ = some (.int .i64 v1) ∧ W4.cell? ⟨w1.heap.size, 2, none⟩ = some (.int .i64 v2) ∧ W4.cell? ⟨w1.heap.size, 3, none⟩ = some (.int .i64 v3) ∧ W4.cell? ⟨w1.heap.size, 4, none⟩ = some (.slice A' es.length c') := ⟨hP4.c 0 (by simp), hP4.c 1 (by simp), hP4.c 2 (by simp), hP4.c 3 (by simp), hP4.c 4 (by simp)⟩
        have uj := hP4.cj
        have hji : (j : Int) < 4 := by omega
        have hz4 : w1.heap.size < W4.heap.size := by omega
        have hz4w : w.heap.size + 1 < W4.heap.size := by omega
        clear hcell hP4 hb4 hev hxj hv0 hv1 hv2 hv3 hY3 hnn hs4 hcv40
        go_upto_region 5 with fail
        rw [← hW4]
        clear hW4 yj yf hwx
        go_region_law
          (first
            | (refine step_append_row _ (by rfl) _ _ _ (by rfl) W4.heap.size 0 74 i1 _ 4 40 Tryz.underlying64 hi1 hy0 hy1 hy2 rfl (by decide) (.slice A5 nn c5) nn ((notName l es).flatMap encE) (by rfl) ?_ (.slice (some ⟨_, 0, none⟩) 1 1) 1 [.string ⟨l.toArray⟩, .int .i64 val, .int .i64 j, .int .i64 (xj + 1)] (by rfl) (own_one4e (Nat.zero_le _) ?_) ?_ hl3 hl4 ?_ ?_
               · (repeat first | with_reducible exact HOwn5.out | with_reducible apply World.ownsRow.drew | with_reducible apply World.ownsRow.alloc)
               · (repeat first | with_reducible exact heap_newE _ (by simp) | with_reducible apply heap_drewE | with_reducible refine HK5.out _ _ ?_)
               · intro u hu; simp at hu; rcases hu with rfl | rfl | rfl | rfl <;> rfl
               · first | omega | (simp; omega)
               intro A7 c7 w7 hown7 hgr7
               have P7 : P5 W4 w1.heap.size W4.heap.size v0 v1 v2 v3 (.slice A' es.length c') j (xj + 1) w7 := P5.grown (by repeat first | with_reducible exact HP5.out | with_reducible apply P5.drew | with_reducible apply P5.alloc) hgr7 (fun k hk => (HOwn5.out.lt k hk).1)
               have u4_7 := P7.c 4 (by simp)
               have uf_7 := P7.f 4
               simp only [List.getElem_cons_succ, List.getElem_cons_zero] at u4_7
               have HOwn7 := Lib.hid hown7
               have HP7 := Lib.hid P7
               clear hgr7 P7 hown7)
            | (go_simp
               go_at_call 38
               refine (HNn.out _ ?_).mono ?_
               · first | exact (Below.refl _ _).drew | exact (Below.refl _ _).drew.alloc (Nat.le_refl _) _
               rintro r w5 ⟨A5, c5, rfl, hown5, hbx5, hb5⟩
               have HOwn5 := Lib.hid hown5
               have HK5 := Lib.hid (fun (n : Nat) (o : Obj) (h : _ = some o) => (hbx5.block n (Array.getElem?_eq_some_iff.1 h).1).trans h)
               have P5' : P5 W4 w1.heap.size W4.heap.size v0 v1 v2 v3 (.slice A' es.length c') j (xj + 1) w5 := HP4.out.below hb5
               have HP5 := Lib.hid P5'
               have s0 := P5'.c 0 (by simp)
               have s1 := P5'.c 1 (by simp)
               have s2 := P5'.c 2 (by simp)
               have s3 := P5'.c 3 (by simp)
               have s4 := P5'.c 4 (by simp)
               simp only [List.getElem_cons_succ, List.getElem_cons_zero] at s0 s1 s2 s3 s4
               have sj := P5'.cj
               have hcv5 := HCv.out w5 hb5
               have hz5 := hb5.size
               clear hown5 hbx5 hb5 P5'
               go_wp2_with fail))
        all_goals
          obtain ⟨W8, hW8⟩ : ∃ X, X = w7.setCell ⟨w1.heap.size, 4, none⟩ (.slice A7 (nn + 1) c7) := ⟨_, rfl⟩
          obtain ⟨L, hL⟩ : ∃ L, L = notName l es ++ [newE [x0, x1, x2, x3] (j : Int) l val] := ⟨_, rfl⟩
          have hLl : L.length = nn + 1 := by rw [hL, HNl.out]; simp
          have hLf : L.flatMap encE = (notName l es).flatMap encE ++ [.string ⟨l.toArray⟩, .int .i64 val, .int .i64 j, .int .i64 (xj + 1)] := by
            rw [hL, List.flatMap_append]
            simp [encE, newE, HXj.out]
          have hown8 : W8.ownsRow W4.heap.size 74 4 (.slice A7 L.length c7) L.length (L.flatMap encE) := by
            rw [hW8, hLl, hLf]
            exact own_setBelow HOwn7.out (by show w1.heap.size < W4.heap.size; omega) _
          have hx8 : Bx W8 w1.heap.size [.int .i64 v0, .int .i64 v1, .int .i64 v2, .int .i64 v3, .slice A7 (nn + 1) c7] := by
            intro i hi
            have hii : i = 0 ∨ i = 1 ∨ i = 2 ∨ i = 3 ∨ i = 4 := by simp at hi; omega
            rw [hW8]
            rcases hii with rfl | rfl | rfl | rfl | rfl
            · exact (World.cell?_setCell_other _ _ _ _ (by simp)).trans (HP7.out.c 0 (by simp))
            · exact (World.cell?_setCell_other _ _ _ _ (by simp)).trans (HP7.out.c 1 (by simp))
            · exact (World.cell?_setCell_other _ _ _ _ (by simp)).trans (HP7.out.c 2 (by simp))
            · exact (World.cell?_setCell_other _ _ _ _ (by simp)).trans (HP7.out.c 3 (by simp))
            · exact World.cell?_setCell_same _ _ _ (by rw [u4_7])
          have hf8 : ∀ o, W8.frozen? ⟨w1.heap.size, o, none⟩ = false := fun o => by rw [hW8, World.frozen?_setCell]; exact HP7.out.f o
          have hz8 : W4.heap.size ≤ W8.heap.size := by rw [hW8]; have := HP7.out.le; simpa using this
          have HB8 := Lib.hid (show Below w1.heap.size W2 W8 by rw [hW8]; exact (HB24.out.trans (HP7.out.bel.mono (by omega))).setCell (show w1.heap.size ≤ w1.heap.size from Nat.le_refl _) _)
          have HOr := Lib.hid (ordered_any v0 v1 v2 v3 L A7 c7 W4.heap.size W8 hown8 (by omega) (by omega))
          unfold NewOrd at HOr
          rw [hLl] at HOr
          have HX8 := Lib.hid hx8
          have HF8 := Lib.hid hf8
          have HL := Lib.hid hL
          have HLl := Lib.hid hLl
          clear hLf hown8 hf8 HP7 HOwn7 u4_7 uf_7 hL hLl u0 u1 u2 u3 u4 uj HOwn5 HK5 HP5 s0 s1 s2 s3 s4 sj hcv5 hcv4
          obtain ⟨g0, g1, g2, g3, g4⟩ : W8.cell? ⟨w1.heap.size, 0, none⟩ = some (.int .i64 v0) ∧ W8.cell? ⟨w1.heap.size, 1, none⟩ = some (.int .i64 v1) ∧ W8.cell? ⟨w1.heap.size, 2, none⟩ = some (.int .i64 v2) ∧ W8.cell? ⟨w1.heap.size, 3, none⟩ = some (.int .i64 v3) ∧ W8.cell? ⟨w1.heap.size, 4, none⟩ = some (.slice A7 (nn + 1) c7) := ⟨hx8 0 (by simp), hx8 1 (by simp), hx8 2 (by simp), hx8 3 (by simp), hx8 4 (by simp)⟩
          clear hx8
          go_upto_region 6 with fail
          rw [← hW8]
          clear hW8
          go_wp2_with fail
          refine HOr.out.mono ?_
          rintro e w9 ⟨es', hpm, hpw, rfl, hev9, hsz9, hbel9⟩
          obtain ⟨tk, htk⟩ : ∃ y, y = tokB v0 v1 v2 v3 es' := ⟨_, rfl⟩
          rw [← htk]
          have hl9 : es'.length = nn + 1 := by rw [hpm.length_eq, HLl.out]
          have hes : es' = puE [x0, x1, x2, x3] es (j : Int) l val := by
            rw [HL.out] at hpm
            exact sorted_put HT.out.symm rfl hpm hpw
          have y0 := (hbel9.cell (p := ⟨w1.heap.size, 0, none⟩) (by show w1.heap.size < _; omega)).trans g0
          have y1 := (hbel9.cell (p := ⟨w1.heap.size, 1, none⟩) (by show w1.heap.size < _; omega)).trans g1
          have y2 := (hbel9.cell (p := ⟨w1.heap.size, 2, none⟩) (by show w1.heap.size < _; omega)).trans g2
          have y3 := (hbel9.cell (p := ⟨w1.heap.size, 3, none⟩) (by show w1.heap.size < _; omega)).trans g3
          have y4 := (hbel9.cell (p := ⟨w1.heap.size, 4, none⟩) (by show w1.heap.size < _; omega)).trans g4
          have e0 := (hbel9.frozen (p := ⟨w1.heap.size, 0, none⟩) (by show w1.heap.size < _; omega)).trans (HF8.out 0)
          have e1 := (hbel9.frozen (p := ⟨w1.heap.size, 1, none⟩) (by show w1.heap.size < _; omega)).trans (HF8.out 1)
          have e2 := (hbel9.frozen (p := ⟨w1.heap.size, 2, none⟩) (by show w1.heap.size < _; omega)).trans (HF8.out 2)
          have e3 := (hbel9.frozen (p := ⟨w1.heap.size, 3, none⟩) (by show w1.heap.size < _; omega)).trans (HF8.out 3)
          have e4 := (hbel9.frozen (p := ⟨w1.heap.size, 4, none⟩) (by show w1.heap.size < _; omega)).trans (HF8.out 4)
          obtain ⟨W10, hW10⟩ : ∃ X, X = ((((w9.setCell ⟨w1.heap.size, 0, none⟩ (.int .i64 v0)).setCell ⟨w1.heap.size, 1, none⟩ (.int .i64 v1)).setCell ⟨w1.heap.size, 2, none⟩ (.int .i64 v2)).setCell ⟨w1.heap.size, 3, none⟩ (.int .i64 v3)).setCell ⟨w1.heap.size, 4, none⟩ (.slice A7 (nn + 1) c7) := ⟨_, rfl⟩
          have hx10 : Bx W10 w1.heap.size [.int .i64 v0, .int .i64 v1, .int .i64 v2, .int .i64 v3, .slice A7 (nn + 1) c7] := by rw [hW10]; exact set5_get y0 y1 y2 y3 y4
          have HB10 := Lib.hid (show Below w1.heap.size W2 W10 by rw [hW10]; exact below_set5 (HB8.out.trans (hbel9.mono (by omega))) (Nat.le_refl _) _ _ _ _ _)
          have hz10 : W10.heap.size = w9.heap.size := by rw [hW10]; simp
          have HE10 := Lib.hid (show EvsIn W10 0 W10.heap.size A7 es' by
            rw [hW10]
            refine EvsIn.mono (EvsIn.low (hev9.keep fun p hp _ => ?_) (Nat.zero_le _)) (by simp)
            exact cell_other' (by omega))
          have HOu := Lib.hid (outIf_any v0 v1 v2 v3 A7 es' c7 tk W10 HE10.out (by omega))
          obtain ⟨vv, hvv⟩ : ∃ y, y = (if tk = true then [v0, v1, v2, v3] else []) := ⟨_, rfl⟩
          obtain ⟨ee, hee⟩ : ∃ y, y = (if tk = true then es' else []) := ⟨_, rfl⟩
          rw [← hvv, ← hee, hl9] at HOu
          have HFin := Lib.hid (show puVec [x0, x1, x2, x3] es (j : Int) l val = vv ∧ puEs [x0, x1, x2, x3] es (j : Int) l val = ee ∧ puOk [x0, x1, x2, x3] es (j : Int) l val = tk from by
            obtain ⟨k0, k1, k2, k3⟩ := HVv.out
            have hok : puOk [x0, x1, x2, x3] es (j : Int) l val = tk := by
              unfold puOk
              rw [← HT.out, hdv, hnm, ← k0, ← k1, ← k2, ← k3, ← hes, ← htk]
              simp
            have hpv : puV [x0, x1, x2, x3] (j : Int) = [v0, v1, v2, v3] := by
              have hlen : (puV [x0, x1, x2, x3] (j : Int)).length = 4 := by unfold puV; simp
              rw [k0, k1, k2, k3]
              match h : puV [x0, x1, x2, x3] (j : Int), hlen with
              | [a0, a1, a2, a3], _ => rfl
            refine ⟨?_, ?_, hok⟩
            · unfold puVec; rw [hok, hvv, hpv]
            · unfold puEs; rw [hok, hee, hes])
          have hx10b := hx10
          have hzz : w1.heap.size < W10.heap.size := by omega
          clear hz10 hvv hee htk hes hpm hpw hev9 HE10 HB8 HX8 HF8 HL HLl hl9 hx10 HVv HXj hsz9 hbel9 g0 g1 g2 g3 g4
          go_upto_region 7 with fail
          rw [← hW10]
          clear hW10 y0 y1 y2 y3 y4 e0 e1 e2 e3 e4
          obtain ⟨g0, g1, g2, g3, g4⟩ : W10.cell? ⟨w1.heap.size, 0, none⟩ = some (.int .i64 v0) ∧ W10.cell? ⟨w1.heap.size, 1, none⟩ = some (.int .i64 v1) ∧ W10.cell? ⟨w1.heap.size, 2, none⟩ = some (.int .i64 v2) ∧ W10.cell? ⟨w1.heap.size, 3, none⟩ = some (.int .i64 v3) ∧ W10.cell? ⟨w1.heap.size, 4, none⟩ = some (.slice A7 (nn + 1) c7) := ⟨hx10b 0 (by simp), hx10b 1 (by simp), hx10b 2 (by simp), hx10b 3 (by simp), hx10b 4 (by simp)⟩
          clear hx10b
          go_wp2_with fail
          refine HOu.out.mono ?_
          rintro r wt ⟨AV4, cv4, A4, c4, rfl, htr4, hlt4, hbt⟩
          have HBt := Lib.hid (show Below w1.heap.size W2 wt from HB10.out.trans (hbt.mono (by omega)))
          obtain ⟨⟨r0, r1⟩, f0, f1⟩ := HRes.out wt HBt.out
          have hzt := hbt.size
          have hB9 : Below w.heap.size w ((wt.setCell ⟨w.heap.size + 1, 0, none⟩ (.slice AV4 vv.length cv4)).setCell ⟨w.heap.size + 1, 1, none⟩ (.slice A4 ee.length c4)) := ((HB2.out.trans (HBt.out.mono (by omega))).setCell (by simp) _).setCell (by simp) _
          have hT9 : TrOwn ((wt.setCell ⟨w.heap.size + 1, 0, none⟩ (.slice AV4 vv.length cv4)).setCell ⟨w.heap.size + 1, 1, none⟩ (.slice A4 ee.length c4)) W10.heap.size wt.heap.size AV4 vv A4 ee := htr4.keep fun p hp _ => two_other (by omega)
          have hs9 : ((wt.setCell ⟨w.heap.size + 1, 0, none⟩ (.slice AV4 vv.length cv4)).setCell ⟨w.heap.size + 1, 1, none⟩ (.slice A4 ee.length c4)).heap.size = wt.heap.size := by simp
          have HQ := Lib.hid (two_get (v0 := .slice AV4 vv.length cv4) (v1 := .slice A4 ee.length c4) r0 r1)
          have HT9 := Lib.hid (hT9.mono (show w.heap.size ≤ W10.heap.size by omega) (Nat.le_of_eq hs9.symm))
          have hlt9 : w.heap.size < ((wt.setCell ⟨w.heap.size + 1, 0, none⟩ (.slice AV4 vv.length cv4)).setCell ⟨w.heap.size + 1, 1, none⟩ (.slice A4 ee.length c4)).heap.size := by rw [hs9]; omega
          have HB9 := Lib.hid hB9
          clear hbt htr4 hB9 hT9 hs9 hlt4 HOu g0 g1 g2 g3 g4 HRes HT HEv HY HYF HB10 HBt
          go_wp2_with fail
          obtain ⟨p0, p1⟩ := HQ.out
          refine bodyPost_ret (v := .tuple #[.agg #[.slice AV4 vv.length cv4, .slice A4 ee.length c4], .bool tk]) (by simp [results, Tryz.results9, p0, p1, go_sem]) rfl ?_
          obtain ⟨h1, h2, h3⟩ := HFin.out
          rw [h1, h2, h3]
          exact ⟨AV4, cv4, A4, c4, rfl, HT9.out, hlt9, HB9.out⟩

end Go.Proofs.YtepkicgnhjaokaaGreatDoor

namespace Go.Proofs.YtepkicgnhjaokaaGreatDoor
open Go.RowKit Go.Maps

/-- The values, stored into block b from cell o on. -/
def putAll (b : Nat) : Nat → List Value → World → World
  | _, [], w => w
  | o, v :: vs, w => putAll b (o + 1) vs (w.setCell ⟨b, o, none⟩ v)

section
variable {b o : Nat} {vs us : List Value} {w : World}
theorem putAll_other {p : Addr} (hp : p.block ≠ b) : (putAll b o vs w).cell? p = w.cell? p := by
  induction vs generalizing o w with
  | nil => rfl
  | cons v vs ih =>
    show (putAll b (o + 1) vs (w.setCell ⟨b, o, none⟩ v)).cell? p = _
    rw [ih]
    exact World.cell?_setCell_other _ _ _ _ (fun e => hp (by rw [← e]))
theorem putAll_frozen (p : Addr) : (putAll b o vs w).frozen? p = w.frozen? p := by
  induction vs generalizing o w with
  | nil => rfl
  | cons v vs ih =>
    show (putAll b (o + 1) vs (w.setCell ⟨b, o, none⟩ v)).frozen? p = _
    rw [ih, World.frozen?_setCell]
theorem putAll_size : (putAll b o vs w).heap.size = w.heap.size := by
  induction vs generalizing o w with
  | nil => rfl
  | cons v vs ih =>
    show (putAll b (o + 1) vs (w.setCell ⟨b, o, none⟩ v)).heap.size = _
    rw [ih]
    simp
theorem putAll_lo {j : Nat} (hj : j < o) : (putAll b o vs w).cell? ⟨b, j, none⟩ = w.cell? ⟨b, j, none⟩ := by
  induction vs generalizing o w with
  | nil => rfl
  | cons v vs ih =>
    show (putAll b (o + 1) vs (w.setCell ⟨b, o, none⟩ v)).cell? _ = _
    rw [ih (by omega)]
    exact World.cell?_setCell_other _ _ _ _ (fun e => by injection e with _ e2 _; omega)
theorem putAll_at (h : ∀ j, j < vs.length → ∃ u, w.cell? ⟨b, o + j, none⟩ = some u) : ∀ j (hj : j < vs.length), (putAll b o vs w).cell? ⟨b, o + j, none⟩ = some vs[j] := by
  induction vs generalizing o w with
  | nil => intro j hj; simp at hj
  | cons v vs ih =>
    intro j hj
    show (putAll b (o + 1) vs (w.setCell ⟨b, o, none⟩ v)).cell? _ = _
    obtain ⟨u, hu⟩ := h 0 (by simp)
    cases j with
    | zero =>
      rw [putAll_lo (by omega)]
      exact World.cell?_setCell_same _ _ _ hu
    | succ j =>
      have h2 := ih (o := o + 1) (w := w.setCell ⟨b, o, none⟩ v) (fun i hi => by
        obtain ⟨u', hu'⟩ := h (i + 1) (by simp; omega)
        refine ⟨u', ?_⟩
        rw [World.cell?_setCell_other _ _ _ _ (fun e => by injection e with _ e2 _; omega), show o + 1 + i = o + (i + 1) by omega]
        exact hu') j (by simpa using hj)
      rw [show o + 1 + j = o + (j + 1) by omega] at h2
      rw [h2]
      simp
theorem putAll_bx (h : Bx w b us) (hl : vs.length = us.length) : Bx (putAll b 0 vs w) b vs := by
  intro j hj
  have h2 := putAll_at (b := b) (o := 0) (vs := vs) (w := w) (fun i hi => ⟨_, by rw [Nat.zero_add]; exact h i (by omega)⟩) j hj
  rw [Nat.zero_add] at h2
  exact h2
theorem putAll_hi {j : Nat} (hj : o + vs.length ≤ j) : (putAll b o vs w).cell? ⟨b, j, none⟩ = w.cell? ⟨b, j, none⟩ := by
  induction vs generalizing o w with
  | nil => rfl
  | cons v vs ih =>
    show (putAll b (o + 1) vs (w.setCell ⟨b, o, none⟩ v)).cell? _ = _
    simp at hj
    rw [ih (by omega)]
    exact World.cell?_setCell_other _ _ _ _ (fun e => by injection e with _ e2 _; omega)
theorem Bx.put (h : Bx w b us) (o : Nat) (vs : List Value) (hl : o + vs.length ≤ us.length) : Bx (putAll b o vs w) b (us.take o ++ (vs ++ us.drop (o + vs.length))) := by
  intro j hj
  rw [← List.getElem?_eq_getElem hj]
  have hlt : (us.take o).length = o := by simp; omega
  have hj' : j < us.length := by simp at hj; omega
  by_cases h1 : j < o
  · rw [putAll_lo h1, h j hj', List.getElem?_append_left (by omega), List.getElem?_take, if_pos h1, List.getElem?_eq_getElem hj']
  · rw [List.getElem?_append_right (by omega), hlt]
    by_cases h2 : j < o + vs.length
    · have h3 := putAll_at (b := b) (o := o) (vs := vs) (w := w) (fun i hi => ⟨_, h (o + i) (by omega)⟩) (j - o) (by omega)
      rw [show o + (j - o) = j by omega] at h3
      rw [h3, List.getElem?_append_left (by omega), List.getElem?_eq_getElem (by omega)]
    · rw [putAll_hi (by omega), h j hj', List.getElem?_append_right (by omega), List.getElem?_drop, show o + vs.length + (j - o - vs.length) = j by omega, List.getElem?_eq_getElem hj']
theorem putAll_below {B : Nat} {a : World} (h : Below B a w) (hB : B ≤ b) : Below B a (putAll b o vs w) := by
  induction vs generalizing o w with
  | nil => exact h
  | cons v vs ih => exact ih (h.setCell hB _)
end

end Go.Proofs.YtepkicgnhjaokaaGreatDoor

namespace Go.Proofs.YtepkicgnhjaokaaGreatDoor
open Go.RowKit Go.Maps

theorem Bx.put_oth {w : World} {b b' o : Nat} {us vs : List Value} (h : Bx w b us) (hne : b ≠ b') : Bx (putAll b' o vs w) b us := fun j hj => (putAll_other hne).trans (h j hj)
theorem Bx.drewo {w : World} {b : Nat} {us : List Value} (h : Bx w b us) : Bx w.drew b us := h
theorem EvsIn.drewo {w : World} {L B : Nat} {A : Option Addr} {es : List En} (h : EvsIn w L B A es) : EvsIn w.drew L B A es := h

/-- Two trees, read. -/
def RdTrs (vec : List Int) (es : List En) (vec2 : List Int) (es2 : List En) (w : World) (e : Ending) (w' : World) : Prop :=
  ∃ (x0 x1 x2 x3 : Int) (E1 : Option Addr) (n1 k1 : Nat) (y0 y1 y2 y3 : Int) (E2 : Option Addr) (n2 k2 : Nat),
    e = .returned (.tuple #[.agg #[.int .i64 x0, .int .i64 x1, .int .i64 x2, .int .i64 x3, .slice E1 n1 k1], .agg #[.int .i64 y0, .int .i64 y1, .int .i64 y2, .int .i64 y3, .slice E2 n2 k2], .bool (treeB vec es && treeB vec2 es2)]) ∧
    (treeB vec es = true → vec = [x0, x1, x2, x3] ∧ n1 = es.length ∧ EvsIn w' w.heap.size w'.heap.size E1 es) ∧ (treeB vec2 es2 = true → vec2 = [y0, y1, y2, y3] ∧ n2 = es2.length ∧ EvsIn w' w.heap.size w'.heap.size E2 es2) ∧ Below w.heap.size w w'

set_option maxRecDepth 100000 in
set_option maxHeartbeats 4000000 in
theorem readTrees_any (AV : Option Addr) (vec : List Int) (cv : Nat) (A : Option Addr) (es : List En) (c : Nat) (AV2 : Option Addr) (vec2 : List Int) (cv2 : Nat) (A2 : Option Addr) (es2 : List En) (c2 : Nat) (w : World) (hV : IntsIn w 0 w.heap.size AV vec) (hA : EnsIn w 0 w.heap.size A es) (_hv : vec.length ≤ 1048576) (hn : es.length ≤ 1048576) (hbk : ebulk es ≤ 1048576) (hV2 : IntsIn w 0 w.heap.size AV2 vec2) (hA2 : EnsIn w 0 w.heap.size A2 es2) (_hv2 : vec2.length ≤ 1048576) (hn2 : es2.length ≤ 1048576) (hbk2 : ebulk es2 ≤ 1048576) :
    Calls Tryz.prog 45 #[.agg #[.slice AV vec.length cv, .slice A es.length c], .agg #[.slice AV2 vec2.length cv2, .slice A2 es2.length c2]] w (RdTrs vec es vec2 es2 w) := by
  have HRd1 := Lib.hid (fun W (hX : Below w.heap.size w W) => readTree_any AV vec cv A es c W ((hV.keep fun p _ hp => hX.cell hp).mono hX.size) ((hA.below hX).mono hX.size) hn hbk)
  have HRd2 := Lib.hid (fun W (hX : Below w.heap.size w W) => readTree_any AV2 vec2 cv2 A2 es2 c2 W ((hV2.keep fun p _ hp => hX.cell hp).mono hX.size) ((hA2.below hX).mono hX.size) hn2 hbk2)
  clear hV hA hV2 hA2
  go_enter Tryz.func45, Tryz.ntmps45
  go_wp2_with fail
  obtain ⟨W1_0, hW1_0⟩ : ∃ x, x = w.alloc (.cells #[.slice AV vec.length cv, .slice A es.length c] 26) := ⟨_, rfl⟩
  obtain ⟨W1_1, hW1_1⟩ : ∃ x, x = W1_0.alloc (.cells #[.slice AV2 vec2.length cv2, .slice A2 es2.length c2] 26) := ⟨_, rfl⟩
  obtain ⟨W1_2, hW1_2⟩ : ∃ x, x = W1_1.alloc (.cells #[.int .i64 0, .int .i64 0, .int .i64 0, .int .i64 0, .slice none 0 0] 66) := ⟨_, rfl⟩
  obtain ⟨W1_3, hW1_3⟩ : ∃ x, x = W1_2.alloc (.cells #[.int .i64 0, .int .i64 0, .int .i64 0, .int .i64 0, .slice none 0 0] 66) := ⟨_, rfl⟩
  have hZ1_0 : W1_0.heap.size = w.heap.size + 1 := by rw [hW1_0]; simp
  have hZ1_1 : W1_1.heap.size = w.heap.size + 2 := by rw [hW1_1]; simp [hZ1_0]
  have hZ1_2 : W1_2.heap.size = w.heap.size + 3 := by rw [hW1_2]; simp [hZ1_1]
  have hZ1_3 : W1_3.heap.size = w.heap.size + 4 := by rw [hW1_3]; simp [hZ1_2]
  have hx0 : Bx W1_0 (w.heap.size) [.slice AV vec.length cv, .slice A es.length c] := by rw [hW1_0]; exact Bx.new' _ _ _ _ rfl
  replace hx0 : Bx W1_1 (w.heap.size) [.slice AV vec.length cv, .slice A es.length c] := by rw [hW1_1]; exact hx0.alloc (by omega) _
  replace hx0 : Bx W1_2 (w.heap.size) [.slice AV vec.length cv, .slice A es.length c] := by rw [hW1_2]; exact hx0.alloc (by omega) _
  replace hx0 : Bx W1_3 (w.heap.size) [.slice AV vec.length cv, .slice A es.length c] := by rw [hW1_3]; exact hx0.alloc (by omega) _
  have hx1 : Bx W1_1 (w.heap.size + 1) [.slice AV2 vec2.length cv2, .slice A2 es2.length c2] := by rw [hW1_1, ← hZ1_0]; exact Bx.new' _ _ _ _ rfl
  replace hx1 : Bx W1_2 (w.heap.size + 1) [.slice AV2 vec2.length cv2, .slice A2 es2.length c2] := by rw [hW1_2]; exact hx1.alloc (by omega) _
  replace hx1 : Bx W1_3 (w.heap.size + 1) [.slice AV2 vec2.length cv2, .slice A2 es2.length c2] := by rw [hW1_3]; exact hx1.alloc (by omega) _
  have hx2 : Bx W1_2 (w.heap.size + 2) [.int .i64 0, .int .i64 0, .int .i64 0, .int .i64 0, .slice none 0 0] := by rw [hW1_2, ← hZ1_1]; exact Bx.new' _ _ _ _ rfl
  replace hx2 : Bx W1_3 (w.heap.size + 2) [.int .i64 0, .int .i64 0, .int .i64 0, .int .i64 0, .slice none 0 0] := by rw [hW1_3]; exact hx2.alloc (by omega) _
  have hx3 : Bx W1_3 (w.heap.size + 3) [.int .i64 0, .int .i64 0, .int .i64 0, .int .i64 0, .slice none 0 0] := by rw [hW1_3, ← hZ1_2]; exact Bx.new' _ _ _ _ rfl
  have hb0 : Below w.heap.size w W1_3 := by rw [hW1_3, hW1_2, hW1_1, hW1_0]; exact (((((Below.refl _ _).alloc (by first | exact Nat.le_refl _ | (simp; done) | (simp; omega)) _).alloc (by first | exact Nat.le_refl _ | (simp; done) | (simp; omega)) _).alloc (by first | exact Nat.le_refl _ | (simp; done) | (simp; omega)) _).alloc (by first | exact Nat.le_refl _ | (simp; done) | (simp; omega)) _)
  have hf2 : ∀ o, W1_3.frozen? ⟨w.heap.size + 2, o, none⟩ = false := fun o => by rw [hW1_3, hW1_2, hW1_1, hW1_0]; exact (((((Fresh.refl w).alloc _ _).alloc _ _).alloc _ _).alloc _ _) ⟨w.heap.size + 2, o, none⟩ (by show w.heap.size ≤ w.heap.size + 2; omega)
  have hf3 : ∀ o, W1_3.frozen? ⟨w.heap.size + 3, o, none⟩ = false := fun o => by rw [hW1_3, hW1_2, hW1_1, hW1_0]; exact (((((Fresh.refl w).alloc _ _).alloc _ _).alloc _ _).alloc _ _) ⟨w.heap.size + 3, o, none⟩ (by show w.heap.size ≤ w.heap.size + 3; omega)
  have hlt : w.heap.size + 3 < W1_3.heap.size := by omega
  rw [← hW1_0, ← hW1_1, ← hW1_2, ← hW1_3]
  clear hW1_0 hZ1_0 hW1_1 hZ1_1 hW1_2 hZ1_2 hW1_3 hZ1_3
  have z_2 := hb0.size
  have Hbel_3 := Lib.hid (hb0)
  have HP_4 := Lib.hid (hx0)
  have HQ_5 := Lib.hid (hx1)
  have HS_6 := Lib.hid (hx2)
  have HSF_7 := Lib.hid (hf2)
  clear hf2
  have HT_8 := Lib.hid (hx3)
  have HTF_9 := Lib.hid (hf3)
  clear hf3
  clear hb0 hx0 hx1 hx2 hx3
  have hl_10 := hlt
  clear hlt
  have hW0 : W1_3.heap.size ≤ W1_3.heap.size := Nat.le_refl _
  refine (HRd1.out W1_3 Hbel_3.out).mono ?_
  rintro e w1 ⟨x0, x1, x2, x3, E1, n1, k1, rfl, htr, hb⟩
  have z_11 := hb.size
  have Hbel_12 := Lib.hid (Hbel_3.out.trans (hb.mono (by omega)))
  have HQ_13 := Lib.hid (HQ_5.out.below hb (by omega))
  have HS_14 := Lib.hid (HS_6.out.below hb (by omega))
  have HSF_15 := Lib.hid (show ∀ o, w1.frozen? ⟨w.heap.size + 2, o, none⟩ = false from fun o => (hb.frozen (p := ⟨w.heap.size + 2, o, none⟩) (by show w.heap.size + 2 < _; omega)).trans (HSF_7.out o))
  have HT_16 := Lib.hid (HT_8.out.below hb (by omega))
  have HTF_17 := Lib.hid (show ∀ o, w1.frozen? ⟨w.heap.size + 3, o, none⟩ = false from fun o => (hb.frozen (p := ⟨w.heap.size + 3, o, none⟩) (by show w.heap.size + 3 < _; omega)).trans (HTF_9.out o))
  clear Hbel_3 HP_4 HQ_5 HS_6 HSF_7 HT_8 HTF_9
  have Htr0_18 := Lib.hid (show (treeB vec es = true → vec = [x0, x1, x2, x3] ∧ n1 = es.length ∧ EvsIn w1 W1_3.heap.size w1.heap.size E1 es) from fun h => ⟨(htr h).1, (htr h).2.1, (htr h).2.2.low (by omega)⟩)
  clear hb
  obtain ⟨b1, hb1⟩ : ∃ b, b = treeB vec es := ⟨_, rfl⟩
  have HB1 := Lib.hid hb1
  rw [← hb1]
  clear hb1 htr HRd1
  have qQ_0 := HQ_13.out 0 (by simp)
  have qQ_1 := HQ_13.out 1 (by simp)
  have lQ : w.heap.size + 1 < w1.heap.size := by omega
  simp only [List.getElem_cons_succ, List.getElem_cons_zero] at qQ_0 qQ_1
  go_wp2_with fail
  clear qQ_0 qQ_1 lQ
  obtain ⟨W19_0, hW19_0⟩ : ∃ x, x = w1.alloc (.cells #[.int .i64 x0, .int .i64 x1, .int .i64 x2, .int .i64 x3, .slice E1 n1 k1] 66) := ⟨_, rfl⟩
  have hZ19_0 : W19_0.heap.size = w1.heap.size + 1 := by rw [hW19_0]; simp
  have hx0 : Bx W19_0 (w1.heap.size) [.int .i64 x0, .int .i64 x1, .int .i64 x2, .int .i64 x3, .slice E1 n1 k1] := by rw [hW19_0]; exact Bx.new' _ _ _ _ rfl
  have hb0 : Below w1.heap.size w1 W19_0 := by rw [hW19_0]; exact ((Below.refl _ _).alloc (by first | exact Nat.le_refl _ | (simp; done) | (simp; omega)) _)
  have hlt : w1.heap.size + 0 < W19_0.heap.size := by omega
  rw [← hW19_0]
  clear hW19_0 hZ19_0
  have z_20 := hb0.size
  have Hbel_21 := Lib.hid (Hbel_12.out.trans (hb0.mono (by omega)))
  have HQ_22 := Lib.hid (HQ_13.out.below hb0 (by omega))
  have HS_23 := Lib.hid (HS_14.out.below hb0 (by omega))
  have HSF_24 := Lib.hid (show ∀ o, W19_0.frozen? ⟨w.heap.size + 2, o, none⟩ = false from fun o => (hb0.frozen (p := ⟨w.heap.size + 2, o, none⟩) (by show w.heap.size + 2 < _; omega)).trans (HSF_15.out o))
  have HT_25 := Lib.hid (HT_16.out.below hb0 (by omega))
  have HTF_26 := Lib.hid (show ∀ o, W19_0.frozen? ⟨w.heap.size + 3, o, none⟩ = false from fun o => (hb0.frozen (p := ⟨w.heap.size + 3, o, none⟩) (by show w.heap.size + 3 < _; omega)).trans (HTF_17.out o))
  have Htr0_27 := Lib.hid (show (treeB vec es = true → vec = [x0, x1, x2, x3] ∧ n1 = es.length ∧ EvsIn W19_0 W1_3.heap.size W19_0.heap.size E1 es) from fun h => ⟨(Htr0_18.out h).1, (Htr0_18.out h).2.1, (((Htr0_18.out h).2.2.below hb0).mono hb0.size)⟩)
  clear Hbel_12 HQ_13 HS_14 HSF_15 HT_16 HTF_17 Htr0_18
  have HX_28 := Lib.hid (hx0)
  clear hb0 hx0
  have hl_29 := hlt
  clear hlt
  refine (HRd2.out W19_0 Hbel_21.out).mono ?_
  rintro e w2 ⟨y0, y1, y2, y3, E2, n2, k2, rfl, htr, hb⟩
  have z_30 := hb.size
  have Hbel_31 := Lib.hid (Hbel_21.out.trans (hb.mono (by omega)))
  have HS_32 := Lib.hid (HS_23.out.below hb (by omega))
  have HSF_33 := Lib.hid (show ∀ o, w2.frozen? ⟨w.heap.size + 2, o, none⟩ = false from fun o => (hb.frozen (p := ⟨w.heap.size + 2, o, none⟩) (by show w.heap.size + 2 < _; omega)).trans (HSF_24.out o))
  have HT_34 := Lib.hid (HT_25.out.below hb (by omega))
  have HTF_35 := Lib.hid (show ∀ o, w2.frozen? ⟨w.heap.size + 3, o, none⟩ = false from fun o => (hb.frozen (p := ⟨w.heap.size + 3, o, none⟩) (by show w.heap.size + 3 < _; omega)).trans (HTF_26.out o))
  have Htr0_36 := Lib.hid (show (treeB vec es = true → vec = [x0, x1, x2, x3] ∧ n1 = es.length ∧ EvsIn w2 W1_3.heap.size w2.heap.size E1 es) from fun h => ⟨(Htr0_27.out h).1, (Htr0_27.out h).2.1, (((Htr0_27.out h).2.2.below hb).mono hb.size)⟩)
  have HX_37 := Lib.hid (HX_28.out.below hb (by omega))
  clear Hbel_21 HQ_22 HS_23 HSF_24 HT_25 HTF_26 Htr0_27 HX_28
  have Htr1_38 := Lib.hid (show (treeB vec2 es2 = true → vec2 = [y0, y1, y2, y3] ∧ n2 = es2.length ∧ EvsIn w2 W1_3.heap.size w2.heap.size E2 es2) from fun h => ⟨(htr h).1, (htr h).2.1, (htr h).2.2.low (by omega)⟩)
  clear hb
  obtain ⟨b2, hb2⟩ : ∃ b, b = treeB vec2 es2 := ⟨_, rfl⟩
  have HB2 := Lib.hid hb2
  rw [← hb2]
  clear hb2 htr HRd2
  go_wp2_with fail
  obtain ⟨W39_0, hW39_0⟩ : ∃ x, x = w2.alloc (.cells #[.int .i64 y0, .int .i64 y1, .int .i64 y2, .int .i64 y3, .slice E2 n2 k2] 66) := ⟨_, rfl⟩
  have hZ39_0 : W39_0.heap.size = w2.heap.size + 1 := by rw [hW39_0]; simp
  have hx0 : Bx W39_0 (w2.heap.size) [.int .i64 y0, .int .i64 y1, .int .i64 y2, .int .i64 y3, .slice E2 n2 k2] := by rw [hW39_0]; exact Bx.new' _ _ _ _ rfl
  have hb0 : Below w2.heap.size w2 W39_0 := by rw [hW39_0]; exact ((Below.refl _ _).alloc (by first | exact Nat.le_refl _ | (simp; done) | (simp; omega)) _)
  have hlt : w2.heap.size + 0 < W39_0.heap.size := by omega
  rw [← hW39_0]
  clear hW39_0 hZ39_0
  have z_40 := hb0.size
  have Hbel_41 := Lib.hid (Hbel_31.out.trans (hb0.mono (by omega)))
  have HS_42 := Lib.hid (HS_32.out.below hb0 (by omega))
  have HSF_43 := Lib.hid (show ∀ o, W39_0.frozen? ⟨w.heap.size + 2, o, none⟩ = false from fun o => (hb0.frozen (p := ⟨w.heap.size + 2, o, none⟩) (by show w.heap.size + 2 < _; omega)).trans (HSF_33.out o))
  have HT_44 := Lib.hid (HT_34.out.below hb0 (by omega))
  have HTF_45 := Lib.hid (show ∀ o, W39_0.frozen? ⟨w.heap.size + 3, o, none⟩ = false from fun o => (hb0.frozen (p := ⟨w.heap.size + 3, o, none⟩) (by show w.heap.size + 3 < _; omega)).trans (HTF_35.out o))
  have Htr0_46 := Lib.hid (show (treeB vec es = true → vec = [x0, x1, x2, x3] ∧ n1 = es.length ∧ EvsIn W39_0 W1_3.heap.size W39_0.heap.size E1 es) from fun h => ⟨(Htr0_36.out h).1, (Htr0_36.out h).2.1, (((Htr0_36.out h).2.2.below hb0).mono hb0.size)⟩)
  have HX_47 := Lib.hid (HX_37.out.below hb0 (by omega))
  have Htr1_48 := Lib.hid (show (treeB vec2 es2 = true → vec2 = [y0, y1, y2, y3] ∧ n2 = es2.length ∧ EvsIn W39_0 W1_3.heap.size W39_0.heap.size E2 es2) from fun h => ⟨(Htr1_38.out h).1, (Htr1_38.out h).2.1, (((Htr1_38.out h).2.2.below hb0).mono hb0.size)⟩)
  clear Hbel_31 HS_32 HSF_33 HT_34 HTF_35 Htr0_36 HX_37 Htr1_38
  have HY_49 := Lib.hid (hx0)
  clear hb0 hx0
  have hl_50 := hlt
  clear hlt
  have hp1 : W1_3.heap.size ≤ W39_0.heap.size := by omega
  have HFin := Lib.hid (show ∃ W9 : World, W9 = (putAll (w.heap.size + 1 + 1 + 1) 0 [.int .i64 y0, .int .i64 y1, .int .i64 y2, .int .i64 y3, .slice E2 n2 k2] (putAll (w.heap.size + 1 + 1) 0 [.int .i64 x0, .int .i64 x1, .int .i64 x2, .int .i64 x3, .slice E1 n1 k1] W39_0)).drew ∧ (W9.cell? ⟨w.heap.size + 1 + 1, 0, none⟩ = some (.int .i64 x0) ∧ W9.cell? ⟨w.heap.size + 1 + 1, 1, none⟩ = some (.int .i64 x1) ∧ W9.cell? ⟨w.heap.size + 1 + 1, 2, none⟩ = some (.int .i64 x2) ∧ W9.cell? ⟨w.heap.size + 1 + 1, 3, none⟩ = some (.int .i64 x3) ∧ W9.cell? ⟨w.heap.size + 1 + 1, 4, none⟩ = some (.slice E1 n1 k1) ∧ W9.cell? ⟨w.heap.size + 1 + 1 + 1, 0, none⟩ = some (.int .i64 y0) ∧ W9.cell? ⟨w.heap.size + 1 + 1 + 1, 1, none⟩ = some (.int .i64 y1) ∧ W9.cell? ⟨w.heap.size + 1 + 1 + 1, 2, none⟩ = some (.int .i64 y2) ∧ W9.cell? ⟨w.heap.size + 1 + 1 + 1, 3, none⟩ = some (.int .i64 y3) ∧ W9.cell? ⟨w.heap.size + 1 + 1 + 1, 4, none⟩ = some (.slice E2 n2 k2)) ∧ (treeB vec es = true → vec = [x0, x1, x2, x3] ∧ n1 = es.length ∧ EvsIn W9 w.heap.size W9.heap.size E1 es) ∧ (treeB vec2 es2 = true → vec2 = [y0, y1, y2, y3] ∧ n2 = es2.length ∧ EvsIn W9 w.heap.size W9.heap.size E2 es2) ∧ Below w.heap.size w W9 from by
    have h4 := (((putAll_bx (vs := [.int .i64 x0, .int .i64 x1, .int .i64 x2, .int .i64 x3, .slice E1 n1 k1]) HS_42.out rfl).put_oth (b' := w.heap.size + 1 + 1 + 1) (o := 0) (vs := [.int .i64 y0, .int .i64 y1, .int .i64 y2, .int .i64 y3, .slice E2 n2 k2]) (by omega))).drewo
    have h5 := (putAll_bx (vs := [.int .i64 y0, .int .i64 y1, .int .i64 y2, .int .i64 y3, .slice E2 n2 k2]) ((HT_44.out).put_oth (b' := w.heap.size + 1 + 1) (o := 0) (vs := [.int .i64 x0, .int .i64 x1, .int .i64 x2, .int .i64 x3, .slice E1 n1 k1]) (by omega)) rfl).drewo
    refine ⟨_, rfl, ⟨h4 0 (by simp), h4 1 (by simp), h4 2 (by simp), h4 3 (by simp), h4 4 (by simp), h5 0 (by simp), h5 1 (by simp), h5 2 (by simp), h5 3 (by simp), h5 4 (by simp)⟩, fun h => ?_, fun h => ?_, ?_⟩
    · obtain ⟨h1, h2, h6⟩ := Htr0_46.out h
      exact ⟨h1, h2, (((h6.keep fun q hq _ => ((putAll_other (by omega)).trans (putAll_other (by omega)))).low (by omega)).mono (by simp [putAll_size])).drewo⟩
    · obtain ⟨h1, h2, h6⟩ := Htr1_48.out h
      exact ⟨h1, h2, (((h6.keep fun q hq _ => ((putAll_other (by omega)).trans (putAll_other (by omega)))).low (by omega)).mono (by simp [putAll_size])).drewo⟩
    · exact (putAll_below (putAll_below Hbel_41.out (by omega)) (by omega)).drew)
  have qX_0 := HX_47.out 0 (by simp)
  have qX_1 := HX_47.out 1 (by simp)
  have qX_2 := HX_47.out 2 (by simp)
  have qX_3 := HX_47.out 3 (by simp)
  have qX_4 := HX_47.out 4 (by simp)
  have lX : w1.heap.size < W39_0.heap.size := by omega
  have qY_0 := HY_49.out 0 (by simp)
  have qY_1 := HY_49.out 1 (by simp)
  have qY_2 := HY_49.out 2 (by simp)
  have qY_3 := HY_49.out 3 (by simp)
  have qY_4 := HY_49.out 4 (by simp)
  have lY : w2.heap.size < W39_0.heap.size := by omega
  have qS_0 := HS_42.out 0 (by simp)
  have qS_1 := HS_42.out 1 (by simp)
  have qS_2 := HS_42.out 2 (by simp)
  have qS_3 := HS_42.out 3 (by simp)
  have qS_4 := HS_42.out 4 (by simp)
  have lS : w.heap.size + 2 < W39_0.heap.size := by omega
  have qT_0 := HT_44.out 0 (by simp)
  have qT_1 := HT_44.out 1 (by simp)
  have qT_2 := HT_44.out 2 (by simp)
  have qT_3 := HT_44.out 3 (by simp)
  have qT_4 := HT_44.out 4 (by simp)
  have lT : w.heap.size + 3 < W39_0.heap.size := by omega
  have fSF_0 := HSF_43.out 0
  have fSF_1 := HSF_43.out 1
  have fSF_2 := HSF_43.out 2
  have fSF_3 := HSF_43.out 3
  have fSF_4 := HSF_43.out 4
  have fTF_0 := HTF_45.out 0
  have fTF_1 := HTF_45.out 1
  have fTF_2 := HTF_45.out 2
  have fTF_3 := HTF_45.out 3
  have fTF_4 := HTF_45.out 4
  simp only [List.getElem_cons_succ, List.getElem_cons_zero] at qX_0 qX_1 qX_2 qX_3 qX_4 qY_0 qY_1 qY_2 qY_3 qY_4 qS_0 qS_1 qS_2 qS_3 qS_4 qT_0 qT_1 qT_2 qT_3 qT_4
  have hne3 : w.heap.size + 2 ≠ w.heap.size + 3 := by omega
  cases b1 with
  | false =>
    go_big_region
    go_wp2_with fail
    obtain ⟨W9, hW9, ⟨cc0, cc1, cc2, cc3, cc4, cc5, cc6, cc7, cc8, cc9⟩, ht9, hu9, hb9⟩ := HFin.out
    simp only [putAll] at hW9
    rw [← hW9]
    refine bodyPost_ret (v := .tuple #[.agg #[.int .i64 x0, .int .i64 x1, .int .i64 x2, .int .i64 x3, .slice E1 n1 k1], .agg #[.int .i64 y0, .int .i64 y1, .int .i64 y2, .int .i64 y3, .slice E2 n2 k2], .bool false]) (by simp [results, Tryz.results45, cc0, cc1, cc2, cc3, cc4, cc5, cc6, cc7, cc8, cc9, go_sem]) rfl ?_
    refine ⟨x0, x1, x2, x3, E1, n1, k1, y0, y1, y2, y3, E2, n2, k2, ?_, ht9, hu9, hb9⟩
    rw [← HB1.out]; rfl
  | true =>
  go_big_region
  go_wp2_with fail
  obtain ⟨W9, hW9, ⟨cc0, cc1, cc2, cc3, cc4, cc5, cc6, cc7, cc8, cc9⟩, ht9, hu9, hb9⟩ := HFin.out
  simp only [putAll] at hW9
  rw [← hW9]
  refine bodyPost_ret (v := .tuple #[.agg #[.int .i64 x0, .int .i64 x1, .int .i64 x2, .int .i64 x3, .slice E1 n1 k1], .agg #[.int .i64 y0, .int .i64 y1, .int .i64 y2, .int .i64 y3, .slice E2 n2 k2], .bool b2]) (by simp [results, Tryz.results45, cc0, cc1, cc2, cc3, cc4, cc5, cc6, cc7, cc8, cc9, go_sem]) rfl ?_
  refine ⟨x0, x1, x2, x3, E1, n1, k1, y0, y1, y2, y3, E2, n2, k2, ?_, ht9, hu9, hb9⟩
  rw [← HB1.out, ← HB2.out]; rfl

end Go.Proofs.YtepkicgnhjaokaaGreatDoor

namespace Go.Proofs.YtepkicgnhjaokaaGreatDoor
open Go.RowKit Go.Maps

theorem sortFunc_none (A : Option Addr) (c : Nat) (w : World) :
    Calls Tryz.prog 66 #[.slice A 0 c, .func (.func 67) #[] #[]] w fun e w' => e = .returned (.tuple #[]) ∧ w' = w := by
  have hcon := AnyF.slices_SortFunc_none sortEnt A c (.func (.func 67) #[] #[]) w
  change Calls Tryz.prog 66 _ _ _ at hcon
  exact hcon

set_option maxRecDepth 100000 in
set_option maxHeartbeats 4000000 in
theorem ordered_none (x0 x1 x2 x3 : Int) (A : Option Addr) (cap base : Nat) (w : World) (hbase : base ≤ w.heap.size) :
    Calls Tryz.prog 39 #[.agg #[.int .i64 x0, .int .i64 x1, .int .i64 x2, .int .i64 x3, .slice A 0 cap]] w (NewOrd x0 x1 x2 x3 [] A cap base w) := by
  go_enter Tryz.func39, Tryz.ntmps39
  obtain ⟨W0, hW0⟩ : ∃ W0, W0 = w.alloc (.cells #[.int .i64 x0, .int .i64 x1, .int .i64 x2, .int .i64 x3, .slice A 0 cap] 66) := ⟨_, rfl⟩
  obtain ⟨W, hW⟩ : ∃ W, W = W0.alloc (.cells #[.int .i64 0, .int .i64 0, .int .i64 0, .int .i64 0, .slice none 0 0] 66) := ⟨_, rfl⟩
  have hz0 : W0.heap.size = w.heap.size + 1 := by rw [hW0]; simp
  have hz : w.heap.size + 1 < W.heap.size := by rw [hW]; simp [hz0]
  have HX := Lib.hid (show Bx W w.heap.size [.int .i64 x0, .int .i64 x1, .int .i64 x2, .int .i64 x3, .slice A 0 cap] by rw [hW]; exact Bx.alloc (by rw [hW0]; exact Bx.new' _ _ _ _ rfl) (by omega) _)
  have HY := Lib.hid (show Bx W (w.heap.size + 1) [.int .i64 0, .int .i64 0, .int .i64 0, .int .i64 0, .slice none 0 0] by rw [hW, ← hz0]; exact Bx.new' _ _ _ _ rfl)
  have HF := Lib.hid (show ∀ o, W.frozen? ⟨w.heap.size + 1, o, none⟩ = false from fun o => by rw [hW, hW0]; exact (((Fresh.refl w).alloc _ _).alloc _ _) ⟨w.heap.size + 1, o, none⟩ (by show w.heap.size ≤ w.heap.size + 1; omega))
  have HBel := Lib.hid (show Below w.heap.size w W by rw [hW, hW0]; exact ((Below.refl _ _).alloc (Nat.le_refl _) _).alloc (by simp) _)
  have i4 : W.cell? ⟨w.heap.size, 4, none⟩ = some (.slice A 0 cap) := HX.out 4 (by simp)
  go_upto_region 1 with fail
  rw [← hW0, ← hW]
  clear hW hW0 hz0
  go_wp2_with fail
  refine (sortFunc_none A cap W).mono ?_
  rintro e ws ⟨rfl, hws⟩
  rw [hws]
  clear hws i4
  have HBs := Lib.hid (show Below base w W from HBel.out.mono hbase)
  have lne : w.heap.size ≠ w.heap.size + 1 := by omega
  have lS : w.heap.size + 1 < W.heap.size := by omega
  have hPack : ∀ wt, Below W.heap.size W wt →
      (wt.cell? ⟨w.heap.size, 0, none⟩ = some (.int .i64 x0) ∧ wt.cell? ⟨w.heap.size, 1, none⟩ = some (.int .i64 x1) ∧ wt.cell? ⟨w.heap.size, 2, none⟩ = some (.int .i64 x2) ∧ wt.cell? ⟨w.heap.size, 3, none⟩ = some (.int .i64 x3) ∧ wt.cell? ⟨w.heap.size, 4, none⟩ = some (.slice A 0 cap)) ∧
      (wt.cell? ⟨w.heap.size + 1, 0, none⟩ = some (.int .i64 0) ∧ wt.cell? ⟨w.heap.size + 1, 1, none⟩ = some (.int .i64 0) ∧ wt.cell? ⟨w.heap.size + 1, 2, none⟩ = some (.int .i64 0) ∧ wt.cell? ⟨w.heap.size + 1, 3, none⟩ = some (.int .i64 0) ∧ wt.cell? ⟨w.heap.size + 1, 4, none⟩ = some (.slice none 0 0)) ∧
      (∀ o, wt.frozen? ⟨w.heap.size + 1, o, none⟩ = false) := by
    intro wt hbt
    have hX : ∀ o, wt.cell? ⟨w.heap.size, o, none⟩ = W.cell? ⟨w.heap.size, o, none⟩ := fun o => (hbt.cell (p := ⟨w.heap.size, o, none⟩) (by show w.heap.size < _; omega))
    have hY : ∀ o, wt.cell? ⟨w.heap.size + 1, o, none⟩ = W.cell? ⟨w.heap.size + 1, o, none⟩ := fun o => (hbt.cell (p := ⟨w.heap.size + 1, o, none⟩) (by show w.heap.size + 1 < _; omega))
    exact ⟨⟨(hX 0).trans (HX.out 0 (by simp)), (hX 1).trans (HX.out 1 (by simp)), (hX 2).trans (HX.out 2 (by simp)), (hX 3).trans (HX.out 3 (by simp)), (hX 4).trans (HX.out 4 (by simp))⟩,
      ⟨(hY 0).trans (HY.out 0 (by simp)), (hY 1).trans (HY.out 1 (by simp)), (hY 2).trans (HY.out 2 (by simp)), (hY 3).trans (HY.out 3 (by simp)), (hY 4).trans (HY.out 4 (by simp))⟩,
      fun o => (hbt.frozen (p := ⟨w.heap.size + 1, o, none⟩) (by show w.heap.size + 1 < _; omega)).trans (HF.out o)⟩
  obtain ⟨⟨g0, g1, g2, g3, g4⟩, _, _⟩ := hPack W (Below.refl _ _)
  have HPack := Lib.hid hPack
  have HE0 := Lib.hid (show EvsIn W 0 W.heap.size A [] from fun h => absurd h (by simp))
  obtain ⟨tb, htb⟩ : ∃ tb, tb = tokB x0 x1 x2 x3 [] := ⟨_, rfl⟩
  have HTk := Lib.hid (show ∀ X : World, EvsIn X 0 X.heap.size A [] → Calls Tryz.prog 63 #[.agg #[.int .i64 x0, .int .i64 x1, .int .i64 x2, .int .i64 x3, .slice A 0 cap]] X fun r w' => r = .returned (.bool tb) ∧ Below X.heap.size X w' from fun X hX => by
    have h := tok_any x0 x1 x2 x3 A [] cap X hX (by simp)
    rw [← htb] at h
    exact h)
  have HTb := Lib.hid htb
  clear hPack htb HX HY HF
  go_wp2_with fail
  go_region_held3 (fun X => X.cell? ⟨w.heap.size, 0, none⟩ = some (.int .i64 x0) ∧ X.cell? ⟨w.heap.size, 1, none⟩ = some (.int .i64 x1) ∧ X.cell? ⟨w.heap.size, 2, none⟩ = some (.int .i64 x2) ∧ X.cell? ⟨w.heap.size, 3, none⟩ = some (.int .i64 x3) ∧ X.cell? ⟨w.heap.size, 4, none⟩ = some (.slice A 0 cap))
    (first | with_reducible exact ⟨g0, g1, g2, g3, g4⟩ | with_reducible exact ⟨s0, s1, s2, s3, s4⟩ | with_reducible exact ⟨(other5 lne).trans s0, (other5 lne).trans s1, (other5 lne).trans s2, (other5 lne).trans s3, (other5 lne).trans s4⟩ | with_reducible exact ⟨(cell_drew _ _).trans g0, (cell_drew _ _).trans g1, (cell_drew _ _).trans g2, (cell_drew _ _).trans g3, (cell_drew _ _).trans g4⟩)
    (first
      | (go_at_call 63
         refine (HTk.out _ ?_).mono ?_
         · exact HE0.out.keep fun p _ hp => rfl
         rintro r wt ⟨rfl, hbt⟩
         have hbrt : Below W.heap.size W wt := by first | with_reducible exact hbt | exact (Below.refl W.heap.size W).drew.trans hbt
         obtain ⟨⟨s0, s1, s2, s3, s4⟩, ⟨y0, y1, y2, y3, y4⟩, f0⟩ := HPack.out wt hbrt
         have HRt := Lib.hid hbrt
         clear hbt hbrt))
  have hy := set5_get (v0 := .int .i64 x0) (v1 := .int .i64 x1) (v2 := .int .i64 x2) (v3 := .int .i64 x3) (v4' := .slice A 0 cap) y0 y1 y2 y3 y4
  have hb9 := below_set5 (HBs.out.trans (HRt.out.mono (by omega))) (b := w.heap.size + 1) (by omega) (.int .i64 x0) (.int .i64 x1) (.int .i64 x2) (.int .i64 x3) (.slice A 0 cap)
  have hz9 := HRt.out.size
  have hz9' : W.heap.size ≤ (((((wt.setCell ⟨w.heap.size + 1, 0, none⟩ (.int .i64 x0)).setCell ⟨w.heap.size + 1, 1, none⟩ (.int .i64 x1)).setCell ⟨w.heap.size + 1, 2, none⟩ (.int .i64 x2)).setCell ⟨w.heap.size + 1, 3, none⟩ (.int .i64 x3)).setCell ⟨w.heap.size + 1, 4, none⟩ (.slice A 0 cap)).heap.size := by simp; omega
  clear y0 y1 y2 y3 y4 s0 s1 s2 s3 s4
  obtain ⟨W9, hW9⟩ : ∃ W9, W9 = ((((wt.setCell ⟨w.heap.size + 1, 0, none⟩ (.int .i64 x0)).setCell ⟨w.heap.size + 1, 1, none⟩ (.int .i64 x1)).setCell ⟨w.heap.size + 1, 2, none⟩ (.int .i64 x2)).setCell ⟨w.heap.size + 1, 3, none⟩ (.int .i64 x3)).setCell ⟨w.heap.size + 1, 4, none⟩ (.slice A 0 cap) := ⟨_, rfl⟩
  rw [← hW9] at hy hb9 hz9' ⊢
  clear hW9
  have r0 := hy 0 (by simp)
  have r1 := hy 1 (by simp)
  have r2 := hy 2 (by simp)
  have r3 := hy 3 (by simp)
  have r4 := hy 4 (by simp)
  simp only [List.getElem_cons_succ, List.getElem_cons_zero] at r0 r1 r2 r3 r4
  have HB9 := Lib.hid hb9
  clear hy hb9
  go_wp2_with fail
  refine bodyPost_ret (v := .tuple #[.agg #[.int .i64 x0, .int .i64 x1, .int .i64 x2, .int .i64 x3, .slice A 0 cap], .bool tb]) (by simp [results, Tryz.results39, r0, r1, r2, r3, r4, go_sem]) rfl ?_
  exact ⟨[], List.Perm.refl _, List.Pairwise.nil, by rw [HTb.out]; rfl, fun h => absurd h (by simp), by omega, HB9.out⟩

end Go.Proofs.YtepkicgnhjaokaaGreatDoor

namespace Go.Proofs.YtepkicgnhjaokaaGreatDoor
open Go.RowKit Go.Maps

/-- What stays of the first; what comes of the second. -/
def sts (a' b' c' d' : Int) (es us : List En) : List En := fil (stE a' b' c' d' us) es
def cms (a b c d : Int) (us : List En) : List En := fil (fun e => !knE a b c d e) us
def mgL (a b c d a' b' c' d' : Int) (es us : List En) : List En := sts a' b' c' d' es us ++ cms a b c d us

theorem ordered_gen (x0 x1 x2 x3 : Int) (es : List En) (A : Option Addr) (cap base : Nat) (w : World) (hown : w.ownsRow base 74 4 (.slice A es.length cap) es.length (es.flatMap encE)) (hn : es.length ≤ 1000) (hbase : base ≤ w.heap.size) :
    Calls Tryz.prog 39 #[.agg #[.int .i64 x0, .int .i64 x1, .int .i64 x2, .int .i64 x3, .slice A es.length cap]] w (NewOrd x0 x1 x2 x3 es A cap base w) := by
  rcases Nat.eq_zero_or_pos es.length with h | h
  · obtain rfl := List.length_eq_zero_iff.1 h
    exact ordered_none x0 x1 x2 x3 A cap base w hbase
  · exact ordered_any x0 x1 x2 x3 es A cap base w hown h hn

/-- A merged tree, in order, and whether it may be. -/
def NewMg (a b c d a' b' c' d' : Int) (es us : List En) (w : World) (e : Ending) (w' : World) : Prop :=
  Below w.heap.size w w' ∧ ((ctrB es us = true ∧ e = .returned (.tuple #[.agg #[.int .i64 0, .int .i64 0, .int .i64 0, .int .i64 0, .slice none 0 0], .bool false])) ∨
    (ctrB es us = false ∧ ∃ (es' : List En) (A : Option Addr) (cap : Nat), es'.Perm (mgL a b c d a' b' c' d' es us) ∧ (es'.Pairwise fun e f => 0 ≤ plaV f e) ∧ e = .returned (.tuple #[.agg #[.int .i64 (mx a a'), .int .i64 (mx b b'), .int .i64 (mx c c'), .int .i64 (mx d d'), .slice A es'.length cap], .bool (tokB (mx a a') (mx b b') (mx c c') (mx d d') es')]) ∧ EvsIn w' 0 w'.heap.size A es'))

set_option maxRecDepth 100000 in
set_option maxHeartbeats 4000000 in
theorem merged_any (a b c d : Int) (A : Option Addr) (es : List En) (cA : Nat) (a' b' c' d' : Int) (Au : Option Addr) (us : List En) (cu : Nat) (w : World) (hA : EvsIn w 0 w.heap.size A es) (hn : es.length ≤ 12) (hU : EvsIn w 0 w.heap.size Au us) (hnu : us.length ≤ 12) (hde : ∀ e ∈ es, 0 ≤ e.dev ∧ e.dev < 4) (hdu : ∀ e ∈ us, 0 ≤ e.dev ∧ e.dev < 4) :
    Calls Tryz.prog 46 #[.agg #[.int .i64 a, .int .i64 b, .int .i64 c, .int .i64 d, .slice A es.length cA], .agg #[.int .i64 a', .int .i64 b', .int .i64 c', .int .i64 d', .slice Au us.length cu]] w (NewMg a b c d a' b' c' d' es us w) := by
  have HA := Lib.hid hA
  have HU := Lib.hid hU
  have HDe := Lib.hid hde
  have HDu := Lib.hid hdu
  have hmf : ∀ (fn : Fn) (first cap : Array Value) (w : World), (Instr.makeFunc fn first cap).run Tryz.prog w = .ok (.func fn first cap) w := fun _ _ _ _ => rfl
  clear hA hU hde hdu
  go_enter Tryz.func46, Tryz.ntmps46
  go_wp2_with fail
  obtain ⟨W0, hW0⟩ : ∃ W0, W0 = w.alloc (.cells #[.int .i64 a, .int .i64 b, .int .i64 c, .int .i64 d, .slice A es.length cA] 66) := ⟨_, rfl⟩
  obtain ⟨W1, hW1⟩ : ∃ W1, W1 = W0.alloc (.cells #[.int .i64 a', .int .i64 b', .int .i64 c', .int .i64 d', .slice Au us.length cu] 66) := ⟨_, rfl⟩
  obtain ⟨W, hW⟩ : ∃ W, W = W1.alloc (.cells #[.int .i64 0, .int .i64 0, .int .i64 0, .int .i64 0, .slice none 0 0] 66) := ⟨_, rfl⟩
  have hz0 : W0.heap.size = w.heap.size + 1 := by rw [hW0]; simp
  have hz1 : W1.heap.size = w.heap.size + 1 + 1 := by rw [hW1]; simp [hz0]
  have lw_W : w.heap.size + 1 + 1 < W.heap.size := by rw [hW]; simp [hz1]
  have HX_W := Lib.hid (show Bx W w.heap.size [.int .i64 a, .int .i64 b, .int .i64 c, .int .i64 d, .slice A es.length cA] by rw [hW]; exact Bx.alloc (by rw [hW1]; exact Bx.alloc (by rw [hW0]; exact Bx.new' _ _ _ _ rfl) (by omega) _) (by omega) _)
  have HY_W := Lib.hid (show Bx W (w.heap.size + 1) [.int .i64 a', .int .i64 b', .int .i64 c', .int .i64 d', .slice Au us.length cu] by rw [hW]; exact Bx.alloc (by rw [hW1, ← hz0]; exact Bx.new' _ _ _ _ rfl) (by omega) _)
  have HR_W := Lib.hid (show Bx W (w.heap.size + 1 + 1) [.int .i64 0, .int .i64 0, .int .i64 0, .int .i64 0, .slice none 0 0] by rw [hW, ← hz1]; exact Bx.new' _ _ _ _ rfl)
  have HF_W := Lib.hid (show ∀ o, W.frozen? ⟨w.heap.size + 1 + 1, o, none⟩ = false from fun o => by rw [hW, hW1, hW0]; exact ((((Fresh.refl w).alloc _ _).alloc _ _).alloc _ _) ⟨w.heap.size + 1 + 1, o, none⟩ (by show w.heap.size ≤ w.heap.size + 1 + 1; omega))
  have HB_W := Lib.hid (show Below w.heap.size w W by rw [hW, hW1, hW0]; exact (((Below.refl _ _).alloc (Nat.le_refl _) _).alloc (by simp) _).alloc (by simp; omega) _)
  rw [← hW0, ← hW1, ← hW]
  clear hW hW1 hW0 hz0 hz1
  refine (contradicts_any a b c d A es cA a' b' c' d' Au us cu W ((HA.out.below HB_W.out).mono (by omega)) (by omega) ((HU.out.below HB_W.out).mono (by omega)) (by omega)).mono ?_
  rintro r w1 ⟨rfl, hb1⟩
  have hz_w1 := hb1.size
  have lw_w1 : w.heap.size + 1 + 1 < w1.heap.size := by omega
  have HX_w1 := Lib.hid (HX_W.out.below hb1 (by omega))
  have HY_w1 := Lib.hid (HY_W.out.below hb1 (by omega))
  have HR_w1 := Lib.hid (HR_W.out.below hb1 lw_W)
  have HF_w1 := Lib.hid (show ∀ o, w1.frozen? ⟨w.heap.size + 1 + 1, o, none⟩ = false from fun o => (hb1.frozen (p := ⟨w.heap.size + 1 + 1, o, none⟩) lw_W).trans (HF_W.out o))
  have HB_w1 := Lib.hid (HB_W.out.trans (hb1.mono (by omega)))
  clear hb1
  cases hct : ctrB es us with
  | true =>
    have HC := Lib.hid hct
    clear hct
    have r0 := HR_w1.out 0 (by simp)
    have r1 := HR_w1.out 1 (by simp)
    have r2 := HR_w1.out 2 (by simp)
    have r3 := HR_w1.out 3 (by simp)
    have r4 := HR_w1.out 4 (by simp)
    simp only [List.getElem_cons_succ, List.getElem_cons_zero] at r0 r1 r2 r3 r4
    have f0 := HF_w1.out 0
    have f1 := HF_w1.out 1
    have f2 := HF_w1.out 2
    have f3 := HF_w1.out 3
    have f4 := HF_w1.out 4
    have HG := Lib.hid (set5_get (v0 := .int .i64 0) (v1 := .int .i64 0) (v2 := .int .i64 0) (v3 := .int .i64 0) (v4' := .slice none 0 0) r0 r1 r2 r3 r4)
    have HB9 := Lib.hid (below_set5 HB_w1.out (b := w.heap.size + 1 + 1) (by omega) (.int .i64 0) (.int .i64 0) (.int .i64 0) (.int .i64 0) (.slice none 0 0))
    go_wp2_with fail
    have hy := HG.out
    have hb9 := HB9.out
    obtain ⟨W9, hW9⟩ : ∃ W9, W9 = ((((w1.setCell ⟨w.heap.size + 1 + 1, 0, none⟩ (.int .i64 0)).setCell ⟨w.heap.size + 1 + 1, 1, none⟩ (.int .i64 0)).setCell ⟨w.heap.size + 1 + 1, 2, none⟩ (.int .i64 0)).setCell ⟨w.heap.size + 1 + 1, 3, none⟩ (.int .i64 0)).setCell ⟨w.heap.size + 1 + 1, 4, none⟩ (.slice none 0 0) := ⟨_, rfl⟩
    rw [← hW9] at hy hb9 ⊢
    have g0 := hy 0 (by simp)
    have g1 := hy 1 (by simp)
    have g2 := hy 2 (by simp)
    have g3 := hy 3 (by simp)
    have g4 := hy 4 (by simp)
    simp only [List.getElem_cons_succ, List.getElem_cons_zero] at g0 g1 g2 g3 g4
    refine bodyPost_ret (v := .tuple #[.agg #[.int .i64 0, .int .i64 0, .int .i64 0, .int .i64 0, .slice none 0 0], .bool false]) (by simp [results, Tryz.results46, g0, g1, g2, g3, g4, go_sem]) rfl ?_
    exact ⟨hb9, .inl ⟨HC.out, rfl⟩⟩
  | false =>
  have HC := Lib.hid hct
  clear hct
  have x0 := HX_w1.out 0 (by simp)
  have x1 := HX_w1.out 1 (by simp)
  have x2 := HX_w1.out 2 (by simp)
  have x3 := HX_w1.out 3 (by simp)
  have x4 := HX_w1.out 4 (by simp)
  simp only [List.getElem_cons_succ, List.getElem_cons_zero] at x0 x1 x2 x3 x4
  go_wp2_with fail
  have HA1 := Lib.hid (show EvsIn w1 0 w1.heap.size A es from (HA.out.below HB_w1.out).mono (by omega))
  have HU1 := Lib.hid (show EvsIn w1 0 w1.heap.size Au us from (HU.out.below HB_w1.out).mono (by omega))
  refine (those_m1 a b c d A es cA (stE a' b' c' d' us) (w.heap.size + 1) w1 HA1.out hn (fun e he X hX => merged1_any e (w.heap.size + 1) a' b' c' d' Au us cu X (HY_w1.out.below hX (by omega)) ((HU1.out.below hX).mono hX.size) (by omega) (HDe.out e he).1 (HDe.out e he).2)).mono ?_
  rintro r w2 ⟨A2, c2, rfl, hown2, hb2⟩
  have HO2 := Lib.hid hown2
  have HB12 := Lib.hid hb2
  have hz_w2 := hb2.size
  have lw_w2 : w.heap.size + 1 + 1 < w2.heap.size := by omega
  have HX_w2 := Lib.hid (HX_w1.out.below hb2 (by omega))
  have HY_w2 := Lib.hid (HY_w1.out.below hb2 (by omega))
  have HR_w2 := Lib.hid (HR_w1.out.below hb2 lw_w1)
  have HF_w2 := Lib.hid (show ∀ o, w2.frozen? ⟨w.heap.size + 1 + 1, o, none⟩ = false from fun o => (hb2.frozen (p := ⟨w.heap.size + 1 + 1, o, none⟩) lw_w1).trans (HF_w1.out o))
  have HB_w2 := Lib.hid (HB_w1.out.trans (hb2.mono (by omega)))
  clear hown2 hb2 x0 x1 x2 x3 x4
  have hl2 : (sts a' b' c' d' es us).length ≤ 12 := by have := fil_le (stE a' b' c' d' us) es; unfold sts; omega
  have y0 := HY_w2.out 0 (by simp)
  have y1 := HY_w2.out 1 (by simp)
  have y2 := HY_w2.out 2 (by simp)
  have y3 := HY_w2.out 3 (by simp)
  have y4 := HY_w2.out 4 (by simp)
  simp only [List.getElem_cons_succ, List.getElem_cons_zero] at y0 y1 y2 y3 y4
  go_wp2_with fail
  have HU2 := Lib.hid (show EvsIn w2 0 w2.heap.size Au us from (HU.out.below HB_w2.out).mono (by omega))
  refine (those_m2 a' b' c' d' Au us cu (fun e => !knE a b c d e) w.heap.size w2 HU2.out hnu (fun e he X hX => merged2_any e w.heap.size a b c d (.slice A es.length cA) X (HX_w2.out.below hX (by omega)) (HDu.out e he).1 (HDu.out e he).2)).mono ?_
  rintro r w3 ⟨A3, c3, rfl, hown3, hb3⟩
  have HO3 := Lib.hid hown3
  have HB23 := Lib.hid hb3
  have hz_w3 := hb3.size
  have lw_w3 : w.heap.size + 1 + 1 < w3.heap.size := by omega
  have HX_w3 := Lib.hid (HX_w2.out.below hb3 (by omega))
  have HY_w3 := Lib.hid (HY_w2.out.below hb3 (by omega))
  have HR_w3 := Lib.hid (HR_w2.out.below hb3 lw_w2)
  have HF_w3 := Lib.hid (show ∀ o, w3.frozen? ⟨w.heap.size + 1 + 1, o, none⟩ = false from fun o => (hb3.frozen (p := ⟨w.heap.size + 1 + 1, o, none⟩) lw_w2).trans (HF_w2.out o))
  have HB_w3 := Lib.hid (HB_w2.out.trans (hb3.mono (by omega)))
  clear hown3 hb3 y0 y1 y2 y3 y4
  have hl3 : (cms a b c d us).length ≤ 12 := by have := fil_le (fun e => !knE a b c d e) us; unfold cms; omega
  obtain ⟨S, hS⟩ : ∃ S, S = sts a' b' c' d' es us := ⟨_, rfl⟩
  obtain ⟨C, hC⟩ : ∃ C, C = cms a b c d us := ⟨_, rfl⟩
  rw [show fil (stE a' b' c' d' us) es = sts a' b' c' d' es us from rfl, ← hS] at HO2 ⊢
  rw [show fil (fun e => !knE a b c d e) us = cms a b c d us from rfl, ← hC] at HO3 ⊢
  rw [← hS] at hl2
  rw [← hC] at hl3
  have HL := Lib.hid (show S ++ C = mgL a b c d a' b' c' d' es us by rw [hS, hC]; rfl)
  clear hS hC
  have x0 := HX_w3.out 0 (by simp)
  have x1 := HX_w3.out 1 (by simp)
  have x2 := HX_w3.out 2 (by simp)
  have x3 := HX_w3.out 3 (by simp)
  have x4 := HX_w3.out 4 (by simp)
  simp only [List.getElem_cons_succ, List.getElem_cons_zero] at x0 x1 x2 x3 x4
  have y0 := HY_w3.out 0 (by simp)
  have y1 := HY_w3.out 1 (by simp)
  have y2 := HY_w3.out 2 (by simp)
  have y3 := HY_w3.out 3 (by simp)
  have y4 := HY_w3.out 4 (by simp)
  simp only [List.getElem_cons_succ, List.getElem_cons_zero] at y0 y1 y2 y3 y4
  go_wp2_with fail
  refine (vup_any a b c d a' b' c' d' w3).mono ?_
  rintro r w4 ⟨rfl, hb4⟩
  have HB34 := Lib.hid hb4
  have hz_w4 := hb4.size
  have lw_w4 : w.heap.size + 1 + 1 < w4.heap.size := by omega
  have HX_w4 := Lib.hid (HX_w3.out.below hb4 (by omega))
  have HY_w4 := Lib.hid (HY_w3.out.below hb4 (by omega))
  have HR_w4 := Lib.hid (HR_w3.out.below hb4 lw_w3)
  have HF_w4 := Lib.hid (show ∀ o, w4.frozen? ⟨w.heap.size + 1 + 1, o, none⟩ = false from fun o => (hb4.frozen (p := ⟨w.heap.size + 1 + 1, o, none⟩) lw_w3).trans (HF_w3.out o))
  have HB_w4 := Lib.hid (HB_w3.out.trans (hb4.mono (by omega)))
  clear hb4 x0 x1 x2 x3 x4 y0 y1 y2 y3 y4
  unfold v4
  go_wp2_with fail
  obtain ⟨W5, hW5⟩ : ∃ W5, W5 = w4.alloc (.cells #[.slice A2 S.length c2, .slice A3 C.length c3] 64) := ⟨_, rfl⟩
  have hb5 : Below w4.heap.size w4 W5 := by rw [hW5]; exact (Below.refl _ _).alloc (Nat.le_refl _) _
  have hp0 : W5.cell? ⟨w4.heap.size, 0, none⟩ = some (.slice A2 S.length c2) := by rw [hW5]; simp
  have hp1 : W5.cell? ⟨w4.heap.size, 1, none⟩ = some (.slice A3 C.length c3) := by rw [hW5]; simp
  have hl5 : w4.heap.size < W5.heap.size := by rw [hW5]; simp
  have HE2 := Lib.hid (show EvsIn W5 0 W5.heap.size A2 S from (((evs_of_row HO2.out).keep fun p _ hp => ((hb5.cell (by omega)).trans (HB34.out.cell (by omega))).trans (HB23.out.cell hp)).low (Nat.zero_le _)).mono (by omega))
  have HE3 := Lib.hid (show EvsIn W5 0 W5.heap.size A3 C from (((evs_of_row HO3.out).keep fun p _ hp => (hb5.cell (by omega)).trans (HB34.out.cell hp)).low (Nat.zero_le _)).mono (by omega))
  rw [← hW5]
  clear hW5
  have hz_W5 := hb5.size
  have lw_W5 : w.heap.size + 1 + 1 < W5.heap.size := by omega
  have HX_W5 := Lib.hid (HX_w4.out.below hb5 (by omega))
  have HY_W5 := Lib.hid (HY_w4.out.below hb5 (by omega))
  have HR_W5 := Lib.hid (HR_w4.out.below hb5 lw_w4)
  have HF_W5 := Lib.hid (show ∀ o, W5.frozen? ⟨w.heap.size + 1 + 1, o, none⟩ = false from fun o => (hb5.frozen (p := ⟨w.heap.size + 1 + 1, o, none⟩) lw_w4).trans (HF_w4.out o))
  have HB_W5 := Lib.hid (HB_w4.out.trans (hb5.mono (by omega)))
  clear hb5
  obtain ⟨L, hL⟩ : ∃ L, L = S ++ C := ⟨_, rfl⟩
  have hlL : L.length ≤ 24 := by rw [hL]; simp; omega
  have hcc := concatE_any w4.heap.size A2 S c2 A3 C c3 W5 (by omega) (by omega) hp0 hp1 HE2.out HE3.out
  rw [← hL] at hcc HL
  clear hL hp0 hp1
  refine hcc.mono ?_
  clear hcc
  rintro r w6 ⟨A6, c6, rfl, hown6, hb6⟩
  have HO6 := Lib.hid hown6
  have hz_w6 := hb6.size
  have lw_w6 : w.heap.size + 1 + 1 < w6.heap.size := by omega
  have HX_w6 := Lib.hid (HX_W5.out.below hb6 (by omega))
  have HY_w6 := Lib.hid (HY_W5.out.below hb6 (by omega))
  have HR_w6 := Lib.hid (HR_W5.out.below hb6 lw_W5)
  have HF_w6 := Lib.hid (show ∀ o, w6.frozen? ⟨w.heap.size + 1 + 1, o, none⟩ = false from fun o => (hb6.frozen (p := ⟨w.heap.size + 1 + 1, o, none⟩) lw_W5).trans (HF_W5.out o))
  have HB_w6 := Lib.hid (HB_W5.out.trans (hb6.mono (by omega)))
  have HS6 := Lib.hid hb6.size
  clear hown6 hb6
  go_wp2_with fail
  refine (ordered_gen (mx a a') (mx b b') (mx c c') (mx d d') L A6 c6 W5.heap.size w6 HO6.out (by omega) HS6.out).mono ?_
  rintro r w7 ⟨es', hpm, hpw, rfl, hev, hsz, hb7⟩
  have HPm := Lib.hid hpm
  have HPw := Lib.hid hpw
  have HEv := Lib.hid hev
  have lw5 : w.heap.size + 1 + 1 < W5.heap.size := lw_W5
  have HR7 := Lib.hid (HR_w6.out.below hb7 lw5)
  have HF7 := Lib.hid (show ∀ o, w7.frozen? ⟨w.heap.size + 1 + 1, o, none⟩ = false from fun o => (hb7.frozen (p := ⟨w.heap.size + 1 + 1, o, none⟩) lw5).trans (HF_w6.out o))
  have HB7 := Lib.hid (HB_w6.out.trans (hb7.mono (by omega)))
  clear hpm hpw hev hb7
  have r0 := HR7.out 0 (by simp)
  have r1 := HR7.out 1 (by simp)
  have r2 := HR7.out 2 (by simp)
  have r3 := HR7.out 3 (by simp)
  have r4 := HR7.out 4 (by simp)
  simp only [List.getElem_cons_succ, List.getElem_cons_zero] at r0 r1 r2 r3 r4
  have f0 := HF7.out 0
  have f1 := HF7.out 1
  have f2 := HF7.out 2
  have f3 := HF7.out 3
  have f4 := HF7.out 4
  obtain ⟨m0, hm0⟩ : ∃ m, m = mx a a' := ⟨_, rfl⟩
  obtain ⟨m1, hm1⟩ : ∃ m, m = mx b b' := ⟨_, rfl⟩
  obtain ⟨m2, hm2⟩ : ∃ m, m = mx c c' := ⟨_, rfl⟩
  obtain ⟨m3, hm3⟩ : ∃ m, m = mx d d' := ⟨_, rfl⟩
  rw [← hm0, ← hm1, ← hm2, ← hm3]
  obtain ⟨tb, htb⟩ : ∃ t, t = tokB m0 m1 m2 m3 es' := ⟨_, rfl⟩
  rw [← htb]
  have HM := Lib.hid (And.intro hm0 (And.intro hm1 (And.intro hm2 (And.intro hm3 htb))))
  clear hm0 hm1 hm2 hm3 htb
  have HG := Lib.hid (set5_get (v0 := .int .i64 m0) (v1 := .int .i64 m1) (v2 := .int .i64 m2) (v3 := .int .i64 m3) (v4' := .slice A6 L.length c6) r0 r1 r2 r3 r4)
  have HB9 := Lib.hid (below_set5 HB7.out (b := w.heap.size + 1 + 1) (by omega) (.int .i64 m0) (.int .i64 m1) (.int .i64 m2) (.int .i64 m3) (.slice A6 L.length c6))
  have HE9 := Lib.hid (show EvsIn (((((w7.setCell ⟨w.heap.size + 1 + 1, 0, none⟩ (.int .i64 m0)).setCell ⟨w.heap.size + 1 + 1, 1, none⟩ (.int .i64 m1)).setCell ⟨w.heap.size + 1 + 1, 2, none⟩ (.int .i64 m2)).setCell ⟨w.heap.size + 1 + 1, 3, none⟩ (.int .i64 m3)).setCell ⟨w.heap.size + 1 + 1, 4, none⟩ (.slice A6 L.length c6)) W5.heap.size w7.heap.size A6 es' from HEv.out.keep fun p h1 h2 => cell_other' (by omega))
  go_wp2_with fail
  have hy := HG.out
  have hb9 := HB9.out
  have he9 := HE9.out
  have hs9 : w7.heap.size = (((((w7.setCell ⟨w.heap.size + 1 + 1, 0, none⟩ (.int .i64 m0)).setCell ⟨w.heap.size + 1 + 1, 1, none⟩ (.int .i64 m1)).setCell ⟨w.heap.size + 1 + 1, 2, none⟩ (.int .i64 m2)).setCell ⟨w.heap.size + 1 + 1, 3, none⟩ (.int .i64 m3)).setCell ⟨w.heap.size + 1 + 1, 4, none⟩ (.slice A6 L.length c6)).heap.size := by simp
  obtain ⟨W9, hW9⟩ : ∃ W9, W9 = ((((w7.setCell ⟨w.heap.size + 1 + 1, 0, none⟩ (.int .i64 m0)).setCell ⟨w.heap.size + 1 + 1, 1, none⟩ (.int .i64 m1)).setCell ⟨w.heap.size + 1 + 1, 2, none⟩ (.int .i64 m2)).setCell ⟨w.heap.size + 1 + 1, 3, none⟩ (.int .i64 m3)).setCell ⟨w.heap.size + 1 + 1, 4, none⟩ (.slice A6 L.length c6) := ⟨_, rfl⟩
  rw [← hW9] at hy hb9 he9 hs9 ⊢
  have g0 := hy 0 (by simp)
  have g1 := hy 1 (by simp)
  have g2 := hy 2 (by simp)
  have g3 := hy 3 (by simp)
  have g4 := hy 4 (by simp)
  simp only [List.getElem_cons_succ, List.getElem_cons_zero] at g0 g1 g2 g3 g4
  refine bodyPost_ret (v := .tuple #[.agg #[.int .i64 m0, .int .i64 m1, .int .i64 m2, .int .i64 m3, .slice A6 L.length c6], .bool tb]) (by simp [results, Tryz.results46, g0, g1, g2, g3, g4, go_sem]) rfl ?_
  obtain ⟨hm0, hm1, hm2, hm3, htb⟩ := HM.out
  refine ⟨hb9, .inr ⟨HC.out, es', A6, c6, by rw [← HL.out]; exact HPm.out, HPw.out, ?_, (he9.low (Nat.zero_le _)).mono (by omega)⟩⟩
  rw [HPm.out.length_eq, htb, hm0, hm1, hm2, hm3]

end Go.Proofs.YtepkicgnhjaokaaGreatDoor

namespace Go.Proofs.YtepkicgnhjaokaaGreatDoor
open Go.RowKit Go.Maps

def mgOk (vec : List Int) (es : List En) (vec2 : List Int) (us : List En) : Bool := treeB vec es && treeB vec2 us && agB es us && treeB (mxs vec vec2 4) (mgE vec es vec2 us)
def mgVec (vec : List Int) (es : List En) (vec2 : List Int) (us : List En) : List Int := if mgOk vec es vec2 us = true then mxs vec vec2 4 else []
def mgEs (vec : List Int) (es : List En) (vec2 : List Int) (us : List En) : List En := if mgOk vec es vec2 us = true then mgE vec es vec2 us else []

theorem tree_parts {vec : List Int} {es : List En} (h : treeB vec es = true) : vecB vec = true ∧ es.length ≤ 12 ∧ tokB (vec.getD 0 0) (vec.getD 1 0) (vec.getD 2 0) (vec.getD 3 0) es = true := by
  unfold treeB at h
  simp only [Bool.and_eq_true, decide_eq_true_eq] at h
  exact ⟨h.1.1.1, h.1.1.2, h.2⟩
theorem tree_dev {vec : List Int} {es : List En} (h : treeB vec es = true) : ∀ e ∈ es, 0 ≤ e.dev ∧ e.dev < 4 := by
  intro e he
  have hf := tok_fit (tree_parts h).2.2 e he
  unfold fitB devB at hf
  simp only [Bool.and_eq_true, decide_eq_true_eq] at hf
  exact hf.1.1.2
theorem nth4_getD (a b c d : Int) {k : Nat} (hk : k < 4) : nth4 a b c d k = [a, b, c, d].getD k 0 := by
  have : k = 0 ∨ k = 1 ∨ k = 2 ∨ k = 3 := by omega
  rcases this with rfl | rfl | rfl | rfl <;> rfl
theorem kn_getD {a b c d : Int} {e : En} (h : 0 ≤ e.dev ∧ e.dev < 4) : knE a b c d e = decide (e.num ≤ [a, b, c, d].getD e.dev.toNat 0) := by
  unfold knE knowB
  rw [nth4_getD a b c d (by omega)]
theorem tree_known {a b c d : Int} {es : List En} (h : treeB [a, b, c, d] es = true) : ∀ e ∈ es, e.num ≤ [a, b, c, d].getD e.dev.toNat 0 := by
  intro e he
  have hf := tok_fit (tree_parts h).2.2 e he
  have hd := tree_dev h e he
  unfold fitB at hf
  simp only [Bool.and_eq_true] at hf
  have h2 : knE a b c d e = true := hf.2
  rw [kn_getD hd, decide_eq_true_eq] at h2
  exact h2
theorem deeds_one {a b c d : Int} {es : List En} (h : tokB a b c d es = true) {i j : Nat} (hi : i < es.length) (hj : j < es.length) (hd : es[i].dev = es[j].dev) (hm : es[i].num = es[j].num) : i = j := by
  unfold tokB at h
  simp only [Bool.and_eq_true, List.all_eq_true, List.mem_range] at h
  have key : ∀ {p q : Nat} (hp : p < es.length) (hq : q < es.length), p < q → es[p].dev = es[q].dev → es[p].num = es[q].num → False := fun {p q} hp hq hpq h1 h2 => by
    have hg := h.2 q hq
    unfold goodB at hg
    simp only [Bool.and_eq_true, Bool.not_eq_true'] at hg
    have hn := hg.1.2
    rw [List.getD_eq_getElem?_getD, List.getElem?_eq_getElem hq] at hn
    simp only [Option.getD_some] at hn
    have : inB ((es.take q).map deedOf) (deedOf es[q]) = true := by
      rw [inB_hasDeed]
      unfold hasDeed
      rw [List.any_eq_true]
      exact ⟨es[p], List.mem_take_iff_getElem.2 ⟨p, by omega, rfl⟩, by simp [h1, h2]⟩
    rw [this] at hn
    cases hn
  rcases Nat.lt_trichotomy i j with hlt | he | hlt
  · exact (key hi hj hlt hd hm).elim
  · exact he
  · exact (key hj hi hlt hd.symm hm.symm).elim

theorem pla_en {e f : En} (h : plaV e f = 0) (hv : e.val = f.val) : e = f := by
  obtain ⟨h1, h2, h3⟩ := (pla_zero e f).1 h
  obtain ⟨n1, v1, d1, m1⟩ := e
  obtain ⟨n2, v2, d2, m2⟩ := f
  simp only at *
  subst h1
  subst hv
  simp_all

theorem ag_ctr {a b c d : Int} {es us : List En} (h : tokB a b c d us = true) : agB es us = !ctrB es us := by
  rw [Bool.eq_iff_iff]
  simp only [Bool.not_eq_true']
  constructor
  · intro hag
    cases hc : ctrB es us with
    | false => rfl
    | true =>
      unfold ctrB at hc
      rw [List.any_eq_true] at hc
      obtain ⟨e, he, hu⟩ := hc
      unfold unEs at hu
      rw [List.any_eq_true] at hu
      obtain ⟨f, hf, hun⟩ := hu
      unfold unE at hun
      simp only [Bool.and_eq_true, beq_iff_eq, Bool.not_eq_true'] at hun
      obtain ⟨⟨hd, hm⟩, hne⟩ := hun
      unfold agB at hag
      rw [List.all_eq_true] at hag
      have hua := hag e he
      simp only [Bool.not_eq_true'] at hua
      obtain ⟨j, hj, rfl⟩ := List.getElem_of_mem hf
      have hh : hasDeed us e.dev e.num = true := by
        unfold hasDeed
        rw [List.any_eq_true]
        exact ⟨us[j], List.getElem_mem hj, by simp [hd, hm]⟩
      rw [← dotV_has, decide_eq_true_eq] at hh
      obtain ⟨_, hi, e1, e2⟩ := dotV_lt hh
      have hij := deeds_one h hi hj (by rw [e1]; exact hd) (by rw [e2]; exact hm)
      have hdot : dotV us e.dev e.num = j := by omega
      rw [unA_at hj hdot] at hua
      simp only [Bool.or_eq_false_iff, Bool.not_eq_false', decide_eq_true_eq, beq_iff_eq] at hua
      have := pla_en hua.1 hua.2
      rw [(eqE_iff _ _).2 this] at hne
      cases hne
  · intro hc
    refine agB_yes fun i hi => ?_
    by_cases h0 : 0 ≤ dotV us es[i].dev es[i].num
    · obtain ⟨_, hj, e1, e2⟩ := dotV_lt h0
      obtain ⟨j, hjd⟩ := Int.eq_ofNat_of_zero_le h0
      have hjl : j < us.length := by rw [hjd] at hj; simpa using hj
      rw [unA_at hjl hjd]
      have e1' : us[j].dev = es[i].dev := by simpa [hjd] using e1
      have e2' : us[j].num = es[i].num := by simpa [hjd] using e2
      have heq : eqE es[i] us[j] = true := by
        cases hq : eqE es[i] us[j] with
        | true => rfl
        | false =>
          have : ctrB es us = true := by
            unfold ctrB
            rw [List.any_eq_true]
            refine ⟨es[i], List.getElem_mem hi, ?_⟩
            unfold unEs
            rw [List.any_eq_true]
            exact ⟨us[j], List.getElem_mem hjl, by simp [unE, e1', e2', hq]⟩
          rw [this] at hc
          cases hc
      have h3 := (eqE_iff _ _).1 heq
      rw [h3, (pla_zero us[j] us[j]).2 ⟨rfl, rfl, rfl⟩]
      simp
    · exact unA_neg (by omega)

theorem has_dot {es us : List En} (hc : ctrB es us = false) {e : En} (he : e ∈ es) : hasE us e = decide (0 ≤ dotV us e.dev e.num) := by
  rw [dotV_has, Bool.eq_iff_iff]
  unfold hasE hasDeed
  rw [List.any_eq_true, List.any_eq_true]
  constructor
  · rintro ⟨f, hf, h⟩
    have := (eqE_iff _ _).1 h
    subst this
    exact ⟨e, hf, by simp⟩
  · rintro ⟨f, hf, h⟩
    simp only [Bool.and_eq_true, beq_iff_eq] at h
    refine ⟨f, hf, ?_⟩
    cases hq : eqE e f with
    | true => rfl
    | false =>
      have : ctrB es us = true := by
        unfold ctrB
        rw [List.any_eq_true]
        refine ⟨e, he, ?_⟩
        unfold unEs
        rw [List.any_eq_true]
        exact ⟨f, hf, by simp [unE, h.1, h.2, hq]⟩
      rw [this] at hc
      cases hc
theorem not_le_lt (x y : Int) : (!decide (x ≤ y)) = decide (y < x) := by
  rw [Bool.eq_iff_iff]
  simp
theorem sts_q {a' b' c' d' : Int} {es us : List En} (hc : ctrB es us = false) (hd : ∀ e ∈ es, 0 ≤ e.dev ∧ e.dev < 4) : sts a' b' c' d' es us = fil (q1B [a', b', c', d'] us) es := by
  unfold sts fil
  refine List.filter_congr fun e he => ?_
  unfold stE q1B
  rw [has_dot hc he, kn_getD (hd e he), not_le_lt]
theorem cms_q {a b c d : Int} {es us : List En} (ht : treeB [a, b, c, d] es = true) (hd : ∀ e ∈ us, 0 ≤ e.dev ∧ e.dev < 4) : cms a b c d us = fil (q2B [a, b, c, d] es) us := by
  unfold cms fil
  refine List.filter_congr fun f hf => ?_
  unfold q2B
  rw [kn_getD (hd f hf), not_le_lt]
  by_cases h : [a, b, c, d].getD f.dev.toNat 0 < f.num
  · have : dotV es f.dev f.num < 0 := by
      by_cases h0 : 0 ≤ dotV es f.dev f.num
      · obtain ⟨_, hj, e1, e2⟩ := dotV_lt h0
        have := tree_known ht _ (List.getElem_mem hj)
        rw [e1, e2] at this
        omega
      · omega
    simp [this]
  · have : decide ([a, b, c, d].getD f.dev.toNat 0 < f.num) = false := by simpa using h
    rw [this, Bool.and_false]

theorem insAll_perm : ∀ (xs l : List En), (insAll l xs).Perm (l ++ xs)
  | [], l => by simp [insAll]
  | x :: xs, l => by
    have h := insAll_perm xs (insE l x)
    have h2 : (insE l x ++ xs).Perm (l ++ x :: xs) := ((ins_perm l x).append_right xs).trans (by simpa using (List.perm_middle (a := x) (l₁ := l) (l₂ := xs)).symm)
    exact h.trans h2
theorem insAll_ord : ∀ (xs l : List En), InOrd l → (l ++ xs).Pairwise (fun e f => plaV e f ≠ 0) → InOrd (insAll l xs)
  | [], l, h, _ => by simpa [insAll] using h
  | x :: xs, l, h, hp => by
    have hx : ∀ y ∈ l, plaV y x ≠ 0 := fun y hy => (List.pairwise_append.1 hp).2.2 y hy x (by simp)
    refine insAll_ord xs (insE l x) (ins_ord h hx) ?_
    have h2 : (insE l x ++ xs).Perm (l ++ x :: xs) := ((ins_perm l x).append_right xs).trans (by simpa using (List.perm_middle (a := x) (l₁ := l) (l₂ := xs)).symm)
    exact (h2.pairwise_iff (fun {a b} h => by have := pla_anti a b; omega)).2 hp

theorem mg_pair {a b c d : Int} {vec2 : List Int} {es us : List En} (ht : treeB [a, b, c, d] es = true) (hu : treeB vec2 us = true) : (fil (q1B vec2 us) es ++ fil (q2B [a, b, c, d] es) us).Pairwise (fun e f => plaV e f ≠ 0) := by
  have h1 : ∀ {l : List En}, InOrd l → l.Pairwise (fun e f => plaV e f ≠ 0) := fun h => List.Pairwise.imp (fun {a b} (h : plaV a b < 0) => by omega) h
  refine List.pairwise_append.2 ⟨h1 (List.Pairwise.filter _ (tree_tok ht)), h1 (List.Pairwise.filter _ (tree_tok hu)), fun e he f hf h0 => ?_⟩
  have he' : e ∈ es := (List.mem_filter.1 he).1
  have hf' := (List.mem_filter.1 hf).2
  unfold q2B at hf'
  simp only [Bool.and_eq_true, decide_eq_true_eq] at hf'
  obtain ⟨_, e2, e3⟩ := (pla_zero e f).1 h0
  have hk := tree_known ht e he'
  rw [e2, e3] at hk
  omega

/-- What the program puts in order is what the model lays into its places. -/
theorem mg_one {a b c d a' b' c' d' : Int} {es us es' : List En} (ht : treeB [a, b, c, d] es = true) (hu : treeB [a', b', c', d'] us = true) (hc : ctrB es us = false) (hp : es'.Perm (mgL a b c d a' b' c' d' es us)) (hs : es'.Pairwise fun e f => 0 ≤ plaV f e) :
    es' = mgE [a, b, c, d] es [a', b', c', d'] us := by
  have hL : mgL a b c d a' b' c' d' es us = fil (q1B [a', b', c', d'] us) es ++ fil (q2B [a, b, c, d] es) us := by
    unfold mgL
    rw [sts_q hc (tree_dev ht), cms_q ht (tree_dev hu)]
  rw [hL] at hp
  have hpw := mg_pair (vec2 := [a', b', c', d']) ht hu
  have hm : (mgE [a, b, c, d] es [a', b', c', d'] us).Perm (fil (q1B [a', b', c', d'] us) es ++ fil (q2B [a, b, c, d] es) us) := by
    unfold mgE mg1
    exact (insAll_perm _ _).trans ((insAll_perm _ _).append_right _)
  have ho : InOrd (mgE [a, b, c, d] es [a', b', c', d'] us) := by
    have h1 : InOrd (mg1 [a', b', c', d'] es us) := insAll_ord _ _ List.Pairwise.nil (by simpa using (List.pairwise_append.1 hpw).1)
    refine insAll_ord _ _ h1 ?_
    have h2 : (mg1 [a', b', c', d'] es us).Perm (fil (q1B [a', b', c', d'] us) es) := by
      have := insAll_perm (fil (q1B [a', b', c', d'] us) es) []
      simpa [mg1] using this
    exact ((h2.append_right _).pairwise_iff (fun {a b} h => by have := pla_anti a b; omega)).2 hpw
  refine ord_one (hp.trans hm.symm) ?_ ho
  have hne : es'.Pairwise (fun e f => plaV e f ≠ 0) := (hp.pairwise_iff (fun {a b} h => by have := pla_anti a b; omega)).2 hpw
  exact (hs.and hne).imp (fun {a b} h => by have := pla_anti a b; omega)

theorem mg_names {vec : List Int} {es : List En} {vec2 : List Int} {us : List En} (h : treeB vec es = true) (h2 : treeB vec2 us = true) : ∀ e ∈ mgE vec es vec2 us, nameB e.name = true := by
  intro e he
  have hm : e ∈ fil (q1B vec2 us) es ++ fil (q2B vec es) us := ((insAll_perm _ _).trans ((insAll_perm _ _).append_right _)).mem_iff.1 he
  rcases List.mem_append.1 hm with hm | hm
  · exact tree_names h e (List.mem_filter.1 hm).1
  · exact tree_names h2 e (List.mem_filter.1 hm).1
theorem mg_len (vec : List Int) (es : List En) (vec2 : List Int) (us : List En) : (mgE vec es vec2 us).length ≤ es.length + us.length := by
  unfold mgE mg1
  rw [insAll_len, insAll_len]
  have h1 := fil_le (q1B vec2 us) es
  have h2 := fil_le (q2B vec es) us
  simp only [List.length_nil]
  omega
theorem mg_bulk {vec : List Int} {es : List En} {vec2 : List Int} {us : List En} (h : treeB vec es = true) (h2 : treeB vec2 us = true) : ebulk (mgE vec es vec2 us) ≤ 1048576 := by
  have k1 := bulk_24 (mg_names h h2)
  have k2 := mg_len vec es vec2 us
  have k3 := treeB_len3 h
  have k4 := treeB_len3 h2
  omega
theorem mg_tree {a b c d a' b' c' d' : Int} {es us : List En} (h : treeB [a, b, c, d] es = true) (h2 : treeB [a', b', c', d'] us = true) :
    treeB (mxs [a, b, c, d] [a', b', c', d'] 4) (mgE [a, b, c, d] es [a', b', c', d'] us) = tokB (mx a a') (mx b b') (mx c c') (mx d d') (mgE [a, b, c, d] es [a', b', c', d'] us) := by
  have hx : mxs [a, b, c, d] [a', b', c', d'] 4 = [mx a a', mx b b', mx c c', mx d d'] := rfl
  rw [hx]
  unfold treeB
  have hall : (mgE [a, b, c, d] es [a', b', c', d'] us).all (fun e => nameB e.name) = true := by
    rw [List.all_eq_true]
    exact mg_names h h2
  cases ht : tokB (mx a a') (mx b b') (mx c c') (mx d d') (mgE [a, b, c, d] es [a', b', c', d'] us) with
  | false => simp [ht]
  | true =>
    obtain ⟨k1, k2⟩ := tok_vec ht
    simp [ht, k1, k2, hall]

theorem mg_f1 {vec : List Int} {es : List En} {vec2 : List Int} {us : List En} (h : treeB vec es = false) : mgOk vec es vec2 us = false := by simp [mgOk, h]
theorem mg_f2 {vec : List Int} {es : List En} {vec2 : List Int} {us : List En} (h : treeB vec2 us = false) : mgOk vec es vec2 us = false := by simp [mgOk, h]
theorem mg_f3 {vec : List Int} {es : List En} {vec2 : List Int} {us : List En} (h : agB es us = false) : mgOk vec es vec2 us = false := by simp [mgOk, h]
theorem mg_no {vec : List Int} {es : List En} {vec2 : List Int} {us : List En} (h : mgOk vec es vec2 us = false) : mgVec vec es vec2 us = [] ∧ mgEs vec es vec2 us = [] := by
  unfold mgVec mgEs
  rw [h]
  simp
theorem mg_yes {vec : List Int} {es : List En} {vec2 : List Int} {us : List En} (h : mgOk vec es vec2 us = true) : mgVec vec es vec2 us = mxs vec vec2 4 ∧ mgEs vec es vec2 us = mgE vec es vec2 us := by
  unfold mgVec mgEs
  rw [h]
  simp
theorem mgVec_len {vec : List Int} {es : List En} {vec2 : List Int} {us : List En} : (mgVec vec es vec2 us).length ≤ 1048576 := by
  unfold mgVec
  split
  · simp [mxs]
  · simp
theorem mgEs_len {vec : List Int} {es : List En} {vec2 : List Int} {us : List En} : (mgEs vec es vec2 us).length ≤ 1048576 := by
  unfold mgEs
  split
  · rename_i h
    unfold mgOk at h
    simp only [Bool.and_eq_true] at h
    have := treeB_len3 h.1.1.1
    have := treeB_len3 h.1.1.2
    have := mg_len vec es vec2 us
    omega
  · simp
theorem mgEs_bulk {vec : List Int} {es : List En} {vec2 : List Int} {us : List En} : ebulk (mgEs vec es vec2 us) ≤ 1048576 := by
  unfold mgEs
  split
  · rename_i h
    unfold mgOk at h
    simp only [Bool.and_eq_true] at h
    exact mg_bulk h.1.1.1 h.1.1.2
  · simp [ebulk]

end Go.Proofs.YtepkicgnhjaokaaGreatDoor

namespace Go.Proofs.YtepkicgnhjaokaaGreatDoor
open Go.RowKit Go.Maps

set_option maxRecDepth 100000 in
set_option maxHeartbeats 4000000 in
theorem implMerge_any (AV : Option Addr) (vec : List Int) (cv : Nat) (A : Option Addr) (es : List En) (c : Nat) (AV2 : Option Addr) (vec2 : List Int) (cv2 : Nat) (A2 : Option Addr) (us : List En) (c2 : Nat) (w : World) (hV : IntsIn w 0 w.heap.size AV vec) (hA : EnsIn w 0 w.heap.size A es) (hv : vec.length ≤ 1048576) (hn : es.length ≤ 1048576) (hbk : ebulk es ≤ 1048576) (hV2 : IntsIn w 0 w.heap.size AV2 vec2) (hA2 : EnsIn w 0 w.heap.size A2 us) (hv2 : vec2.length ≤ 1048576) (hn2 : us.length ≤ 1048576) (hbk2 : ebulk us ≤ 1048576) :
    Calls Tryz.prog 19 #[.agg #[.slice AV vec.length cv, .slice A es.length c], .agg #[.slice AV2 vec2.length cv2, .slice A2 us.length c2]] w (NewTrB (mgVec vec es vec2 us) (mgEs vec es vec2 us) (mgOk vec es vec2 us) w) := by
  have HV := Lib.hid hV
  have HA := Lib.hid hA
  have HV2 := Lib.hid hV2
  have HA2 := Lib.hid hA2
  clear hV hA hV2 hA2
  go_enter Tryz.func19, Tryz.ntmps19
  go_wp2_with fail
  obtain ⟨W0, hW0⟩ : ∃ W0, W0 = w.alloc (.cells #[.slice AV vec.length cv, .slice A es.length c] 26) := ⟨_, rfl⟩
  obtain ⟨W1, hW1⟩ : ∃ W1, W1 = W0.alloc (.cells #[.slice AV2 vec2.length cv2, .slice A2 us.length c2] 26) := ⟨_, rfl⟩
  obtain ⟨W, hW⟩ : ∃ W, W = W1.alloc (.cells #[.slice none 0 0, .slice none 0 0] 26) := ⟨_, rfl⟩
  have hz0 : W0.heap.size = w.heap.size + 1 := by rw [hW0]; simp
  have hz1 : W1.heap.size = w.heap.size + 1 + 1 := by rw [hW1]; simp [hz0]
  have lw : w.heap.size + 1 + 1 < W.heap.size := by rw [hW]; simp [hz1]
  have HR := Lib.hid (show Bx W (w.heap.size + 1 + 1) [.slice none 0 0, .slice none 0 0] by rw [hW, ← hz1]; exact Bx.new' _ _ _ _ rfl)
  have HF := Lib.hid (show ∀ o, W.frozen? ⟨w.heap.size + 1 + 1, o, none⟩ = false from fun o => by rw [hW, hW1, hW0]; exact ((((Fresh.refl w).alloc _ _).alloc _ _).alloc _ _) ⟨w.heap.size + 1 + 1, o, none⟩ (by show w.heap.size ≤ w.heap.size + 1 + 1; omega))
  have HB := Lib.hid (show Below w.heap.size w W by rw [hW, hW1, hW0]; exact (((Below.refl _ _).alloc (Nat.le_refl _) _).alloc (by simp) _).alloc (by simp; omega) _)
  rw [← hW0, ← hW1, ← hW]
  clear hW hW1 hW0 hz0 hz1
  refine (readTrees_any AV vec cv A es c AV2 vec2 cv2 A2 us c2 W ((HV.out.keep fun p _ hp => HB.out.cell hp).mono (by omega)) ((HA.out.below HB.out).mono (by omega)) hv hn hbk ((HV2.out.keep fun p _ hp => HB.out.cell hp).mono (by omega)) ((HA2.out.below HB.out).mono (by omega)) hv2 hn2 hbk2).mono ?_
  rintro r w1 ⟨x0, x1, x2, x3, E1, n1, k1, y0, y1, y2, y3, E2, n2, k2, rfl, ht1, ht2, hb1⟩
  have HT1 := Lib.hid ht1
  have HT2 := Lib.hid ht2
  have hz_1 := hb1.size
  have lw1 : w.heap.size + 1 + 1 < w1.heap.size := by omega
  have HR1 := Lib.hid (HR.out.below hb1 lw)
  have HF1 := Lib.hid (show ∀ o, w1.frozen? ⟨w.heap.size + 1 + 1, o, none⟩ = false from fun o => (hb1.frozen (p := ⟨w.heap.size + 1 + 1, o, none⟩) lw).trans (HF.out o))
  have HB1 := Lib.hid (show Below w.heap.size w w1 from HB.out.trans (hb1.mono (by omega)))
  clear ht1 ht2 hb1

  obtain ⟨tb, htb⟩ : ∃ tb, tb = (treeB vec es && treeB vec2 us) := ⟨_, rfl⟩
  rw [← htb]
  have HTb := Lib.hid htb
  clear htb
  go_upto_region 2 with fail
  obtain ⟨W3, hW3⟩ : ∃ W3, W3 = w1.alloc (.cells #[.int .i64 x0, .int .i64 x1, .int .i64 x2, .int .i64 x3, .slice E1 n1 k1] 66) := ⟨_, rfl⟩
  obtain ⟨W4, hW4⟩ : ∃ W4, W4 = W3.alloc (.cells #[.int .i64 y0, .int .i64 y1, .int .i64 y2, .int .i64 y3, .slice E2 n2 k2] 66) := ⟨_, rfl⟩
  have hz3 : W3.heap.size = w1.heap.size + 1 := by rw [hW3]; simp
  have hz4 : w1.heap.size + 1 < W4.heap.size := by rw [hW4]; simp [hz3]
  have hb4 : Below w1.heap.size w1 W4 := by rw [hW4, hW3]; exact ((Below.refl _ _).alloc (Nat.le_refl _) _).alloc (by simp) _
  have HP := Lib.hid (show Bx W4 w1.heap.size [.int .i64 x0, .int .i64 x1, .int .i64 x2, .int .i64 x3, .slice E1 n1 k1] by rw [hW4]; exact Bx.alloc (by rw [hW3]; exact Bx.new' _ _ _ _ rfl) (by omega) _)
  have HQ4 := Lib.hid (show Bx W4 (w1.heap.size + 1) [.int .i64 y0, .int .i64 y1, .int .i64 y2, .int .i64 y3, .slice E2 n2 k2] by rw [hW4, ← hz3]; exact Bx.new' _ _ _ _ rfl)
  have HR4 := Lib.hid (HR1.out.below hb4 lw1)
  have HF4 := Lib.hid (show ∀ o, W4.frozen? ⟨w.heap.size + 1 + 1, o, none⟩ = false from fun o => (hb4.frozen (p := ⟨w.heap.size + 1 + 1, o, none⟩) lw1).trans (HF1.out o))
  have HB4 := Lib.hid (show Below w.heap.size w W4 from HB1.out.trans (hb4.mono (by omega)))
  have HB14 := Lib.hid hb4
  have lw4 : w.heap.size + 1 + 1 < W4.heap.size := by omega
  rw [← hW3, ← hW4]
  clear hW3 hW4 hz3 hb4
  cases tb with
  | false =>
    have r0 := HR4.out 0 (by simp)
    have r1 := HR4.out 1 (by simp)
    simp only [List.getElem_cons_succ, List.getElem_cons_zero] at r0 r1
    have f0 := HF4.out 0
    have f1 := HF4.out 1
    have HO := Lib.hid (show mgOk vec es vec2 us = false from by unfold mgOk; rw [← HTb.out]; rfl)
    have HN := Lib.hid (mg_no HO.out)
    have HQ := Lib.hid (two_get (v0 := .slice none 0 0) (v1 := .slice none 0 0) r0 r1)
    have HB2 := Lib.hid (show Below w.heap.size w ((W4.setCell ⟨w.heap.size + 1 + 1, 0, none⟩ (.slice none 0 0)).setCell ⟨w.heap.size + 1 + 1, 1, none⟩ (.slice none 0 0)) from (HB4.out.setCell (show w.heap.size ≤ w.heap.size + 1 + 1 by omega) _).setCell (show w.heap.size ≤ w.heap.size + 1 + 1 by omega) _)
    go_wp2_with fail
    have hB3 := HB2.out
    obtain ⟨q0, q1⟩ := HQ.out
    have hsz : w.heap.size < ((W4.setCell ⟨w.heap.size + 1 + 1, 0, none⟩ (.slice none 0 0)).setCell ⟨w.heap.size + 1 + 1, 1, none⟩ (.slice none 0 0)).heap.size := by simp; omega
    obtain ⟨W9, hW9⟩ : ∃ W9, W9 = (W4.setCell ⟨w.heap.size + 1 + 1, 0, none⟩ (.slice none 0 0)).setCell ⟨w.heap.size + 1 + 1, 1, none⟩ (.slice none 0 0) := ⟨_, rfl⟩
    rw [← hW9] at q0 q1 hB3 hsz ⊢
    refine bodyPost_ret (v := .tuple #[.agg #[.slice none 0 0, .slice none 0 0], .bool false]) (by simp [results, Tryz.results19, q0, q1, go_sem]) rfl ?_
    rw [HN.out.1, HN.out.2, HO.out]
    exact ⟨none, 0, none, 0, rfl, TrOwn.none _ _ _ (by omega), hsz, hB3⟩
  | true =>
  have ht := HTb.out
  have ht1 : treeB vec es = true := by
    cases h : treeB vec es with
    | true => rfl
    | false => rw [h] at ht; cases ht
  have ht2 : treeB vec2 us = true := by
    rw [ht1] at ht
    exact ht.symm
  obtain ⟨rfl, rfl, hev1⟩ := HT1.out ht1
  obtain ⟨rfl, rfl, hev2⟩ := HT2.out ht2
  have HE1 := Lib.hid (show EvsIn W4 0 W4.heap.size E1 es from ((hev1.keep fun p _ hp => HB14.out.cell hp).low (Nat.zero_le _)).mono (by omega))
  have HE2 := Lib.hid (show EvsIn W4 0 W4.heap.size E2 us from ((hev2.keep fun p _ hp => HB14.out.cell hp).low (Nat.zero_le _)).mono (by omega))
  have HTr1 := Lib.hid ht1
  have HTr2 := Lib.hid ht2
  have hl1 := treeB_len3 ht1
  have hl2 := treeB_len3 ht2
  clear ht ht1 ht2 hev1 hev2 HT1 HT2
  have p0 := HP.out 0 (by simp)
  have p1 := HP.out 1 (by simp)
  have p2 := HP.out 2 (by simp)
  have p3 := HP.out 3 (by simp)
  have p4 := HP.out 4 (by simp)
  have q0 := HQ4.out 0 (by simp)
  have q1 := HQ4.out 1 (by simp)
  have q2 := HQ4.out 2 (by simp)
  have q3 := HQ4.out 3 (by simp)
  have q4 := HQ4.out 4 (by simp)
  simp only [List.getElem_cons_succ, List.getElem_cons_zero] at p0 p1 p2 p3 p4 q0 q1 q2 q3 q4
  have lp4 : w1.heap.size < W4.heap.size := by omega
  go_wp2_with fail
  refine (merged_any x0 x1 x2 x3 E1 es k1 y0 y1 y2 y3 E2 us k2 W4 HE1.out hl1 HE2.out hl2 (tree_dev HTr1.out) (tree_dev HTr2.out)).mono ?_
  rintro r w5 ⟨hb5, hcase⟩
  have hz5 := hb5.size
  have lw5 : w.heap.size + 1 + 1 < w5.heap.size := by omega
  have HR5 := Lib.hid (HR4.out.below hb5 lw4)
  have HF5 := Lib.hid (show ∀ o, w5.frozen? ⟨w.heap.size + 1 + 1, o, none⟩ = false from fun o => (hb5.frozen (p := ⟨w.heap.size + 1 + 1, o, none⟩) lw4).trans (HF4.out o))
  have HB5 := Lib.hid (show Below w.heap.size w w5 from HB4.out.trans (hb5.mono (by omega)))
  clear hb5 p0 p1 p2 p3 p4 q0 q1 q2 q3 q4
  rcases hcase with ⟨hct, rfl⟩ | ⟨hct, es', A5, cap, hpm, hpw, rfl, hev⟩
  · skip
    have HC := Lib.hid hct
    clear hct
    go_upto_region 5 with fail
    obtain ⟨W6, hW6⟩ : ∃ W6, W6 = w5.alloc (.cells #[.int .i64 0, .int .i64 0, .int .i64 0, .int .i64 0, .slice none 0 0] 66) := ⟨_, rfl⟩
    have hb6 : Below w5.heap.size w5 W6 := by rw [hW6]; exact (Below.refl _ _).alloc (Nat.le_refl _) _
    have hz6 : w5.heap.size < W6.heap.size := by rw [hW6]; simp
    have HZ6 := Lib.hid (show Bx W6 w5.heap.size [.int .i64 0, .int .i64 0, .int .i64 0, .int .i64 0, .slice none 0 0] by rw [hW6]; exact Bx.new' _ _ _ _ rfl)
    have HR6 := Lib.hid (HR5.out.below hb6 lw5)
    have HF6 := Lib.hid (show ∀ o, W6.frozen? ⟨w.heap.size + 1 + 1, o, none⟩ = false from fun o => (hb6.frozen (p := ⟨w.heap.size + 1 + 1, o, none⟩) lw5).trans (HF5.out o))
    have HB6 := Lib.hid (show Below w.heap.size w W6 from HB5.out.trans (hb6.mono (by omega)))
    have lw6 : w.heap.size + 1 + 1 < W6.heap.size := by omega
    have HE6 := Lib.hid (show EvsIn W6 0 W6.heap.size none [] from fun h => absurd h (by simp))
    have HOu := Lib.hid (outIf_any 0 0 0 0 none ([] : List En) 0 false W6 HE6.out (by simp))
    unfold NewTrB at HOu
    obtain ⟨vv, hvv⟩ : ∃ y : List Int, y = (if false = true then [0, 0, 0, 0] else []) := ⟨_, rfl⟩
    obtain ⟨ee, hee⟩ : ∃ y : List En, y = (if false = true then ([] : List En) else []) := ⟨_, rfl⟩
    rw [← hvv, ← hee] at HOu
    have HFin := Lib.hid (show mgVec [x0, x1, x2, x3] es [y0, y1, y2, y3] us = vv ∧ mgEs [x0, x1, x2, x3] es [y0, y1, y2, y3] us = ee ∧ mgOk [x0, x1, x2, x3] es [y0, y1, y2, y3] us = false from by
      have hO : mgOk [x0, x1, x2, x3] es [y0, y1, y2, y3] us = false := mg_f3 (by rw [ag_ctr (tree_parts HTr2.out).2.2, HC.out]; rfl)
      rw [(mg_no hO).1, (mg_no hO).2, hO, hvv, hee]
      exact ⟨rfl, rfl, rfl⟩)
    rw [← hW6]
    clear hW6 hb6 hvv hee
    have z0 := HZ6.out 0 (by simp)
    have z1 := HZ6.out 1 (by simp)
    have z2 := HZ6.out 2 (by simp)
    have z3 := HZ6.out 3 (by simp)
    have z4 := HZ6.out 4 (by simp)
    simp only [List.getElem_cons_succ, List.getElem_cons_zero] at z0 z1 z2 z3 z4
    go_wp2_with fail
    refine HOu.out.mono ?_
    rintro r wt ⟨AV4, cv4, A4, c4, rfl, htr4, hlt4, hbt⟩
    have HBt := Lib.hid (show Below w.heap.size w wt from HB6.out.trans (hbt.mono (by omega)))
    have hzt := hbt.size
    have r0 := (HR6.out.below hbt lw6) 0 (by simp)
    have r1 := (HR6.out.below hbt lw6) 1 (by simp)
    simp only [List.getElem_cons_succ, List.getElem_cons_zero] at r0 r1
    have f0 := (hbt.frozen (p := ⟨w.heap.size + 1 + 1, 0, none⟩) lw6).trans (HF6.out 0)
    have f1 := (hbt.frozen (p := ⟨w.heap.size + 1 + 1, 1, none⟩) lw6).trans (HF6.out 1)
    have hB9 : Below w.heap.size w ((wt.setCell ⟨w.heap.size + 1 + 1, 0, none⟩ (.slice AV4 vv.length cv4)).setCell ⟨w.heap.size + 1 + 1, 1, none⟩ (.slice A4 ee.length c4)) := (HBt.out.setCell (show w.heap.size ≤ w.heap.size + 1 + 1 by omega) _).setCell (show w.heap.size ≤ w.heap.size + 1 + 1 by omega) _
    have hT9 : TrOwn ((wt.setCell ⟨w.heap.size + 1 + 1, 0, none⟩ (.slice AV4 vv.length cv4)).setCell ⟨w.heap.size + 1 + 1, 1, none⟩ (.slice A4 ee.length c4)) W6.heap.size wt.heap.size AV4 vv A4 ee := htr4.keep fun p hp _ => two_other (by omega)
    have hs9 : ((wt.setCell ⟨w.heap.size + 1 + 1, 0, none⟩ (.slice AV4 vv.length cv4)).setCell ⟨w.heap.size + 1 + 1, 1, none⟩ (.slice A4 ee.length c4)).heap.size = wt.heap.size := by simp
    have HQ := Lib.hid (two_get (v0 := .slice AV4 vv.length cv4) (v1 := .slice A4 ee.length c4) r0 r1)
    have HT9 := Lib.hid (hT9.mono (show w.heap.size ≤ W6.heap.size by omega) (Nat.le_of_eq hs9.symm))
    have hlt9 : w.heap.size < ((wt.setCell ⟨w.heap.size + 1 + 1, 0, none⟩ (.slice AV4 vv.length cv4)).setCell ⟨w.heap.size + 1 + 1, 1, none⟩ (.slice A4 ee.length c4)).heap.size := by rw [hs9]; omega
    have HB9 := Lib.hid hB9
    clear hbt htr4 hB9 hT9 hs9 hlt4 HOu z0 z1 z2 z3 z4
    go_wp2_with fail
    obtain ⟨p0, p1⟩ := HQ.out
    refine bodyPost_ret (v := .tuple #[.agg #[.slice AV4 vv.length cv4, .slice A4 ee.length c4], .bool false]) (by simp [results, Tryz.results19, p0, p1, go_sem]) rfl ?_
    obtain ⟨h1, h2, h3⟩ := HFin.out
    rw [h1, h2, h3]
    exact ⟨AV4, cv4, A4, c4, rfl, HT9.out, hlt9, HB9.out⟩
  · skip
    have hes := mg_one HTr1.out HTr2.out hct hpm hpw
    have HEs := Lib.hid hes
    have HC := Lib.hid hct
    have HEv := Lib.hid hev
    have hle := mg_len [x0, x1, x2, x3] es [y0, y1, y2, y3] us
    rw [← hes] at hle
    clear hes hct hpm hpw hev
    obtain ⟨m0, hm0⟩ : ∃ m, m = mx x0 y0 := ⟨_, rfl⟩
    obtain ⟨m1, hm1⟩ : ∃ m, m = mx x1 y1 := ⟨_, rfl⟩
    obtain ⟨m2, hm2⟩ : ∃ m, m = mx x2 y2 := ⟨_, rfl⟩
    obtain ⟨m3, hm3⟩ : ∃ m, m = mx x3 y3 := ⟨_, rfl⟩
    rw [← hm0, ← hm1, ← hm2, ← hm3]
    obtain ⟨tk, htk⟩ : ∃ t, t = tokB m0 m1 m2 m3 es' := ⟨_, rfl⟩
    rw [← htk]
    have HM := Lib.hid (And.intro hm0 (And.intro hm1 (And.intro hm2 (And.intro hm3 htk))))
    clear hm0 hm1 hm2 hm3 htk
    go_upto_region 5 with fail
    obtain ⟨W6, hW6⟩ : ∃ W6, W6 = w5.alloc (.cells #[.int .i64 m0, .int .i64 m1, .int .i64 m2, .int .i64 m3, .slice A5 es'.length cap] 66) := ⟨_, rfl⟩
    have hb6 : Below w5.heap.size w5 W6 := by rw [hW6]; exact (Below.refl _ _).alloc (Nat.le_refl _) _
    have hz6 : w5.heap.size < W6.heap.size := by rw [hW6]; simp
    have HZ6 := Lib.hid (show Bx W6 w5.heap.size [.int .i64 m0, .int .i64 m1, .int .i64 m2, .int .i64 m3, .slice A5 es'.length cap] by rw [hW6]; exact Bx.new' _ _ _ _ rfl)
    have HR6 := Lib.hid (HR5.out.below hb6 lw5)
    have HF6 := Lib.hid (show ∀ o, W6.frozen? ⟨w.heap.size + 1 + 1, o, none⟩ = false from fun o => (hb6.frozen (p := ⟨w.heap.size + 1 + 1, o, none⟩) lw5).trans (HF5.out o))
    have HB6 := Lib.hid (show Below w.heap.size w W6 from HB5.out.trans (hb6.mono (by omega)))
    have lw6 : w.heap.size + 1 + 1 < W6.heap.size := by omega
    have HE6 := Lib.hid (show EvsIn W6 0 W6.heap.size A5 es' from (HEv.out.keep fun p _ hp => hb6.cell hp).mono (by omega))
    have HOu := Lib.hid (outIf_any m0 m1 m2 m3 A5 es' cap tk W6 HE6.out (by omega))
    unfold NewTrB at HOu
    obtain ⟨vv, hvv⟩ : ∃ y : List Int, y = (if tk = true then [m0, m1, m2, m3] else []) := ⟨_, rfl⟩
    obtain ⟨ee, hee⟩ : ∃ y : List En, y = (if tk = true then es' else []) := ⟨_, rfl⟩
    rw [← hvv, ← hee] at HOu
    have HFin := Lib.hid (show mgVec [x0, x1, x2, x3] es [y0, y1, y2, y3] us = vv ∧ mgEs [x0, x1, x2, x3] es [y0, y1, y2, y3] us = ee ∧ mgOk [x0, x1, x2, x3] es [y0, y1, y2, y3] us = tk from by
      obtain ⟨hm0, hm1, hm2, hm3, htk⟩ := HM.out
      have hO : mgOk [x0, x1, x2, x3] es [y0, y1, y2, y3] us = tk := by
        unfold mgOk
        rw [HTr1.out, HTr2.out, ag_ctr (tree_parts HTr2.out).2.2, HC.out, mg_tree HTr1.out HTr2.out, ← HEs.out, ← hm0, ← hm1, ← hm2, ← hm3, ← htk]
        simp
      have hV : mxs [x0, x1, x2, x3] [y0, y1, y2, y3] 4 = [m0, m1, m2, m3] := by rw [hm0, hm1, hm2, hm3]; rfl
      refine ⟨?_, ?_, hO⟩
      · unfold mgVec; rw [hO, hvv, hV]
      · unfold mgEs; rw [hO, hee, HEs.out])
    rw [← hW6]
    clear hW6 hb6 hvv hee
    have z0 := HZ6.out 0 (by simp)
    have z1 := HZ6.out 1 (by simp)
    have z2 := HZ6.out 2 (by simp)
    have z3 := HZ6.out 3 (by simp)
    have z4 := HZ6.out 4 (by simp)
    simp only [List.getElem_cons_succ, List.getElem_cons_zero] at z0 z1 z2 z3 z4
    go_wp2_with fail
    refine HOu.out.mono ?_
    rintro r wt ⟨AV4, cv4, A4, c4, rfl, htr4, hlt4, hbt⟩
    have HBt := Lib.hid (show Below w.heap.size w wt from HB6.out.trans (hbt.mono (by omega)))
    have hzt := hbt.size
    have r0 := (HR6.out.below hbt lw6) 0 (by simp)
    have r1 := (HR6.out.below hbt lw6) 1 (by simp)
    simp only [List.getElem_cons_succ, List.getElem_cons_zero] at r0 r1
    have f0 := (hbt.frozen (p := ⟨w.heap.size + 1 + 1, 0, none⟩) lw6).trans (HF6.out 0)
    have f1 := (hbt.frozen (p := ⟨w.heap.size + 1 + 1, 1, none⟩) lw6).trans (HF6.out 1)
    have hB9 : Below w.heap.size w ((wt.setCell ⟨w.heap.size + 1 + 1, 0, none⟩ (.slice AV4 vv.length cv4)).setCell ⟨w.heap.size + 1 + 1, 1, none⟩ (.slice A4 ee.length c4)) := (HBt.out.setCell (show w.heap.size ≤ w.heap.size + 1 + 1 by omega) _).setCell (show w.heap.size ≤ w.heap.size + 1 + 1 by omega) _
    have hT9 : TrOwn ((wt.setCell ⟨w.heap.size + 1 + 1, 0, none⟩ (.slice AV4 vv.length cv4)).setCell ⟨w.heap.size + 1 + 1, 1, none⟩ (.slice A4 ee.length c4)) W6.heap.size wt.heap.size AV4 vv A4 ee := htr4.keep fun p hp _ => two_other (by omega)
    have hs9 : ((wt.setCell ⟨w.heap.size + 1 + 1, 0, none⟩ (.slice AV4 vv.length cv4)).setCell ⟨w.heap.size + 1 + 1, 1, none⟩ (.slice A4 ee.length c4)).heap.size = wt.heap.size := by simp
    have HQ := Lib.hid (two_get (v0 := .slice AV4 vv.length cv4) (v1 := .slice A4 ee.length c4) r0 r1)
    have HT9 := Lib.hid (hT9.mono (show w.heap.size ≤ W6.heap.size by omega) (Nat.le_of_eq hs9.symm))
    have hlt9 : w.heap.size < ((wt.setCell ⟨w.heap.size + 1 + 1, 0, none⟩ (.slice AV4 vv.length cv4)).setCell ⟨w.heap.size + 1 + 1, 1, none⟩ (.slice A4 ee.length c4)).heap.size := by rw [hs9]; omega
    have HB9 := Lib.hid hB9
    clear hbt htr4 hB9 hT9 hs9 hlt4 HOu z0 z1 z2 z3 z4
    go_wp2_with fail
    obtain ⟨p0, p1⟩ := HQ.out
    refine bodyPost_ret (v := .tuple #[.agg #[.slice AV4 vv.length cv4, .slice A4 ee.length c4], .bool tk]) (by simp [results, Tryz.results19, p0, p1, go_sem]) rfl ?_
    obtain ⟨h1, h2, h3⟩ := HFin.out
    rw [h1, h2, h3]
    exact ⟨AV4, cv4, A4, c4, rfl, HT9.out, hlt9, HB9.out⟩

end Go.Proofs.YtepkicgnhjaokaaGreatDoor

namespace Go.Proofs.YtepkicgnhjaokaaGreatDoor
open Go.RowKit Go.Maps

end Go.Proofs.YtepkicgnhjaokaaGreatDoor
