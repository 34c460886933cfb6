/-
  The model's Gains, walked.
-/
import Derived.Test.YtjplmmbncjahiaaDedG
namespace Go.Proofs.Ytjplmmbncjahiaa
open Go.RowKit Go.Maps

theorem owns_none1 {w : World} {base g : Nat} {e : TypeId} (hg : base ≤ g) (hb : w.heap[g]? = some (.cells #[] e (0, 0))) : w.ownsRow base e 1 (.slice (some ⟨g, 0, none⟩) 0 0) 0 [] :=
  ⟨by simp, .inr ⟨g, 0, #[], rfl, hg, hb, Nat.le_refl _, by unfold maxLen; omega, by simp, by simp⟩⟩
theorem owns_one_int {w : World} {base g : Nat} {e : TypeId} {v0 : Value} (hg : base ≤ g) (hb : w.heap[g]? = some (.cells #[v0] e (0, 0))) : w.ownsRow base e 1 (.slice (some ⟨g, 0, none⟩) 1 1) 1 [v0] :=
  ⟨by simp, .inr ⟨g, 1, _, rfl, hg, hb, Nat.le_refl _, by unfold maxLen; omega, by simp, by simp⟩⟩
theorem heap_new_at' {w : World} {n : Nat} (o : Obj) (h : w.heap.size = n) : (w.alloc o).heap[n]? = some o := by
  subst h
  exact heap_alloc_new w o
theorem heap_old_at' {w : World} {n : Nat} {o x : Obj} (h : w.heap[n]? = some x) : (w.alloc o).heap[n]? = some x :=
  (heap_alloc_old w o (Array.getElem?_eq_some_iff.1 h).1).trans h
theorem heap_drew_at' {w : World} {n : Nat} {x : Obj} (h : w.heap[n]? = some x) : w.drew.heap[n]? = some x := h
theorem heap_grown_at' {w w' : World} {row : Option Nat} {n : Nat} {x : Obj} (hg : w.grownBy w' row) (h : w.heap[n]? = some x) (hne : some n ≠ row) : w'.heap[n]? = some x :=
  (hg.block n (Array.getElem?_eq_some_iff.1 h).1 hne).trans h

/-- What stays while the longer list is made. -/
structure Gx (w w1 : World) (V : Value) (W : World) : Prop where
  b : W.cell? ⟨w.heap.size, 0, none⟩ = some V
  bel : Below w1.heap.size w1 W
  lt : w.heap.size < w1.heap.size
section
variable {w w1 W W' : World} {V : Value}
theorem Gx.drew (h : Gx w w1 V W) : Gx w w1 V W.drew := ⟨h.b, h.bel.drew, h.lt⟩
theorem Gx.alloc (h : Gx w w1 V W) (o : Obj) : Gx w w1 V (W.alloc o) := ⟨cell_alloc_at _ h.b, h.bel.alloc h.bel.size _, h.lt⟩
theorem Gx.grown {row : Option Nat} (h : Gx w w1 V W) (hg : W.grownBy W' row) (hr : ∀ k, row = some k → w1.heap.size ≤ k) : Gx w w1 V W' :=
  ⟨(World.cell?_of_block (hg.block w.heap.size (World.block_lt_of_cell? W _ h.b) (fun e => by have := hr _ e.symm; have := h.lt; omega))).trans h.b, h.bel.grown hg h.bel.size hr, h.lt⟩
theorem Gx.below (h : Gx w w1 V W) (hb : Below W.heap.size W W') : Gx w w1 V W' :=
  ⟨(hb.cell (World.block_lt_of_cell? W _ h.b)).trans h.b, h.bel.trans (hb.mono h.bel.size), h.lt⟩
end

set_option maxRecDepth 100000 in
set_option maxHeartbeats 8000000 in
theorem specGains_any (A : Option Addr) (ts : List Tm) (c L B g2 : Nat) (hv : List Int) (c2 L2 B2 : Nat) (id : Int) (w : World) (hA : TmsIn w L B A ts) (hB : B ≤ w.heap.size) (hn : ts.length ≤ 1048576) (hbk : bulk ts ≤ 1048576) (hA2 : IntsIn w L2 B2 (some ⟨g2, 0, none⟩) hv) (hB2 : B2 ≤ w.heap.size) (hn2 : hv.length ≤ 1048576) :
    Calls Try.prog 30 #[.agg #[.slice A ts.length c], .slice (some ⟨g2, 0, none⟩) hv.length c2, .int .i64 id] w (NewIntsFr (gainsV ts hv id) w) := by
  have HA := Lib.hid hA
  have HA2 := Lib.hid hA2
  clear hA hA2
  go_enter Try.func30, Try.ntmps30
  go_wp2_with fail
  have hb0 : Below w.heap.size w (w.alloc (.cells #[.slice A ts.length c] 30)) := (Below.refl _ _).alloc (Nat.le_refl _) _
  refine (specLedgerOk_any A ts c L B _ (HA.out.keep fun p _ hp => hb0.cell (by omega)) (by simp; omega) hn hbk).mono ?_
  rintro e w0 ⟨rfl, hb1⟩
  have b_0 : w0.cell? ⟨w.heap.size, 0, none⟩ = some (.slice A ts.length c) := (hb1.cell (p := ⟨w.heap.size, 0, none⟩) (by simp)).trans (by simp)
  have hz0 : w.heap.size + 1 ≤ w0.heap.size := by simpa using hb1.size
  have HB0 := Lib.hid (hb0.trans (hb1.mono (by simp)))
  clear hb0 hb1
  cases hl : lokB ts with
  | false =>
    have HV := Lib.hid (show gainsV ts hv id = [] by simp [gainsV, hl])
    clear hl
    go_wp2_with fail
    all_goals go_ret
    all_goals rw [HV.out]
    all_goals exact .nil HB0.out
  | true =>
  by_cases h1000 : (hv.length : Int) < 1000
  case neg =>
    have HV := Lib.hid (show gainsV ts hv id = [] by simp [gainsV, show ¬ hv.length < 1000 by omega])
    have h1i : (1000 : Int) ≤ hv.length := by omega
    clear hl h1000
    go_wp2_with fail
    all_goals try (exfalso; omega)
    all_goals go_ret
    all_goals rw [HV.out]
    all_goals exact .nil HB0.out
  have HV := Lib.hid (show gainsV ts hv id = (allV ts (hv ++ [id])).filter (fun x => !oldB ts hv x) by simp [gainsV, hl, show hv.length < 1000 by omega])
  have HOld := Lib.hid (all_old ts hv id hl (by omega))
  clear hl
  go_upto_region 4 with fail
  go_wp2_with fail
  refine (specAll_any A ts c L B (some ⟨g2, 0, none⟩) hv c2 L2 B2 w0 (HA.out.keep fun p _ hp => HB0.out.cell (by omega)) (by omega) hn hbk (HA2.out.keep fun p _ hp => HB0.out.cell (by omega)) (by omega) hn2).mono ?_
  rintro e w1 ⟨A1, c1, rfl, hfr1, hb1⟩
  have b_1 := (hb1.cell (p := ⟨w.heap.size, 0, none⟩) (by show w.heap.size < _; omega)).trans b_0
  have hz1 : w.heap.size + 1 ≤ w1.heap.size := by have := hb1.size; omega
  have HB1 := Lib.hid (HB0.out.trans (hb1.mono (by omega)))
  have HFr1 := Lib.hid hfr1
  have hla := allV_length ts hv
  have hlb := allV_length ts (hv ++ [id])
  have HRa := Lib.hid (allV_length ts hv)
  obtain ⟨la, hlae⟩ : ∃ la, la = allV ts hv := ⟨_, rfl⟩
  obtain ⟨lb, hlbe⟩ : ∃ lb, lb = allV ts (hv ++ [id]) := ⟨_, rfl⟩
  have HLa := Lib.hid hlae
  have HLb := Lib.hid hlbe
  rw [← hlae] at HFr1 hla HOld ⊢
  rw [← hlbe] at hlb HOld HV
  clear hb1 hfr1 b_0 hlae hlbe HRa
  have HNews := Lib.hid (show ∀ W : World, Below w1.heap.size w1 W → ∀ j u, (hv.map vint)[j]? = some u → W.cell? ((⟨g2, 0, none⟩ : Addr).add j) = some u from fun W hW j u hu => by
    rw [Addr.add_lit, Nat.zero_add]
    have hj : j < hv.length := by
      have := (List.getElem?_eq_some_iff.1 hu).1
      simpa using this
    obtain ⟨b, o, e, _, hb, hc⟩ := HA2.out (by omega)
    cases e
    have h := (hW.cell (p := ⟨g2, 0 + j, none⟩) (by show g2 < _; omega)).trans ((HB1.out.cell (p := ⟨g2, 0 + j, none⟩) (by show g2 < _; omega)).trans (hc j hj))
    rw [Nat.zero_add] at h
    rw [h]
    simp [vint, hj] at hu ⊢
    exact hu)
  obtain ⟨i0, hi, hy0, hy1, hy2⟩ := info_parts Try.infoInt
  have HP1 := Lib.hid (show Gx w w1 (.slice A ts.length c) w1 from ⟨b_1, Below.refl _ _, by omega⟩)
  have HOne := Lib.hid (show ∀ u ∈ hv.map vint, u.oneCell' = true from fun u hu => by simp [vint] at hu; obtain ⟨x, _, rfl⟩ := hu; rfl)
  have hlm : (hv.map vint).length = hv.length * 1 := by simp
  have hl1 : 0 + hv.length ≤ maxLen := by unfold maxLen; omega
  have hl2 : (0 + hv.length) * 8 ≤ 140737488355328 := by omega
  have hl3 : hv.length + 1 ≤ maxLen := by unfold maxLen; omega
  have hl4 : (hv.length + 1) * 8 ≤ 140737488355328 := by omega
  have hE0 : w1.heap.size ≤ w1.heap.size := Nat.le_refl _
  have hE1 : w1.heap.size ≤ w1.heap.size + 1 := by omega
  go_upto_region 5 with fail
  go_cut [9] from 23 to 30 (fun s9 wx => ∃ (A9 : Option Addr) (c9 : Nat), s9 = .slice A9 lb.length c9 ∧ IntsFr wx w1.heap.size wx.heap.size A9 lb ∧ Gx w w1 (.slice A ts.length c) wx)
  case first =>
    go_region_held3 (fun W => W.cell? ⟨w.heap.size, 0, none⟩ = some (.slice A ts.length c))
      (first | (refine Gx.b (w1 := w1) ?_; repeat first | with_reducible exact P8 | with_reducible exact P6 | with_reducible exact P5 | with_reducible exact HP1.out | with_reducible apply Gx.drew | with_reducible apply Gx.alloc))
      (first
        | (refine step_append_src _ (by rfl) _ _ _ (by rfl) w1.heap.size 3 i0 _ 1 8 Try.underlying25 hi hy0 hy1 hy2 rfl (by decide) (.slice (some ⟨w1.heap.size, 0, none⟩) 0 0) 0 [] (by rfl) (owns_none1 hE0 ?_) ⟨g2, 0, none⟩ hv.length c2 (hv.map vint) (by rfl) hlm (HNews.out _ (Gx.bel (w := w) (V := .slice A ts.length c) (by repeat first | with_reducible exact HP1.out | with_reducible apply Gx.drew | with_reducible apply Gx.alloc))) HOne.out hl1 hl2 (Gx.bel (w := w) (V := .slice A ts.length c) (by repeat first | with_reducible exact HP1.out | with_reducible apply Gx.drew | with_reducible apply Gx.alloc)).size ?_
           · (repeat first | with_reducible exact heap_new_at' _ (by simp) | with_reducible apply heap_drew_at' | with_reducible apply heap_old_at')
           intro A5 c5 w5 hown5 hgr5
           try simp only [Nat.zero_add, List.nil_append] at hown5
           try simp only [Nat.zero_add]
           have P5 : Gx w w1 (.slice A ts.length c) w5 := Gx.grown (by repeat first | with_reducible exact HP1.out | with_reducible apply Gx.drew | with_reducible apply Gx.alloc) hgr5 (fun k hk => by simp [Value.ownBlock] at hk; omega))
        | (refine step_append_src _ (by rfl) _ _ _ (by rfl) w1.heap.size 3 i0 _ 1 8 Try.underlying25 hi hy0 hy1 hy2 rfl (by decide) (.slice (some ⟨w1.heap.size + 1, 0, none⟩) 0 0) 0 [] (by rfl) (owns_none1 hE1 ?_) ⟨g2, 0, none⟩ hv.length c2 (hv.map vint) (by rfl) hlm (HNews.out _ (Gx.bel (w := w) (V := .slice A ts.length c) (by repeat first | with_reducible exact HP1.out | with_reducible apply Gx.drew | with_reducible apply Gx.alloc))) HOne.out hl1 hl2 (Gx.bel (w := w) (V := .slice A ts.length c) (by repeat first | with_reducible exact HP1.out | with_reducible apply Gx.drew | with_reducible apply Gx.alloc)).size ?_
           · (repeat first | with_reducible exact heap_new_at' _ (by simp) | with_reducible apply heap_drew_at' | with_reducible apply heap_old_at')
           intro A5 c5 w5 hown5 hgr5
           try simp only [Nat.zero_add, List.nil_append] at hown5
           try simp only [Nat.zero_add]
           have P5 : Gx w w1 (.slice A ts.length c) w5 := Gx.grown (by repeat first | with_reducible exact HP1.out | with_reducible apply Gx.drew | with_reducible apply Gx.alloc) hgr5 (fun k hk => by simp [Value.ownBlock] at hk; omega))
        | (refine step_append_row _ (by rfl) _ _ _ (by rfl) w1.heap.size 0 3 i0 _ 1 8 Try.underlying25 hi hy0 hy1 hy2 rfl (by decide) (.slice A5 hv.length c5) hv.length (hv.map vint) (by rfl) ?_ (.slice (some ⟨w5.heap.size, 0, none⟩) 1 1) 1 [.int .i64 id] (by rfl) (owns_one_int (Nat.zero_le _) ?_) ?_ hl3 hl4 (Gx.bel (w := w) (V := .slice A ts.length c) (by repeat first | with_reducible exact P5 | with_reducible apply Gx.drew | with_reducible apply Gx.alloc)).size ?_
           · (repeat first | with_reducible exact hown5 | with_reducible apply World.ownsRow.drew | with_reducible apply World.ownsRow.alloc)
           · (repeat first | with_reducible exact heap_new_at' _ (by simp) | with_reducible apply heap_drew_at' | with_reducible apply heap_old_at' | refine heap_grown_at' hgr5 ?_ (by simp [Value.ownBlock]))
           · intro u hu; simp at hu; subst hu; rfl
           intro A6 c6 w6 hown6 hgr6
           have P6 : Gx w w1 (.slice A ts.length c) w6 := Gx.grown (by repeat first | with_reducible exact P5 | with_reducible apply Gx.drew | with_reducible apply Gx.alloc) hgr6 (fun k hk => (hown5.lt k hk).1)
           have HI6 := Lib.hid (show IntsIn w6 w1.heap.size w6.heap.size A6 (hv ++ [id]) from IntsFr.ints (ints_of_row (c := c6) (by
             rw [List.map_append, List.length_append]
             exact hown6)))
           clear hgr6 hgr5)
        | (refine step_append_row _ (by rfl) _ _ _ (by rfl) w1.heap.size 0 3 i0 _ 1 8 Try.underlying25 hi hy0 hy1 hy2 rfl (by decide) (.slice A5 hv.length c5) hv.length (hv.map vint) (by rfl) ?_ (.slice (some ⟨w1.heap.size + 1, 0, none⟩) 1 1) 1 [.int .i64 id] (by rfl) (owns_one_int (Nat.zero_le _) ?_) ?_ hl3 hl4 (Gx.bel (w := w) (V := .slice A ts.length c) (by repeat first | with_reducible exact P5 | with_reducible apply Gx.drew | with_reducible apply Gx.alloc)).size ?_
           · (repeat first | with_reducible exact hown5 | with_reducible apply World.ownsRow.drew | with_reducible apply World.ownsRow.alloc)
           · (repeat first | with_reducible exact heap_new_at' _ (by simp) | with_reducible apply heap_drew_at' | with_reducible apply heap_old_at' | refine heap_grown_at' hgr5 ?_ (by simp [Value.ownBlock]))
           · intro u hu; simp at hu; subst hu; rfl
           intro A6 c6 w6 hown6 hgr6
           have P6 : Gx w w1 (.slice A ts.length c) w6 := Gx.grown (by repeat first | with_reducible exact P5 | with_reducible apply Gx.drew | with_reducible apply Gx.alloc) hgr6 (fun k hk => (hown5.lt k hk).1)
           have HI6 := Lib.hid (show IntsIn w6 w1.heap.size w6.heap.size A6 (hv ++ [id]) from IntsFr.ints (ints_of_row (c := c6) (by
             rw [List.map_append, List.length_append]
             exact hown6)))
           clear hgr6 hgr5)
        | (refine step_append_row _ (by rfl) _ _ _ (by rfl) w1.heap.size 0 3 i0 _ 1 8 Try.underlying25 hi hy0 hy1 hy2 rfl (by decide) (.slice A5 hv.length c5) hv.length (hv.map vint) (by rfl) ?_ (.slice (some ⟨w1.heap.size, 0, none⟩) 1 1) 1 [.int .i64 id] (by rfl) (owns_one_int (Nat.zero_le _) ?_) ?_ hl3 hl4 (Gx.bel (w := w) (V := .slice A ts.length c) (by repeat first | with_reducible exact P5 | with_reducible apply Gx.drew | with_reducible apply Gx.alloc)).size ?_
           · (repeat first | with_reducible exact hown5 | with_reducible apply World.ownsRow.drew | with_reducible apply World.ownsRow.alloc)
           · (repeat first | with_reducible exact heap_new_at' _ (by simp) | with_reducible apply heap_drew_at' | with_reducible apply heap_old_at' | refine heap_grown_at' hgr5 ?_ (by simp [Value.ownBlock]))
           · intro u hu; simp at hu; subst hu; rfl
           intro A6 c6 w6 hown6 hgr6
           have P6 : Gx w w1 (.slice A ts.length c) w6 := Gx.grown (by repeat first | with_reducible exact P5 | with_reducible apply Gx.drew | with_reducible apply Gx.alloc) hgr6 (fun k hk => (hown5.lt k hk).1)
           have HI6 := Lib.hid (show IntsIn w6 w1.heap.size w6.heap.size A6 (hv ++ [id]) from IntsFr.ints (ints_of_row (c := c6) (by
             rw [List.map_append, List.length_append]
             exact hown6)))
           clear hgr6 hgr5)
        | (go_at_call 22
           have hW : ∀ W : World, Below w6.heap.size w6 W → Calls Try.prog 22 #[.agg #[.slice A ts.length c], .slice A6 (hv.length + 1) c6] W (NewIntsFr lb W) := fun W hW => by
             have hs6 := P6.bel.size
             have hsw := hW.size
             have h := specAll_any A ts c L B A6 (hv ++ [id]) c6 w1.heap.size w6.heap.size W (HA.out.keep fun p _ hp => (hW.cell (by omega)).trans ((P6.bel.cell (by omega)).trans (HB1.out.cell (by omega)))) (by omega) hn hbk (HI6.out.keep fun p _ hp => hW.cell hp) hsw (by simp; omega)
             rw [← HLb.out, List.length_append] at h
             exact h
           refine (hW _ (by repeat first | with_reducible exact Below.refl _ _ | with_reducible apply Below.drew | with_reducible refine Below.alloc ?_ (by first | (simp; done) | omega | (simp; omega)) _)).mono ?_
           rintro e w8 ⟨A9, c9, rfl, hfr9, hb8⟩
           have P8 : Gx w w1 (.slice A ts.length c) w8 := Gx.below (by repeat first | with_reducible exact P6 | with_reducible apply Gx.drew | with_reducible apply Gx.alloc) hb8
           have HFr9 := Lib.hid (hfr9.low (L' := w1.heap.size) (Gx.bel (w := w) (V := .slice A ts.length c) (by repeat first | with_reducible exact P6 | with_reducible apply Gx.drew | with_reducible apply Gx.alloc)).size)
           clear hW hfr9 hb8))
    all_goals go_wp2_with fail
    all_goals go_meet
    all_goals exact ⟨A9, c9, rfl, HFr9.out, P8⟩
  case rest =>
  obtain ⟨A9, c9, rfl, hfr9, P9⟩ := hcut
  rename World => w9
  have hs9 := P9.bel.size
  have HB9 := Lib.hid (HB1.out.trans (P9.bel.mono (by omega)))
  have HFa := Lib.hid (HFr1.out.keep (w' := w9) fun p _ hp => ⟨P9.bel.cell hp, P9.bel.frozen hp⟩)
  have HFb := Lib.hid hfr9
  clear hfr9 P9 hl1 hl2 hl3 hl4 hE0 hE1 hlm hi hy0 hy1 hy2 i0 HFr1 HP1 HOne HNews b_1
  have HK := Lib.hid (fun (i : Nat) (hi : i < lb.length) => old_next (b := lb) (p := oldB ts hv) hi)
  rw [← HOld.out] at HK
  go_wp2_with fail
  go_loopw [7, 10, 11] (fun out kk x wr => ∃ (i : Nat) (A' : Option Addr) (c' : Nat), i ≤ lb.length ∧ x = .int .i64 i ∧ kk = .int .i64 (((lb.take i).filter (oldB ts hv)).length : Nat) ∧ out = .slice A' ((lb.take i).filter fun x => !oldB ts hv x).length c' ∧ wr.ownsRow w9.heap.size 3 1 (.slice A' ((lb.take i).filter fun x => !oldB ts hv x).length c') ((lb.take i).filter fun x => !oldB ts hv x).length (((lb.take i).filter fun x => !oldB ts hv x).map vint) ∧ Below w9.heap.size w9 wr) (fun _ _ x _ => lb.length - (intOf x).toNat)
  case atStart => exact ⟨0, none, 0, Nat.zero_le _, rfl, rfl, rfl, World.ownsRow_nil _ _ _ _, Below.refl _ _⟩
  case round =>
    obtain ⟨i, A', c', hi, rfl, rfl, rfl, hown, hbel⟩ := hrel
    have HOwn := Lib.hid hown
    have HBel := Lib.hid hbel
    have hzr := hbel.size
    have hfl : ((lb.take i).filter fun x => !oldB ts hv x).length ≤ i := Nat.le_trans (List.length_filter_le _ _) (by rw [List.length_take]; omega)
    have hkl : ((lb.take i).filter (oldB ts hv)).length ≤ i := Nat.le_trans (List.length_filter_le _ _) (by rw [List.length_take]; omega)
    clear hown hbel
    by_cases hlt : i < lb.length
    · have hS := filter_next (p := fun x => !oldB ts hv x) hlt
      have hT := filter_next (p := oldB ts hv) hlt
      obtain ⟨hyes, hno⟩ := HK.out i hlt
      obtain ⟨b9, o9, rfl, _, hb9, hc9⟩ := HFb.out (by omega)
      have hcb := (HBel.out.cell (p := ⟨b9, o9 + i, none⟩) (by show b9 < _; omega)).trans (hc9 i hlt).1
      obtain ⟨x, hx⟩ : ∃ x, x = lb[i] := ⟨_, rfl⟩
      rw [← hx] at hcb hyes hno hS hT
      obtain ⟨kq, hkq⟩ : ∃ kq, kq = ((lb.take i).filter (oldB ts hv)).length := ⟨_, rfl⟩
      rw [← hkq] at hyes hno hkl ⊢
      have HT := Lib.hid hT
      have HS := Lib.hid hS
      have HKq := Lib.hid hkq
      obtain ⟨lk, hlk⟩ : ∃ lk, lk = (lb.take i).filter fun x => !oldB ts hv x := ⟨_, rfl⟩
      rw [← hlk] at HOwn HS hfl ⊢
      clear hS hT hc9 hx hkq hlk
      cases hp : oldB ts hv x with
      | true =>
        have hget := hyes hp
        obtain ⟨hka, hya⟩ := List.getElem?_eq_some_iff.1 hget
        obtain ⟨ba, oa, rfl, _, hba, hca⟩ := HFa.out (by omega)
        have hcx := (HBel.out.cell (p := ⟨ba, oa + kq, none⟩) (by show ba < _; omega)).trans (hca kq hka).1
        rw [hya] at hcx
        have HN := Lib.hid (show (lb.take (i + 1)).filter (fun x => !oldB ts hv x) = lk by rw [HS.out, if_neg (by simp [hp])])
        have HM := Lib.hid (show ((lb.take (i + 1)).filter (oldB ts hv)).length = kq + 1 by rw [HT.out, if_pos hp, List.length_append, ← HKq.out]; rfl)
        clear hyes hno hget hya hca hp
        have ka : ∀ z : Kp wr, z.val.cell? ⟨ba, oa + kq, none⟩ = some (.int .i64 x) := fun z => z.cell hcx
        have kb : ∀ z : Kp wr, z.val.cell? ⟨b9, o9 + i, none⟩ = some (.int .i64 x) := fun z => z.cell hcb
        go_wp2_with fail
        refine wp_region_kept (by kernel_rfl) (by kernel_rfl) ?_
        repeat (go_big_quiet_step (fail))
        refine wpQuiet_nil ?_
        rintro _ ⟨z, rfl⟩
        have hbz := z.ok
        have HOwnK := Lib.hid (HOwn.out.kept (grown_of_below hbz) (by cases h : (Value.slice A' lk.length c').ownBlock <;> simp))
        have HBelK := Lib.hid (HBel.out.trans (hbz.mono (by omega)))
        clear hbz ka kb hcx hcb
        go_wp2_with fail
        go_roundw
        case rel => exact ⟨i + 1, A', c', by omega, by go_num, by rw [HM.out]; go_num, by rw [HN.out], by rw [HN.out]; exact HOwnK.out, HBelK.out⟩
        case measure => simp [intOf]; omega
      | false =>
        have hget := hno hp
        have HN := Lib.hid (show (lb.take (i + 1)).filter (fun x => !oldB ts hv x) = lk ++ [x] by rw [HS.out, if_pos (by simp [hp])])
        have HM := Lib.hid (show ((lb.take (i + 1)).filter (oldB ts hv)).length = kq by rw [HT.out, if_neg (by simp [hp]), ← HKq.out])
        have kb : ∀ z : Kp wr, z.val.cell? ⟨b9, o9 + i, none⟩ = some (.int .i64 x) := fun z => z.cell hcb
        by_cases hka : kq < la.length
        · obtain ⟨ba, oa, rfl, _, hba, hca⟩ := HFa.out (by omega)
          have hcx := (HBel.out.cell (p := ⟨ba, oa + kq, none⟩) (by show ba < _; omega)).trans (hca kq hka).1
          have hyx : la[kq] ≠ x := fun e => hget (by rw [List.getElem?_eq_getElem hka, e])
          obtain ⟨y, hy⟩ : ∃ y, y = la[kq] := ⟨_, rfl⟩
          rw [← hy] at hcx hyx
          have ka : ∀ z : Kp wr, z.val.cell? ⟨ba, oa + kq, none⟩ = some (.int .i64 y) := fun z => z.cell hcx
          have hbq : (y == x) = false := by simpa using hyx
          clear hyes hno hget hca hp hcx hy
          go_wp2_with fail
          refine wp_region_kept (by kernel_rfl) (by kernel_rfl) ?_
          repeat (go_big_quiet_step (fail))
          refine wpQuiet_nil ?_
          rintro _ ⟨z, rfl⟩
          have hbz := z.ok
          have hckk := kb z
          obtain ⟨wk, hwk⟩ : ∃ wk, wk = z.val := ⟨_, rfl⟩
          rw [← hwk] at hbz hckk ⊢
          have hzk : wr.heap.size ≤ wk.heap.size := hbz.size
          have HOwnK := Lib.hid (HOwn.out.kept (grown_of_below hbz) (by cases h : (Value.slice A' lk.length c').ownBlock <;> simp))
          have HBelK := Lib.hid (HBel.out.trans (hbz.mono (by omega)))
          clear hwk hbz kb hcb ka
          obtain ⟨i0, hi0, hy0, hy1, hy2⟩ := info_parts Try.infoInt
          go_wp2_with (at_builtin; refine wpList_append_own _ rfl _ _ 25 rfl w9.heap.size 3 i0 (.int .i64 0) 1 8 Try.underlying25 hi0 hy0 hy1 hy2 rfl (by decide) _ _ _ rfl (HOwnK.out.alloc _) ⟨wk.heap.size, 0, none⟩ 1 1 [.int .i64 x] rfl rfl ?c1 ?c2 ?c3 ?c4 ?c5 ?_)
          case c1 => exact cell_one_new _ _ _
          case c2 => intro u hu; simp at hu; subst hu; rfl
          case c3 => unfold maxLen; omega
          case c4 => omega
          case c5 => simp; omega
          intro v' w5 hrow5 hgr5 _
          obtain ⟨A5, c5, rfl⟩ := row_shape hrow5
          have HRow5 := Lib.hid hrow5
          have HB5 := Lib.hid ((HBelK.out.alloc (by omega) (.cells #[.int .i64 x] 3)).grown hgr5 (by simp; omega) (fun g hg => (HOwnK.out.lt g hg).1))
          clear hrow5 hgr5
          go_wp2_with fail
          go_roundw
          case rel =>
            refine ⟨i + 1, A5, c5, by omega, by go_num, by rw [HM.out], by rw [HN.out]; simp, ?_, HB5.out⟩
            have := HRow5.out
            rw [HN.out]
            simpa [vint] using this
          case measure => simp [intOf]; omega
        · clear hyes hno hget hp
          go_wp2_with fail
          refine wp_region_kept (by kernel_rfl) (by kernel_rfl) ?_
          repeat (go_big_quiet_step (fail))
          refine wpQuiet_nil ?_
          rintro _ ⟨z, rfl⟩
          have hbz := z.ok
          have hckk := kb z
          obtain ⟨wk, hwk⟩ : ∃ wk, wk = z.val := ⟨_, rfl⟩
          rw [← hwk] at hbz hckk ⊢
          have hzk : wr.heap.size ≤ wk.heap.size := hbz.size
          have HOwnK := Lib.hid (HOwn.out.kept (grown_of_below hbz) (by cases h : (Value.slice A' lk.length c').ownBlock <;> simp))
          have HBelK := Lib.hid (HBel.out.trans (hbz.mono (by omega)))
          clear hwk hbz kb hcb 
          obtain ⟨i0, hi0, hy0, hy1, hy2⟩ := info_parts Try.infoInt
          go_wp2_with (at_builtin; refine wpList_append_own _ rfl _ _ 25 rfl w9.heap.size 3 i0 (.int .i64 0) 1 8 Try.underlying25 hi0 hy0 hy1 hy2 rfl (by decide) _ _ _ rfl (HOwnK.out.alloc _) ⟨wk.heap.size, 0, none⟩ 1 1 [.int .i64 x] rfl rfl ?c1 ?c2 ?c3 ?c4 ?c5 ?_)
          case c1 => exact cell_one_new _ _ _
          case c2 => intro u hu; simp at hu; subst hu; rfl
          case c3 => unfold maxLen; omega
          case c4 => omega
          case c5 => simp; omega
          intro v' w5 hrow5 hgr5 _
          obtain ⟨A5, c5, rfl⟩ := row_shape hrow5
          have HRow5 := Lib.hid hrow5
          have HB5 := Lib.hid ((HBelK.out.alloc (by omega) (.cells #[.int .i64 x] 3)).grown hgr5 (by simp; omega) (fun g hg => (HOwnK.out.lt g hg).1))
          clear hrow5 hgr5
          go_wp2_with fail
          go_roundw
          case rel =>
            refine ⟨i + 1, A5, c5, by omega, by go_num, by rw [HM.out], by rw [HN.out]; simp, ?_, HB5.out⟩
            have := HRow5.out
            rw [HN.out]
            simpa [vint] using this
          case measure => simp [intOf]; omega
    · have hie : i = lb.length := by omega
      have HR := Lib.hid (show NewIntsFr (gainsV ts hv id) w (.returned (.slice A' ((lb.take i).filter fun x => !oldB ts hv x).length c')) wr from by
        rw [HV.out]
        have h := HOwn.out
        rw [hie, List.take_length] at h ⊢
        exact ⟨A', c', rfl, (ints_of_row h).low (by omega), HB9.out.trans (HBel.out.mono (by omega))⟩)
      go_wp2_with fail
      go_ret
      exact HR.out

end Go.Proofs.Ytjplmmbncjahiaa
