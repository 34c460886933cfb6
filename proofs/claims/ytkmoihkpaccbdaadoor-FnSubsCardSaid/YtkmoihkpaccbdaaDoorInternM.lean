/-
  The model's l1intern: what is put in, where it lies.
-/
import Derived.Test.YtkmoihkpaccbdaaDoorStep
import Derived.Deep.RegionLaw
import Derived.Test.YtkmoihkpaccbdaaDoorOwn
import Derived.Test.YtkmoihkpaccbdaaDoorInternP
namespace Go.Proofs.YtkmoihkpaccbdaaDoor
open Go.RowKit Go.Maps

theorem heap_new_at {w : World} {n : Nat} (o : Obj) (h : w.heap.size = n) : (w.alloc o).heap[n]? = some o := by
  subst h
  exact heap_alloc_new w o
theorem heap_old_at {w : World} {n : Nat} {o x : Obj} (h : w.heap[n]? = some x) : (w.alloc o).heap[n]? = some x :=
  (heap_alloc_old w o (Array.getElem?_eq_some_iff.1 h).1).trans h
theorem heap_drew_at {w : World} {n : Nat} {x : Obj} (h : w.heap[n]? = some x) : w.drew.heap[n]? = some x := h

theorem owns_none {w : World} {base g : Nat} {e : TypeId} {size : Nat} (hg : base ≤ g) (hb : w.heap[g]? = some (.cells #[] e (0, 0))) : w.ownsRow base e size (.slice (some ⟨g, 0, none⟩) 0 0) 0 [] :=
  ⟨by simp, .inr ⟨g, 0, #[], rfl, hg, hb, Nat.le_refl _, by unfold maxLen; omega, by simp, by simp⟩⟩
theorem owns_one4 {w : World} {base g : Nat} {e : TypeId} {v0 v1 v2 v3 : Value} (hg : base ≤ g) (hb : w.heap[g]? = some (.cells #[v0, v1, v2, v3] e (0, 0))) : w.ownsRow base e 4 (.slice (some ⟨g, 0, none⟩) 1 1) 1 [v0, v1, v2, v3] :=
  ⟨by simp, .inr ⟨g, 1, _, rfl, hg, hb, Nat.le_refl _, by unfold maxLen; omega, by simp, by simp⟩⟩

theorem cell_alloc_at {w : World} {p : Addr} {v : Value} (o : Obj) (h : w.cell? p = some v) : (w.alloc o).cell? p = some v :=
  (World.cell?_alloc_lt w o p (World.block_lt_of_cell? w _ h)).trans h
theorem cell_drew_at {w : World} {p : Addr} {v : Value} (h : w.cell? p = some v) : w.drew.cell? p = some v := h
theorem cell_grown_at {w w' : World} {row : Option Nat} {p : Addr} {v : Value} (hg : w.grownBy w' row) (h : w.cell? p = some v) (hne : some p.block ≠ row) : w'.cell? p = some v :=
  (World.cell?_of_block (hg.block p.block (World.block_lt_of_cell? w _ h) hne)).trans h
theorem frozen_grown_at {w w' : World} {row : Option Nat} {p : Addr} (hg : w.grownBy w' row) (hlt : p.block < w.heap.size) (h : w.frozen? p = false) (hne : some p.block ≠ row) : w'.frozen? p = false :=
  (World.frozen?_of_block (hg.block p.block hlt hne)).trans h
theorem heap_grown_at {w w' : World} {row : Option Nat} {n : Nat} {x : Obj} (hg : w.grownBy w' row) (h : w.heap[n]? = some x) (hne : some n ≠ row) : w'.heap[n]? = some x :=
  (hg.block n (Array.getElem?_eq_some_iff.1 h).1 hne).trans h

/-- What stays as long as the region runs: the variable at b, the box of the term, and all that was there. -/
structure Sx (w : World) (b : Nat) (V v0 v1 v2 v3 : Value) (W : World) : Prop where
  cb : W.cell? ⟨b, 0, none⟩ = some V
  cf : W.frozen? ⟨b, 0, none⟩ = false
  t0 : W.cell? ⟨w.heap.size, 0, none⟩ = some v0
  t1 : W.cell? ⟨w.heap.size, 1, none⟩ = some v1
  t2 : W.cell? ⟨w.heap.size, 2, none⟩ = some v2
  t3 : W.cell? ⟨w.heap.size, 3, none⟩ = some v3
  bel : Below w.heap.size w W
  sz : w.heap.size + 1 ≤ W.heap.size
  lt : b < w.heap.size

section
variable {w W W' : World} {b : Nat} {V v0 v1 v2 v3 : Value}
theorem Sx.drew (h : Sx w b V v0 v1 v2 v3 W) : Sx w b V v0 v1 v2 v3 W.drew := ⟨h.cb, h.cf, h.t0, h.t1, h.t2, h.t3, h.bel.drew, h.sz, h.lt⟩
theorem Sx.alloc (h : Sx w b V v0 v1 v2 v3 W) (c : Array Value) (t : TypeId) : Sx w b V v0 v1 v2 v3 (W.alloc (.cells c t)) :=
  ⟨cell_alloc_at _ h.cb, (frozen?_alloc_cells W c t _).trans h.cf, cell_alloc_at _ h.t0, cell_alloc_at _ h.t1, cell_alloc_at _ h.t2, cell_alloc_at _ h.t3, h.bel.alloc (by have := h.sz; omega) _, by have := h.sz; simp; omega, h.lt⟩
theorem Sx.grown {row : Option Nat} (h : Sx w b V v0 v1 v2 v3 W) (hg : W.grownBy W' row) (hr : ∀ k, row = some k → w.heap.size + 1 ≤ k) : Sx w b V v0 v1 v2 v3 W' := by
  have hb : some b ≠ row := fun e => by have := hr b e.symm; have := h.lt; omega
  have ht : some w.heap.size ≠ row := fun e => by have := hr _ e.symm; omega
  have hlt := h.lt
  have hsz := h.sz
  exact ⟨cell_grown_at hg h.cb hb, frozen_grown_at hg (by show b < _; omega) h.cf hb, cell_grown_at hg h.t0 ht, cell_grown_at hg h.t1 ht, cell_grown_at hg h.t2 ht, cell_grown_at hg h.t3 ht, h.bel.grown hg (by omega) (fun k hk => by have := hr k hk; omega), by have := hg.size; omega, h.lt⟩
theorem Sx.four (h : Sx w b V v0 v1 v2 v3 W) : W.cell? ⟨w.heap.size, 0, none⟩ = some v0 ∧ W.cell? ⟨w.heap.size, 1, none⟩ = some v1 ∧ W.cell? ⟨w.heap.size, 2, none⟩ = some v2 ∧ W.cell? ⟨w.heap.size, 3, none⟩ = some v3 := ⟨h.t0, h.t1, h.t2, h.t3⟩
theorem Sx.put (h : Sx w b V v0 v1 v2 v3 W) (u : Value) : (W.setCell ⟨b, 0, none⟩ u).cell? ⟨w.heap.size, 0, none⟩ = some v0 ∧ (W.setCell ⟨b, 0, none⟩ u).cell? ⟨w.heap.size, 1, none⟩ = some v1 ∧ (W.setCell ⟨b, 0, none⟩ u).cell? ⟨w.heap.size, 2, none⟩ = some v2 ∧ (W.setCell ⟨b, 0, none⟩ u).cell? ⟨w.heap.size, 3, none⟩ = some v3 := by
  have hne : ∀ j, (⟨b, 0, none⟩ : Addr) ≠ ⟨w.heap.size, j, none⟩ := fun j e => by
    have h1 := h.lt
    injection e with e1
    omega
  exact ⟨(World.cell?_setCell_other _ _ _ _ (hne 0)).trans h.t0, (World.cell?_setCell_other _ _ _ _ (hne 1)).trans h.t1, (World.cell?_setCell_other _ _ _ _ (hne 2)).trans h.t2, (World.cell?_setCell_other _ _ _ _ (hne 3)).trans h.t3⟩
end

theorem rowT_one (us : List Tx) : ∀ u ∈ rowT us, u.oneCell' = true := by
  intro u hu
  unfold rowT at hu
  rw [List.mem_flatMap] at hu
  obtain ⟨x, _, hx⟩ := hu
  simp at hx
  rcases hx with rfl | rfl | rfl | rfl <;> rfl

/-- The row grew by one, into the variable at b. -/
def PutOne (us : List Tx) (t : Tm) (A' : Option Addr) (c' b : Nat) (w w' : World) : Prop :=
  ∃ (A6 : Option Addr) (c6 : Nat) (w2 : World), w' = w2.setCell ⟨b, 0, none⟩ (.slice A6 (us.length + 1) c6) ∧ Below w.heap.size w w2 ∧ w2.ownsRow w.heap.size 71 4 (.slice A6 (us.length + 1) c6) (us.length + 1) (rowT us ++ [.int .i64 t.kind, .int .i64 t.a, .int .i64 t.b, .slice A' t.text.length c'])

set_option maxRecDepth 100000 in
set_option maxHeartbeats 60000000 in
theorem l1intern_any (b base L B : Nat) (A0 : Option Addr) (c0 : Nat) (us : List Tx) (ts : List Tm) (t : Tm) (A' : Option Addr) (c' L' B' : Nat) (w : World)
    (hus : us.map (·.t) = ts) (hb : w.cell? ⟨b, 0, none⟩ = some (.slice A0 us.length c0)) (hbf : w.frozen? ⟨b, 0, none⟩ = false) (hrow : w.ownsRow base 71 4 (.slice A0 us.length c0) us.length (rowT us))
    (hA : TmsIn w L B A0 ts) (hB : B ≤ w.heap.size) (hA' : BytesIn w L' B' A' t.text) (hB' : B' ≤ w.heap.size) (hn : us.length ≤ 400) :
    Calls Tryd.prog 67 #[.pointer (some ⟨b, 0, none⟩), .agg #[.int .i64 t.kind, .int .i64 t.a, .int .i64 t.b, .slice A' t.text.length c']] w fun e w' =>
      (t ∈ ts ∧ e = .returned (.int .i64 (lookI ts t)) ∧ Below w.heap.size w w') ∨ (t ∉ ts ∧ e = .returned (.int .i64 us.length) ∧ PutOne us t A' c' b w w') := by
  have hul : ts.length = us.length := by rw [← hus, List.length_map]
  have hbl : b < w.heap.size := World.block_lt_of_cell? w _ hb
  have HRow := Lib.hid hrow
  have HA := Lib.hid hA
  have HA' := Lib.hid hA'
  clear hrow hA hA' hus
  go_enter Tryd.func67, Tryd.ntmps67
  go_wp2_with fail
  obtain ⟨W0, hW0⟩ : ∃ W0, W0 = w.alloc (.cells #[.int .i64 t.kind, .int .i64 t.a, .int .i64 t.b, .slice A' t.text.length c'] 71) := ⟨_, rfl⟩
  have hb0 : Below w.heap.size w W0 := by subst hW0; exact (Below.refl _ _).alloc (Nat.le_refl _) _
  have c0' : W0.cell? ⟨b, 0, none⟩ = some (.slice A0 us.length c0) := (hb0.cell (p := ⟨b, 0, none⟩) hbl).trans hb
  have cf0 : W0.frozen? ⟨b, 0, none⟩ = false := (hb0.frozen (p := ⟨b, 0, none⟩) hbl).trans hbf
  have d0 : W0.cell? ⟨w.heap.size, 0, none⟩ = some (.int .i64 t.kind) := by subst hW0; simp
  have d1 : W0.cell? ⟨w.heap.size, 1, none⟩ = some (.int .i64 t.a) := by subst hW0; simp
  have d2 : W0.cell? ⟨w.heap.size, 2, none⟩ = some (.int .i64 t.b) := by subst hW0; simp
  have d3 : W0.cell? ⟨w.heap.size, 3, none⟩ = some (.slice A' t.text.length c') := by subst hW0; simp
  have hsz : W0.heap.size = w.heap.size + 1 := by subst hW0; simp
  rw [← hW0]
  clear hW0
  have kb : ∀ x : Kp W0, x.val.cell? ⟨b, 0, none⟩ = some (.slice A0 us.length c0) := fun x => x.cell c0'
  have l0 : ∀ x : Kp W0, x.val.cell? ⟨w.heap.size, 0, none⟩ = some (.int .i64 t.kind) := fun x => x.cell d0
  have l1 : ∀ x : Kp W0, x.val.cell? ⟨w.heap.size, 1, none⟩ = some (.int .i64 t.a) := fun x => x.cell d1
  have l2 : ∀ x : Kp W0, x.val.cell? ⟨w.heap.size, 2, none⟩ = some (.int .i64 t.b) := fun x => x.cell d2
  have l3 : ∀ x : Kp W0, x.val.cell? ⟨w.heap.size, 3, none⟩ = some (.slice A' t.text.length c') := fun x => x.cell d3
  obtain ⟨v, hv⟩ : ∃ v, v = lookI ts t := ⟨_, rfl⟩
  have hlook : ∀ x : Kp W0, Calls Tryd.prog 73 #[.agg #[.slice A0 us.length c0], .agg #[.int .i64 t.kind, .int .i64 t.a, .int .i64 t.b, .slice A' t.text.length c']] x.val fun e w' => e = .returned (.int .i64 v) ∧ Below x.val.heap.size x.val w' := fun x => by
    have h := l1lookup_any A0 A' ts t c0 c' L B L' B' x.val (HA.out.keep fun p _ hp => (x.ok.cell (by omega)).trans (hb0.cell (by omega))) (by have := x.ok.size; omega) (HA'.out.keep fun p _ hp => (x.ok.cell (by omega)).trans (hb0.cell (by omega))) (by have := x.ok.size; omega) (by omega)
    rw [hul, ← hv] at h
    exact h
  have HLook := Lib.hid hlook
  have HB0 := Lib.hid hb0
  have HUl := Lib.hid hul
  have HC := Lib.hid (And.intro c0' (And.intro cf0 (And.intro d0 (And.intro d1 (And.intro d2 d3)))))
  have HL := Lib.hid (lookI_range ts t)
  have HV := Lib.hid hv
  clear hlook hb0 c0' cf0 d0 d1 d2 d3 hb hbf hul hv
  refine wp_region_kept (by kernel_rfl) (by kernel_rfl) ?_
  repeat (go_big_quiet_step ((go_at_call 73; refine kept_of (v := .int .i64 v) (HLook.out _))))
  refine wpQuiet_nil ?_
  rintro _ ⟨x, rfl⟩
  have HX := Lib.hid x.ok
  clear kb l0 l1 l2 l3
  obtain ⟨WK, hWK⟩ : ∃ WK, WK = x.val := ⟨_, rfl⟩
  have hx0 := HX.out
  rw [← hWK] at hx0 ⊢
  have HX0 := Lib.hid hx0
  clear hWK HX HLook hx0
  rcases HL.out with ⟨h1, hm⟩ | ⟨h1, _, hm⟩
  · rw [← HV.out] at h1
    subst h1
    have hzk := HX0.out.size
    obtain ⟨c0', cf0, d0, d1, d2, d3⟩ := HC.out
    have cb : WK.cell? ⟨b, 0, none⟩ = some (.slice A0 us.length c0) := (HX0.out.cell (p := ⟨b, 0, none⟩) (by show b < _; omega)).trans c0'
    have cbf : WK.frozen? ⟨b, 0, none⟩ = false := (HX0.out.frozen (p := ⟨b, 0, none⟩) (by show b < _; omega)).trans cf0
    have t0 : WK.cell? ⟨w.heap.size, 0, none⟩ = some (.int .i64 t.kind) := (HX0.out.cell (p := ⟨w.heap.size, 0, none⟩) (by show w.heap.size < _; omega)).trans d0
    have t1 : WK.cell? ⟨w.heap.size, 1, none⟩ = some (.int .i64 t.a) := (HX0.out.cell (p := ⟨w.heap.size, 1, none⟩) (by show w.heap.size < _; omega)).trans d1
    have t2 : WK.cell? ⟨w.heap.size, 2, none⟩ = some (.int .i64 t.b) := (HX0.out.cell (p := ⟨w.heap.size, 2, none⟩) (by show w.heap.size < _; omega)).trans d2
    have t3 : WK.cell? ⟨w.heap.size, 3, none⟩ = some (.slice A' t.text.length c') := (HX0.out.cell (p := ⟨w.heap.size, 3, none⟩) (by show w.heap.size < _; omega)).trans d3
    clear c0' cf0 d0 d1 d2 d3
    have HBK := Lib.hid (HB0.out.trans (HX0.out.mono (by omega)))
    have HRowK := Lib.hid (HRow.out.kept (grown_of_below HBK.out) (by cases h : (Value.slice A0 us.length c0).ownBlock <;> simp))
    obtain ⟨i1, hi1, hy0, hy1, hy2⟩ := info_parts Tryd.info35
    have hblK : b < WK.heap.size := by omega
    have htlK : w.heap.size < WK.heap.size := by omega
    clear HC HX0 HB0 HRow
    go_wp2_with fail
    have P0 := Lib.hid (show Sx w b (.slice A0 us.length c0) (.int .i64 t.kind) (.int .i64 t.a) (.int .i64 t.b) (.slice A' t.text.length c') WK from ⟨cb, cbf, t0, t1, t2, t3, HBK.out, by omega, hbl⟩)
    have HOne := Lib.hid (rowT_one us)
    have HNew := Lib.hid (show ∀ u ∈ ([.int .i64 t.kind, .int .i64 t.a, .int .i64 t.b, .slice A' t.text.length c'] : List Value), u.oneCell' = true from fun u hu => by simp at hu; rcases hu with rfl | rfl | rfl | rfl <;> rfl)
    have hE0 : w.heap.size + 1 ≤ WK.heap.size := by omega
    have hE1 : w.heap.size + 1 ≤ WK.heap.size + 1 := by omega
    have hl1 : 0 + us.length ≤ maxLen := by unfold maxLen; omega
    have hl2 : (0 + us.length) * 48 ≤ 140737488355328 := by omega
    have hl3 : us.length + 1 ≤ maxLen := by unfold maxLen; omega
    have hl4 : (us.length + 1) * 48 ≤ 140737488355328 := by omega
    have cbE := cell_alloc_at (.cells #[] 71) cb
    have cbN := cell_alloc_at (.cells #[.int .i64 t.kind, .int .i64 t.a, .int .i64 t.b, .slice A' t.text.length c'] 71) cb
    have cbEN := cell_alloc_at (.cells #[.int .i64 t.kind, .int .i64 t.a, .int .i64 t.b, .slice A' t.text.length c'] 71) cbE
    have cbNE := cell_alloc_at (.cells #[] 71) cbN
    have t0E := cell_alloc_at (.cells #[] 71) t0
    have t1E := cell_alloc_at (.cells #[] 71) t1
    have t2E := cell_alloc_at (.cells #[] 71) t2
    have t3E := cell_alloc_at (.cells #[] 71) t3
    go_region_law
      (first
        | (refine step_append_row _ (by rfl) _ _ _ (by rfl) (w.heap.size + 1) base 71 i1 _ 4 48 Tryd.underlying23 hi1 hy0 hy1 hy2 rfl (by decide) (.slice (some ⟨WK.heap.size, 0, none⟩) 0 0) 0 [] (by rfl) (owns_none hE0 ?_) (.slice A0 us.length c0) us.length (rowT us) (by rfl) ?_ HOne.out hl1 hl2 (Sx.sz (by repeat first | with_reducible exact P0.out | with_reducible apply Sx.drew | with_reducible apply Sx.alloc)) ?_
           · (repeat first | with_reducible exact heap_new_at _ (by simp) | with_reducible apply heap_drew_at | with_reducible apply heap_old_at)
           · (repeat first | with_reducible exact HRowK.out | with_reducible apply World.ownsRow.drew | with_reducible apply World.ownsRow.alloc)
           intro A5 c5 w5 hown5 hgr5
           simp only [Nat.zero_add, List.nil_append] at hown5
           have P5 : Sx w b (.slice A0 us.length c0) (.int .i64 t.kind) (.int .i64 t.a) (.int .i64 t.b) (.slice A' t.text.length c') w5 := Sx.grown (by repeat first | with_reducible exact P0.out | with_reducible apply Sx.drew | with_reducible apply Sx.alloc) hgr5 (fun k hk => by simp [Value.ownBlock] at hk; omega)
           obtain ⟨t05, t15, t25, t35⟩ := P5.four)
        | (refine step_append_row _ (by rfl) _ _ _ (by rfl) (w.heap.size + 1) base 71 i1 _ 4 48 Tryd.underlying23 hi1 hy0 hy1 hy2 rfl (by decide) (.slice (some ⟨WK.heap.size + 1, 0, none⟩) 0 0) 0 [] (by rfl) (owns_none hE1 ?_) (.slice A0 us.length c0) us.length (rowT us) (by rfl) ?_ HOne.out hl1 hl2 (Sx.sz (by repeat first | with_reducible exact P0.out | with_reducible apply Sx.drew | with_reducible apply Sx.alloc)) ?_
           · (repeat first | with_reducible exact heap_new_at _ (by simp) | with_reducible apply heap_drew_at | with_reducible apply heap_old_at)
           · (repeat first | with_reducible exact HRowK.out | with_reducible apply World.ownsRow.drew | with_reducible apply World.ownsRow.alloc)
           intro A5 c5 w5 hown5 hgr5
           simp only [Nat.zero_add, List.nil_append] at hown5
           have P5 : Sx w b (.slice A0 us.length c0) (.int .i64 t.kind) (.int .i64 t.a) (.int .i64 t.b) (.slice A' t.text.length c') w5 := Sx.grown (by repeat first | with_reducible exact P0.out | with_reducible apply Sx.drew | with_reducible apply Sx.alloc) hgr5 (fun k hk => by simp [Value.ownBlock] at hk; omega)
           obtain ⟨t05, t15, t25, t35⟩ := P5.four)
        | (refine step_append_row _ (by rfl) _ _ _ (by rfl) (w.heap.size + 1) 0 71 i1 _ 4 48 Tryd.underlying23 hi1 hy0 hy1 hy2 rfl (by decide) (.slice A5 us.length c5) us.length (rowT us) (by rfl) ?_ (.slice (some ⟨w5.heap.size, 0, none⟩) 1 1) 1 [.int .i64 t.kind, .int .i64 t.a, .int .i64 t.b, .slice A' t.text.length c'] (by rfl) (owns_one4 (Nat.zero_le _) ?_) HNew.out hl3 hl4 (Sx.sz (by repeat first | with_reducible exact P5 | with_reducible apply Sx.drew | with_reducible apply Sx.alloc)) ?_
           · (repeat first | with_reducible exact hown5 | with_reducible apply World.ownsRow.drew | with_reducible apply World.ownsRow.alloc)
           · (repeat first | with_reducible exact heap_new_at _ (by simp) | with_reducible apply heap_drew_at | with_reducible apply heap_old_at | refine heap_grown_at hgr5 ?_ (by simp [Value.ownBlock]))
           intro A6 c6 w6 hown6 hgr6
           have P6 : Sx w b (.slice A0 us.length c0) (.int .i64 t.kind) (.int .i64 t.a) (.int .i64 t.b) (.slice A' t.text.length c') w6 := Sx.grown (by repeat first | with_reducible exact P5 | with_reducible apply Sx.drew | with_reducible apply Sx.alloc) hgr6 (fun k hk => (hown5.lt k hk).1)
           have cb6 := P6.cb
           have cf6 := P6.cf
           clear hgr6 hgr5)
        | (refine step_append_row _ (by rfl) _ _ _ (by rfl) (w.heap.size + 1) 0 71 i1 _ 4 48 Tryd.underlying23 hi1 hy0 hy1 hy2 rfl (by decide) (.slice A5 us.length c5) us.length (rowT us) (by rfl) ?_ (.slice (some ⟨WK.heap.size + 1, 0, none⟩) 1 1) 1 [.int .i64 t.kind, .int .i64 t.a, .int .i64 t.b, .slice A' t.text.length c'] (by rfl) (owns_one4 (Nat.zero_le _) ?_) HNew.out hl3 hl4 (Sx.sz (by repeat first | with_reducible exact P5 | with_reducible apply Sx.drew | with_reducible apply Sx.alloc)) ?_
           · (repeat first | with_reducible exact hown5 | with_reducible apply World.ownsRow.drew | with_reducible apply World.ownsRow.alloc)
           · (repeat first | with_reducible exact heap_new_at _ (by simp) | with_reducible apply heap_drew_at | with_reducible apply heap_old_at | refine heap_grown_at hgr5 ?_ (by simp [Value.ownBlock]))
           intro A6 c6 w6 hown6 hgr6
           have P6 : Sx w b (.slice A0 us.length c0) (.int .i64 t.kind) (.int .i64 t.a) (.int .i64 t.b) (.slice A' t.text.length c') w6 := Sx.grown (by repeat first | with_reducible exact P5 | with_reducible apply Sx.drew | with_reducible apply Sx.alloc) hgr6 (fun k hk => (hown5.lt k hk).1)
           have cb6 := P6.cb
           have cf6 := P6.cf
           clear hgr6 hgr5)
        | (refine step_append_row _ (by rfl) _ _ _ (by rfl) (w.heap.size + 1) 0 71 i1 _ 4 48 Tryd.underlying23 hi1 hy0 hy1 hy2 rfl (by decide) (.slice A5 us.length c5) us.length (rowT us) (by rfl) ?_ (.slice (some ⟨WK.heap.size, 0, none⟩) 1 1) 1 [.int .i64 t.kind, .int .i64 t.a, .int .i64 t.b, .slice A' t.text.length c'] (by rfl) (owns_one4 (Nat.zero_le _) ?_) HNew.out hl3 hl4 (Sx.sz (by repeat first | with_reducible exact P5 | with_reducible apply Sx.drew | with_reducible apply Sx.alloc)) ?_
           · (repeat first | with_reducible exact hown5 | with_reducible apply World.ownsRow.drew | with_reducible apply World.ownsRow.alloc)
           · (repeat first | with_reducible exact heap_new_at _ (by simp) | with_reducible apply heap_drew_at | with_reducible apply heap_old_at | refine heap_grown_at hgr5 ?_ (by simp [Value.ownBlock]))
           intro A6 c6 w6 hown6 hgr6
           have P6 : Sx w b (.slice A0 us.length c0) (.int .i64 t.kind) (.int .i64 t.a) (.int .i64 t.b) (.slice A' t.text.length c') w6 := Sx.grown (by repeat first | with_reducible exact P5 | with_reducible apply Sx.drew | with_reducible apply Sx.alloc) hgr6 (fun k hk => (hown5.lt k hk).1)
           have cb6 := P6.cb
           have cf6 := P6.cf
           clear hgr6 hgr5))
    all_goals have HRow6 := Lib.hid hown6
    all_goals have HB6 := Lib.hid P6.bel
    all_goals clear hown6 P6 P5 hown5 t05 t15 t25 t35 cbE cbN cbEN cbNE cb cbf t0 t1 t2 t3 t0E t1E t2E t3E hl1 hl2 hl3 hl4
    all_goals go_wp2_with fail
    all_goals go_ret
    all_goals refine .inr ⟨hm, ret_int (by omega), A6, c6, w6, rfl, HB6.out, ownsRow_low HRow6.out (by omega)⟩
  · rw [← HV.out] at h1
    have HB := Lib.hid (HB0.out.trans (HX0.out.mono (by omega)))
    go_wp2_with fail
    go_ret
    exact .inl ⟨hm, ret_int HV.out, HB.out⟩

end Go.Proofs.YtkmoihkpaccbdaaDoor
