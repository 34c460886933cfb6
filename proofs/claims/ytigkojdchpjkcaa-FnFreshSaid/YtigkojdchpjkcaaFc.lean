/-
  The law that with more one can make no less, and that just all that one can make is told.
-/
import Derived.Test.YtigkojdchpjkcaaFh
import Derived.Test.YtigkojdchpjkcaaAp
import Derived.Test.YtigkojdchpjkcaaTms
import Derived.Test.YtigkojdchpjkcaaOh
import Derived.Deep.RegionLaw
import Derived.Deep.CutRange
namespace Go.Proofs.Ytigkojdchpjkcaa
open Go.RowKit Go.Maps

theorem opc_mono {ts : List Tm} {h h' : Nat → Bool} {i : Nat} (k : Op ts h i) (hh : ∀ j, h j = true → h' j = true) : Op ts h' i := by
  induction k with
  | had k => exact .had (hh _ k)
  | pairL _ k ih => exact .pairL ih k
  | pairR _ k ih => exact .pairR ih k
  | sign _ k ih => exact .sign ih k
  | lock _ k _ ih ih2 => exact .lock ih k ih2
theorem endc_mono {ts : List Tm} {hv hv' : List Int} (hh : ∀ x ∈ hv, x ∈ hv') (j : Nat) (h : endB ts hv j = true) : endB ts hv' j = true := by
  unfold endB at *
  rw [opB_iff] at *
  refine opc_mono h fun i hi => ?_
  simp only [haveB, Bool.and_eq_true, decide_eq_true_eq, List.contains_iff_mem] at hi ⊢
  exact ⟨hi.1, hh _ hi.2⟩
theorem can_more {ts : List Tm} {hv hv' : List Int} {want : Int} (hn : hv'.length ≤ 1000) (hh : ∀ x ∈ hv, x ∈ hv') (h : canV ts hv want = true) : canV ts hv' want = true := by
  unfold canV askB at *
  simp only [Bool.and_eq_true, decide_eq_true_eq] at *
  obtain ⟨⟨h1, _⟩, h2, h3⟩ := h
  refine ⟨⟨h1, hn⟩, h2, ?_⟩
  rw [cnB_iff] at *
  exact cn_mono h3 fun j hj => endc_mono hh j hj
theorem can_all {ts : List Tm} {hv : List Int} {want : Int} (h0 : 0 ≤ want) : decide (want ∈ allV ts hv) = canV ts hv want := by
  rw [Bool.eq_iff_iff, decide_eq_true_eq]
  unfold allV canV
  cases ha : askB ts hv with
  | false => simp
  | true =>
    simp only [if_true, Bool.true_and, Bool.and_eq_true, hasB_iff]
    rw [mem_pick]
    constructor
    · rintro ⟨j, hj, rfl, h⟩
      exact ⟨⟨by omega, by omega⟩, by simpa using h⟩
    · rintro ⟨⟨_, h2⟩, h3⟩
      exact ⟨want.toNat, by omega, by omega, h3⟩

/-- append of any slice, none or not, onto a row of one's own, as a step of a region. -/
theorem step_append_g {P : Program} (w : World) {ops : Array Oper} {o : Oper} {a : Act} {K : Act → World → Prop} {Q : Exit → Act → World → Prop} {E : Prop} (hgd : o.guard = none) (s x : Operand) (t : TypeId)
    (ho : o.op = .call { callee := .builtin .append, args := #[s, x], argTypes := #[t, t] })
    (base : Nat) (e : TypeId) (i : TypeInfo) (z : Value) (size bytes : Nat) (ht : P.underlying t = some (.slice e)) (hi : P.info? e = some i) (hz : i.zero = some z)
    (hsize : i.size = size) (hby : i.bytes = bytes) (hzs : z.cells.size = size) (hsz : 0 < size)
    (v : Value) (n : Nat) (xs : List Value) (hs : a.eval s = v) (hown : w.ownsRow base e size v n xs)
    (A : Option Addr) (m c : Nat) (ys : List Value) (hx : a.eval x = .slice A m c) (hl : ys.length = m * size) (hsrc : SrcAtG w A m ys) (h1 : ∀ u ∈ ys, u.oneCell' = true)
    (h63 : n + m ≤ maxLen) (hbytes : (n + m) * bytes ≤ 140737488355328) (hbase : base ≤ w.heap.size)
    (h : ∀ A' cap w', w'.ownsRow base e size (.slice A' (n + m) cap) (n + m) (xs ++ ys) → w.grownBy w' v.ownBlock → K (a.put o.dst (.slice A' (n + m) cap)) w') :
    if Region.wanted o (yielded ops a.tmps) = true then Oper.wp P o a w K Q else E := by
  have hw : Region.wanted o (yielded ops a.tmps) = true := by simp [Region.wanted, hgd]
  rw [if_pos hw]
  obtain ⟨A', cap, w', hr, h2, h3⟩ := apg_run (P := P) w base t o.type e i z size bytes ht hi hz hsize hby hzs hsz v n xs hown A m c ys hl hsrc h1 h63 hbytes hbase
  unfold Oper.wp execOp
  simp only [ho, resolve, invoke, builtin, Sem.run_bind, Sem.run_pure, Result.andThen_ok, List.map_toArray, List.map_cons, List.map_nil, hs, hx, hr]
  exact h A' cap w' h2 h3

theorem ints_srcG {w : World} {L B : Nat} {A : Option Addr} {l : List Int} (h : IntsIn w L B A l) : SrcAtG w A l.length (l.map vint) := by
  refine ⟨fun e => ?_, fun ad e j u hu => ?_⟩
  · rcases Nat.eq_zero_or_pos l.length with hz | hp
    · exact hz
    · obtain ⟨b, o, e', _⟩ := h hp
      rw [e] at e'; cases e'
  · have hj : j < l.length := by
      have := (List.getElem?_eq_some_iff.1 hu).1
      simpa using this
    obtain ⟨b, o, e', _, _, hc⟩ := h (by omega)
    rw [e] at e'
    cases e'
    rw [Addr.add_lit, hc j hj, ← hu]
    simp [vint, hj]

/-- All below N is as in the world W. -/
structure Pz (W : World) (N : Nat) (X : World) : Prop where
  bel : Below N W X
  sz : N ≤ X.heap.size
section
variable {W X Y : World} {N : Nat}
theorem Pz.drew (h : Pz W N X) : Pz W N X.drew := ⟨h.bel.drew, h.sz⟩
theorem Pz.alloc (h : Pz W N X) (o : Obj) : Pz W N (X.alloc o) := ⟨h.bel.alloc h.sz o, by have := h.sz; simp; omega⟩
theorem Pz.below (h : Pz W N X) (hb : Below X.heap.size X Y) : Pz W N Y := ⟨h.bel.trans (hb.mono h.sz), Nat.le_trans h.sz hb.size⟩
theorem Pz.grown (h : Pz W N X) {row : Option Nat} (hg : X.grownBy Y row) (hr : ∀ g, row = some g → N ≤ g) : Pz W N Y := ⟨h.bel.grown hg h.sz hr, Nat.le_trans h.sz hg.size⟩
theorem Pz.ints (h : Pz W N X) {A : Option Addr} {l : List Int} (hi : IntsIn W 0 N A l) : IntsIn X 0 X.heap.size A l := (hi.keep fun _ _ hp => h.bel.cell hp).mono h.sz
/-- The first append: a copy of the list. -/
theorem Pz.copy {ops : Array Oper} {o : Oper} {a : Act} {Q : Exit → Act → World → Prop} {E : Prop} {KK : Act → World → Prop} (h : Pz W N X) (hgd : o.guard = none) (s x : Operand)
    (ho : o.op = .call { callee := .builtin .append, args := #[s, x], argTypes := #[46, 46] }) (g : Nat) (hs : a.eval s = .slice (some ⟨g, 0, none⟩) 0 0) (hg : N ≤ g) (hh : X.heap[g]? = some (.cells #[] 3 (0, 0)))
    (A : Option Addr) (l : List Int) (c : Nat) (hx : a.eval x = .slice A l.length c) (hi : IntsIn W 0 N A l) (hl : l.length ≤ 1048576)
    (hK : ∀ A7 c7 w7, Pz W N w7 → w7.ownsRow N 3 1 (.slice A7 l.length c7) l.length (l.map vint) → KK (a.put o.dst (.slice A7 l.length c7)) w7) :
    if Region.wanted o (yielded ops a.tmps) = true then Oper.wp Try.prog o a X KK Q else E := by
  obtain ⟨i0, hi0, hz0, hz1, hz2⟩ := info_parts Try.infoInt
  have hsz := h.sz
  refine step_append_g X hgd s x 46 ho N 3 i0 (.int .i64 0) 1 8 Try.underlying46 hi0 hz0 hz1 hz2 rfl (by decide) _ 0 [] hs (owns_none hg hh) A l.length c (l.map vint) hx (by simp) (ints_srcG (h.ints hi)) (fun u hu => by simp [vint] at hu; obtain ⟨y, _, rfl⟩ := hu; rfl) (by unfold maxLen; omega) (by omega) hsz ?_
  intro A7 c7 w7 hown hgr
  rw [Nat.zero_add] at hown ⊢
  rw [List.nil_append] at hown
  exact hK A7 c7 w7 (h.grown hgr fun k hk => by simp [Value.ownBlock] at hk; omega) hown
/-- The second append: one more number. -/
theorem Pz.one {ops : Array Oper} {o : Oper} {a : Act} {Q : Exit → Act → World → Prop} {E : Prop} {KK : Act → World → Prop} (h : Pz W N X) (hgd : o.guard = none) (s x : Operand)
    (ho : o.op = .call { callee := .builtin .append, args := #[s, x], argTypes := #[46, 46] }) (A : Option Addr) (l : List Int) (c : Nat) (hs : a.eval s = .slice A l.length c) (hown : X.ownsRow N 3 1 (.slice A l.length c) l.length (l.map vint))
    (g : Nat) (y : Int) (hx : a.eval x = .slice (some ⟨g, 0, none⟩) 1 1) (hg : X.cell? ⟨g, 0, none⟩ = some (.int .i64 y)) (hl : l.length ≤ 1048576)
    (hK : ∀ A7 c7 w7, Pz W N w7 → IntsIn w7 0 w7.heap.size A7 (l ++ [y]) → KK (a.put o.dst (.slice A7 (l.length + 1) c7)) w7) :
    if Region.wanted o (yielded ops a.tmps) = true then Oper.wp Try.prog o a X KK Q else E := by
  obtain ⟨i0, hi0, hz0, hz1, hz2⟩ := info_parts Try.infoInt
  have hsz := h.sz
  refine step_append_g X hgd s x 46 ho N 3 i0 (.int .i64 0) 1 8 Try.underlying46 hi0 hz0 hz1 hz2 rfl (by decide) _ l.length (l.map vint) hs hown (some ⟨g, 0, none⟩) 1 1 [.int .i64 y] hx rfl ⟨fun e => (by cases e), fun ad e j u hu => ?_⟩ (fun u hu => by simp at hu; subst hu; rfl) (by unfold maxLen; omega) (by omega) hsz ?_
  · cases e
    have hj : j = 0 := by
      have := (List.getElem?_eq_some_iff.1 hu).1
      simpa using this
    subst hj
    rw [Addr.add_lit, hg]
    simpa using hu
  · intro A7 c7 w7 hown7 hgr
    refine hK A7 c7 w7 (h.grown hgr fun k hk => (hown.lt k hk).1) ?_
    have hr : w7.ownsRow N 3 1 (.slice A7 (l ++ [y]).length c7) (l ++ [y]).length ((l ++ [y]).map vint) := by simpa [vint] using hown7
    exact ((ints_of_row hr).ints).low (Nat.zero_le _)
theorem row_pz {A : Option Addr} {n c : Nat} {xs : List Value} (h : X.ownsRow N 3 1 (.slice A n c) n xs) (hb : Below X.heap.size X Y) : Y.ownsRow N 3 1 (.slice A n c) n xs :=
  h.kept (grown_of_below hb) (by cases hq : (Value.slice A n c).ownBlock <;> simp)
end

theorem Pz.one2 {W Y : World} {N : Nat} {ops : Array Oper} {o : Oper} {a : Act} {Q : Exit → Act → World → Prop} {E : Prop} {KK : Act → World → Prop} {y : Int} {T : TypeId} (h : Pz W N Y) (hgd : o.guard = none) (s x : Operand)
    (ho : o.op = .call { callee := .builtin .append, args := #[s, x], argTypes := #[46, 46] }) (A : Option Addr) (l : List Int) (c : Nat) (hs : a.eval s = .slice A l.length c) (hown : Y.ownsRow N 3 1 (.slice A l.length c) l.length (l.map vint))
    (hx : a.eval x = .slice (some ⟨Y.heap.size, 0, none⟩) 1 1) (hl : l.length ≤ 1048576)
    (hK : ∀ A7 c7 w7, Pz W N w7 → IntsIn w7 0 w7.heap.size A7 (l ++ [y]) → KK (a.put o.dst (.slice A7 (l.length + 1) c7)) w7) :
    if Region.wanted o (yielded ops a.tmps) = true then Oper.wp Try.prog o a (Y.alloc (.cells #[.int .i64 y] T)) KK Q else E :=
  Pz.one (h.alloc _) hgd s x ho A l c hs (hown.alloc _) Y.heap.size y hx (by simp) hl hK

theorem new_one (w : World) (v : Value) (t : TypeId) : (w.alloc (.cells #[v] t)).cell? ⟨w.heap.size, 0, none⟩ = some v := by simp

set_option maxRecDepth 100000 in
set_option maxHeartbeats 4000000 in
theorem fnCans_any (A : Option Addr) (c : Nat) (code : List UInt8) (w : World) (hA : BytesIn w 0 w.heap.size A code) (hn : code.length ≤ 9223372036854775807) :
    Calls Try.prog 6 #[.slice A code.length c] w fun e w' => e = .returned (.bool true) ∧ Below w.heap.size w w' := by
  have HA := Lib.hid hA
  clear hA
  go_enter Try.func6, Try.ntmps6
  go_wp2_with fail
  refine (drawCan_any A c code w HA.out hn).mono ?_
  rintro e w1 ⟨ts, A1, c1, hv, A2, c2, want, rfl, ⟨hl1, hk1, _⟩, ⟨hvl, _⟩, ⟨hwa, hwb⟩, ht1, hi1, hb1⟩
  obtain ⟨W2, hW2⟩ : ∃ y, y = w1.alloc (.cells #[.slice A1 ts.length c1] 25) := ⟨_, rfl⟩
  have hb2 : Below w1.heap.size w1 W2 := by rw [hW2]; exact (Below.refl _ _).alloc (Nat.le_refl _) _
  have b2 : W2.cell? ⟨w1.heap.size, 0, none⟩ = some (.slice A1 ts.length c1) := by rw [hW2]; simp
  have hz2 : w1.heap.size < W2.heap.size := by rw [hW2]; simp
  have HT2 := Lib.hid (ht1.keep fun p _ hp => hb2.cell hp)
  have HI2 := Lib.hid (hi1.keep fun p _ hp => hb2.cell hp)
  have HB2 := Lib.hid (hb1.trans (hb2.mono hb1.size))
  have hzw := hb1.size
  have hw64 : WfI want := by
    show (decide ((-9223372036854775808 : Int) ≤ want) && decide (want ≤ (9223372036854775807 : Int))) = true
    simp
    omega
  clear ht1 hi1 hb1 hb2
  go_upto_region 2 with fail
  rw [← hW2]
  clear hW2
  have HCan := Lib.hid (fun (X : World) (hX : Below W2.heap.size W2 X) (A3 : Option Addr) (h3 : List Int) (c3 : Nat) (hi : IntsIn X 0 X.heap.size A3 h3) (hl : h3.length ≤ 1000) => implCan_any A1 ts c1 w.heap.size w1.heap.size A3 h3 c3 want X hw64 (HT2.out.keep fun p _ hp => hX.cell (by omega)) (by have := hX.size; omega) (by omega) (by omega) hi (by omega))
  have HSec := Lib.hid (fun (X : World) (hX : Below W2.heap.size W2 X) (A3 : Option Addr) (h3 : List Int) (c3 : Nat) (hi : IntsIn X 0 X.heap.size A3 h3) (hl : h3.length ≤ 1000) => implSecret_any A1 ts c1 w.heap.size w1.heap.size A3 h3 c3 want X (HT2.out.keep fun p _ hp => hX.cell (by omega)) (by have := hX.size; omega) (by omega) (by omega) hi (by omega))
  have HHave := Lib.hid (fun (X : World) (hX : Below W2.heap.size W2 X) => show IntsIn X 0 X.heap.size A2 hv from ((HI2.out.keep fun p _ hp => hX.cell (by omega)).low (Nat.zero_le _)).mono (by have := hX.size; omega))
  go_wp2_with fail
  refine (HCan.out W2 (Below.refl _ _) A2 hv c2 (HHave.out W2 (Below.refl _ _)) (by omega)).mono ?_
  rintro e w3 ⟨rfl, hb3⟩
  have hz3 := hb3.size
  have b3 := (hb3.cell (p := ⟨w1.heap.size, 0, none⟩) hz2).trans b2
  have HB3 := Lib.hid hb3
  obtain ⟨cn, hcn⟩ : ∃ y, y = canV ts hv want := ⟨_, rfl⟩
  rw [← hcn]
  have HCn := Lib.hid hcn
  clear hb3 b2 hcn
  go_wp2_with fail
  refine (implAll_any A1 ts c1 w.heap.size w1.heap.size A2 hv c2 w3 (HT2.out.keep fun p _ hp => HB3.out.cell (by omega)) (by omega) (by omega) (by omega) (HHave.out w3 HB3.out) (by omega)).mono ?_
  rintro e w4 ⟨A4, c4, rfl, hi4, hb4⟩
  have hz4 := hb4.size
  have b4 := (hb4.cell (p := ⟨w1.heap.size, 0, none⟩) (by show w1.heap.size < _; omega)).trans b3
  have HI4 := Lib.hid ((hi4.ints).low (Nat.zero_le _))
  have HB4 := Lib.hid (HB3.out.trans (hb4.mono (by omega)))
  have hal : (allV ts hv).length ≤ 1048576 := by
    unfold allV
    split
    · have := pick_length (cnB ts (endB ts hv)) ts.length; omega
    · simp
  clear hi4 hb4 b3
  go_wp2_with fail
  refine (hasInt_any A4 (allV ts hv) c4 want w4 HI4.out hal).mono ?_
  rintro e w5 ⟨rfl, hb5⟩
  have hz5 := hb5.size
  have b5 := (hb5.cell (p := ⟨w1.heap.size, 0, none⟩) (by show w1.heap.size < _; omega)).trans b4
  have HB5 := Lib.hid (HB4.out.trans (hb5.mono (by omega)))
  obtain ⟨hh, hhe⟩ : ∃ y, y = decide (want ∈ allV ts hv) := ⟨_, rfl⟩
  rw [← hhe]
  have HH := Lib.hid (fun h0 : 0 ≤ want => show hh = cn by rw [hhe, can_all h0, HCn.out])
  clear hb5 b4 hhe HI4 hal
  -- the new list, and what lies behind it, once
  obtain ⟨N, hNe⟩ : ∃ N, N = w5.heap.size := ⟨_, rfl⟩
  have hN2 : W2.heap.size ≤ N := by omega
  have HP5 := Lib.hid (show Pz w5 N w5 from ⟨Below.refl _ _, by omega⟩)
  have HI5 := Lib.hid (show IntsIn w5 0 N A2 hv from by rw [hNe]; exact HHave.out w5 HB5.out)
  have HAt := Lib.hid (fun (X : World) (hX : Pz w5 N X) => show Calls Try.prog 30 #[.slice A code.length c, .int .i64 1] X (fun e w' => ∃ x, e = .returned (.int .i64 x) ∧ 0 ≤ x ∧ Pz w5 N w' ∧ Below X.heap.size X w') from (at_any A code c X ((HA.out.keep fun p _ hp => ((HB2.out.trans ((HB5.out.trans (hX.bel.mono (by omega))).mono (by omega))).cell hp)).mono (by have := hX.sz; omega)) hn).mono (by
    rintro e w' ⟨x, rfl, hx, _, hb⟩
    exact ⟨x, rfl, hx, hX.below hb, hb⟩))
  have HTail := Lib.hid (fun (X : World) (hX : Below W2.heap.size W2 X) => show Calls Try.prog 13 #[] X (fun e w' => e = .returned (.bool true) ∧ Below w.heap.size w w') from (terms_any X).mono (by
    rintro e w' ⟨rfl, hb⟩
    exact ⟨rfl, HB2.out.trans ((hX.trans (hb.mono hX.size)).mono (by omega))⟩))
  have hwr : IntKind.i64.wrap ((ts.length : Int) + 1) = (ts.length : Int) + 1 := by rw [IntKind.wrap_i64]; omega
  have hne : ¬ ((ts.length : Int) + 1 = 0) := by omega
  clear HA HT2 HI2 HHave
  by_cases hq : cn = hh
  case' pos => subst hq
  case' neg =>
    have hneg : want < 0 := by
      rcases Int.lt_or_le want 0 with h | h
      · exact h
      · exact absurd (HH.out h).symm hq
  all_goals
    go_upto_region 5 with fail
    have e5 : w5.cell? ⟨w1.heap.size, 0, none⟩ = some (.slice A1 ts.length c1) := b5
    have e5n := cell_alloc_at (.cells #[] 3) e5
    go_cut [7] from 18 to 40 (fun s7 wx => ∃ A9 c9 y, s7 = .slice A9 (hv.length + 1) c9 ∧ IntsIn wx 0 wx.heap.size A9 (hv ++ [y]) ∧ Below N w5 wx)
    case first =>
      go_region_law
        (first
          | (refine Pz.one2 (W := w5) (N := N) ?_ (by rfl) _ _ (by rfl) A7 hv c7 (by rfl) ?_ (by rfl) (by omega) ?_
             · (first | with_reducible exact HP6.out | with_reducible exact HP7.out)
             · (first | with_reducible exact HR6.out | with_reducible exact HR7.out)
             intro A9 c9 w9 hp9 hi9
             have HP9 := Lib.hid hp9
             have HI9 := Lib.hid hi9
             clear hp9 hi9)
          | (refine Pz.copy (W := w5) (N := N) ?_ (by rfl) _ _ (by rfl) _ (by rfl) ?_ ?_ A2 hv c2 (by rfl) HI5.out (by omega) ?_
             · (repeat first | with_reducible exact HP6.out | with_reducible exact HP5.out | with_reducible apply Pz.drew | with_reducible apply Pz.alloc)
             · first
               | omega
               | (have h6 := HP6.out.sz
                  omega)
             · (repeat first | with_reducible exact heap_new_at _ (by simp) | with_reducible apply heap_drew_at)
             intro A7 c7 w7 hp7 hr7
             have HP7 := Lib.hid hp7
             have HR7 := Lib.hid hr7
             have e7 := (hp7.bel.cell (p := ⟨w1.heap.size, 0, none⟩) (by show w1.heap.size < _; omega)).trans e5
             clear hp7 hr7)
          | (go_simp
             go_at_call 30
             refine (HAt.out _ ?_).mono ?_
             · (repeat first | with_reducible exact HP7.out | with_reducible exact HP5.out | with_reducible apply Pz.drew | with_reducible apply Pz.alloc)
             rintro e w6 ⟨x6, rfl, hx6a, hp6, hb6⟩
             have e6 := (hp6.bel.cell (p := ⟨w1.heap.size, 0, none⟩) (by show w1.heap.size < _; omega)).trans e5
             have e6n := cell_alloc_at (.cells #[] 3) e6
             have HP6 := Lib.hid hp6
             first
             | (have HR6 := Lib.hid (row_pz HR7.out hb6)
                clear hb6 hp6)
             | clear hb6 hp6
             go_wp2_with fail))
      all_goals
        go_wp2_with fail
        go_meet
        case rel => exact ⟨A9, c9, _, rfl, HI9.out, HP9.out.bel⟩
    case rest =>
      obtain ⟨A9, c9, y, rfl, hi9, hb9⟩ := hcut
      have hzc := hb9.size
      have HB9 := Lib.hid (HB5.out.trans (hb9.mono hN2))
      have b9 := (hb9.cell (p := ⟨w1.heap.size, 0, none⟩) (by show w1.heap.size < _; omega)).trans b5
      have hll : (hv ++ [y]).length ≤ 1000 := by simp; omega
      have CC := Lib.hid (by
        have h := HCan.out wc HB9.out A9 (hv ++ [y]) c9 hi9 hll
        rw [List.length_append] at h
        exact h)
      have HMore := Lib.hid (fun h : cn = true => show canV ts (hv ++ [y]) want = true from can_more hll (fun x hx => List.mem_append_left _ hx) (by rw [← HCn.out]; exact h))
      have HI9 := Lib.hid hi9
      clear hi9 hb9 b5 e5 e5n HCan
      cases cn with
      | true =>
        have hm := HMore.out rfl
        have hsec : secretV ts (hv ++ [y]) want = false := by simp [secretV, hm]
        have HM := Lib.hid (And.intro hm hsec)
        clear hm hsec HMore
        go_wp2_with fail
        refine CC.out.mono ?_
        rintro e w10 ⟨rfl, hb10⟩
        rw [HM.out.1]
        have hz10 := hb10.size
        have b10 := (hb10.cell (p := ⟨w1.heap.size, 0, none⟩) (by show w1.heap.size < _; omega)).trans b9
        have HB10 := Lib.hid (HB9.out.trans (hb10.mono (by omega)))
        have CS := Lib.hid (by
          have h := HSec.out w10 HB10.out A9 (hv ++ [y]) c9 ((HI9.out.keep fun p _ hp => hb10.cell hp).mono hb10.size) hll
          rw [List.length_append] at h
          exact h)
        clear hb10 b9 CC
        go_wp2_with fail
        refine CS.out.mono ?_
        rintro e w11 ⟨rfl, hb11⟩
        rw [HM.out.2]
        have HB11 := Lib.hid (HB10.out.trans (hb11.mono (by omega)))
        have CT := Lib.hid (HTail.out w11 HB11.out)
        clear hb11 b10 CS
        go_wp2_with fail
        refine CT.out.mono ?_
        rintro e w12 ⟨rfl, hb12⟩
        have HB12 := Lib.hid hb12
        clear hb12 CT
        go_wp2_with fail
        go_ret
        exact ⟨rfl, HB12.out⟩
      | false =>
        have CS := Lib.hid (by
          have h := HSec.out wc HB9.out A9 (hv ++ [y]) c9 HI9.out hll
          rw [List.length_append] at h
          exact h)
        clear CC
        go_wp2_with fail
        refine CS.out.mono ?_
        rintro e w11 ⟨rfl, hb11⟩
        have HB11 := Lib.hid (HB9.out.trans (hb11.mono (by omega)))
        have CT := Lib.hid (HTail.out w11 HB11.out)
        obtain ⟨sv, hsv⟩ : ∃ sv, sv = secretV ts (hv ++ [y]) want := ⟨_, rfl⟩
        rw [← hsv]
        clear hb11 b9 CS hsv
        cases sv with
        | false =>
          go_wp2_with fail
          refine CT.out.mono ?_
          rintro e w12 ⟨rfl, hb12⟩
          have HB12 := Lib.hid hb12
          clear hb12 CT
          go_wp2_with fail
          go_ret
          exact ⟨rfl, HB12.out⟩
        | true =>
          go_wp2_with fail
          refine CT.out.mono ?_
          rintro e w12 ⟨rfl, hb12⟩
          have HB12 := Lib.hid hb12
          clear hb12 CT
          go_wp2_with fail
          go_ret
          exact ⟨rfl, HB12.out⟩

end Go.Proofs.Ytigkojdchpjkcaa
