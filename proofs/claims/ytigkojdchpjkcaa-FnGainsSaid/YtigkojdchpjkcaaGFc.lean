/-
  Several texts in one: Fh, Fc, Ong, Fg.
-/
import Derived.Test.YtigkojdchpjkcaaDo
import Derived.Deep.QuietTactic
import Derived.Test.YtigkojdchpjkcaaAp
import Derived.Test.YtigkojdchpjkcaaTms
import Derived.Test.YtigkojdchpjkcaaOh
import Derived.Deep.RegionLaw
import Derived.Deep.CutRange
import Derived.Test.YtigkojdchpjkcaaOn
import Derived.Test.YtigkojdchpjkcaaOk
import Derived.Test.YtigkojdchpjkcaaKept
namespace Go.Proofs.Ytigkojdchpjkcaa
open Go.RowKit Go.Maps

set_option maxRecDepth 100000 in
set_option maxHeartbeats 1000000 in
theorem hasInt_any (A : Option Addr) (l : List Int) (c : Nat) (x : Int) (w : World) (hA : IntsIn w 0 w.heap.size A l) (hn : l.length ≤ 1048576) :
    Calls Try.prog 25 #[.slice A l.length c, .int .i64 x] w fun e w' => e = .returned (.bool (decide (x ∈ l))) ∧ Below w.heap.size w w' := by
  have HA := Lib.hid hA
  clear hA
  go_enter Try.func25, Try.ntmps25
  go_wp2_with fail
  go_loopw [5] (fun i wr => ∃ k : Nat, k ≤ l.length ∧ i = .int .i64 k ∧ x ∉ l.take k ∧ Below w.heap.size w wr) (fun i _ => l.length - (intOf i).toNat)
  case atStart => exact ⟨0, Nat.zero_le _, rfl, by simp, Below.refl _ _⟩
  case round =>
    obtain ⟨k, hk, rfl, hno, hbr⟩ := hrel
    have HNo := Lib.hid hno
    have HBr := Lib.hid hbr
    clear hno hbr
    by_cases hlt : k < l.length
    · obtain ⟨b, o, rfl, _, hb, hc⟩ := HA.out (by omega)
      have hc0 := (HBr.out.cell (p := ⟨b, o + k, none⟩) (by show b < _; omega)).trans (hc k hlt)
      clear hc
      by_cases he : l[k] = x
      · have HE := Lib.hid (show x ∈ l from he ▸ List.getElem_mem hlt)
        go_wp2_with fail
        go_ret
        exact ⟨by simp [HE.out], HBr.out⟩
      · have HN2 := Lib.hid (show x ∉ l.take (k + 1) by
          rw [List.take_succ_eq_append_getElem hlt]
          simp only [List.mem_append, List.mem_singleton, not_or]
          exact ⟨HNo.out, fun h => he h.symm⟩)
        go_wp2_with fail
        go_roundw
        case rel => exact ⟨k + 1, by omega, by go_num, HN2.out, HBr.out⟩
        case measure => simp [intOf]; omega
    · have HE := Lib.hid (show x ∉ l by
        have h := HNo.out
        rwa [List.take_of_length_le (by omega)] at h)
      go_wp2_with fail
      go_ret
      exact ⟨by simp [HE.out], HBr.out⟩

set_option maxRecDepth 100000 in
set_option maxHeartbeats 1000000 in
theorem at_any (A : Option Addr) (code : List UInt8) (c : Nat) (w : World) (hA : BytesIn w 0 w.heap.size A code) (hn : code.length ≤ 9223372036854775807) :
    Calls Try.prog 30 #[.slice A code.length c, .int .i64 1] w fun e w' => ∃ x, e = .returned (.int .i64 x) ∧ 0 ≤ x ∧ x ≤ 255 ∧ Below w.heap.size w w' := by
  have HA := Lib.hid hA
  clear hA
  go_enter Try.func30, Try.ntmps30
  by_cases h0 : code.length = 0
  · go_wp2_with fail
    all_goals go_ret
    all_goals exact ⟨0, rfl, by omega, by omega, Below.refl _ _⟩
  · obtain ⟨b, o, rfl, _, hb, hc⟩ := HA.out (by omega)
    have hm : 1 % code.length < code.length := Nat.mod_lt _ (by omega)
    have hc0 := hc (1 % code.length) hm
    have hmi : 0 ≤ (1 : Int) % (code.length : Int) ∧ (1 : Int) % (code.length : Int) < (code.length : Int) := ⟨Int.emod_nonneg _ (by omega), Int.emod_lt_of_pos _ (by omega)⟩
    have hwr : wrap64 ((code[1 % code.length].toNat : Nat) : Int) = ((code[1 % code.length].toNat : Nat) : Int) := by
      have := code[1 % code.length].toNat_lt
      unfold wrap64
      omega
    clear hc
    go_wp2_with fail
    go_ret
    exact ⟨_, rfl, by omega, by have := code[1 % code.length].toNat_lt; omega, Below.refl _ _⟩

end Go.Proofs.Ytigkojdchpjkcaa

namespace Go.Proofs.Ytigkojdchpjkcaa
open Go.RowKit Go.Maps

theorem opc_mono {ts : List Tm} {h h' : Nat → Bool} {i : Nat} (k : Op ts h i) (hh : ∀ j, h j = true → h' j = true) : Op ts h' i := by
  induction k with
  | had k => exact .had (hh _ k)
  | pairL _ k ih => exact .pairL ih k
  | pairR _ k ih => exact .pairR ih k
  | sign _ k ih => exact .sign ih k
  | lock _ k _ ih ih2 => exact .lock ih k ih2
theorem endc_mono {ts : List Tm} {hv hv' : List Int} (hh : ∀ x ∈ hv, x ∈ hv') (j : Nat) (h : endB ts hv j = true) : endB ts hv' j = true := by
  unfold endB at *
  rw [opB_iff] at *
  refine opc_mono h fun i hi => ?_
  simp only [haveB, Bool.and_eq_true, decide_eq_true_eq, List.contains_iff_mem] at hi ⊢
  exact ⟨hi.1, hh _ hi.2⟩
theorem can_more {ts : List Tm} {hv hv' : List Int} {want : Int} (hn : hv'.length ≤ 1000) (hh : ∀ x ∈ hv, x ∈ hv') (h : canV ts hv want = true) : canV ts hv' want = true := by
  unfold canV askB at *
  simp only [Bool.and_eq_true, decide_eq_true_eq] at *
  obtain ⟨⟨h1, _⟩, h2, h3⟩ := h
  refine ⟨⟨h1, hn⟩, h2, ?_⟩
  rw [cnB_iff] at *
  exact cn_mono h3 fun j hj => endc_mono hh j hj
theorem can_all {ts : List Tm} {hv : List Int} {want : Int} (h0 : 0 ≤ want) : decide (want ∈ allV ts hv) = canV ts hv want := by
  rw [Bool.eq_iff_iff, decide_eq_true_eq]
  unfold allV canV
  cases ha : askB ts hv with
  | false => simp
  | true =>
    simp only [if_true, Bool.true_and, Bool.and_eq_true, hasB_iff]
    rw [mem_pick]
    constructor
    · rintro ⟨j, hj, rfl, h⟩
      exact ⟨⟨by omega, by omega⟩, by simpa using h⟩
    · rintro ⟨⟨_, h2⟩, h3⟩
      exact ⟨want.toNat, by omega, by omega, h3⟩

/-- append of any slice, none or not, onto a row of one's own, as a step of a region. -/
theorem step_append_g {P : Program} (w : World) {ops : Array Oper} {o : Oper} {a : Act} {K : Act → World → Prop} {Q : Exit → Act → World → Prop} {E : Prop} (hgd : o.guard = none) (s x : Operand) (t : TypeId)
    (ho : o.op = .call { callee := .builtin .append, args := #[s, x], argTypes := #[t, t] })
    (base : Nat) (e : TypeId) (i : TypeInfo) (z : Value) (size bytes : Nat) (ht : P.underlying t = some (.slice e)) (hi : P.info? e = some i) (hz : i.zero = some z)
    (hsize : i.size = size) (hby : i.bytes = bytes) (hzs : z.cells.size = size) (hsz : 0 < size)
    (v : Value) (n : Nat) (xs : List Value) (hs : a.eval s = v) (hown : w.ownsRow base e size v n xs)
    (A : Option Addr) (m c : Nat) (ys : List Value) (hx : a.eval x = .slice A m c) (hl : ys.length = m * size) (hsrc : SrcAtG w A m ys) (h1 : ∀ u ∈ ys, u.oneCell' = true)
    (h63 : n + m ≤ maxLen) (hbytes : (n + m) * bytes ≤ 140737488355328) (hbase : base ≤ w.heap.size)
    (h : ∀ A' cap w', w'.ownsRow base e size (.slice A' (n + m) cap) (n + m) (xs ++ ys) → w.grownBy w' v.ownBlock → K (a.put o.dst (.slice A' (n + m) cap)) w') :
    if Region.wanted o (yielded ops a.tmps) = true then Oper.wp P o a w K Q else E := by
  have hw : Region.wanted o (yielded ops a.tmps) = true := by simp [Region.wanted, hgd]
  rw [if_pos hw]
  obtain ⟨A', cap, w', hr, h2, h3⟩ := apg_run (P := P) w base t o.type e i z size bytes ht hi hz hsize hby hzs hsz v n xs hown A m c ys hl hsrc h1 h63 hbytes hbase
  unfold Oper.wp execOp
  simp only [ho, resolve, invoke, builtin, Sem.run_bind, Sem.run_pure, Result.andThen_ok, List.map_toArray, List.map_cons, List.map_nil, hs, hx, hr]
  exact h A' cap w' h2 h3

theorem ints_srcG {w : World} {L B : Nat} {A : Option Addr} {l : List Int} (h : IntsIn w L B A l) : SrcAtG w A l.length (l.map vint) := by
  refine ⟨fun e => ?_, fun ad e j u hu => ?_⟩
  · rcases Nat.eq_zero_or_pos l.length with hz | hp
    · exact hz
    · obtain ⟨b, o, e', _⟩ := h hp
      rw [e] at e'; cases e'
  · have hj : j < l.length := by
      have := (List.getElem?_eq_some_iff.1 hu).1
      simpa using this
    obtain ⟨b, o, e', _, _, hc⟩ := h (by omega)
    rw [e] at e'
    cases e'
    rw [Addr.add_lit, hc j hj, ← hu]
    simp [vint, hj]

/-- All below N is as in the world W. -/
structure Pz (W : World) (N : Nat) (X : World) : Prop where
  bel : Below N W X
  sz : N ≤ X.heap.size
section
variable {W X Y : World} {N : Nat}
theorem Pz.drew (h : Pz W N X) : Pz W N X.drew := ⟨h.bel.drew, h.sz⟩
theorem Pz.alloc (h : Pz W N X) (o : Obj) : Pz W N (X.alloc o) := ⟨h.bel.alloc h.sz o, by have := h.sz; simp; omega⟩
theorem Pz.below (h : Pz W N X) (hb : Below X.heap.size X Y) : Pz W N Y := ⟨h.bel.trans (hb.mono h.sz), Nat.le_trans h.sz hb.size⟩
theorem Pz.grown (h : Pz W N X) {row : Option Nat} (hg : X.grownBy Y row) (hr : ∀ g, row = some g → N ≤ g) : Pz W N Y := ⟨h.bel.grown hg h.sz hr, Nat.le_trans h.sz hg.size⟩
theorem Pz.ints (h : Pz W N X) {A : Option Addr} {l : List Int} (hi : IntsIn W 0 N A l) : IntsIn X 0 X.heap.size A l := (hi.keep fun _ _ hp => h.bel.cell hp).mono h.sz
/-- The first append: a copy of the list. -/
theorem Pz.copy {ops : Array Oper} {o : Oper} {a : Act} {Q : Exit → Act → World → Prop} {E : Prop} {KK : Act → World → Prop} (h : Pz W N X) (hgd : o.guard = none) (s x : Operand)
    (ho : o.op = .call { callee := .builtin .append, args := #[s, x], argTypes := #[46, 46] }) (g : Nat) (hs : a.eval s = .slice (some ⟨g, 0, none⟩) 0 0) (hg : N ≤ g) (hh : X.heap[g]? = some (.cells #[] 3 (0, 0)))
    (A : Option Addr) (l : List Int) (c : Nat) (hx : a.eval x = .slice A l.length c) (hi : IntsIn W 0 N A l) (hl : l.length ≤ 1048576)
    (hK : ∀ A7 c7 w7, Pz W N w7 → w7.ownsRow N 3 1 (.slice A7 l.length c7) l.length (l.map vint) → KK (a.put o.dst (.slice A7 l.length c7)) w7) :
    if Region.wanted o (yielded ops a.tmps) = true then Oper.wp Try.prog o a X KK Q else E := by
  obtain ⟨i0, hi0, hz0, hz1, hz2⟩ := info_parts Try.infoInt
  have hsz := h.sz
  refine step_append_g X hgd s x 46 ho N 3 i0 (.int .i64 0) 1 8 Try.underlying46 hi0 hz0 hz1 hz2 rfl (by decide) _ 0 [] hs (owns_none hg hh) A l.length c (l.map vint) hx (by simp) (ints_srcG (h.ints hi)) (fun u hu => by simp [vint] at hu; obtain ⟨y, _, rfl⟩ := hu; rfl) (by unfold maxLen; omega) (by omega) hsz ?_
  intro A7 c7 w7 hown hgr
  rw [Nat.zero_add] at hown ⊢
  rw [List.nil_append] at hown
  exact hK A7 c7 w7 (h.grown hgr fun k hk => by simp [Value.ownBlock] at hk; omega) hown
/-- The second append: one more number. -/
theorem Pz.one {ops : Array Oper} {o : Oper} {a : Act} {Q : Exit → Act → World → Prop} {E : Prop} {KK : Act → World → Prop} (h : Pz W N X) (hgd : o.guard = none) (s x : Operand)
    (ho : o.op = .call { callee := .builtin .append, args := #[s, x], argTypes := #[46, 46] }) (A : Option Addr) (l : List Int) (c : Nat) (hs : a.eval s = .slice A l.length c) (hown : X.ownsRow N 3 1 (.slice A l.length c) l.length (l.map vint))
    (g : Nat) (y : Int) (hx : a.eval x = .slice (some ⟨g, 0, none⟩) 1 1) (hg : X.cell? ⟨g, 0, none⟩ = some (.int .i64 y)) (hl : l.length ≤ 1048576)
    (hK : ∀ A7 c7 w7, Pz W N w7 → IntsIn w7 0 w7.heap.size A7 (l ++ [y]) → KK (a.put o.dst (.slice A7 (l.length + 1) c7)) w7) :
    if Region.wanted o (yielded ops a.tmps) = true then Oper.wp Try.prog o a X KK Q else E := by
  obtain ⟨i0, hi0, hz0, hz1, hz2⟩ := info_parts Try.infoInt
  have hsz := h.sz
  refine step_append_g X hgd s x 46 ho N 3 i0 (.int .i64 0) 1 8 Try.underlying46 hi0 hz0 hz1 hz2 rfl (by decide) _ l.length (l.map vint) hs hown (some ⟨g, 0, none⟩) 1 1 [.int .i64 y] hx rfl ⟨fun e => (by cases e), fun ad e j u hu => ?_⟩ (fun u hu => by simp at hu; subst hu; rfl) (by unfold maxLen; omega) (by omega) hsz ?_
  · cases e
    have hj : j = 0 := by
      have := (List.getElem?_eq_some_iff.1 hu).1
      simpa using this
    subst hj
    rw [Addr.add_lit, hg]
    simpa using hu
  · intro A7 c7 w7 hown7 hgr
    refine hK A7 c7 w7 (h.grown hgr fun k hk => (hown.lt k hk).1) ?_
    have hr : w7.ownsRow N 3 1 (.slice A7 (l ++ [y]).length c7) (l ++ [y]).length ((l ++ [y]).map vint) := by simpa [vint] using hown7
    exact ((ints_of_row hr).ints).low (Nat.zero_le _)
theorem row_pz {A : Option Addr} {n c : Nat} {xs : List Value} (h : X.ownsRow N 3 1 (.slice A n c) n xs) (hb : Below X.heap.size X Y) : Y.ownsRow N 3 1 (.slice A n c) n xs :=
  h.kept (grown_of_below hb) (by cases hq : (Value.slice A n c).ownBlock <;> simp)
end

theorem Pz.one2 {W Y : World} {N : Nat} {ops : Array Oper} {o : Oper} {a : Act} {Q : Exit → Act → World → Prop} {E : Prop} {KK : Act → World → Prop} {y : Int} {T : TypeId} (h : Pz W N Y) (hgd : o.guard = none) (s x : Operand)
    (ho : o.op = .call { callee := .builtin .append, args := #[s, x], argTypes := #[46, 46] }) (A : Option Addr) (l : List Int) (c : Nat) (hs : a.eval s = .slice A l.length c) (hown : Y.ownsRow N 3 1 (.slice A l.length c) l.length (l.map vint))
    (hx : a.eval x = .slice (some ⟨Y.heap.size, 0, none⟩) 1 1) (hl : l.length ≤ 1048576)
    (hK : ∀ A7 c7 w7, Pz W N w7 → IntsIn w7 0 w7.heap.size A7 (l ++ [y]) → KK (a.put o.dst (.slice A7 (l.length + 1) c7)) w7) :
    if Region.wanted o (yielded ops a.tmps) = true then Oper.wp Try.prog o a (Y.alloc (.cells #[.int .i64 y] T)) KK Q else E :=
  Pz.one (h.alloc _) hgd s x ho A l c hs (hown.alloc _) Y.heap.size y hx (by simp) hl hK

theorem new_one (w : World) (v : Value) (t : TypeId) : (w.alloc (.cells #[v] t)).cell? ⟨w.heap.size, 0, none⟩ = some v := by simp

set_option maxRecDepth 100000 in
set_option maxHeartbeats 4000000 in
theorem fnCans_any (A : Option Addr) (c : Nat) (code : List UInt8) (w : World) (hA : BytesIn w 0 w.heap.size A code) (hn : code.length ≤ 9223372036854775807) :
    Calls Try.prog 6 #[.slice A code.length c] w fun e w' => e = .returned (.bool true) ∧ Below w.heap.size w w' := by
  have HA := Lib.hid hA
  clear hA
  go_enter Try.func6, Try.ntmps6
  go_wp2_with fail
  refine (drawCan_any A c code w HA.out hn).mono ?_
  rintro e w1 ⟨ts, A1, c1, hv, A2, c2, want, rfl, ⟨hl1, hk1, _⟩, ⟨hvl, _⟩, ⟨hwa, hwb⟩, ht1, hi1, hb1⟩
  obtain ⟨W2, hW2⟩ : ∃ y, y = w1.alloc (.cells #[.slice A1 ts.length c1] 25) := ⟨_, rfl⟩
  have hb2 : Below w1.heap.size w1 W2 := by rw [hW2]; exact (Below.refl _ _).alloc (Nat.le_refl _) _
  have b2 : W2.cell? ⟨w1.heap.size, 0, none⟩ = some (.slice A1 ts.length c1) := by rw [hW2]; simp
  have hz2 : w1.heap.size < W2.heap.size := by rw [hW2]; simp
  have HT2 := Lib.hid (ht1.keep fun p _ hp => hb2.cell hp)
  have HI2 := Lib.hid (hi1.keep fun p _ hp => hb2.cell hp)
  have HB2 := Lib.hid (hb1.trans (hb2.mono hb1.size))
  have hzw := hb1.size
  have hw64 : WfI want := by
    show (decide ((-9223372036854775808 : Int) ≤ want) && decide (want ≤ (9223372036854775807 : Int))) = true
    simp
    omega
  clear ht1 hi1 hb1 hb2
  go_upto_region 2 with fail
  rw [← hW2]
  clear hW2
  have HCan := Lib.hid (fun (X : World) (hX : Below W2.heap.size W2 X) (A3 : Option Addr) (h3 : List Int) (c3 : Nat) (hi : IntsIn X 0 X.heap.size A3 h3) (hl : h3.length ≤ 1000) => implCan_any A1 ts c1 w.heap.size w1.heap.size A3 h3 c3 want X hw64 (HT2.out.keep fun p _ hp => hX.cell (by omega)) (by have := hX.size; omega) (by omega) (by omega) hi (by omega))
  have HSec := Lib.hid (fun (X : World) (hX : Below W2.heap.size W2 X) (A3 : Option Addr) (h3 : List Int) (c3 : Nat) (hi : IntsIn X 0 X.heap.size A3 h3) (hl : h3.length ≤ 1000) => implSecret_any A1 ts c1 w.heap.size w1.heap.size A3 h3 c3 want X (HT2.out.keep fun p _ hp => hX.cell (by omega)) (by have := hX.size; omega) (by omega) (by omega) hi (by omega))
  have HHave := Lib.hid (fun (X : World) (hX : Below W2.heap.size W2 X) => show IntsIn X 0 X.heap.size A2 hv from ((HI2.out.keep fun p _ hp => hX.cell (by omega)).low (Nat.zero_le _)).mono (by have := hX.size; omega))
  go_wp2_with fail
  refine (HCan.out W2 (Below.refl _ _) A2 hv c2 (HHave.out W2 (Below.refl _ _)) (by omega)).mono ?_
  rintro e w3 ⟨rfl, hb3⟩
  have hz3 := hb3.size
  have b3 := (hb3.cell (p := ⟨w1.heap.size, 0, none⟩) hz2).trans b2
  have HB3 := Lib.hid hb3
  obtain ⟨cn, hcn⟩ : ∃ y, y = canV ts hv want := ⟨_, rfl⟩
  rw [← hcn]
  have HCn := Lib.hid hcn
  clear hb3 b2 hcn
  go_wp2_with fail
  refine (implAll_any A1 ts c1 w.heap.size w1.heap.size A2 hv c2 w3 (HT2.out.keep fun p _ hp => HB3.out.cell (by omega)) (by omega) (by omega) (by omega) (HHave.out w3 HB3.out) (by omega)).mono ?_
  rintro e w4 ⟨A4, c4, rfl, hi4, hb4⟩
  have hz4 := hb4.size
  have b4 := (hb4.cell (p := ⟨w1.heap.size, 0, none⟩) (by show w1.heap.size < _; omega)).trans b3
  have HI4 := Lib.hid ((hi4.ints).low (Nat.zero_le _))
  have HB4 := Lib.hid (HB3.out.trans (hb4.mono (by omega)))
  have hal : (allV ts hv).length ≤ 1048576 := by
    unfold allV
    split
    · have := pick_length (cnB ts (endB ts hv)) ts.length; omega
    · simp
  clear hi4 hb4 b3
  go_wp2_with fail
  refine (hasInt_any A4 (allV ts hv) c4 want w4 HI4.out hal).mono ?_
  rintro e w5 ⟨rfl, hb5⟩
  have hz5 := hb5.size
  have b5 := (hb5.cell (p := ⟨w1.heap.size, 0, none⟩) (by show w1.heap.size < _; omega)).trans b4
  have HB5 := Lib.hid (HB4.out.trans (hb5.mono (by omega)))
  obtain ⟨hh, hhe⟩ : ∃ y, y = decide (want ∈ allV ts hv) := ⟨_, rfl⟩
  rw [← hhe]
  have HH := Lib.hid (fun h0 : 0 ≤ want => show hh = cn by rw [hhe, can_all h0, HCn.out])
  clear hb5 b4 hhe HI4 hal
  -- the new list, and what lies behind it, once
  obtain ⟨N, hNe⟩ : ∃ N, N = w5.heap.size := ⟨_, rfl⟩
  have hN2 : W2.heap.size ≤ N := by omega
  have HP5 := Lib.hid (show Pz w5 N w5 from ⟨Below.refl _ _, by omega⟩)
  have HI5 := Lib.hid (show IntsIn w5 0 N A2 hv from by rw [hNe]; exact HHave.out w5 HB5.out)
  have HAt := Lib.hid (fun (X : World) (hX : Pz w5 N X) => show Calls Try.prog 30 #[.slice A code.length c, .int .i64 1] X (fun e w' => ∃ x, e = .returned (.int .i64 x) ∧ 0 ≤ x ∧ Pz w5 N w' ∧ Below X.heap.size X w') from (at_any A code c X ((HA.out.keep fun p _ hp => ((HB2.out.trans ((HB5.out.trans (hX.bel.mono (by omega))).mono (by omega))).cell hp)).mono (by have := hX.sz; omega)) hn).mono (by
    rintro e w' ⟨x, rfl, hx, _, hb⟩
    exact ⟨x, rfl, hx, hX.below hb, hb⟩))
  have HTail := Lib.hid (fun (X : World) (hX : Below W2.heap.size W2 X) => show Calls Try.prog 13 #[] X (fun e w' => e = .returned (.bool true) ∧ Below w.heap.size w w') from (terms_any X).mono (by
    rintro e w' ⟨rfl, hb⟩
    exact ⟨rfl, HB2.out.trans ((hX.trans (hb.mono hX.size)).mono (by omega))⟩))
  have hwr : IntKind.i64.wrap ((ts.length : Int) + 1) = (ts.length : Int) + 1 := by rw [IntKind.wrap_i64]; omega
  have hne : ¬ ((ts.length : Int) + 1 = 0) := by omega
  clear HA HT2 HI2 HHave
  by_cases hq : cn = hh
  case' pos => subst hq
  case' neg =>
    have hneg : want < 0 := by
      rcases Int.lt_or_le want 0 with h | h
      · exact h
      · exact absurd (HH.out h).symm hq
  all_goals
    go_upto_region 5 with fail
    have e5 : w5.cell? ⟨w1.heap.size, 0, none⟩ = some (.slice A1 ts.length c1) := b5
    have e5n := cell_alloc_at (.cells #[] 3) e5
    go_cut [7] from 18 to 40 (fun s7 wx => ∃ A9 c9 y, s7 = .slice A9 (hv.length + 1) c9 ∧ IntsIn wx 0 wx.heap.size A9 (hv ++ [y]) ∧ Below N w5 wx)
    case first =>
      go_region_law
        (first
          | (refine Pz.one2 (W := w5) (N := N) ?_ (by rfl) _ _ (by rfl) A7 hv c7 (by rfl) ?_ (by rfl) (by omega) ?_
             · (first | with_reducible exact HP6.out | with_reducible exact HP7.out)
             · (first | with_reducible exact HR6.out | with_reducible exact HR7.out)
             intro A9 c9 w9 hp9 hi9
             have HP9 := Lib.hid hp9
             have HI9 := Lib.hid hi9
             clear hp9 hi9)
          | (refine Pz.copy (W := w5) (N := N) ?_ (by rfl) _ _ (by rfl) _ (by rfl) ?_ ?_ A2 hv c2 (by rfl) HI5.out (by omega) ?_
             · (repeat first | with_reducible exact HP6.out | with_reducible exact HP5.out | with_reducible apply Pz.drew | with_reducible apply Pz.alloc)
             · first
               | omega
               | (have h6 := HP6.out.sz
                  omega)
             · (repeat first | with_reducible exact heap_new_at _ (by simp) | with_reducible apply heap_drew_at)
             intro A7 c7 w7 hp7 hr7
             have HP7 := Lib.hid hp7
             have HR7 := Lib.hid hr7
             have e7 := (hp7.bel.cell (p := ⟨w1.heap.size, 0, none⟩) (by show w1.heap.size < _; omega)).trans e5
             clear hp7 hr7)
          | (go_simp
             go_at_call 30
             refine (HAt.out _ ?_).mono ?_
             · (repeat first | with_reducible exact HP7.out | with_reducible exact HP5.out | with_reducible apply Pz.drew | with_reducible apply Pz.alloc)
             rintro e w6 ⟨x6, rfl, hx6a, hp6, hb6⟩
             have e6 := (hp6.bel.cell (p := ⟨w1.heap.size, 0, none⟩) (by show w1.heap.size < _; omega)).trans e5
             have e6n := cell_alloc_at (.cells #[] 3) e6
             have HP6 := Lib.hid hp6
             first
             | (have HR6 := Lib.hid (row_pz HR7.out hb6)
                clear hb6 hp6)
             | clear hb6 hp6
             go_wp2_with fail))
      all_goals
        go_wp2_with fail
        go_meet
        case rel => exact ⟨A9, c9, _, rfl, HI9.out, HP9.out.bel⟩
    case rest =>
      obtain ⟨A9, c9, y, rfl, hi9, hb9⟩ := hcut
      have hzc := hb9.size
      have HB9 := Lib.hid (HB5.out.trans (hb9.mono hN2))
      have b9 := (hb9.cell (p := ⟨w1.heap.size, 0, none⟩) (by show w1.heap.size < _; omega)).trans b5
      have hll : (hv ++ [y]).length ≤ 1000 := by simp; omega
      have CC := Lib.hid (by
        have h := HCan.out wc HB9.out A9 (hv ++ [y]) c9 hi9 hll
        rw [List.length_append] at h
        exact h)
      have HMore := Lib.hid (fun h : cn = true => show canV ts (hv ++ [y]) want = true from can_more hll (fun x hx => List.mem_append_left _ hx) (by rw [← HCn.out]; exact h))
      have HI9 := Lib.hid hi9
      clear hi9 hb9 b5 e5 e5n HCan
      cases cn with
      | true =>
        have hm := HMore.out rfl
        have hsec : secretV ts (hv ++ [y]) want = false := by simp [secretV, hm]
        have HM := Lib.hid (And.intro hm hsec)
        clear hm hsec HMore
        go_wp2_with fail
        refine CC.out.mono ?_
        rintro e w10 ⟨rfl, hb10⟩
        rw [HM.out.1]
        have hz10 := hb10.size
        have b10 := (hb10.cell (p := ⟨w1.heap.size, 0, none⟩) (by show w1.heap.size < _; omega)).trans b9
        have HB10 := Lib.hid (HB9.out.trans (hb10.mono (by omega)))
        have CS := Lib.hid (by
          have h := HSec.out w10 HB10.out A9 (hv ++ [y]) c9 ((HI9.out.keep fun p _ hp => hb10.cell hp).mono hb10.size) hll
          rw [List.length_append] at h
          exact h)
        clear hb10 b9 CC
        go_wp2_with fail
        refine CS.out.mono ?_
        rintro e w11 ⟨rfl, hb11⟩
        rw [HM.out.2]
        have HB11 := Lib.hid (HB10.out.trans (hb11.mono (by omega)))
        have CT := Lib.hid (HTail.out w11 HB11.out)
        clear hb11 b10 CS
        go_wp2_with fail
        refine CT.out.mono ?_
        rintro e w12 ⟨rfl, hb12⟩
        have HB12 := Lib.hid hb12
        clear hb12 CT
        go_wp2_with fail
        go_ret
        exact ⟨rfl, HB12.out⟩
      | false =>
        have CS := Lib.hid (by
          have h := HSec.out wc HB9.out A9 (hv ++ [y]) c9 HI9.out hll
          rw [List.length_append] at h
          exact h)
        clear CC
        go_wp2_with fail
        refine CS.out.mono ?_
        rintro e w11 ⟨rfl, hb11⟩
        have HB11 := Lib.hid (HB9.out.trans (hb11.mono (by omega)))
        have CT := Lib.hid (HTail.out w11 HB11.out)
        obtain ⟨sv, hsv⟩ : ∃ sv, sv = secretV ts (hv ++ [y]) want := ⟨_, rfl⟩
        rw [← hsv]
        clear hb11 b9 CS hsv
        cases sv with
        | false =>
          go_wp2_with fail
          refine CT.out.mono ?_
          rintro e w12 ⟨rfl, hb12⟩
          have HB12 := Lib.hid hb12
          clear hb12 CT
          go_wp2_with fail
          go_ret
          exact ⟨rfl, HB12.out⟩
        | true =>
          go_wp2_with fail
          refine CT.out.mono ?_
          rintro e w12 ⟨rfl, hb12⟩
          have HB12 := Lib.hid hb12
          clear hb12 CT
          go_wp2_with fail
          go_ret
          exact ⟨rfl, HB12.out⟩

end Go.Proofs.Ytigkojdchpjkcaa

namespace Go.Proofs.Ytigkojdchpjkcaa
open Go.RowKit Go.Maps

set_option maxRecDepth 100000 in
set_option maxHeartbeats 2000000 in
/-- 'slices.Concat(l, []int{x})' -/
theorem concat_g (g : Nat) (A2 : Option Addr) (hv : List Int) (c2 g3 : Nat) (x : Int) (w : World) (hn : hv.length ≤ 1048576) (h0 : w.cell? ⟨g, 0, none⟩ = some (.slice A2 hv.length c2)) (h1 : w.cell? ⟨g, 1, none⟩ = some (.slice (some ⟨g3, 0, none⟩) 1 1))
    (hi : IntsIn w 0 w.heap.size A2 hv) (hx : w.cell? ⟨g3, 0, none⟩ = some (.int .i64 x)) :
    Calls Try.prog 71 #[.slice (some ⟨g, 0, none⟩) 2 2] w fun e w' => ∃ A c, e = .returned (.slice A (hv ++ [x]).length c) ∧ w'.ownsRow w.heap.size 3 1 (.slice A (hv ++ [x]).length c) (hv ++ [x]).length ((hv ++ [x]).map vint) ∧ Below w.heap.size w w' := by
  have HI := Lib.hid hi
  have hg : g < w.heap.size := World.block_lt_of_cell? w _ h0
  have hg3 : g3 < w.heap.size := World.block_lt_of_cell? w _ hx
  clear hi
  obtain ⟨i0, hi0, hz0, hz1, hz2⟩ := info_parts Try.infoInt
  rcases A2 with _ | a2
  all_goals
    go_enter Try.func71, Try.ntmps71
    go_wp2_with fail
    go_loopw [3, 11] (fun s i wr => wr = w ∧ ((i = .int .i64 0 ∧ s = .int .i64 0) ∨ (i = .int .i64 1 ∧ s = .int .i64 hv.length) ∨ (i = .int .i64 2 ∧ s = .int .i64 ((hv.length : Int) + 1)))) (fun _ i _ => 2 - (intOf i).toNat)
    case atStart => exact ⟨rfl, .inl ⟨rfl, rfl⟩⟩
    case round =>
      obtain ⟨rfl, hrel⟩ := hrel
      rcases hrel with ⟨rfl, rfl⟩ | ⟨rfl, rfl⟩ | ⟨rfl, rfl⟩
      · go_wp2_with fail
        go_roundw
        case rel => exact ⟨by first | rfl | trivial, .inr (.inl ⟨by go_num, by go_num⟩)⟩
        case measure => simp [intOf]
      · go_wp2_with fail
        go_roundw
        case rel => exact ⟨by first | rfl | trivial, .inr (.inr ⟨by go_num, by go_num⟩)⟩
        case measure => simp [intOf]
      · have hgr := growNil_any (hv.length + 1) (by omega) wr
        go_wp2_with fail
        refine hgr.mono ?_
        rintro e w1 ⟨A1, c1, rfl, hr1, hb1⟩
        have HR1 := Lib.hid hr1
        have HB1 := Lib.hid hb1
        clear hgr hr1 hb1
        go_wp2_with fail
        obtain ⟨wo, hwo⟩ : ∃ wo : World, wo = wr := ⟨_, rfl⟩
        subst hwo
        go_loopw [6, 27] (fun s i wr => ∃ (A : Option Addr) (c m : Nat) (xs : List Int), s = .slice A m c ∧ wr.ownsRow wo.heap.size 3 1 (.slice A m c) m (xs.map vint) ∧ Below wo.heap.size wo wr ∧ ((i = .int .i64 0 ∧ m = 0 ∧ xs = []) ∨ (i = .int .i64 1 ∧ m = hv.length ∧ xs = hv) ∨ (i = .int .i64 2 ∧ m = hv.length + 1 ∧ xs = hv ++ [x]))) (fun _ i _ => 2 - (intOf i).toNat)
        case atStart => exact ⟨A1, c1, 0, [], rfl, HR1.out, HB1.out, .inl ⟨rfl, rfl, rfl⟩⟩
        case round =>
          obtain ⟨A, c, m, xs, rfl, hr, hb, hrel⟩ := hrel
          have HB := Lib.hid hb
          have hz := hb.size
          have q0 := (hb.cell (p := ⟨g, 0, none⟩) hg).trans h0
          have q1 := (hb.cell (p := ⟨g, 1, none⟩) hg).trans h1
          have q2 := (hb.cell (p := ⟨g3, 0, none⟩) hg3).trans hx
          have HI2 := Lib.hid ((HI.out.keep fun p _ hp => hb.cell hp).mono hz)
          have HR := Lib.hid hr
          clear hb hr HR1
          rcases hrel with ⟨rfl, rfl, rfl⟩ | ⟨rfl, rfl, rfl⟩ | ⟨rfl, rfl, rfl⟩
          · go_wp2_with (at_builtin; refine wpList_append_g _ rfl _ _ 46 rfl wo.heap.size 3 i0 (.int .i64 0) 1 8 Try.underlying46 hi0 hz0 hz1 hz2 rfl (by decide) _ _ _ rfl HR.out _ hv.length c2 (hv.map vint) rfl ?c1 ?c2 ?c3 ?c4 ?c5 ?c6 ?_)
            case c1 => simp
            case c2 => exact ints_srcG HI2.out
            case c3 => intro u hu; simp [vint] at hu; obtain ⟨y, _, rfl⟩ := hu; rfl
            case c4 => unfold maxLen; omega
            case c5 => omega
            case c6 => omega
            intro A5 c5 w5 hrow5 hgr5
            have HR5 := Lib.hid (show w5.ownsRow wo.heap.size 3 1 (.slice A5 hv.length c5) hv.length (hv.map vint) by simpa using hrow5)
            have HB5 := Lib.hid (HB.out.grown hgr5 hz (fun j hj => (HR.out.lt j hj).1))
            clear hrow5 hgr5
            go_wp2_with fail
            go_roundw
            case rel => exact ⟨A5, c5, hv.length, hv, rfl, HR5.out, HB5.out, .inr (.inl ⟨by go_num, rfl, rfl⟩)⟩
            case measure => simp [intOf]
          · go_wp2_with (at_builtin; refine wpList_append_own_at _ rfl _ _ 46 rfl wo.heap.size 3 i0 (.int .i64 0) 1 8 Try.underlying46 hi0 hz0 hz1 hz2 rfl (by decide) _ _ _ rfl HR.out ⟨g3, 0, none⟩ 1 1 [.int .i64 x] rfl ?c1 ?c2 ?c3 ?c4 ?c5 ?c6 ?_)
            case c1 => simp
            case c2 =>
              intro j u hu
              have hj : j = 0 := by
                have := (List.getElem?_eq_some_iff.1 hu).1
                simpa using this
              subst hj
              rw [Addr.add_lit, q2]
              simpa using hu
            case c3 => intro u hu; simp at hu; subst hu; rfl
            case c4 => unfold maxLen; omega
            case c5 => omega
            case c6 => omega
            intro v' w5 hrow5 hgr5 _ _
            obtain ⟨A5, c5, rfl⟩ := row_shape hrow5
            have HR5 := Lib.hid (show w5.ownsRow wo.heap.size 3 1 (.slice A5 (xs.length + 1) c5) (xs.length + 1) ((xs ++ [x]).map vint) by simpa [vint] using hrow5)
            have HB5 := Lib.hid (HB.out.grown hgr5 hz (fun j hj => (HR.out.lt j hj).1))
            clear hrow5 hgr5
            go_wp2_with fail
            go_roundw
            case rel => exact ⟨A5, c5, xs.length + 1, xs ++ [x], rfl, HR5.out, HB5.out, .inr (.inr ⟨by go_num, rfl, rfl⟩)⟩
            case measure => simp [intOf]
          · go_wp2_with fail
            go_ret
            exact ⟨A, c, by simp, by simpa using HR.out, HB.out⟩

set_option maxRecDepth 100000 in
set_option maxHeartbeats 1000000 in
theorem implGains_g (A : Option Addr) (ts : List Tm) (c L B : Nat) (A2 : Option Addr) (hv : List Int) (c2 : Nat) (want : Int) (w : World) (hA : TmsIn w L B A ts) (hB : B ≤ w.heap.size) (hn : ts.length ≤ 1048576) (hbk : bulk ts ≤ 1048576) (hA2 : IntsIn w 0 w.heap.size A2 hv) (hn2 : hv.length ≤ 1048576) :
    Calls Try.prog 41 #[.agg #[.slice A ts.length c], .slice A2 hv.length c2, .int .i64 want] w (NewIntsFr (gainsV ts hv want) w) := by
  have HA := Lib.hid hA
  have HA2 := Lib.hid hA2
  clear hA hA2
  go_enter Try.func41, Try.ntmps41
  go_wp2_with fail
  have hb0 : Below w.heap.size w (w.alloc (.cells #[.slice A ts.length c] 25)) := (Below.refl _ _).alloc (Nat.le_refl _) _
  refine (readFor_any A ts c L B (hv.length + 1 : Int) _ (HA.out.keep fun p _ hp => hb0.cell (by omega)) (by simp; omega) hn hbk).mono ?_
  rintro e w1 (⟨hok, hle, A1, c1, M1, rfl, hbk1, hb1⟩ | ⟨hno, rfl, hb1⟩)
  · have HV := Lib.hid (show gainsV ts hv want = (pick (cnB ts (endB ts (hv ++ [want]))) ts.length).filter (fun x => !oldB ts hv x) by
      have h1 : lokB ts = true ∧ hv.length < 1000 := ⟨lokB_true hok, by omega⟩
      unfold gainsV
      rw [if_pos h1]
      simp [allV, askB, h1.1, show hv.length + 1 ≤ 1000 by omega])
    have h999 : hv.length < 1000 := by omega
    have hl0 := (hb1.cell (p := ⟨w.heap.size, 0, none⟩) (by simp)).trans (by simp : _ = some (Value.slice A ts.length c))
    have HB1 := Lib.hid (hb0.trans (hb1.mono (by simp)))
    have HOk := Lib.hid hok
    have HBk := Lib.hid hbk1
    have hlen := hok.1
    have hz1 : w.heap.size + 1 ≤ w1.heap.size := by simpa using hb1.size
    clear hb0 hb1 hok hbk1
    go_wp2_with fail
    obtain ⟨W2, hW2⟩ : ∃ x, x = w1.alloc (.cells #[.slice A1 ts.length c1, .map (some M1)] 64) := ⟨_, rfl⟩
    have hb2 : Below w1.heap.size w1 W2 := by rw [hW2]; exact (Below.refl _ _).alloc (Nat.le_refl _) _
    have hx2 : W2.cell? ⟨w1.heap.size, 0, none⟩ = some (.slice A1 ts.length c1) ∧ W2.cell? ⟨w1.heap.size, 1, none⟩ = some (.map (some M1)) := by rw [hW2]; exact ⟨by simp, by simp⟩
    have hz2 : W2.heap.size = w1.heap.size + 1 := by rw [hW2]; simp
    have HX2 := Lib.hid hx2
    have HB2 := Lib.hid (HB1.out.trans (hb2.mono (by omega)))
    have HBk2 := Lib.hid (HBk.out.below hb2)
    have HA22 := Lib.hid ((HA2.out.keep fun p _ hp => HB2.out.cell hp).mono (show w.heap.size ≤ W2.heap.size by omega))
    rw [← hW2]
    clear hW2 hb2 hx2 HBk HA2 hl0
    refine (made_any A1 ts c1 _ _ (some M1) A2 hv c2 W2 HOk.out HBk2.out (by omega) HA22.out hn2).mono ?_
    rintro e w3 ⟨M, v, ms, rfl, hM, hset, hsz, hnd, hmem, hb3⟩
    have HSet := Lib.hid hset
    have HWf := Lib.hid (mem_wf hlen hmem)
    have HOld := Lib.hid (fun (x : Int) (hx : 0 ≤ x ∧ x < ts.length) => show inB ms x = oldB ts hv x by
      rw [Bool.eq_iff_iff, inB, decide_eq_true_eq, hmem]
      unfold oldB
      constructor
      · rintro ⟨j, h1, rfl, h3⟩
        simpa using h3
      · intro h
        exact ⟨x.toNat, by omega, by omega, h⟩)
    have HB3 := Lib.hid (HB2.out.trans (hb3.mono (by omega)))
    have hz3 := hb3.size
    have x0 := (hb3.cell (p := ⟨w1.heap.size, 0, none⟩) (by show w1.heap.size < _; omega)).trans HX2.out.1
    have x1 := (hb3.cell (p := ⟨w1.heap.size, 1, none⟩) (by show w1.heap.size < _; omega)).trans HX2.out.2
    have HBk3 := Lib.hid (HBk2.out.below (hb3.mono (by omega)))
    have HA23 := Lib.hid ((HA22.out.keep fun p _ hp => hb3.cell hp).mono hz3)
    clear hset hnd hmem hb3 HX2 HBk2 HA22
    go_upto_region 5 with fail
    obtain ⟨W4, hW4⟩ : ∃ x, x = w3.alloc (.cells #[.pointer (some ⟨M + 1, 0, none⟩)] 89) := ⟨_, rfl⟩
    have hb4 : Below w3.heap.size w3 W4 := by rw [hW4]; exact (Below.refl _ _).alloc (Nat.le_refl _) _
    have hz4 : W4.heap.size = w3.heap.size + 1 := by rw [hW4]; simp
    have HC4 := Lib.hid (show W4.cell? ⟨w3.heap.size, 0, none⟩ = some (.pointer (some ⟨M + 1, 0, none⟩)) by rw [hW4]; simp)
    have hx4 : W4.cell? ⟨w1.heap.size, 0, none⟩ = some (.slice A1 ts.length c1) ∧ W4.cell? ⟨w1.heap.size, 1, none⟩ = some (.map (some M1)) := ⟨(hb4.cell (p := ⟨w1.heap.size, 0, none⟩) (by show w1.heap.size < _; omega)).trans x0, (hb4.cell (p := ⟨w1.heap.size, 1, none⟩) (by show w1.heap.size < _; omega)).trans x1⟩
    have HX4 := Lib.hid hx4
    have HX4d := Lib.hid (show W4.drew.cell? ⟨w1.heap.size, 0, none⟩ = some (.slice A1 ts.length c1) ∧ W4.drew.cell? ⟨w1.heap.size, 1, none⟩ = some (.map (some M1)) from hx4)
    rw [← hW4]
    have HSet4 := Lib.hid (HSet.out.below hb4)
    have HBk4 := Lib.hid (HBk3.out.below (hb4.mono (by omega)))
    have HA24 := Lib.hid ((HA23.out.keep fun p _ hp => hb4.cell hp).mono hb4.size)
    have HB4 := Lib.hid (HB3.out.trans (hb4.mono (by omega)))
    have HConcat := Lib.hid (fun (W : World) (hW : Below W4.heap.size W4 W) (hz : W.heap.size = W4.heap.size + 2) (q0 : W.cell? ⟨W4.heap.size + 1, 0, none⟩ = some (.slice A2 hv.length c2)) (q1 : W.cell? ⟨W4.heap.size + 1, 1, none⟩ = some (.slice (some ⟨W4.heap.size, 0, none⟩) 1 1)) (q2 : W.cell? ⟨W4.heap.size, 0, none⟩ = some (.int .i64 want)) =>
      show Calls Try.prog 71 #[.slice (some ⟨W4.heap.size + 1, 0, none⟩) 2 2] W (fun e w' => ∃ A c, e = .returned (.slice A (hv.length + 1) c) ∧ (w'.cell? ⟨w1.heap.size, 0, none⟩ = some (.slice A1 ts.length c1) ∧ w'.cell? ⟨w1.heap.size, 1, none⟩ = some (.map (some M1))) ∧
        Hid (Calls Try.prog 62 #[.agg #[.slice A1 ts.length c1, .map (some M1)], .slice A (hv.length + 1) c] w' (fun e wx => ∃ M' v' ms', e = .returned (.pointer (some ⟨M' + 1, 0, none⟩)) ∧ (wx.cell? ⟨w1.heap.size, 0, none⟩ = some (.slice A1 ts.length c1) ∧ wx.cell? ⟨w1.heap.size, 1, none⟩ = some (.map (some M1))) ∧
          Hid (NumSet wx M' (M' + 3) ms' v' ∧ ms'.Nodup ∧ (∀ x, x ∈ ms' ↔ ∃ j : Nat, j < ts.length ∧ x = (j : Int) ∧ cnB ts (endB ts (hv ++ [want])) j = true) ∧ Below W4.heap.size W4 wx)))) from by
      refine (concat_g (W4.heap.size + 1) A2 hv c2 W4.heap.size want W hn2 q0 q1 ((HA24.out.keep fun p _ hp => hW.cell hp).mono hW.size) q2).mono ?_
      rintro e w5 ⟨A5, c5, rfl, hr5, hb5⟩
      have hb45 : Below W4.heap.size W4 w5 := hW.trans (hb5.mono hW.size)
      refine ⟨A5, c5, by simp, ⟨(hb45.cell (p := ⟨w1.heap.size, 0, none⟩) (by show w1.heap.size < _; omega)).trans hx4.1, (hb45.cell (p := ⟨w1.heap.size, 1, none⟩) (by show w1.heap.size < _; omega)).trans hx4.2⟩, Lib.hid ?_⟩
      have hi5 : IntsIn w5 0 w5.heap.size A5 (hv ++ [want]) := by
        have := ints_of_row (base := w.heap.size) (c := c5) (e := 3) (A := A5) (w := w5) (l := hv ++ [want]) (ownsRow_lowF hr5 (by omega))
        exact fun h => let ⟨b, o, e1, h1, h2, h3⟩ := this h; ⟨b, o, e1, Nat.zero_le _, h2, fun j hj => (h3 j hj).1⟩
      have hmk := made_any A1 ts c1 _ _ (some M1) A5 (hv ++ [want]) c5 w5 HOk.out (HBk4.out.below (hb45.mono (by omega))) (by have := hb45.size; omega) hi5 (by simp; omega)
      simp only [List.length_append, List.length_singleton] at hmk
      refine hmk.mono ?_
      rintro e w6 ⟨M', v', ms', rfl, hM', hset', hsz', hnd', hmem', hb6⟩
      have hb46 : Below W4.heap.size W4 w6 := hb45.trans (hb6.mono hb45.size)
      exact ⟨M', v', ms', rfl, ⟨(hb46.cell (p := ⟨w1.heap.size, 0, none⟩) (by show w1.heap.size < _; omega)).trans hx4.1, (hb46.cell (p := ⟨w1.heap.size, 1, none⟩) (by show w1.heap.size < _; omega)).trans hx4.2⟩, Lib.hid ⟨hset', hnd', hmem', hb46⟩⟩)
    have HZ4 := Lib.hid hz4
    clear hW4 hb4 hx4 hz4 x0 x1 HBk3 HA23 HB3 HSet
    go_cut [10] from 24 to 30 (fun s10 wx => ∃ M' v' ms', s10 = .pointer (some ⟨M' + 1, 0, none⟩) ∧ NumSet wx M' (M' + 3) ms' v' ∧ ms'.Nodup ∧ (∀ x, x ∈ ms' ↔ ∃ j : Nat, j < ts.length ∧ x = (j : Int) ∧ cnB ts (endB ts (hv ++ [want])) j = true) ∧ Below W4.heap.size W4 wx)
    case first =>
      go_region_held3 (fun X => X.cell? ⟨w1.heap.size, 0, none⟩ = some (.slice A1 ts.length c1) ∧ X.cell? ⟨w1.heap.size, 1, none⟩ = some (.map (some M1)))
        (first | with_reducible exact HX4d.out | with_reducible exact HX4.out | with_reducible exact HS5.out | with_reducible exact HS6.out | exact ⟨cellN_alloc _ HX4.out.1, cellN_alloc _ HX4.out.2⟩ | exact ⟨cellN_alloc _ (cellN_alloc _ HX4.out.1), cellN_alloc _ (cellN_alloc _ HX4.out.2)⟩)
        (first
          | (go_at_call 71
             refine (HConcat.out _ ?_ ?_ ?_ ?_ ?_).mono ?_
             · exact ((Below.refl _ _).drew.alloc (Nat.le_refl _) _).alloc (by simp) _
             · simp
             · simp
             · simp
             · simp
             rintro e w5 ⟨A5, c5, rfl, hs5, HMk⟩
             have HS5 := Lib.hid hs5
             clear HConcat hs5)
          | (go_at_call 62
             refine HMk.out.mono ?_
             rintro e w6 ⟨M', v', ms', rfl, hs6, HN6⟩
             have HS6 := Lib.hid hs6
             clear HMk hs6))
      all_goals
        go_wp2_with fail
        go_meet
        case rel => exact ⟨M', v', ms', rfl, HN6.out⟩
    case rest =>
      obtain ⟨M', v', ms', rfl, hset', hnd', hmem', hb'⟩ := hcut
      have hml' : ms'.length ≤ ts.length := nodup_length hnd' (mem_range hmem')
      have hzc := hb'.size
      have HSetc := Lib.hid (HSet4.out.below hb')
      have HC4c := Lib.hid ((hb'.cell (p := ⟨w3.heap.size, 0, none⟩) (by have := HZ4.out; show w3.heap.size < _; omega)).trans HC4.out)
      have HBc := Lib.hid (HB4.out.trans (hb'.mono (by have := HB4.out.size; omega)))
      have HSet' := Lib.hid hset'
      have hz34 : w3.heap.size < W4.heap.size := by have := HZ4.out; omega
      have HCh := Lib.hid (show Calls Try.prog 64 #[.func (.func 83) #[] #[.pointer (some ⟨wc.heap.size, 0, none⟩)], .func (.func 72) #[] #[.pointer (some ⟨w3.heap.size, 0, none⟩)]] (wc.alloc (.cells #[.pointer (some ⟨M' + 1, 0, none⟩)] 89)) (NewIntsFr (gainsV ts hv want) w) from by
        have hb5 : Below wc.heap.size wc (wc.alloc (.cells #[.pointer (some ⟨M' + 1, 0, none⟩)] 89)) := (Below.refl _ _).alloc (Nat.le_refl _) _
        refine (chosen_any 83 #[.pointer (some ⟨wc.heap.size, 0, none⟩)] _ ms' (each1_seq 8 wc.heap.size (M' + 1) ms'.length (by omega) (by omega)) (enters_of Try.func83 (by kernel_rfl) rfl) (by omega) _ (fun W hW => ⟨(hW.cell (p := ⟨wc.heap.size, 0, none⟩) (by simp)).trans (by simp), ((HSet'.out.below hb5).below hW).mem⟩)
          72 #[] #[.pointer (some ⟨w3.heap.size, 0, none⟩)] (fun x => !oldB ts hv x) (enters_of Try.func72 (by kernel_rfl) rfl) (fun x hx W hW => ?_)).mono ?_
        · have hb : Below wc.heap.size wc W := hb5.trans (hW.mono (by simp))
          have hxr := mem_range hmem' x hx
          refine (gains1_any M (M + 3) ms v w3.heap.size x W (wfI_of (by omega) (by omega)) ((hb.cell (p := ⟨w3.heap.size, 0, none⟩) (by show w3.heap.size < _; omega)).trans HC4c.out) (HSetc.out.below hb) HWf.out).mono ?_
          rintro e w' ⟨rfl, hb9⟩
          rw [HOld.out x ⟨hxr.1, by omega⟩]
          exact ⟨rfl, hb9⟩
        · rintro e w7 ⟨A7, c7, rfl, hr7, hb7⟩
          have e1 : sortV (ms'.filter (fun x => !oldB ts hv x)) = gainsV ts hv want := by rw [HV.out, sort_filter hnd', sort_pick hnd' hmem']
          have e2 : (ms'.filter (fun x => !oldB ts hv x)).length = (gainsV ts hv want).length := by rw [← e1, sortV_length]
          rw [e2, e1] at hr7
          rw [e2]
          exact ⟨A7, c7, rfl, ints_of_row (base := w.heap.size) (c := c7) (e := 3) (ownsRow_lowF hr7 (by have := HBc.out.size; simp; omega)), HBc.out.trans ((hb5.trans (hb7.mono (by simp))).mono (by have := HBc.out.size; omega))⟩)
      have HEach := Lib.hid each_any
      clear hset' hnd' hmem' hb' hzc hz34 HSetc HC4c HBc HSet' HSet4 HBk4 HA24 HB4 HConcat HC4 HX4 HX4d
      go_wp2_with fail
      refine (HEach.out _ _).mono ?_
      rintro e w4 ⟨rfl, rfl⟩
      go_wp2_with fail
      refine HCh.out.mono ?_
      rintro e w5 hn5
      obtain ⟨A5, c5, rfl, hi5, hb5⟩ := hn5
      have HR := Lib.hid (show NewIntsFr (gainsV ts hv want) w (.returned (.slice A5 (gainsV ts hv want).length c5)) w5 from ⟨A5, c5, rfl, hi5, hb5⟩)
      clear hi5 hb5 HCh
      go_wp2_with fail
      go_ret
      exact HR.out
  · have HV := Lib.hid (show gainsV ts hv want = [] by
      unfold gainsV
      rw [if_neg]
      intro h
      exact hno ⟨lok_of h.1, by omega⟩)
    have HB1 := Lib.hid (hb0.trans (hb1.mono (by simp)))
    clear hb0 hb1 hno
    go_wp2_with fail
    go_ret
    rw [HV.out]
    exact .nil (HB1.out.alloc HB1.out.size _)

end Go.Proofs.Ytigkojdchpjkcaa

namespace Go.Proofs.Ytigkojdchpjkcaa
open Go.RowKit Go.Maps

section
variable {W X Y : World} {N : Nat}
theorem Pz.copyL {ops : Array Oper} {rest : List Oper} {o : Oper} {a : Act} {Q : Exit → Act → World → Prop} (h : Pz W N X) (hgd : o.guard = none) (s x : Operand)
    (ho : o.op = .call { callee := .builtin .append, args := #[s, x], argTypes := #[46, 46] }) (g : Nat) (hs : a.eval s = .slice (some ⟨g, 0, none⟩) 0 0) (hg : N ≤ g) (hh : X.heap[g]? = some (.cells #[] 3 (0, 0)))
    (A : Option Addr) (l : List Int) (c : Nat) (hx : a.eval x = .slice A l.length c) (hi : IntsIn W 0 N A l) (hl : l.length ≤ 1048576)
    (hK : ∀ A7 c7 w7, Pz W N w7 → w7.ownsRow N 3 1 (.slice A7 l.length c7) l.length (l.map vint) → wpList Try.prog ops Q rest (a.put o.dst (.slice A7 l.length c7)) w7) :
    wpList Try.prog ops Q (o :: rest) a X := by
  obtain ⟨i0, hi0, hz0, hz1, hz2⟩ := info_parts Try.infoInt
  have hsz := h.sz
  refine wpList_append_g X hgd s x 46 ho N 3 i0 (.int .i64 0) 1 8 Try.underlying46 hi0 hz0 hz1 hz2 rfl (by decide) _ 0 [] hs (owns_none hg hh) A l.length c (l.map vint) hx (by simp) (ints_srcG (h.ints hi)) (fun u hu => by simp [vint] at hu; obtain ⟨y, _, rfl⟩ := hu; rfl) (by unfold maxLen; omega) (by omega) hsz ?_
  intro A7 c7 w7 hown hgr
  rw [Nat.zero_add] at hown ⊢
  rw [List.nil_append] at hown
  exact hK A7 c7 w7 (h.grown hgr fun k hk => by simp [Value.ownBlock] at hk; omega) hown
theorem Pz.oneL {ops : Array Oper} {rest : List Oper} {o : Oper} {a : Act} {Q : Exit → Act → World → Prop} {y : Int} {T : TypeId} (h : Pz W N Y) (hgd : o.guard = none) (s x : Operand)
    (ho : o.op = .call { callee := .builtin .append, args := #[s, x], argTypes := #[46, 46] }) (A : Option Addr) (l : List Int) (c : Nat) (hs : a.eval s = .slice A l.length c) (hown : Y.ownsRow N 3 1 (.slice A l.length c) l.length (l.map vint))
    (hx : a.eval x = .slice (some ⟨Y.heap.size, 0, none⟩) 1 1) (hl : l.length ≤ 1048576)
    (hK : ∀ A7 c7 w7, Pz W N w7 → IntsIn w7 0 w7.heap.size A7 (l ++ [y]) → wpList Try.prog ops Q rest (a.put o.dst (.slice A7 (l.length + 1) c7)) w7) :
    wpList Try.prog ops Q (o :: rest) a (Y.alloc (.cells #[.int .i64 y] T)) := by
  obtain ⟨i0, hi0, hz0, hz1, hz2⟩ := info_parts Try.infoInt
  have hsz := h.sz
  refine wpList_append_g (Y.alloc (.cells #[.int .i64 y] T)) hgd s x 46 ho N 3 i0 (.int .i64 0) 1 8 Try.underlying46 hi0 hz0 hz1 hz2 rfl (by decide) _ l.length (l.map vint) hs (hown.alloc _) (some ⟨Y.heap.size, 0, none⟩) 1 1 [.int .i64 y] hx rfl ⟨fun e => (by cases e), fun ad e j u hu => ?_⟩ (fun u hu => by simp at hu; subst hu; rfl) (by unfold maxLen; omega) (by omega) (by simp; omega) ?_
  · cases e
    have hj : j = 0 := by
      have := (List.getElem?_eq_some_iff.1 hu).1
      simpa using this
    subst hj
    rw [Addr.add_lit]
    simpa using hu
  · intro A7 c7 w7 hown7 hgr
    refine hK A7 c7 w7 ((h.alloc _).grown hgr fun k hk => (hown.lt k hk).1) ?_
    have hr : w7.ownsRow N 3 1 (.slice A7 (l ++ [y]).length c7) (l ++ [y]).length ((l ++ [y]).map vint) := by simpa [vint] using hown7
    exact ((ints_of_row hr).ints).low (Nat.zero_le _)
end

theorem can_iff {ts : List Tm} {hv : List Int} (hlk : lokB ts = true) (hn : hv.length ≤ 1000) {x : Int} (hx : 0 ≤ x ∧ x < ts.length) : canV ts hv x = cnB ts (endB ts hv) x.toNat := by
  simp [canV, askB, hlk, hn, hasB, hx.1, hx.2]
theorem all_mem {ts : List Tm} {hv : List Int} {x : Int} (h : x ∈ allV ts hv) : lokB ts = true ∧ (0 ≤ x ∧ x < ts.length) ∧ canV ts hv x = true := by
  have hx : 0 ≤ x ∧ x < ts.length := by
    unfold allV at h
    split at h
    · exact pick_range h
    · simp at h
  refine ⟨?_, hx, by rw [← can_all hx.1]; simpa using h⟩
  unfold allV askB at h
  split at h
  · rename_i hk
    simp only [Bool.and_eq_true] at hk
    exact hk.1
  · simp at h
theorem gains_mem {ts : List Tm} {hv : List Int} {id x : Int} (hn : hv.length < 1000) (h : x ∈ gainsV ts hv id) : (0 ≤ x ∧ x < ts.length) ∧ canV ts hv x = false ∧ canV ts (hv ++ [id]) x = true := by
  unfold gainsV at h
  split at h
  · rename_i hk
    obtain ⟨h1, h2⟩ := List.mem_filter.1 h
    obtain ⟨hl, hx, hc⟩ := all_mem h1
    refine ⟨hx, ?_, hc⟩
    rw [can_iff hl (by omega) hx]
    simpa [oldB] using h2
  · simp at h
theorem gains_len (ts : List Tm) (hv : List Int) (id : Int) : (gainsV ts hv id).length ≤ ts.length := by
  unfold gainsV
  split
  · refine Nat.le_trans (List.length_filter_le _ _) ?_
    unfold allV
    split
    · exact pick_length _ _
    · simp
  · simp
theorem leaks_len (ts : List Tm) (hv : List Int) : (leaksV ts hv).length ≤ ts.length := by
  unfold leaksV
  refine Nat.le_trans (List.length_filter_le _ _) ?_
  unfold allV
  split
  · exact pick_length _ _
  · simp
theorem leaks_mem {ts : List Tm} {hv : List Int} {x : Int} (h : x ∈ leaksV ts hv) : (0 ≤ x ∧ x < ts.length) ∧ canV ts hv x = true ∧ (tmAt ts x.toNat).kind ≤ 1 := by
  unfold leaksV at h
  obtain ⟨h1, h2⟩ := List.mem_filter.1 h
  obtain ⟨_, hx, hc⟩ := all_mem h1
  exact ⟨hx, hc, by simpa [lowB] using h2⟩
theorem secret_gain {ts : List Tm} {hv : List Int} {id : Int} (hn : hv.length < 1000) (h : secretV ts hv id = true) : id ∈ gainsV ts hv id := by
  unfold secretV askB at h
  simp only [Bool.and_eq_true, decide_eq_true_eq, Bool.not_eq_true'] at h
  obtain ⟨⟨hl, _⟩, hb, hc⟩ := h
  have hx := (hasB_iff _ _).1 hb
  rw [can_iff hl (by omega) hx] at hc
  unfold gainsV
  rw [if_pos ⟨hl, hn⟩, List.mem_filter]
  refine ⟨?_, by simp [oldB, hc]⟩
  have hd : decide (id ∈ allV ts (hv ++ [id])) = true := by
    rw [can_all hx.1, can_iff hl (by simp; omega) hx, cnB_iff]
    refine .had ?_
    unfold endB
    rw [opB_iff]
    refine .had ?_
    simp only [haveB, Bool.and_eq_true, decide_eq_true_eq, List.contains_iff_mem]
    exact ⟨by omega, by rw [Int.toNat_of_nonneg hx.1]; simp⟩
  simpa using hd

set_option maxRecDepth 100000 in
set_option maxHeartbeats 4000000 in
theorem fnGains_any (A : Option Addr) (c : Nat) (code : List UInt8) (w : World) (hA : BytesIn w 0 w.heap.size A code) (hn : code.length ≤ 9223372036854775807) :
    Calls Try.prog 10 #[.slice A code.length c] w fun e w' => e = .returned (.bool true) ∧ Below w.heap.size w w' := by
  have HA := Lib.hid hA
  clear hA
  go_enter Try.func10, Try.ntmps10
  go_wp2_with fail
  refine (drawGains_any A c code w HA.out hn).mono ?_
  rintro e w1 ⟨ts, A1, c1, hv, A2, c2, want, rfl, ⟨hl1, hk1, _⟩, ⟨hvl, _⟩, ⟨hwa, hwb⟩, ht1, hi1, hb1⟩
  obtain ⟨W2, hW2⟩ : ∃ y, y = w1.alloc (.cells #[.slice A1 ts.length c1] 25) := ⟨_, rfl⟩
  have hb2 : Below w1.heap.size w1 W2 := by rw [hW2]; exact (Below.refl _ _).alloc (Nat.le_refl _) _
  have b2 : W2.cell? ⟨w1.heap.size, 0, none⟩ = some (.slice A1 ts.length c1) := by rw [hW2]; simp
  have hz2 : w1.heap.size < W2.heap.size := by rw [hW2]; simp
  have HT2 := Lib.hid (ht1.keep fun p _ hp => hb2.cell hp)
  have HI2 := Lib.hid (hi1.keep fun p _ hp => hb2.cell hp)
  have HB2 := Lib.hid (hb1.trans (hb2.mono hb1.size))
  have hzw := hb1.size
  have hw64 : WfI want := by
    show (decide ((-9223372036854775808 : Int) ≤ want) && decide (want ≤ (9223372036854775807 : Int))) = true
    simp
    omega
  clear ht1 hi1 hb1 hb2
  go_upto_region 2 with fail
  rw [← hW2]
  clear hW2
  have HCan := Lib.hid (fun (X : World) (hX : Below W2.heap.size W2 X) (A3 : Option Addr) (h3 : List Int) (c3 : Nat) (x : Int) (hx : 0 ≤ x ∧ x < ts.length) (hi : IntsIn X 0 X.heap.size A3 h3) (hl : h3.length ≤ 1000) => implCan_any A1 ts c1 w.heap.size w1.heap.size A3 h3 c3 x X (wfI_of hx.1 (by omega)) (HT2.out.keep fun p _ hp => hX.cell (by omega)) (by have := hX.size; omega) (by omega) (by omega) hi (by omega))
  have HHave := Lib.hid (fun (X : World) (hX : Below W2.heap.size W2 X) => show IntsIn X 0 X.heap.size A2 hv from ((HI2.out.keep fun p _ hp => hX.cell (by omega)).low (Nat.zero_le _)).mono (by have := hX.size; omega))
  go_wp2_with fail
  refine (implGains_g A1 ts c1 w.heap.size w1.heap.size A2 hv c2 want W2 HT2.out (by omega) (by omega) (by omega) (HHave.out W2 (Below.refl _ _)) (by omega)).mono ?_
  rintro e w3 ⟨A3, c3, rfl, hi3, hb3⟩
  have hz3 := hb3.size
  have b3 := (hb3.cell (p := ⟨w1.heap.size, 0, none⟩) hz2).trans b2
  have HB3 := Lib.hid hb3
  obtain ⟨gs, hgs⟩ : ∃ y, y = gainsV ts hv want := ⟨_, rfl⟩
  rw [← hgs] at hi3 ⊢
  have hgl : gs.length ≤ 1048576 := by rw [hgs]; have := gains_len ts hv want; omega
  have HG := Lib.hid (fun (x : Int) (hx : x ∈ gs) => gains_mem (ts := ts) (hv := hv) (id := want) (by omega) (by rw [← hgs]; exact hx))
  have HSG := Lib.hid (fun (h : secretV ts hv want = true) => show want ∈ gs by rw [hgs]; exact secret_gain (by omega) h)
  obtain ⟨N, hNe⟩ : ∃ N, N = w3.heap.size := ⟨_, rfl⟩
  have hN2 : W2.heap.size ≤ N := by omega
  have HP3 := Lib.hid (show Pz w3 N w3 from ⟨Below.refl _ _, by omega⟩)
  have HIh := Lib.hid (show IntsIn w3 0 N A2 hv from by rw [hNe]; exact HHave.out w3 HB3.out)
  have HI3 := Lib.hid (show IntsIn w3 0 N A3 gs from by rw [hNe]; exact (hi3.ints).low (Nat.zero_le _))
  have hNle : N ≤ w3.heap.size := by omega
  have hNge : w3.heap.size ≤ N := by omega
  clear hi3 hb3 b2 hgs hNe
  go_upto_region 3 with fail
  go_wp2_with (at_builtin; refine Pz.copyL (W := w3) (N := N) (HP3.out.alloc _) rfl _ _ rfl w3.heap.size rfl (by omega) (heap_alloc_new _ _) A2 hv c2 rfl HIh.out (by omega) ?_)
  intro A7 c7 w7 hp7 hr7
  have HP7 := Lib.hid hp7
  have HR7 := Lib.hid hr7
  clear hp7 hr7
  go_wp2_with (at_builtin; refine Pz.oneL (W := w3) (N := N) HP7.out rfl _ _ rfl A7 hv c7 rfl HR7.out rfl (by omega) ?_)
  intro A8 c8 w8 hp8 hi8
  have hz8 := hp8.sz
  have HP8 := Lib.hid hp8
  have HI8 := Lib.hid hi8
  have b8 := (hp8.bel.cell (p := ⟨w1.heap.size, 0, none⟩) (by show w1.heap.size < _; omega)).trans b3
  have HB8 := Lib.hid (show Below W2.heap.size W2 w8 from HB3.out.trans (hp8.bel.mono hN2))
  have hll : (hv ++ [want]).length ≤ 1000 := by simp; omega
  clear hp8 hi8 b3
  go_wp2_with fail
  go_loopw [8] (fun i wr => ∃ k : Nat, k ≤ gs.length ∧ i = .int .i64 k ∧ Below w8.heap.size w8 wr) (fun i _ => gs.length - (intOf i).toNat)
  case atStart => exact ⟨0, Nat.zero_le _, rfl, Below.refl _ _⟩
  case round =>
    obtain ⟨k, hk, rfl, hbr⟩ := hrel
    have HBr := Lib.hid hbr
    have hzr := hbr.size
    have br := (hbr.cell (p := ⟨w1.heap.size, 0, none⟩) (by show w1.heap.size < _; omega)).trans b8
    clear hbr b8
    by_cases hlt : k < gs.length
    · obtain ⟨b, o, rfl, _, hb, hc⟩ := HI3.out (by omega)
      have hc0 := (HBr.out.cell (p := ⟨b, o + k, none⟩) (by show b < _; omega)).trans ((HP8.out.bel.cell (p := ⟨b, o + k, none⟩) hb).trans (hc k hlt))
      have hg := HG.out gs[k] (List.getElem_mem hlt)
      have HC := Lib.hid (show Calls Try.prog 29 #[.agg #[.slice A1 ts.length c1], .slice A2 hv.length c2, .int .i64 gs[k]] wr.drew (fun e w' => e = .returned (.bool false) ∧ (w'.cell? ⟨w1.heap.size, 0, none⟩ = some (.slice A1 ts.length c1) ∧ w'.cell? ⟨b, o + k, none⟩ = some (.int .i64 gs[k])) ∧
          Hid (Calls Try.prog 29 #[.agg #[.slice A1 ts.length c1], .slice A8 (hv.length + 1) c8, .int .i64 gs[k]] w' (fun e w'' => e = .returned (.bool true) ∧ Below w8.heap.size w8 w''))) from by
        refine (HCan.out wr.drew ((HB8.out.trans (HBr.out.mono (by omega))).drew) A2 hv c2 gs[k] hg.1 (HHave.out wr.drew ((HB8.out.trans (HBr.out.mono (by omega))).drew)) (by omega)).mono ?_
        rintro e w' ⟨rfl, hb'⟩
        have hb2' : Below w8.heap.size w8 w' := HBr.out.drew.trans (hb'.mono hzr)
        rw [hg.2.1]
        refine ⟨rfl, ⟨(hb'.cell (p := ⟨w1.heap.size, 0, none⟩) (by show w1.heap.size < wr.heap.size; omega)).trans br, (hb'.cell (p := ⟨b, o + k, none⟩) (by show b < wr.heap.size; omega)).trans hc0⟩, Lib.hid ?_⟩
        have hcc := HCan.out w' (HB8.out.trans (hb2'.mono (by omega))) A8 (hv ++ [want]) c8 gs[k] hg.1 ((HI8.out.keep fun p _ hp => hb2'.cell hp).mono hb2'.size) hll
        rw [List.length_append] at hcc
        refine hcc.mono ?_
        rintro e w'' ⟨rfl, hb''⟩
        rw [hg.2.2]
        exact ⟨rfl, hb2'.trans (hb''.mono hb2'.size)⟩)
      clear hc hg
      go_upto_region 7 with fail
      go_region_law
        (first
          | (go_simp
             go_at_call 29
             refine HC.out.mono ?_
             rintro e w6 ⟨rfl, ⟨e6, f6⟩, HC2⟩
             clear HC
             go_wp2_with fail)
          | (go_simp
             go_at_call 29
             refine HC2.out.mono ?_
             rintro e w9 ⟨rfl, hb9⟩
             have HB9 := Lib.hid hb9
             clear hb9 HC2
             go_wp2_with fail))
      all_goals
        go_wp2_with fail
        go_roundw
        case rel => exact ⟨k + 1, by omega, by go_num, HB9.out⟩
        case measure => simp [intOf]; omega
    · have HB9 := Lib.hid (HB8.out.trans (HBr.out.mono (by omega)))
      have HP9 := Lib.hid (HP8.out.below HBr.out)
      clear HI8 HBr
      go_wp2_with fail
      refine (implLeaks_any A1 ts c1 w.heap.size w1.heap.size A2 hv c2 wr (HT2.out.keep fun p _ hp => HB9.out.cell (by omega)) (by omega) (by omega) (by omega) (HHave.out wr HB9.out) (by omega)).mono ?_
      rintro e w10 ⟨A10, c10, rfl, hi10, hb10⟩
      have hz10 := hb10.size
      have b10 := (hb10.cell (p := ⟨w1.heap.size, 0, none⟩) (by show w1.heap.size < _; omega)).trans br
      obtain ⟨xs, hxs⟩ : ∃ y, y = leaksV ts hv := ⟨_, rfl⟩
      rw [← hxs] at hi10 ⊢
      have hxl : xs.length ≤ 1048576 := by rw [hxs]; have := leaks_len ts hv; omega
      have HX := Lib.hid (fun (x : Int) (hx : x ∈ xs) => leaks_mem (ts := ts) (hv := hv) (by rw [← hxs]; exact hx))
      have HI10 := Lib.hid ((hi10.ints).low (Nat.zero_le _))
      have HB10 := Lib.hid (HB9.out.trans (hb10.mono (by omega)))
      have HP10 := Lib.hid (HP9.out.below hb10)
      clear hi10 hb10 br hxs
      go_wp2_with fail
      go_loopw [10] (fun i wq => ∃ k : Nat, k ≤ xs.length ∧ i = .int .i64 k ∧ Below w10.heap.size w10 wq) (fun i _ => xs.length - (intOf i).toNat)
      case atStart => exact ⟨0, Nat.zero_le _, rfl, Below.refl _ _⟩
      case round =>
        obtain ⟨k2, hk2, rfl, hbq⟩ := hrel
        have HBq := Lib.hid hbq
        have hzq := hbq.size
        have bq := (hbq.cell (p := ⟨w1.heap.size, 0, none⟩) (by show w1.heap.size < _; omega)).trans b10
        have HBW := Lib.hid (HB10.out.trans (hbq.mono (by omega)))
        clear hbq b10
        by_cases hlt2 : k2 < xs.length
        · obtain ⟨b, o, rfl, _, hb, hc⟩ := HI10.out (by omega)
          have hx := HX.out xs[k2] (List.getElem_mem hlt2)
          obtain ⟨j, hj⟩ := Int.eq_ofNat_of_zero_le hx.1.1
          have hc0 := (HBq.out.cell (p := ⟨b, o + k2, none⟩) (by show b < _; omega)).trans (hc k2 hlt2)
          rw [hj] at hc0 hx
          have hjl : j < ts.length := by have := hx.1.2; omega
          obtain ⟨bt, ot, rfl, _, hbt, hct⟩ := HT2.out (by omega)
          have hkc := (HBW.out.cell (p := ⟨bt, ot + j * 4, none⟩) (by show bt < _; omega)).trans (hct j hjl).choose_spec.choose_spec.1
          obtain ⟨kd, hkd⟩ : ∃ y, y = ts[j].kind := ⟨_, rfl⟩
          have hk1 : ¬ (1 < kd) := by
            have h := hx.2.2
            rw [show ((j : Int)).toNat = j by simp, tmAt_nat ts j hjl, ← hkd] at h
            omega
          rw [← hkd] at hkc
          have hj0 : ¬ ((j : Int) < 0) := by omega
          have hj1 : ¬ ((ts.length : Int) ≤ (j : Int)) := by omega
          have HC := Lib.hid (fun (x : Kp wr) => show Calls Try.prog 29 #[.agg #[.slice (some ⟨bt, ot, none⟩) ts.length c1], .slice A2 hv.length c2, .int .i64 j] x.val (fun e w' => e = .returned (.bool true) ∧ Below x.val.heap.size x.val w') from by
            have hX := HBW.out.trans (x.ok.mono (show W2.heap.size ≤ wr.heap.size by omega))
            refine (HCan.out x.val hX A2 hv c2 j hx.1 (HHave.out x.val hX) (by omega)).mono ?_
            rintro e w' ⟨rfl, hb'⟩
            rw [hx.2.1]
            exact ⟨rfl, hb'⟩)
          have q0 : ∀ x : Kp wr, x.val.cell? ⟨w1.heap.size, 0, none⟩ = some (.slice (some ⟨bt, ot, none⟩) ts.length c1) := fun x => x.cell bq
          have q1 : ∀ x : Kp wr, x.val.cell? ⟨b, o + k2, none⟩ = some (.int .i64 j) := fun x => x.cell hc0
          have q2 : ∀ x : Kp wr, x.val.cell? ⟨bt, ot + j * 4, none⟩ = some (.int .i64 kd) := fun x => x.cell hkc
          clear hc hx hct hkd hj hkc hc0
          go_upto_region 13 with fail
          refine wp_region_kept (by kernel_rfl) (by kernel_rfl) ?_
          repeat (go_big_quiet_step ((go_at_call 29; refine kept_of (v := .bool true) (HC.out _))))
          refine wpQuiet_nil ?_
          rintro _ ⟨x, rfl⟩
          have HB6 := Lib.hid (HBq.out.trans (x.ok.mono hzq))
          clear q0 q1 q2 HC
          go_wp2_with fail
          go_roundw
          case rel => exact ⟨k2 + 1, by omega, by go_num, HB6.out⟩
          case measure => simp [intOf]; omega
        · have HPr := Lib.hid (HP10.out.below (HBq.out))
          have HSec := Lib.hid (implSecret_any A1 ts c1 w.heap.size w1.heap.size A2 hv c2 want wr (HT2.out.keep fun p _ hp => HBW.out.cell (by omega)) (by omega) (by omega) (by omega) (HHave.out wr HBW.out) (by omega))
          clear HBq HI10 HX
          go_wp2_with fail
          refine HSec.out.mono ?_
          rintro e w11 ⟨rfl, hb11⟩
          have hz11 := hb11.size
          obtain ⟨sv, hsv⟩ : ∃ y, y = secretV ts hv want := ⟨_, rfl⟩
          rw [← hsv]
          have HSG2 := Lib.hid (fun h : sv = true => HSG.out (by rw [← hsv]; exact h))
          have HB11 := Lib.hid (HBW.out.trans (hb11.mono (by omega)))
          have HP11 := Lib.hid (HPr.out.below hb11)
          clear hb11 hsv HSG HSec bq
          cases sv with
          | false =>
            have CT := Lib.hid (terms_any w11)
            go_wp2_with fail
            refine CT.out.mono ?_
            rintro e w12 ⟨rfl, hb12⟩
            have HF := Lib.hid (HB2.out.trans ((HB11.out.trans (hb12.mono (by omega))).mono (by omega)))
            clear hb12 CT
            go_wp2_with fail
            go_ret
            exact ⟨rfl, HF.out⟩
          | true =>
            have hm := HSG2.out rfl
            have CH := Lib.hid (hasInt_any A3 gs c3 want w11 (HP11.out.ints HI3.out) hgl)
            clear HSG2
            go_wp2_with fail
            refine CH.out.mono ?_
            rintro e w12 ⟨rfl, hb12⟩
            rw [show decide (want ∈ gs) = true by simp [hm]]
            have hz12 := hb12.size
            have HB12 := Lib.hid (HB11.out.trans (hb12.mono (by omega)))
            have CT := Lib.hid (terms_any w12)
            clear hb12 CH hm
            go_wp2_with fail
            refine CT.out.mono ?_
            rintro e w13 ⟨rfl, hb13⟩
            have HF := Lib.hid (HB2.out.trans ((HB12.out.trans (hb13.mono (by omega))).mono (by omega)))
            clear hb13 CT
            go_wp2_with fail
            go_ret
            exact ⟨rfl, HF.out⟩

end Go.Proofs.Ytigkojdchpjkcaa
