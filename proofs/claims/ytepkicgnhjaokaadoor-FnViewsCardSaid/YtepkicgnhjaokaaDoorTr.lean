/-
  What a tree looks like in memory: a list of numbers, and a list of entries.
-/
import Derived.Test.YtepkicgnhjaokaaDoorFlat
import Derived.Test.YtepkicgnhjaokaaDoorSz
import Derived.Test.YtepkicgnhjaokaaDoorBx
namespace Go.Proofs.YtepkicgnhjaokaaDoor
open Go.RowKit Go.Maps

/-- An entry as plain data. -/
structure En where
  name : List UInt8
  val : Int
  dev : Int
  num : Int
deriving DecidableEq, Inhabited

/-- Four cells from o on in block b hold the entry e. -/
def EnIn (w : World) (L B : Nat) (b o : Nat) (e : En) : Prop :=
  ∃ A c, w.cell? ⟨b, o, none⟩ = some (.slice A e.name.length c) ∧ w.cell? ⟨b, o + 1, none⟩ = some (.int .i64 e.val) ∧ w.cell? ⟨b, o + 2, none⟩ = some (.int .i64 e.dev) ∧
    w.cell? ⟨b, o + 3, none⟩ = some (.int .i64 e.num) ∧ BytesIn w L B A e.name

/-- The slice address A (of es.length entries) holds the entries es. -/
def EnsIn (w : World) (L B : Nat) (A : Option Addr) (es : List En) : Prop :=
  0 < es.length → ∃ b o, A = some ⟨b, o, none⟩ ∧ L ≤ b ∧ b < B ∧ ∀ i (hi : i < es.length), EnIn w L B b (o + i * 4) es[i]

section
variable {w w' : World} {L L' B B' : Nat} {A : Option Addr} {es : List En}
theorem EnIn.keep {b o : Nat} {e : En} (h : EnIn w L B b o e) (hL : L ≤ b) (hb : b < B) (hk : ∀ p : Addr, L ≤ p.block → p.block < B → w'.cell? p = w.cell? p) : EnIn w' L B b o e := by
  obtain ⟨A, c, h0, h1, h2, h3, h4⟩ := h
  exact ⟨A, c, (hk _ hL hb).trans h0, (hk _ hL hb).trans h1, (hk _ hL hb).trans h2, (hk _ hL hb).trans h3, h4.keep hk⟩
theorem EnIn.mono {b o : Nat} {e : En} (h : EnIn w L B b o e) (hB : B ≤ B') : EnIn w L B' b o e := by
  obtain ⟨A, c, h0, h1, h2, h3, h4⟩ := h
  exact ⟨A, c, h0, h1, h2, h3, h4.mono hB⟩
theorem EnIn.low {b o : Nat} {e : En} (h : EnIn w L B b o e) (hL : L' ≤ L) : EnIn w L' B b o e := by
  obtain ⟨A, c, h0, h1, h2, h3, h4⟩ := h
  exact ⟨A, c, h0, h1, h2, h3, h4.low hL⟩
theorem EnsIn.keep (h : EnsIn w L B A es) (hk : ∀ p : Addr, L ≤ p.block → p.block < B → w'.cell? p = w.cell? p) : EnsIn w' L B A es := fun hl => by
  obtain ⟨b, o, e, hL, hb, hc⟩ := h hl
  exact ⟨b, o, e, hL, hb, fun i hi => (hc i hi).keep hL hb hk⟩
theorem EnsIn.mono (h : EnsIn w L B A es) (hB : B ≤ B') : EnsIn w L B' A es := fun hl => by
  obtain ⟨b, o, e, hL, hb, hc⟩ := h hl
  exact ⟨b, o, e, hL, by omega, fun i hi => (hc i hi).mono hB⟩
theorem EnsIn.low (h : EnsIn w L B A es) (hL : L' ≤ L) : EnsIn w L' B A es := fun hl => by
  obtain ⟨b, o, e, hL', hb, hc⟩ := h hl
  exact ⟨b, o, e, by omega, hb, fun i hi => (hc i hi).low hL⟩
theorem EnsIn.below (h : EnsIn w L B A es) (hb : Below B w w') : EnsIn w' L B A es := h.keep fun _ _ hp => hb.cell hp
theorem EnsIn.up (h : EnsIn w L w.heap.size A es) (hb : Below w.heap.size w w') : EnsIn w' L w'.heap.size A es := (h.below hb).mono hb.size
end

/-- All bytes of the names of these entries. -/
def ebulk : List En → Nat
  | [] => 0
  | e :: es => e.name.length + ebulk es
theorem ebulk_append (xs ys : List En) : ebulk (xs ++ ys) = ebulk xs + ebulk ys := by
  induction xs with
  | nil => simp [ebulk]
  | cons x xs ih => simp [ebulk, ih]; omega
theorem ebulk_take_succ (es : List En) (k : Nat) (h : k < es.length) : ebulk (es.take (k + 1)) = ebulk (es.take k) + es[k].name.length := by
  rw [List.take_succ_eq_append_getElem h, ebulk_append]
  simp [ebulk]
theorem ebulk_take_le (es : List En) (k : Nat) : ebulk (es.take k) ≤ ebulk es := by
  have h := ebulk_append (es.take k) (es.drop k)
  rw [List.take_append_drop] at h
  omega
theorem name_le_ebulk (es : List En) (k : Nat) (h : k < es.length) : es[k].name.length ≤ ebulk es := by
  have := ebulk_take_succ es k h
  have := ebulk_take_le es (k + 1)
  omega

/-! The law's reckoning of sizes. -/

set_option maxHeartbeats 400000 in
theorem szIntS_any (A : Option Addr) (n c : Nat) (left : Int) (w : World) (hn : n ≤ 9223372036854775807) (h0 : 0 ≤ left) (h1 : left ≤ 1048576) :
    Calls Tryd.prog 57 #[.slice A n c, .int .i64 left] w fun e w' => e = .returned (.int .i64 (szB left n)) ∧ w = w' := by
  go_enter Tryd.func57, Tryd.ntmps57
  go_wp2
  all_goals go_ret
  · exact ⟨by simp [szB, *], rfl⟩
  · exact ⟨by simp [szB]; omega, rfl⟩

set_option maxHeartbeats 400000 in
theorem szEntry_any (v d m : Int) (A : Option Addr) (n c : Nat) (left : Int) (w : World) (hn : n ≤ 9223372036854775807) (h0 : 0 ≤ left) (h1 : left ≤ 1048576) :
    Calls Tryd.prog 92 #[.agg #[.slice A n c, .int .i64 v, .int .i64 d, .int .i64 m], .int .i64 left] w fun e w' => ∃ r : Int, e = .returned (.int .i64 r) ∧ SzOk left n r ∧ Below w.heap.size w w' := by
  go_enter Tryd.func92, Tryd.ntmps92
  have HS := Lib.hid (szB_ok left n)
  go_wp2_with (go_at_call 109; refine (szByteS_any _ _ _ _ _ hn h0 h1).mono ?_; rintro e w' ⟨rfl, rfl⟩)
  all_goals go_ret
  · have hneg : szB left n < 0 := by assumption
    exact ⟨-1, rfl, HS.out.neg hneg ▸ HS.out, (Below.refl _ _).alloc (Nat.le_refl _) _⟩
  · exact ⟨_, rfl, HS.out, (Below.refl _ _).alloc (Nat.le_refl _) _⟩

set_option maxHeartbeats 1000000 in
theorem szEntryS_any (A : Option Addr) (es : List En) (c : Nat) (left : Int) (w : World) (hA : EnsIn w 0 w.heap.size A es) (hn : es.length ≤ 9223372036854775807) (hbn : ∀ i (hi : i < es.length), es[i].name.length ≤ 9223372036854775807) (h0 : 0 ≤ left) (h1 : left ≤ 1048576) :
    Calls Tryd.prog 58 #[.slice A es.length c, .int .i64 left] w fun e w' => ∃ r : Int, e = .returned (.int .i64 r) ∧ SzOk left (es.length + ebulk es) r ∧ Below w.heap.size w w' := by
  go_enter Tryd.func58, Tryd.ntmps58
  by_cases hl : left - es.length < 0
  · go_wp2
    go_ret
    exact ⟨-1, rfl, .inl rfl, Below.refl _ _⟩
  · have hl' : 0 ≤ left - es.length := by omega
    have HBn := Lib.hid hbn
    clear hl hbn
    go_wp2
    go_loopw [1, 4, 5] (fun l _ i wr => ∃ (k : Nat) (r : Int), k ≤ es.length ∧ i = .int .i64 k ∧ l = .int .i64 r ∧ 0 ≤ r ∧ r + es.length + ebulk (es.take k) = left ∧ Below w.heap.size w wr) (fun _ _ i _ => es.length - (intOf i).toNat)
    case atStart => exact ⟨0, _, Nat.zero_le _, rfl, rfl, hl', by simp [ebulk], Below.refl _ _⟩
    case round =>
      obtain ⟨k, r, hk, rfl, rfl, hr, hsum, hbel⟩ := hrel
      have HSum := Lib.hid hsum
      have HBel := Lib.hid hbel
      have hrl : r ≤ 1048576 := by omega
      clear hsum hbel
      by_cases hlt : k < es.length
      · obtain ⟨b, o, rfl, hL, hb, hc⟩ := hA (by omega)
        obtain ⟨A', c', c0, c1, c2, c3, _⟩ := (hc k hlt).keep hL hb (fun p _ hp => HBel.out.cell hp)
        have hnl := HBn.out k hlt
        have HTs := Lib.hid (ebulk_take_succ es k hlt)
        have HTl := Lib.hid (ebulk_take_le es (k + 1))
        clear hc
        go_wp2_with fail
        refine (szEntry_any _ _ _ _ _ _ _ _ hnl hr hrl).mono ?_
        rintro e w1 ⟨r1, rfl, hsz, hb1⟩
        have HSz := Lib.hid hsz
        have HB1 := Lib.hid (HBel.out.trans (hb1.mono HBel.out.size))
        clear hsz hb1 c0 c1 c2 c3
        by_cases hr1 : r1 < 0
        · go_wp2_with fail
          go_ret
          refine ⟨-1, rfl, .inl rfl, HB1.out⟩
        · have hr1' : 0 ≤ r1 := by omega
          go_wp2_with fail
          go_roundw
          case rel =>
            refine ⟨k + 1, r1, by omega, by go_num, rfl, hr1', ?_, HB1.out⟩
            have := HSz.out
            have := HSum.out
            unfold SzOk at *
            rw [HTs.out]
            omega
          case measure => simp [intOf]; omega
      · have hke : k = es.length := by omega
        have HR := Lib.hid (show SzOk left (es.length + ebulk es) r by
          have := HSum.out
          rw [hke, List.take_length] at this
          exact .inr ⟨hr, by omega⟩)
        go_wp2_with fail
        go_ret
        exact ⟨r, rfl, HR.out, HBel.out⟩

set_option maxHeartbeats 1000000 in
theorem szTree_any (AV : Option Addr) (vec : List Int) (cv : Nat) (A : Option Addr) (es : List En) (c : Nat) (left : Int) (w : World) (hA : EnsIn w 0 w.heap.size A es) (hv : vec.length ≤ 9223372036854775807) (hn : es.length ≤ 9223372036854775807) (hbn : ∀ i (hi : i < es.length), es[i].name.length ≤ 9223372036854775807) (h0 : 0 ≤ left) (h1 : left ≤ 1048576) :
    Calls Tryd.prog 23 #[.agg #[.slice AV vec.length cv, .slice A es.length c], .int .i64 left] w fun e w' => ∃ r : Int, e = .returned (.int .i64 r) ∧ SzOk left (vec.length + (es.length + ebulk es)) r ∧ Below w.heap.size w w' := by
  have HA := Lib.hid hA
  have HBn := Lib.hid hbn
  clear hA hbn
  go_enter Tryd.func23, Tryd.ntmps23
  have HS := Lib.hid (szB_ok left vec.length)
  obtain ⟨r0, hr0⟩ : ∃ r0, r0 = szB left vec.length := ⟨_, rfl⟩
  rw [← hr0] at HS
  have HR0 := Lib.hid hr0
  go_wp2_with fail
  refine (szIntS_any _ _ _ _ _ hv h0 h1).mono ?_
  rw [← HR0.out]
  rintro e w' ⟨rfl, rfl⟩
  clear hr0 HR0
  have hb0 : Below w.heap.size w (w.alloc (.cells #[.slice AV vec.length cv, .slice A es.length c] 52)) := (Below.refl _ _).alloc (Nat.le_refl _) _
  have HB0 := Lib.hid hb0
  by_cases hneg : r0 < 0
  · have HN := Lib.hid (show SzOk left (vec.length + (es.length + ebulk es)) (-1) from .inl rfl)
    go_wp2_with fail
    go_ret
    exact ⟨-1, rfl, HN.out, HB0.out⟩
  · have hr0' : 0 ≤ r0 := by omega
    have hr1' : r0 ≤ 1048576 := by have := HS.out; unfold SzOk at this; omega
    clear hb0
    go_wp2_with fail
    refine (szEntryS_any A es c r0 _ (HA.out.up HB0.out) hn HBn.out hr0' hr1').mono ?_
    rintro e w1 ⟨r1, rfl, hsz, hb1⟩
    have HB1 := Lib.hid (HB0.out.trans (hb1.mono (by simp)))
    have HSz := Lib.hid hsz
    clear hsz hb1
    by_cases hneg1 : r1 < 0
    · have HN := Lib.hid (show SzOk left (vec.length + (es.length + ebulk es)) (-1) from .inl rfl)
      go_wp2_with fail
      go_ret
      exact ⟨-1, rfl, HN.out, HB1.out⟩
    · have HN := Lib.hid (show SzOk left (vec.length + (es.length + ebulk es)) r1 by
        have := HS.out
        have := HSz.out
        unfold SzOk at *
        omega)
      go_wp2_with fail
      go_ret
      exact ⟨r1, rfl, HN.out, HB1.out⟩

/-! The law's comparisons. -/

set_option maxHeartbeats 1000000 in
theorem eqEntry_same (v d m : Int) (A A' : Option Addr) (l : List UInt8) (c c' L L' B B' : Nat) (w : World) (hA : BytesIn w L B A l) (hA' : BytesIn w L' B' A' l) (hB : B ≤ w.heap.size) (hB' : B' ≤ w.heap.size) (hn : l.length ≤ 1048576) :
    Calls Tryd.prog 95 #[.agg #[.slice A l.length c, .int .i64 v, .int .i64 d, .int .i64 m], .agg #[.slice A' l.length c', .int .i64 v, .int .i64 d, .int .i64 m]] w fun e w' => e = .returned (.bool true) ∧ Below w.heap.size w w' := by
  have HA := Lib.hid hA
  have HA' := Lib.hid hA'
  clear hA hA'
  go_enter Tryd.func95, Tryd.ntmps95
  go_wp2_with fail
  obtain ⟨W0, hW0⟩ : ∃ W0, W0 = w.alloc (.cells #[.slice A l.length c, .int .i64 v, .int .i64 d, .int .i64 m] 49) := ⟨_, rfl⟩
  obtain ⟨W, hW⟩ : ∃ W, W = W0.alloc (.cells #[.slice A' l.length c', .int .i64 v, .int .i64 d, .int .i64 m] 49) := ⟨_, rfl⟩
  have hz0 : W0.heap.size = w.heap.size + 1 := by rw [hW0]; simp
  have hz : W.heap.size = w.heap.size + 2 := by rw [hW]; simp [hz0]
  have hX : Bx W w.heap.size [.slice A l.length c, .int .i64 v, .int .i64 d, .int .i64 m] := by rw [hW]; exact Bx.alloc (by rw [hW0]; exact Bx.new' _ _ _ _ rfl) (by omega) _
  have hY : Bx W (w.heap.size + 1) [.slice A' l.length c', .int .i64 v, .int .i64 d, .int .i64 m] := by rw [hW, ← hz0]; exact Bx.new' _ _ _ _ rfl
  have HBel := Lib.hid (show Below w.heap.size w W by rw [hW, hW0]; exact ((Below.refl _ _).alloc (Nat.le_refl _) _).alloc (by simp) _)
  rw [← hW0, ← hW]
  have hzW : w.heap.size + 1 < W.heap.size := by omega
  clear hW hW0 hz0 hz
  refine (eqByteS_same _ _ _ _ _ L L' B B' _ ?h1 ?h2 hn).mono ?_
  case h1 => exact HA.out.keep fun p _ hp => HBel.out.cell (by omega)
  case h2 => exact HA'.out.keep fun p _ hp => HBel.out.cell (by omega)
  rintro e w1 ⟨rfl, hb⟩
  obtain ⟨_, x1, x2, x3⟩ := (hX.below hb (by omega)).four
  obtain ⟨_, y1, y2, y3⟩ := (hY.below hb (by omega)).four
  have HB := Lib.hid (HBel.out.trans (hb.mono (by omega)))
  have e1 : (v != v) = false := by simp
  have e2 : (d != d) = false := by simp
  have e3 : (m != m) = false := by simp
  clear hb hX hY
  go_wp2_with fail
  go_ret
  exact ⟨rfl, HB.out⟩

set_option maxRecDepth 100000 in
set_option maxHeartbeats 1000000 in
theorem eqEntryS_same (A A' : Option Addr) (es : List En) (c c' L L' B B' : Nat) (w : World) (hA : EnsIn w L B A es) (hA' : EnsIn w L' B' A' es) (hB : B ≤ w.heap.size) (hB' : B' ≤ w.heap.size) (hn : es.length ≤ 1048576) (hbk : ebulk es ≤ 1048576) :
    Calls Tryd.prog 64 #[.slice A es.length c, .slice A' es.length c'] w fun e w' => e = .returned (.bool true) ∧ Below w.heap.size w w' := by
  go_enter Tryd.func64, Tryd.ntmps64
  go_wp2
  go_loopw [5] (fun i wr => ∃ k : Nat, k ≤ es.length ∧ i = .int .i64 k ∧ Below w.heap.size w wr) (fun i _ => es.length - (intOf i).toNat)
  case atStart => exact ⟨0, Nat.zero_le _, rfl, Below.refl _ _⟩
  case round =>
    obtain ⟨k, hk, rfl, hbel⟩ := hrel
    have HBel := Lib.hid hbel
    by_cases hlt : k < es.length
    · obtain ⟨b, o, rfl, _, hb, hc⟩ := hA (by omega)
      obtain ⟨b', o', rfl, _, hb', hc'⟩ := hA' (by omega)
      obtain ⟨A1, c1, x0, x1, x2, x3, hby⟩ := (hc k hlt).keep (by assumption) hb (fun p _ hp => hbel.cell (by omega))
      obtain ⟨A2, c2, y0, y1, y2, y3, hby'⟩ := (hc' k hlt).keep (by assumption) hb' (fun p _ hp => hbel.cell (by omega))
      have HY := Lib.hid hby
      have HY' := Lib.hid hby'
      have hle := name_le_ebulk es k hlt
      have hz := hbel.size
      clear hc hc' hA hA' hbel hby hby'
      go_wp2
      go_still_tail 8, (by kernel_rfl)
      change wpList _ _ _ _ _ wr.drew
      go_wp2_with fail
      refine (eqEntry_same _ _ _ _ _ _ _ _ L L' B B' _ HY.out.drew HY'.out.drew (Nat.le_trans hB hz) (Nat.le_trans hB' hz) (by omega)).mono ?_
      rintro e w1 ⟨rfl, hb1⟩
      have HB := Lib.hid (HBel.out.drew.trans (hb1.mono hz))
      clear hb1 x0 x1 x2 x3 y0 y1 y2 y3
      go_wp2
      go_roundw
      case rel => exact ⟨k + 1, by omega, by go_num, HB.out⟩
      case measure => simp [intOf]; omega
    · go_wp2
      go_ret
      exact ⟨rfl, hbel⟩

end Go.Proofs.YtepkicgnhjaokaaDoor
