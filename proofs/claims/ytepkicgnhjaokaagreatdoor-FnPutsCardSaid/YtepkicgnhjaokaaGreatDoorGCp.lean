/-
  Several texts in one: Bss, Those, Named, NamedS, Writers, ValueOf, NmsI, Fvp, Tk, Fcp.
-/
import Derived.Test.YtepkicgnhjaokaaGreatDoorTrM
import Derived.Test.YtepkicgnhjaokaaGreatDoorRdTr
import Derived.Test.YtepkicgnhjaokaaGreatDoorGCmp
import Derived.Test.YtepkicgnhjaokaaGreatDoorNamesI
import Derived.Test.YtepkicgnhjaokaaGreatDoorOut
import Derived.Test.YtepkicgnhjaokaaGreatDoorGVwA
import Derived.Test.YtepkicgnhjaokaaGreatDoorGTx
import Derived.Lib.ItoaNum
import Derived.Test.YtepkicgnhjaokaaGreatDoorGTd
namespace Go.Proofs.YtepkicgnhjaokaaGreatDoor
open Go.RowKit Go.Maps

/-- All bytes of these names. -/
def bsum : List (List UInt8) → Nat
  | [] => 0
  | l :: ls => l.length + bsum ls
theorem bsum_append (xs ys : List (List UInt8)) : bsum (xs ++ ys) = bsum xs + bsum ys := by
  induction xs with
  | nil => simp [bsum]
  | cons x xs ih => simp [bsum, ih]; omega
theorem bsum_succ (ls : List (List UInt8)) (k : Nat) (h : k < ls.length) : bsum (ls.take (k + 1)) = bsum (ls.take k) + ls[k].length := by
  rw [List.take_succ_eq_append_getElem h, bsum_append]
  simp [bsum]
theorem bsum_le (ls : List (List UInt8)) (k : Nat) : bsum (ls.take k) ≤ bsum ls := by
  have h := bsum_append (ls.take k) (ls.drop k)
  rw [List.take_append_drop] at h
  omega
theorem len_le_bsum (ls : List (List UInt8)) (k : Nat) (h : k < ls.length) : ls[k].length ≤ bsum ls := by
  have := bsum_succ ls k h
  have := bsum_le ls (k + 1)
  omega

/-- The i-th name of the row in block R; it lies at the head of block g. -/
structure BsCell (w : World) (R i g c : Nat) (l : List UInt8) : Prop where
  c0 : w.cell? ⟨R, i, none⟩ = some (.slice (some ⟨g, 0, none⟩) l.length c)
  nm : BytesFr w g (g + 1) (some ⟨g, 0, none⟩) l

theorem BsCell.keep {w w' : World} {R i g c : Nat} {l : List UInt8} (h : BsCell w R i g c l) (hR : ∀ o, w'.cell? ⟨R, o, none⟩ = w.cell? ⟨R, o, none⟩) (hg : ∀ o, w'.cell? ⟨g, o, none⟩ = w.cell? ⟨g, o, none⟩ ∧ w'.frozen? ⟨g, o, none⟩ = w.frozen? ⟨g, o, none⟩) : BsCell w' R i g c l where
  c0 := (hR _).trans h.c0
  nm hl := by
    obtain ⟨b, o, e, hL, hb, hc⟩ := h.nm hl
    cases e
    exact ⟨_, _, rfl, hL, hb, fun j hj => ⟨(hg _).1.trans (hc j hj).1, (hg _).2.trans (hc j hj).2⟩⟩

/-- A list of names that was made. -/
def BssOwn (w : World) (L B : Nat) (A : Option Addr) (ls : List (List UInt8)) : Prop :=
  0 < ls.length → ∃ (R : Nat) (g c : Nat → Nat), A = some ⟨R, 0, none⟩ ∧ Lay L B R ls.length g ∧ ∀ i (hi : i < ls.length), BsCell w R i (g i) (c i) ls[i]

section
variable {w w' : World} {L L' B B' : Nat} {A : Option Addr} {ls : List (List UInt8)}
theorem BssOwn.keep (h : BssOwn w L B A ls) (hk : ∀ p : Addr, L ≤ p.block → p.block < B → w'.cell? p = w.cell? p ∧ w'.frozen? p = w.frozen? p) : BssOwn w' L B A ls := fun hl => by
  obtain ⟨R, g, c, e, hlay, hc⟩ := h hl
  exact ⟨R, g, c, e, hlay, fun i hi => (hc i hi).keep (fun o => (hk _ hlay.low hlay.up).1) (fun o => hk _ (hlay.at_ i hi).1 (hlay.at_ i hi).2.1)⟩
theorem BssOwn.mono (h : BssOwn w L B A ls) (hL : L' ≤ L) (hB : B ≤ B') : BssOwn w L' B' A ls := fun hl => by
  obtain ⟨R, g, c, e, hlay, hc⟩ := h hl
  exact ⟨R, g, c, e, hlay.mono hL hB, hc⟩
theorem BssOwn.nil : BssOwn w L B A [] := fun h => absurd h (by simp)
end

/-- The i-th name of the row in block R, written over from k on. -/
structure BmCell (w : World) (R i g c n : Nat) (k : Int) : Prop where
  c0 : w.cell? ⟨R, i, none⟩ = some (.slice (some ⟨g, 0, none⟩) n c)
  nm : MkFr w g (g + 1) (some ⟨g, 0, none⟩) k n

/-- A list of names, written over from k on. -/
def BssMk (w : World) (L B : Nat) (A : Option Addr) (ls : List (List UInt8)) (k : Int) : Prop :=
  0 < ls.length → ∃ (R : Nat) (g c : Nat → Nat), A = some ⟨R, 0, none⟩ ∧ Lay L B R ls.length g ∧ ∀ i (hi : i < ls.length), BmCell w R i (g i) (c i) ls[i].length (k + (bsum (ls.take i) : Nat))

theorem BssMk.keep {w w' : World} {L B : Nat} {A : Option Addr} {ls : List (List UInt8)} {k : Int} (h : BssMk w L B A ls k) (hk : ∀ p : Addr, L ≤ p.block → p.block < B → w'.cell? p = w.cell? p ∧ w'.frozen? p = w.frozen? p) : BssMk w' L B A ls k := fun hl => by
  obtain ⟨R, g, c, e, hlay, hc⟩ := h hl
  refine ⟨R, g, c, e, hlay, fun i hi => ?_⟩
  have hx := hc i hi
  have hg := hlay.at_ i hi
  exact ⟨(hk _ hlay.low hlay.up).1.trans hx.c0, hx.nm.keep fun p hp hq => hk p (by omega) (by omega)⟩

end Go.Proofs.YtepkicgnhjaokaaGreatDoor

namespace Go.Proofs.YtepkicgnhjaokaaGreatDoor
open Go.RowKit Go.Maps

set_option maxRecDepth 100000 in
set_option maxHeartbeats 1000000 in
theorem named1_any (e : En) (p : Nat) (Ab : Option Addr) (l : List UInt8) (cb : Nat) (w : World) (hp : w.cell? ⟨p, 0, none⟩ = some (.slice Ab l.length cb)) (hB : BytesIn w 0 w.heap.size Ab l) :
    Calls Tryz.prog 82 #[ev e, .pointer (some ⟨p, 0, none⟩)] w fun r w' => r = .returned (.bool (e.name == l)) ∧ Below w.heap.size w w' := by
  have HB := Lib.hid hB
  have hps := World.block_lt_of_cell? w _ hp
  have HP := Lib.hid hp
  obtain ⟨n1, v1, d1, m1⟩ := e
  unfold ev
  simp only
  clear hB hp
  go_enter Tryz.func82, Tryz.ntmps82
  obtain ⟨W, hW⟩ : ∃ W, W = w.alloc (.cells #[.string ⟨n1.toArray⟩, .int .i64 v1, .int .i64 d1, .int .i64 m1] 74) := ⟨_, rfl⟩
  have hz : w.heap.size < W.heap.size := by rw [hW]; simp
  have HBel := Lib.hid (show Below w.heap.size w W by rw [hW]; exact (Below.refl _ _).alloc (Nat.le_refl _) _)
  have k1 := run_str (w := W) (((HB.out.keep fun p _ hp => HBel.out.cell hp).mono (by omega)) : BytesIn W 0 W.heap.size Ab l) cb
  have p0 := (HBel.out.cell (p := ⟨p, 0, none⟩) hps).trans HP.out
  have x0 : W.cell? ⟨w.heap.size, 0, none⟩ = some (.string ⟨n1.toArray⟩) := by rw [hW]; simp
  rw [hW] at k1 p0 x0
  go_wp2_with fail
  go_ret
  rw [hW] at HBel
  exact ⟨ret_bool (a := n1 == l) rfl, HBel.out⟩

/-- Those by that name. -/
def ofName (l : List UInt8) (es : List En) : List En := es.filter fun e => e.name == l
theorem ofName_succ (l : List UInt8) (es : List En) (k : Nat) (hk : k < es.length) : ofName l (es.take (k + 1)) = ofName l (es.take k) ++ (if es[k].name == l then [es[k]] else []) := by
  unfold ofName
  rw [List.take_succ_eq_append_getElem hk, List.filter_append]
  congr 1
  simp only [List.filter_cons, List.filter_nil]
theorem ofName_le (l : List UInt8) (es : List En) : (ofName l es).length ≤ es.length := List.length_filter_le _ _

set_option maxRecDepth 100000 in
set_option maxHeartbeats 4000000 in
theorem those_named (a b c d : Int) (A : Option Addr) (es : List En) (cap : Nat) (p : Nat) (Ab : Option Addr) (l : List UInt8) (cb : Nat) (w : World) (hA : EvsIn w 0 w.heap.size A es) (hn : es.length ≤ 12) (hp : w.cell? ⟨p, 0, none⟩ = some (.slice Ab l.length cb)) (hB : BytesIn w 0 w.heap.size Ab l) :
    Calls Tryz.prog 64 #[.agg #[.int .i64 a, .int .i64 b, .int .i64 c, .int .i64 d, .slice A es.length cap], .func (.func 82) #[] #[.pointer (some ⟨p, 0, none⟩)]] w
      fun r w' => ∃ A' c', r = .returned (.slice A' (ofName l es).length c') ∧ EvsIn w' w.heap.size w'.heap.size A' (ofName l es) ∧ Below w.heap.size w w' := by
  have HA := Lib.hid hA
  have HB := Lib.hid hB
  have hps := World.block_lt_of_cell? w _ hp
  have hps' : p < w.heap.size := hps
  have HP := Lib.hid hp
  clear hA hB hp hps
  go_enter Tryz.func64, Tryz.ntmps64
  go_wp2_with fail
  obtain ⟨W, hW⟩ : ∃ W, W = w.alloc (.cells #[.int .i64 a, .int .i64 b, .int .i64 c, .int .i64 d, .slice A es.length cap] 66) := ⟨_, rfl⟩
  have HBel := Lib.hid (show Below w.heap.size w W by rw [hW]; exact (Below.refl _ _).alloc (Nat.le_refl _) _)
  have hzW : w.heap.size < W.heap.size := by rw [hW]; simp
  rw [← hW]
  clear hW
  go_loopw [5, 11] (fun x i wr => ∃ (k : Nat) (A' : Option Addr) (c' : Nat), k ≤ es.length ∧ i = .int .i64 k ∧ x = .slice A' (ofName l (es.take k)).length c' ∧ wr.ownsRow W.heap.size 74 4 (.slice A' (ofName l (es.take k)).length c') (ofName l (es.take k)).length ((ofName l (es.take k)).flatMap encE) ∧ Below W.heap.size W wr ∧ W.heap.size ≤ wr.heap.size) (fun _ i _ => es.length - (intOf i).toNat)
  case atStart => exact ⟨0, none, 0, Nat.zero_le _, rfl, rfl, World.ownsRow_nil _ _ _ _, Below.refl _ _, Nat.le_refl _⟩
  case round =>
    obtain ⟨k, A', c', hk, rfl, rfl, hown, hbel, hzr⟩ := hrel
    have HOwn := Lib.hid hown
    have HBr := Lib.hid hbel
    have HOr := Lib.hid (show Below w.heap.size w wr from HBel.out.trans (hbel.mono (by omega)))
    clear hown hbel
    by_cases hlt : k < es.length
    · obtain ⟨bA, oA, hAe, _, hbA, hcA⟩ := HA.out (by omega)
      obtain ⟨c0, c1, c2, c3⟩ := (hcA k hlt).keep (w' := wr) fun o => HOr.out.cell hbA
      obtain ⟨e, he⟩ : ∃ e, e = es[k] := ⟨_, rfl⟩
      rw [← he] at c0 c1 c2 c3
      have HS := Lib.hid (ofName_succ l es k hlt)
      rw [← he] at HS
      have hkl : (ofName l (es.take k)).length ≤ k := Nat.le_trans (ofName_le _ _) (by simp; omega)
      obtain ⟨F, hF⟩ : ∃ F, F = ofName l (es.take k) := ⟨_, rfl⟩
      rw [← hF] at HS hkl HOwn ⊢
      subst hAe
      clear hcA he hF
      obtain ⟨n1, v1, d1, m1⟩ := e
      simp only at c0 c1 c2 c3
      have hnd := fun W hp hB => named1_any ⟨n1, v1, d1, m1⟩ p Ab l cb W hp hB
      unfold ev at hnd
      simp only at hnd
      have HNd := Lib.hid hnd
      clear hnd
      have hlt' : (k : Int) < (es.length : Int) := by omega
      go_wp2_with fail
      obtain ⟨W7, hW7⟩ : ∃ W7, W7 = wr.alloc (.cells #[.string ⟨n1.toArray⟩, .int .i64 v1, .int .i64 d1, .int .i64 m1] 74) := ⟨_, rfl⟩
      have HZ7 := Lib.hid (show Bx W7 wr.heap.size [.string ⟨n1.toArray⟩, .int .i64 v1, .int .i64 d1, .int .i64 m1] by rw [hW7]; exact Bx.new' _ _ _ _ rfl)
      have HB7 := Lib.hid (show Below wr.heap.size wr W7 by rw [hW7]; exact (Below.refl _ _).alloc (Nat.le_refl _) _)
      have hz7 : wr.heap.size < W7.heap.size := by rw [hW7]; simp
      rw [← hW7]
      clear hW7 c0 c1 c2 c3
      have HO7 := Lib.hid (show Below w.heap.size w W7 from HOr.out.trans (HB7.out.mono (by omega)))
      refine (HNd.out W7 ((HO7.out.cell (p := ⟨p, 0, none⟩) hps').trans HP.out) ((HB.out.keep fun p _ hp => HO7.out.cell hp).mono (by omega))).mono ?_
      rintro r w8 ⟨rfl, hb8⟩
      have HZ8 := Lib.hid (HZ7.out.below hb8 hz7)
      have HB8 := Lib.hid (HB7.out.trans (hb8.mono (by omega)))
      have hz8 := hb8.size
      clear hb8
      cases hq : (n1 == l) with
      | false =>
        have HS2 := Lib.hid (show ofName l (es.take (k + 1)) = F by rw [HS.out]; simp [hq])
        clear hq
        go_wp2_with fail
        go_roundw
        case rel =>
          refine ⟨k + 1, A', c', by omega, by go_num, by rw [HS2.out], ?_, HBr.out.trans (HB8.out.mono hzr), by omega⟩
          rw [HS2.out]
          exact ownsRow_below HOwn.out HB8.out fun g hg => (HOwn.out.lt g hg).2
        case measure => simp [intOf]; omega
      | true =>
        have HS2 := Lib.hid (show ofName l (es.take (k + 1)) = F ++ [⟨n1, v1, d1, m1⟩] by rw [HS.out]; simp [hq])
        have z0 := HZ8.out 0 (by simp)
        have z1 := HZ8.out 1 (by simp)
        have z2 := HZ8.out 2 (by simp)
        have z3 := HZ8.out 3 (by simp)
        simp only [List.getElem_cons_succ, List.getElem_cons_zero] at z0 z1 z2 z3
        have HOwn8 := Lib.hid (ownsRow_below HOwn.out HB8.out fun g hg => (HOwn.out.lt g hg).2)
        obtain ⟨i0, hi, hz0, hz1', hz2'⟩ := info_parts Tryz.infoEnt
        clear hq
        go_wp2_with (at_builtin; refine wpList_append_own _ rfl _ _ 64 rfl W.heap.size 74 i0 (.agg #[.string ⟨#[]⟩, .int .i64 0, .int .i64 0, .int .i64 0]) 4 40 Tryz.underlying64 hi hz0 hz1' hz2' rfl (by decide) _ _ _ rfl (HOwn8.out.alloc _) ⟨w8.heap.size, 0, none⟩ 1 1 [.string ⟨n1.toArray⟩, .int .i64 v1, .int .i64 d1, .int .i64 m1] rfl rfl ?c1 ?c2 ?c3 ?c4 ?c5 ?_)
        case c1 => exact new4 _ _ _ _ _ _
        case c2 => intro u hu; simp at hu; rcases hu with rfl | rfl | rfl | rfl <;> rfl
        case c3 => unfold maxLen; omega
        case c4 => omega
        case c5 => simp; omega
        intro v' w9 hrow9 hgr9 _
        obtain ⟨A9, c9, rfl⟩ := row_shapeN hrow9
        have HRow9 := Lib.hid hrow9
        have hz9 : w8.heap.size + 1 ≤ w9.heap.size := by simpa using hgr9.size
        have HB9 := Lib.hid (((HBr.out.trans (HB8.out.mono (by omega))).alloc (by omega) (.cells #[.string ⟨n1.toArray⟩, .int .i64 v1, .int .i64 d1, .int .i64 m1] 74)).grown hgr9 (by simp; omega) (fun g hg => by have := (HOwn8.out.lt g hg).1; omega))
        clear hrow9 hgr9 z0 z1 z2 z3
        go_wp2_with fail
        go_roundw
        case rel =>
          refine ⟨k + 1, A9, c9, by omega, by go_num, by rw [HS2.out]; simp, ?_, HB9.out, by omega⟩
          have h := HRow9.out
          rw [HS2.out, List.flatMap_append]
          simpa [encE] using h
        case measure => simp [intOf]; omega
    · have hke : k = es.length := by omega
      have HEv := Lib.hid (show EvsIn wr W.heap.size wr.heap.size A' (ofName l es) from by
        have h := HOwn.out
        rw [hke, List.take_length] at h
        exact evs_of_row h)
      have HL := Lib.hid (show ofName l (es.take k) = ofName l es by rw [hke, List.take_length])
      clear hke
      go_wp2_with fail
      go_ret
      exact ⟨A', c', by rw [HL.out]; rfl, HEv.out.low (by omega), HOr.out⟩

end Go.Proofs.YtepkicgnhjaokaaGreatDoor

namespace Go.Proofs.YtepkicgnhjaokaaGreatDoor
open Go.RowKit Go.Maps

set_option maxRecDepth 100000 in
set_option maxHeartbeats 2000000 in
theorem named_any (a b c d : Int) (A : Option Addr) (es : List En) (cap : Nat) (Ab : Option Addr) (l : List UInt8) (cb : Nat) (w : World) (hA : EvsIn w 0 w.heap.size A es) (hn : es.length ≤ 12) (hB : BytesIn w 0 w.heap.size Ab l) :
    Calls Tryz.prog 60 #[.agg #[.int .i64 a, .int .i64 b, .int .i64 c, .int .i64 d, .slice A es.length cap], .slice Ab l.length cb] w
      fun r w' => ∃ A' c', r = .returned (.slice A' (ofName l es).length c') ∧ EvsIn w' w.heap.size w'.heap.size A' (ofName l es) ∧ Below w.heap.size w w' := by
  have HA := Lib.hid hA
  have HB := Lib.hid hB
  have hmf : ∀ (fn : Fn) (first cap : Array Value) (w : World), (Instr.makeFunc fn first cap).run Tryz.prog w = .ok (.func fn first cap) w := fun _ _ _ _ => rfl
  clear hA hB
  go_enter Tryz.func60, Tryz.ntmps60
  go_wp2_with fail
  obtain ⟨W0, hW0⟩ : ∃ W0, W0 = w.alloc (.cells #[.int .i64 a, .int .i64 b, .int .i64 c, .int .i64 d, .slice A es.length cap] 66) := ⟨_, rfl⟩
  obtain ⟨W, hW⟩ : ∃ W, W = W0.alloc (.cells #[.slice Ab l.length cb] 22) := ⟨_, rfl⟩
  have hz0 : W0.heap.size = w.heap.size + 1 := by rw [hW0]; simp
  have hz : w.heap.size + 1 < W.heap.size := by rw [hW]; simp [hz0]
  have HBel := Lib.hid (show Below w.heap.size w W by rw [hW, hW0]; exact ((Below.refl _ _).alloc (Nat.le_refl _) _).alloc (by simp) _)
  have hp : W.cell? ⟨w.heap.size + 1, 0, none⟩ = some (.slice Ab l.length cb) := by rw [hW, ← hz0]; simp
  have HP := Lib.hid hp
  rw [← hW0, ← hW]
  clear hW hW0 hz0 hp
  refine (those_named a b c d A es cap (w.heap.size + 1) Ab l cb W ((HA.out.below HBel.out).mono (by omega)) hn HP.out ((HB.out.keep fun p _ hp => HBel.out.cell hp).mono (by omega))).mono ?_
  rintro r w1 ⟨A', c', rfl, hev, hb⟩
  have HE := Lib.hid hev
  have HB1 := Lib.hid (HBel.out.trans (hb.mono (by omega)))
  clear hev hb
  go_wp2_with fail
  go_ret
  exact ⟨A', c', rfl, HE.out.low (by omega), HB1.out⟩

/-- Who wrote those by that name. -/
def wrsV (vec : List Int) (es : List En) (l : List UInt8) : List Int := if treeB vec es then (ofName l es).map En.dev else []
theorem treeB_len {vec : List Int} {es : List En} (h : treeB vec es = true) : es.length ≤ 12 := by
  unfold treeB at h
  simp only [Bool.and_eq_true, decide_eq_true_eq] at h
  exact h.1.1.2
theorem wrsV_length (vec : List Int) (es : List En) (l : List UInt8) : (wrsV vec es l).length ≤ 12 := by
  unfold wrsV
  split
  next h => have := treeB_len h; have := ofName_le l es; simp; omega
  next => simp

set_option maxRecDepth 100000 in
set_option maxHeartbeats 4000000 in
theorem implWriters_any (AV : Option Addr) (vec : List Int) (cv : Nat) (A : Option Addr) (es : List En) (c : Nat) (Ab : Option Addr) (l : List UInt8) (cb : Nat) (w : World) (hV : IntsIn w 0 w.heap.size AV vec) (hA : EnsIn w 0 w.heap.size A es) (_hv : vec.length ≤ 1048576) (hn : es.length ≤ 1048576) (hbk : ebulk es ≤ 1048576) (hB : BytesIn w 0 w.heap.size Ab l) (_hl : l.length ≤ 1048576) :
    Calls Tryz.prog 28 #[.agg #[.slice AV vec.length cv, .slice A es.length c], .slice Ab l.length cb] w (NewIntsFr (wrsV vec es l) w) := by
  have HV := Lib.hid hV
  have HA := Lib.hid hA
  have HB := Lib.hid hB
  have HW := Lib.hid (show wrsV vec es l = if treeB vec es then (ofName l es).map En.dev else [] from rfl)
  have HLen := Lib.hid (@treeB_len vec es)
  clear hV hA hB
  go_enter Tryz.func28, Tryz.ntmps28
  go_wp2_with fail
  obtain ⟨W, hW⟩ : ∃ W, W = w.alloc (.cells #[.slice AV vec.length cv, .slice A es.length c] 26) := ⟨_, rfl⟩
  have HBel := Lib.hid (show Below w.heap.size w W by rw [hW]; exact (Below.refl _ _).alloc (Nat.le_refl _) _)
  have hzW : w.heap.size < W.heap.size := by rw [hW]; simp
  rw [← hW]
  clear hW
  refine (readTree_any AV vec cv A es c W ((HV.out.keep fun p _ hp => HBel.out.cell hp).mono (by omega)) ((HA.out.below HBel.out).mono (by omega)) hn hbk).mono ?_
  rintro e w1 ⟨x0, x1, x2, x3, A', n, c', rfl, htr, hb1⟩
  have HB1 := Lib.hid (HBel.out.trans (hb1.mono (by omega)))
  have hz1 := hb1.size
  clear hb1
  obtain ⟨tb, htb⟩ : ∃ tb, tb = treeB vec es := ⟨_, rfl⟩
  rw [← htb] at htr HW HLen ⊢
  clear htb
  cases tb with
  | false =>
    have HN := Lib.hid (show wrsV vec es l = [] by rw [HW.out]; rfl)
    clear htr
    go_wp2_with fail
    go_ret
    rw [HN.out]
    exact .nil (HB1.out.alloc (by omega) _)
  | true =>
  obtain ⟨-, rfl, hev⟩ := htr rfl
  have hl12 := HLen.out rfl
  have HE := Lib.hid hev
  have HN := Lib.hid (show wrsV vec es l = (ofName l es).map En.dev by rw [HW.out]; rfl)
  clear htr hev HW HLen
  go_wp2_with fail
  obtain ⟨W2, hW2⟩ : ∃ W2, W2 = w1.alloc (.cells #[.int .i64 x0, .int .i64 x1, .int .i64 x2, .int .i64 x3, .slice A' es.length c'] 66) := ⟨_, rfl⟩
  have hb2 : Below w1.heap.size w1 W2 := by rw [hW2]; exact (Below.refl _ _).alloc (Nat.le_refl _) _
  have hz2 : w1.heap.size < W2.heap.size := by rw [hW2]; simp
  have HE2 := Lib.hid (HE.out.below hb2)
  have HB2 := Lib.hid (HB1.out.trans (hb2.mono (by omega)))
  rw [← hW2]
  clear hW2 hb2
  refine (named_any x0 x1 x2 x3 A' es c' Ab l cb W2 ((HE2.out.low (by omega)).mono (by omega)) hl12 ((HB.out.keep fun p _ hp => HB2.out.cell hp).mono (by omega))).mono ?_
  rintro r w3 ⟨A3, c3, rfl, hev3, hb3⟩
  obtain ⟨F, hF⟩ : ∃ F, F = ofName l es := ⟨_, rfl⟩
  have hFl : F.length ≤ 12 := by rw [hF]; exact Nat.le_trans (ofName_le _ _) hl12
  rw [← hF] at hev3 HN ⊢
  have HE3 := Lib.hid hev3
  have HB3 := Lib.hid (HB2.out.trans (hb3.mono (by omega)))
  have hz3 := hb3.size
  clear hev3 hb3 hF HE HE2
  go_wp2_with fail
  go_loopw [7, 21] (fun x i wr => ∃ (k : Nat) (B : Option Addr) (cx : Nat), k ≤ F.length ∧ i = .int .i64 k ∧ x = .slice B k cx ∧ wr.ownsRow w3.heap.size 3 1 (.slice B k cx) k (((F.take k).map En.dev).map vint) ∧ Below w3.heap.size w3 wr ∧ w3.heap.size ≤ wr.heap.size) (fun _ i _ => F.length - (intOf i).toNat)
  case atStart => exact ⟨0, none, 0, Nat.zero_le _, rfl, rfl, World.ownsRow_nil _ _ _ _, Below.refl _ _, Nat.le_refl _⟩
  case round =>
    obtain ⟨k, B, cx, hk, rfl, rfl, hown, hbel, hzr⟩ := hrel
    have HOwn := Lib.hid hown
    have HBr := Lib.hid hbel
    clear hown hbel
    by_cases hlt : k < F.length
    · obtain ⟨bA, oA, hAe, _, hbA, hcA⟩ := HE3.out (by omega)
      obtain ⟨c0, c1, c2, c3⟩ := (hcA k hlt).keep (w' := wr) fun o => HBr.out.cell hbA
      obtain ⟨e, he⟩ : ∃ e, e = F[k] := ⟨_, rfl⟩
      rw [← he] at c0 c1 c2 c3
      have HEk := Lib.hid (show (F.take (k + 1)).map En.dev = (F.take k).map En.dev ++ [e.dev] by rw [List.take_succ_eq_append_getElem hlt, List.map_append, ← he]; rfl)
      subst hAe
      clear hcA he
      obtain ⟨n1, v1, d1, m1⟩ := e
      simp only at c0 c1 c2 c3
      have hlt' : (k : Int) < (F.length : Int) := by omega
      obtain ⟨i0, hi, hz0, hz1', hz2'⟩ := info_parts Tryz.infoInt
      go_wp2_with (at_builtin; refine wpList_append_own _ rfl _ _ 23 rfl w3.heap.size 3 i0 (.int .i64 0) 1 8 Tryz.underlying23 hi hz0 hz1' hz2' rfl (by decide) _ _ _ rfl ((HOwn.out.alloc _).alloc _) ⟨wr.heap.size + 1, 0, none⟩ 1 1 [.int .i64 d1] rfl rfl ?c1 ?c2 ?c3 ?c4 ?c5 ?_)
      case c2 => first | rfl | (intro u hu; simp at hu; subst hu; rfl)
      case c3 => unfold maxLen; omega
      case c4 => omega
      case c5 => omega
      intro v' w5 hrow5 hgr5 _
      obtain ⟨A5, c5, rfl⟩ := row_shape hrow5
      have HRow5 := Lib.hid hrow5
      have HB5 := Lib.hid (((HBr.out.alloc hzr (.cells #[.string ⟨n1.toArray⟩, .int .i64 v1, .int .i64 d1, .int .i64 m1] 74)).alloc (by simp; omega) (.cells #[.int .i64 d1] 3)).grown hgr5 (by simp; omega) (fun g hg => (HOwn.out.lt g hg).1))
      have hz5 : wr.heap.size + 1 + 1 ≤ w5.heap.size := by simpa using hgr5.size
      clear hrow5 hgr5
      go_wp2_with fail
      go_roundw
      case rel =>
        refine ⟨k + 1, A5, c5, by omega, by go_num, rfl, ?_, HB5.out, by omega⟩
        have := HRow5.out
        rw [HEk.out]
        simpa [vint] using this
      case measure => simp [intOf]; omega
    · have hke : k = F.length := by omega
      have HR := Lib.hid (show NewIntsFr (wrsV vec es l) w (.returned (.slice B k cx)) wr from by
        subst hke
        rw [HN.out]
        have h := HOwn.out
        rw [List.take_length] at h
        have hlen : (F.map En.dev).length = F.length := by simp
        refine ⟨B, cx, by rw [hlen], (ints_of_row (by rw [hlen]; exact h)).low (by omega), HB3.out.trans (HBr.out.mono (by omega))⟩)
      go_wp2_with fail
      go_ret
      exact HR.out

end Go.Proofs.YtepkicgnhjaokaaGreatDoor

namespace Go.Proofs.YtepkicgnhjaokaaGreatDoor
open Go.RowKit Go.Maps

end Go.Proofs.YtepkicgnhjaokaaGreatDoor

namespace Go.Proofs.YtepkicgnhjaokaaGreatDoor
end Go.Proofs.YtepkicgnhjaokaaGreatDoor

namespace Go.Proofs.YtepkicgnhjaokaaGreatDoor
open Go.RowKit Go.Maps

def firstV : List En → Int
  | [] => 0
  | e :: _ => e.val
def valI (vec : List Int) (es : List En) (l : List UInt8) : Int := if treeB vec es then firstV (ofName l es) else 0
def valK (vec : List Int) (es : List En) (l : List UInt8) : Bool := treeB vec es && decide (0 < (ofName l es).length)

set_option maxRecDepth 100000 in
set_option maxHeartbeats 4000000 in
theorem implValueOf_any (AV : Option Addr) (vec : List Int) (cv : Nat) (A : Option Addr) (es : List En) (c : Nat) (Ab : Option Addr) (l : List UInt8) (cb : Nat) (w : World) (hV : IntsIn w 0 w.heap.size AV vec) (hA : EnsIn w 0 w.heap.size A es) (_hv : vec.length ≤ 1048576) (hn : es.length ≤ 1048576) (hbk : ebulk es ≤ 1048576) (hB : BytesIn w 0 w.heap.size Ab l) (_hl : l.length ≤ 1048576) :
    Calls Tryz.prog 29 #[.agg #[.slice AV vec.length cv, .slice A es.length c], .slice Ab l.length cb] w fun e w' => e = .returned (.tuple #[.int .i64 (valI vec es l), .bool (valK vec es l)]) ∧ Below w.heap.size w w' := by
  have HV := Lib.hid hV
  have HA := Lib.hid hA
  have HB := Lib.hid hB
  have HI := Lib.hid (show valI vec es l = if treeB vec es then firstV (ofName l es) else 0 from rfl)
  have HK := Lib.hid (show valK vec es l = (treeB vec es && decide (0 < (ofName l es).length)) from rfl)
  have HLen := Lib.hid (@treeB_len vec es)
  clear hV hA hB
  go_enter Tryz.func29, Tryz.ntmps29
  go_wp2_with fail
  obtain ⟨W, hW⟩ : ∃ W, W = w.alloc (.cells #[.slice AV vec.length cv, .slice A es.length c] 26) := ⟨_, rfl⟩
  have HBel := Lib.hid (show Below w.heap.size w W by rw [hW]; exact (Below.refl _ _).alloc (Nat.le_refl _) _)
  have hzW : w.heap.size < W.heap.size := by rw [hW]; simp
  rw [← hW]
  clear hW
  refine (readTree_any AV vec cv A es c W ((HV.out.keep fun p _ hp => HBel.out.cell hp).mono (by omega)) ((HA.out.below HBel.out).mono (by omega)) hn hbk).mono ?_
  rintro e w1 ⟨x0, x1, x2, x3, A', n, c', rfl, htr, hb1⟩
  have HB1 := Lib.hid (HBel.out.trans (hb1.mono (by omega)))
  have hz1 := hb1.size
  clear hb1
  obtain ⟨tb, htb⟩ : ∃ tb, tb = treeB vec es := ⟨_, rfl⟩
  rw [← htb] at htr HI HK HLen ⊢
  clear htb
  cases tb with
  | false =>
    have HN := Lib.hid (show valI vec es l = 0 by rw [HI.out]; rfl)
    have HM := Lib.hid (show valK vec es l = false by rw [HK.out]; rfl)
    clear htr
    go_wp2_with fail
    refine bodyPost_ret (v := .tuple #[.int .i64 0, .bool false]) (by simp [results, Tryz.results29, go_sem]) rfl ?_
    exact ⟨by rw [HN.out, HM.out], HB1.out.alloc (by omega) _⟩
  | true =>
  obtain ⟨-, rfl, hev⟩ := htr rfl
  have hl12 := HLen.out rfl
  have HE := Lib.hid hev
  have HN := Lib.hid (show valI vec es l = firstV (ofName l es) by rw [HI.out]; rfl)
  have HM := Lib.hid (show valK vec es l = decide (0 < (ofName l es).length) by rw [HK.out]; simp)
  clear htr hev HI HK HLen
  go_wp2_with fail
  obtain ⟨W2, hW2⟩ : ∃ W2, W2 = w1.alloc (.cells #[.int .i64 x0, .int .i64 x1, .int .i64 x2, .int .i64 x3, .slice A' es.length c'] 66) := ⟨_, rfl⟩
  have hb2 : Below w1.heap.size w1 W2 := by rw [hW2]; exact (Below.refl _ _).alloc (Nat.le_refl _) _
  have hz2 : w1.heap.size < W2.heap.size := by rw [hW2]; simp
  have HE2 := Lib.hid (HE.out.below hb2)
  have HB2 := Lib.hid (HB1.out.trans (hb2.mono (by omega)))
  rw [← hW2]
  clear hW2 hb2
  refine (named_any x0 x1 x2 x3 A' es c' Ab l cb W2 ((HE2.out.low (by omega)).mono (by omega)) hl12 ((HB.out.keep fun p _ hp => HB2.out.cell hp).mono (by omega))).mono ?_
  rintro r w3 ⟨A3, c3, rfl, hev3, hb3⟩
  obtain ⟨F, hF⟩ : ∃ F, F = ofName l es := ⟨_, rfl⟩
  have hFl : F.length ≤ 12 := by rw [hF]; exact Nat.le_trans (ofName_le _ _) hl12
  rw [← hF] at hev3 HN HM ⊢
  have HE3 := Lib.hid hev3
  have HB3 := Lib.hid (HB2.out.trans (hb3.mono (by omega)))
  have hz3 := hb3.size
  clear hev3 hb3 hF HE HE2
  cases F with
  | nil =>
    go_wp2_with fail
    refine bodyPost_ret (v := .tuple #[.int .i64 0, .bool false]) (by simp [results, Tryz.results29, go_sem]) rfl ?_
    exact ⟨by rw [HN.out, HM.out]; rfl, HB3.out⟩
  | cons f fs =>
    obtain ⟨bA, oA, hAe, _, hbA, hcA⟩ := HE3.out (by simp)
    obtain ⟨_, c1, _, _⟩ := hcA 0 (by simp)
    simp only [List.getElem_cons_zero, Nat.zero_mul, Nat.add_zero] at c1
    subst hAe
    have hne : ((((f :: fs).length : Nat) : Int) == 0) = false := by have hp : 0 < (f :: fs).length := Nat.succ_pos _; rw [beq_eq_false_iff_ne]; omega
    have hpo : 0 < (f :: fs).length := by simp
    have hpos : (0 : Int) < (((f :: fs).length : Nat) : Int) := by omega
    obtain ⟨m, hm⟩ : ∃ m, m = (f :: fs).length := ⟨_, rfl⟩
    have HM2 := Lib.hid (show valK vec es l = true by rw [HM.out]; simp)
    rw [← hm] at hne hpos ⊢
    clear hcA hm HM
    go_wp2_with fail
    refine bodyPost_ret (v := .tuple #[.int .i64 f.val, .bool true]) (by simp [results, Tryz.results29, go_sem]) rfl ?_
    exact ⟨by rw [HN.out, HM2.out]; rfl, HB3.out⟩

end Go.Proofs.YtepkicgnhjaokaaGreatDoor

namespace Go.Proofs.YtepkicgnhjaokaaGreatDoor
open Go.RowKit Go.Maps

/-- The names of those of the first k entries that are the first by their names. -/
def nmL (es : List En) (k : Nat) : List (List UInt8) := ((List.range k).filter (stB es)).map fun i => (es.getD i default).name
theorem nmL_succ (es : List En) (k : Nat) : nmL es (k + 1) = nmL es k ++ (if stB es k then [(es.getD k default).name] else []) := by
  unfold nmL
  rw [List.range_succ, List.filter_append, List.map_append]
  congr 1
  by_cases h : stB es k <;> simp [h]
theorem nmL_le (es : List En) (k : Nat) : (nmL es k).length ≤ k := by
  have := List.length_filter_le (stB es) (List.range k)
  simpa [nmL] using this
theorem nmL_bsum (es : List En) (k : Nat) (hk : k ≤ es.length) : bsum (nmL es k) ≤ ebulk (es.take k) := by
  induction k with
  | zero => simp [nmL, bsum]
  | succ k ih =>
    rw [nmL_succ, bsum_append, ebulk_take_succ es k (by omega)]
    have := ih (by omega)
    by_cases h : stB es k
    · simp [h, bsum, show k < es.length by omega]
      omega
    · simp [h, bsum]
      omega
/-- The answer of NamesOf. -/
def nmsV (vec : List Int) (es : List En) : List (List UInt8) := if treeB vec es then nmL es es.length else []
theorem nmsV_len (vec : List Int) (es : List En) (h : es.length ≤ 1048576) : (nmsV vec es).length ≤ 1048576 := by
  unfold nmsV
  split
  · exact Nat.le_trans (nmL_le _ _) h
  · simp
theorem nmsV_bsum (vec : List Int) (es : List En) (h : ebulk es ≤ 1048576) : bsum (nmsV vec es) ≤ 1048576 := by
  unfold nmsV
  split
  · have := nmL_bsum es es.length (Nat.le_refl _)
    rw [List.take_length] at this
    omega
  · simp [bsum]

/-- New names are handed back. -/
def NewBss (ls : List (List UInt8)) (w : World) (e : Ending) (w' : World) : Prop :=
  ∃ A c, e = .returned (.slice A ls.length c) ∧ BssOwn w' w.heap.size w'.heap.size A ls ∧ Below w.heap.size w w'

theorem NameAt.neS {w : World} {g base : Nat} {l : List UInt8} {v : Value} {n : Nat} {vs : List Value} (h : NameAt w g l) (ho : w.ownsRow base 22 1 v n vs) : v.ownBlock ≠ some g := by
  intro he
  obtain ⟨cur, fz, h1, _⟩ := h
  obtain ⟨_, ⟨rfl, _⟩ | ⟨R, cap, cur', rfl, _, hb, _⟩⟩ := ho
  · simp [Value.ownBlock] at he
  · simp [Value.ownBlock] at he
    subst he
    rw [hb] at h1
    simp at h1

/-- What has been laid of the row. -/
structure BsRel (w : World) (base : Nat) (ls : List (List UInt8)) (vs : List Value) (G : List Nat) : Prop where
  gl : G.length = ls.length
  vl : vs.length = ls.length
  cs : ∀ i (hi : i < ls.length), ∃ c, vs[i]? = some (.slice (some ⟨G.getD i 0, 0, none⟩) ls[i].length c)
  nm : ∀ i (hi : i < ls.length), base ≤ G.getD i 0 ∧ NameAt w (G.getD i 0) ls[i]
  inc : ∀ i j, i < j → j < ls.length → G.getD i 0 < G.getD j 0

theorem BsRel.nil (w : World) (base : Nat) : BsRel w base [] [] [] :=
  ⟨rfl, rfl, fun i h => absurd h (by simp), fun i h => absurd h (by simp), fun i j _ h => absurd h (by simp)⟩

theorem BsRel.keep {w w' : World} {base : Nat} {ls : List (List UInt8)} {vs : List Value} {G : List Nat} (h : BsRel w base ls vs G) (hk : ∀ i, i < ls.length → w'.heap[G.getD i 0]? = w.heap[G.getD i 0]?) : BsRel w' base ls vs G :=
  ⟨h.gl, h.vl, h.cs, fun i hi => ⟨(h.nm i hi).1, (h.nm i hi).2.keep (hk i hi)⟩, h.inc⟩

theorem BsRel.add {w : World} {base : Nat} {ls : List (List UInt8)} {vs : List Value} {G : List Nat} (h : BsRel w base ls vs G) {g c : Nat} {l : List UInt8} (hg : base ≤ g) (hn : NameAt w g l) (hlt : ∀ i, i < ls.length → G.getD i 0 < g) :
    BsRel w base (ls ++ [l]) (vs ++ [.slice (some ⟨g, 0, none⟩) l.length c]) (G ++ [g]) := by
  have hv := h.vl
  have hG : ∀ i, i < ls.length → (G ++ [g]).getD i 0 = G.getD i 0 := fun i hi => by simp [List.getD, List.getElem?_append_left (show i < G.length by rw [h.gl]; exact hi)]
  have hGe : (G ++ [g]).getD ls.length 0 = g := by simp [List.getD, ← h.gl]
  refine ⟨by simp [h.gl], by simp [h.vl], fun i hi => ?_, fun i hi => ?_, fun i j hij hj => ?_⟩
  · by_cases hik : i < ls.length
    · obtain ⟨c', h0⟩ := h.cs i hik
      rw [hG i hik, List.getElem_append_left hik]
      exact ⟨c', by rw [List.getElem?_append_left (by omega)]; exact h0⟩
    · obtain rfl : i = ls.length := by simp at hi; omega
      rw [hGe]
      refine ⟨c, ?_⟩
      rw [List.getElem?_append_right (by omega), hv]
      simp
  · by_cases hik : i < ls.length
    · rw [hG i hik, List.getElem_append_left hik]
      exact h.nm i hik
    · obtain rfl : i = ls.length := by simp at hi; omega
      rw [hGe]
      have he : (ls ++ [l])[ls.length]'hi = l := by simp
      rw [he]
      exact ⟨hg, hn⟩
  · simp at hj
    rw [hG i (by omega)]
    by_cases hjk : j < ls.length
    · rw [hG j hjk]
      exact h.inc i j hij hjk
    · obtain rfl : j = ls.length := by omega
      rw [hGe]
      exact hlt i hij

theorem BsRel.own {w : World} {base : Nat} {ls : List (List UInt8)} {vs : List Value} {G : List Nat} {A : Option Addr} {c : Nat} (h : BsRel w base ls vs G) (ho : w.ownsRow base 22 1 (.slice A ls.length c) ls.length vs) : BssOwn w base w.heap.size A ls := fun hl => by
  have ho' := ho
  obtain ⟨_, hh | ⟨R, cap, cur, hv, hR, hb, _, _, _, htk⟩⟩ := ho
  · omega
  injection hv with h1 _ _
  subst h1
  have hch := h.cs
  obtain ⟨C, hC⟩ : ∃ C : Nat → Nat, ∀ i (hi : i < ls.length), vs[i]? = some (.slice (some ⟨G.getD i 0, 0, none⟩) ls[i].length (C i)) :=
    ⟨fun i => if h : i < ls.length then Classical.choose (hch i h) else 0, fun i hi => by simp only [hi, dif_pos]; exact Classical.choose_spec (hch i hi)⟩
  refine ⟨R, fun i => G.getD i 0, C, rfl, ⟨hR, (Array.getElem?_eq_some_iff.1 hb).1, fun i hi => ⟨(h.nm i hi).1, (h.nm i hi).2.lt, fun e => (h.nm i hi).2.neS ho' (show some R = some (G.getD i 0) from congrArg some (show G.getD i 0 = R from e).symm)⟩, h.inc⟩, fun i hi => ?_⟩
  have c0 := hC i hi
  refine ⟨?_, (h.nm i hi).2.fr⟩
  rw [← htk, List.getElem?_take, if_pos (by omega)] at c0
  rw [World.cell?, hb]
  simpa using c0

set_option maxRecDepth 100000 in
set_option maxHeartbeats 4000000 in
theorem implNamesOf_any (AV : Option Addr) (vec : List Int) (cv : Nat) (A : Option Addr) (es : List En) (c : Nat) (w : World) (hV : IntsIn w 0 w.heap.size AV vec) (hA : EnsIn w 0 w.heap.size A es) (_hv : vec.length ≤ 1048576) (hn : es.length ≤ 1048576) (hbk : ebulk es ≤ 1048576) :
    Calls Tryz.prog 26 #[.agg #[.slice AV vec.length cv, .slice A es.length c]] w (NewBss (nmsV vec es) w) := by
  have HV := Lib.hid hV
  have HA := Lib.hid hA
  have HLen := Lib.hid (@treeB_len' vec es)
  obtain ⟨N, hN⟩ : ∃ N, N = nmsV vec es := ⟨_, rfl⟩
  have HN := Lib.hid (show N = if treeB vec es then nmL es es.length else [] from hN)
  rw [← hN]
  clear hN
  clear hV hA
  go_enter Tryz.func26, Tryz.ntmps26
  go_wp2_with fail
  obtain ⟨W, hW⟩ : ∃ W, W = w.alloc (.cells #[.slice AV vec.length cv, .slice A es.length c] 26) := ⟨_, rfl⟩
  have HBel := Lib.hid (show Below w.heap.size w W by rw [hW]; exact (Below.refl _ _).alloc (Nat.le_refl _) _)
  have hzW : w.heap.size < W.heap.size := by rw [hW]; simp
  rw [← hW]
  clear hW
  refine (readTree_any AV vec cv A es c W ((HV.out.keep fun p _ hp => HBel.out.cell hp).mono (by omega)) ((HA.out.below HBel.out).mono (by omega)) hn hbk).mono ?_
  rintro e w1 ⟨x0, x1, x2, x3, A', n, c', rfl, htr, hb1⟩
  have HB1 := Lib.hid (HBel.out.trans (hb1.mono (by omega)))
  have hz1 := hb1.size
  clear hb1
  obtain ⟨tb, htb⟩ : ∃ tb, tb = treeB vec es := ⟨_, rfl⟩
  rw [← htb] at htr HLen HN ⊢
  clear htb
  cases tb with
  | false =>
    have HN0 := Lib.hid (show N = [] from HN.out)
    clear htr
    go_wp2_with fail
    go_ret
    exact ⟨none, 0, by rw [HN0.out]; rfl, by rw [HN0.out]; exact BssOwn.nil, HB1.out.alloc (by omega) _⟩
  | true =>
  obtain ⟨-, rfl, hev⟩ := htr rfl
  have hl12 := HLen.out rfl
  have HE := Lib.hid hev
  clear htr hev HLen
  go_wp2_with fail
  obtain ⟨W2, hW2⟩ : ∃ W2, W2 = w1.alloc (.cells #[.int .i64 x0, .int .i64 x1, .int .i64 x2, .int .i64 x3, .slice A' es.length c'] 66) := ⟨_, rfl⟩
  have HX := Lib.hid (show Bx W2 w1.heap.size [.int .i64 x0, .int .i64 x1, .int .i64 x2, .int .i64 x3, .slice A' es.length c'] by rw [hW2]; exact Bx.new' _ _ _ _ rfl)
  have hb2 : Below w1.heap.size w1 W2 := by rw [hW2]; exact (Below.refl _ _).alloc (Nat.le_refl _) _
  have hz2 : w1.heap.size < W2.heap.size := by rw [hW2]; simp
  have HE2 := Lib.hid ((HE.out.below hb2).mono (Nat.le_of_lt hz2))
  have HB2 := Lib.hid (HB1.out.trans (hb2.mono (by omega)))
  rw [← hW2]
  clear hW2 hb2 HE
  go_loopw [5, 18] (fun x i wr => ∃ (k : Nat) (B : Option Addr) (cx : Nat) (vs : List Value) (G : List Nat), k ≤ es.length ∧ i = .int .i64 k ∧ x = .slice B (nmL es k).length cx ∧ wr.ownsRow W2.heap.size 22 1 (.slice B (nmL es k).length cx) (nmL es k).length vs ∧ BsRel wr W2.heap.size (nmL es k) vs G ∧ Below W2.heap.size W2 wr ∧ W2.heap.size ≤ wr.heap.size) (fun _ i _ => es.length - (intOf i).toNat)
  case atStart => exact ⟨0, none, 0, [], [], Nat.zero_le _, rfl, rfl, World.ownsRow_nil _ _ _ _, BsRel.nil _ _, Below.refl _ _, Nat.le_refl _⟩
  case round =>
    obtain ⟨k, B, cx, vs, G, hk, rfl, rfl, hown, hrl, hbel, hzr⟩ := hrel
    have HRl := Lib.hid hrl
    have HOwn := Lib.hid hown
    have HBr := Lib.hid hbel
    have HEr := Lib.hid ((HE2.out.below hbel).mono hzr)
    clear hown hrl hbel
    by_cases hlt : k < es.length
    · obtain ⟨bA, oA, hAe, hLA, hbA, hcA⟩ := HE2.out (by omega)
      obtain ⟨c0, c1, c2, c3⟩ := (hcA k hlt).keep (w' := wr) fun o => HBr.out.cell hbA
      obtain ⟨e, he⟩ : ∃ e, e = es[k] := ⟨_, rfl⟩
      rw [← he] at c0 c1 c2 c3
      have HS := Lib.hid (show nmL es (k + 1) = nmL es k ++ (if stB es k then [e.name] else []) by
        rw [nmL_succ, he]
        simp [hlt])
      have hkl := nmL_le es k
      obtain ⟨F, hF⟩ : ∃ F, F = nmL es k := ⟨_, rfl⟩
      rw [← hF] at HS hkl HOwn HRl ⊢
      subst hAe
      clear hcA he hF
      obtain ⟨n1, v1, d1, m1⟩ := e
      simp only at c0 c1 c2 c3 HS
      have q0 := (HBr.out.cell (p := ⟨w1.heap.size, 0, none⟩) hz2).trans (HX.out 0 (by simp))
      have q1 := (HBr.out.cell (p := ⟨w1.heap.size, 1, none⟩) hz2).trans (HX.out 1 (by simp))
      have q2 := (HBr.out.cell (p := ⟨w1.heap.size, 2, none⟩) hz2).trans (HX.out 2 (by simp))
      have q3 := (HBr.out.cell (p := ⟨w1.heap.size, 3, none⟩) hz2).trans (HX.out 3 (by simp))
      have q4 := (HBr.out.cell (p := ⟨w1.heap.size, 4, none⟩) hz2).trans (HX.out 4 (by simp))
      simp only [List.getElem_cons_succ, List.getElem_cons_zero] at q0 q1 q2 q3 q4
      have lq : w1.heap.size < wr.heap.size := by omega
      have hlt' : (k : Int) < (es.length : Int) := by omega
      go_wp2_with fail
      obtain ⟨W7, hW7⟩ : ∃ W7, W7 = wr.alloc (.cells #[.string ⟨n1.toArray⟩, .int .i64 v1, .int .i64 d1, .int .i64 m1] 74) := ⟨_, rfl⟩
      have HZ7 := Lib.hid (show Bx W7 wr.heap.size [.string ⟨n1.toArray⟩, .int .i64 v1, .int .i64 d1, .int .i64 m1] by rw [hW7]; exact Bx.new' _ _ _ _ rfl)
      have HB7 := Lib.hid (show Below wr.heap.size wr W7 by rw [hW7]; exact (Below.refl _ _).alloc (Nat.le_refl _) _)
      have hz7 : wr.heap.size < W7.heap.size := by rw [hW7]; simp
      rw [← hW7]
      clear hW7 c0 c1 c2 c3 q0 q1 q2 q3 q4
      refine (startsName_any x0 x1 x2 x3 (some ⟨bA, oA, none⟩) es c' k W7 (((HEr.out.below HB7.out).low (by omega)).mono (by omega)) hlt hl12).mono ?_
      rintro r w8 ⟨rfl, hb8⟩
      have HZ8 := Lib.hid (HZ7.out.below hb8 hz7)
      have HB8 := Lib.hid (HB7.out.trans (hb8.mono (by omega)))
      have hz8 := hb8.size
      clear hb8
      cases hq : stB es k with
      | false =>
        have HS2 := Lib.hid (show nmL es (k + 1) = F by rw [HS.out, hq]; simp)
        clear hq
        go_wp2_with fail
        go_roundw
        case rel =>
          refine ⟨k + 1, B, cx, vs, G, by omega, by go_num, by rw [HS2.out], ?_, ?_, HBr.out.trans (HB8.out.mono hzr), by omega⟩
          · rw [HS2.out]
            exact ownsRow_below HOwn.out HB8.out fun g hg => (HOwn.out.lt g hg).2
          · rw [HS2.out]
            exact HRl.out.keep fun i hi => HB8.out.block _ (HRl.out.nm i hi).2.lt
        case measure => simp [intOf]; omega
      | true =>
        have HS2 := Lib.hid (show nmL es (k + 1) = F ++ [n1] by rw [HS.out, hq]; simp)
        have z0 := HZ8.out 0 (by simp)
        simp only [List.getElem_cons_zero] at z0
        have HOwn8 := Lib.hid (ownsRow_below HOwn.out HB8.out fun g hg => (HOwn.out.lt g hg).2)
        obtain ⟨i0, hi, hz0, hz1', hz2'⟩ := info_parts Tryz.infoBs
        have hcv := Lib.run_convert_string_bytes (P := Tryz.prog) w8 9 22 5 ⟨n1.toArray⟩ Tryz.underlying9 Tryz.underlying22 Tryz.underlying5
        obtain ⟨W9, hW9⟩ : ∃ W9, W9 = Lib.bytesWorld w8 5 ⟨n1.toArray⟩ := ⟨_, rfl⟩
        obtain ⟨gc, hgc⟩ : ∃ gc, gc = grownCap w8 (ByteArray.size ⟨n1.toArray⟩) 0 5 := ⟨_, rfl⟩
        have hns : ByteArray.size ⟨n1.toArray⟩ = n1.length := by simp [ByteArray.size]
        have hnm := nameAt_bytes w8 n1
        rw [← hW9] at hnm
        rw [← hW9, ← hgc, hns] at hcv
        have HNm := Lib.hid hnm
        have hb9 : Below w8.heap.size w8 W9 := by rw [hW9]; exact below_bytes _ _ _
        have hz9 : w8.heap.size < W9.heap.size := by rw [hW9, Lib.bytesWorld_size]; omega
        have HB9 := Lib.hid (HB8.out.trans (hb9.mono (by omega)))
        have HOwn9 := Lib.hid (ownsRow_below HOwn8.out hb9 fun g hg => (HOwn8.out.lt g hg).2)
        have HRl9 := Lib.hid (show BsRel W9 W2.heap.size F vs G from HRl.out.keep fun i hi => HB9.out.block _ (HRl.out.nm i hi).2.lt)
        clear hq hW9 hb9 hgc hns hnm
        go_wp2_with (at_builtin; refine wpList_append_own _ rfl _ _ 48 rfl W2.heap.size 22 i0 (.slice none 0 0) 1 24 Tryz.underlying48 hi hz0 hz1' hz2' rfl (by decide) _ _ _ rfl (HOwn9.out.alloc _) ⟨W9.heap.size, 0, none⟩ 1 1 [.slice (some ⟨w8.heap.size, 0, none⟩) n1.length gc] rfl rfl ?c1 ?c2 ?c3 ?c4 ?c5 ?_)
        case c1 => exact cell_one_new _ _ _
        case c2 => first | rfl | (intro u hu; simp at hu; subst hu; rfl)
        case c3 => unfold maxLen; omega
        case c4 => omega
        case c5 => first | omega | (simp; omega)
        intro v' w5 hrow5 hgr5 _
        obtain ⟨A5, c5, rfl⟩ := row_shapeN hrow5
        have HRow5 := Lib.hid hrow5
        have HB5 := Lib.hid (((HBr.out.trans (HB9.out.mono hzr)).alloc (by omega) (.cells #[.slice (some ⟨w8.heap.size, 0, none⟩) n1.length gc] 22)).grown hgr5 (by simp; omega) (fun g hg => (HOwn9.out.lt g hg).1))
        have hz5 : W9.heap.size + 1 ≤ w5.heap.size := by simpa using hgr5.size
        have HRl5 := Lib.hid (show BsRel w5 W2.heap.size F vs G from HRl9.out.keep fun i hi => by
          have hlt9 := (HRl9.out.nm i hi).2.lt
          have hne := (HRl9.out.nm i hi).2.neS HOwn9.out
          rw [hgr5.block _ (by rw [World.size_alloc]; omega) (fun e => hne e.symm), heap_alloc_old _ _ hlt9])
        have HNm5 := Lib.hid (show NameAt w5 w8.heap.size n1 from HNm.out.keep (by
          have hne := HNm.out.neS HOwn9.out
          rw [hgr5.block _ (by rw [World.size_alloc]; omega) (fun e => hne e.symm), heap_alloc_old _ _ HNm.out.lt]))
        clear hrow5 hgr5
        go_wp2_with fail
        go_roundw
        case rel =>
          refine ⟨k + 1, A5, c5, vs ++ [.slice (some ⟨w8.heap.size, 0, none⟩) n1.length gc], G ++ [w8.heap.size], by omega, by go_num, by rw [HS2.out]; simp, ?_, ?_, HB5.out, by omega⟩
          · rw [HS2.out, List.length_append]
            exact HRow5.out
          · rw [HS2.out]
            exact HRl5.out.add (by omega) HNm5.out fun i hi => by have := (HRl.out.nm i hi).2.lt; omega
        case measure => simp [intOf]; omega
    · have hke : k = es.length := by omega
      have HL := Lib.hid (show N = nmL es k by rw [HN.out, hke]; rfl)
      have HFin := Lib.hid (HRl.out.own HOwn.out)
      clear hke
      have HO := Lib.hid (HB2.out.trans (HBr.out.mono (by omega)))
      go_wp2_with fail
      go_ret
      exact ⟨B, cx, by rw [HL.out]; rfl, by rw [HL.out]; exact HFin.out.mono (by omega) (Nat.le_refl _), HO.out⟩


end Go.Proofs.YtepkicgnhjaokaaGreatDoor

namespace Go.Proofs.YtepkicgnhjaokaaGreatDoor
open Go.RowKit Go.Maps

theorem dec_tail (s : ByteArray) (pos : Nat) (h : pos < s.size) (ha : 128 ≤ (s[pos]'h).toNat) (hr : (Utf8.decode s pos).1 ≠ 65533) : ∀ j, j < (Utf8.decode s pos).2 → 128 ≤ (s.get! (pos + j)).toNat := by
  have e0 : s.get! (pos + 0) = s[pos]'h := by
    show s.get! pos = _
    simp [ByteArray.get!, getElem!_pos, h]
    rfl
  have hn : ¬ (s[pos]'h).toNat < 128 := by omega
  have k0 : 128 ≤ (s.get! (pos + 0)).toNat := by rw [e0]; exact ha
  simp only [Utf8.decode, e0, hn, if_false] at hr ⊢
  split at hr
  · rename_i hc
    simp only [Bool.and_eq_true, beq_iff_eq, decide_eq_true_eq] at hc
    rw [if_pos (by simpa using hc)]
    split at hr
    · rename_i hc2
      rw [if_pos hc2]
      intro j hj
      have : j = 0 ∨ j = 1 := by simp at hj; omega
      rcases this with rfl | rfl
      · exact k0
      · omega
    · exact absurd rfl hr
  · rename_i hc
    rw [if_neg hc]
    split at hr
    · rename_i hc
      simp only [Bool.and_eq_true, beq_iff_eq, decide_eq_true_eq] at hc
      rw [if_pos (by simpa using hc)]
      split at hr
      · rename_i hc2
        rw [if_pos hc2]
        intro j hj
        have : j = 0 ∨ j = 1 ∨ j = 2 := by simp at hj; omega
        rcases this with rfl | rfl | rfl
        · exact k0
        · omega
        · omega
      · exact absurd rfl hr
    · rename_i hc
      rw [if_neg hc]
      split at hr
      · rename_i hc
        simp only [Bool.and_eq_true, beq_iff_eq, decide_eq_true_eq] at hc
        rw [if_pos (by simpa using hc)]
        split at hr
        · rename_i hc2
          rw [if_pos hc2]
          intro j hj
          have : j = 0 ∨ j = 1 ∨ j = 2 ∨ j = 3 := by simp at hj; omega
          rcases this with rfl | rfl | rfl | rfl
          · exact k0
          · omega
          · omega
          · omega
        · exact absurd rfl hr
      · exact absurd rfl hr

/-- A name that was read to its end has no tilde. -/
theorem scan_tilde (s : ByteArray) : ∀ (f pos n m : Nat), scan s f pos n = some m → s.size ≤ pos + f → ∀ j, pos ≤ j → j < s.size → (s.get! j).toNat ≠ 126
  | 0, pos, n, m, _, hf, j, h1, h2 => by omega
  | f + 1, pos, n, m, hs, hf, j, h1, h2 => by
    unfold scan at hs
    have hp : pos < s.size := by omega
    rw [if_pos hp] at hs
    by_cases hb : badRune ((Utf8.decode s pos).1 : Int) = true
    · rw [if_pos hb] at hs
      cases hs
    · rw [if_neg hb] at hs
      have hw := wd_pos s pos hp
      obtain ⟨_, _, b1, b2⟩ := badRune_false (by simpa using hb)
      have c1 : (Utf8.decode s pos).1 ≠ 126 := fun e => by rw [e] at b1; cases b1
      have c2 : (Utf8.decode s pos).1 ≠ 65533 := fun e => by rw [e] at b2; cases b2
      by_cases hj : j < pos + (Utf8.decode s pos).2
      · by_cases ha : (s[pos]'hp).toNat < 128
        · rw [decode_ascii s pos hp ha] at hj c1
          have : j = pos := by simp at hj; omega
          subst this
          have e : s.get! j = s[j]'hp := by
            simp [ByteArray.get!, getElem!_pos, hp]
            rfl
          rw [e]
          exact c1
        · have := dec_tail s pos hp (by omega) c2 (j - pos) (by omega)
          rw [show pos + (j - pos) = j by omega] at this
          omega
      · exact scan_tilde s f _ _ m hs (by omega) j (by omega) h2
theorem name_tilde {l : List UInt8} (h : nameB l = true) : (126 : UInt8) ∉ l := by
  intro hm
  obtain ⟨j, hj, he⟩ := List.getElem_of_mem hm
  unfold nameB at h
  split at h
  · cases h
  · rename_i m hs
    have := scan_tilde ⟨l.toArray⟩ l.length 0 0 m hs (by show l.toArray.size ≤ _; simp) j (Nat.zero_le _) (by show j < l.toArray.size; simpa using hj)
    apply this
    have e : (ByteArray.mk l.toArray).get! j = l[j] := by
      simp [ByteArray.get!, hj]
    rw [e, he]
    rfl

theorem dig_ok : ∀ n : Nat, ∀ x ∈ Lib.decDigits n, 48 ≤ x.toNat ∧ x.toNat ≤ 57 := by
  intro n
  induction n using Nat.strongRecOn with
  | ind n ih =>
    intro x hx
    rw [Lib.decDigits] at hx
    split at hx
    · simp only [List.mem_singleton] at hx
      subst hx
      rw [UInt8.toNat_ofNat']
      omega
    · rcases List.mem_append.1 hx with h | h
      · exact ih (n / 10) (by omega) x h
      · simp only [List.mem_singleton] at h
        subst h
        rw [UInt8.toNat_ofNat']
        omega
theorem dig_pos (n : Nat) : 0 < (Lib.decDigits n).length := by
  rw [Lib.decDigits]
  split <;> simp
theorem ofNat_inj8 {a b : Nat} (h : UInt8.ofNat a = UInt8.ofNat b) (ha : a < 256) (hb : b < 256) : a = b := by
  have h1 : (UInt8.ofNat a).toNat = (UInt8.ofNat b).toNat := by rw [h]
  rw [UInt8.toNat_ofNat', UInt8.toNat_ofNat'] at h1
  omega
theorem dig_inj : ∀ a b : Nat, Lib.decDigits a = Lib.decDigits b → a = b := by
  intro a
  induction a using Nat.strongRecOn with
  | ind a ih =>
    intro b h
    have ea : Lib.decDigits a = if a < 10 then [UInt8.ofNat (48 + a)] else Lib.decDigits (a / 10) ++ [UInt8.ofNat (48 + a % 10)] := by rw [Lib.decDigits]; rfl
    have eb : Lib.decDigits b = if b < 10 then [UInt8.ofNat (48 + b)] else Lib.decDigits (b / 10) ++ [UInt8.ofNat (48 + b % 10)] := by rw [Lib.decDigits]; rfl
    rw [ea, eb] at h
    clear ea eb
    split at h
    · split at h
      · injection h with h _
        have := ofNat_inj8 h (by omega) (by omega)
        omega
      · have h3 := congrArg List.length h
        have h4 := dig_pos (b / 10)
        simp only [List.length_append, List.length_cons, List.length_nil] at h3
        omega
    · split at h
      · have h3 := congrArg List.length h
        have h4 := dig_pos (a / 10)
        simp only [List.length_append, List.length_cons, List.length_nil] at h3
        omega
      · obtain ⟨h1, h2⟩ := List.append_inj' h rfl
        have := ih (a / 10) (by omega) (b / 10) h1
        injection h2 with h2 _
        have := ofNat_inj8 h2 (by omega) (by omega)
        omega
theorem split_one (x : UInt8) : ∀ (l1 l2 r1 r2 : List UInt8), x ∉ l1 → x ∉ l2 → l1 ++ x :: r1 = l2 ++ x :: r2 → l1 = l2 ∧ r1 = r2
  | [], [], r1, r2, _, _, h => by
    injection h with _ h
    exact ⟨rfl, h⟩
  | [], y :: l2, r1, r2, _, h2, h => by
    injection h with h _
    exact absurd h2 (by simp [h])
  | y :: l1, [], r1, r2, h1, _, h => by
    injection h with h _
    exact absurd h1 (by simp [h])
  | y :: l1, z :: l2, r1, r2, h1, h2, h => by
    injection h with h h'
    subst h
    obtain ⟨e1, e2⟩ := split_one x l1 l2 r1 r2 (fun k => h1 (by simp [k])) (fun k => h2 (by simp [k])) h'
    exact ⟨by rw [e1], e2⟩
theorem dot_not (n : Nat) : (46 : UInt8) ∉ Lib.decDigits n := fun h => by
  have := (dig_ok n 46 h).1
  exact absurd this (by decide)
theorem sufx_inj {d m d' m' : Int} (h : sufx d m = sufx d' m') (hd : 0 ≤ d) (hm : 0 ≤ m) (hd' : 0 ≤ d') (hm' : 0 ≤ m') : d = d' ∧ m = m' := by
  unfold sufx at h
  injection h with _ h
  obtain ⟨h1, h2⟩ := split_one 46 _ _ _ _ (dot_not _) (dot_not _) h
  have := dig_inj _ _ h1
  have := dig_inj _ _ h2
  omega
theorem pla_le {e f : En} (h : plaV e f < 0) : Lib.compareBytes e.name f.name ≤ 0 := by
  unfold plaV or3 at h
  by_cases hc : Lib.compareBytes e.name f.name = 0
  · omega
  · simp [hc] at h
    omega
/-- Names of files are their own. -/
theorem vw_own {vec : List Int} {es : List En} (ht : treeB vec es = true) {k i : Nat} (hk : k < i) (hi : i < es.length) : vwName es i ≠ vwName es k := by
  have ho := tree_tok ht
  have hn := tree_names ht
  have hki : k < es.length := by omega
  have gi : es.getD i default = es[i] := by rw [List.getD_eq_getElem?_getD, List.getElem?_eq_getElem hi]; rfl
  have gk : es.getD k default = es[k] := by rw [List.getD_eq_getElem?_getD, List.getElem?_eq_getElem hki]; rfl
  have ti := name_tilde (hn es[i] (List.getElem_mem hi))
  have tk := name_tilde (hn es[k] (List.getElem_mem hki))
  have hord := (List.pairwise_iff_getElem.1 ho) k i hki hi hk
  have hdi := tree_dev ht es[i] (List.getElem_mem hi)
  have hdk := tree_dev ht es[k] (List.getElem_mem hki)
  have hnum : ∀ e ∈ es, 0 ≤ e.num := fun e he => by
    have hf := tok_fit (tree_parts ht).2.2 e he
    unfold fitB at hf
    simp only [Bool.and_eq_true, decide_eq_true_eq] at hf
    have := hf.1.2
    omega
  intro he
  unfold vwName at he
  rw [gi, gk] at he
  cases hsi : stB es i with
  | true =>
    rw [hsi] at he
    simp only [if_true, List.append_nil] at he
    cases hsk : stB es k with
    | true =>
      rw [hsk] at he
      simp only [if_true, List.append_nil] at he
      unfold stB at hsi
      have gp : es.getD (i - 1) default = es[i - 1] := by rw [List.getD_eq_getElem?_getD, List.getElem?_eq_getElem (by omega)]; rfl
      rw [gi, gp, decide_eq_false (show ¬ i = 0 by omega), Bool.false_or, Bool.not_eq_true', beq_eq_false_iff_ne] at hsi
      by_cases hk1 : k = i - 1
      · subst hk1
        exact hsi he.symm
      · have o1 := pla_le ((List.pairwise_iff_getElem.1 ho) k (i - 1) hki (by omega) (by omega))
        have o2 := pla_le ((List.pairwise_iff_getElem.1 ho) (i - 1) i (by omega) hi (by omega))
        rw [← he] at o1
        have o3 := cb_anti es[i].name es[i - 1].name
        exact hsi (cb_eq _ _ (by omega))
    | false =>
      rw [hsk] at he
      apply ti
      rw [he]
      simp [sufx]
  | false =>
    rw [hsi] at he
    cases hsk : stB es k with
    | true =>
      rw [hsk] at he
      simp only [if_true, List.append_nil] at he
      apply tk
      rw [← he]
      simp [sufx]
    | false =>
      rw [hsk] at he
      simp only [Bool.false_eq_true, if_false] at he
      have he2 : es[i].name ++ 126 :: (Lib.decDigits es[i].dev.toNat ++ 46 :: Lib.decDigits es[i].num.toNat) = es[k].name ++ 126 :: (Lib.decDigits es[k].dev.toNat ++ 46 :: Lib.decDigits es[k].num.toNat) := he
      obtain ⟨e1, e2⟩ := split_one 126 _ _ _ _ ti tk he2
      have e3 : sufx es[i].dev es[i].num = sufx es[k].dev es[k].num := by unfold sufx; rw [e2]
      obtain ⟨e4, e5⟩ := sufx_inj e3 hdi.1 (hnum _ (List.getElem_mem hi)) hdk.1 (hnum _ (List.getElem_mem hki))
      have := deeds_one (tree_parts ht).2.2 hi hki e4 e5
      omega
/-- The first by a name is the latest. -/
theorem vw_late {vec : List Int} {es : List En} (ht : treeB vec es = true) {i : Nat} (hi : i + 1 < es.length) (hn : es[i].name = es[i + 1].name) : ¬ es[i].num < es[i + 1].num := by
  have h := (List.pairwise_iff_getElem.1 (tree_tok ht)) i (i + 1) (by omega) hi (by omega)
  intro hlt
  unfold plaV or3 cmpI at h
  rw [hn, cb_self] at h
  simp at h
  omega

end Go.Proofs.YtepkicgnhjaokaaGreatDoor

namespace Go.Proofs.YtepkicgnhjaokaaGreatDoor
open Go.RowKit Go.Maps

/-- Two cells of a variable that held slices turn. -/
theorem tk_two {w w' : World} {t : Tt} (h : TdIn w 0 t) {b : Nat} {A0 A1 : Option Addr} {n0 c0 n1 c1 : Nat} (h0 : w.cell? ⟨b, 0, none⟩ = some (.slice A0 n0 c0)) (h1 : w.cell? ⟨b, 1, none⟩ = some (.slice A1 n1 c1)) (h2 : w.cell? ⟨b, 2, none⟩ = none)
    (hs : w.heap.size ≤ w'.heap.size) (hk : ∀ p : Addr, p ≠ ⟨b, 0, none⟩ → p ≠ ⟨b, 1, none⟩ → w'.cell? p = w.cell? p) : TdIn w' 0 t := by
  have hint : ∀ (p : Addr) (k : IntKind) (y : Int), w.cell? p = some (.int k y) → w'.cell? p = some (.int k y) := fun p k y hp => by
    refine (hk p (fun e => ?_) (fun e => ?_)).trans hp
    · rw [e, h0] at hp; cases hp
    · rw [e, h1] at hp; cases hp
  refine ⟨fun hl => ?_, fun hl => ?_, h.cap, h.len, h.few, h.bulk⟩
  · obtain ⟨b, o, e, h1, h2, hc⟩ := h.v hl
    exact ⟨b, o, e, h1, by omega, fun j hj => hint _ _ _ (hc j hj)⟩
  · obtain ⟨g, o, e, h3, h4, hc⟩ := h.e hl
    refine ⟨g, o, e, h3, by omega, fun i hi => ?_⟩
    obtain ⟨A', c', k0, k1, k2, k3, k4⟩ := hc i hi
    refine ⟨A', c', ?_, hint _ _ _ k1, hint _ _ _ k2, hint _ _ _ k3, fun hl => ?_⟩
    · refine (hk _ (fun e => ?_) (fun e => ?_)).trans k0
      · injection e with e1 e2
        subst e1
        rw [e2, h1] at k1
        cases k1
      · injection e with e1 e2
        subst e1
        rw [e2, h2] at k1
        cases k1
    · obtain ⟨b', o', e', h5, h6, hc'⟩ := k4 hl
      exact ⟨b', o', e', h5, by omega, fun j hj => hint _ _ _ (hc' j hj)⟩
theorem tk_set2 {w : World} {t : Tt} (h : TdIn w 0 t) {b : Nat} {A0 A1 : Option Addr} {n0 c0 n1 c1 : Nat} (h0 : w.cell? ⟨b, 0, none⟩ = some (.slice A0 n0 c0)) (h1 : w.cell? ⟨b, 1, none⟩ = some (.slice A1 n1 c1)) (h2 : w.cell? ⟨b, 2, none⟩ = none) (v0 v1 : Value) : TdIn ((w.setCell ⟨b, 0, none⟩ v0).setCell ⟨b, 1, none⟩ v1) 0 t :=
  tk_two h h0 h1 h2 (by simp) fun _ hp hp2 => (World.cell?_setCell_other _ _ _ _ (Ne.symm hp2)).trans (World.cell?_setCell_other _ _ _ _ (Ne.symm hp))
theorem tk_third (w : World) (v0 v1 : Value) (t : TypeId) : (w.alloc (.cells #[v0, v1] t)).cell? ⟨w.heap.size, 2, none⟩ = none := by
  have hh := heap_alloc_new w (.cells #[v0, v1] t)
  rw [World.cell?, hh]
  rfl

set_option maxRecDepth 100000 in
set_option maxHeartbeats 1000000 in
theorem drawCopies_any (A : Option Addr) (c : Nat) (code : List UInt8) (w : World) (hA : BytesIn w 0 w.heap.size A code) (hn : code.length ≤ 9223372036854775807) :
    Calls Tryz.prog 25 #[.slice A code.length c] w (NewOne w) := by
  have HA := Lib.hid hA
  clear hA
  go_enter Tryz.func25, Tryz.ntmps25
  go_wp2_with fail
  obtain ⟨W0, hW0⟩ : ∃ x, x = w.alloc (.cells #[.slice none 0 0, .slice none 0 0] 26) := ⟨_, rfl⟩
  have hb0 : Below w.heap.size w W0 := by rw [hW0]; exact (Below.refl _ _).alloc (Nat.le_refl _) _
  have hz0 : w.heap.size < W0.heap.size := by rw [hW0]; simp
  obtain ⟨q0, q1, q2⟩ : W0.cell? ⟨w.heap.size, 0, none⟩ = some (.slice none 0 0) ∧ W0.cell? ⟨w.heap.size, 1, none⟩ = some (.slice none 0 0) ∧ ∀ o, W0.frozen? ⟨w.heap.size, o, none⟩ = false := by rw [hW0]; exact two_new _ _ _ _
  have q3 : W0.cell? ⟨w.heap.size, 2, none⟩ = none := by rw [hW0]; exact tk_third _ _ _ _
  have HB0 := Lib.hid hb0
  rw [← hW0]
  clear hW0 hb0
  refine (drawView_any A c code W0 ((HA.out.below HB0.out).mono (by omega)) hn).mono ?_
  rintro e w6 ⟨t, rfl, ht, hb⟩
  have hz6 := hb.size
  have ra0 := (hb.cell (p := ⟨w.heap.size, 0, none⟩) hz0).trans q0
  have ra1 := (hb.cell (p := ⟨w.heap.size, 1, none⟩) hz0).trans q1
  have r2 := (hb.cell (p := ⟨w.heap.size, 2, none⟩) hz0).trans q3
  have rfa0 := (hb.frozen (p := ⟨w.heap.size, 0, none⟩) hz0).trans (q2 0)
  have rfa1 := (hb.frozen (p := ⟨w.heap.size, 1, none⟩) hz0).trans (q2 1)
  have lra : w.heap.size < w6.heap.size := by omega
  have HFin := Lib.hid (show NewOne w (.returned (.agg #[.slice t.AV t.vec.length t.cv, .slice t.A t.es.length t.c])) ((w6.setCell ⟨w.heap.size, 0, none⟩ (.slice t.AV t.vec.length t.cv)).setCell ⟨w.heap.size, 1, none⟩ (.slice t.A t.es.length t.c)) from
    ⟨t, rfl, tk_set2 ht ra0 ra1 r2 _ _, (((HB0.out.trans (hb.mono (by omega))).setCell (Nat.le_refl _) _).setCell (Nat.le_refl _) _)⟩)
  have HG := Lib.hid (two_get (v0 := .slice t.AV t.vec.length t.cv) (v1 := .slice t.A t.es.length t.c) ra0 ra1)
  clear ht hb q0 q1 q2 q3 r2 HB0
  go_wp2_with fail
  obtain ⟨g0, g1⟩ := HG.out
  refine bodyPost_ret (v := .agg #[.slice t.AV t.vec.length t.cv, .slice t.A t.es.length t.c]) (by simp [results, Tryz.results25, g0, g1, go_sem]) rfl ?_
  exact HFin.out

end Go.Proofs.YtepkicgnhjaokaaGreatDoor

namespace Go.Proofs.YtepkicgnhjaokaaGreatDoor
open Go.RowKit Go.Maps

theorem en_getD {es : List En} {i : Nat} (hi : i < es.length) : es.getD i default = es[i] := by rw [List.getD_eq_getElem?_getD, List.getElem?_eq_getElem hi]; rfl
theorem nm_le {vec : List Int} {es : List En} (ht : treeB vec es = true) {a b : Nat} (hab : a ≤ b) (hb : b < es.length) : Lib.compareBytes (es.getD a default).name (es.getD b default).name ≤ 0 := by
  by_cases h : a = b
  · subst h
    rw [cb_self]
    exact Int.le_refl _
  · rw [en_getD hb, en_getD (show a < es.length by omega)]
    exact pla_le ((List.pairwise_iff_getElem.1 (tree_tok ht)) a b (by omega) hb (by omega))
theorem nm_lt {vec : List Int} {es : List En} (ht : treeB vec es = true) {a b : Nat} (hab : a < b) (hb : b < es.length) (hs : stB es b = true) : Lib.compareBytes (es.getD a default).name (es.getD b default).name < 0 := by
  have h1 := nm_le ht (show a ≤ b - 1 by omega) (by omega)
  have h2 := nm_le ht (show b - 1 ≤ b by omega) hb
  have h3 : Lib.compareBytes (es.getD (b - 1) default).name (es.getD b default).name ≠ 0 := fun h => by
    have he := cb_eq _ _ h
    unfold stB at hs
    rw [he, decide_eq_false (show ¬ b = 0 by omega)] at hs
    simp at hs
  exact (cb_trans _ _ _).2.1 h1 (by omega)
theorem nmL_mem {es : List En} {k : Nat} {x : List UInt8} (h : x ∈ nmL es k) : ∃ a, a < k ∧ x = (es.getD a default).name := by
  unfold nmL at h
  obtain ⟨a, ha, rfl⟩ := List.mem_map.1 h
  exact ⟨a, by simpa using (List.mem_filter.1 ha).1, rfl⟩
theorem nmL_length (es : List En) (k : Nat) : (nmL es k).length = nmC es k := by simp [nmL, nmC]
theorem nmL_inc {vec : List Int} {es : List En} (ht : treeB vec es = true) : ∀ k, k ≤ es.length → (nmL es k).Pairwise fun x y => Lib.compareBytes x y < 0
  | 0, _ => by simp [nmL]
  | k + 1, hk => by
    rw [nmL_succ]
    refine List.pairwise_append.2 ⟨nmL_inc ht k (by omega), ?_, fun x hx y hy => ?_⟩
    · split <;> simp
    · split at hy
      · rename_i hs
        obtain ⟨a, ha, rfl⟩ := nmL_mem hx
        rw [List.mem_singleton.1 hy]
        exact nm_lt ht ha (by omega) hs
      · simp at hy
theorem nmL_all {es : List En} : ∀ k a, a < k → (es.getD a default).name ∈ nmL es k
  | 0, a, h => by omega
  | k + 1, a, h => by
    rw [nmL_succ]
    by_cases hak : a < k
    · exact List.mem_append_left _ (nmL_all k a hak)
    · obtain rfl : a = k := by omega
      by_cases hs : stB es a = true
      · rw [if_pos hs]
        simp
      · have hs' := hs
        unfold stB at hs'
        simp only [Bool.or_eq_true, decide_eq_true_eq, Bool.not_eq_true', beq_eq_false_iff_ne, not_or, Decidable.not_not] at hs'
        rw [← hs'.2]
        exact List.mem_append_left _ (nmL_all a (a - 1) (by omega))

/-- How many entries there are by the names of a list. -/
def cnS (es : List En) : List (List UInt8) → Nat
  | [] => 0
  | n :: L => (ofName n es).length + cnS es L
theorem cnS_app (es : List En) (n : List UInt8) : ∀ L, cnS es (L ++ [n]) = cnS es L + (ofName n es).length
  | [] => by simp [cnS]
  | m :: L => by
    have := cnS_app es n L
    simp only [List.cons_append, cnS] at this ⊢
    omega
theorem cnS_take (es : List En) (L : List (List UInt8)) {k : Nat} (hk : k < L.length) : cnS es (L.take (k + 1)) = cnS es (L.take k) + (ofName L[k] es).length := by
  rw [← cnS_app, List.take_append_getElem hk]
theorem cnS_take_le (es : List En) (L : List (List UInt8)) (k : Nat) : cnS es (L.take k) ≤ cnS es L := by
  induction L generalizing k with
  | nil => simp
  | cons n L ih =>
    cases k with
    | zero => simp [cnS]
    | succ k =>
      have := ih k
      simp only [List.take_succ_cons, cnS]
      omega
def cn1 (x : List UInt8) : List (List UInt8) → Nat
  | [] => 0
  | n :: L => (if x = n then 1 else 0) + cn1 x L
theorem cn1_no (x : List UInt8) : ∀ L, x ∉ L → cn1 x L = 0
  | [], _ => rfl
  | n :: L, h => by
    have h1 := cn1_no x L (fun k => h (List.mem_cons_of_mem _ k))
    have h2 : x ≠ n := fun k => h (by simp [k])
    simp [cn1, h1, h2]
theorem cn1_one (x : List UInt8) : ∀ L, L.Pairwise (fun a b => Lib.compareBytes a b < 0) → x ∈ L → cn1 x L = 1
  | [], _, h => by simp at h
  | n :: L, hp, h => by
    obtain ⟨h1, h2⟩ := List.pairwise_cons.1 hp
    by_cases hx : x = n
    · subst hx
      have : x ∉ L := fun k => by
        have := h1 x k
        rw [cb_self] at this
        omega
      simp [cn1, cn1_no x L this]
    · have h3 : x ∈ L := by
        rcases List.mem_cons.1 h with k | k
        · exact absurd k hx
        · exact k
      simp [cn1, hx, cn1_one x L h2 h3]
theorem cnS_cons (e : En) (es : List En) : ∀ L, cnS (e :: es) L = cn1 e.name L + cnS es L
  | [] => rfl
  | n :: L => by
    have h := cnS_cons e es L
    simp only [cnS, cn1, h]
    by_cases hn : e.name = n
    · simp [ofName, hn]
      omega
    · simp [ofName, hn]
      omega
theorem cnS_nil : ∀ L, cnS [] L = 0
  | [] => rfl
  | n :: L => by simp [cnS, cnS_nil L, ofName]
theorem cnS_all (L : List (List UInt8)) (hp : L.Pairwise (fun a b => Lib.compareBytes a b < 0)) : ∀ es : List En, (∀ e ∈ es, e.name ∈ L) → cnS es L = es.length
  | [], _ => cnS_nil L
  | e :: es, h => by
    rw [cnS_cons, cn1_one _ L hp (h e (by simp)), cnS_all L hp es (fun f hf => h f (by simp [hf]))]
    simp
    omega

/-- The names of a tree that can be: each is there, with a value that can be. -/
theorem names_sum {vec : List Int} {es : List En} (ht : treeB vec es = true) : cnS es (nmL es es.length) = es.length :=
  cnS_all _ (nmL_inc ht _ (Nat.le_refl _)) es fun e he => by
    obtain ⟨i, hi, rfl⟩ := List.getElem_of_mem he
    have := nmL_all (es := es) es.length i hi
    rw [en_getD hi] at this
    exact this
theorem names_at {vec : List Int} {es : List En} (ht : treeB vec es = true) {k : Nat} (hk : k < (nmL es es.length).length) : 0 < (ofName (nmL es es.length)[k] es).length ∧ 0 ≤ firstV (ofName (nmL es es.length)[k] es) := by
  obtain ⟨a, ha, he⟩ := nmL_mem (List.getElem_mem hk)
  rw [en_getD ha] at he
  have hm : es[a] ∈ ofName (nmL es es.length)[k] es := List.mem_filter.2 ⟨List.getElem_mem ha, by simp [he]⟩
  refine ⟨List.length_pos_of_mem hm, ?_⟩
  cases h : ofName (nmL es es.length)[k] es with
  | nil => simp [firstV]
  | cons f L =>
    have hf : f ∈ es := (List.mem_filter.1 (show f ∈ ofName (nmL es es.length)[k] es by rw [h]; simp)).1
    have hq := tok_fit (tree_parts ht).2.2 f hf
    unfold fitB at hq
    simp only [Bool.and_eq_true, decide_eq_true_eq] at hq
    simp only [firstV]
    exact hq.1.1.1.1
theorem names_lt {vec : List Int} {es : List En} (ht : treeB vec es = true) {k : Nat} (hk : k + 1 < (nmL es es.length).length) : Lib.compareBytes (nmL es es.length)[k] (nmL es es.length)[k + 1] < 0 :=
  (List.pairwise_iff_getElem.1 (nmL_inc ht _ (Nat.le_refl _))) k (k + 1) (by omega) hk (by omega)

end Go.Proofs.YtepkicgnhjaokaaGreatDoor
