/-
  Several texts in one: ThoO, MgT, EqE, Idx, MgC, Ctr, Cat.
-/
import Derived.Test.YtepkicgnhjaokaaGreatDoorThoseN
import Derived.Test.YtepkicgnhjaokaaGreatDoorCmp
import Derived.Laws.StructEq
import Derived.Test.YtepkicgnhjaokaaGreatDoorRdTr
import Derived.Test.YtepkicgnhjaokaaGreatDoorKept
import Derived.Deep.RegionLaw
import Derived.Deep.CutRange
import Derived.StillTailTactics
import Derived.Test.YtepkicgnhjaokaaGreatDoorFit
import Derived.Lib.AppendZerosOnto
import Derived.Lib.Walk
import Derived.Test.YtepkicgnhjaokaaGreatDoorGOw
namespace Go.Proofs.YtepkicgnhjaokaaGreatDoor
open Go.RowKit Go.Maps

theorem ownsRow_lowE {w : World} {base base' size n : Nat} {e : TypeId} {v : Value} {xs : List Value} (h : w.ownsRow base e size v n xs) (hb : base' ≤ base) : w.ownsRow base' e size v n xs := by
  obtain ⟨h0, hh | ⟨g, cap, cur, hv, hg, hr⟩⟩ := h
  · exact ⟨h0, .inl hh⟩
  · exact ⟨h0, .inr ⟨g, cap, cur, hv, Nat.le_trans hb hg, hr⟩⟩

set_option maxRecDepth 100000 in
set_option maxHeartbeats 4000000 in
theorem those_notNamedO (a b c d : Int) (A : Option Addr) (es : List En) (cap : Nat) (p : Nat) (Ab : Option Addr) (l : List UInt8) (cb : Nat) (w : World) (hA : EvsIn w 0 w.heap.size A es) (hn : es.length ≤ 12) (hp : w.cell? ⟨p, 0, none⟩ = some (.slice Ab l.length cb)) (hB : BytesIn w 0 w.heap.size Ab l) :
    Calls Tryz.prog 64 #[.agg #[.int .i64 a, .int .i64 b, .int .i64 c, .int .i64 d, .slice A es.length cap], .func (.func 65) #[] #[.pointer (some ⟨p, 0, none⟩)]] w
      fun r w' => ∃ A' c', r = .returned (.slice A' (notName l es).length c') ∧ w'.ownsRow w.heap.size 74 4 (.slice A' (notName l es).length c') (notName l es).length ((notName l es).flatMap encE) ∧ Below w.heap.size w w' := by
  have HA := Lib.hid hA
  have HB := Lib.hid hB
  have hps := World.block_lt_of_cell? w _ hp
  have hps' : p < w.heap.size := hps
  have HP := Lib.hid hp
  clear hA hB hp hps
  go_enter Tryz.func64, Tryz.ntmps64
  go_wp2_with fail
  obtain ⟨W, hW⟩ : ∃ W, W = w.alloc (.cells #[.int .i64 a, .int .i64 b, .int .i64 c, .int .i64 d, .slice A es.length cap] 66) := ⟨_, rfl⟩
  have HBel := Lib.hid (show Below w.heap.size w W by rw [hW]; exact (Below.refl _ _).alloc (Nat.le_refl _) _)
  have hzW : w.heap.size < W.heap.size := by rw [hW]; simp
  rw [← hW]
  clear hW
  go_loopw [5, 11] (fun x i wr => ∃ (k : Nat) (A' : Option Addr) (c' : Nat), k ≤ es.length ∧ i = .int .i64 k ∧ x = .slice A' (notName l (es.take k)).length c' ∧ wr.ownsRow W.heap.size 74 4 (.slice A' (notName l (es.take k)).length c') (notName l (es.take k)).length ((notName l (es.take k)).flatMap encE) ∧ Below W.heap.size W wr ∧ W.heap.size ≤ wr.heap.size) (fun _ i _ => es.length - (intOf i).toNat)
  case atStart => exact ⟨0, none, 0, Nat.zero_le _, rfl, rfl, World.ownsRow_nil _ _ _ _, Below.refl _ _, Nat.le_refl _⟩
  case round =>
    obtain ⟨k, A', c', hk, rfl, rfl, hown, hbel, hzr⟩ := hrel
    have HOwn := Lib.hid hown
    have HBr := Lib.hid hbel
    have HOr := Lib.hid (show Below w.heap.size w wr from HBel.out.trans (hbel.mono (by omega)))
    clear hown hbel
    by_cases hlt : k < es.length
    · obtain ⟨bA, oA, hAe, _, hbA, hcA⟩ := HA.out (by omega)
      obtain ⟨c0, c1, c2, c3⟩ := (hcA k hlt).keep (w' := wr) fun o => HOr.out.cell hbA
      obtain ⟨e, he⟩ : ∃ e, e = es[k] := ⟨_, rfl⟩
      rw [← he] at c0 c1 c2 c3
      have HS := Lib.hid (notName_succ l es k hlt)
      rw [← he] at HS
      have hkl : (notName l (es.take k)).length ≤ k := Nat.le_trans (notName_le _ _) (by simp; omega)
      obtain ⟨F, hF⟩ : ∃ F, F = notName l (es.take k) := ⟨_, rfl⟩
      rw [← hF] at HS hkl HOwn ⊢
      subst hAe
      clear hcA he hF
      obtain ⟨n1, v1, d1, m1⟩ := e
      simp only at c0 c1 c2 c3
      have hnd := fun W hp hB => notNamed1_any ⟨n1, v1, d1, m1⟩ p Ab l cb W hp hB
      unfold ev at hnd
      simp only at hnd
      have HNd := Lib.hid hnd
      clear hnd
      have hlt' : (k : Int) < (es.length : Int) := by omega
      go_wp2_with fail
      obtain ⟨W7, hW7⟩ : ∃ W7, W7 = wr.alloc (.cells #[.string ⟨n1.toArray⟩, .int .i64 v1, .int .i64 d1, .int .i64 m1] 74) := ⟨_, rfl⟩
      have HZ7 := Lib.hid (show Bx W7 wr.heap.size [.string ⟨n1.toArray⟩, .int .i64 v1, .int .i64 d1, .int .i64 m1] by rw [hW7]; exact Bx.new' _ _ _ _ rfl)
      have HB7 := Lib.hid (show Below wr.heap.size wr W7 by rw [hW7]; exact (Below.refl _ _).alloc (Nat.le_refl _) _)
      have hz7 : wr.heap.size < W7.heap.size := by rw [hW7]; simp
      rw [← hW7]
      clear hW7 c0 c1 c2 c3
      have HO7 := Lib.hid (show Below w.heap.size w W7 from HOr.out.trans (HB7.out.mono (by omega)))
      refine (HNd.out W7 ((HO7.out.cell (p := ⟨p, 0, none⟩) hps').trans HP.out) ((HB.out.keep fun p _ hp => HO7.out.cell hp).mono (by omega))).mono ?_
      rintro r w8 ⟨rfl, hb8⟩
      have HZ8 := Lib.hid (HZ7.out.below hb8 hz7)
      have HB8 := Lib.hid (HB7.out.trans (hb8.mono (by omega)))
      have hz8 := hb8.size
      clear hb8
      cases hq : (n1 == l) with
      | true =>
        have HS2 := Lib.hid (show notName l (es.take (k + 1)) = F by rw [HS.out]; simp [hq])
        clear hq
        go_wp2_with fail
        go_roundw
        case rel =>
          refine ⟨k + 1, A', c', by omega, by go_num, by rw [HS2.out], ?_, HBr.out.trans (HB8.out.mono hzr), by omega⟩
          rw [HS2.out]
          exact ownsRow_below HOwn.out HB8.out fun g hg => (HOwn.out.lt g hg).2
        case measure => simp [intOf]; omega
      | false =>
        have HS2 := Lib.hid (show notName l (es.take (k + 1)) = F ++ [⟨n1, v1, d1, m1⟩] by rw [HS.out]; simp [hq])
        have z0 := HZ8.out 0 (by simp)
        have z1 := HZ8.out 1 (by simp)
        have z2 := HZ8.out 2 (by simp)
        have z3 := HZ8.out 3 (by simp)
        simp only [List.getElem_cons_succ, List.getElem_cons_zero] at z0 z1 z2 z3
        have HOwn8 := Lib.hid (ownsRow_below HOwn.out HB8.out fun g hg => (HOwn.out.lt g hg).2)
        obtain ⟨i0, hi, hz0, hz1', hz2'⟩ := info_parts Tryz.infoEnt
        clear hq
        go_wp2_with (at_builtin; refine wpList_append_own _ rfl _ _ 64 rfl W.heap.size 74 i0 (.agg #[.string ⟨#[]⟩, .int .i64 0, .int .i64 0, .int .i64 0]) 4 40 Tryz.underlying64 hi hz0 hz1' hz2' rfl (by decide) _ _ _ rfl (HOwn8.out.alloc _) ⟨w8.heap.size, 0, none⟩ 1 1 [.string ⟨n1.toArray⟩, .int .i64 v1, .int .i64 d1, .int .i64 m1] rfl rfl ?c1 ?c2 ?c3 ?c4 ?c5 ?_)
        case c1 => exact new4 _ _ _ _ _ _
        case c2 => intro u hu; simp at hu; rcases hu with rfl | rfl | rfl | rfl <;> rfl
        case c3 => unfold maxLen; omega
        case c4 => omega
        case c5 => simp; omega
        intro v' w9 hrow9 hgr9 _
        obtain ⟨A9, c9, rfl⟩ := row_shapeN hrow9
        have HRow9 := Lib.hid hrow9
        have hz9 : w8.heap.size + 1 ≤ w9.heap.size := by simpa using hgr9.size
        have HB9 := Lib.hid (((HBr.out.trans (HB8.out.mono (by omega))).alloc (by omega) (.cells #[.string ⟨n1.toArray⟩, .int .i64 v1, .int .i64 d1, .int .i64 m1] 74)).grown hgr9 (by simp; omega) (fun g hg => by have := (HOwn8.out.lt g hg).1; omega))
        clear hrow9 hgr9 z0 z1 z2 z3
        go_wp2_with fail
        go_roundw
        case rel =>
          refine ⟨k + 1, A9, c9, by omega, by go_num, by rw [HS2.out]; simp, ?_, HB9.out, by omega⟩
          have h := HRow9.out
          rw [HS2.out, List.flatMap_append]
          simpa [encE] using h
        case measure => simp [intOf]; omega
    · have hke : k = es.length := by omega
      have HEv := Lib.hid (show wr.ownsRow W.heap.size 74 4 (.slice A' (notName l es).length c') (notName l es).length ((notName l es).flatMap encE) from by
        have h := HOwn.out
        rw [hke, List.take_length] at h
        exact h)
      have HL := Lib.hid (show notName l (es.take k) = notName l es by rw [hke, List.take_length])
      clear hke
      go_wp2_with fail
      go_ret
      exact ⟨A', c', by rw [HL.out]; rfl, ownsRow_lowE HEv.out (by omega), HOr.out⟩

set_option maxRecDepth 100000 in
set_option maxHeartbeats 2000000 in
theorem notNamed_own (a b c d : Int) (A : Option Addr) (es : List En) (cap : Nat) (Ab : Option Addr) (l : List UInt8) (cb : Nat) (w : World) (hA : EvsIn w 0 w.heap.size A es) (hn : es.length ≤ 12) (hB : BytesIn w 0 w.heap.size Ab l) :
    Calls Tryz.prog 38 #[.agg #[.int .i64 a, .int .i64 b, .int .i64 c, .int .i64 d, .slice A es.length cap], .slice Ab l.length cb] w
      fun r w' => ∃ A' c', r = .returned (.slice A' (notName l es).length c') ∧ w'.ownsRow w.heap.size 74 4 (.slice A' (notName l es).length c') (notName l es).length ((notName l es).flatMap encE) ∧ Below w.heap.size w w' := by
  have HA := Lib.hid hA
  have HB := Lib.hid hB
  have hmf : ∀ (fn : Fn) (first cap : Array Value) (w : World), (Instr.makeFunc fn first cap).run Tryz.prog w = .ok (.func fn first cap) w := fun _ _ _ _ => rfl
  clear hA hB
  go_enter Tryz.func38, Tryz.ntmps38
  go_wp2_with fail
  obtain ⟨W0, hW0⟩ : ∃ W0, W0 = w.alloc (.cells #[.int .i64 a, .int .i64 b, .int .i64 c, .int .i64 d, .slice A es.length cap] 66) := ⟨_, rfl⟩
  obtain ⟨W, hW⟩ : ∃ W, W = W0.alloc (.cells #[.slice Ab l.length cb] 22) := ⟨_, rfl⟩
  have hz0 : W0.heap.size = w.heap.size + 1 := by rw [hW0]; simp
  have hz : w.heap.size + 1 < W.heap.size := by rw [hW]; simp [hz0]
  have HBel := Lib.hid (show Below w.heap.size w W by rw [hW, hW0]; exact ((Below.refl _ _).alloc (Nat.le_refl _) _).alloc (by simp) _)
  have hp : W.cell? ⟨w.heap.size + 1, 0, none⟩ = some (.slice Ab l.length cb) := by rw [hW, ← hz0]; simp
  have HP := Lib.hid hp
  rw [← hW0, ← hW]
  clear hW hW0 hz0 hp
  refine (those_notNamedO a b c d A es cap (w.heap.size + 1) Ab l cb W ((HA.out.below HBel.out).mono (by omega)) hn HP.out ((HB.out.keep fun p _ hp => HBel.out.cell hp).mono (by omega))).mono ?_
  rintro r w1 ⟨A', c', rfl, hev, hb⟩
  have HE := Lib.hid hev
  have HB1 := Lib.hid (HBel.out.trans (hb.mono (by omega)))
  clear hev hb
  go_wp2_with fail
  go_ret
  exact ⟨A', c', rfl, ownsRow_lowE HE.out (by omega), HB1.out⟩

end Go.Proofs.YtepkicgnhjaokaaGreatDoor

namespace Go.Proofs.YtepkicgnhjaokaaGreatDoor
open Go.RowKit Go.Maps

def fil (q : En → Bool) (es : List En) : List En := es.filter q
theorem fil_succ (q : En → Bool) (es : List En) (k : Nat) (hk : k < es.length) : fil q (es.take (k + 1)) = fil q (es.take k) ++ (if q es[k] then [es[k]] else []) := by
  unfold fil
  rw [List.take_succ_eq_append_getElem hk, List.filter_append]
  congr 1
  by_cases h : q es[k] <;> simp [h]
theorem fil_le (q : En → Bool) (es : List En) : (fil q es).length ≤ es.length := List.length_filter_le _ _

set_option maxRecDepth 100000 in
set_option maxHeartbeats 4000000 in
theorem those_m1 (a b c d : Int) (A : Option Addr) (es : List En) (cap : Nat) (q : En → Bool) (p : Nat) (w : World) (hA : EvsIn w 0 w.heap.size A es) (hn : es.length ≤ 12)
    (hC : ∀ e ∈ es, ∀ (W : World), Below w.heap.size w W → Calls Tryz.prog 70 #[ev e, .pointer (some ⟨p, 0, none⟩)] W fun r w' => r = .returned (.bool (q e)) ∧ Below W.heap.size W w') :
    Calls Tryz.prog 64 #[.agg #[.int .i64 a, .int .i64 b, .int .i64 c, .int .i64 d, .slice A es.length cap], .func (.func 70) #[] #[.pointer (some ⟨p, 0, none⟩)]] w
      fun r w' => ∃ A' c', r = .returned (.slice A' (fil q es).length c') ∧ w'.ownsRow w.heap.size 74 4 (.slice A' (fil q es).length c') (fil q es).length ((fil q es).flatMap encE) ∧ Below w.heap.size w w' := by
  have HA := Lib.hid hA
  have HC := Lib.hid hC
  clear hA hC
  go_enter Tryz.func64, Tryz.ntmps64
  go_wp2_with fail
  obtain ⟨W, hW⟩ : ∃ W, W = w.alloc (.cells #[.int .i64 a, .int .i64 b, .int .i64 c, .int .i64 d, .slice A es.length cap] 66) := ⟨_, rfl⟩
  have HBel := Lib.hid (show Below w.heap.size w W by rw [hW]; exact (Below.refl _ _).alloc (Nat.le_refl _) _)
  have hzW : w.heap.size < W.heap.size := by rw [hW]; simp
  rw [← hW]
  clear hW
  go_loopw [5, 11] (fun x i wr => ∃ (k : Nat) (A' : Option Addr) (c' : Nat), k ≤ es.length ∧ i = .int .i64 k ∧ x = .slice A' (fil q (es.take k)).length c' ∧ wr.ownsRow W.heap.size 74 4 (.slice A' (fil q (es.take k)).length c') (fil q (es.take k)).length ((fil q (es.take k)).flatMap encE) ∧ Below W.heap.size W wr ∧ W.heap.size ≤ wr.heap.size) (fun _ i _ => es.length - (intOf i).toNat)
  case atStart => exact ⟨0, none, 0, Nat.zero_le _, rfl, rfl, World.ownsRow_nil _ _ _ _, Below.refl _ _, Nat.le_refl _⟩
  case round =>
    obtain ⟨k, A', c', hk, rfl, rfl, hown, hbel, hzr⟩ := hrel
    have HOwn := Lib.hid hown
    have HBr := Lib.hid hbel
    have HOr := Lib.hid (show Below w.heap.size w wr from HBel.out.trans (hbel.mono (by omega)))
    clear hown hbel
    by_cases hlt : k < es.length
    · obtain ⟨bA, oA, hAe, _, hbA, hcA⟩ := HA.out (by omega)
      obtain ⟨c0, c1, c2, c3⟩ := (hcA k hlt).keep (w' := wr) fun o => HOr.out.cell hbA
      obtain ⟨e, he⟩ : ∃ e, e = es[k] := ⟨_, rfl⟩
      rw [← he] at c0 c1 c2 c3
      have HMem := Lib.hid (show e ∈ es by rw [he]; exact List.getElem_mem hlt)
      have HS := Lib.hid (fil_succ q es k hlt)
      rw [← he] at HS
      have hkl : (fil q (es.take k)).length ≤ k := Nat.le_trans (fil_le _ _) (by simp; omega)
      obtain ⟨F, hF⟩ : ∃ F, F = fil q (es.take k) := ⟨_, rfl⟩
      rw [← hF] at HS hkl HOwn ⊢
      subst hAe
      clear hcA he hF
      obtain ⟨n1, v1, d1, m1⟩ := e
      simp only at c0 c1 c2 c3
      have hnd := fun W hW => HC.out ⟨n1, v1, d1, m1⟩ HMem.out W hW
      unfold ev at hnd
      simp only at hnd
      have HNd := Lib.hid hnd
      clear hnd
      have hlt' : (k : Int) < (es.length : Int) := by omega
      go_wp2_with fail
      obtain ⟨W7, hW7⟩ : ∃ W7, W7 = wr.alloc (.cells #[.string ⟨n1.toArray⟩, .int .i64 v1, .int .i64 d1, .int .i64 m1] 74) := ⟨_, rfl⟩
      have HZ7 := Lib.hid (show Bx W7 wr.heap.size [.string ⟨n1.toArray⟩, .int .i64 v1, .int .i64 d1, .int .i64 m1] by rw [hW7]; exact Bx.new' _ _ _ _ rfl)
      have HB7 := Lib.hid (show Below wr.heap.size wr W7 by rw [hW7]; exact (Below.refl _ _).alloc (Nat.le_refl _) _)
      have hz7 : wr.heap.size < W7.heap.size := by rw [hW7]; simp
      rw [← hW7]
      clear hW7 c0 c1 c2 c3
      have HO7 := Lib.hid (show Below w.heap.size w W7 from HOr.out.trans (HB7.out.mono (by omega)))
      refine (HNd.out W7 HO7.out).mono ?_
      rintro r w8 ⟨rfl, hb8⟩
      have HZ8 := Lib.hid (HZ7.out.below hb8 hz7)
      have HB8 := Lib.hid (HB7.out.trans (hb8.mono (by omega)))
      have hz8 := hb8.size
      clear hb8
      cases hq : q ⟨n1, v1, d1, m1⟩ with
      | false =>
        have HS2 := Lib.hid (show fil q (es.take (k + 1)) = F by rw [HS.out]; simp [hq])
        clear hq
        go_wp2_with fail
        go_roundw
        case rel =>
          refine ⟨k + 1, A', c', by omega, by go_num, by rw [HS2.out], ?_, HBr.out.trans (HB8.out.mono hzr), by omega⟩
          rw [HS2.out]
          exact ownsRow_below HOwn.out HB8.out fun g hg => (HOwn.out.lt g hg).2
        case measure => simp [intOf]; omega
      | true =>
        have HS2 := Lib.hid (show fil q (es.take (k + 1)) = F ++ [⟨n1, v1, d1, m1⟩] by rw [HS.out]; simp [hq])
        have z0 := HZ8.out 0 (by simp)
        have z1 := HZ8.out 1 (by simp)
        have z2 := HZ8.out 2 (by simp)
        have z3 := HZ8.out 3 (by simp)
        simp only [List.getElem_cons_succ, List.getElem_cons_zero] at z0 z1 z2 z3
        have HOwn8 := Lib.hid (ownsRow_below HOwn.out HB8.out fun g hg => (HOwn.out.lt g hg).2)
        obtain ⟨i0, hi, hz0, hz1', hz2'⟩ := info_parts Tryz.infoEnt
        clear hq
        go_wp2_with (at_builtin; refine wpList_append_own _ rfl _ _ 64 rfl W.heap.size 74 i0 (.agg #[.string ⟨#[]⟩, .int .i64 0, .int .i64 0, .int .i64 0]) 4 40 Tryz.underlying64 hi hz0 hz1' hz2' rfl (by decide) _ _ _ rfl (HOwn8.out.alloc _) ⟨w8.heap.size, 0, none⟩ 1 1 [.string ⟨n1.toArray⟩, .int .i64 v1, .int .i64 d1, .int .i64 m1] rfl rfl ?c1 ?c2 ?c3 ?c4 ?c5 ?_)
        case c1 => exact new4 _ _ _ _ _ _
        case c2 => intro u hu; simp at hu; rcases hu with rfl | rfl | rfl | rfl <;> rfl
        case c3 => unfold maxLen; omega
        case c4 => omega
        case c5 => simp; omega
        intro v' w9 hrow9 hgr9 _
        obtain ⟨A9, c9, rfl⟩ := row_shapeN hrow9
        have HRow9 := Lib.hid hrow9
        have hz9 : w8.heap.size + 1 ≤ w9.heap.size := by simpa using hgr9.size
        have HB9 := Lib.hid (((HBr.out.trans (HB8.out.mono (by omega))).alloc (by omega) (.cells #[.string ⟨n1.toArray⟩, .int .i64 v1, .int .i64 d1, .int .i64 m1] 74)).grown hgr9 (by simp; omega) (fun g hg => by have := (HOwn8.out.lt g hg).1; omega))
        clear hrow9 hgr9 z0 z1 z2 z3
        go_wp2_with fail
        go_roundw
        case rel =>
          refine ⟨k + 1, A9, c9, by omega, by go_num, by rw [HS2.out]; simp, ?_, HB9.out, by omega⟩
          have h := HRow9.out
          rw [HS2.out, List.flatMap_append]
          simpa [encE] using h
        case measure => simp [intOf]; omega
    · have hke : k = es.length := by omega
      have HEv := Lib.hid (show wr.ownsRow W.heap.size 74 4 (.slice A' (fil q es).length c') (fil q es).length ((fil q es).flatMap encE) from by
        have h := HOwn.out
        rw [hke, List.take_length] at h
        exact h)
      have HL := Lib.hid (show fil q (es.take k) = fil q es by rw [hke, List.take_length])
      clear hke
      go_wp2_with fail
      go_ret
      exact ⟨A', c', by rw [HL.out]; rfl, ownsRow_lowE HEv.out (by omega), HOr.out⟩

set_option maxRecDepth 100000 in
set_option maxHeartbeats 4000000 in
theorem those_m2 (a b c d : Int) (A : Option Addr) (es : List En) (cap : Nat) (q : En → Bool) (p : Nat) (w : World) (hA : EvsIn w 0 w.heap.size A es) (hn : es.length ≤ 12)
    (hC : ∀ e ∈ es, ∀ (W : World), Below w.heap.size w W → Calls Tryz.prog 73 #[ev e, .pointer (some ⟨p, 0, none⟩)] W fun r w' => r = .returned (.bool (q e)) ∧ Below W.heap.size W w') :
    Calls Tryz.prog 64 #[.agg #[.int .i64 a, .int .i64 b, .int .i64 c, .int .i64 d, .slice A es.length cap], .func (.func 73) #[] #[.pointer (some ⟨p, 0, none⟩)]] w
      fun r w' => ∃ A' c', r = .returned (.slice A' (fil q es).length c') ∧ w'.ownsRow w.heap.size 74 4 (.slice A' (fil q es).length c') (fil q es).length ((fil q es).flatMap encE) ∧ Below w.heap.size w w' := by
  have HA := Lib.hid hA
  have HC := Lib.hid hC
  clear hA hC
  go_enter Tryz.func64, Tryz.ntmps64
  go_wp2_with fail
  obtain ⟨W, hW⟩ : ∃ W, W = w.alloc (.cells #[.int .i64 a, .int .i64 b, .int .i64 c, .int .i64 d, .slice A es.length cap] 66) := ⟨_, rfl⟩
  have HBel := Lib.hid (show Below w.heap.size w W by rw [hW]; exact (Below.refl _ _).alloc (Nat.le_refl _) _)
  have hzW : w.heap.size < W.heap.size := by rw [hW]; simp
  rw [← hW]
  clear hW
  go_loopw [5, 11] (fun x i wr => ∃ (k : Nat) (A' : Option Addr) (c' : Nat), k ≤ es.length ∧ i = .int .i64 k ∧ x = .slice A' (fil q (es.take k)).length c' ∧ wr.ownsRow W.heap.size 74 4 (.slice A' (fil q (es.take k)).length c') (fil q (es.take k)).length ((fil q (es.take k)).flatMap encE) ∧ Below W.heap.size W wr ∧ W.heap.size ≤ wr.heap.size) (fun _ i _ => es.length - (intOf i).toNat)
  case atStart => exact ⟨0, none, 0, Nat.zero_le _, rfl, rfl, World.ownsRow_nil _ _ _ _, Below.refl _ _, Nat.le_refl _⟩
  case round =>
    obtain ⟨k, A', c', hk, rfl, rfl, hown, hbel, hzr⟩ := hrel
    have HOwn := Lib.hid hown
    have HBr := Lib.hid hbel
    have HOr := Lib.hid (show Below w.heap.size w wr from HBel.out.trans (hbel.mono (by omega)))
    clear hown hbel
    by_cases hlt : k < es.length
    · obtain ⟨bA, oA, hAe, _, hbA, hcA⟩ := HA.out (by omega)
      obtain ⟨c0, c1, c2, c3⟩ := (hcA k hlt).keep (w' := wr) fun o => HOr.out.cell hbA
      obtain ⟨e, he⟩ : ∃ e, e = es[k] := ⟨_, rfl⟩
      rw [← he] at c0 c1 c2 c3
      have HMem := Lib.hid (show e ∈ es by rw [he]; exact List.getElem_mem hlt)
      have HS := Lib.hid (fil_succ q es k hlt)
      rw [← he] at HS
      have hkl : (fil q (es.take k)).length ≤ k := Nat.le_trans (fil_le _ _) (by simp; omega)
      obtain ⟨F, hF⟩ : ∃ F, F = fil q (es.take k) := ⟨_, rfl⟩
      rw [← hF] at HS hkl HOwn ⊢
      subst hAe
      clear hcA he hF
      obtain ⟨n1, v1, d1, m1⟩ := e
      simp only at c0 c1 c2 c3
      have hnd := fun W hW => HC.out ⟨n1, v1, d1, m1⟩ HMem.out W hW
      unfold ev at hnd
      simp only at hnd
      have HNd := Lib.hid hnd
      clear hnd
      have hlt' : (k : Int) < (es.length : Int) := by omega
      go_wp2_with fail
      obtain ⟨W7, hW7⟩ : ∃ W7, W7 = wr.alloc (.cells #[.string ⟨n1.toArray⟩, .int .i64 v1, .int .i64 d1, .int .i64 m1] 74) := ⟨_, rfl⟩
      have HZ7 := Lib.hid (show Bx W7 wr.heap.size [.string ⟨n1.toArray⟩, .int .i64 v1, .int .i64 d1, .int .i64 m1] by rw [hW7]; exact Bx.new' _ _ _ _ rfl)
      have HB7 := Lib.hid (show Below wr.heap.size wr W7 by rw [hW7]; exact (Below.refl _ _).alloc (Nat.le_refl _) _)
      have hz7 : wr.heap.size < W7.heap.size := by rw [hW7]; simp
      rw [← hW7]
      clear hW7 c0 c1 c2 c3
      have HO7 := Lib.hid (show Below w.heap.size w W7 from HOr.out.trans (HB7.out.mono (by omega)))
      refine (HNd.out W7 HO7.out).mono ?_
      rintro r w8 ⟨rfl, hb8⟩
      have HZ8 := Lib.hid (HZ7.out.below hb8 hz7)
      have HB8 := Lib.hid (HB7.out.trans (hb8.mono (by omega)))
      have hz8 := hb8.size
      clear hb8
      cases hq : q ⟨n1, v1, d1, m1⟩ with
      | false =>
        have HS2 := Lib.hid (show fil q (es.take (k + 1)) = F by rw [HS.out]; simp [hq])
        clear hq
        go_wp2_with fail
        go_roundw
        case rel =>
          refine ⟨k + 1, A', c', by omega, by go_num, by rw [HS2.out], ?_, HBr.out.trans (HB8.out.mono hzr), by omega⟩
          rw [HS2.out]
          exact ownsRow_below HOwn.out HB8.out fun g hg => (HOwn.out.lt g hg).2
        case measure => simp [intOf]; omega
      | true =>
        have HS2 := Lib.hid (show fil q (es.take (k + 1)) = F ++ [⟨n1, v1, d1, m1⟩] by rw [HS.out]; simp [hq])
        have z0 := HZ8.out 0 (by simp)
        have z1 := HZ8.out 1 (by simp)
        have z2 := HZ8.out 2 (by simp)
        have z3 := HZ8.out 3 (by simp)
        simp only [List.getElem_cons_succ, List.getElem_cons_zero] at z0 z1 z2 z3
        have HOwn8 := Lib.hid (ownsRow_below HOwn.out HB8.out fun g hg => (HOwn.out.lt g hg).2)
        obtain ⟨i0, hi, hz0, hz1', hz2'⟩ := info_parts Tryz.infoEnt
        clear hq
        go_wp2_with (at_builtin; refine wpList_append_own _ rfl _ _ 64 rfl W.heap.size 74 i0 (.agg #[.string ⟨#[]⟩, .int .i64 0, .int .i64 0, .int .i64 0]) 4 40 Tryz.underlying64 hi hz0 hz1' hz2' rfl (by decide) _ _ _ rfl (HOwn8.out.alloc _) ⟨w8.heap.size, 0, none⟩ 1 1 [.string ⟨n1.toArray⟩, .int .i64 v1, .int .i64 d1, .int .i64 m1] rfl rfl ?c1 ?c2 ?c3 ?c4 ?c5 ?_)
        case c1 => exact new4 _ _ _ _ _ _
        case c2 => intro u hu; simp at hu; rcases hu with rfl | rfl | rfl | rfl <;> rfl
        case c3 => unfold maxLen; omega
        case c4 => omega
        case c5 => simp; omega
        intro v' w9 hrow9 hgr9 _
        obtain ⟨A9, c9, rfl⟩ := row_shapeN hrow9
        have HRow9 := Lib.hid hrow9
        have hz9 : w8.heap.size + 1 ≤ w9.heap.size := by simpa using hgr9.size
        have HB9 := Lib.hid (((HBr.out.trans (HB8.out.mono (by omega))).alloc (by omega) (.cells #[.string ⟨n1.toArray⟩, .int .i64 v1, .int .i64 d1, .int .i64 m1] 74)).grown hgr9 (by simp; omega) (fun g hg => by have := (HOwn8.out.lt g hg).1; omega))
        clear hrow9 hgr9 z0 z1 z2 z3
        go_wp2_with fail
        go_roundw
        case rel =>
          refine ⟨k + 1, A9, c9, by omega, by go_num, by rw [HS2.out]; simp, ?_, HB9.out, by omega⟩
          have h := HRow9.out
          rw [HS2.out, List.flatMap_append]
          simpa [encE] using h
        case measure => simp [intOf]; omega
    · have hke : k = es.length := by omega
      have HEv := Lib.hid (show wr.ownsRow W.heap.size 74 4 (.slice A' (fil q es).length c') (fil q es).length ((fil q es).flatMap encE) from by
        have h := HOwn.out
        rw [hke, List.take_length] at h
        exact h)
      have HL := Lib.hid (show fil q (es.take k) = fil q es by rw [hke, List.take_length])
      clear hke
      go_wp2_with fail
      go_ret
      exact ⟨A', c', by rw [HL.out]; rfl, ownsRow_lowE HEv.out (by omega), HOr.out⟩

end Go.Proofs.YtepkicgnhjaokaaGreatDoor

namespace Go.Proofs.YtepkicgnhjaokaaGreatDoor
open Go.RowKit Go.Maps

def eqE (e f : En) : Bool := (e.name == f.name) && ((e.val == f.val) && ((e.dev == f.dev) && (e.num == f.num)))
theorem eqE_iff (e f : En) : eqE e f = true ↔ e = f := by
  obtain ⟨n1, v1, d1, m1⟩ := e
  obtain ⟨n2, v2, d2, m2⟩ := f
  simp [eqE]
theorem Tryz.deedEq (a b a' b' : Int) (w : World) : (binOp .eql 72 (.agg #[.int .i64 a, .int .i64 b]) (.agg #[.int .i64 a', .int .i64 b'])).run Tryz.prog w = .ok (.bool ((a == a') && (b == b'))) w := by
  rw [run_eql_struct]
  go_simp
  by_cases h1 : a = a' <;> by_cases h2 : b = b' <;> simp [h1, h2]
theorem Tryz.entEq (e f : En) (w : World) : (binOp .eql 74 (ev e) (ev f)).run Tryz.prog w = .ok (.bool (eqE e f)) w := by
  unfold ev
  rw [run_eql_struct]
  go_simp
  unfold eqE
  by_cases h1 : e.name = f.name <;> by_cases h2 : e.val = f.val <;> by_cases h3 : e.dev = f.dev <;> by_cases h4 : e.num = f.num <;> simp [h1, h2, h3, h4]
theorem Tryz.entNe (e f : En) (w : World) : (binOp .neq 74 (ev e) (ev f)).run Tryz.prog w = .ok (.bool (!eqE e f)) w := by
  unfold ev
  rw [run_neq_struct]
  go_simp
  unfold eqE
  by_cases h1 : e.name = f.name <;> by_cases h2 : e.val = f.val <;> by_cases h3 : e.dev = f.dev <;> by_cases h4 : e.num = f.num <;> simp [h1, h2, h3, h4]

end Go.Proofs.YtepkicgnhjaokaaGreatDoor

namespace Go.Proofs.YtepkicgnhjaokaaGreatDoor
open Go.RowKit Go.Maps

def hasE (es : List En) (e : En) : Bool := es.any (eqE e)
theorem hasE_none {es : List En} {e : En} (h : ∀ j (hj : j < es.length), eqE e es[j] = false) : hasE es e = false := by
  unfold hasE
  rw [List.any_eq_false]
  intro x hx
  obtain ⟨j, hj, rfl⟩ := List.getElem_of_mem hx
  simp [h j hj]
theorem hasE_at {es : List En} {e : En} {k : Nat} (hk : k < es.length) (h : eqE e es[k] = true) : hasE es e = true := by
  unfold hasE
  rw [List.any_eq_true]
  exact ⟨es[k], List.getElem_mem hk, h⟩

set_option maxRecDepth 100000 in
set_option maxHeartbeats 2000000 in
theorem index_any (A : Option Addr) (es : List En) (c : Nat) (e : En) (w : World) (hA : EvsIn w 0 w.heap.size A es) (hn : es.length ≤ 1000) :
    Calls Tryz.prog 93 #[.slice A es.length c, ev e] w
      fun r w' => (∃ i : Int, r = .returned (.int .i64 i) ∧ decide (0 ≤ i) = hasE es e) ∧ Below w.heap.size w w' := by
  have HA := Lib.hid hA
  have heq := fun f W => Tryz.entEq e f W
  obtain ⟨n1, v1, d1, m1⟩ := e
  unfold ev at *
  simp only at heq
  have HEq := Lib.hid heq
  clear hA heq
  go_enter Tryz.func93, Tryz.ntmps93
  go_wp2_with fail
  obtain ⟨W, hW⟩ : ∃ W, W = w.alloc (.cells #[.string ⟨n1.toArray⟩, .int .i64 v1, .int .i64 d1, .int .i64 m1] 74) := ⟨_, rfl⟩
  have HZ := Lib.hid (show Bx W w.heap.size [.string ⟨n1.toArray⟩, .int .i64 v1, .int .i64 d1, .int .i64 m1] by rw [hW]; exact Bx.new' _ _ _ _ rfl)
  have HBel := Lib.hid (show Below w.heap.size w W by rw [hW]; exact (Below.refl _ _).alloc (Nat.le_refl _) _)
  rw [← hW]
  clear hW
  go_loopw [8] (fun i wr => ∃ k : Nat, k ≤ es.length ∧ i = .int .i64 k ∧ (∀ j (hj : j < es.length), j < k → eqE ⟨n1, v1, d1, m1⟩ es[j] = false) ∧ Below W.heap.size W wr) (fun i _ => es.length - (intOf i).toNat)
  case atStart => exact ⟨0, Nat.zero_le _, rfl, fun j _ h => absurd h (by omega), Below.refl _ _⟩
  case round =>
    obtain ⟨k, hk, rfl, hno, hbr⟩ := hrel
    obtain ⟨wq, rfl⟩ : ∃ X : World, X = wr := ⟨_, rfl⟩
    have HNo := Lib.hid hno
    have HBr := Lib.hid hbr
    have hzW : w.heap.size < W.heap.size := World.block_lt_of_cell? W ⟨w.heap.size, 0, none⟩ (HZ.out 0 (by simp))
    have hzr := hbr.size
    obtain ⟨x0, x1, x2, x3⟩ := (HZ.out.below hbr hzW).four
    clear hno hbr
    by_cases hlt : k < es.length
    · obtain ⟨bA, oA, hAe, _, hbA, hcA⟩ := HA.out (by omega)
      obtain ⟨c0, c1, c2, c3⟩ := (hcA k hlt).keep (w' := wq) fun o => (HBel.out.trans (HBr.out.mono (by omega))).cell hbA
      obtain ⟨f, hf⟩ : ∃ f, f = es[k] := ⟨_, rfl⟩
      rw [← hf] at c0 c1 c2 c3
      obtain ⟨bq, hbq⟩ : ∃ b, b = eqE ⟨n1, v1, d1, m1⟩ f := ⟨_, rfl⟩
      have hq := fun W => HEq.out f W
      rw [← hbq] at hq
      have HF := Lib.hid (And.intro hf hbq)
      obtain ⟨n2, v2, d2, m2⟩ := f
      simp only at hq c0 c1 c2 c3
      subst hAe
      clear hcA hf hbq
      have hlt' : (k : Int) < (es.length : Int) := by omega
      have q0 : ∀ x : Kp wq, x.val.cell? ⟨w.heap.size, 0, none⟩ = some (.string ⟨n1.toArray⟩) := fun x => x.cell x0
      have q1 : ∀ x : Kp wq, x.val.cell? ⟨w.heap.size, 1, none⟩ = some (.int .i64 v1) := fun x => x.cell x1
      have q2 : ∀ x : Kp wq, x.val.cell? ⟨w.heap.size, 2, none⟩ = some (.int .i64 d1) := fun x => x.cell x2
      have q3 : ∀ x : Kp wq, x.val.cell? ⟨w.heap.size, 3, none⟩ = some (.int .i64 m1) := fun x => x.cell x3
      have s0 : ∀ x : Kp wq, x.val.cell? ⟨bA, oA + k * 4, none⟩ = some (.string ⟨n2.toArray⟩) := fun x => x.cell c0
      have s1 : ∀ x : Kp wq, x.val.cell? ⟨bA, oA + k * 4 + 1, none⟩ = some (.int .i64 v2) := fun x => x.cell c1
      have s2 : ∀ x : Kp wq, x.val.cell? ⟨bA, oA + k * 4 + 2, none⟩ = some (.int .i64 d2) := fun x => x.cell c2
      have s3 : ∀ x : Kp wq, x.val.cell? ⟨bA, oA + k * 4 + 3, none⟩ = some (.int .i64 m2) := fun x => x.cell c3
      cases bq with
      | true =>
        go_upto_region 4 with fail
        refine wp_region_kept (by kernel_rfl) (by kernel_rfl) ?_
        repeat (go_big_quiet_step (fail))
        refine wpQuiet_nil ?_
        rintro W5 ⟨⟨_, hb5⟩, rfl⟩
        have HB5 := Lib.hid (HBr.out.trans (hb5.mono hzr))
        clear q0 q1 q2 q3 s0 s1 s2 s3 hq hb5 c0 c1 c2 c3 x0 x1 x2 x3
        go_wp2_with fail
        go_ret
        exact ⟨⟨k, rfl, by rw [hasE_at hlt (by rw [← HF.out.1]; exact HF.out.2.symm)]; simp⟩, HBel.out.trans (HB5.out.mono (by omega))⟩
      | false =>
        go_upto_region 4 with fail
        refine wp_region_kept (by kernel_rfl) (by kernel_rfl) ?_
        repeat (go_big_quiet_step (fail))
        refine wpQuiet_nil ?_
        rintro W5 ⟨⟨_, hb5⟩, rfl⟩
        have HB5 := Lib.hid (HBr.out.trans (hb5.mono hzr))
        clear q0 q1 q2 q3 s0 s1 s2 s3 hq hb5 c0 c1 c2 c3 x0 x1 x2 x3
        go_wp2_with fail
        go_roundw
        case rel =>
          refine ⟨k + 1, by omega, by go_num, fun j hj hjk => ?_, HB5.out⟩
          by_cases e : j = k
          · subst e; rw [← HF.out.1]; exact HF.out.2.symm
          · exact HNo.out j hj (by omega)
        case measure => simp [intOf]; omega
    · have HN := Lib.hid (hasE_none (e := ⟨n1, v1, d1, m1⟩) (fun j hj => HNo.out j hj (by omega)))
      have hlt' : ¬ ((k : Int) < (es.length : Int)) := by omega
      go_wp2_with fail
      go_ret
      exact ⟨⟨-1, rfl, by rw [HN.out]; rfl⟩, HBel.out.trans (HBr.out.mono (by omega))⟩

end Go.Proofs.YtepkicgnhjaokaaGreatDoor

namespace Go.Proofs.YtepkicgnhjaokaaGreatDoor
open Go.RowKit Go.Maps

set_option maxRecDepth 100000 in
set_option maxHeartbeats 2000000 in
theorem contains_any (A : Option Addr) (es : List En) (c : Nat) (e : En) (w : World) (hA : EvsIn w 0 w.heap.size A es) (hn : es.length ≤ 1000) :
    Calls Tryz.prog 71 #[.slice A es.length c, ev e] w
      fun r w' => r = .returned (.bool (hasE es e)) ∧ Below w.heap.size w w' := by
  have hix := fun (W : World) hA => index_any A es c e W hA hn
  have HA := Lib.hid hA
  have HHas := Lib.hid (show ∀ i : Int, decide (0 ≤ i) = hasE es e → hasE es e = decide (0 ≤ i) from fun i h => h.symm)
  obtain ⟨n1, v1, d1, m1⟩ := e
  unfold ev at *
  simp only at hix
  have HIx := Lib.hid hix
  clear hA hix
  go_enter Tryz.func71, Tryz.ntmps71
  go_wp2_with fail
  obtain ⟨W, hW⟩ : ∃ W, W = w.alloc (.cells #[.string ⟨n1.toArray⟩, .int .i64 v1, .int .i64 d1, .int .i64 m1] 74) := ⟨_, rfl⟩
  have HBel := Lib.hid (show Below w.heap.size w W by rw [hW]; exact (Below.refl _ _).alloc (Nat.le_refl _) _)
  have hzW : w.heap.size < W.heap.size := by rw [hW]; simp
  rw [← hW]
  clear hW
  refine (HIx.out W ((HA.out.below HBel.out).mono (by omega))).mono ?_
  rintro r w1 ⟨⟨i, rfl, hi⟩, hb1⟩
  have HB1 := Lib.hid (HBel.out.trans (hb1.mono (by omega)))
  clear hb1
  have HI := Lib.hid hi
  clear hi
  by_cases h0 : 0 ≤ i
  · have HR := Lib.hid (show hasE es ⟨n1, v1, d1, m1⟩ = true from by rw [← HI.out]; simp [h0])
    go_wp2_with fail
    go_ret
    exact ⟨by rw [HR.out]; rfl, HB1.out⟩
  · have HR := Lib.hid (show hasE es ⟨n1, v1, d1, m1⟩ = false from by rw [← HI.out]; simp; omega)
    have h1 : decide (0 ≤ i) = false := by simp; omega
    go_wp2_with fail
    go_ret
    exact ⟨by rw [HR.out]; rfl, HB1.out⟩

def knE (a b c d : Int) (e : En) : Bool := knowB a b c d e.dev e.num
def stE (a b c d : Int) (us : List En) (e : En) : Bool := hasE us e || !knE a b c d e

set_option maxRecDepth 100000 in
set_option maxHeartbeats 2000000 in
theorem merged2_any (e : En) (p : Nat) (a b c d : Int) (V : Value) (w : World) (hb : Bx w p [.int .i64 a, .int .i64 b, .int .i64 c, .int .i64 d, V]) (h0 : 0 ≤ e.dev) (h1 : e.dev < 4) :
    Calls Tryz.prog 73 #[ev e, .pointer (some ⟨p, 0, none⟩)] w fun r w' => r = .returned (.bool (!knE a b c d e)) ∧ Below w.heap.size w w' := by
  have HX := Lib.hid hb
  have hps := World.block_lt_of_cell? w _ (hb 0 (by simp))
  have hps' : p < w.heap.size := hps
  obtain ⟨n1, v1, d1, m1⟩ := e
  unfold ev
  simp only at h0 h1 ⊢
  have hkn := fun (W : World) => knows_any a b c d d1 m1 W h0 h1
  unfold v4 at hkn
  have HKn := Lib.hid hkn
  clear hb hps hkn
  go_enter Tryz.func73, Tryz.ntmps73
  obtain ⟨W, hW⟩ : ∃ W, W = w.alloc (.cells #[.string ⟨n1.toArray⟩, .int .i64 v1, .int .i64 d1, .int .i64 m1] 74) := ⟨_, rfl⟩
  have hz : w.heap.size < W.heap.size := by rw [hW]; simp
  have HBel := Lib.hid (show Below w.heap.size w W by rw [hW]; exact (Below.refl _ _).alloc (Nat.le_refl _) _)
  have HZ := Lib.hid (show Bx W w.heap.size [.string ⟨n1.toArray⟩, .int .i64 v1, .int .i64 d1, .int .i64 m1] by rw [hW]; exact Bx.new' _ _ _ _ rfl)
  have HXW := Lib.hid (HX.out.below HBel.out hps')
  have x0 := HXW.out 0 (by simp)
  have x1 := HXW.out 1 (by simp)
  have x2 := HXW.out 2 (by simp)
  have x3 := HXW.out 3 (by simp)
  have z2 := HZ.out 2 (by simp)
  have z3 := HZ.out 3 (by simp)
  simp only [List.getElem_cons_succ, List.getElem_cons_zero] at x0 x1 x2 x3 z2 z3
  rw [hW] at x0 x1 x2 x3 z2 z3
  go_wp2_with fail
  rw [← hW]
  refine (HKn.out W).mono ?_
  rintro r w1 ⟨rfl, hb1⟩
  have HB1 := Lib.hid (HBel.out.trans (hb1.mono (by omega)))
  clear hb1 x0 x1 x2 x3 z2 z3
  go_wp2_with fail
  go_ret
  exact ⟨rfl, HB1.out⟩

set_option maxRecDepth 100000 in
set_option maxHeartbeats 2000000 in
theorem merged1_any (e : En) (p : Nat) (a b c d : Int) (Au : Option Addr) (us : List En) (cu : Nat) (w : World) (hb : Bx w p [.int .i64 a, .int .i64 b, .int .i64 c, .int .i64 d, .slice Au us.length cu]) (hU : EvsIn w 0 w.heap.size Au us) (hn : us.length ≤ 1000) (h0 : 0 ≤ e.dev) (h1 : e.dev < 4) :
    Calls Tryz.prog 70 #[ev e, .pointer (some ⟨p, 0, none⟩)] w fun r w' => r = .returned (.bool (stE a b c d us e)) ∧ Below w.heap.size w w' := by
  have HX := Lib.hid hb
  have hps := World.block_lt_of_cell? w _ (hb 0 (by simp))
  have hps' : p < w.heap.size := hps
  have HU := Lib.hid hU
  have hct := fun (W : World) hA => contains_any Au us cu e W hA hn
  have HSt := Lib.hid (show stE a b c d us e = (hasE us e || !knowB a b c d e.dev e.num) from rfl)
  obtain ⟨n1, v1, d1, m1⟩ := e
  unfold ev at *
  simp only at h0 h1 hct ⊢
  have HCt := Lib.hid hct
  clear hU hct
  have hkn := fun (W : World) => knows_any a b c d d1 m1 W h0 h1
  unfold v4 at hkn
  have HKn := Lib.hid hkn
  clear hb hps hkn
  go_enter Tryz.func70, Tryz.ntmps70
  obtain ⟨W, hW⟩ : ∃ W, W = w.alloc (.cells #[.string ⟨n1.toArray⟩, .int .i64 v1, .int .i64 d1, .int .i64 m1] 74) := ⟨_, rfl⟩
  have hz : w.heap.size < W.heap.size := by rw [hW]; simp
  have HBel := Lib.hid (show Below w.heap.size w W by rw [hW]; exact (Below.refl _ _).alloc (Nat.le_refl _) _)
  have HZ := Lib.hid (show Bx W w.heap.size [.string ⟨n1.toArray⟩, .int .i64 v1, .int .i64 d1, .int .i64 m1] by rw [hW]; exact Bx.new' _ _ _ _ rfl)
  have HXW := Lib.hid (HX.out.below HBel.out hps')
  have x0 := HXW.out 0 (by simp)
  have x1 := HXW.out 1 (by simp)
  have x2 := HXW.out 2 (by simp)
  have x3 := HXW.out 3 (by simp)
  have x4 := HXW.out 4 (by simp)
  have z0 := HZ.out 0 (by simp)
  have z1 := HZ.out 1 (by simp)
  have z2 := HZ.out 2 (by simp)
  have z3 := HZ.out 3 (by simp)
  simp only [List.getElem_cons_succ, List.getElem_cons_zero] at x0 x1 x2 x3 x4 z0 z1 z2 z3
  rw [hW] at x0 x1 x2 x3 x4 z0 z1 z2 z3
  go_wp2_with fail
  rw [← hW]
  have HUW := Lib.hid (show EvsIn W 0 W.heap.size Au us from (HU.out.below HBel.out).mono (by omega))
  refine (HCt.out W HUW.out).mono ?_
  rintro r w1 ⟨rfl, hb1⟩
  have HB1 := Lib.hid (HBel.out.trans (hb1.mono (by omega)))
  have HX1 := Lib.hid (HXW.out.below hb1 (by omega))
  have HZ1 := Lib.hid (HZ.out.below hb1 hz)
  have hz1 := hb1.size
  clear hb1 x0 x1 x2 x3 x4 z0 z1 z2 z3
  obtain ⟨hs, hhs⟩ : ∃ b, b = hasE us ⟨n1, v1, d1, m1⟩ := ⟨_, rfl⟩
  rw [← hhs] at HSt ⊢
  clear hhs hW
  cases hs with
  | true =>
    go_wp2_with fail
    go_ret
    exact ⟨by rw [HSt.out]; rfl, HB1.out⟩
  | false =>
    have x0 := HX1.out 0 (by simp)
    have x1 := HX1.out 1 (by simp)
    have x2 := HX1.out 2 (by simp)
    have x3 := HX1.out 3 (by simp)
    have z2 := HZ1.out 2 (by simp)
    have z3 := HZ1.out 3 (by simp)
    simp only [List.getElem_cons_succ, List.getElem_cons_zero] at x0 x1 x2 x3 z2 z3
    go_wp2_with fail
    refine (HKn.out w1).mono ?_
    rintro r w2 ⟨rfl, hb2⟩
    have HB2 := Lib.hid (HB1.out.trans (hb2.mono (by omega)))
    clear hb2 x0 x1 x2 x3 z2 z3
    go_wp2_with fail
    go_ret
    exact ⟨by rw [HSt.out]; rfl, HB2.out⟩

end Go.Proofs.YtepkicgnhjaokaaGreatDoor

namespace Go.Proofs.YtepkicgnhjaokaaGreatDoor
open Go.RowKit Go.Maps

/-- One deed, told unlike. -/
def unE (e f : En) : Bool := ((e.dev == f.dev) && (e.num == f.num)) && !eqE e f
def unEs (us : List En) (e : En) : Bool := us.any (unE e)
def ctrB (es us : List En) : Bool := es.any (unEs us)
theorem any_none {q : En → Bool} {es : List En} (h : ∀ j (hj : j < es.length), q es[j] = false) : es.any q = false := by
  rw [List.any_eq_false]
  intro x hx
  obtain ⟨j, hj, rfl⟩ := List.getElem_of_mem hx
  simp [h j hj]
theorem any_at {q : En → Bool} {es : List En} {k : Nat} (hk : k < es.length) (h : q es[k] = true) : es.any q = true := by
  rw [List.any_eq_true]
  exact ⟨es[k], List.getElem_mem hk, h⟩

set_option maxRecDepth 100000 in
set_option maxHeartbeats 4000000 in
theorem contradicts_any (a b c d : Int) (A : Option Addr) (es : List En) (cA : Nat) (a' b' c' d' : Int) (Au : Option Addr) (us : List En) (cu : Nat) (w : World) (hA : EvsIn w 0 w.heap.size A es) (hn : es.length ≤ 1000) (hU : EvsIn w 0 w.heap.size Au us) (hnu : us.length ≤ 1000) :
    Calls Tryz.prog 69 #[.agg #[.int .i64 a, .int .i64 b, .int .i64 c, .int .i64 d, .slice A es.length cA], .agg #[.int .i64 a', .int .i64 b', .int .i64 c', .int .i64 d', .slice Au us.length cu]] w
      fun r w' => r = .returned (.bool (ctrB es us)) ∧ Below w.heap.size w w' := by
  have HA := Lib.hid hA
  have HU := Lib.hid hU
  clear hA hU
  go_enter Tryz.func69, Tryz.ntmps69
  go_wp2_with fail
  obtain ⟨W0, hW0⟩ : ∃ W0, W0 = w.alloc (.cells #[.int .i64 a, .int .i64 b, .int .i64 c, .int .i64 d, .slice A es.length cA] 66) := ⟨_, rfl⟩
  obtain ⟨W, hW⟩ : ∃ W, W = W0.alloc (.cells #[.int .i64 a', .int .i64 b', .int .i64 c', .int .i64 d', .slice Au us.length cu] 66) := ⟨_, rfl⟩
  have hz0 : W0.heap.size = w.heap.size + 1 := by rw [hW0]; simp
  have hz : w.heap.size + 1 < W.heap.size := by rw [hW]; simp [hz0]
  have HBel := Lib.hid (show Below w.heap.size w W by rw [hW, hW0]; exact ((Below.refl _ _).alloc (Nat.le_refl _) _).alloc (by simp) _)
  have HX := Lib.hid (show Bx W (w.heap.size + 1) [.int .i64 a', .int .i64 b', .int .i64 c', .int .i64 d', .slice Au us.length cu] by rw [hW, ← hz0]; exact Bx.new' _ _ _ _ rfl)
  rw [← hW0, ← hW]
  clear hW hW0 hz0
  go_loopw [12] (fun i wr => ∃ k : Nat, k ≤ es.length ∧ i = .int .i64 k ∧ (∀ j (hj : j < es.length), j < k → unEs us es[j] = false) ∧ Below W.heap.size W wr) (fun i _ => es.length - (intOf i).toNat)
  case atStart => exact ⟨0, Nat.zero_le _, rfl, fun j _ h => absurd h (by omega), Below.refl _ _⟩
  case round =>
    obtain ⟨k, hk, rfl, hno, hbr⟩ := hrel
    obtain ⟨wq, rfl⟩ : ∃ X : World, X = wr := ⟨_, rfl⟩
    have HNo := Lib.hid hno
    have HBr := Lib.hid hbr
    have HOr := Lib.hid (show Below w.heap.size w wq from HBel.out.trans (hbr.mono (by omega)))
    have hzr := hbr.size
    have HXr := Lib.hid (HX.out.below hbr hz)
    clear hno hbr
    by_cases hlt : k < es.length
    · obtain ⟨bA, oA, hAe, _, hbA, hcA⟩ := HA.out (by omega)
      obtain ⟨c0, c1, c2, c3⟩ := (hcA k hlt).keep (w' := wq) fun o => HOr.out.cell hbA
      obtain ⟨e, he⟩ : ∃ e, e = es[k] := ⟨_, rfl⟩
      rw [← he] at c0 c1 c2 c3
      have HE := Lib.hid he
      obtain ⟨n1, v1, d1, m1⟩ := e
      simp only at c0 c1 c2 c3
      subst hAe
      clear hcA he
      have hlt' : (k : Int) < (es.length : Int) := by omega
      obtain ⟨W7, hW7⟩ : ∃ W7, W7 = wq.alloc (.cells #[.string ⟨n1.toArray⟩, .int .i64 v1, .int .i64 d1, .int .i64 m1] 74) := ⟨_, rfl⟩
      have HZ7 := Lib.hid (show Bx W7 wq.heap.size [.string ⟨n1.toArray⟩, .int .i64 v1, .int .i64 d1, .int .i64 m1] by rw [hW7]; exact Bx.new' _ _ _ _ rfl)
      have hb7 : Below wq.heap.size wq W7 := by rw [hW7]; exact (Below.refl _ _).alloc (Nat.le_refl _) _
      have hz7 : wq.heap.size < W7.heap.size := by rw [hW7]; simp
      have HX7 := Lib.hid (HXr.out.below hb7 (by omega))
      have HB7 := Lib.hid (HBr.out.trans (hb7.mono hzr))
      have HO7 := Lib.hid (HOr.out.trans (hb7.mono (by omega)))
      have y4 := HX7.out 4 (by simp)
      simp only [List.getElem_cons_succ, List.getElem_cons_zero] at y4
      rw [hW7] at y4
      clear hb7
      go_wp2_with fail
      rw [← hW7]
      clear hW7 y4 c0 c1 c2 c3
      go_loopw [19] (fun i w2 => ∃ m : Nat, m ≤ us.length ∧ i = .int .i64 m ∧ (∀ j (hj : j < us.length), j < m → unE ⟨n1, v1, d1, m1⟩ us[j] = false) ∧ Below W7.heap.size W7 w2) (fun i _ => us.length - (intOf i).toNat)
      case atStart => exact ⟨0, Nat.zero_le _, rfl, fun j _ h => absurd h (by omega), Below.refl _ _⟩
      case round =>
        obtain ⟨m, hm, rfl, hno2, hbr2⟩ := hrel
        obtain ⟨wv, rfl⟩ : ∃ X : World, X = wr := ⟨_, rfl⟩
        have HNo2 := Lib.hid hno2
        have HB2 := Lib.hid hbr2
        have hz2 := hbr2.size
        have HO2 := Lib.hid (HO7.out.trans (hbr2.mono (by omega)))
        have HZ2 := Lib.hid (HZ7.out.below hbr2 hz7)
        clear hno2 hbr2
        by_cases hlm : m < us.length
        · obtain ⟨bU, oU, hUe, _, hbU, hcU⟩ := HU.out (by omega)
          obtain ⟨c0, c1, c2, c3⟩ := (hcU m hlm).keep (w' := wv) fun o => HO2.out.cell hbU
          obtain ⟨f, hf⟩ : ∃ f, f = us[m] := ⟨_, rfl⟩
          rw [← hf] at c0 c1 c2 c3
          have HF := Lib.hid hf
          obtain ⟨n2, v2, d2, m2⟩ := f
          simp only at c0 c1 c2 c3
          subst hUe
          clear hcU hf
          have hlm' : (m : Int) < (us.length : Int) := by omega
          obtain ⟨W9, hW9⟩ : ∃ W9, W9 = wv.alloc (.cells #[.string ⟨n2.toArray⟩, .int .i64 v2, .int .i64 d2, .int .i64 m2] 74) := ⟨_, rfl⟩
          have hb9 : Below wv.heap.size wv W9 := by rw [hW9]; exact (Below.refl _ _).alloc (Nat.le_refl _) _
          have HZe := Lib.hid (HZ2.out.below hb9 (by omega))
          have HZf := Lib.hid (show Bx W9 wv.heap.size [.string ⟨n2.toArray⟩, .int .i64 v2, .int .i64 d2, .int .i64 m2] by rw [hW9]; exact Bx.new' _ _ _ _ rfl)
          have HB9 := Lib.hid (show Below W7.heap.size W7 W9 from HB2.out.trans (hb9.mono hz2))
          have HO9 := Lib.hid (show Below w.heap.size w W9 from HO2.out.trans (hb9.mono (by omega)))
          clear hb9
          obtain ⟨p0, p1, p2, p3⟩ := HZe.out.four
          obtain ⟨q0, q1, q2, q3⟩ := HZf.out.four
          rw [hW9] at p0 p1 p2 p3 q0 q1 q2 q3
          by_cases hd : d1 = d2
          · subst hd
            by_cases hmm : m1 = m2
            · subst hmm
              by_cases hnn : n1 = n2
              · subst hnn
                by_cases hvv : v1 = v2
                · subst hvv
                  have HU0 := Lib.hid (show unE ⟨n1, v1, d1, m1⟩ us[m] = false by rw [← HF.out]; simp [unE, eqE])
                  go_wp2_with fail
                  rw [← hW9]
                  go_roundw
                  case rel =>
                    refine ⟨m + 1, by omega, by go_num, fun j hj hjk => ?_, HB9.out⟩
                    by_cases e : j = m
                    · subst e; exact HU0.out
                    · exact HNo2.out j hj (by omega)
                  case measure => simp [intOf]; omega
                · skip
                  have HU0 := Lib.hid (show unE ⟨n1, v1, d1, m1⟩ us[m] = true by rw [← HF.out]; simp [unE, eqE, hvv])
                  have HU1 := Lib.hid (show ctrB es us = true from any_at hlt (by rw [← HE.out]; exact any_at hlm HU0.out))
                  go_wp2_with fail
                  rw [← hW9]
                  go_ret
                  exact ⟨by rw [HU1.out]; rfl, HO9.out⟩
              · skip
                have HU0 := Lib.hid (show unE ⟨n1, v1, d1, m1⟩ us[m] = true by rw [← HF.out]; simp [unE, eqE, hnn])
                have HU1 := Lib.hid (show ctrB es us = true from any_at hlt (by rw [← HE.out]; exact any_at hlm HU0.out))
                go_wp2_with fail
                rw [← hW9]
                go_ret
                exact ⟨by rw [HU1.out]; rfl, HO9.out⟩
            · skip
              have HU0 := Lib.hid (show unE ⟨n1, v1, d1, m1⟩ us[m] = false by rw [← HF.out]; simp [unE, eqE, hmm])
              go_wp2_with fail
              rw [← hW9]
              go_roundw
              case rel =>
                refine ⟨m + 1, by omega, by go_num, fun j hj hjk => ?_, HB9.out⟩
                by_cases e : j = m
                · subst e; exact HU0.out
                · exact HNo2.out j hj (by omega)
              case measure => simp [intOf]; omega
          · skip
            have HU0 := Lib.hid (show unE ⟨n1, v1, d1, m1⟩ us[m] = false by rw [← HF.out]; simp [unE, eqE, hd])
            go_wp2_with fail
            rw [← hW9]
            go_roundw
            case rel =>
              refine ⟨m + 1, by omega, by go_num, fun j hj hjk => ?_, HB9.out⟩
              by_cases e : j = m
              · subst e; exact HU0.out
              · exact HNo2.out j hj (by omega)
            case measure => simp [intOf]; omega
        · have hlm' : ¬ ((m : Int) < (us.length : Int)) := by omega
          have HN := Lib.hid (show unEs us ⟨n1, v1, d1, m1⟩ = false from any_none fun j hj => HNo2.out j hj (by omega))
          have HB3 := Lib.hid (HB7.out.trans (HB2.out.mono (by omega)))
          go_wp2_with fail
          go_roundw
          case rel =>
            refine ⟨k + 1, by omega, by go_num, fun j hj hjk => ?_, HB3.out⟩
            by_cases e : j = k
            · subst e; rw [← HE.out]; exact HN.out
            · exact HNo.out j hj (by omega)
          case measure => simp [intOf]; omega
    · have HN := Lib.hid (show ctrB es us = false from any_none fun j hj => HNo.out j hj (by omega))
      have hlt' : ¬ ((k : Int) < (es.length : Int)) := by omega
      go_wp2_with fail
      go_ret
      exact ⟨by rw [HN.out]; rfl, HOr.out⟩

end Go.Proofs.YtepkicgnhjaokaaGreatDoor

namespace Go.Proofs.YtepkicgnhjaokaaGreatDoor
open Go.RowKit Go.Maps

theorem enc_len (es : List En) : (es.flatMap encE).length = es.length * 4 := by
  induction es with
  | nil => rfl
  | cons e es ih => rw [List.flatMap_cons, List.length_append, ih]; simp [encE]; omega
theorem enc_one (es : List En) : ∀ u ∈ es.flatMap encE, u.oneCell' = true := by
  intro u hu
  obtain ⟨e, _, h⟩ := List.mem_flatMap.1 hu
  simp only [encE, List.mem_cons, List.not_mem_nil, or_false] at h
  rcases h with rfl | rfl | rfl | rfl <;> rfl
theorem evs_src {w : World} {L B : Nat} {A : Option Addr} {es : List En} (h : EvsIn w L B A es) : SrcAt w A es.length (es.flatMap encE) := by
  refine ⟨fun e => ?_, fun ad e j u hu => ?_⟩
  · rcases Nat.eq_zero_or_pos es.length with hz | hp
    · exact hz
    · obtain ⟨b, o, e', _⟩ := h hp
      rw [e] at e'
      cases e'
  · have hj : j < es.length * 4 := by rw [← enc_len]; exact (List.getElem?_eq_some_iff.1 hu).1
    obtain ⟨b, o, e', _, _, hc⟩ := h (by omega)
    rw [e] at e'
    cases e'
    obtain ⟨i, r, hr, rfl⟩ : ∃ i r, r < 4 ∧ j = i * 4 + r := ⟨j / 4, j % 4, Nat.mod_lt _ (by omega), by omega⟩
    have hi : i < es.length := by omega
    obtain ⟨c0, c1, c2, c3⟩ := hc i hi
    obtain ⟨g0, g1, g2, g3⟩ := encE_get es i hi
    rw [Addr.add_lit]
    have hr : r = 0 ∨ r = 1 ∨ r = 2 ∨ r = 3 := by omega
    rcases hr with rfl | rfl | rfl | rfl
    · rw [Nat.add_zero] at hu ⊢; rw [← hu, g0]; exact c0
    · rw [← Nat.add_assoc, ← hu, g1]; exact c1
    · rw [← Nat.add_assoc, ← hu, g2]; exact c2
    · rw [← Nat.add_assoc, ← hu, g3]; exact c3

set_option maxRecDepth 100000 in
set_option maxHeartbeats 1000000 in
theorem growNilE_any (n : Nat) (hn : n ≤ 100000) (w : World) :
    Calls Tryz.prog 94 #[.slice none 0 0, .int .i64 n] w fun e w' => ∃ A c, e = .returned (.slice A 0 c) ∧ w'.ownsRow w.heap.size 74 4 (.slice A 0 c) 0 [] ∧ Below w.heap.size w w' := by
  obtain ⟨i0, hi, hz0, hz1, hz2⟩ := info_parts Tryz.infoEnt
  by_cases h0 : n = 0
  · subst h0
    go_enter Tryz.func94, Tryz.ntmps94
    go_wp2_with fail
    go_ret
    exact ⟨none, 0, rfl, World.ownsRow_nil _ _ _ _, Below.refl _ _⟩
  · have hold : (Builtin.firstCells i0.size 0 (.slice none 0 0)).run Tryz.prog w.drew = .ok ([] : List Value).toArray w.drew := rfl
    have hrz := Lib.run_append_grow_zeros (P := Tryz.prog) w 64 3 64 74 i0 (.agg #[.string ⟨#[]⟩, .int .i64 0, .int .i64 0, .int .i64 0]) .i64 .i64 Tryz.underlying64 Tryz.underlying3 hi hz0 none 0 0 [] hold n (by omega) (by omega) (by omega) (by omega) (by rw [hz2]; omega) (growslice_fits (by omega) (by rw [hz2]; omega))
    have hGn : 0 + n ≤ grownCap w (0 + n) 0 74 := grownCap_ge w _ _ _
    have hGm := grownCap_le_maxLen w (0 + n) 0 74 (by unfold maxLen; omega)
    obtain ⟨G, hG⟩ : ∃ G, G = grownCap w (0 + n) 0 74 := ⟨_, rfl⟩
    rw [← hG] at hrz hGn hGm
    have hG63 : G ≤ 9223372036854775807 := by unfold maxLen at hGm; omega
    have hpos : (0 : Int) < n := by omega
    obtain ⟨W, hW⟩ : ∃ W, W = w.drew.alloc (.cells (([] : List Value).toArray ++ Builtin.zeroCells (Value.agg #[.string ⟨#[]⟩, .int .i64 0, .int .i64 0, .int .i64 0]).cells n ++ Builtin.zeroCells (Value.agg #[.string ⟨#[]⟩, .int .i64 0, .int .i64 0, .int .i64 0]).cells (G - (0 + n))) 74) := ⟨_, rfl⟩
    have HR := Lib.hid (show W.ownsRow w.heap.size 74 4 (.slice (some ⟨w.heap.size, 0, none⟩) 0 G) 0 [] from ⟨rfl, .inr ⟨w.heap.size, G, _, rfl, Nat.le_refl _, by rw [hW]; exact heap_alloc_new w.drew _, Nat.zero_le _, hGm, by simp [Builtin.zeroCells, Value.cells]; omega, by simp⟩⟩)
    have HB := Lib.hid (show Below w.heap.size w W by rw [hW]; exact (Below.refl _ _).drew.alloc (Nat.le_refl _) _)
    rw [← hW] at hrz
    simp only [Nat.zero_add] at hrz
    clear hW hold hG
    go_enter Tryz.func94, Tryz.ntmps94
    go_wp2_with (at_builtin; refine Lib.wpList_append_run _ rfl _ _ _ _ rfl _ _ rfl rfl _ _ hrz ?_)
    go_ret
    exact ⟨_, _, rfl, HR.out, HB.out⟩

set_option maxRecDepth 100000 in
set_option maxHeartbeats 2000000 in
/-- 'slices.Concat(l, m)' -/
theorem concatE_any (g : Nat) (A0 : Option Addr) (es : List En) (k0 : Nat) (A1 : Option Addr) (us : List En) (k1 : Nat) (w : World) (hn : es.length ≤ 1000) (hn1 : us.length ≤ 1000) (h0 : w.cell? ⟨g, 0, none⟩ = some (.slice A0 es.length k0)) (h1 : w.cell? ⟨g, 1, none⟩ = some (.slice A1 us.length k1))
    (hA0 : EvsIn w 0 w.heap.size A0 es) (hA1 : EvsIn w 0 w.heap.size A1 us) :
    Calls Tryz.prog 74 #[.slice (some ⟨g, 0, none⟩) 2 2] w fun e w' => ∃ A c, e = .returned (.slice A (es ++ us).length c) ∧ w'.ownsRow w.heap.size 74 4 (.slice A (es ++ us).length c) (es ++ us).length ((es ++ us).flatMap encE) ∧ Below w.heap.size w w' := by
  have HA0 := Lib.hid hA0
  have HA1 := Lib.hid hA1
  have hg : g < w.heap.size := World.block_lt_of_cell? w _ h0
  clear hA0 hA1
  obtain ⟨i0, hi0, hz0, hz1, hz2⟩ := info_parts Tryz.infoEnt
  go_enter Tryz.func74, Tryz.ntmps74
  go_wp2_with fail
  go_loopw [3, 11] (fun s i wr => wr = w ∧ ((i = .int .i64 0 ∧ s = .int .i64 0) ∨ (i = .int .i64 1 ∧ s = .int .i64 es.length) ∨ (i = .int .i64 2 ∧ s = .int .i64 ((es.length : Int) + (us.length : Int))))) (fun _ i _ => 2 - (intOf i).toNat)
  case atStart => exact ⟨rfl, .inl ⟨rfl, rfl⟩⟩
  case round =>
    obtain ⟨rfl, hrel⟩ := hrel
    rcases hrel with ⟨rfl, rfl⟩ | ⟨rfl, rfl⟩ | ⟨rfl, rfl⟩
    · go_wp2_with fail
      go_roundw
      case rel => exact ⟨by first | rfl | trivial, .inr (.inl ⟨by go_num, by go_num⟩)⟩
      case measure => simp [intOf]
    · go_wp2_with fail
      go_roundw
      case rel => exact ⟨by first | rfl | trivial, .inr (.inr ⟨by go_num, by go_num⟩)⟩
      case measure => simp [intOf]
    · have hgr := growNilE_any (es.length + us.length) (by omega) wr
      go_wp2_with fail
      refine hgr.mono ?_
      rintro e w1 ⟨A1', c1', rfl, hr1, hb1⟩
      have HR1 := Lib.hid hr1
      have HB1 := Lib.hid hb1
      clear hgr hr1 hb1
      go_wp2_with fail
      obtain ⟨wo, hwo⟩ : ∃ wo : World, wo = wr := ⟨_, rfl⟩
      subst hwo
      go_loopw [6, 27] (fun s i wr => ∃ (A : Option Addr) (c m : Nat) (xs : List En), s = .slice A m c ∧ wr.ownsRow wo.heap.size 74 4 (.slice A m c) m (xs.flatMap encE) ∧ Below wo.heap.size wo wr ∧ ((i = .int .i64 0 ∧ m = 0 ∧ xs = []) ∨ (i = .int .i64 1 ∧ m = es.length ∧ xs = es) ∨ (i = .int .i64 2 ∧ m = es.length + us.length ∧ xs = es ++ us))) (fun _ i _ => 2 - (intOf i).toNat)
      case atStart => exact ⟨A1', c1', 0, [], rfl, HR1.out, HB1.out, .inl ⟨rfl, rfl, rfl⟩⟩
      case round =>
        obtain ⟨A, c, m, xs, rfl, hr, hb, hrel⟩ := hrel
        have HB := Lib.hid hb
        have hz := hb.size
        have q0 := (hb.cell (p := ⟨g, 0, none⟩) hg).trans h0
        have q1 := (hb.cell (p := ⟨g, 1, none⟩) hg).trans h1
        have HS0 := Lib.hid (evs_src (HA0.out.below hb))
        have HS1 := Lib.hid (evs_src (HA1.out.below hb))
        have HR := Lib.hid hr
        clear hb hr HR1
        rcases hrel with ⟨rfl, rfl, rfl⟩ | ⟨rfl, rfl, rfl⟩ | ⟨rfl, rfl, rfl⟩
        · go_wp2_with (at_builtin; refine wpList_append_any _ rfl _ _ 64 rfl wo.heap.size 74 i0 (.agg #[.string ⟨#[]⟩, .int .i64 0, .int .i64 0, .int .i64 0]) 4 40 Tryz.underlying64 hi0 hz0 hz1 hz2 rfl (by decide) _ _ _ rfl HR.out A0 es.length k0 (es.flatMap encE) rfl (enc_len es) HS0.out (enc_one es) ?c4 ?c5 hz ?_)
          case c4 => unfold maxLen; omega
          case c5 => omega
          intro A5 c5 w5 hrow5 hgr5 _
          have HR5 := Lib.hid (show w5.ownsRow wo.heap.size 74 4 (.slice A5 es.length c5) es.length (es.flatMap encE) by simpa using hrow5)
          have HB5 := Lib.hid (HB.out.grown hgr5 hz (fun j hj => (HR.out.lt j hj).1))
          clear hrow5 hgr5
          go_wp2_with fail
          go_roundw
          case rel => exact ⟨A5, c5, es.length, es, by first | rfl | simp, HR5.out, HB5.out, .inr (.inl ⟨by go_num, rfl, rfl⟩)⟩
          case measure => simp [intOf]
        · go_wp2_with (at_builtin; refine wpList_append_any _ rfl _ _ 64 rfl wo.heap.size 74 i0 (.agg #[.string ⟨#[]⟩, .int .i64 0, .int .i64 0, .int .i64 0]) 4 40 Tryz.underlying64 hi0 hz0 hz1 hz2 rfl (by decide) _ _ _ rfl HR.out A1 us.length k1 (us.flatMap encE) rfl (enc_len us) HS1.out (enc_one us) ?c4 ?c5 hz ?_)
          case c4 => unfold maxLen; omega
          case c5 => omega
          intro A5 c5 w5 hrow5 hgr5 _
          have HR5 := Lib.hid (show w5.ownsRow wo.heap.size 74 4 (.slice A5 (xs.length + us.length) c5) (xs.length + us.length) ((xs ++ us).flatMap encE) by rw [List.flatMap_append]; exact hrow5)
          have HB5 := Lib.hid (HB.out.grown hgr5 hz (fun j hj => (HR.out.lt j hj).1))
          clear hrow5 hgr5
          go_wp2_with fail
          go_roundw
          case rel => exact ⟨A5, c5, xs.length + us.length, xs ++ us, rfl, HR5.out, HB5.out, .inr (.inr ⟨by go_num, rfl, rfl⟩)⟩
          case measure => simp [intOf]
        · go_wp2_with fail
          go_ret
          exact ⟨A, c, by simp, by simpa using HR.out, HB.out⟩

end Go.Proofs.YtepkicgnhjaokaaGreatDoor
