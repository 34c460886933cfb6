/-
  The law's own comparisons: what reads alike is told to be alike.
-/
import Derived.Test.YtkmoihkpaccbdaaDoorRows
import Derived.Test.YtkmoihkpaccbdaaDoorMem
import Derived.Deep.QuietTactic
import Derived.BigQuiet
import Derived.StillTailTactics
namespace Go.Proofs.YtkmoihkpaccbdaaDoor
open Go.RowKit

set_option maxHeartbeats 400000 in
theorem eqByteS_same (A A' : Option Addr) (l : List UInt8) (c c' L L' B B' : Nat) (w : World) (hA : BytesIn w L B A l) (hA' : BytesIn w L' B' A' l) (hn : l.length ≤ 1048576) :
    Calls Tryd.prog 14 #[.slice A l.length c, .slice A' l.length c'] w fun e w' => e = .returned (.bool true) ∧ Below w.heap.size w w' := by
  go_enter Tryd.func14, Tryd.ntmps14
  go_wp2
  go_loopw [5] (fun i wr => ∃ k n : Nat, k ≤ l.length ∧ i = .int .i64 k ∧ wr = w.drewN n) (fun i _ => l.length - (intOf i).toNat)
  case atStart => exact ⟨0, 0, Nat.zero_le _, rfl, rfl⟩
  case round =>
    obtain ⟨k, n, hk, rfl, rfl⟩ := hrel
    by_cases hlt : k < l.length
    · obtain ⟨b, o, rfl, _, hb, hc⟩ := hA (by omega)
      obtain ⟨b', o', rfl, _, hb', hc'⟩ := hA' (by omega)
      have d0 := hc k hlt
      have d1 := hc' k hlt
      clear hc hc' hA hA'
      go_wp2
      go_quiet (fail)
      go_wp2
      go_roundw
      case rel => exact ⟨k + 1, _, by omega, by go_num, rfl⟩
      case measure => simp [intOf]; omega
    · go_wp2
      go_ret
      exact ⟨rfl, below_drewN (Below.refl _ _) _⟩

set_option maxHeartbeats 400000 in
theorem eqTerm_same (k a b : Int) (A A' : Option Addr) (l : List UInt8) (c c' L L' B B' : Nat) (w : World) (hA : BytesIn w L B A l) (hA' : BytesIn w L' B' A' l) (hB : B ≤ w.heap.size) (hB' : B' ≤ w.heap.size) (hn : l.length ≤ 1048576) :
    Calls Tryd.prog 52 #[.agg #[.int .i64 k, .int .i64 a, .int .i64 b, .slice A l.length c], .agg #[.int .i64 k, .int .i64 a, .int .i64 b, .slice A' l.length c']] w fun e w' => e = .returned (.bool true) ∧ Below w.heap.size w w' := by
  have HA := Lib.hid hA
  have HA' := Lib.hid hA'
  clear hA hA'
  go_enter Tryd.func52, Tryd.ntmps52
  go_wp2_with fail
  have hbel : Below w.heap.size w ((w.alloc (.cells #[.int .i64 k, .int .i64 a, .int .i64 b, .slice A l.length c] 71)).alloc (.cells #[.int .i64 k, .int .i64 a, .int .i64 b, .slice A' l.length c'] 71)) := ((Below.refl _ _).alloc (Nat.le_refl _) _).alloc (by simp) _
  refine (eqByteS_same _ _ _ _ _ L L' B B' _ ?h1 ?h2 hn).mono ?_
  case h1 => exact HA.out.keep fun p _ hp => hbel.cell (by omega)
  case h2 => exact HA'.out.keep fun p _ hp => hbel.cell (by omega)
  rintro e w' ⟨rfl, hb⟩
  have HB := Lib.hid (hbel.trans (hb.mono (by simp; omega)))
  clear hb hbel
  go_wp2
  go_ret
  exact ⟨rfl, HB.out⟩

set_option maxRecDepth 100000 in
set_option maxHeartbeats 400000 in
theorem eqTermS_same (A A' : Option Addr) (ts : List Tm) (c c' L L' B B' : Nat) (w : World) (hA : TmsIn w L B A ts) (hA' : TmsIn w L' B' A' ts) (hB : B ≤ w.heap.size) (hB' : B' ≤ w.heap.size) (hn : ts.length ≤ 1048576) (hbk : bulk ts ≤ 1048576) :
    Calls Tryd.prog 32 #[.slice A ts.length c, .slice A' ts.length c'] w fun e w' => e = .returned (.bool true) ∧ Below w.heap.size w w' := by
  go_enter Tryd.func32, Tryd.ntmps32
  go_wp2
  go_loopw [5] (fun i wr => ∃ k : Nat, k ≤ ts.length ∧ i = .int .i64 k ∧ Below w.heap.size w wr) (fun i _ => ts.length - (intOf i).toNat)
  case atStart => exact ⟨0, Nat.zero_le _, rfl, Below.refl _ _⟩
  case round =>
    obtain ⟨k, hk, rfl, hbel⟩ := hrel
    have HBel := Lib.hid hbel
    by_cases hlt : k < ts.length
    · obtain ⟨b, o, rfl, _, hb, hc⟩ := hA (by omega)
      obtain ⟨b', o', rfl, _, hb', hc'⟩ := hA' (by omega)
      obtain ⟨A1, c1, x0, x1, x2, x3, _, _, hby⟩ := (hc k hlt).keep (by assumption) hb (fun p _ hp => hbel.cell (by omega))
      obtain ⟨A2, c2, y0, y1, y2, y3, _, _, hby'⟩ := (hc' k hlt).keep (by assumption) hb' (fun p _ hp => hbel.cell (by omega))
      have HY := Lib.hid hby
      have HY' := Lib.hid hby'
      have hle := text_le_bulk ts k hlt
      have hz := hbel.size
      clear hc hc' hA hA' hbel hby hby'
      go_wp2
      go_still_tail 8, (by kernel_rfl)
      change wpList _ _ _ _ _ wr.drew
      go_wp2_with fail
      refine (eqTerm_same _ _ _ _ _ _ _ _ L L' B B' _ HY.out.drew HY'.out.drew (Nat.le_trans hB hz) (Nat.le_trans hB' hz) (by omega)).mono ?_
      rintro e w1 ⟨rfl, hb1⟩
      have HB := Lib.hid (HBel.out.drew.trans (hb1.mono hz))
      clear hb1 x0 x1 x2 x3 y0 y1 y2 y3
      go_wp2
      go_roundw
      case rel => exact ⟨k + 1, by omega, by go_num, HB.out⟩
      case measure => simp [intOf]; omega
    · go_wp2
      go_ret
      exact ⟨rfl, hbel⟩

set_option maxHeartbeats 400000 in
theorem eqLedger_same (A A' : Option Addr) (ts : List Tm) (c c' L L' B B' : Nat) (w : World) (hA : TmsIn w L B A ts) (hA' : TmsIn w L' B' A' ts) (hB : B ≤ w.heap.size) (hB' : B' ≤ w.heap.size) (hn : ts.length ≤ 1048576) (hbk : bulk ts ≤ 1048576) :
    Calls Tryd.prog 15 #[.agg #[.slice A ts.length c], .agg #[.slice A' ts.length c']] w fun e w' => e = .returned (.bool true) ∧ Below w.heap.size w w' := by
  have HA := Lib.hid hA
  have HA' := Lib.hid hA'
  clear hA hA'
  go_enter Tryd.func15, Tryd.ntmps15
  go_wp2_with fail
  have hbel : Below w.heap.size w ((w.alloc (.cells #[.slice A ts.length c] 25)).alloc (.cells #[.slice A' ts.length c'] 25)) := ((Below.refl _ _).alloc (Nat.le_refl _) _).alloc (by simp) _
  refine (eqTermS_same _ _ _ _ _ L L' B B' _ ?h1 ?h2 (by simp; omega) (by simp; omega) hn hbk).mono ?_
  case h1 => exact HA.out.keep fun p _ hp => hbel.cell (by omega)
  case h2 => exact HA'.out.keep fun p _ hp => hbel.cell (by omega)
  rintro e w' ⟨rfl, hb⟩
  have HB := Lib.hid (hbel.trans (hb.mono (by simp; omega)))
  clear hb hbel
  go_wp2
  go_ret
  exact ⟨rfl, HB.out⟩

end Go.Proofs.YtkmoihkpaccbdaaDoor
