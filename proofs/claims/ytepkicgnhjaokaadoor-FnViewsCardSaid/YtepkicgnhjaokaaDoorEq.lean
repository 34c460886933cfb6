/-
  The law's own comparisons: what reads alike is told to be alike.
-/
import Derived.Test.YtepkicgnhjaokaaDoorRows
import Derived.Test.YtepkicgnhjaokaaDoorMem
import Derived.Deep.QuietTactic
import Derived.BigQuiet
import Derived.StillTailTactics
namespace Go.Proofs.YtepkicgnhjaokaaDoor
open Go.RowKit

set_option maxHeartbeats 400000 in
theorem eqByteS_same (A A' : Option Addr) (l : List UInt8) (c c' L L' B B' : Nat) (w : World) (hA : BytesIn w L B A l) (hA' : BytesIn w L' B' A' l) (hn : l.length ≤ 1048576) :
    Calls Tryd.prog 94 #[.slice A l.length c, .slice A' l.length c'] w fun e w' => e = .returned (.bool true) ∧ Below w.heap.size w w' := by
  go_enter Tryd.func94, Tryd.ntmps94
  go_wp2
  go_loopw [5] (fun i wr => ∃ k n : Nat, k ≤ l.length ∧ i = .int .i64 k ∧ wr = w.drewN n) (fun i _ => l.length - (intOf i).toNat)
  case atStart => exact ⟨0, 0, Nat.zero_le _, rfl, rfl⟩
  case round =>
    obtain ⟨k, n, hk, rfl, rfl⟩ := hrel
    by_cases hlt : k < l.length
    · obtain ⟨b, o, rfl, _, hb, hc⟩ := hA (by omega)
      obtain ⟨b', o', rfl, _, hb', hc'⟩ := hA' (by omega)
      have d0 := hc k hlt
      have d1 := hc' k hlt
      clear hc hc' hA hA'
      go_wp2
      go_quiet (fail)
      go_wp2
      go_roundw
      case rel => exact ⟨k + 1, _, by omega, by go_num, rfl⟩
      case measure => simp [intOf]; omega
    · go_wp2
      go_ret
      exact ⟨rfl, below_drewN (Below.refl _ _) _⟩

end Go.Proofs.YtepkicgnhjaokaaDoor
