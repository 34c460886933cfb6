/-
  The law's own reckoning of how large its arguments are: what is left of the bound, or -1.
-/
import Derived.Test.YtepkicgnhjaokaaDoorRows
import Derived.Test.YtepkicgnhjaokaaDoorMem
namespace Go.Proofs.YtepkicgnhjaokaaDoor
open Go.RowKit

set_option maxHeartbeats 400000 in
theorem szByteS_any (A : Option Addr) (n c : Nat) (left : Int) (w : World) (hn : n ≤ 9223372036854775807) (h0 : 0 ≤ left) (h1 : left ≤ 1048576) :
    Calls Tryd.prog 109 #[.slice A n c, .int .i64 left] w fun e w' => e = .returned (.int .i64 (szB left n)) ∧ w = w' := by
  go_enter Tryd.func109, Tryd.ntmps109
  go_wp2
  all_goals go_ret
  · exact ⟨by simp [szB, *], rfl⟩
  · exact ⟨by simp [szB]; omega, rfl⟩

end Go.Proofs.YtepkicgnhjaokaaDoor
