/-
  The law's own reckoning of how large its arguments are: what is left of the bound, or -1.
-/
import Derived.Test.YtndcnomgaoadeaaRows
import Derived.Test.YtndcnomgaoadeaaMem
namespace Go.Proofs.Ytndcnomgaoadeaa
open Go.RowKit

set_option maxHeartbeats 400000 in
theorem szByteS_any (A : Option Addr) (n c : Nat) (left : Int) (w : World) (hn : n ≤ 9223372036854775807) (h0 : 0 ≤ left) (h1 : left ≤ 1048576) :
    Calls Try.prog 65 #[.slice A n c, .int .i64 left] w fun e w' => e = .returned (.int .i64 (szB left n)) ∧ w = w' := by
  go_enter Try.func65, Try.ntmps65
  go_wp2
  all_goals go_ret
  · exact ⟨by simp [szB, *], rfl⟩
  · exact ⟨by simp [szB]; omega, rfl⟩

end Go.Proofs.Ytndcnomgaoadeaa
