/-
  The law's own reckoning of how large its arguments are: what is left of the bound, or -1.
-/
import Derived.Test.YtgomdjhfdnbmdaaRows
import Derived.Test.YtgomdjhfdnbmdaaMem
namespace Go.Proofs.Ytgomdjhfdnbmdaa
open Go.RowKit

set_option maxHeartbeats 400000 in
theorem szByteS_any (A : Option Addr) (n c : Nat) (left : Int) (w : World) (hn : n ≤ 9223372036854775807) (h0 : 0 ≤ left) (h1 : left ≤ 1048576) :
    Calls Try.prog 63 #[.slice A n c, .int .i64 left] w fun e w' => e = .returned (.int .i64 (szB left n)) ∧ w = w' := by
  go_enter Try.func63, Try.ntmps63
  go_wp2
  all_goals go_ret
  · exact ⟨by simp [szB, *], rfl⟩
  · exact ⟨by simp [szB]; omega, rfl⟩

end Go.Proofs.Ytgomdjhfdnbmdaa
