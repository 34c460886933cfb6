/-
  The program's isDevice, knows, fits.
-/
import Derived.Test.YtgomdjhfdnbmdaaCmp
import Derived.Test.YtgomdjhfdnbmdaaGVec
import Derived.BigQuiet
namespace Go.Proofs.Ytgomdjhfdnbmdaa
open Go.RowKit Go.Maps

def devB (x : Int) : Bool := decide (0 ≤ x) && decide (x < 4)

set_option maxRecDepth 100000 in
set_option maxHeartbeats 1000000 in
theorem isDevice_any (x : Int) (w : World) : Calls Try.prog 34 #[.int .i64 x] w fun e w' => e = .returned (.bool (devB x)) ∧ w = w' := by
  have HD := Lib.hid (show devB x = (decide (0 ≤ x) && decide (x < 4)) from rfl)
  go_enter Try.func34, Try.ntmps34
  by_cases h0 : 0 ≤ x
  · by_cases h1 : x < 4
    · have HV := Lib.hid (show devB x = true by rw [HD.out]; simp [h0, h1])
      go_wp2_with fail
      go_ret
      exact ⟨ret_bool (a := true) HV.out.symm, rfl⟩
    · have HV := Lib.hid (show devB x = false by rw [HD.out]; simp; omega)
      go_wp2_with fail
      go_ret
      exact ⟨ret_bool (a := false) HV.out.symm, rfl⟩
  · have HV := Lib.hid (show devB x = false by rw [HD.out]; simp; omega)
    go_wp2_with fail
    go_ret
    exact ⟨ret_bool (a := false) HV.out.symm, rfl⟩

/-- Is that deed known? -/
def knowB (a b c d dev num : Int) : Bool := decide (num ≤ nth4 a b c d dev.toNat)

/-- Does an entry fit? -/
def fitB (a b c d : Int) (e : En) : Bool := decide (0 ≤ e.val) && decide (e.val ≤ 999) && devB e.dev && decide (1 ≤ e.num) && knowB a b c d e.dev e.num

end Go.Proofs.Ytgomdjhfdnbmdaa
