/-
  The program's LedgerOk.
-/
import Derived.Test.YtgogapgkgbffpaaImplLedger
namespace Go.Proofs.Ytgogapgkgbffpaa
open Go.RowKit Go.Maps

set_option maxRecDepth 100000 in
set_option maxHeartbeats 1000000 in
theorem implLedgerOk_any (A : Option Addr) (ts : List Tm) (c L B : Nat) (w : World) (hA : TmsIn w L B A ts) (hB : B ≤ w.heap.size) (hn : ts.length ≤ 1048576) (hbk : bulk ts ≤ 1048576) :
    Calls Try.prog 23 #[.agg #[.slice A ts.length c]] w fun e w' => e = .returned (.bool (lokB ts)) ∧ Below w.heap.size w w' := by
  have HA := Lib.hid hA
  clear hA
  go_enter Try.func23, Try.ntmps23
  go_wp2_with fail
  have hb0 : Below w.heap.size w (w.alloc (.cells #[.slice A ts.length c] 33)) := (Below.refl _ _).alloc (Nat.le_refl _) _
  refine (readLedger_any A ts c L B _ (HA.out.keep fun p _ hp => hb0.cell (by omega)) (by simp; omega) hn hbk).mono ?_
  rintro e w1 (⟨hok, A1, c1, M, rfl, _, _, _, hb⟩ | ⟨hno, rfl, hb⟩)
  · have HB := Lib.hid (hb0.trans (hb.mono (by simp)))
    have HK := Lib.hid (lokB_true hok)
    clear hb0 hb hok
    go_wp2_with fail
    go_ret
    exact ⟨ret_bool HK.out.symm, HB.out.alloc HB.out.size _⟩
  · have HB := Lib.hid (hb0.trans (hb.mono (by simp)))
    have HK := Lib.hid (lokB_false hno)
    clear hb0 hb hno
    go_wp2_with fail
    go_ret
    exact ⟨ret_bool HK.out.symm, HB.out.alloc HB.out.size _⟩

end Go.Proofs.Ytgogapgkgbffpaa
