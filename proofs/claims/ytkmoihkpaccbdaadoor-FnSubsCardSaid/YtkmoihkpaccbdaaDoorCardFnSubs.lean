/-
  For every input the law FnSubs answers true, and its argument reads afterwards as it read before. No condition. THE CARD: the three tables that the library reads are tied to the program's text.
-/
import Derived.Test.YtkmoihkpaccbdaaDoorRowFnSubs
import Derived.Test.YtkmoihkpaccbdaaDoorCards
import Derived.Test.YtkmoihkpaccbdaaDoorTie
import Derived.SevenTiedAt
namespace Go.Proofs.YtkmoihkpaccbdaaDoor
open Go

theorem fnSubs_card : Rows.FnSubsCardSaid :=
  Claim7.holds_tied_plain_at .later [] [.data, .data, .data] true (true, "284e10f93e2774ba81cea43bec09ea975a9f69b2adb4e4e2a777637e3d436dc5") true
    fnSubs_holds (fun _ h => by cases h) (by kernel_rfl) (fun _ h => by cases h) fnSubs_row_tie rfl ⟨rfl, rfl⟩ (by kernel_rfl) rfl
    (fun f fn hf hfn => by
      obtain rfl : f = 3 := Option.some.inj ((show Tryd.prog.funcNamed "loop.example/g00642/laws.FnSubs" = some 3 by kernel_rfl).symm.trans hf) |>.symm
      obtain rfl : fn = Tryd.f3 := (Option.some.inj (Tryd.func3.symm.trans hfn)).symm
      exact ⟨by kernel_rfl, fun j t ht => by
        rw [Tryd.params3] at ht
        have hm : t ∈ [22] := by simpa using Array.mem_of_getElem? ht
        have hall : ([22].all fun u => !Tryd.prog.wantsStandIn u) = true := by kernel_rfl
        exact (show Tryd.prog.wantsStandIn t = false by simpa using List.all_eq_true.1 hall t hm)⟩)
    (by kernel_rfl)

end Go.Proofs.YtkmoihkpaccbdaaDoor
