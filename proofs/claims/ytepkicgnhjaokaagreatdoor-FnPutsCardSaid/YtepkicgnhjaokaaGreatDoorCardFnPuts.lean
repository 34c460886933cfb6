/-
  For every input the law FnPuts answers true, and its argument reads afterwards as it read before. No condition. THE CARD: the three tables that the library reads are tied to the program's text.
-/
import Derived.Test.YtepkicgnhjaokaaGreatDoorGFp
import Derived.Test.YtepkicgnhjaokaaGreatDoorCards
import Derived.Test.YtepkicgnhjaokaaGreatDoorTie
import Derived.SevenTiedAt
namespace Go.Proofs.YtepkicgnhjaokaaGreatDoor
open Go

theorem fnPuts_card : Rows.FnPutsCardSaid :=
  Claim7.holds_tied_plain_at .later [] [.data, .data, .data] true (true, "d2e947fd3c5f35f1564b3af2b491ef4db9ff79510e4a53786fc5593d90b26c57") false
    fnPuts_holds (fun _ h => by cases h) (by kernel_rfl) (fun _ h => by cases h) fnPuts_row_tie rfl ⟨rfl, rfl⟩ (by kernel_rfl) rfl
    (fun f fn hf hfn => by
      obtain rfl : f = 3 := Option.some.inj ((show Tryz.prog.funcNamed "loop.example/g00642/laws.FnPuts" = some 3 by kernel_rfl).symm.trans hf) |>.symm
      obtain rfl : fn = Tryz.f3 := (Option.some.inj (Tryz.func3.symm.trans hfn)).symm
      exact ⟨by kernel_rfl, fun j t ht => by
        rw [Tryz.params3] at ht
        have hm : t ∈ [22] := by simpa using Array.mem_of_getElem? ht
        have hall : ([22].all fun u => !Tryz.prog.wantsStandIn u) = true := by kernel_rfl
        exact (show Tryz.prog.wantsStandIn t = false by simpa using List.all_eq_true.1 hall t hm)⟩)
    (by kernel_rfl)

end Go.Proofs.YtepkicgnhjaokaaGreatDoor
