/-
  For every input the law FnViews answers true, and its argument reads afterwards as it read before. No condition. THE CARD: the three tables that the library reads are tied to the program's text.
-/
import Derived.Test.YtepkicgnhjaokaaDoorGFv
import Derived.Test.YtepkicgnhjaokaaDoorCards
import Derived.Test.YtepkicgnhjaokaaDoorTie
import Derived.SevenTiedAt
namespace Go.Proofs.YtepkicgnhjaokaaDoor
open Go

theorem fnViews_card : Rows.FnViewsCardSaid :=
  Claim7.holds_tied_plain_at .later [] [.data, .data, .data] true (true, "e198e2bb474b22c7b4af4a9e8c7b786420d7c896252cea3d94158410727f3fd5") false
    fnViews_holds (fun _ h => by cases h) (by kernel_rfl) (fun _ h => by cases h) fnViews_row_tie rfl ⟨rfl, rfl⟩ (by kernel_rfl) rfl
    (fun f fn hf hfn => by
      obtain rfl : f = 5 := Option.some.inj ((show Tryd.prog.funcNamed "loop.example/g00642/laws.FnViews" = some 5 by kernel_rfl).symm.trans hf) |>.symm
      obtain rfl : fn = Tryd.f5 := (Option.some.inj (Tryd.func5.symm.trans hfn)).symm
      exact ⟨by kernel_rfl, fun j t ht => by
        rw [Tryd.params5] at ht
        have hm : t ∈ [22] := by simpa using Array.mem_of_getElem? ht
        have hall : ([22].all fun u => !Tryd.prog.wantsStandIn u) = true := by kernel_rfl
        exact (show Tryd.prog.wantsStandIn t = false by simpa using List.all_eq_true.1 hall t hm)⟩)
    (by kernel_rfl)

end Go.Proofs.YtepkicgnhjaokaaDoor
