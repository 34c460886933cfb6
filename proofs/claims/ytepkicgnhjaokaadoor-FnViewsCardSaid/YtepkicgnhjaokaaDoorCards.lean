/-
  DERIVED. GIVEN WITH THE SEED: THE CARDS: each row of YtepkicgnhjaokaaDoorRows.lean that lists a variable, with what it lists TIED to the program's text (the seventh form; the later family's looks); each row that meets fmt, with fmt's text TOLD by the authors' own Lean function (tested against real Go, not proved from fmt's source: count such statements apart). THE CARD IS WHAT COUNTS. Prove the row's statement (the work); the ties are given (YtepkicgnhjaokaaDoorTie.lean); close each card by the builder's one call (the guide's Derived/Test/ToyasCard.lean, 'card_holds'). Laid BY PROGRAM, IN A SANDBOX (cutbox-door.mjs). By AI agents, Wed Nov 11 2026. No macro, syntax, notation, axiom, sorry.
-/
import Derived.Test.YtepkicgnhjaokaaDoorRows
import GoSem.ClaimSeven
namespace Go.Proofs.YtepkicgnhjaokaaDoor
namespace Rows

/-- THE TIED CARD OF 'laws.FnVecs'. -/
def fnVecsCard : Claim7 := { stood := { row := fnVecsRow, standIns := [], harness := (true, "e198e2bb474b22c7b4af4a9e8c7b786420d7c896252cea3d94158410727f3fd5"), looks := false }, kinds := [], alts := [], laidByText := true, laidKinds := [.data, .data, .data], laidTests := true, laidLooks := .later }
def FnVecsCardSaid : Prop := Claim7.holds Tryd.pinned (.plain (OpenSpec.ofChange fnVecsSpec)) fnVecsCard

/-- THE TIED CARD OF 'laws.FnAssoc'. -/
def fnAssocCard : Claim7 := { stood := { row := fnAssocRow, standIns := [], harness := (true, "e198e2bb474b22c7b4af4a9e8c7b786420d7c896252cea3d94158410727f3fd5"), looks := false }, kinds := [], alts := [], laidByText := true, laidKinds := [.data, .data, .data], laidTests := true, laidLooks := .later }
def FnAssocCardSaid : Prop := Claim7.holds Tryd.pinned (.plain (OpenSpec.ofChange fnAssocSpec)) fnAssocCard

/-- THE TIED CARD OF 'laws.FnViews'. -/
def fnViewsCard : Claim7 := { stood := { row := fnViewsRow, standIns := [], harness := (true, "e198e2bb474b22c7b4af4a9e8c7b786420d7c896252cea3d94158410727f3fd5"), looks := false }, kinds := [], alts := [], laidByText := true, laidKinds := [.data, .data, .data], laidTests := true, laidLooks := .later }
def FnViewsCardSaid : Prop := Claim7.holds Tryd.pinned (.plain (OpenSpec.ofChange fnViewsSpec)) fnViewsCard

/-- THE TIED CARD OF 'laws.FnExactView'. -/
def fnExactViewCard : Claim7 := { stood := { row := fnExactViewRow, standIns := [], harness := (true, "e198e2bb474b22c7b4af4a9e8c7b786420d7c896252cea3d94158410727f3fd5"), looks := false }, kinds := [], alts := [], laidByText := true, laidKinds := [.data, .data, .data], laidTests := true, laidLooks := .later }
def FnExactViewCardSaid : Prop := Claim7.holds Tryd.pinned (.plain (OpenSpec.ofChange fnExactViewSpec)) fnExactViewCard

/-- THE SECOND FORM's CARD OF 'laws.FnVecs'. -/
def fnVecsUptoCard : Claim7 := { stood := { row := fnVecsUptoRow, standIns := [], harness := (true, "e198e2bb474b22c7b4af4a9e8c7b786420d7c896252cea3d94158410727f3fd5"), looks := false }, kinds := [], alts := [], laidByText := true, laidKinds := [.data, .data, .data], laidTests := true, laidLooks := .later }
def FnVecsUptoCardSaid : Prop := Claim7.holds Tryd.pinned (.plain (OpenSpec.upto fnVecsSpec)) fnVecsUptoCard

/-- THE SECOND FORM's CARD OF 'laws.FnAssoc'. -/
def fnAssocUptoCard : Claim7 := { stood := { row := fnAssocUptoRow, standIns := [], harness := (true, "e198e2bb474b22c7b4af4a9e8c7b786420d7c896252cea3d94158410727f3fd5"), looks := false }, kinds := [], alts := [], laidByText := true, laidKinds := [.data, .data, .data], laidTests := true, laidLooks := .later }
def FnAssocUptoCardSaid : Prop := Claim7.holds Tryd.pinned (.plain (OpenSpec.upto fnAssocSpec)) fnAssocUptoCard

/-- THE SECOND FORM's CARD OF 'laws.FnViews'. -/
def fnViewsUptoCard : Claim7 := { stood := { row := fnViewsUptoRow, standIns := [], harness := (true, "e198e2bb474b22c7b4af4a9e8c7b786420d7c896252cea3d94158410727f3fd5"), looks := false }, kinds := [], alts := [], laidByText := true, laidKinds := [.data, .data, .data], laidTests := true, laidLooks := .later }
def FnViewsUptoCardSaid : Prop := Claim7.holds Tryd.pinned (.plain (OpenSpec.upto fnViewsSpec)) fnViewsUptoCard

/-- THE SECOND FORM's CARD OF 'laws.FnExactView'. -/
def fnExactViewUptoCard : Claim7 := { stood := { row := fnExactViewUptoRow, standIns := [], harness := (true, "e198e2bb474b22c7b4af4a9e8c7b786420d7c896252cea3d94158410727f3fd5"), looks := false }, kinds := [], alts := [], laidByText := true, laidKinds := [.data, .data, .data], laidTests := true, laidLooks := .later }
def FnExactViewUptoCardSaid : Prop := Claim7.holds Tryd.pinned (.plain (OpenSpec.upto fnExactViewSpec)) fnExactViewUptoCard
end Rows
end Go.Proofs.YtepkicgnhjaokaaDoor
