/-
  DERIVED. GIVEN WITH THE SEED: THE CARDS: each row of YtepkicgnhjaokaaGreatDoorRows.lean that lists a variable, with what it lists TIED to the program's text (the seventh form; the later family's looks); each row that meets fmt, with fmt's text TOLD by the authors' own Lean function (tested against real Go, not proved from fmt's source: count such statements apart). THE CARD IS WHAT COUNTS. Prove the row's statement (the work); the ties are given (YtepkicgnhjaokaaGreatDoorTie.lean); close each card by the builder's one call (the guide's Derived/Test/ToyasCard.lean, 'card_holds'). Laid BY PROGRAM, IN A SANDBOX (cutbox-door.mjs). By AI agents, Wed Nov 11 2026. No macro, syntax, notation, axiom, sorry.
-/
import Derived.Test.YtepkicgnhjaokaaGreatDoorRows
import GoSem.ClaimSeven
namespace Go.Proofs.YtepkicgnhjaokaaGreatDoor
namespace Rows

/-- THE TIED CARD OF 'laws.FnPuts'. -/
def fnPutsCard : Claim7 := { stood := { row := fnPutsRow, standIns := [], harness := (true, "d2e947fd3c5f35f1564b3af2b491ef4db9ff79510e4a53786fc5593d90b26c57"), looks := false }, kinds := [], alts := [], laidByText := true, laidKinds := [.data, .data, .data], laidTests := true, laidLooks := .later }
def FnPutsCardSaid : Prop := Claim7.holds Tryz.pinned (.plain (OpenSpec.ofChange fnPutsSpec)) fnPutsCard

/-- THE TIED CARD OF 'laws.FnDrops'. -/
def fnDropsCard : Claim7 := { stood := { row := fnDropsRow, standIns := [], harness := (true, "d2e947fd3c5f35f1564b3af2b491ef4db9ff79510e4a53786fc5593d90b26c57"), looks := false }, kinds := [], alts := [], laidByText := true, laidKinds := [.data, .data, .data], laidTests := true, laidLooks := .later }
def FnDropsCardSaid : Prop := Claim7.holds Tryz.pinned (.plain (OpenSpec.ofChange fnDropsSpec)) fnDropsCard

/-- THE TIED CARD OF 'laws.FnMerges'. -/
def fnMergesCard : Claim7 := { stood := { row := fnMergesRow, standIns := [], harness := (true, "d2e947fd3c5f35f1564b3af2b491ef4db9ff79510e4a53786fc5593d90b26c57"), looks := false }, kinds := [], alts := [], laidByText := true, laidKinds := [.data, .data, .data], laidTests := true, laidLooks := .later }
def FnMergesCardSaid : Prop := Claim7.holds Tryz.pinned (.plain (OpenSpec.ofChange fnMergesSpec)) fnMergesCard

/-- THE TIED CARD OF 'laws.FnOrdered'. -/
def fnOrderedCard : Claim7 := { stood := { row := fnOrderedRow, standIns := [], harness := (true, "d2e947fd3c5f35f1564b3af2b491ef4db9ff79510e4a53786fc5593d90b26c57"), looks := false }, kinds := [], alts := [], laidByText := true, laidKinds := [.data, .data, .data], laidTests := true, laidLooks := .later }
def FnOrderedCardSaid : Prop := Claim7.holds Tryz.pinned (.plain (OpenSpec.ofChange fnOrderedSpec)) fnOrderedCard

/-- THE TIED CARD OF 'laws.FnCopies'. -/
def fnCopiesCard : Claim7 := { stood := { row := fnCopiesRow, standIns := [], harness := (true, "d2e947fd3c5f35f1564b3af2b491ef4db9ff79510e4a53786fc5593d90b26c57"), looks := false }, kinds := [], alts := [], laidByText := true, laidKinds := [.data, .data, .data], laidTests := true, laidLooks := .later }
def FnCopiesCardSaid : Prop := Claim7.holds Tryz.pinned (.plain (OpenSpec.ofChange fnCopiesSpec)) fnCopiesCard

/-- THE SECOND FORM's CARD OF 'laws.FnPuts'. -/
def fnPutsUptoCard : Claim7 := { stood := { row := fnPutsUptoRow, standIns := [], harness := (true, "d2e947fd3c5f35f1564b3af2b491ef4db9ff79510e4a53786fc5593d90b26c57"), looks := false }, kinds := [], alts := [], laidByText := true, laidKinds := [.data, .data, .data], laidTests := true, laidLooks := .later }
def FnPutsUptoCardSaid : Prop := Claim7.holds Tryz.pinned (.plain (OpenSpec.upto fnPutsSpec)) fnPutsUptoCard

/-- THE SECOND FORM's CARD OF 'laws.FnDrops'. -/
def fnDropsUptoCard : Claim7 := { stood := { row := fnDropsUptoRow, standIns := [], harness := (true, "d2e947fd3c5f35f1564b3af2b491ef4db9ff79510e4a53786fc5593d90b26c57"), looks := false }, kinds := [], alts := [], laidByText := true, laidKinds := [.data, .data, .data], laidTests := true, laidLooks := .later }
def FnDropsUptoCardSaid : Prop := Claim7.holds Tryz.pinned (.plain (OpenSpec.upto fnDropsSpec)) fnDropsUptoCard

/-- THE SECOND FORM's CARD OF 'laws.FnMerges'. -/
def fnMergesUptoCard : Claim7 := { stood := { row := fnMergesUptoRow, standIns := [], harness := (true, "d2e947fd3c5f35f1564b3af2b491ef4db9ff79510e4a53786fc5593d90b26c57"), looks := false }, kinds := [], alts := [], laidByText := true, laidKinds := [.data, .data, .data], laidTests := true, laidLooks := .later }
def FnMergesUptoCardSaid : Prop := Claim7.holds Tryz.pinned (.plain (OpenSpec.upto fnMergesSpec)) fnMergesUptoCard

/-- THE SECOND FORM's CARD OF 'laws.FnOrdered'. -/
def fnOrderedUptoCard : Claim7 := { stood := { row := fnOrderedUptoRow, standIns := [], harness := (true, "d2e947fd3c5f35f1564b3af2b491ef4db9ff79510e4a53786fc5593d90b26c57"), looks := false }, kinds := [], alts := [], laidByText := true, laidKinds := [.data, .data, .data], laidTests := true, laidLooks := .later }
def FnOrderedUptoCardSaid : Prop := Claim7.holds Tryz.pinned (.plain (OpenSpec.upto fnOrderedSpec)) fnOrderedUptoCard

/-- THE SECOND FORM's CARD OF 'laws.FnCopies'. -/
def fnCopiesUptoCard : Claim7 := { stood := { row := fnCopiesUptoRow, standIns := [], harness := (true, "d2e947fd3c5f35f1564b3af2b491ef4db9ff79510e4a53786fc5593d90b26c57"), looks := false }, kinds := [], alts := [], laidByText := true, laidKinds := [.data, .data, .data], laidTests := true, laidLooks := .later }
def FnCopiesUptoCardSaid : Prop := Claim7.holds Tryz.pinned (.plain (OpenSpec.upto fnCopiesSpec)) fnCopiesUptoCard
end Rows
end Go.Proofs.YtepkicgnhjaokaaGreatDoor
