/-
  DERIVED. GIVEN WITH THE SEED: THE CARDS: each row of YtkmoihkpaccbdaaDoorRows.lean that lists a variable, with what it lists TIED to the program's text (the seventh form; the later family's looks); each row that meets fmt, with fmt's text TOLD by the authors' own Lean function (tested against real Go, not proved from fmt's source: count such statements apart). THE CARD IS WHAT COUNTS. Prove the row's statement (the work); the ties are given (YtkmoihkpaccbdaaDoorTie.lean); close each card by the builder's one call (the guide's Derived/Test/ToyasCard.lean, 'card_holds'). Laid BY PROGRAM, IN A SANDBOX (cutbox-door.mjs). By AI agents, Wed Nov 11 2026. No macro, syntax, notation, axiom, sorry.
-/
import Derived.Test.YtkmoihkpaccbdaaDoorRows
import GoSem.ClaimSeven
namespace Go.Proofs.YtkmoihkpaccbdaaDoor
namespace Rows

/-- THE TIED CARD OF 'laws.FnSubs'. -/
def fnSubsCard : Claim7 := { stood := { row := fnSubsRow, standIns := [], harness := (true, "284e10f93e2774ba81cea43bec09ea975a9f69b2adb4e4e2a777637e3d436dc5"), looks := true }, kinds := [], alts := [], laidByText := true, laidKinds := [.data, .data, .data], laidTests := true, laidLooks := .later }
def FnSubsCardSaid : Prop := Claim7.holds Tryd.pinned (.plain (OpenSpec.ofChange fnSubsSpec)) fnSubsCard

/-- THE TIED CARD OF 'laws.FnExactTermText'. -/
def fnExactTermTextCard : Claim7 := { stood := { row := fnExactTermTextRow, standIns := [], harness := (true, "284e10f93e2774ba81cea43bec09ea975a9f69b2adb4e4e2a777637e3d436dc5"), looks := true }, kinds := [], alts := [], laidByText := true, laidKinds := [.data, .data, .data], laidTests := true, laidLooks := .later }
def FnExactTermTextCardSaid : Prop := Claim7.holds Tryd.pinned (.plain (OpenSpec.ofChange fnExactTermTextSpec)) fnExactTermTextCard

/-- THE SECOND FORM's CARD OF 'laws.FnSubs'. -/
def fnSubsUptoCard : Claim7 := { stood := { row := fnSubsUptoRow, standIns := [], harness := (true, "284e10f93e2774ba81cea43bec09ea975a9f69b2adb4e4e2a777637e3d436dc5"), looks := true }, kinds := [], alts := [], laidByText := true, laidKinds := [.data, .data, .data], laidTests := true, laidLooks := .later }
def FnSubsUptoCardSaid : Prop := Claim7.holds Tryd.pinned (.plain (OpenSpec.upto fnSubsSpec)) fnSubsUptoCard

/-- THE SECOND FORM's CARD OF 'laws.FnExactTermText'. -/
def fnExactTermTextUptoCard : Claim7 := { stood := { row := fnExactTermTextUptoRow, standIns := [], harness := (true, "284e10f93e2774ba81cea43bec09ea975a9f69b2adb4e4e2a777637e3d436dc5"), looks := true }, kinds := [], alts := [], laidByText := true, laidKinds := [.data, .data, .data], laidTests := true, laidLooks := .later }
def FnExactTermTextUptoCardSaid : Prop := Claim7.holds Tryd.pinned (.plain (OpenSpec.upto fnExactTermTextSpec)) fnExactTermTextUptoCard
end Rows
end Go.Proofs.YtkmoihkpaccbdaaDoor
