/-
  The model's Opened, Can, All, Secret.
-/
import Derived.Test.YtkmoihkpaccbdaaDoorGDd
import Derived.Test.YtkmoihkpaccbdaaDoorStep
namespace Go.Proofs.YtkmoihkpaccbdaaDoor
open Go.RowKit Go.Maps

open Classical in
/-- May it be asked at all? -/
noncomputable def askB (ts : List Tm) (hv : List Int) : Bool := lokB ts && decide (hv.length ≤ 1000)
/-- What is had in the end. -/
noncomputable def endB (ts : List Tm) (hv : List Int) : Nat → Bool := opB ts (haveB ts.length hv)
noncomputable def openedV (ts : List Tm) (hv : List Int) : List Int := if askB ts hv = true then pick (endB ts hv) ts.length else []
noncomputable def allV (ts : List Tm) (hv : List Int) : List Int := if askB ts hv = true then pick (cnB ts (endB ts hv)) ts.length else []
noncomputable def canV (ts : List Tm) (hv : List Int) (want : Int) : Bool := askB ts hv && (hasB ts.length want && cnB ts (endB ts hv) want.toNat)
noncomputable def secretV (ts : List Tm) (hv : List Int) (want : Int) : Bool := askB ts hv && (hasB ts.length want && !canV ts hv want)

end Go.Proofs.YtkmoihkpaccbdaaDoor
