/-
  KeysOf: the model's and the program's answer alike.
-/
import Derived.Test.YtkmoihkpaccbdaaDoorPick
namespace Go.Proofs.YtkmoihkpaccbdaaDoor
open Go.RowKit Go.Maps

def isKey (ts : List Tm) (j : Nat) : Bool := (tmAt ts j).kind == 1
/-- What KeysOf answers. -/
noncomputable def keysV (ts : List Tm) : List Int := if lokB ts = true then pick (isKey ts) ts.length else []

theorem keysV_length (ts : List Tm) : (keysV ts).length ≤ ts.length := by
  unfold keysV
  split
  · exact pick_length _ _
  · simp

theorem hasKeyB_nat (ts : List Tm) (j : Nat) (h : j < ts.length) : hasKeyB ts j = isKey ts j := by
  unfold hasKeyB isKey tmAt
  rw [(hasB_iff ts.length j).2 ⟨by omega, by omega⟩]
  rfl

theorem NewIntsFr.nil {w w' : World} (hb : Below w.heap.size w w') : NewIntsFr [] w (.returned (.slice none 0 0)) w' :=
  ⟨none, 0, rfl, fun h => absurd h (by simp), hb⟩

section
variable (A : Option Addr) (ts : List Tm) (c L B : Nat) (w : World)

end

end Go.Proofs.YtkmoihkpaccbdaaDoor
