/-
  UsesOf: the model's and the program's answer alike.
-/
import Derived.Test.YtkmoihkpaccbdaaDoorKeysOf
namespace Go.Proofs.YtkmoihkpaccbdaaDoor
open Go.RowKit Go.Maps

/-- Is id among the numbers l? -/
def amongB (l : List Int) (id : Int) : Bool := l.any fun p => p == id
theorem amongB_succ (l : List Int) (id : Int) (j : Nat) (hj : j < l.length) : amongB (l.take (j + 1)) id = (amongB (l.take j) id || (l[j] == id)) := by
  unfold amongB
  rw [List.take_succ_eq_append_getElem hj, List.any_append]
  simp

def usesB (ts : List Tm) (id : Int) (j : Nat) : Bool := amongB (partsV (tmAt ts j)) id
/-- What UsesOf answers. -/
noncomputable def usesV (ts : List Tm) (id : Int) : List Int := if lokB ts = true then pick (usesB ts id) ts.length else []
theorem usesV_length (ts : List Tm) (id : Int) : (usesV ts id).length ≤ ts.length := by
  unfold usesV
  split
  · exact pick_length _ _
  · simp

theorem partsV_length (t : Tm) : (partsV t).length ≤ 2 := by unfold partsV; split <;> (try split) <;> simp

/-- The marks at the head of round k, where its own is x. -/
def uRow (f : Nat → Bool) (k : Nat) (x : Bool) (j : Nat) : Value := .bool (if j < k then f j else if j = k then x else false)
theorem uRow_self {f : Nat → Bool} {k : Nat} {x : Bool} : uRow f k x k = .bool x := by simp [uRow]
theorem uRow_set (f : Nat → Bool) (k : Nat) (x x' : Bool) (j : Nat) : (if j = k then Value.bool x' else uRow f k x j) = uRow f k x' j := by
  unfold uRow
  by_cases h : j = k
  · subst h; simp
  · simp [h]
theorem uRow_next (f : Nat → Bool) (k j : Nat) : uRow f k (f k) j = uRow f (k + 1) false j := by
  unfold uRow
  by_cases h : j < k
  · simp [h, show j < k + 1 by omega]
  · by_cases h2 : j = k
    · subst h2; simp
    · simp [h, h2, show ¬ j < k + 1 by omega]

section
variable (A : Option Addr) (ts : List Tm) (c L B : Nat) (id : Int) (w : World)

end

end Go.Proofs.YtkmoihkpaccbdaaDoor
