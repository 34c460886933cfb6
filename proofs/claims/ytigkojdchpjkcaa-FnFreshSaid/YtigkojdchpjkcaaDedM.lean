/-
  The model's Missing.
-/
import Derived.Test.YtigkojdchpjkcaaDedL
import Derived.Test.YtigkojdchpjkcaaSubterms
namespace Go.Proofs.Ytigkojdchpjkcaa
open Go.RowKit Go.Maps

/-- A nonce or a key that can't be had. -/
noncomputable def missB (ts : List Tm) (hv : List Int) (x : Int) : Bool := lowB ts x && !canV ts hv x
noncomputable def missV (ts : List Tm) (hv : List Int) (want : Int) : List Int := if askB ts hv = true then (subsV ts want).filter (missB ts hv) else []
theorem subsV_range {ts : List Tm} {want x : Int} (h : x ∈ subsV ts want) : 0 ≤ x ∧ x < ts.length := by
  unfold subsV at h
  split at h
  · exact pick_range h
  · simp at h

end Go.Proofs.Ytigkojdchpjkcaa
