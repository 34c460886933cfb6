/-
  The program's startsName, and how many names NamesOf gives; Copies.
-/
import Derived.Test.YtndcnomgaoadeaaTreeOkI
import Derived.Lib.ConvBytes
namespace Go.Proofs.Ytndcnomgaoadeaa
open Go.RowKit Go.Maps

/-- Is the i-th entry the first by its name? -/
def stB (es : List En) (i : Nat) : Bool := decide (i = 0) || !((es.getD (i - 1) default).name == (es.getD i default).name)
/-- How many of the first k are. -/
def nmC (es : List En) (k : Nat) : Nat := ((List.range k).filter (stB es)).length
theorem nmC_succ (es : List En) (k : Nat) : nmC es (k + 1) = nmC es k + (if stB es k then 1 else 0) := by
  unfold nmC
  rw [List.range_succ, List.filter_append, List.length_append]
  congr 1
  by_cases h : stB es k <;> simp [h]
theorem nmC_le (es : List En) (k : Nat) : nmC es k ≤ k := by
  have := List.length_filter_le (stB es) (List.range k)
  simpa [nmC] using this
/-- How many are not. -/
def cpV (vec : List Int) (es : List En) : Int := if treeB vec es then (es.length : Int) - (nmC es es.length : Nat) else -1
theorem treeB_len' {vec : List Int} {es : List En} (h : treeB vec es = true) : es.length ≤ 12 := by
  unfold treeB at h
  simp only [Bool.and_eq_true, decide_eq_true_eq] at h
  exact h.1.1.2

end Go.Proofs.Ytndcnomgaoadeaa
