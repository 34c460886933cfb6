/-
  Intern: what it answers, as plain data; and what a new ledger with a number looks like.
-/
import Derived.Test.YtkmoihkpaccbdaaDoorGLed
import Derived.Test.YtkmoihkpaccbdaaDoorMark4
namespace Go.Proofs.YtkmoihkpaccbdaaDoor
open Go.RowKit Go.Maps

open Classical in
/-- Is the term put in? -/
noncomputable def internB (ts : List Tm) (t : Tm) : Bool := termB ts t && (decide (t ∈ ts) || decide (ts.length < 400))
open Classical in
/-- The ledger that Intern answers. -/
noncomputable def internL (ts : List Tm) (t : Tm) : List Tm := if internB ts t = true then (if t ∈ ts then ts else ts ++ [t]) else []
/-- The number that Intern answers. -/
noncomputable def internI (ts : List Tm) (t : Tm) : Int := if internB ts t = true then (if t ∈ ts then lookI ts t else ts.length) else -1

section
variable {ts : List Tm} {t : Tm}
theorem intern_no (h : internB ts t = false) : internL ts t = [] ∧ internI ts t = -1 := by
  simp [internL, internI, h]
theorem intern_old (h : termB ts t = true) (hm : t ∈ ts) : internL ts t = ts ∧ internI ts t = lookI ts t := by
  have hb : internB ts t = true := by simp [internB, h, hm]
  simp [internL, internI, hb, hm]
theorem intern_new (h : termB ts t = true) (hm : t ∉ ts) (hn : ts.length < 400) : internL ts t = ts ++ [t] ∧ internI ts t = ts.length := by
  have hb : internB ts t = true := by simp [internB, h, hn]
  simp [internL, internI, hb, hm]
theorem internB_bad (h : termB ts t = false) : internB ts t = false := by simp [internB, h]
theorem internB_full (hm : t ∉ ts) (hn : ¬ ts.length < 400) : internB ts t = false := by simp [internB, hm, hn]
theorem termB_len (h : termB ts t = true) : ts.length ≤ 400 := by
  unfold termB at h
  rw [Bool.and_eq_true] at h
  exact (lok_of h.1).1

theorem internB_term (h : internB ts t = true) : termB ts t = true := by
  unfold internB at h
  rw [Bool.and_eq_true] at h
  exact h.1
theorem internL_size (ts : List Tm) (t : Tm) (hn : ts.length + bulk ts + t.text.length ≤ 1048576) : (internL ts t).length ≤ 401 ∧ bulk (internL ts t) ≤ 1048576 := by
  unfold internL
  split
  · rename_i hb
    have := termB_len (internB_term hb)
    split
    · omega
    · rw [List.length_append, bulk_append]
      simp [bulk]
      omega
  · simp [bulk]
end

/-- A ledger of its own, and a number, are handed back. -/
def NewLedI (ls : List Tm) (i : Int) (w : World) (e : Ending) (w' : World) : Prop :=
  ∃ (us : List Tx) (A : Option Addr) (c : Nat), e = .returned (.tuple #[.agg #[.slice A ls.length c], .int .i64 i]) ∧ us.map (·.t) = ls ∧ (∀ x ∈ us, x.t.text.length ≤ x.c ∧ x.c ≤ maxLen) ∧ LedFr w' w.heap.size w'.heap.size A us ∧ Below w.heap.size w w'

end Go.Proofs.YtkmoihkpaccbdaaDoor
