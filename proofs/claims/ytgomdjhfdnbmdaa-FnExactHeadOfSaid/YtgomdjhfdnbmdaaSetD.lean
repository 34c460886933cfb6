/-
  The program's set of deeds: new, asked, added to.
-/
import Derived.Test.YtgomdjhfdnbmdaaSet
import Derived.Test.YtgomdjhfdnbmdaaArgs
import Derived.Test.YtgomdjhfdnbmdaaBx
import Derived.DeepKeys5
import Derived.Deep.RegionHeld3
import Derived.Deep.RegionLaw
import Derived.StillTailTactics
import Derived.Outline
namespace Go.Proofs.Ytgomdjhfdnbmdaa
open Go.RowKit Go.Maps

theorem Try.keyedD : Keyed Try.prog 99 := Keyed.of_law (deep_law_gate Try.laidOut (of_decide_eq_true (by kernel_rfl)) (of_decide_eq_true (by kernel_rfl)) (by kernel_rfl) (by kernel_rfl))
theorem Try.keyTypeD : Try.prog.keyType 99 = true := by kernel_rfl
theorem Try.cellsD : Try.prog.cellsOf 99 = 2 := by kernel_rfl
theorem Try.typesD : ∃ m, Try.prog.types.size = m + 1 := Nat.exists_eq_succ_of_ne_zero (Nat.pos_iff_ne_zero.1 (of_decide_eq_true (by kernel_rfl)))
theorem zeroBool (w : World) : (zeroValue 4).run Try.prog w = .ok (.bool false) w := by kernel_rfl

/-- Two numbers of 64 bits. -/
def WfD (d : Int × Int) : Prop := (Lit.int .i64 d.1).wf = true ∧ (Lit.int .i64 d.2).wf = true
/-- What a deed reads as, as a key. -/
def klD (d : Int × Int) : Lit := .string (keyBytes [.int .i64 d.1, .int .i64 d.2])
theorem klD_key (d : Int × Int) : WideAt.IsKeyLit (klD d) := trivial
/-- A deed's cells. -/
def encD (d : Int × Int) : List Value := [.int .i64 d.1, .int .i64 d.2]

theorem keyOf_deed (d : Int × Int) (h : WfD d) : keyOf Try.prog 99 (.agg #[.int .i64 d.1, .int .i64 d.2]) = some (klD d) := by
  obtain ⟨h0, h1⟩ := h
  obtain ⟨m, hm⟩ := Try.typesD
  unfold keyOf
  simp only [Try.underlying99]
  rw [if_pos (by simp [Try.keyTypeD, Value.formed, Try.underlying99, Try.cellsD]), hm]
  unfold Program.keyLits
  simp only [Try.underlying99, Value.cells]
  rw [if_pos (by rw [Try.cellsD]; exact ⟨rfl, by decide +kernel⟩)]
  simp [Try.cellsInt, Program.keyLits, Try.underlying3, h0, h1, klD]

theorem klD_inj (d e : Int × Int) (hd : WfD d) (he : WfD e) (h : klD d = klD e) : d = e := by
  have := Try.keyedD.inj (keyOf_deed d hd) (h ▸ keyOf_deed e he)
  simp at this
  exact Prod.ext this.1 this.2

/-- One deed in a slice. -/
def OneDeed (w : World) (A : Option Addr) (d : Int × Int) : Prop := ∃ g, A = some ⟨g, 0, none⟩ ∧ w.cell? ⟨g, 0, none⟩ = some (.int .i64 d.1) ∧ w.cell? ⟨g, 1, none⟩ = some (.int .i64 d.2)

/-- The set behind an addition. -/
def addB (us : List (Int × Int)) (d : Int × Int) : List (Int × Int) := if inB us d = true then us else us ++ [d]

theorem Try.infoDeed : (Try.prog.info? 99).map (fun i => (i.zero, i.size, i.bytes)) = some (some (.agg #[.int .i64 0, .int .i64 0]), 2, 16) := by kernel_rfl

theorem owns_one2 {w : World} {base g : Nat} {e : TypeId} {v0 v1 : Value} (hg : base ≤ g) (hb : w.heap[g]? = some (.cells #[v0, v1] e (0, 0))) : w.ownsRow base e 2 (.slice (some ⟨g, 0, none⟩) 1 1) 1 [v0, v1] :=
  ⟨by simp, .inr ⟨g, 1, _, rfl, hg, hb, Nat.le_refl _, by unfold maxLen; omega, by simp, by simp⟩⟩

end Go.Proofs.Ytgomdjhfdnbmdaa
