/-
  Open: the model's and the program's answer alike.
-/
import Derived.Test.YtckajeippfpojaaGreatGLed
namespace Go.Proofs.YtckajeippfpojaaGreat
open Go.RowKit Go.Maps

/-- The term of a number. -/
def tmAt (ts : List Tm) (i : Int) : Tm := ts[i.toNat]?.getD default

theorem tmAt_nat (ts : List Tm) (i : Nat) (h : i < ts.length) : tmAt ts i = ts[i] := by simp [tmAt, h]

/-- What Open answers. -/
noncomputable def openV (ts : List Tm) (key id : Int) : Value :=
  if lokB ts = true ∧ hasB ts.length id = true ∧ (tmAt ts id).kind = 5 ∧ (tmAt ts id).a = key then .tuple #[.int .i64 (tmAt ts id).b, .bool true] else .tuple #[.int .i64 (-1), .bool false]

theorem openV_form (ts : List Tm) (key id : Int) : ∃ n b, openV ts key id = .tuple #[.int .i64 n, .bool b] := by
  unfold openV
  split
  · exact ⟨_, _, rfl⟩
  · exact ⟨_, _, rfl⟩

theorem hasB_iff (n : Nat) (i : Int) : hasB n i = true ↔ 0 ≤ i ∧ i < n := by simp [hasB]

/-- What is known of a term's value by its kind. -/
theorem tv_shape (t : Tm) (h : t.kind = 0 ∨ t.kind = 1 ∨ t.kind = 2 ∨ t.kind = 3 ∨ t.kind = 4 ∨ t.kind = 5 ∨ t.kind = 6) :
    ∃ T v, tv t = .iface T v ∧ (t.kind ≠ 5 → T ≠ 272) ∧ (t.kind ≠ 6 → T ≠ 273) := by
  rcases h with h | h | h | h | h | h | h
  all_goals
    refine ⟨_, _, by simp [tv, h]; exact ⟨rfl, rfl⟩, fun h' => ?_, fun h' => ?_⟩
    all_goals first | decide | exact absurd h h'

theorem tv_seal (t : Tm) (h : t.kind = 5) : tv t = .iface 272 (.agg #[.int .i64 t.a, .int .i64 t.b]) := by simp [tv, h]
theorem tv_sign (t : Tm) (h : t.kind = 6) : tv t = .iface 273 (.agg #[.int .i64 t.a, .int .i64 t.b]) := by simp [tv, h]

theorem kind_of_good {ts : List Tm} {i : Nat} (h : Good ts i) : ∃ hi : i < ts.length, ts[i].kind = 0 ∨ ts[i].kind = 1 ∨ ts[i].kind = 2 ∨ ts[i].kind = 3 ∨ ts[i].kind = 4 ∨ ts[i].kind = 5 ∨ ts[i].kind = 6 := by
  obtain ⟨hi, h1, _⟩ := h
  refine ⟨hi, ?_⟩
  unfold okB at h1
  by_cases h0 : ts[i].kind = 0 ∨ ts[i].kind = 1
  · omega
  by_cases h2 : ts[i].kind = 2
  · omega
  by_cases h4 : ts[i].kind = 4
  · omega
  by_cases h3 : ts[i].kind = 3 ∨ ts[i].kind = 5 ∨ ts[i].kind = 6
  · omega
  · simp [h0, h2, h4, h3] at h1

section
variable (A : Option Addr) (ts : List Tm) (c L B : Nat) (key id : Int) (w : World)

end

end Go.Proofs.YtckajeippfpojaaGreat
