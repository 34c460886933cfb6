/-
  The program's question whether a tree that was read may be.
-/
import Derived.Test.YtgomdjhfdnbmdaaFit
import Derived.Test.YtgomdjhfdnbmdaaSetD
import Derived.Outline
namespace Go.Proofs.Ytgomdjhfdnbmdaa
open Go.RowKit Go.Maps

/-- Four cells from o on in block b hold the entry e, as the program reads it. -/
def EvIn (w : World) (b o : Nat) (e : En) : Prop :=
  w.cell? ⟨b, o, none⟩ = some (.string ⟨e.name.toArray⟩) ∧ w.cell? ⟨b, o + 1, none⟩ = some (.int .i64 e.val) ∧ w.cell? ⟨b, o + 2, none⟩ = some (.int .i64 e.dev) ∧ w.cell? ⟨b, o + 3, none⟩ = some (.int .i64 e.num)

/-- The slice address A (of es.length entries) holds the entries es, as the program reads them, in a block from L on, below B. -/
def EvsIn (w : World) (L B : Nat) (A : Option Addr) (es : List En) : Prop :=
  0 < es.length → ∃ b o, A = some ⟨b, o, none⟩ ∧ L ≤ b ∧ b < B ∧ ∀ i (hi : i < es.length), EvIn w b (o + i * 4) es[i]

section
variable {w w' : World} {L L' B B' : Nat} {A : Option Addr} {es : List En}
theorem EvIn.keep {b o : Nat} {e : En} (h : EvIn w b o e) (hk : ∀ o, w'.cell? ⟨b, o, none⟩ = w.cell? ⟨b, o, none⟩) : EvIn w' b o e :=
  ⟨(hk _).trans h.1, (hk _).trans h.2.1, (hk _).trans h.2.2.1, (hk _).trans h.2.2.2⟩
theorem EvsIn.keep (h : EvsIn w L B A es) (hk : ∀ p : Addr, L ≤ p.block → p.block < B → w'.cell? p = w.cell? p) : EvsIn w' L B A es := fun hl => by
  obtain ⟨b, o, e, hL, hb, hc⟩ := h hl
  exact ⟨b, o, e, hL, hb, fun i hi => (hc i hi).keep fun o => hk _ hL hb⟩
theorem EvsIn.mono (h : EvsIn w L B A es) (hB : B ≤ B') : EvsIn w L B' A es := fun hl => by
  obtain ⟨b, o, e, hL, hb, hc⟩ := h hl
  exact ⟨b, o, e, hL, by omega, hc⟩
theorem EvsIn.low (h : EvsIn w L B A es) (hL : L' ≤ L) : EvsIn w L' B A es := fun hl => by
  obtain ⟨b, o, e, hL', hb, hc⟩ := h hl
  exact ⟨b, o, e, by omega, hb, hc⟩
theorem EvsIn.below (h : EvsIn w L B A es) (hb : Below B w w') : EvsIn w' L B A es := h.keep fun _ _ hp => hb.cell hp
end

def deedOf (e : En) : Int × Int := (e.dev, e.num)

/-- May the i-th entry stand there? -/
def goodB (a b c d : Int) (es : List En) (i : Nat) : Bool :=
  fitB a b c d (es.getD i default) && !inB ((es.take i).map deedOf) (deedOf (es.getD i default)) && (decide (i = 0) || decide (plaV (es.getD (i - 1) default) (es.getD i default) < 0))

/-- May a tree be, that was read? -/
def tokB (a b c d : Int) (es : List En) : Bool := vecB [a, b, c, d] && decide (es.length ≤ 12) && (List.range es.length).all (goodB a b c d es)

theorem tokB_bad {a b c d : Int} {es : List En} {i : Nat} (hi : i < es.length) (h : goodB a b c d es i = false) : tokB a b c d es = false := by
  unfold tokB
  rw [Bool.and_eq_false_iff]
  refine .inr ?_
  rw [List.all_eq_false]
  exact ⟨i, List.mem_range.2 hi, by simp [h]⟩
theorem tokB_all {a b c d : Int} {es : List En} (hv : vecB [a, b, c, d] = true) (hl : es.length ≤ 12) (h : ∀ i, i < es.length → goodB a b c d es i = true) : tokB a b c d es = true := by
  unfold tokB
  rw [hv, decide_eq_true hl]
  simp only [Bool.and_self, Bool.true_and, List.all_eq_true]
  intro i hi
  exact h i (List.mem_range.1 hi)

theorem vecB4_num {a b c d : Int} (h : vecB [a, b, c, d] = true) (k : Nat) : nth4 a b c d k ≤ 1000 := by
  rw [vecB4] at h
  simp only [Bool.and_eq_true] at h
  obtain ⟨⟨⟨ha, hb⟩, hc⟩, hd⟩ := h
  have := numB_true ha
  have := numB_true hb
  have := numB_true hc
  have := numB_true hd
  unfold nth4
  split
  · omega
  · split
    · omega
    · split <;> omega

theorem fit_wf {a b c d : Int} {e : En} (hv : vecB [a, b, c, d] = true) (h : fitB a b c d e = true) : WfD (deedOf e) := by
  unfold fitB devB knowB at h
  simp only [Bool.and_eq_true, decide_eq_true_eq] at h
  have := vecB4_num hv e.dev.toNat
  exact ⟨WalkArith.wf_i64 (by show (-9223372036854775808 : Int) ≤ e.dev ∧ e.dev ≤ 9223372036854775807; omega), WalkArith.wf_i64 (by show (-9223372036854775808 : Int) ≤ e.num ∧ e.num ≤ 9223372036854775807; omega)⟩

theorem good_fit {a b c d : Int} {es : List En} {i : Nat} (hi : i < es.length) (h : goodB a b c d es i = true) : fitB a b c d es[i] = true := by
  unfold goodB at h
  simp only [Bool.and_eq_true] at h
  simpa [hi] using h.1.1

theorem deeds_wf {a b c d : Int} {es : List En} {k : Nat} (hv : vecB [a, b, c, d] = true) (h : ∀ i, i < k → i < es.length → goodB a b c d es i = true) : ∀ x ∈ (es.take k).map deedOf, WfD x := by
  intro x hx
  obtain ⟨e, he, rfl⟩ := List.mem_map.1 hx
  obtain ⟨i, hi, rfl⟩ := List.getElem_of_mem he
  have hi' : i < k ∧ i < es.length := by simp at hi; omega
  rw [List.getElem_take]
  exact fit_wf hv (good_fit hi'.2 (h i hi'.1 hi'.2))

end Go.Proofs.Ytgomdjhfdnbmdaa
