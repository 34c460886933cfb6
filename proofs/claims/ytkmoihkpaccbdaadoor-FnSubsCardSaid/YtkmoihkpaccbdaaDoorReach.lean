/-
  What a term is made of, and what that is made of: as plain data.
-/
import Derived.Test.YtkmoihkpaccbdaaDoorUsesOf
namespace Go.Proofs.YtkmoihkpaccbdaaDoor
open Go.RowKit Go.Maps

/-- b stands in a, or is a. -/
inductive Reach (ts : List Tm) : Nat → Nat → Prop
  | refl (a : Nat) : Reach ts a a
  | head {a b : Nat} {p : Int} : p ∈ partsV (tmAt ts a) → Reach ts p.toNat b → Reach ts a b

/-- Whatever is marked below m, so is what it is made of. -/
def Cl (ts : List Tm) (f : Nat → Bool) (m : Nat) : Prop := ∀ j, j < m → f j = true → ∀ p ∈ partsV (tmAt ts j), f p.toNat = true

theorem parts_lt {ts : List Tm} (hok : LOk ts) {a : Nat} (ha : a < ts.length) {p : Int} (hp : p ∈ partsV (tmAt ts a)) : 0 ≤ p ∧ p < a := by
  obtain ⟨_, h⟩ := good_parts (hok.2 a ha)
  rw [tmAt_nat ts a ha] at hp
  exact h p hp

theorem reach_le {ts : List Tm} (hok : LOk ts) {a b : Nat} (h : Reach ts a b) (ha : a < ts.length) : b ≤ a := by
  induction h with
  | refl a => exact Nat.le_refl _
  | head hp _ ih =>
    have := parts_lt hok ha hp
    have := ih (by omega)
    omega

theorem closed_reach {ts : List Tm} (hok : LOk ts) {f : Nat → Bool} {m a b : Nat} (hc : Cl ts f m) (h : Reach ts a b) (ha : a < ts.length) (ham : a < m) (hf : f a = true) : f b = true := by
  induction h with
  | refl a => exact hf
  | head hp _ ih =>
    have := parts_lt hok ha hp
    exact ih (by omega) (by omega) (hc _ ham hf _ hp)

theorem reach_step {ts : List Tm} {a b : Nat} {p : Int} (h : Reach ts a b) (hp : p ∈ partsV (tmAt ts b)) : Reach ts a p.toNat := by
  induction h with
  | refl a => exact .head hp (.refl _)
  | head hq _ ih => exact .head hq (ih hp)

open Classical in
noncomputable def reachB (ts : List Tm) (a b : Nat) : Bool := decide (Reach ts a b)
theorem reachB_iff (ts : List Tm) (a b : Nat) : reachB ts a b = true ↔ Reach ts a b := by unfold reachB; simp

/-- What stands in one of the first j of what i is made of is marked; nothing else is, but what was, and i. -/
structure Mk (ts : List Tm) (i : Nat) (l : List Int) (f : Nat → Bool) (j : Nat) (g : Nat → Bool) : Prop where
  old : ∀ m, f m = true → g m = true
  own : g i = true
  sole : ∀ m, g m = true → f m = true ∨ Reach ts i m
  closed : Cl ts g i
  done : ∀ q (hq : q < l.length), q < j → g l[q].toNat = true

theorem Mk.start {ts : List Tm} {i : Nat} {l : List Int} {f : Nat → Bool} (hok : LOk ts) (hi : i < ts.length) (hc : Cl ts f i) : Mk ts i l f 0 (fun m => if m = i then true else f m) where
  old m h := by split <;> simp [h]
  own := if_pos rfl
  sole m h := by
    by_cases e : m = i
    · subst e; exact .inr (.refl _)
    · exact .inl (by simpa [e] using h)
  closed j hj h p hp := by
    have hp' := parts_lt hok (by omega) hp
    simp only [show j ≠ i by omega, if_false] at h
    simp only [show p.toNat ≠ i by omega, if_false]
    exact hc j hj h p hp
  done q _ h := absurd h (by omega)

theorem Mk.skip {ts : List Tm} {i : Nat} {l : List Int} {f g : Nat → Bool} {j : Nat} (h : Mk ts i l f j g) (hj : j < l.length) (hg : g l[j].toNat = true) : Mk ts i l f (j + 1) g where
  old := h.old
  own := h.own
  sole := h.sole
  closed := h.closed
  done q hq hlt := by
    by_cases e : q = j
    · subst e; exact hg
    · exact h.done q hq (by omega)

theorem Mk.sub {ts : List Tm} {i : Nat} {l : List Int} {f g : Nat → Bool} {j : Nat} (h : Mk ts i l f j g) (hj : j < l.length) (hp : l[j] ∈ partsV (tmAt ts i)) :
    Mk ts i l f (j + 1) (fun m => g m || reachB ts l[j].toNat m) where
  old m hm := by simp [h.old m hm]
  own := by simp [h.own]
  sole m hm := by
    simp only [Bool.or_eq_true] at hm
    rcases hm with hm | hm
    · exact h.sole m hm
    · exact .inr (.head hp ((reachB_iff _ _ _).1 hm))
  closed k hk hm p hpk := by
    simp only [Bool.or_eq_true] at hm ⊢
    rcases hm with hm | hm
    · exact .inl (h.closed k hk hm p hpk)
    · exact .inr ((reachB_iff _ _ _).2 (reach_step ((reachB_iff _ _ _).1 hm) hpk))
  done q hq hlt := by
    simp only [Bool.or_eq_true]
    by_cases e : q = j
    · subst e; exact .inr ((reachB_iff _ _ _).2 (.refl _))
    · exact .inl (h.done q hq (by omega))

theorem Mk.all {ts : List Tm} {i : Nat} {f g : Nat → Bool} (hok : LOk ts) (hi : i < ts.length) (h : Mk ts i (partsV (tmAt ts i)) f (partsV (tmAt ts i)).length g) (m : Nat) : g m = (f m || reachB ts i m) := by
  rw [Bool.eq_iff_iff, Bool.or_eq_true, reachB_iff]
  refine ⟨h.sole m, fun hm => ?_⟩
  rcases hm with hm | hm
  · exact h.old m hm
  · cases hm with
    | refl => exact h.own
    | head hp hr =>
      obtain ⟨q, hq, rfl⟩ := List.mem_iff_getElem.1 hp
      have hlt := parts_lt hok hi (List.getElem_mem hq)
      exact closed_reach hok h.closed hr (by omega) (by omega) (h.done q hq hq)

/-- What Subterms answers. -/
noncomputable def subsV (ts : List Tm) (id : Int) : List Int := if lokB ts = true ∧ hasB ts.length id = true then pick (reachB ts id.toNat) ts.length else []
theorem subsV_length (ts : List Tm) (id : Int) : (subsV ts id).length ≤ ts.length := by
  unfold subsV
  split
  · exact pick_length _ _
  · simp

theorem pick_more {f : Nat → Bool} {k : Nat} (n : Nat) (h : ∀ j, k ≤ j → f j = false) : pick f (k + n) = pick f k := by
  induction n with
  | zero => rfl
  | succ n ih => rw [← Nat.add_assoc, pick_false (h _ (by omega)), ih]

theorem subs_short {ts : List Tm} (hok : LOk ts) {i : Nat} (hi : i < ts.length) : pick (reachB ts i) ts.length = pick (reachB ts i) (i + 1) := by
  have h := pick_more (f := reachB ts i) (k := i + 1) (ts.length - (i + 1)) (fun j hj => by
    rw [Bool.eq_false_iff]
    intro h
    have := reach_le hok ((reachB_iff _ _ _).1 h) hi
    omega)
  rwa [show i + 1 + (ts.length - (i + 1)) = ts.length by omega] at h

/-- All above k is through: what it is made of is marked. -/
structure Down (ts : List Tm) (i k : Nat) (g : Nat → Bool) : Prop where
  own : g i = true
  sole : ∀ m, g m = true → Reach ts i m
  done : ∀ m, k ≤ m → g m = true → ∀ p ∈ partsV (tmAt ts m), g p.toNat = true

theorem Down.all {ts : List Tm} {i : Nat} {g : Nat → Bool} (hok : LOk ts) (hi : i < ts.length) (h : Down ts i 0 g) (m : Nat) : g m = reachB ts i m := by
  rw [Bool.eq_iff_iff, reachB_iff]
  exact ⟨h.sole m, fun hr => closed_reach hok (m := i + 1) (fun j _ hg => h.done j (Nat.zero_le _) hg) hr hi (by omega) h.own⟩

theorem gb_refl (w : World) (b : Option Nat) : w.grownBy w b := ⟨rfl, rfl, rfl, Nat.le_refl _, fun _ _ _ => rfl⟩
theorem gb_trans {a b c : World} {r : Option Nat} (h : a.grownBy b r) (k : b.grownBy c r) : a.grownBy c r :=
  ⟨k.os.trans h.os, k.tape.trans h.tape, k.output.trans h.output, Nat.le_trans h.size k.size, fun i hi hne => (k.block i (Nat.lt_of_lt_of_le hi h.size) hne).trans (h.block i hi hne)⟩
theorem gb_below {a b c : World} {r : Option Nat} (h : a.grownBy b r) (hb : Below b.heap.size b c) : a.grownBy c r :=
  ⟨hb.os.trans h.os, hb.tape.trans h.tape, hb.output.trans h.output, Nat.le_trans h.size hb.size, fun i hi hne => (hb.block i (Nat.lt_of_lt_of_le hi h.size)).trans (h.block i hi hne)⟩
theorem gb_set {a b : World} {r : Nat} (h : a.grownBy b (some r)) (j : Nat) (v : Value) : a.grownBy (b.setCell ⟨r, j, none⟩ v) (some r) :=
  ⟨h.os, h.tape, h.output, by simpa using h.size, fun i hi hne => by
    rw [Below.heap_setCell _ _ _ _ (by rintro rfl; exact hne rfl)]
    exact h.block i hi hne⟩
theorem gb_drew {a b : World} {r : Option Nat} (h : a.grownBy b r) : a.grownBy b.drew r := ⟨h.os, h.tape, h.output, h.size, h.block⟩
theorem gb_cell {a b : World} {r : Nat} (h : a.grownBy b (some r)) {p : Addr} (hp : p.block < a.heap.size) (hne : p.block ≠ r) : b.cell? p = a.cell? p :=
  World.cell?_of_block (w := a) (h.block p.block hp (by simpa using hne))

end Go.Proofs.YtkmoihkpaccbdaaDoor
