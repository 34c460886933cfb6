/-
  Several texts in one: Ded, DedS, DedS2, DedO.
-/
import Derived.Test.YtkmoihkpaccbdaaDoorPick
import Derived.Test.YtkmoihkpaccbdaaDoorReach
import Derived.Deep.LoopGhost
namespace Go.Proofs.YtkmoihkpaccbdaaDoor
open Go.RowKit Go.Maps

theorem parts_below {ts : List Tm} (hok : LOk ts) {a : Nat} (ha : a < ts.length) {p : Int} (hp : p ∈ partsV (tmAt ts a)) : 0 ≤ p ∧ p < a := by
  obtain ⟨_, h⟩ := good_parts (hok.2 a ha)
  rw [tmAt_nat ts a ha] at hp
  exact h p hp

/-- It can be made where f is had. -/
inductive Cn (ts : List Tm) (f : Nat → Bool) : Nat → Prop
  | had {i : Nat} : f i = true → Cn ts f i
  | text {i : Nat} : (tmAt ts i).kind = 2 → Cn ts f i
  | made {i : Nat} : partsV (tmAt ts i) ≠ [] → (∀ p ∈ partsV (tmAt ts i), Cn ts f p.toNat) → Cn ts f i

open Classical in
noncomputable def cnB (ts : List Tm) (f : Nat → Bool) (i : Nat) : Bool := decide (Cn ts f i)
theorem cnB_iff (ts : List Tm) (f : Nat → Bool) (i : Nat) : cnB ts f i = true ↔ Cn ts f i := by unfold cnB; simp

/-- One by one: had, a text, or made of what can be made. -/
theorem cnB_eq (ts : List Tm) (f : Nat → Bool) (i : Nat) : cnB ts f i = (f i || ((decide (0 < (partsV (tmAt ts i)).length) || ((tmAt ts i).kind == 2)) && (partsV (tmAt ts i)).all fun p => cnB ts f p.toNat)) := by
  rw [Bool.eq_iff_iff, cnB_iff]
  simp only [Bool.or_eq_true, Bool.and_eq_true, decide_eq_true_eq, beq_iff_eq, List.all_eq_true, cnB_iff]
  constructor
  · intro h
    cases h with
    | had h => exact .inl h
    | text h =>
      refine .inr ⟨.inr h, fun p hp => ?_⟩
      simp [partsV, h] at hp
    | made h1 h2 => exact .inr ⟨.inl (List.length_pos_iff.2 h1), h2⟩
  · rintro (h | ⟨h | h, h2⟩)
    · exact .had h
    · exact .made (List.length_pos_iff.1 h) h2
    · exact .text h

theorem cn_mono {ts : List Tm} {f g : Nat → Bool} {i : Nat} (h : Cn ts f i) (hfg : ∀ j, f j = true → g j = true) : Cn ts g i := by
  induction h with
  | had h => exact .had (hfg _ h)
  | text h => exact .text h
  | made h _ ih => exact .made h ih

theorem cnB_congr {ts : List Tm} {f g : Nat → Bool} {n : Nat} (hok : LOk ts) (hn : n ≤ ts.length) (h : ∀ j, j < n → f j = g j) : ∀ i, i < n → cnB ts f i = cnB ts g i := by
  intro i
  induction i using Nat.strongRecOn with
  | _ i ih =>
    intro hi
    rw [cnB_eq, cnB_eq ts g, h i hi]
    congr 2
    rw [Bool.eq_iff_iff, List.all_eq_true, List.all_eq_true]
    have : ∀ p ∈ partsV (tmAt ts i), cnB ts f p.toNat = cnB ts g p.toNat := fun p hp => by
      have := parts_below hok (show i < ts.length by omega) hp
      exact ih _ (by omega) (by omega)
    exact ⟨fun h p hp => by rw [← this p hp]; exact h p hp, fun h p hp => by rw [this p hp]; exact h p hp⟩

/-- A key is made of nothing: it can be made just where it is had. -/
theorem cn_key {ts : List Tm} {f : Nat → Bool} {i : Nat} (h : Cn ts f i) (hk : (tmAt ts i).kind = 1) : f i = true := by
  cases h with
  | had h => exact h
  | text h => rw [hk] at h; exact absurd h (by decide)
  | made h => exact absurd (by simp [partsV, hk]) h

/-- Had, when all that can be is taken apart. -/
inductive Op (ts : List Tm) (h : Nat → Bool) : Nat → Prop
  | had {i : Nat} : h i = true → Op ts h i
  | pairL {i : Nat} : Op ts h i → (tmAt ts i).kind = 3 → Op ts h (tmAt ts i).a.toNat
  | pairR {i : Nat} : Op ts h i → (tmAt ts i).kind = 3 → Op ts h (tmAt ts i).b.toNat
  | sign {i : Nat} : Op ts h i → (tmAt ts i).kind = 6 → Op ts h (tmAt ts i).b.toNat
  | lock {i : Nat} : Op ts h i → (tmAt ts i).kind = 5 → Op ts h (tmAt ts i).a.toNat → Op ts h (tmAt ts i).b.toNat

open Classical in
noncomputable def opB (ts : List Tm) (h : Nat → Bool) (i : Nat) : Bool := decide (Op ts h i)
theorem opB_iff (ts : List Tm) (h : Nat → Bool) (i : Nat) : opB ts h i = true ↔ Op ts h i := by unfold opB; simp

/-- What a term that is had gives, where f is had. -/
def givesV (t : Tm) (key : Bool) : List Int := if t.kind = 3 then [t.a, t.b] else if t.kind = 6 then [t.b] else if t.kind = 5 then (if key = true then [t.b] else []) else []

theorem gives_op {ts : List Tm} {h f : Nat → Bool} {i : Nat} (hi : Op ts h i) (hf : ∀ j, f j = true → Op ts h j) (key : Bool) (hkey : (tmAt ts i).kind = 5 → key = true → f (tmAt ts i).a.toNat = true) : ∀ p ∈ givesV (tmAt ts i) key, Op ts h p.toNat := by
  intro p hp
  unfold givesV at hp
  split at hp
  · rename_i h3
    simp at hp
    rcases hp with rfl | rfl
    · exact .pairL hi h3
    · exact .pairR hi h3
  · split at hp
    · rename_i h6
      simp at hp
      subst hp
      exact .sign hi h6
    · split at hp
      · rename_i h5
        split at hp
        · rename_i hk
          simp at hp
          subst hp
          exact .lock hi h5 (hf _ (hkey h5 hk))
        · simp at hp
      · simp at hp

/-- Where nothing more is given, all is had. -/
theorem op_closed {ts : List Tm} {h f : Nat → Bool} (hh : ∀ j, h j = true → f j = true) (hc : ∀ i, f i = true → ∀ p ∈ givesV (tmAt ts i) (f (tmAt ts i).a.toNat), f p.toNat = true) {i : Nat} (hi : Op ts h i) : f i = true := by
  induction hi with
  | had h => exact hh _ h
  | pairL _ h3 ih => exact hc _ ih _ (by simp [givesV, h3])
  | pairR _ h3 ih => exact hc _ ih _ (by simp [givesV, h3])
  | sign _ h6 ih => exact hc _ ih _ (by simp [givesV, h6])
  | lock _ h5 _ ih ihk => exact hc _ ih _ (by simp [givesV, h5, ihk])

theorem gives_below {ts : List Tm} (hok : LOk ts) {i : Nat} (hi : i < ts.length) (key : Bool) {p : Int} (hp : p ∈ givesV (tmAt ts i) key) : 0 ≤ p ∧ p < i := by
  refine parts_below hok hi ?_
  unfold givesV at hp
  unfold partsV
  split at hp
  · rename_i h3
    simpa [h3] using hp
  · split at hp
    · rename_i h6
      simp at hp
      simp [h6, hp]
    · split at hp
      · rename_i h5
        split at hp
        · simp at hp
          simp [h5, hp]
        · simp at hp
      · simp at hp

theorem op_below {ts : List Tm} (hok : LOk ts) {h : Nat → Bool} {i : Nat} (hi : Op ts h i) (hh : ∀ j, h j = true → j < ts.length) : i < ts.length := by
  have := op_closed (f := fun j => decide (j < ts.length)) (fun j hj => by simpa using hh j hj) (fun j hj p hp => by
    have hj' : j < ts.length := by simpa using hj
    have := gives_below hok hj' _ hp
    simp
    omega) hi
  simpa using this

/-- How many of the first n are not had. -/
def misses (f : Nat → Bool) : Nat → Nat
  | 0 => 0
  | n + 1 => misses f n + (if f n = true then 0 else 1)
theorem misses_le (f : Nat → Bool) (n : Nat) : misses f n ≤ n := by
  induction n with
  | zero => exact Nat.le_refl _
  | succ n ih => unfold misses; split <;> omega
theorem misses_mono {f g : Nat → Bool} (n : Nat) (h : ∀ j, j < n → f j = true → g j = true) : misses g n ≤ misses f n := by
  induction n with
  | zero => exact Nat.le_refl _
  | succ n ih =>
    have := ih fun j hj => h j (by omega)
    have hn := h n (by omega)
    unfold misses
    by_cases hf : f n = true
    · rw [if_pos hf, if_pos (hn hf)]; omega
    · rw [if_neg hf]; split <;> omega
theorem misses_lt {f g : Nat → Bool} {n k : Nat} (hk : k < n) (h : ∀ j, j < n → f j = true → g j = true) (hf : f k = false) (hg : g k = true) : misses g n < misses f n := by
  induction n with
  | zero => omega
  | succ n ih =>
    unfold misses
    by_cases e : k = n
    · subst e
      have := misses_mono (f := f) (g := g) k fun j hj => h j (by omega)
      rw [if_pos hg, if_neg (by simp [hf])]
      omega
    · have := ih (by omega) fun j hj => h j (by omega)
      have hn := h n (by omega)
      by_cases hfn : f n = true
      · rw [if_pos hfn, if_pos (hn hfn)]; omega
      · rw [if_neg hfn]; split <;> omega

/-- What is had to begin with. -/
def haveB (n : Nat) (hv : List Int) (i : Nat) : Bool := decide (i < n) && hv.contains (i : Int)

theorem gives_mono {t : Tm} {key key' : Bool} (h : key = true → key' = true) {p : Int} (hp : p ∈ givesV t key) : p ∈ givesV t key' := by
  unfold givesV at *
  split at hp
  · rename_i h3; rw [if_pos h3]; exact hp
  · rename_i h3
    rw [if_neg h3]
    split at hp
    · rename_i h6; rw [if_pos h6]; exact hp
    · rename_i h6
      rw [if_neg h6]
      split at hp
      · rename_i h5
        rw [if_pos h5]
        split at hp
        · rename_i hk; rw [if_pos (h hk)]; exact hp
        · simp at hp
      · simp at hp

/-- One round over all that is had: g0 at its start, g now; m: is there more? -/
structure Rd (ts : List Tm) (f g0 : Nat → Bool) (n : Nat) (m : Bool) (g : Nat → Bool) : Prop where
  mono : ∀ j, j < n → g0 j = true → g j = true
  sound : ∀ j, j < n → g j = true → Op ts f j
  same : m = false → ∀ j, j < n → g j = g0 j
  more : m = true → ∃ j, j < n ∧ g0 j = false ∧ g j = true

theorem Rd.start {ts : List Tm} {f g : Nat → Bool} {n : Nat} (h : ∀ j, j < n → g j = true → Op ts f j) : Rd ts f g n false g :=
  ⟨fun _ _ h => h, h, fun _ _ _ => rfl, fun h => by cases h⟩
theorem Rd.set {ts : List Tm} {f g0 g : Nat → Bool} {n q : Nat} {m : Bool} (h : Rd ts f g0 n m g) (hq : q < n) (hg : g q = false) (ho : Op ts f q) : Rd ts f g0 n true (fun x => if x = q then true else g x) where
  mono j hj h0 := by split; rfl; exact h.mono j hj h0
  sound j hj h1 := by
    by_cases e : j = q
    · subst e; exact ho
    · rw [if_neg e] at h1; exact h.sound j hj h1
  same e := by cases e
  more _ := by
    have hb : g0 q = false := by
      cases hb : g0 q with
      | false => rfl
      | true => rw [h.mono q hq hb] at hg; cases hg
    exact ⟨q, hq, hb, by simp⟩

/-- What is had below k gives nothing new. -/
def Cs (ts : List Tm) (g : Nat → Bool) (k : Nat) : Prop := ∀ i, i < k → g i = true → ∀ p ∈ givesV (tmAt ts i) (g (tmAt ts i).a.toNat), g p.toNat = true

theorem Cs.zero (ts : List Tm) (g : Nat → Bool) : Cs ts g 0 := fun _ hi => absurd hi (Nat.not_lt_zero _)
theorem Cs.next {ts : List Tm} {g : Nat → Bool} {k : Nat} (h : Cs ts g k) (hk : g k = true → ∀ p ∈ givesV (tmAt ts k) (g (tmAt ts k).a.toNat), g p.toNat = true) : Cs ts g (k + 1) := fun i hi => by
  by_cases e : i = k
  · subst e; exact hk
  · exact h i (by omega)

/-- All is had that can be, where a round has found nothing. -/
theorem Cs.all {ts : List Tm} (hok : LOk ts) {f g : Nat → Bool} (hf : ∀ j, f j = true → j < ts.length) (hfg : ∀ j, j < ts.length → f j = true → g j = true) (hs : ∀ j, j < ts.length → g j = true → Op ts f j) (hc : Cs ts g ts.length) (j : Nat) (hj : j < ts.length) : g j = opB ts f j := by
  rw [Bool.eq_iff_iff, opB_iff]
  refine ⟨hs j hj, fun h => ?_⟩
  have := op_closed (f := fun i => decide (i < ts.length) && g i) (fun i hi => by simp [hf i hi, hfg i (hf i hi) hi]) (fun i hi p hp => by
    simp only [Bool.and_eq_true, decide_eq_true_eq] at hi ⊢
    have hp' := gives_mono (key' := g (tmAt ts i).a.toNat) (fun e => by simp only [Bool.and_eq_true] at e; exact e.2) hp
    have hb := gives_below hok hi.1 _ hp'
    exact ⟨by omega, hc i hi.1 hi.2 p hp'⟩) h
  simp only [Bool.and_eq_true] at this
  exact this.2

theorem Cs.congr {ts : List Tm} (hok : LOk ts) {g g' : Nat → Bool} (h : ∀ j, j < ts.length → g' j = g j) (hc : Cs ts g ts.length) : Cs ts g' ts.length := fun i hi hg p hp => by
  rw [h i hi] at hg
  have hb := gives_below hok hi _ hp
  rw [h _ (by omega)]
  refine hc i hi hg p ?_
  by_cases h5 : (tmAt ts i).kind = 5
  · have ha : (tmAt ts i).a.toNat < ts.length := by
      have := (parts_below hok hi (p := (tmAt ts i).a) (by simp [partsV, h5])).2
      omega
    rwa [h _ ha] at hp
  · have e : ∀ key key', givesV (tmAt ts i) key = givesV (tmAt ts i) key' := fun _ _ => by simp [givesV, h5]
    rw [e _ (g' (tmAt ts i).a.toNat)]
    exact hp

/-- The key of a seal in a good ledger is a key, ahead of it. -/
theorem lock_key {ts : List Tm} (hok : LOk ts) {i : Nat} (hi : i < ts.length) (h5 : (tmAt ts i).kind = 5) : (tmAt ts i).a.toNat < i ∧ 0 ≤ (tmAt ts i).a ∧ (tmAt ts (tmAt ts i).a.toNat).kind = 1 := by
  have h1 := parts_below hok hi (p := (tmAt ts i).a) (by simp [partsV, h5])
  obtain ⟨_, _, h2, _⟩ := hok.2 i hi
  rw [tmAt_nat ts i hi] at h5 h1 ⊢
  refine ⟨by omega, h1.1, ?_⟩
  unfold keyedB at h2
  simp [h5] at h2
  show (ts[((ts[i].a.toNat : Nat) : Int).toNat]?.getD default).kind = 1
  rw [Int.toNat_natCast]
  exact h2

end Go.Proofs.YtkmoihkpaccbdaaDoor

namespace Go.Proofs.YtkmoihkpaccbdaaDoor
open Go.RowKit Go.Maps

theorem haveB_succ (n : Nat) (hv : List Int) (k : Nat) (hk : k < hv.length) (j : Nat) : haveB n (hv.take (k + 1)) j = (haveB n (hv.take k) j || (decide (j < n) && decide (hv[k] = (j : Int)))) := by
  unfold haveB
  rw [List.take_succ_eq_append_getElem hk]
  rw [Bool.eq_iff_iff]
  simp only [Bool.or_eq_true, Bool.and_eq_true, decide_eq_true_eq, List.contains_iff_mem, List.mem_append, List.mem_singleton]
  constructor
  · rintro ⟨h, h1 | h1⟩
    · exact .inl ⟨h, h1⟩
    · exact .inr ⟨h, h1.symm⟩
  · rintro (⟨h, h1⟩ | ⟨h, h1⟩)
    · exact ⟨h, .inl h1⟩
    · exact ⟨h, .inr h1.symm⟩

/-- A row of marks, new, is handed back. -/
def NewMarks (n : Nat) (f : Nat → Bool) (w : World) (e : Ending) (w' : World) : Prop :=
  ∃ R, e = .returned (.slice (some ⟨R, 0, none⟩) n n) ∧ w.heap.size ≤ R ∧ R < w'.heap.size ∧ w'.rowIs R 4 n (fun j => .bool (f j)) ∧ Below w.heap.size w w'

end Go.Proofs.YtkmoihkpaccbdaaDoor

namespace Go.Proofs.YtkmoihkpaccbdaaDoor
open Go.RowKit Go.Maps

/-- A list of numbers in a row of its own is handed back. -/
def NewIntRow (l : List Int) (w : World) (e : Ending) (w' : World) : Prop :=
  ∃ A c, e = .returned (.slice A l.length c) ∧ w'.ownsRow w.heap.size 3 1 (.slice A l.length c) l.length (l.map vint) ∧ Below w.heap.size w w'
theorem NewIntRow.fr {l : List Int} {w w' : World} {e : Ending} (h : NewIntRow l w e w') : NewIntsFr l w e w' := by
  obtain ⟨A, c, rfl, hr, hb⟩ := h
  exact ⟨A, c, rfl, ints_of_row hr, hb⟩

theorem all_take_succ (l : List Int) (g : Int → Bool) (j : Nat) (hj : j < l.length) : (l.take (j + 1)).all g = ((l.take j).all g && g l[j]) := by
  rw [List.take_succ_eq_append_getElem hj, List.all_append]
  simp

end Go.Proofs.YtkmoihkpaccbdaaDoor

namespace Go.Proofs.YtkmoihkpaccbdaaDoor
open Go.RowKit Go.Maps

end Go.Proofs.YtkmoihkpaccbdaaDoor
