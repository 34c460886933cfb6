/-
  Several texts in one: Ded, DedS, DedS2, DedO.
-/
import Derived.Test.YtjplmmbncjahiaaPick
import Derived.Test.YtjplmmbncjahiaaReach
import Derived.Deep.LoopGhost
namespace Go.Proofs.Ytjplmmbncjahiaa
open Go.RowKit Go.Maps

theorem parts_below {ts : List Tm} (hok : LOk ts) {a : Nat} (ha : a < ts.length) {p : Int} (hp : p ∈ partsV (tmAt ts a)) : 0 ≤ p ∧ p < a := by
  obtain ⟨_, h⟩ := good_parts (hok.2 a ha)
  rw [tmAt_nat ts a ha] at hp
  exact h p hp

/-- It can be made where f is had. -/
inductive Cn (ts : List Tm) (f : Nat → Bool) : Nat → Prop
  | had {i : Nat} : f i = true → Cn ts f i
  | text {i : Nat} : (tmAt ts i).kind = 2 → Cn ts f i
  | made {i : Nat} : partsV (tmAt ts i) ≠ [] → (∀ p ∈ partsV (tmAt ts i), Cn ts f p.toNat) → Cn ts f i

open Classical in
noncomputable def cnB (ts : List Tm) (f : Nat → Bool) (i : Nat) : Bool := decide (Cn ts f i)
theorem cnB_iff (ts : List Tm) (f : Nat → Bool) (i : Nat) : cnB ts f i = true ↔ Cn ts f i := by unfold cnB; simp

/-- One by one: had, a text, or made of what can be made. -/
theorem cnB_eq (ts : List Tm) (f : Nat → Bool) (i : Nat) : cnB ts f i = (f i || ((decide (0 < (partsV (tmAt ts i)).length) || ((tmAt ts i).kind == 2)) && (partsV (tmAt ts i)).all fun p => cnB ts f p.toNat)) := by
  rw [Bool.eq_iff_iff, cnB_iff]
  simp only [Bool.or_eq_true, Bool.and_eq_true, decide_eq_true_eq, beq_iff_eq, List.all_eq_true, cnB_iff]
  constructor
  · intro h
    cases h with
    | had h => exact .inl h
    | text h =>
      refine .inr ⟨.inr h, fun p hp => ?_⟩
      simp [partsV, h] at hp
    | made h1 h2 => exact .inr ⟨.inl (List.length_pos_iff.2 h1), h2⟩
  · rintro (h | ⟨h | h, h2⟩)
    · exact .had h
    · exact .made (List.length_pos_iff.1 h) h2
    · exact .text h

theorem cn_mono {ts : List Tm} {f g : Nat → Bool} {i : Nat} (h : Cn ts f i) (hfg : ∀ j, f j = true → g j = true) : Cn ts g i := by
  induction h with
  | had h => exact .had (hfg _ h)
  | text h => exact .text h
  | made h _ ih => exact .made h ih

theorem cnB_congr {ts : List Tm} {f g : Nat → Bool} {n : Nat} (hok : LOk ts) (hn : n ≤ ts.length) (h : ∀ j, j < n → f j = g j) : ∀ i, i < n → cnB ts f i = cnB ts g i := by
  intro i
  induction i using Nat.strongRecOn with
  | _ i ih =>
    intro hi
    rw [cnB_eq, cnB_eq ts g, h i hi]
    congr 2
    rw [Bool.eq_iff_iff, List.all_eq_true, List.all_eq_true]
    have : ∀ p ∈ partsV (tmAt ts i), cnB ts f p.toNat = cnB ts g p.toNat := fun p hp => by
      have := parts_below hok (show i < ts.length by omega) hp
      exact ih _ (by omega) (by omega)
    exact ⟨fun h p hp => by rw [← this p hp]; exact h p hp, fun h p hp => by rw [this p hp]; exact h p hp⟩

/-- A key is made of nothing: it can be made just where it is had. -/
theorem cn_key {ts : List Tm} {f : Nat → Bool} {i : Nat} (h : Cn ts f i) (hk : (tmAt ts i).kind = 1) : f i = true := by
  cases h with
  | had h => exact h
  | text h => rw [hk] at h; exact absurd h (by decide)
  | made h => exact absurd (by simp [partsV, hk]) h

/-- Had, when all that can be is taken apart. -/
inductive Op (ts : List Tm) (h : Nat → Bool) : Nat → Prop
  | had {i : Nat} : h i = true → Op ts h i
  | pairL {i : Nat} : Op ts h i → (tmAt ts i).kind = 3 → Op ts h (tmAt ts i).a.toNat
  | pairR {i : Nat} : Op ts h i → (tmAt ts i).kind = 3 → Op ts h (tmAt ts i).b.toNat
  | sign {i : Nat} : Op ts h i → (tmAt ts i).kind = 6 → Op ts h (tmAt ts i).b.toNat
  | lock {i : Nat} : Op ts h i → (tmAt ts i).kind = 5 → Op ts h (tmAt ts i).a.toNat → Op ts h (tmAt ts i).b.toNat

open Classical in
noncomputable def opB (ts : List Tm) (h : Nat → Bool) (i : Nat) : Bool := decide (Op ts h i)
theorem opB_iff (ts : List Tm) (h : Nat → Bool) (i : Nat) : opB ts h i = true ↔ Op ts h i := by unfold opB; simp

/-- What a term that is had gives, where f is had. -/
def givesV (t : Tm) (key : Bool) : List Int := if t.kind = 3 then [t.a, t.b] else if t.kind = 6 then [t.b] else if t.kind = 5 then (if key = true then [t.b] else []) else []

theorem gives_op {ts : List Tm} {h f : Nat → Bool} {i : Nat} (hi : Op ts h i) (hf : ∀ j, f j = true → Op ts h j) (key : Bool) (hkey : (tmAt ts i).kind = 5 → key = true → f (tmAt ts i).a.toNat = true) : ∀ p ∈ givesV (tmAt ts i) key, Op ts h p.toNat := by
  intro p hp
  unfold givesV at hp
  split at hp
  · rename_i h3
    simp at hp
    rcases hp with rfl | rfl
    · exact .pairL hi h3
    · exact .pairR hi h3
  · split at hp
    · rename_i h6
      simp at hp
      subst hp
      exact .sign hi h6
    · split at hp
      · rename_i h5
        split at hp
        · rename_i hk
          simp at hp
          subst hp
          exact .lock hi h5 (hf _ (hkey h5 hk))
        · simp at hp
      · simp at hp

/-- Where nothing more is given, all is had. -/
theorem op_closed {ts : List Tm} {h f : Nat → Bool} (hh : ∀ j, h j = true → f j = true) (hc : ∀ i, f i = true → ∀ p ∈ givesV (tmAt ts i) (f (tmAt ts i).a.toNat), f p.toNat = true) {i : Nat} (hi : Op ts h i) : f i = true := by
  induction hi with
  | had h => exact hh _ h
  | pairL _ h3 ih => exact hc _ ih _ (by simp [givesV, h3])
  | pairR _ h3 ih => exact hc _ ih _ (by simp [givesV, h3])
  | sign _ h6 ih => exact hc _ ih _ (by simp [givesV, h6])
  | lock _ h5 _ ih ihk => exact hc _ ih _ (by simp [givesV, h5, ihk])

theorem gives_below {ts : List Tm} (hok : LOk ts) {i : Nat} (hi : i < ts.length) (key : Bool) {p : Int} (hp : p ∈ givesV (tmAt ts i) key) : 0 ≤ p ∧ p < i := by
  refine parts_below hok hi ?_
  unfold givesV at hp
  unfold partsV
  split at hp
  · rename_i h3
    simpa [h3] using hp
  · split at hp
    · rename_i h6
      simp at hp
      simp [h6, hp]
    · split at hp
      · rename_i h5
        split at hp
        · simp at hp
          simp [h5, hp]
        · simp at hp
      · simp at hp

theorem op_below {ts : List Tm} (hok : LOk ts) {h : Nat → Bool} {i : Nat} (hi : Op ts h i) (hh : ∀ j, h j = true → j < ts.length) : i < ts.length := by
  have := op_closed (f := fun j => decide (j < ts.length)) (fun j hj => by simpa using hh j hj) (fun j hj p hp => by
    have hj' : j < ts.length := by simpa using hj
    have := gives_below hok hj' _ hp
    simp
    omega) hi
  simpa using this

/-- How many of the first n are not had. -/
def misses (f : Nat → Bool) : Nat → Nat
  | 0 => 0
  | n + 1 => misses f n + (if f n = true then 0 else 1)
theorem misses_le (f : Nat → Bool) (n : Nat) : misses f n ≤ n := by
  induction n with
  | zero => exact Nat.le_refl _
  | succ n ih => unfold misses; split <;> omega
theorem misses_mono {f g : Nat → Bool} (n : Nat) (h : ∀ j, j < n → f j = true → g j = true) : misses g n ≤ misses f n := by
  induction n with
  | zero => exact Nat.le_refl _
  | succ n ih =>
    have := ih fun j hj => h j (by omega)
    have hn := h n (by omega)
    unfold misses
    by_cases hf : f n = true
    · rw [if_pos hf, if_pos (hn hf)]; omega
    · rw [if_neg hf]; split <;> omega
theorem misses_lt {f g : Nat → Bool} {n k : Nat} (hk : k < n) (h : ∀ j, j < n → f j = true → g j = true) (hf : f k = false) (hg : g k = true) : misses g n < misses f n := by
  induction n with
  | zero => omega
  | succ n ih =>
    unfold misses
    by_cases e : k = n
    · subst e
      have := misses_mono (f := f) (g := g) k fun j hj => h j (by omega)
      rw [if_pos hg, if_neg (by simp [hf])]
      omega
    · have := ih (by omega) fun j hj => h j (by omega)
      have hn := h n (by omega)
      by_cases hfn : f n = true
      · rw [if_pos hfn, if_pos (hn hfn)]; omega
      · rw [if_neg hfn]; split <;> omega

/-- What is had to begin with. -/
def haveB (n : Nat) (hv : List Int) (i : Nat) : Bool := decide (i < n) && hv.contains (i : Int)

theorem gives_mono {t : Tm} {key key' : Bool} (h : key = true → key' = true) {p : Int} (hp : p ∈ givesV t key) : p ∈ givesV t key' := by
  unfold givesV at *
  split at hp
  · rename_i h3; rw [if_pos h3]; exact hp
  · rename_i h3
    rw [if_neg h3]
    split at hp
    · rename_i h6; rw [if_pos h6]; exact hp
    · rename_i h6
      rw [if_neg h6]
      split at hp
      · rename_i h5
        rw [if_pos h5]
        split at hp
        · rename_i hk; rw [if_pos (h hk)]; exact hp
        · simp at hp
      · simp at hp

/-- One round over all that is had: g0 at its start, g now; m: is there more? -/
structure Rd (ts : List Tm) (f g0 : Nat → Bool) (n : Nat) (m : Bool) (g : Nat → Bool) : Prop where
  mono : ∀ j, j < n → g0 j = true → g j = true
  sound : ∀ j, j < n → g j = true → Op ts f j
  same : m = false → ∀ j, j < n → g j = g0 j
  more : m = true → ∃ j, j < n ∧ g0 j = false ∧ g j = true

theorem Rd.start {ts : List Tm} {f g : Nat → Bool} {n : Nat} (h : ∀ j, j < n → g j = true → Op ts f j) : Rd ts f g n false g :=
  ⟨fun _ _ h => h, h, fun _ _ _ => rfl, fun h => by cases h⟩
theorem Rd.set {ts : List Tm} {f g0 g : Nat → Bool} {n q : Nat} {m : Bool} (h : Rd ts f g0 n m g) (hq : q < n) (hg : g q = false) (ho : Op ts f q) : Rd ts f g0 n true (fun x => if x = q then true else g x) where
  mono j hj h0 := by split; rfl; exact h.mono j hj h0
  sound j hj h1 := by
    by_cases e : j = q
    · subst e; exact ho
    · rw [if_neg e] at h1; exact h.sound j hj h1
  same e := by cases e
  more _ := by
    have hb : g0 q = false := by
      cases hb : g0 q with
      | false => rfl
      | true => rw [h.mono q hq hb] at hg; cases hg
    exact ⟨q, hq, hb, by simp⟩

/-- What is had below k gives nothing new. -/
def Cs (ts : List Tm) (g : Nat → Bool) (k : Nat) : Prop := ∀ i, i < k → g i = true → ∀ p ∈ givesV (tmAt ts i) (g (tmAt ts i).a.toNat), g p.toNat = true

theorem Cs.zero (ts : List Tm) (g : Nat → Bool) : Cs ts g 0 := fun _ hi => absurd hi (Nat.not_lt_zero _)
theorem Cs.next {ts : List Tm} {g : Nat → Bool} {k : Nat} (h : Cs ts g k) (hk : g k = true → ∀ p ∈ givesV (tmAt ts k) (g (tmAt ts k).a.toNat), g p.toNat = true) : Cs ts g (k + 1) := fun i hi => by
  by_cases e : i = k
  · subst e; exact hk
  · exact h i (by omega)

/-- All is had that can be, where a round has found nothing. -/
theorem Cs.all {ts : List Tm} (hok : LOk ts) {f g : Nat → Bool} (hf : ∀ j, f j = true → j < ts.length) (hfg : ∀ j, j < ts.length → f j = true → g j = true) (hs : ∀ j, j < ts.length → g j = true → Op ts f j) (hc : Cs ts g ts.length) (j : Nat) (hj : j < ts.length) : g j = opB ts f j := by
  rw [Bool.eq_iff_iff, opB_iff]
  refine ⟨hs j hj, fun h => ?_⟩
  have := op_closed (f := fun i => decide (i < ts.length) && g i) (fun i hi => by simp [hf i hi, hfg i (hf i hi) hi]) (fun i hi p hp => by
    simp only [Bool.and_eq_true, decide_eq_true_eq] at hi ⊢
    have hp' := gives_mono (key' := g (tmAt ts i).a.toNat) (fun e => by simp only [Bool.and_eq_true] at e; exact e.2) hp
    have hb := gives_below hok hi.1 _ hp'
    exact ⟨by omega, hc i hi.1 hi.2 p hp'⟩) h
  simp only [Bool.and_eq_true] at this
  exact this.2

theorem Cs.congr {ts : List Tm} (hok : LOk ts) {g g' : Nat → Bool} (h : ∀ j, j < ts.length → g' j = g j) (hc : Cs ts g ts.length) : Cs ts g' ts.length := fun i hi hg p hp => by
  rw [h i hi] at hg
  have hb := gives_below hok hi _ hp
  rw [h _ (by omega)]
  refine hc i hi hg p ?_
  by_cases h5 : (tmAt ts i).kind = 5
  · have ha : (tmAt ts i).a.toNat < ts.length := by
      have := (parts_below hok hi (p := (tmAt ts i).a) (by simp [partsV, h5])).2
      omega
    rwa [h _ ha] at hp
  · have e : ∀ key key', givesV (tmAt ts i) key = givesV (tmAt ts i) key' := fun _ _ => by simp [givesV, h5]
    rw [e _ (g' (tmAt ts i).a.toNat)]
    exact hp

/-- The key of a seal in a good ledger is a key, ahead of it. -/
theorem lock_key {ts : List Tm} (hok : LOk ts) {i : Nat} (hi : i < ts.length) (h5 : (tmAt ts i).kind = 5) : (tmAt ts i).a.toNat < i ∧ 0 ≤ (tmAt ts i).a ∧ (tmAt ts (tmAt ts i).a.toNat).kind = 1 := by
  have h1 := parts_below hok hi (p := (tmAt ts i).a) (by simp [partsV, h5])
  obtain ⟨_, _, h2, _⟩ := hok.2 i hi
  rw [tmAt_nat ts i hi] at h5 h1 ⊢
  refine ⟨by omega, h1.1, ?_⟩
  unfold keyedB at h2
  simp [h5] at h2
  show (ts[((ts[i].a.toNat : Nat) : Int).toNat]?.getD default).kind = 1
  rw [Int.toNat_natCast]
  exact h2

end Go.Proofs.Ytjplmmbncjahiaa

namespace Go.Proofs.Ytjplmmbncjahiaa
open Go.RowKit Go.Maps

theorem haveB_succ (n : Nat) (hv : List Int) (k : Nat) (hk : k < hv.length) (j : Nat) : haveB n (hv.take (k + 1)) j = (haveB n (hv.take k) j || (decide (j < n) && decide (hv[k] = (j : Int)))) := by
  unfold haveB
  rw [List.take_succ_eq_append_getElem hk]
  rw [Bool.eq_iff_iff]
  simp only [Bool.or_eq_true, Bool.and_eq_true, decide_eq_true_eq, List.contains_iff_mem, List.mem_append, List.mem_singleton]
  constructor
  · rintro ⟨h, h1 | h1⟩
    · exact .inl ⟨h, h1⟩
    · exact .inr ⟨h, h1.symm⟩
  · rintro (⟨h, h1⟩ | ⟨h, h1⟩)
    · exact ⟨h, .inl h1⟩
    · exact ⟨h, .inr h1.symm⟩

/-- A row of marks, new, is handed back. -/
def NewMarks (n : Nat) (f : Nat → Bool) (w : World) (e : Ending) (w' : World) : Prop :=
  ∃ R, e = .returned (.slice (some ⟨R, 0, none⟩) n n) ∧ w.heap.size ≤ R ∧ R < w'.heap.size ∧ w'.rowIs R 4 n (fun j => .bool (f j)) ∧ Below w.heap.size w w'

set_option maxRecDepth 100000 in
set_option maxHeartbeats 1000000 in
theorem l2have_any (A A2 : Option Addr) (ts : List Tm) (hv : List Int) (c c2 L B : Nat) (w : World) (hA : IntsIn w L B A2 hv) (hB : B ≤ w.heap.size) (hn : ts.length ≤ 1048576) (hn2 : hv.length ≤ 1048576) :
    Calls Try.prog 34 #[.agg #[.slice A ts.length c], .slice A2 hv.length c2] w (NewMarks ts.length (haveB ts.length hv) w) := by
  have HA := Lib.hid hA
  clear hA
  have hmk := run_make_bools ts.length (by omega)
  go_enter Try.func34, Try.ntmps34
  go_wp2_with fail
  clear hmk
  obtain ⟨W0, hW0⟩ : ∃ W0, W0 = w.alloc (.cells #[.slice A ts.length c] 30) := ⟨_, rfl⟩
  have hb0 : Below w.heap.size w W0 := by rw [hW0]; exact (Below.refl _ _).alloc (Nat.le_refl _) _
  have hs0 : W0.heap.size = w.heap.size + 1 := by rw [hW0]; simp
  have hrow0 := World.rowIs_made W0 (.bool false) ts.length 4
  have hr0 : (W0.alloc (.cells (madeCells #[.bool false] ts.length) 4)).rowIs (w.heap.size + 1) 4 ts.length (fun j => .bool (haveB ts.length (hv.take 0) j)) := by
    rw [← hs0]
    exact hrow0.congr fun j _ => by simp [haveB]
  have hbr : Below (w.heap.size + 1) W0 (W0.alloc (.cells (madeCells #[.bool false] ts.length) 4)) := (Below.refl _ _).alloc (by omega) _
  have hb1 : Below w.heap.size w W0 := hb0
  have HB1 := Lib.hid hb1
  rw [← hW0]
  clear hb0 hb1 hrow0 hW0
  go_loopw [6] (fun x wr => ∃ k : Nat, k ≤ hv.length ∧ x = .int .i64 k ∧ wr.rowIs (w.heap.size + 1) 4 ts.length (fun j => .bool (haveB ts.length (hv.take k) j)) ∧ Below (w.heap.size + 1) W0 wr) (fun x _ => hv.length - (intOf x).toNat)
  case atStart => exact ⟨0, Nat.zero_le _, rfl, hr0, hbr⟩
  case round =>
    clear hr0 hbr
    obtain ⟨k, hk, rfl, hrow, hbel⟩ := hrel
    have HRow := Lib.hid hrow
    have HBel := Lib.hid hbel
    have hRlt := hrow.lt
    clear hrow hbel
    by_cases hlt : k < hv.length
    · have hS := haveB_succ ts.length hv k hlt
      obtain ⟨b, o, rfl, hL, hb, hc⟩ := HA.out (by omega)
      have hck := (HBel.out.cell (p := ⟨b, o + k, none⟩) (by show b < _; omega)).trans ((HB1.out.cell (p := ⟨b, o + k, none⟩) (by show b < _; omega)).trans (hc k hlt))
      have HS := Lib.hid hS
      generalize hv[k] = x at *
      clear hS hc
      by_cases h0 : 0 ≤ x
      · by_cases h1 : x < ts.length
        · obtain ⟨q, rfl⟩ := Int.eq_ofNat_of_zero_le h0
          have hq : q < ts.length := by omega
          have hcq := HRow.out.cell hq
          have hfq := HRow.out.frozen q
          clear h0
          go_wp2_with fail
          go_roundw
          case rel =>
            refine ⟨k + 1, by omega, by go_num, (HRow.out.set q _).congr fun j hj => ?_, HBel.out.setCell (Nat.le_refl _) _⟩
            rw [HS.out]
            by_cases e : j = q
            · subst e; simp [hj]
            · rw [if_neg e]
              have : ¬ ((q : Int) = (j : Int)) := by omega
              simp [this]
          case measure => simp [intOf]; omega
        · go_wp2_with fail
          go_roundw
          case rel =>
            refine ⟨k + 1, by omega, by go_num, HRow.out.congr fun j hj => ?_, HBel.out⟩
            have : ¬ (x = (j : Int)) := by omega
            rw [HS.out]
            simp [this]
          case measure => simp [intOf]; omega
      · go_wp2_with fail
        go_roundw
        case rel =>
          refine ⟨k + 1, by omega, by go_num, HRow.out.congr fun j hj => ?_, HBel.out⟩
          have : ¬ (x = (j : Int)) := by omega
          rw [HS.out]
          simp [this]
        case measure => simp [intOf]; omega
    · have hke : k = hv.length := by omega
      have HFin := Lib.hid (show wr.rowIs (w.heap.size + 1) 4 ts.length (fun j => .bool (haveB ts.length hv j)) by
        have h := HRow.out
        rw [hke, List.take_length] at h
        exact h)
      have HB := Lib.hid (HB1.out.trans (HBel.out.mono (by omega)))
      go_wp2_with fail
      go_ret
      exact ⟨w.heap.size + 1, rfl, by omega, hRlt, HFin.out, HB.out⟩

end Go.Proofs.Ytjplmmbncjahiaa

namespace Go.Proofs.Ytjplmmbncjahiaa
open Go.RowKit Go.Maps

/-- A list of numbers in a row of its own is handed back. -/
def NewIntRow (l : List Int) (w : World) (e : Ending) (w' : World) : Prop :=
  ∃ A c, e = .returned (.slice A l.length c) ∧ w'.ownsRow w.heap.size 3 1 (.slice A l.length c) l.length (l.map vint) ∧ Below w.heap.size w w'
theorem NewIntRow.fr {l : List Int} {w w' : World} {e : Ending} (h : NewIntRow l w e w') : NewIntsFr l w e w' := by
  obtain ⟨A, c, rfl, hr, hb⟩ := h
  exact ⟨A, c, rfl, ints_of_row hr, hb⟩

set_option maxRecDepth 100000 in
set_option maxHeartbeats 1000000 in
theorem l2list_any (R n : Nat) (f : Nat → Bool) (w : World) (hrow : w.rowIs R 4 n (fun j => .bool (f j))) (hn : n ≤ 1048576) :
    Calls Try.prog 36 #[.slice (some ⟨R, 0, none⟩) n n] w (NewIntRow (pick f n) w) := by
  have HRow := Lib.hid hrow
  have hRlt := hrow.lt
  clear hrow
  go_enter Try.func36, Try.ntmps36
  go_wp2_with fail
  go_loopw [3, 4] (fun x i wr => ∃ (k : Nat) (A : Option Addr) (c : Nat), k ≤ n ∧ i = .int .i64 k ∧ x = .slice A (pick f k).length c ∧ wr.ownsRow w.heap.size 3 1 (.slice A (pick f k).length c) (pick f k).length ((pick f k).map vint) ∧ Below w.heap.size w wr) (fun _ i _ => n - (intOf i).toNat)
  case atStart => exact ⟨0, none, 0, Nat.zero_le _, rfl, rfl, World.ownsRow_nil _ _ _ _, Below.refl _ _⟩
  case round =>
    obtain ⟨k, A, c, hk, rfl, rfl, hown, hbel⟩ := hrel
    have HOwn := Lib.hid hown
    have HBel := Lib.hid hbel
    have hlen := pick_length f k
    clear hown
    by_cases hlt : k < n
    · have hc := (rowIs_below HRow.out hbel hRlt).cell hlt
      cases hf : f k with
      | false =>
        have HP := Lib.hid (pick_false hf)
        rw [hf] at hc
        clear hbel
        go_wp2_with fail
        go_roundw
        case rel => exact ⟨k + 1, A, c, by omega, by go_num, by rw [HP.out], by rw [HP.out]; exact HOwn.out, HBel.out⟩
        case measure => simp [intOf]; omega
      | true =>
        have HP := Lib.hid (pick_true hf)
        rw [hf] at hc
        have hsz := hbel.size
        obtain ⟨i0, hi, hz0, hz1', hz2'⟩ := info_parts Try.infoInt
        clear hbel
        go_wp2_with (at_builtin; refine wpList_append_own _ rfl _ _ 25 rfl w.heap.size 3 i0 (.int .i64 0) 1 8 Try.underlying25 hi hz0 hz1' hz2' rfl (by decide) _ _ _ rfl (HOwn.out.alloc _) ⟨wr.heap.size, 0, none⟩ 1 1 [.int .i64 k] rfl rfl ?c1 ?c2 ?c3 ?c4 ?c5 ?_)
        case c1 => exact cell_one_new _ _ _
        case c2 => intro u hu; simp at hu; subst hu; rfl
        case c3 => unfold maxLen; omega
        case c4 => omega
        case c5 => simp; omega
        intro v' w5 hrow5 hgr5 _
        obtain ⟨A5, c5, rfl⟩ := row_shape hrow5
        have HRow5 := Lib.hid hrow5
        have HB5 := Lib.hid ((HBel.out.alloc hsz (.cells #[.int .i64 k] 3)).grown hgr5 (by simp; omega) (fun g hg => (HOwn.out.lt g hg).1))
        clear hrow5 hgr5
        go_wp2_with fail
        go_roundw
        case rel =>
          refine ⟨k + 1, A5, c5, by omega, by go_num, by rw [HP.out]; simp, ?_, HB5.out⟩
          have := HRow5.out
          rw [HP.out]
          simpa [vint] using this
        case measure => simp [intOf]; omega
    · have hke : k = n := by omega
      have HR := Lib.hid (show NewIntRow (pick f n) w (.returned (.slice A (pick f k).length c)) wr from by
        subst hke
        exact ⟨A, c, rfl, HOwn.out, hbel⟩)
      clear hbel
      go_wp2_with fail
      go_ret
      exact HR.out


theorem all_take_succ (l : List Int) (g : Int → Bool) (j : Nat) (hj : j < l.length) : (l.take (j + 1)).all g = ((l.take j).all g && g l[j]) := by
  rw [List.take_succ_eq_append_getElem hj, List.all_append]
  simp

set_option maxRecDepth 100000 in
set_option maxHeartbeats 2000000 in
theorem l2all_any (A : Option Addr) (ts : List Tm) (c L B R : Nat) (f : Nat → Bool) (w : World) (hA : TmsIn w L B A ts) (hB : B ≤ w.heap.size) (hrow : w.rowIs R 4 ts.length (fun j => .bool (f j))) (hok : LOk ts) (hn : ts.length ≤ 1048576) :
    Calls Try.prog 44 #[.agg #[.slice A ts.length c], .slice (some ⟨R, 0, none⟩) ts.length ts.length] w (NewMarks ts.length (cnB ts f) w) := by
  have HA := Lib.hid hA
  have HRow := Lib.hid hrow
  have HOk := Lib.hid hok
  have hRlt := hrow.lt
  clear hA hrow hok
  have hmk := run_make_bools ts.length (by omega)
  go_enter Try.func44, Try.ntmps44
  go_wp2_with fail
  clear hmk
  obtain ⟨W0, hW0⟩ : ∃ W0, W0 = w.alloc (.cells #[.slice A ts.length c] 30) := ⟨_, rfl⟩
  have hb0 : Below w.heap.size w W0 := by rw [hW0]; exact (Below.refl _ _).alloc (Nat.le_refl _) _
  have hs0 : W0.heap.size = w.heap.size + 1 := by rw [hW0]; simp
  have hbx : W0.cell? ⟨w.heap.size, 0, none⟩ = some (.slice A ts.length c) := by rw [hW0]; simp
  have hrow0 := World.rowIs_made W0 (.bool false) ts.length 4
  have hr0 : (W0.alloc (.cells (madeCells #[.bool false] ts.length) 4)).rowIs (w.heap.size + 1) 4 ts.length (fun j => .bool (decide (j < 0) && cnB ts f j)) := by
    rw [← hs0]
    exact hrow0.congr fun j _ => by simp
  have hbr : Below (w.heap.size + 1) W0 (W0.alloc (.cells (madeCells #[.bool false] ts.length) 4)) := (Below.refl _ _).alloc (by omega) _
  have HB1 := Lib.hid hb0
  rw [← hW0]
  clear hb0 hrow0 hW0
  go_loopw [6] (fun x wr => ∃ k : Nat, k ≤ ts.length ∧ x = .int .i64 k ∧ wr.rowIs (w.heap.size + 1) 4 ts.length (fun j => .bool (decide (j < k) && cnB ts f j)) ∧ Below (w.heap.size + 1) W0 wr) (fun x _ => ts.length - (intOf x).toNat)
  case atStart => exact ⟨0, Nat.zero_le _, rfl, hr0, hbr⟩
  case round =>
    clear hr0 hbr
    obtain ⟨k, hk, rfl, hrow, hbel⟩ := hrel
    have e0 := (hbel.cell (p := ⟨w.heap.size, 0, none⟩) (by show w.heap.size < _; omega)).trans hbx
    have HCan := Lib.hid hrow
    have HBel := Lib.hid hbel
    have hClt := hrow.lt
    clear hrow hbel
    by_cases hlt : k < ts.length
    · have hbw : Below w.heap.size w wr := HB1.out.trans (HBel.out.mono (by omega))
      obtain ⟨b, o, rfl, hL, hb, hc⟩ := HA.out (by omega)
      obtain ⟨A1, c1, x0, x1, x2, x3, _⟩ := (hc k hlt).keep hL hb (fun p _ hp => hbw.cell (by omega))
      have HRw := Lib.hid (rowIs_below HRow.out hbw hRlt)
      clear hbw hc
      go_wp2_with fail
      refine (l1parts_any ts[k] A1 c1 wr).mono ?_
      rintro e w2 ⟨A2, c2, rfl, hc2, hm2, hints, hb2⟩
      obtain ⟨hkl, hlp⟩ := good_parts (HOk.out.2 k hlt)
      have HP := Lib.hid hlp
      have hEq := cnB_eq ts f k
      rw [tmAt_nat ts k hlt] at hEq
      obtain ⟨l, hl⟩ : ∃ l, l = partsV ts[k] := ⟨_, rfl⟩
      have hlen : l.length ≤ 2 := by rw [hl]; unfold partsV; split <;> (try split) <;> simp
      rw [← hl] at HP hints hEq ⊢
      have z0 := (hb2.cell (p := ⟨b, o + k * 4, none⟩) (by show b < _; omega)).trans x0
      have e2 := (hb2.cell (p := ⟨w.heap.size, 0, none⟩) (by show w.heap.size < _; omega)).trans e0
      have hz2 := hb2.size
      have HCan2 := Lib.hid (rowIs_below HCan.out hb2 hClt)
      have HRw2 := Lib.hid (rowIs_below HRw.out hb2 (by omega))
      have HBel2 := Lib.hid (HBel.out.trans (hb2.mono (by omega)))
      have HInts := Lib.hid hints
      obtain ⟨mb, hmb⟩ : ∃ mb, mb = (decide (0 < l.length) || (ts[k].kind == 2)) := ⟨_, rfl⟩
      have HMb0 := Lib.hid hmb
      rw [← hmb] at hEq
      have HEq := Lib.hid hEq
      have hpar : 0 < l.length ∨ (l.length = 0 ∧ ts[k].kind = 2) ∨ (l.length = 0 ∧ ts[k].kind ≠ 2) := by omega
      clear hlp hints hb2 hl x0 x1 x2 x3 e0 hmb hEq
      rcases hpar with h1 | ⟨h1, h2⟩ | ⟨h1, h2⟩
      · have HMb := Lib.hid (show mb = true by rw [HMb0.out]; simp [h1])
        go_wp2_with fail
        go_loop [8, 9] (fun m y => ∃ j : Nat, j ≤ l.length ∧ y = .int .i64 j ∧ m = .bool (mb && (l.take j).all fun p => cnB ts f p.toNat)) (fun _ y => l.length - (intOf y).toNat)
        case atStart => exact ⟨0, Nat.zero_le _, rfl, by simp [HMb.out, *]⟩
        case round =>
          obtain ⟨j, hj, rfl, rfl⟩ := hrel
          have HMj := Lib.hid (rfl : (mb && (l.take j).all fun p => cnB ts f p.toNat) = (mb && (l.take j).all fun p => cnB ts f p.toNat))
          by_cases hjl : j < l.length
          · have hS := all_take_succ l (fun p => cnB ts f p.toNat) j hjl
            obtain ⟨b2, o2, rfl, hL2, hlt2, hcell⟩ := HInts.out (by omega)
            have hcj := hcell j hjl
            obtain ⟨hp0, hpk⟩ := HP.out _ (List.getElem_mem hjl)
            obtain ⟨q, hq⟩ := Int.eq_ofNat_of_zero_le hp0
            rw [hq] at hcj hpk hS
            rw [Int.toNat_natCast] at hS
            have hqk : q < k := by omega
            have hq0 := HCan2.out.cell (i := q) (by omega)
            simp only [hqk, decide_true, Bool.true_and] at hq0
            obtain ⟨mj, hmj⟩ : ∃ mj, mj = (mb && (l.take j).all fun p => cnB ts f p.toNat) := ⟨_, rfl⟩
            obtain ⟨cq, hcq⟩ : ∃ cq, cq = cnB ts f q := ⟨_, rfl⟩
            have HNext := Lib.hid (show (mb && (l.take (j + 1)).all fun p => cnB ts f p.toNat) = (mj && cq) by rw [hS, hmj, hcq, Bool.and_assoc])
            rw [← hmj]
            rw [← hcq] at hq0
            clear hmj hcq hS hcell hp0 hpk hq HMj
            cases mj
            · go_wp2_with fail
              go_round
              case rel => exact ⟨j + 1, by omega, by go_num, by rw [HNext.out]; rfl⟩
              case measure => simp [intOf]; omega
            · go_wp2_with fail
              go_round
              case rel => exact ⟨j + 1, by omega, by go_num, by rw [HNext.out]; rfl⟩
              case measure => simp [intOf]; omega
          · have hje : j = l.length := by omega
            have HV := Lib.hid (show cnB ts f k = (f k || (mb && (l.take j).all fun p => cnB ts f p.toNat)) by rw [HEq.out, hje, List.take_length])
            obtain ⟨mj, hmj⟩ : ∃ mj, mj = (mb && (l.take j).all fun p => cnB ts f p.toNat) := ⟨_, rfl⟩
            rw [← hmj] at HV ⊢
            have hfk := HRw2.out.cell (i := k) hlt
            have hck := HCan2.out.cell (i := k) hlt
            have hcf := HCan2.out.frozen k
            obtain ⟨fk, hfke⟩ : ∃ fk, fk = f k := ⟨_, rfl⟩
            rw [← hfke] at HV hfk
            clear hmj HMj hfke
            have hrel9 : ∀ v : Bool, v = cnB ts f k → (w2.setCell ⟨w.heap.size + 1, k, none⟩ (.bool v)).rowIs (w.heap.size + 1) 4 ts.length (fun j => .bool (decide (j < k + 1) && cnB ts f j)) := fun v hv => (HCan2.out.set k (.bool v)).congr fun i hi => by
              by_cases e : i = k
              · subst e; simp [hv]
              · rw [if_neg e]
                have : decide (i < k + 1) = decide (i < k) := by rw [decide_eq_decide]; omega
                rw [this]
            have HRel := Lib.hid hrel9
            clear hrel9
            cases fk
            · go_wp2_with fail
              go_roundw
              case rel => exact ⟨k + 1, by omega, by go_num, HRel.out _ (by rw [HV.out]; rfl), HBel2.out.setCell (Nat.le_refl _) _⟩
              case measure => simp [intOf]; omega
            · go_wp2_with fail
              go_roundw
              case rel => exact ⟨k + 1, by omega, by go_num, HRel.out _ (by rw [HV.out]; rfl), HBel2.out.setCell (Nat.le_refl _) _⟩
              case measure => simp [intOf]; omega
      · have HMb := Lib.hid (show mb = true by rw [HMb0.out]; simp [h2])
        go_wp2_with fail
        go_loop [8, 9] (fun m y => ∃ j : Nat, j ≤ l.length ∧ y = .int .i64 j ∧ m = .bool (mb && (l.take j).all fun p => cnB ts f p.toNat)) (fun _ y => l.length - (intOf y).toNat)
        case atStart => exact ⟨0, Nat.zero_le _, rfl, by simp [HMb.out, *]⟩
        case round =>
          obtain ⟨j, hj, rfl, rfl⟩ := hrel
          have HMj := Lib.hid (rfl : (mb && (l.take j).all fun p => cnB ts f p.toNat) = (mb && (l.take j).all fun p => cnB ts f p.toNat))
          by_cases hjl : j < l.length
          · exact absurd hjl (by omega)
          · have hje : j = l.length := by omega
            have HV := Lib.hid (show cnB ts f k = (f k || (mb && (l.take j).all fun p => cnB ts f p.toNat)) by rw [HEq.out, hje, List.take_length])
            obtain ⟨mj, hmj⟩ : ∃ mj, mj = (mb && (l.take j).all fun p => cnB ts f p.toNat) := ⟨_, rfl⟩
            rw [← hmj] at HV ⊢
            have hfk := HRw2.out.cell (i := k) hlt
            have hck := HCan2.out.cell (i := k) hlt
            have hcf := HCan2.out.frozen k
            obtain ⟨fk, hfke⟩ : ∃ fk, fk = f k := ⟨_, rfl⟩
            rw [← hfke] at HV hfk
            clear hmj HMj hfke
            have hrel9 : ∀ v : Bool, v = cnB ts f k → (w2.setCell ⟨w.heap.size + 1, k, none⟩ (.bool v)).rowIs (w.heap.size + 1) 4 ts.length (fun j => .bool (decide (j < k + 1) && cnB ts f j)) := fun v hv => (HCan2.out.set k (.bool v)).congr fun i hi => by
              by_cases e : i = k
              · subst e; simp [hv]
              · rw [if_neg e]
                have : decide (i < k + 1) = decide (i < k) := by rw [decide_eq_decide]; omega
                rw [this]
            have HRel := Lib.hid hrel9
            clear hrel9
            cases fk
            · go_wp2_with fail
              go_roundw
              case rel => exact ⟨k + 1, by omega, by go_num, HRel.out _ (by rw [HV.out]; rfl), HBel2.out.setCell (Nat.le_refl _) _⟩
              case measure => simp [intOf]; omega
            · go_wp2_with fail
              go_roundw
              case rel => exact ⟨k + 1, by omega, by go_num, HRel.out _ (by rw [HV.out]; rfl), HBel2.out.setCell (Nat.le_refl _) _⟩
              case measure => simp [intOf]; omega
      · have HMb := Lib.hid (show mb = false by rw [HMb0.out]; simp [h1, h2])
        go_wp2_with fail
        go_loop [8, 9] (fun m y => ∃ j : Nat, j ≤ l.length ∧ y = .int .i64 j ∧ m = .bool (mb && (l.take j).all fun p => cnB ts f p.toNat)) (fun _ y => l.length - (intOf y).toNat)
        case atStart => exact ⟨0, Nat.zero_le _, rfl, by simp [HMb.out, *]⟩
        case round =>
          obtain ⟨j, hj, rfl, rfl⟩ := hrel
          have HMj := Lib.hid (rfl : (mb && (l.take j).all fun p => cnB ts f p.toNat) = (mb && (l.take j).all fun p => cnB ts f p.toNat))
          by_cases hjl : j < l.length
          · exact absurd hjl (by omega)
          · have hje : j = l.length := by omega
            have HV := Lib.hid (show cnB ts f k = (f k || (mb && (l.take j).all fun p => cnB ts f p.toNat)) by rw [HEq.out, hje, List.take_length])
            obtain ⟨mj, hmj⟩ : ∃ mj, mj = (mb && (l.take j).all fun p => cnB ts f p.toNat) := ⟨_, rfl⟩
            rw [← hmj] at HV ⊢
            have hfk := HRw2.out.cell (i := k) hlt
            have hck := HCan2.out.cell (i := k) hlt
            have hcf := HCan2.out.frozen k
            obtain ⟨fk, hfke⟩ : ∃ fk, fk = f k := ⟨_, rfl⟩
            rw [← hfke] at HV hfk
            clear hmj HMj hfke
            have hrel9 : ∀ v : Bool, v = cnB ts f k → (w2.setCell ⟨w.heap.size + 1, k, none⟩ (.bool v)).rowIs (w.heap.size + 1) 4 ts.length (fun j => .bool (decide (j < k + 1) && cnB ts f j)) := fun v hv => (HCan2.out.set k (.bool v)).congr fun i hi => by
              by_cases e : i = k
              · subst e; simp [hv]
              · rw [if_neg e]
                have : decide (i < k + 1) = decide (i < k) := by rw [decide_eq_decide]; omega
                rw [this]
            have HRel := Lib.hid hrel9
            clear hrel9
            cases fk
            · go_wp2_with fail
              go_roundw
              case rel => exact ⟨k + 1, by omega, by go_num, HRel.out _ (by rw [HV.out]; rfl), HBel2.out.setCell (Nat.le_refl _) _⟩
              case measure => simp [intOf]; omega
            · go_wp2_with fail
              go_roundw
              case rel => exact ⟨k + 1, by omega, by go_num, HRel.out _ (by rw [HV.out]; rfl), HBel2.out.setCell (Nat.le_refl _) _⟩
              case measure => simp [intOf]; omega
    · have hke : k = ts.length := by omega
      have HFin := Lib.hid (show wr.rowIs (w.heap.size + 1) 4 ts.length (fun j => .bool (cnB ts f j)) from HCan.out.congr fun j hj => by simp [hke, hj])
      have HB := Lib.hid (HB1.out.trans (HBel.out.mono (by omega)))
      go_wp2_with fail
      go_ret
      exact ⟨w.heap.size + 1, rfl, by omega, hClt, HFin.out, HB.out⟩

end Go.Proofs.Ytjplmmbncjahiaa

namespace Go.Proofs.Ytjplmmbncjahiaa
open Go.RowKit Go.Maps

set_option maxRecDepth 100000 in
set_option maxHeartbeats 8000000 in
theorem l2open_any (A : Option Addr) (ts : List Tm) (c L B R : Nat) (f : Nat → Bool) (w : World) (hA : TmsIn w L B A ts) (hB : B ≤ R) (hrow : w.rowIs R 4 ts.length (fun j => .bool (f j))) (hok : LOk ts) (hf : ∀ j, f j = true → j < ts.length) (hn : ts.length ≤ 1048576) :
    Calls Try.prog 35 #[.agg #[.slice A ts.length c], .slice (some ⟨R, 0, none⟩) ts.length ts.length] w fun e w' => e = .returned (.tuple #[]) ∧ w'.rowIs R 4 ts.length (fun j => .bool (opB ts f j)) ∧ w.grownBy w' (some R) := by
  have HA := Lib.hid hA
  have HRow := Lib.hid hrow
  have HOk := Lib.hid hok
  have HF := Lib.hid hf
  have hRlt := hrow.lt
  clear hA hrow hok hf
  go_enter Try.func35, Try.ntmps35
  go_wp2_with fail
  obtain ⟨W0, hW0⟩ : ∃ W0, W0 = w.alloc (.cells #[.slice A ts.length c] 30) := ⟨_, rfl⟩
  have hb0 : Below w.heap.size w W0 := by rw [hW0]; exact (Below.refl _ _).alloc (Nat.le_refl _) _
  have hs0 : W0.heap.size = w.heap.size + 1 := by rw [hW0]; simp
  have hbx : W0.cell? ⟨w.heap.size, 0, none⟩ = some (.slice A ts.length c) := by rw [hW0]; simp
  have HR0 := Lib.hid (rowIs_below HRow.out hb0 hRlt)
  have HB0 := Lib.hid hb0
  rw [← hW0]
  clear hb0 hW0
  go_loopg [4] (misses f ts.length + 1) (fun gk more wr => ∃ (m : Bool) (g : Nat → Bool), more = .bool m ∧ wr.rowIs R 4 ts.length (fun j => .bool (g j)) ∧ (∀ j, j < ts.length → f j = true → g j = true) ∧ (∀ j, j < ts.length → g j = true → Op ts f j) ∧ W0.grownBy wr (some R) ∧ (m = true → misses g ts.length < gk) ∧ (m = false → Cs ts g ts.length))
  case atStart => exact ⟨true, f, rfl, HR0.out, fun _ _ h => h, fun _ _ h => .had h, gb_refl _ _, fun _ => by omega, fun h => by cases h⟩
  case round =>
    obtain ⟨m, g, rfl, hrow, hfg, hso, hgb, hms, hcs⟩ := hrel
    have e0 := (gb_cell hgb (p := ⟨w.heap.size, 0, none⟩) (by show w.heap.size < _; omega) (by show w.heap.size ≠ R; omega)).trans hbx
    have HFg := Lib.hid hfg
    have HSo := Lib.hid hso
    have HGb := Lib.hid hgb
    have HRg := Lib.hid hrow
    have hzr := hgb.size
    have HAr := Lib.hid (HA.out.keep (w' := wr) fun p _ hp => (gb_cell hgb (p := p) (by omega) (by omega)).trans (HB0.out.cell (by omega)))
    clear hrow hfg hso hgb
    cases m with
    | true =>
      have hmis := hms rfl
      clear hms hcs
      go_wp2_with fail
      refine (l2all_any A ts c L B R g wr HAr.out (by omega) HRg.out HOk.out hn).mono ?_
      rintro e w2 ⟨RC, rfl, hRC, hRC', hcan, hb2⟩
      have e2 := (hb2.cell (p := ⟨w.heap.size, 0, none⟩) (by show w.heap.size < _; omega)).trans e0
      have hz2 := hb2.size
      have HR2w := Lib.hid (rowIs_below HRg.out hb2 (by omega))
      have HCan := Lib.hid hcan
      have HG02 := Lib.hid (gb_below HGb.out hb2)
      have HA2 := Lib.hid (HAr.out.keep (w' := w2) fun p _ hp => hb2.cell (by omega))
      clear hb2 hcan e0
      go_wp2_with fail
      go_loopw [4, 6] (fun more x wi => ∃ (k : Nat) (m1 : Bool) (g1 : Nat → Bool), k ≤ ts.length ∧ x = .int .i64 k ∧ more = .bool m1 ∧ wi.rowIs R 4 ts.length (fun j => .bool (g1 j)) ∧ wi.rowIs RC 4 ts.length (fun j => .bool (cnB ts g j)) ∧ Rd ts f g ts.length m1 g1 ∧ (m1 = false → Cs ts g k) ∧ w2.grownBy wi (some R)) (fun _ x _ => ts.length - (intOf x).toNat)
      case atStart => exact ⟨0, false, g, Nat.zero_le _, rfl, rfl, HR2w.out, HCan.out, .start HSo.out, fun _ => Cs.zero ts g, gb_refl _ _⟩
      case round =>
        obtain ⟨k, m1, g1, hk, rfl, rfl, hrow1, hrowc, hrd1, hcs1, hgi⟩ := hrel
        rename World => wi
        have e1 := (gb_cell hgi (p := ⟨w.heap.size, 0, none⟩) (by show w.heap.size < _; omega) (by show w.heap.size ≠ R; omega)).trans e2
        have hRi := hrow1.lt
        have hzi := hgi.size
        have HRi := Lib.hid hrow1
        have HRCi := Lib.hid hrowc
        have HRd := Lib.hid hrd1
        have HCs := Lib.hid hcs1
        have HGi := Lib.hid hgi
        clear hrow1 hrowc hrd1 hcs1
        by_cases hlt : k < ts.length
        · have hisk := HRi.out.cell hlt
          cases hgk : g1 k with
          | false =>
            rw [hgk] at hisk
            have HNext := Lib.hid (show m1 = false → Cs ts g (k + 1) from fun h => (HCs.out h).next fun hg => by
              rw [HRd.out.mono k hlt hg] at hgk
              cases hgk)
            clear hgk hgi
            go_wp2_with fail
            go_roundw
            case rel => exact ⟨k + 1, m1, g1, by omega, by go_num, rfl, HRi.out, HRCi.out, HRd.out, HNext.out, HGi.out⟩
            case measure => simp [intOf]; omega
          | true =>
            rw [hgk] at hisk
            obtain ⟨b, o, rfl, hL, hb, hc⟩ := HA2.out (by omega)
            obtain ⟨A1, c1, x0, x1, x2, x3, _⟩ := (hc k hlt).keep (w' := wi) hL hb (fun p _ hp => gb_cell hgi (p := p) (by omega) (by omega))
            obtain ⟨key, hkey⟩ : ∃ key, key = cnB ts g ts[k].a.toNat := ⟨_, rfl⟩
            have hlock := fun h5 => lock_key HOk.out (i := k) hlt h5
            rw [tmAt_nat ts k hlt] at hlock
            have HLock := Lib.hid hlock
            have HOpk := Lib.hid (show ∀ p ∈ givesV ts[k] key, Op ts f p.toNat from by
              have h := gives_op (i := k) (f := fun j => decide (j < ts.length) && g j) (HRd.out.sound k hlt hgk) (fun j hj => by
                simp only [Bool.and_eq_true, decide_eq_true_eq] at hj
                exact HSo.out j hj.1 hj.2) key (fun h5 hk => by
                rw [tmAt_nat ts k hlt] at h5 ⊢
                obtain ⟨h1, h2, h3⟩ := HLock.out h5
                rw [hkey] at hk
                have := cn_key ((cnB_iff _ _ _).1 hk) h3
                simp only [Bool.and_eq_true, decide_eq_true_eq]
                exact ⟨by omega, this⟩)
              rwa [tmAt_nat ts k hlt] at h)
            have HKey := Lib.hid (show ∀ p ∈ givesV (tmAt ts k) (g (tmAt ts k).a.toNat), p ∈ givesV ts[k] key from fun p hp => by
              rw [tmAt_nat ts k hlt] at hp
              exact gives_mono (fun h => by rw [hkey, cnB_iff]; exact .had h) hp)
            have HKe := Lib.hid hkey
            clear hgk hgi hc hkey hlock
            by_cases h3 : ts[k].kind = 3
            · rw [h3] at x0
              have HL0 := Lib.hid (show givesV ts[k] key = [ts[k].a, ts[k].b] by simp [givesV, h3])
              obtain ⟨l, hl⟩ : ∃ l : List Int, l = [ts[k].a, ts[k].b] := ⟨_, rfl⟩
              have HL := Lib.hid (show givesV ts[k] key = l by rw [HL0.out, hl])
              have hlen : l.length = 2 := by rw [hl]; rfl
              obtain ⟨wj, hwj⟩ : ∃ x, x = (wi.alloc (.cells #[.int .i64 3, .int .i64 ts[k].a, .int .i64 ts[k].b, .slice A1 ts[k].text.length c1] 67)).alloc (.cells #[.int .i64 ts[k].a, .int .i64 ts[k].b] 3) := ⟨_, rfl⟩
              have hbj : Below wi.heap.size wi wj := by rw [hwj]; exact ((Below.refl _ _).alloc (Nat.le_refl _) _).alloc (by simp) _
              have hil : IntsIn wj wi.heap.size wj.heap.size (some ⟨wi.heap.size + 1, 0, none⟩) l := fun _ => ⟨wi.heap.size + 1, 0, rfl, by omega, by rw [hwj]; simp, fun j hj => by
                subst hwj hl
                have hj2 : j = 0 ∨ j = 1 := by simp at hj; omega
                rcases hj2 with rfl | rfl <;> simp⟩
              have HBj := Lib.hid hbj
              have HIl := Lib.hid hil
              have HRj := Lib.hid (rowIs_below HRi.out hbj hRi)
              have hzj := hbj.size
              go_wp2_with fail
              rw [← hwj]
              clear hwj hbj hil hl
              clear x0 x1 x2 x3 hisk
              go_loopw [4, 9] (fun more y wl => ∃ (j : Nat) (m2 : Bool) (g2 : Nat → Bool), j ≤ l.length ∧ y = .int .i64 j ∧ more = .bool m2 ∧ wl.rowIs R 4 ts.length (fun j => .bool (g2 j)) ∧ Rd ts f g ts.length m2 g2 ∧ (m1 = true → m2 = true) ∧ (∀ i (hi : i < l.length), i < j → g2 l[i].toNat = true) ∧ wj.grownBy wl (some R)) (fun _ y _ => l.length - (intOf y).toNat)
              case atStart => exact ⟨0, m1, g1, Nat.zero_le _, rfl, rfl, HRj.out, HRd.out, fun h => h, fun _ _ h => absurd h (Nat.not_lt_zero _), gb_refl _ _⟩
              case round =>
                obtain ⟨j, m2, g2, hj, rfl, rfl, hrow2, hrd2, hmm, hdone, hg2⟩ := hrel
                have HR2 := Lib.hid hrow2
                have HRd2 := Lib.hid hrd2
                have HMm := Lib.hid hmm
                have HDone := Lib.hid hdone
                have HG2 := Lib.hid hg2
                clear hrow2 hrd2 hmm hdone hg2
                by_cases hjl : j < l.length
                · obtain ⟨bq, oq, hAq, hLq, hltq, hcq⟩ := HIl.out (by omega)
                  have hcj := (gb_cell HG2.out (p := ⟨bq, oq + j, none⟩) hltq (by show bq ≠ R; omega)).trans (hcq j hjl)
                  have hmem : l[j] ∈ givesV ts[k] key := by rw [HL.out]; exact List.getElem_mem hjl
                  have hb := gives_below HOk.out hlt key (by rw [tmAt_nat ts k hlt]; exact hmem)
                  obtain ⟨q, hq⟩ := Int.eq_ofNat_of_zero_le hb.1
                  have HOp := Lib.hid (show Op ts f q by
                    have h := HOpk.out _ hmem
                    rwa [hq, Int.toNat_natCast] at h)
                  have HQ := Lib.hid hq
                  rw [hq] at hcj hb
                  have hqn : q < ts.length := by omega
                  have hq0 := HR2.out.cell hqn
                  have hqf := HR2.out.frozen q
                  cases hAq
                  simp only [Nat.zero_add] at hcj
                  clear hcq hb hq hmem
                  cases hgq : g2 q with
                  | true =>
                    rw [hgq] at hq0
                    have HDone2 := Lib.hid (show ∀ i (hi : i < l.length), i < j + 1 → g2 l[i].toNat = true from fun i hi hlt' => by
                      by_cases e : i = j
                      · subst e; rw [HQ.out, Int.toNat_natCast]; exact hgq
                      · exact HDone.out i hi (by omega))
                    clear hgq
                    go_wp2_with fail
                    go_roundw
                    case rel => exact ⟨j + 1, m2, g2, by omega, by go_num, rfl, HR2.out, HRd2.out, HMm.out, HDone2.out, HG2.out⟩
                    case measure => simp [intOf]; omega
                  | false =>
                    rw [hgq] at hq0
                    have HDone2 := Lib.hid (show ∀ i (hi : i < l.length), i < j + 1 → (if l[i].toNat = q then true else g2 l[i].toNat) = true from fun i hi hlt' => by
                      split
                      · rfl
                      · rename_i hne
                        by_cases e : i = j
                        · subst e; rw [HQ.out, Int.toNat_natCast] at hne; exact absurd rfl hne
                        · exact HDone.out i hi (by omega))
                    have HRd3 := Lib.hid (HRd2.out.set hqn hgq HOp.out)
                    clear hgq
                    go_wp2_with fail
                    go_roundw
                    case rel =>
                      refine ⟨j + 1, true, fun x => if x = q then true else g2 x, by omega, by go_num, rfl, (HR2.out.set q _).congr fun x _ => ?_, HRd3.out, fun _ => rfl, HDone2.out, gb_set HG2.out _ _⟩
                      by_cases e : x = q
                      · subst e; simp
                      · simp [e]
                    case measure => simp [intOf]; omega
                · have hje : j = l.length := by omega
                  have HNext := Lib.hid (show m2 = false → Cs ts g (k + 1) from fun hm2 => by
                    have hm1 : m1 = false := by
                      cases hm1 : m1 with
                      | false => rfl
                      | true => rw [HMm.out hm1] at hm2; cases hm2
                    refine (HCs.out hm1).next fun _ p hp => ?_
                    have hp2 := HKey.out p hp
                    rw [HL.out] at hp2
                    obtain ⟨i, hi, rfl⟩ := List.mem_iff_getElem.1 hp2
                    have hmem : l[i] ∈ givesV ts[k] key := by rw [HL.out]; exact List.getElem_mem hi
                    have hb := gives_below HOk.out hlt key (by rw [tmAt_nat ts k hlt]; exact hmem)
                    rw [← HRd2.out.same hm2 _ (by omega)]
                    exact HDone.out i hi (by omega))
                  have HGk := Lib.hid (gb_trans (gb_below HGi.out HBj.out) HG2.out)
                  have HRCk := Lib.hid ((rowIs_below HRCi.out HBj.out (by have := HGi.out.size; omega)).of_block (HG2.out.block RC (by have := HGi.out.size; have := HBj.out.size; omega) (by simp; omega)))
                  go_wp2_with fail
                  go_roundw
                  case rel => exact ⟨k + 1, m2, g2, by omega, by go_num, rfl, HR2.out, HRCk.out, HRd2.out, HNext.out, HGk.out⟩
                  case measure => simp [intOf]; omega
            · by_cases h6 : ts[k].kind = 6
              · rw [h6] at x0
                have HL0 := Lib.hid (show givesV ts[k] key = [ts[k].b] by simp [givesV, h6])
                obtain ⟨l, hl⟩ : ∃ l : List Int, l = [ts[k].b] := ⟨_, rfl⟩
                have HL := Lib.hid (show givesV ts[k] key = l by rw [HL0.out, hl])
                have hlen : l.length = 1 := by rw [hl]; rfl
                obtain ⟨wj, hwj⟩ : ∃ x, x = (wi.alloc (.cells #[.int .i64 6, .int .i64 ts[k].a, .int .i64 ts[k].b, .slice A1 ts[k].text.length c1] 67)).alloc (.cells #[.int .i64 ts[k].b] 3) := ⟨_, rfl⟩
                have hbj : Below wi.heap.size wi wj := by rw [hwj]; exact ((Below.refl _ _).alloc (Nat.le_refl _) _).alloc (by simp) _
                have hil : IntsIn wj wi.heap.size wj.heap.size (some ⟨wi.heap.size + 1, 0, none⟩) l := fun _ => ⟨wi.heap.size + 1, 0, rfl, by omega, by rw [hwj]; simp, fun j hj => by
                  subst hwj hl
                  have hj2 : j = 0 := by simp at hj; omega
                  subst hj2; simp⟩
                have HBj := Lib.hid hbj
                have HIl := Lib.hid hil
                have HRj := Lib.hid (rowIs_below HRi.out hbj hRi)
                have hzj := hbj.size
                go_wp2_with fail
                rw [← hwj]
                clear hwj hbj hil hl
                clear x0 x1 x2 x3 hisk
                go_loopw [4, 9] (fun more y wl => ∃ (j : Nat) (m2 : Bool) (g2 : Nat → Bool), j ≤ l.length ∧ y = .int .i64 j ∧ more = .bool m2 ∧ wl.rowIs R 4 ts.length (fun j => .bool (g2 j)) ∧ Rd ts f g ts.length m2 g2 ∧ (m1 = true → m2 = true) ∧ (∀ i (hi : i < l.length), i < j → g2 l[i].toNat = true) ∧ wj.grownBy wl (some R)) (fun _ y _ => l.length - (intOf y).toNat)
                case atStart => exact ⟨0, m1, g1, Nat.zero_le _, rfl, rfl, HRj.out, HRd.out, fun h => h, fun _ _ h => absurd h (Nat.not_lt_zero _), gb_refl _ _⟩
                case round =>
                  obtain ⟨j, m2, g2, hj, rfl, rfl, hrow2, hrd2, hmm, hdone, hg2⟩ := hrel
                  have HR2 := Lib.hid hrow2
                  have HRd2 := Lib.hid hrd2
                  have HMm := Lib.hid hmm
                  have HDone := Lib.hid hdone
                  have HG2 := Lib.hid hg2
                  clear hrow2 hrd2 hmm hdone hg2
                  by_cases hjl : j < l.length
                  · obtain ⟨bq, oq, hAq, hLq, hltq, hcq⟩ := HIl.out (by omega)
                    have hcj := (gb_cell HG2.out (p := ⟨bq, oq + j, none⟩) hltq (by show bq ≠ R; omega)).trans (hcq j hjl)
                    have hmem : l[j] ∈ givesV ts[k] key := by rw [HL.out]; exact List.getElem_mem hjl
                    have hb := gives_below HOk.out hlt key (by rw [tmAt_nat ts k hlt]; exact hmem)
                    obtain ⟨q, hq⟩ := Int.eq_ofNat_of_zero_le hb.1
                    have HOp := Lib.hid (show Op ts f q by
                      have h := HOpk.out _ hmem
                      rwa [hq, Int.toNat_natCast] at h)
                    have HQ := Lib.hid hq
                    rw [hq] at hcj hb
                    have hqn : q < ts.length := by omega
                    have hq0 := HR2.out.cell hqn
                    have hqf := HR2.out.frozen q
                    cases hAq
                    simp only [Nat.zero_add] at hcj
                    clear hcq hb hq hmem
                    cases hgq : g2 q with
                    | true =>
                      rw [hgq] at hq0
                      have HDone2 := Lib.hid (show ∀ i (hi : i < l.length), i < j + 1 → g2 l[i].toNat = true from fun i hi hlt' => by
                        by_cases e : i = j
                        · subst e; rw [HQ.out, Int.toNat_natCast]; exact hgq
                        · exact HDone.out i hi (by omega))
                      clear hgq
                      go_wp2_with fail
                      go_roundw
                      case rel => exact ⟨j + 1, m2, g2, by omega, by go_num, rfl, HR2.out, HRd2.out, HMm.out, HDone2.out, HG2.out⟩
                      case measure => simp [intOf]; omega
                    | false =>
                      rw [hgq] at hq0
                      have HDone2 := Lib.hid (show ∀ i (hi : i < l.length), i < j + 1 → (if l[i].toNat = q then true else g2 l[i].toNat) = true from fun i hi hlt' => by
                        split
                        · rfl
                        · rename_i hne
                          by_cases e : i = j
                          · subst e; rw [HQ.out, Int.toNat_natCast] at hne; exact absurd rfl hne
                          · exact HDone.out i hi (by omega))
                      have HRd3 := Lib.hid (HRd2.out.set hqn hgq HOp.out)
                      clear hgq
                      go_wp2_with fail
                      go_roundw
                      case rel =>
                        refine ⟨j + 1, true, fun x => if x = q then true else g2 x, by omega, by go_num, rfl, (HR2.out.set q _).congr fun x _ => ?_, HRd3.out, fun _ => rfl, HDone2.out, gb_set HG2.out _ _⟩
                        by_cases e : x = q
                        · subst e; simp
                        · simp [e]
                      case measure => simp [intOf]; omega
                  · have hje : j = l.length := by omega
                    have HNext := Lib.hid (show m2 = false → Cs ts g (k + 1) from fun hm2 => by
                      have hm1 : m1 = false := by
                        cases hm1 : m1 with
                        | false => rfl
                        | true => rw [HMm.out hm1] at hm2; cases hm2
                      refine (HCs.out hm1).next fun _ p hp => ?_
                      have hp2 := HKey.out p hp
                      rw [HL.out] at hp2
                      obtain ⟨i, hi, rfl⟩ := List.mem_iff_getElem.1 hp2
                      have hmem : l[i] ∈ givesV ts[k] key := by rw [HL.out]; exact List.getElem_mem hi
                      have hb := gives_below HOk.out hlt key (by rw [tmAt_nat ts k hlt]; exact hmem)
                      rw [← HRd2.out.same hm2 _ (by omega)]
                      exact HDone.out i hi (by omega))
                    have HGk := Lib.hid (gb_trans (gb_below HGi.out HBj.out) HG2.out)
                    have HRCk := Lib.hid ((rowIs_below HRCi.out HBj.out (by have := HGi.out.size; omega)).of_block (HG2.out.block RC (by have := HGi.out.size; have := HBj.out.size; omega) (by simp; omega)))
                    go_wp2_with fail
                    go_roundw
                    case rel => exact ⟨k + 1, m2, g2, by omega, by go_num, rfl, HR2.out, HRCk.out, HRd2.out, HNext.out, HGk.out⟩
                    case measure => simp [intOf]; omega
              · by_cases h5 : ts[k].kind = 5
                · rw [h5] at x0
                  obtain ⟨h51, h52, _⟩ := HLock.out h5
                  obtain ⟨q5, hq5⟩ := Int.eq_ofNat_of_zero_le h52
                  have hca := HRCi.out.cell (i := q5) (by omega)
                  have hkq : cnB ts g q5 = key := by rw [HKe.out, hq5, Int.toNat_natCast]
                  rw [hkq] at hca
                  have HQ5 := Lib.hid hq5
                  rw [hq5] at x1
                  have hq5n : q5 < ts.length := by omega
                  by_cases hkt : key = true
                  · rw [hkt] at hca
                    clear hkq hq5
                    have hca2 := (World.cell?_alloc_lt wi (.cells #[.int .i64 5, .int .i64 (q5 : Int), .int .i64 ts[k].b, .slice A1 ts[k].text.length c1] 67) ⟨RC, q5, none⟩ (by show RC < _; omega)).trans hca
                    clear hca h51 h52
                    have HL0 := Lib.hid (show givesV ts[k] key = [ts[k].b] by simp [givesV, h5, hkt])
                    obtain ⟨l, hl⟩ : ∃ l : List Int, l = [ts[k].b] := ⟨_, rfl⟩
                    have HL := Lib.hid (show givesV ts[k] key = l by rw [HL0.out, hl])
                    have hlen : l.length = 1 := by rw [hl]; rfl
                    obtain ⟨wj, hwj⟩ : ∃ x, x = (wi.alloc (.cells #[.int .i64 5, .int .i64 (q5 : Int), .int .i64 ts[k].b, .slice A1 ts[k].text.length c1] 67)).alloc (.cells #[.int .i64 ts[k].b] 3) := ⟨_, rfl⟩
                    have hbj : Below wi.heap.size wi wj := by rw [hwj]; exact ((Below.refl _ _).alloc (Nat.le_refl _) _).alloc (by simp) _
                    have hil : IntsIn wj wi.heap.size wj.heap.size (some ⟨wi.heap.size + 1, 0, none⟩) l := fun _ => ⟨wi.heap.size + 1, 0, rfl, by omega, by rw [hwj]; simp, fun j hj => by
                      subst hwj hl
                      have hj2 : j = 0 := by simp at hj; omega
                      subst hj2; simp⟩
                    have HBj := Lib.hid hbj
                    have HIl := Lib.hid hil
                    have HRj := Lib.hid (rowIs_below HRi.out hbj hRi)
                    have hzj := hbj.size
                    go_wp2_with fail
                    rw [← hwj]
                    clear hwj hbj hil hl
                    clear x0 x1 x2 x3 hisk
                    go_loopw [4, 9] (fun more y wl => ∃ (j : Nat) (m2 : Bool) (g2 : Nat → Bool), j ≤ l.length ∧ y = .int .i64 j ∧ more = .bool m2 ∧ wl.rowIs R 4 ts.length (fun j => .bool (g2 j)) ∧ Rd ts f g ts.length m2 g2 ∧ (m1 = true → m2 = true) ∧ (∀ i (hi : i < l.length), i < j → g2 l[i].toNat = true) ∧ wj.grownBy wl (some R)) (fun _ y _ => l.length - (intOf y).toNat)
                    case atStart => exact ⟨0, m1, g1, Nat.zero_le _, rfl, rfl, HRj.out, HRd.out, fun h => h, fun _ _ h => absurd h (Nat.not_lt_zero _), gb_refl _ _⟩
                    case round =>
                      obtain ⟨j, m2, g2, hj, rfl, rfl, hrow2, hrd2, hmm, hdone, hg2⟩ := hrel
                      have HR2 := Lib.hid hrow2
                      have HRd2 := Lib.hid hrd2
                      have HMm := Lib.hid hmm
                      have HDone := Lib.hid hdone
                      have HG2 := Lib.hid hg2
                      clear hrow2 hrd2 hmm hdone hg2
                      by_cases hjl : j < l.length
                      · obtain ⟨bq, oq, hAq, hLq, hltq, hcq⟩ := HIl.out (by omega)
                        have hcj := (gb_cell HG2.out (p := ⟨bq, oq + j, none⟩) hltq (by show bq ≠ R; omega)).trans (hcq j hjl)
                        have hmem : l[j] ∈ givesV ts[k] key := by rw [HL.out]; exact List.getElem_mem hjl
                        have hb := gives_below HOk.out hlt key (by rw [tmAt_nat ts k hlt]; exact hmem)
                        obtain ⟨q, hq⟩ := Int.eq_ofNat_of_zero_le hb.1
                        have HOp := Lib.hid (show Op ts f q by
                          have h := HOpk.out _ hmem
                          rwa [hq, Int.toNat_natCast] at h)
                        have HQ := Lib.hid hq
                        rw [hq] at hcj hb
                        have hqn : q < ts.length := by omega
                        have hq0 := HR2.out.cell hqn
                        have hqf := HR2.out.frozen q
                        cases hAq
                        simp only [Nat.zero_add] at hcj
                        clear hcq hb hq hmem
                        cases hgq : g2 q with
                        | true =>
                          rw [hgq] at hq0
                          have HDone2 := Lib.hid (show ∀ i (hi : i < l.length), i < j + 1 → g2 l[i].toNat = true from fun i hi hlt' => by
                            by_cases e : i = j
                            · subst e; rw [HQ.out, Int.toNat_natCast]; exact hgq
                            · exact HDone.out i hi (by omega))
                          clear hgq
                          go_wp2_with fail
                          go_roundw
                          case rel => exact ⟨j + 1, m2, g2, by omega, by go_num, rfl, HR2.out, HRd2.out, HMm.out, HDone2.out, HG2.out⟩
                          case measure => simp [intOf]; omega
                        | false =>
                          rw [hgq] at hq0
                          have HDone2 := Lib.hid (show ∀ i (hi : i < l.length), i < j + 1 → (if l[i].toNat = q then true else g2 l[i].toNat) = true from fun i hi hlt' => by
                            split
                            · rfl
                            · rename_i hne
                              by_cases e : i = j
                              · subst e; rw [HQ.out, Int.toNat_natCast] at hne; exact absurd rfl hne
                              · exact HDone.out i hi (by omega))
                          have HRd3 := Lib.hid (HRd2.out.set hqn hgq HOp.out)
                          clear hgq
                          go_wp2_with fail
                          go_roundw
                          case rel =>
                            refine ⟨j + 1, true, fun x => if x = q then true else g2 x, by omega, by go_num, rfl, (HR2.out.set q _).congr fun x _ => ?_, HRd3.out, fun _ => rfl, HDone2.out, gb_set HG2.out _ _⟩
                            by_cases e : x = q
                            · subst e; simp
                            · simp [e]
                          case measure => simp [intOf]; omega
                      · have hje : j = l.length := by omega
                        have HNext := Lib.hid (show m2 = false → Cs ts g (k + 1) from fun hm2 => by
                          have hm1 : m1 = false := by
                            cases hm1 : m1 with
                            | false => rfl
                            | true => rw [HMm.out hm1] at hm2; cases hm2
                          refine (HCs.out hm1).next fun _ p hp => ?_
                          have hp2 := HKey.out p hp
                          rw [HL.out] at hp2
                          obtain ⟨i, hi, rfl⟩ := List.mem_iff_getElem.1 hp2
                          have hmem : l[i] ∈ givesV ts[k] key := by rw [HL.out]; exact List.getElem_mem hi
                          have hb := gives_below HOk.out hlt key (by rw [tmAt_nat ts k hlt]; exact hmem)
                          rw [← HRd2.out.same hm2 _ (by omega)]
                          exact HDone.out i hi (by omega))
                        have HGk := Lib.hid (gb_trans (gb_below HGi.out HBj.out) HG2.out)
                        have HRCk := Lib.hid ((rowIs_below HRCi.out HBj.out (by have := HGi.out.size; omega)).of_block (HG2.out.block RC (by have := HGi.out.size; have := HBj.out.size; omega) (by simp; omega)))
                        go_wp2_with fail
                        go_roundw
                        case rel => exact ⟨k + 1, m2, g2, by omega, by go_num, rfl, HR2.out, HRCk.out, HRd2.out, HNext.out, HGk.out⟩
                        case measure => simp [intOf]; omega
                  · have hkf : key = false := by simpa using hkt
                    rw [hkf] at hca
                    clear hkq hq5
                    have hca2 := (World.cell?_alloc_lt wi (.cells #[.int .i64 5, .int .i64 (q5 : Int), .int .i64 ts[k].b, .slice A1 ts[k].text.length c1] 67) ⟨RC, q5, none⟩ (by show RC < _; omega)).trans hca
                    clear hca h51 h52
                    have HL0 := Lib.hid (show givesV ts[k] key = [] by simp [givesV, h5, hkf])
                    obtain ⟨l, hl⟩ : ∃ l : List Int, l = [] := ⟨_, rfl⟩
                    have HL := Lib.hid (show givesV ts[k] key = l by rw [HL0.out, hl])
                    have hlen : l.length = 0 := by rw [hl]; rfl
                    obtain ⟨wj, hwj⟩ : ∃ x, x = wi.alloc (.cells #[.int .i64 5, .int .i64 (q5 : Int), .int .i64 ts[k].b, .slice A1 ts[k].text.length c1] 67) := ⟨_, rfl⟩
                    have hbj : Below wi.heap.size wi wj := by rw [hwj]; exact (Below.refl _ _).alloc (Nat.le_refl _) _
                    have hil : IntsIn wj wi.heap.size wj.heap.size none l := fun h => absurd h (by omega)
                    have HBj := Lib.hid hbj
                    have HIl := Lib.hid hil
                    have HRj := Lib.hid (rowIs_below HRi.out hbj hRi)
                    have hzj := hbj.size
                    go_wp2_with fail
                    rw [← hwj]
                    clear hwj hbj hil hl
                    clear x0 x1 x2 x3 hisk
                    go_loopw [4, 9] (fun more y wl => ∃ (j : Nat) (m2 : Bool) (g2 : Nat → Bool), j ≤ l.length ∧ y = .int .i64 j ∧ more = .bool m2 ∧ wl.rowIs R 4 ts.length (fun j => .bool (g2 j)) ∧ Rd ts f g ts.length m2 g2 ∧ (m1 = true → m2 = true) ∧ (∀ i (hi : i < l.length), i < j → g2 l[i].toNat = true) ∧ wj.grownBy wl (some R)) (fun _ y _ => l.length - (intOf y).toNat)
                    case atStart => exact ⟨0, m1, g1, Nat.zero_le _, rfl, rfl, HRj.out, HRd.out, fun h => h, fun _ _ h => absurd h (Nat.not_lt_zero _), gb_refl _ _⟩
                    case round =>
                      obtain ⟨j, m2, g2, hj, rfl, rfl, hrow2, hrd2, hmm, hdone, hg2⟩ := hrel
                      have HR2 := Lib.hid hrow2
                      have HRd2 := Lib.hid hrd2
                      have HMm := Lib.hid hmm
                      have HDone := Lib.hid hdone
                      have HG2 := Lib.hid hg2
                      clear hrow2 hrd2 hmm hdone hg2
                      by_cases hjl : j < l.length
                      · exact absurd hjl (by omega)
                      · have hje : j = l.length := by omega
                        have HNext := Lib.hid (show m2 = false → Cs ts g (k + 1) from fun hm2 => by
                          have hm1 : m1 = false := by
                            cases hm1 : m1 with
                            | false => rfl
                            | true => rw [HMm.out hm1] at hm2; cases hm2
                          refine (HCs.out hm1).next fun _ p hp => ?_
                          have hp2 := HKey.out p hp
                          rw [HL.out] at hp2
                          obtain ⟨i, hi, rfl⟩ := List.mem_iff_getElem.1 hp2
                          have hmem : l[i] ∈ givesV ts[k] key := by rw [HL.out]; exact List.getElem_mem hi
                          have hb := gives_below HOk.out hlt key (by rw [tmAt_nat ts k hlt]; exact hmem)
                          rw [← HRd2.out.same hm2 _ (by omega)]
                          exact HDone.out i hi (by omega))
                        have HGk := Lib.hid (gb_trans (gb_below HGi.out HBj.out) HG2.out)
                        have HRCk := Lib.hid ((rowIs_below HRCi.out HBj.out (by have := HGi.out.size; omega)).of_block (HG2.out.block RC (by have := HGi.out.size; have := HBj.out.size; omega) (by simp; omega)))
                        go_wp2_with fail
                        go_roundw
                        case rel => exact ⟨k + 1, m2, g2, by omega, by go_num, rfl, HR2.out, HRCk.out, HRd2.out, HNext.out, HGk.out⟩
                        case measure => simp [intOf]; omega
                · have hk3 : ¬ (ts[k].kind = 3) := h3
                  have HL0 := Lib.hid (show givesV ts[k] key = [] by simp [givesV, h3, h5, h6])
                  obtain ⟨l, hl⟩ : ∃ l : List Int, l = [] := ⟨_, rfl⟩
                  have HL := Lib.hid (show givesV ts[k] key = l by rw [HL0.out, hl])
                  have hlen : l.length = 0 := by rw [hl]; rfl
                  obtain ⟨wj, hwj⟩ : ∃ x, x = wi.alloc (.cells #[.int .i64 ts[k].kind, .int .i64 ts[k].a, .int .i64 ts[k].b, .slice A1 ts[k].text.length c1] 67) := ⟨_, rfl⟩
                  have hbj : Below wi.heap.size wi wj := by rw [hwj]; exact (Below.refl _ _).alloc (Nat.le_refl _) _
                  have hil : IntsIn wj wi.heap.size wj.heap.size none l := fun h => absurd h (by omega)
                  have HBj := Lib.hid hbj
                  have HIl := Lib.hid hil
                  have HRj := Lib.hid (rowIs_below HRi.out hbj hRi)
                  have hzj := hbj.size
                  go_wp2_with fail
                  rw [← hwj]
                  clear hwj hbj hil hl
                  clear x0 x1 x2 x3 hisk
                  go_loopw [4, 9] (fun more y wl => ∃ (j : Nat) (m2 : Bool) (g2 : Nat → Bool), j ≤ l.length ∧ y = .int .i64 j ∧ more = .bool m2 ∧ wl.rowIs R 4 ts.length (fun j => .bool (g2 j)) ∧ Rd ts f g ts.length m2 g2 ∧ (m1 = true → m2 = true) ∧ (∀ i (hi : i < l.length), i < j → g2 l[i].toNat = true) ∧ wj.grownBy wl (some R)) (fun _ y _ => l.length - (intOf y).toNat)
                  case atStart => exact ⟨0, m1, g1, Nat.zero_le _, rfl, rfl, HRj.out, HRd.out, fun h => h, fun _ _ h => absurd h (Nat.not_lt_zero _), gb_refl _ _⟩
                  case round =>
                    obtain ⟨j, m2, g2, hj, rfl, rfl, hrow2, hrd2, hmm, hdone, hg2⟩ := hrel
                    have HR2 := Lib.hid hrow2
                    have HRd2 := Lib.hid hrd2
                    have HMm := Lib.hid hmm
                    have HDone := Lib.hid hdone
                    have HG2 := Lib.hid hg2
                    clear hrow2 hrd2 hmm hdone hg2
                    by_cases hjl : j < l.length
                    · exact absurd hjl (by omega)
                    · have hje : j = l.length := by omega
                      have HNext := Lib.hid (show m2 = false → Cs ts g (k + 1) from fun hm2 => by
                        have hm1 : m1 = false := by
                          cases hm1 : m1 with
                          | false => rfl
                          | true => rw [HMm.out hm1] at hm2; cases hm2
                        refine (HCs.out hm1).next fun _ p hp => ?_
                        have hp2 := HKey.out p hp
                        rw [HL.out] at hp2
                        obtain ⟨i, hi, rfl⟩ := List.mem_iff_getElem.1 hp2
                        have hmem : l[i] ∈ givesV ts[k] key := by rw [HL.out]; exact List.getElem_mem hi
                        have hb := gives_below HOk.out hlt key (by rw [tmAt_nat ts k hlt]; exact hmem)
                        rw [← HRd2.out.same hm2 _ (by omega)]
                        exact HDone.out i hi (by omega))
                      have HGk := Lib.hid (gb_trans (gb_below HGi.out HBj.out) HG2.out)
                      have HRCk := Lib.hid ((rowIs_below HRCi.out HBj.out (by have := HGi.out.size; omega)).of_block (HG2.out.block RC (by have := HGi.out.size; have := HBj.out.size; omega) (by simp; omega)))
                      go_wp2_with fail
                      go_roundw
                      case rel => exact ⟨k + 1, m2, g2, by omega, by go_num, rfl, HR2.out, HRCk.out, HRd2.out, HNext.out, HGk.out⟩
                      case measure => simp [intOf]; omega
        · have hke : k = ts.length := by omega
          have HFin := Lib.hid (And.intro (fun hm : m1 = true => by
            obtain ⟨x, hx, h0, h1⟩ := HRd.out.more hm
            exact misses_lt hx HRd.out.mono h0 h1) (fun hm : m1 = false => (hke ▸ HCs.out hm : Cs ts g ts.length).congr HOk.out (HRd.out.same hm)))
          have HGf := Lib.hid (gb_trans HG02.out HGi.out)
          clear hgi
          go_wp2_with fail
          go_roundg (misses g ts.length)
          case measure => exact hmis
          case rel => exact ⟨m1, g1, rfl, HRi.out, fun j hj h => HRd.out.mono j hj (HFg.out j hj h), HRd.out.sound, HGf.out, HFin.out.1, HFin.out.2⟩
    | false =>
      have HFin := Lib.hid (HRg.out.congr (g := fun j => .bool (opB ts f j)) fun j hj => by rw [Cs.all HOk.out HF.out HFg.out HSo.out (hcs rfl) j hj])
      have HGf := Lib.hid (gb_trans (gb_below (gb_refl w (some R)) HB0.out) HGb.out)
      clear hms hcs
      go_wp2_with fail
      go_end0
      exact ⟨rfl, HFin.out, HGf.out⟩

end Go.Proofs.Ytjplmmbncjahiaa
