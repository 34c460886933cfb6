/-
  Several texts in one: Do, Tms, Fh, Fo, Dt.
-/
import Derived.Test.YtkmoihkpaccbdaaDoorDb
import Derived.Test.YtkmoihkpaccbdaaDoorGOp
import Derived.Test.YtkmoihkpaccbdaaDoorGi
import Derived.Test.YtkmoihkpaccbdaaDoorDd
import Derived.Test.YtkmoihkpaccbdaaDoorOpen
import Derived.Deep.QuietTactic
import Derived.Test.YtkmoihkpaccbdaaDoorKept
namespace Go.Proofs.YtkmoihkpaccbdaaDoor
open Go.RowKit Go.Maps

/-- A list of numbers is drawn. -/
def NewList (K : Nat) (code : List UInt8) (n : Int) (w : World) (e : Ending) (w' : World) : Prop :=
  ∃ (l : List Int) (A : Option Addr) (c : Nat), e = .returned (.slice A l.length c) ∧ l.length ≤ 4 ∧ (∀ x ∈ l, -1 ≤ x ∧ x ≤ n) ∧ IntsIn w' w.heap.size w'.heap.size A l ∧ Cur w' K code ∧ OffK K w w'

theorem row_offK {w W W' : World} {K : Nat} {e : TypeId} {size n : Nat} {v : Value} {xs : List Value} (h : W.ownsRow w.heap.size e size v n xs) (ho : OffK K W W') (hK : K < w.heap.size) : W'.ownsRow w.heap.size e size v n xs :=
  h.kept ho (by
    cases hq : v.ownBlock with
    | none => exact .inr (by simp)
    | some g => exact .inr (fun e => by
        injection e with e
        have := (h.lt g hq).1
        omega))

/-- A ledger, a list and a number are drawn. -/
def NewCan (w : World) (e : Ending) (w' : World) : Prop :=
  ∃ (ts : List Tm) (A : Option Addr) (c : Nat) (hv : List Int) (A2 : Option Addr) (c2 : Nat) (want : Int), e = .returned (.tuple #[.agg #[.slice A ts.length c], .slice A2 hv.length c2, .int .i64 want]) ∧ (ts.length ≤ 32 ∧ bulk ts ≤ 64 ∧ ∀ t ∈ ts, BentT t) ∧ (hv.length ≤ 4 ∧ ∀ x ∈ hv, -1 ≤ x ∧ x ≤ (ts.length : Int)) ∧ (-1 ≤ want ∧ want ≤ (ts.length : Int)) ∧
    TmsIn w' w.heap.size w'.heap.size A ts ∧ IntsIn w' w.heap.size w'.heap.size A2 hv ∧ Below w.heap.size w w'

end Go.Proofs.YtkmoihkpaccbdaaDoor

namespace Go.Proofs.YtkmoihkpaccbdaaDoor
open Go.RowKit Go.Maps

theorem led_tms {ls : List Tm} {i : Int} {w w' : World} {e : Ending} (h : NewLedI ls i w e w') (n : Nat) (hn : ls.length = n) :
    ∃ A c, e = .returned (.tuple #[.agg #[.slice A n c], .int .i64 i]) ∧ TmsIn w' w.heap.size w'.heap.size A ls ∧ Below w.heap.size w w' := by
  obtain ⟨us, A, c, rfl, hu, hb, hf, hbel⟩ := h
  subst hn
  exact ⟨A, c, rfl, hf.tms hu hb, hbel⟩

theorem lok_snoc {ts : List Tm} {t : Tm} (h : LOk ts) (ho : okB ts.length t = true) (hk : keyedB ts t = true) (hm : t ∉ ts) (hn : ts.length < 400) : LOk (ts ++ [t]) := by
  refine ⟨by rw [List.length_append]; exact hn, fun i hi => ?_⟩
  have hkey : ∀ x : Tm, (x.kind = 5 ∨ x.kind = 6 → 0 ≤ x.a ∧ x.a < ts.length) → keyedB (ts ++ [t]) x = keyedB ts x := fun x hx => by
    unfold keyedB
    by_cases h56 : x.kind = 5 ∨ x.kind = 6
    · have := hx h56
      rw [List.getElem?_append_left (by omega)]
    · have h5 : x.kind ≠ 5 := fun h => h56 (.inl h)
      have h6 : x.kind ≠ 6 := fun h => h56 (.inr h)
      rw [bne_iff_ne.2 h5, bne_iff_ne.2 h6]
      rfl
  by_cases hlt : i < ts.length
  · obtain ⟨_, h1, h2, h3⟩ := h.2 i hlt
    have e : (ts ++ [t])[i] = ts[i] := List.getElem_append_left hlt
    refine ⟨hi, by rw [e]; exact h1, ?_, fun k hk => ?_⟩
    · rw [e, hkey _ (fun h56 => by have := okB_key h1 h56; omega)]
      exact h2
    · rw [e, List.getElem_append_left (by omega)]
      exact h3 k hk
  · have hi' : i = ts.length := by simp at hi; omega
    subst hi'
    have e : (ts ++ [t])[ts.length] = t := by simp
    refine ⟨hi, by rw [e]; exact ho, ?_, fun k hk => ?_⟩
    · rw [e, hkey _ (fun h56 => okB_key ho h56)]
      exact hk
    · rw [e, List.getElem_append_left hk]
      exact fun h => hm (h ▸ List.getElem_mem hk)

theorem lok_nil : LOk [] := ⟨by simp, fun i hi => absurd hi (by simp)⟩
def kT : Tm := ⟨1, 1, 0, []⟩
def nT : Tm := ⟨0, 7, 0, []⟩
def sT : Tm := ⟨5, 0, 1, []⟩
theorem lok_k : LOk [kT] := lok_snoc lok_nil (by decide) (by decide) (by decide) (by decide)
theorem lok_kn : LOk [kT, nT] := lok_snoc lok_k (by decide) (by decide) (by decide) (by decide)
theorem lok_kns : LOk [kT, nT, sT] := lok_snoc lok_kn (by decide) (by decide) (by decide) (by decide)
theorem termB_of {ts : List Tm} {t : Tm} (h : LOk ts) (ho : okB ts.length t = true) (hk : keyedB ts t = true) : termB ts t = true := by
  simp [termB, lokB_true h, readB_eq', ho, hk]
theorem int_k : internL [] kT = [kT] ∧ internI [] kT = 0 := intern_new (termB_of lok_nil (by decide) (by decide)) (by decide) (by decide)
theorem int_n : internL [kT] nT = [kT, nT] ∧ internI [kT] nT = 1 := intern_new (termB_of lok_k (by decide) (by decide)) (by decide) (by decide)
theorem int_s : internL [kT, nT] sT = [kT, nT, sT] ∧ internI [kT, nT] sT = 2 := intern_new (termB_of lok_kn (by decide) (by decide)) (by decide) (by decide)
theorem can_yes : canV [kT, nT, sT] [0, 2] 1 = true := by
  unfold canV askB
  rw [lokB_true lok_kns]
  have h : Cn [kT, nT, sT] (endB [kT, nT, sT] [0, 2]) 1 := .had (by
    unfold endB
    rw [opB_iff]
    exact Op.lock (i := 2) (.had (by decide)) (by decide) (.had (by decide)))
  simp [hasB, (cnB_iff _ _ _).2 h]
theorem can_no : canV [kT, nT, sT] [2] 1 = false := by
  have hE : ∀ j, endB [kT, nT, sT] [2] j = true → j = 2 := fun j hj => by
    unfold endB at hj
    rw [opB_iff] at hj
    have := op_closed (f := fun j => decide (j = 2)) (fun j hj => by
      have : j < 3 := by
        have h := hj
        simp only [haveB, Bool.and_eq_true, decide_eq_true_eq] at h
        exact h.1
      have hj' : j = 0 ∨ j = 1 ∨ j = 2 := by omega
      rcases hj' with rfl | rfl | rfl
      · exact absurd hj (by decide)
      · exact absurd hj (by decide)
      · rfl) (fun i hi p hp => by
      have : i = 2 := by simpa using hi
      subst this
      have e : givesV (tmAt [kT, nT, sT] ((2 : Nat) : Int)) (decide ((tmAt [kT, nT, sT] ((2 : Nat) : Int)).a.toNat = 2)) = [] := by decide
      rw [e] at hp
      cases hp) hj
    simpa using this
  have hN : ¬ Cn [kT, nT, sT] (endB [kT, nT, sT] [2]) 1 := fun h => by
    cases h with
    | had h => exact absurd (hE 1 h) (by decide)
    | text h => exact absurd h (by decide)
    | made h => exact absurd h (by decide)
  have hN' : cnB [kT, nT, sT] (endB [kT, nT, sT] [2]) 1 = false := by
    cases h : cnB [kT, nT, sT] (endB [kT, nT, sT] [2]) 1 with
    | false => rfl
    | true => exact absurd ((cnB_iff _ _ _).1 h) hN
  unfold canV
  simp [hN']

theorem open_yes : openV [kT, nT, sT] 0 2 = .tuple #[.int .i64 1, .bool true] := by
  unfold openV
  rw [if_pos ⟨lokB_true lok_kns, by decide, by decide, by decide⟩]
  rfl
theorem tms_nil (w : World) (L B : Nat) (A : Option Addr) : TmsIn w L B A [] := fun h => absurd h (by simp)
theorem bytes_nil (w : World) (L B : Nat) (A : Option Addr) : BytesIn w L B A [] := fun h => absurd h (by simp)
theorem ints2_in {X : World} {g : Nat} {u0 u1 : Int} (h0 : X.cell? ⟨g, 0, none⟩ = some (.int .i64 u0)) (h1 : X.cell? ⟨g, 1, none⟩ = some (.int .i64 u1)) : IntsIn X 0 X.heap.size (some ⟨g, 0, none⟩) [u0, u1] := fun _ => by
  refine ⟨g, 0, rfl, Nat.zero_le _, World.block_lt_of_cell? X _ h0, fun j hj => ?_⟩
  have hj' : j = 0 ∨ j = 1 := by simp at hj; omega
  rcases hj' with rfl | rfl
  · exact h0
  · exact h1
theorem ints1_in {X : World} {g : Nat} {u0 : Int} (h0 : X.cell? ⟨g, 0, none⟩ = some (.int .i64 u0)) : IntsIn X 0 X.heap.size (some ⟨g, 0, none⟩) [u0] := fun _ => by
  refine ⟨g, 0, rfl, Nat.zero_le _, World.block_lt_of_cell? X _ h0, fun j hj => ?_⟩
  have hj' : j = 0 := by simpa using hj
  subst hj'
  exact h0

set_option maxRecDepth 100000 in
set_option maxHeartbeats 1000000 in
theorem terms_any (w : World) : Calls Tryd.prog 9 #[] w fun e w' => e = .returned (.bool true) ∧ Below w.heap.size w w' := by
  go_enter Tryd.func9, Tryd.ntmps9
  go_wp2_with fail
  have c1 := implIntern_g none none 0 0 [] 0 kT 0 0 0 w (tms_nil _ _ _ _) (Nat.zero_le _) (by simp) (by simp [bulk]) (bytes_nil _ _ _ _) (Nat.zero_le _) (by decide)
  rw [int_k.1, int_k.2] at c1
  refine c1.mono ?_
  intro e w1 h1
  obtain ⟨A1, k1, rfl, ht1, hb1⟩ := led_tms h1 1 rfl
  clear h1 c1
  have HT1 := Lib.hid ht1
  have HB1 := Lib.hid hb1
  clear ht1 hb1
  go_wp2_with fail
  obtain ⟨W1, hW1⟩ : ∃ y, y = w1.alloc (.cells #[.slice A1 1 k1] 25) := ⟨_, rfl⟩
  have hbw1 : Below w1.heap.size w1 W1 := by rw [hW1]; exact (Below.refl _ _).alloc (Nat.le_refl _) _
  have b1 : W1.cell? ⟨w1.heap.size, 0, none⟩ = some (.slice A1 1 k1) := by rw [hW1]; simp
  have f1 : W1.frozen? ⟨w1.heap.size, 0, none⟩ = false := by rw [hW1]; simp
  have hz1 : w1.heap.size < W1.heap.size := by rw [hW1]; simp
  have HT1' := Lib.hid (HT1.out.below hbw1)
  have HB1' := Lib.hid (HB1.out.trans (hbw1.mono HB1.out.size))
  have hzw1 := HB1.out.size
  rw [← hW1]
  clear hW1 hbw1 HT1 HB1
  have c2 := implIntern_g A1 none w.heap.size w1.heap.size [kT] k1 nT 0 0 0 W1 HT1'.out (by omega) (by simp) (by simp [bulk, kT]) (bytes_nil _ _ _ _) (Nat.zero_le _) (by decide)
  rw [int_n.1, int_n.2] at c2
  refine c2.mono ?_
  intro e w2 h2
  obtain ⟨A2, k2, rfl, ht2, hb2⟩ := led_tms h2 2 rfl
  clear h2 c2
  have hz2 := hb2.size
  have b2 := (hb2.cell (p := ⟨w1.heap.size, 0, none⟩) hz1).trans b1
  have f2 := (hb2.frozen (p := ⟨w1.heap.size, 0, none⟩) hz1).trans f1
  have HT2 := Lib.hid (show TmsIn (w2.setCell ⟨w1.heap.size, 0, none⟩ (.slice A2 2 k2)) W1.heap.size w2.heap.size A2 [kT, nT] from ht2.set (by show w1.heap.size < W1.heap.size; omega) _)
  have HB2 := Lib.hid ((HB1'.out.trans (hb2.mono (by omega))).setCell (p := ⟨w1.heap.size, 0, none⟩) (by show w.heap.size ≤ w1.heap.size; omega) (.slice A2 2 k2))
  clear ht2 hb2 b1 f1 HT1' HB1'
  go_wp2_with fail
  obtain ⟨W2, hW2⟩ : ∃ y, y = w2.setCell ⟨w1.heap.size, 0, none⟩ (.slice A2 2 k2) := ⟨_, rfl⟩
  have e2 : W2.cell? ⟨w1.heap.size, 0, none⟩ = some (.slice A2 2 k2) := by rw [hW2]; exact World.cell?_setCell_same _ _ _ (by rw [b2])
  have g2 : W2.frozen? ⟨w1.heap.size, 0, none⟩ = false := by rw [hW2]; exact (World.frozen?_setCell _ _ _ _).trans f2
  have hzW2 : w2.heap.size ≤ W2.heap.size := by rw [hW2]; simp
  rw [← hW2] at HT2 HB2 ⊢
  clear hW2 b2 f2
  have c3 := implIntern_g A2 none W1.heap.size w2.heap.size [kT, nT] k2 sT 0 0 0 W2 HT2.out hzW2 (by simp) (by simp [bulk, kT, nT]) (bytes_nil _ _ _ _) (Nat.zero_le _) (by decide)
  rw [int_s.1, int_s.2] at c3
  refine c3.mono ?_
  intro e w3 h3
  obtain ⟨A3, k3, rfl, ht3, hb3⟩ := led_tms h3 3 rfl
  clear h3 c3
  have hz3 := hb3.size
  have b3 := (hb3.cell (p := ⟨w1.heap.size, 0, none⟩) (by show w1.heap.size < _; omega)).trans e2
  have f3 := (hb3.frozen (p := ⟨w1.heap.size, 0, none⟩) (by show w1.heap.size < _; omega)).trans g2
  have HT3 := Lib.hid (show TmsIn (w3.setCell ⟨w1.heap.size, 0, none⟩ (.slice A3 3 k3)) W2.heap.size w3.heap.size A3 [kT, nT, sT] from ht3.set (by show w1.heap.size < W2.heap.size; omega) _)
  have HB3 := Lib.hid ((HB2.out.trans (hb3.mono (by omega))).setCell (p := ⟨w1.heap.size, 0, none⟩) (by show w.heap.size ≤ w1.heap.size; omega) (.slice A3 3 k3))
  clear ht3 hb3 e2 g2 HT2 HB2
  go_wp2_with fail
  obtain ⟨W3, hW3⟩ : ∃ y, y = w3.setCell ⟨w1.heap.size, 0, none⟩ (.slice A3 3 k3) := ⟨_, rfl⟩
  have e3 : W3.cell? ⟨w1.heap.size, 0, none⟩ = some (.slice A3 3 k3) := by rw [hW3]; exact World.cell?_setCell_same _ _ _ (by rw [b3])
  have hzW3 : w3.heap.size ≤ W3.heap.size := by rw [hW3]; simp
  rw [← hW3] at HT3 HB3 ⊢
  clear hW3 b3 f3
  have c4 := implOpen_any (A := A3) (ts := [kT, nT, sT]) (c := k3) (L := W2.heap.size) (B := w3.heap.size) (key := 0) (id := 2) (w := W3) HT3.out hzW3 (by simp) (by simp [bulk, kT, nT, sT])
  rw [open_yes] at c4
  refine c4.mono ?_
  rintro e w4 ⟨rfl, hb4⟩
  have hz4 := hb4.size
  have b4 := (hb4.cell (p := ⟨w1.heap.size, 0, none⟩) (by show w1.heap.size < _; omega)).trans e3
  have HT4 := Lib.hid (HT3.out.keep fun p _ hp => hb4.cell (by omega))
  have HB4 := Lib.hid (HB3.out.trans (hb4.mono (by omega)))
  clear c4 hb4 e3 HT3 HB3
  go_wp2_with fail
  obtain ⟨W5, hW5⟩ : ∃ y, y = w4.alloc (.cells #[.int .i64 0, .int .i64 2] 3) := ⟨_, rfl⟩
  have hb5 : Below w4.heap.size w4 W5 := by rw [hW5]; exact (Below.refl _ _).alloc (Nat.le_refl _) _
  have HI5 := Lib.hid (show IntsIn W5 0 W5.heap.size (some ⟨w4.heap.size, 0, none⟩) [0, 2] from ints2_in (by rw [hW5]; simp) (by rw [hW5]; simp))
  have b5 := (hb5.cell (p := ⟨w1.heap.size, 0, none⟩) (by show w1.heap.size < _; omega)).trans b4
  have hz5 := hb5.size
  have HT5 := Lib.hid (HT4.out.keep fun p _ hp => hb5.cell (by omega))
  have HB5 := Lib.hid (HB4.out.trans (hb5.mono (by omega)))
  rw [← hW5]
  clear hW5 hb5 b4 HT4 HB4
  have c6 := implCan_any A3 [kT, nT, sT] k3 W2.heap.size w3.heap.size (some ⟨w4.heap.size, 0, none⟩) [0, 2] 2 1 W5 (wfI_of (by decide) (by decide)) HT5.out (by omega) (by simp) (by simp [bulk, kT, nT, sT]) HI5.out (by simp)
  rw [can_yes] at c6
  refine c6.mono ?_
  rintro e w6 ⟨rfl, hb6⟩
  have hz6 := hb6.size
  have b6 := (hb6.cell (p := ⟨w1.heap.size, 0, none⟩) (by show w1.heap.size < _; omega)).trans b5
  have HT6 := Lib.hid (HT5.out.keep fun p _ hp => hb6.cell (by omega))
  have HB6 := Lib.hid (HB5.out.trans (hb6.mono (by omega)))
  clear c6 hb6 b5 HT5 HB5 HI5
  go_wp2_with fail
  obtain ⟨W7, hW7⟩ : ∃ y, y = w6.alloc (.cells #[.int .i64 2] 3) := ⟨_, rfl⟩
  have hb7 : Below w6.heap.size w6 W7 := by rw [hW7]; exact (Below.refl _ _).alloc (Nat.le_refl _) _
  have HI7 := Lib.hid (show IntsIn W7 0 W7.heap.size (some ⟨w6.heap.size, 0, none⟩) [2] from ints1_in (by rw [hW7]; simp))
  have b7 := (hb7.cell (p := ⟨w1.heap.size, 0, none⟩) (by show w1.heap.size < _; omega)).trans b6
  have hz7 := hb7.size
  have HT7 := Lib.hid (HT6.out.keep fun p _ hp => hb7.cell (by omega))
  have HB7 := Lib.hid (HB6.out.trans (hb7.mono (by omega)))
  rw [← hW7]
  clear hW7 hb7 b6 HT6 HB6
  have c8 := implCan_any A3 [kT, nT, sT] k3 W2.heap.size w3.heap.size (some ⟨w6.heap.size, 0, none⟩) [2] 1 1 W7 (wfI_of (by decide) (by decide)) HT7.out (by omega) (by simp) (by simp [bulk, kT, nT, sT]) HI7.out (by simp)
  rw [can_no] at c8
  refine c8.mono ?_
  rintro e w8 ⟨rfl, hb8⟩
  have hz8 := hb8.size
  have b8 := (hb8.cell (p := ⟨w1.heap.size, 0, none⟩) (by show w1.heap.size < _; omega)).trans b7
  have HT8 := Lib.hid (HT7.out.keep fun p _ hp => hb8.cell (by omega))
  have HB8 := Lib.hid (HB7.out.trans (hb8.mono (by omega)))
  clear c8 hb8 b7 HT7 HB7 HI7
  go_wp2_with fail
  have c9 := implLedgerOk_any A3 [kT, nT, sT] k3 W2.heap.size w3.heap.size w8 HT8.out (by omega) (by simp) (by simp [bulk, kT, nT, sT])
  rw [lokB_true lok_kns] at c9
  refine c9.mono ?_
  rintro e w9 ⟨rfl, hb9⟩
  have HB9 := Lib.hid (HB8.out.trans (hb9.mono (by omega)))
  clear c9 hb9
  go_wp2_with fail
  go_ret
  exact ⟨rfl, HB9.out⟩

end Go.Proofs.YtkmoihkpaccbdaaDoor

namespace Go.Proofs.YtkmoihkpaccbdaaDoor
open Go.RowKit Go.Maps

set_option maxRecDepth 100000 in
set_option maxHeartbeats 1000000 in
theorem hasInt_any (A : Option Addr) (l : List Int) (c : Nat) (x : Int) (w : World) (hA : IntsIn w 0 w.heap.size A l) (hn : l.length ≤ 1048576) :
    Calls Tryd.prog 10 #[.slice A l.length c, .int .i64 x] w fun e w' => e = .returned (.bool (decide (x ∈ l))) ∧ Below w.heap.size w w' := by
  have HA := Lib.hid hA
  clear hA
  go_enter Tryd.func10, Tryd.ntmps10
  go_wp2_with fail
  go_loopw [5] (fun i wr => ∃ k : Nat, k ≤ l.length ∧ i = .int .i64 k ∧ x ∉ l.take k ∧ Below w.heap.size w wr) (fun i _ => l.length - (intOf i).toNat)
  case atStart => exact ⟨0, Nat.zero_le _, rfl, by simp, Below.refl _ _⟩
  case round =>
    obtain ⟨k, hk, rfl, hno, hbr⟩ := hrel
    have HNo := Lib.hid hno
    have HBr := Lib.hid hbr
    clear hno hbr
    by_cases hlt : k < l.length
    · obtain ⟨b, o, rfl, _, hb, hc⟩ := HA.out (by omega)
      have hc0 := (HBr.out.cell (p := ⟨b, o + k, none⟩) (by show b < _; omega)).trans (hc k hlt)
      clear hc
      by_cases he : l[k] = x
      · have HE := Lib.hid (show x ∈ l from he ▸ List.getElem_mem hlt)
        go_wp2_with fail
        go_ret
        exact ⟨by simp [HE.out], HBr.out⟩
      · have HN2 := Lib.hid (show x ∉ l.take (k + 1) by
          rw [List.take_succ_eq_append_getElem hlt]
          simp only [List.mem_append, List.mem_singleton, not_or]
          exact ⟨HNo.out, fun h => he h.symm⟩)
        go_wp2_with fail
        go_roundw
        case rel => exact ⟨k + 1, by omega, by go_num, HN2.out, HBr.out⟩
        case measure => simp [intOf]; omega
    · have HE := Lib.hid (show x ∉ l by
        have h := HNo.out
        rwa [List.take_of_length_le (by omega)] at h)
      go_wp2_with fail
      go_ret
      exact ⟨by simp [HE.out], HBr.out⟩

end Go.Proofs.YtkmoihkpaccbdaaDoor

namespace Go.Proofs.YtkmoihkpaccbdaaDoor
open Go.RowKit Go.Maps

theorem have_pick (f : Nat → Bool) (n j : Nat) : haveB n (pick f n) j = (decide (j < n) && f j) := by
  rw [Bool.eq_iff_iff]
  simp only [haveB, Bool.and_eq_true, decide_eq_true_eq, List.contains_iff_mem, mem_pick]
  constructor
  · rintro ⟨h1, k, h2, h3, h4⟩
    have : k = j := by omega
    subst this
    exact ⟨h1, h4⟩
  · rintro ⟨h1, h2⟩
    exact ⟨h1, j, h1, rfl, h2⟩
theorem op_op {ts : List Tm} {h : Nat → Bool} {i : Nat} (k : Op ts (opB ts h) i) : Op ts h i := by
  induction k with
  | had k => exact (opB_iff _ _ _).1 k
  | pairL _ k ih => exact .pairL ih k
  | pairR _ k ih => exact .pairR ih k
  | sign _ k ih => exact .sign ih k
  | lock _ k _ ih ih2 => exact .lock ih k ih2
theorem end_lt {ts : List Tm} (hok : LOk ts) {hv : List Int} {j : Nat} (h : endB ts hv j = true) : j < ts.length := by
  unfold endB at h
  rw [opB_iff] at h
  exact op_below hok h fun i hi => by
    simp only [haveB, Bool.and_eq_true, decide_eq_true_eq] at hi
    exact hi.1
theorem end_end {ts : List Tm} (hok : LOk ts) (hv : List Int) : endB ts (pick (endB ts hv) ts.length) = endB ts hv := by
  have e : haveB ts.length (pick (endB ts hv) ts.length) = endB ts hv := by
    funext j
    rw [have_pick]
    cases h : endB ts hv j with
    | false => simp
    | true => simp [end_lt hok h]
  funext j
  show opB ts (haveB ts.length (pick (endB ts hv) ts.length)) j = endB ts hv j
  rw [e, Bool.eq_iff_iff, opB_iff]
  constructor
  · intro h
    have := op_op (h := haveB ts.length hv) h
    unfold endB
    rwa [opB_iff]
  · intro h
    exact .had h
theorem opened_opened {ts : List Tm} (hok : LOk ts) {hv : List Int} (hn : hv.length ≤ 1000) : openedV ts (openedV ts hv) = openedV ts hv := by
  have h1 : askB ts hv = true := by simp [askB, lokB_true hok, hn]
  have e : openedV ts hv = pick (endB ts hv) ts.length := by simp [openedV, h1]
  have hl : (pick (endB ts hv) ts.length).length ≤ 1000 := by
    have := pick_length (endB ts hv) ts.length
    have := hok.1
    omega
  rw [e]
  have h2 : askB ts (pick (endB ts hv) ts.length) = true := by simp [askB, lokB_true hok, hl]
  unfold openedV
  rw [if_pos h2, end_end hok]

theorem key_kind {ts : List Tm} (hok : LOk ts) {i : Nat} (hi : i < ts.length) (h5 : (tmAt ts i).kind = 5) : (tmAt ts ((tmAt ts i).a.toNat : Nat)).kind = 1 := by
  obtain ⟨_, _, hk, _⟩ := hok.2 i hi
  rw [tmAt_nat ts i hi] at h5 ⊢
  unfold keyedB at hk
  simp [h5] at hk
  show (ts[((ts[i].a.toNat : Nat) : Int).toNat]?.getD default).kind = 1
  rw [Int.toNat_natCast]
  exact hk
theorem op_cn {ts : List Tm} (hok : LOk ts) {hv : List Int} {i : Nat} (k : Op ts (fun j => decide (j < ts.length) && cnB ts (endB ts hv) j) i) : i < ts.length ∧ Cn ts (endB ts hv) i := by
  have hE : ∀ j, endB ts hv j = true → Op ts (haveB ts.length hv) j := fun j h => (opB_iff _ _ _).1 h
  have hE2 : ∀ j, Op ts (haveB ts.length hv) j → endB ts hv j = true := fun j h => (opB_iff _ _ _).2 h
  have hpl : ∀ i, i < ts.length → ∀ p ∈ partsV (tmAt ts i), p.toNat < ts.length := fun i hi p hp => by have := parts_below hok hi hp; omega
  induction k with
  | had k =>
    simp only [Bool.and_eq_true, decide_eq_true_eq] at k
    exact ⟨k.1, (cnB_iff _ _ _).1 k.2⟩
  | @pairL i _ k ih =>
    have hp : (tmAt ts i).a ∈ partsV (tmAt ts i) := by simp [partsV, k]
    refine ⟨hpl i ih.1 _ hp, ?_⟩
    cases ih.2 with
    | had h => exact .had (hE2 _ (.pairL (hE _ h) k))
    | text h => omega
    | made _ h => exact h _ hp
  | @pairR i _ k ih =>
    have hp : (tmAt ts i).b ∈ partsV (tmAt ts i) := by simp [partsV, k]
    refine ⟨hpl i ih.1 _ hp, ?_⟩
    cases ih.2 with
    | had h => exact .had (hE2 _ (.pairR (hE _ h) k))
    | text h => omega
    | made _ h => exact h _ hp
  | @sign i _ k ih =>
    have hp : (tmAt ts i).b ∈ partsV (tmAt ts i) := by simp [partsV, k]
    refine ⟨hpl i ih.1 _ hp, ?_⟩
    cases ih.2 with
    | had h => exact .had (hE2 _ (.sign (hE _ h) k))
    | text h => omega
    | made _ h => exact h _ hp
  | @lock i _ k _ ih ih2 =>
    have hp : (tmAt ts i).b ∈ partsV (tmAt ts i) := by simp [partsV, k]
    refine ⟨hpl i ih.1 _ hp, ?_⟩
    cases ih.2 with
    | had h => exact .had (hE2 _ (.lock (hE _ h) k (hE _ (cn_key ih2.2 (key_kind hok ih.1 k)))))
    | text h => omega
    | made _ h => exact h _ hp
theorem all_all {ts : List Tm} (hok : LOk ts) {hv : List Int} (hn : hv.length ≤ 1000) : allV ts (allV ts hv) = allV ts hv := by
  have h1 : askB ts hv = true := by simp [askB, lokB_true hok, hn]
  have e : allV ts hv = pick (cnB ts (endB ts hv)) ts.length := by simp [allV, h1]
  have hl : (pick (cnB ts (endB ts hv)) ts.length).length ≤ 1000 := by
    have := pick_length (cnB ts (endB ts hv)) ts.length
    have := hok.1
    omega
  rw [e]
  have h2 : askB ts (pick (cnB ts (endB ts hv)) ts.length) = true := by simp [askB, lokB_true hok, hl]
  unfold allV
  rw [if_pos h2]
  refine pick_congr fun j hj => ?_
  have hh : haveB ts.length (pick (cnB ts (endB ts hv)) ts.length) = fun j => decide (j < ts.length) && cnB ts (endB ts hv) j := by
    funext j
    exact have_pick _ _ _
  rw [Bool.eq_iff_iff, cnB_iff, cnB_iff]
  show Cn ts (opB ts (haveB ts.length (pick (cnB ts (endB ts hv)) ts.length))) j ↔ Cn ts (endB ts hv) j
  rw [hh]
  constructor
  · intro h
    induction h with
    | had h => exact (op_cn hok ((opB_iff _ _ _).1 h)).2
    | text h => exact .text h
    | @made i h _ ih =>
      refine .made h fun p hp => ih p hp ?_
      have := parts_below hok hj hp
      omega
  · intro h
    refine .had ((opB_iff _ _ _).2 (.had ?_))
    simp [hj, (cnB_iff _ _ _).2 h]

/-- A ledger and a list are drawn. -/
def NewOp (w : World) (e : Ending) (w' : World) : Prop :=
  ∃ (ts : List Tm) (A : Option Addr) (c : Nat) (hv : List Int) (A2 : Option Addr) (c2 : Nat), e = .returned (.tuple #[.agg #[.slice A ts.length c], .slice A2 hv.length c2]) ∧ (ts.length ≤ 32 ∧ bulk ts ≤ 64 ∧ ∀ t ∈ ts, BentT t) ∧ (hv.length ≤ 4 ∧ ∀ x ∈ hv, -1 ≤ x ∧ x ≤ (ts.length : Int)) ∧
    TmsIn w' w.heap.size w'.heap.size A ts ∧ IntsIn w' w.heap.size w'.heap.size A2 hv ∧ Below w.heap.size w w'

end Go.Proofs.YtkmoihkpaccbdaaDoor

namespace Go.Proofs.YtkmoihkpaccbdaaDoor
open Go.RowKit Go.Maps

/-- A ledger and a number are drawn. -/
def NewAtD (w : World) (e : Ending) (w' : World) : Prop :=
  ∃ (ts : List Tm) (A : Option Addr) (c : Nat) (id : Int), e = .returned (.tuple #[.agg #[.slice A ts.length c], .int .i64 id]) ∧ (ts.length ≤ 32 ∧ bulk ts ≤ 64 ∧ ∀ t ∈ ts, BentT t) ∧ (-1 ≤ id ∧ id ≤ (ts.length : Int)) ∧
    TmsIn w' w.heap.size w'.heap.size A ts ∧ Below w.heap.size w w'

set_option maxRecDepth 100000 in
set_option maxHeartbeats 1000000 in
theorem drawAt_any (A : Option Addr) (c : Nat) (code : List UInt8) (w : World) (hA : BytesIn w 0 w.heap.size A code) (hn : code.length ≤ 9223372036854775807) :
    Calls Tryd.prog 19 #[.slice A code.length c] w (NewAtD w) := by
  have HA := Lib.hid hA
  clear hA
  go_enter Tryd.func19, Tryd.ntmps19
  go_wp2_with fail
  obtain ⟨W0, hW0⟩ : ∃ y, y = w.alloc (.cells #[.slice none 0 0] 25) := ⟨_, rfl⟩
  have hb0 : Below w.heap.size w W0 := by rw [hW0]; exact (Below.refl _ _).alloc (Nat.le_refl _) _
  have hz0 : W0.heap.size = w.heap.size + 1 := by rw [hW0]; simp
  have r0 : W0.cell? ⟨w.heap.size, 0, none⟩ = some (.slice none 0 0) := by rw [hW0]; simp
  have rf : W0.frozen? ⟨w.heap.size, 0, none⟩ = false := by rw [hW0]; simp
  rw [← hW0]
  refine (l1New_any A c code W0 ((HA.out.keep fun p _ hp => hb0.cell hp).mono hb0.size) hn).mono ?_
  rintro e w1 ⟨rfl, hc1, hb1⟩
  obtain ⟨K, hKe⟩ : ∃ K, K = W0.heap.size := ⟨_, rfl⟩
  rw [← hKe] at hc1 hb1 ⊢
  have hKw : w.heap.size < K := by omega
  have hz1 := hc1.lt
  have HC1 := Lib.hid hc1
  have HB1 := Lib.hid (hb0.trans (hb1.mono (by omega)))
  have HR1 := Lib.hid (And.intro ((hb1.cell (p := ⟨w.heap.size, 0, none⟩) hKw).trans r0) ((hb1.frozen (p := ⟨w.heap.size, 0, none⟩) hKw).trans rf))
  clear hW0 hb0 hz0 r0 rf hKe hc1 hb1
  go_wp2_with fail
  refine (l1bent_any K code w1 HC1.out).mono ?_
  rintro e w2 ⟨ts, A1, c1, rfl, hl1, hk1, hall, ht2, hc2, ho2⟩
  have hz2 := ho2.size
  obtain ⟨W3, hW3⟩ : ∃ y, y = w2.alloc (.cells #[.slice A1 ts.length c1] 25) := ⟨_, rfl⟩
  have hb3 : Below w2.heap.size w2 W3 := by rw [hW3]; exact (Below.refl _ _).alloc (Nat.le_refl _) _
  have b3 : W3.cell? ⟨w2.heap.size, 0, none⟩ = some (.slice A1 ts.length c1) := by rw [hW3]; simp
  have hz3 : w2.heap.size < W3.heap.size := by rw [hW3]; simp
  have HT3 := Lib.hid (ht2.keep fun p _ hp => hb3.cell hp)
  have HC3 := Lib.hid (hc2.below hb3 (by omega))
  have HO3 := Lib.hid (ho2.below hb3)
  have HR3 := Lib.hid (And.intro ((hb3.cell (p := ⟨w.heap.size, 0, none⟩) (by show w.heap.size < _; omega)).trans ((ho2.cell (p := ⟨w.heap.size, 0, none⟩) (by show w.heap.size < _; omega) (by show w.heap.size ≠ K; omega)).trans HR1.out.1)) ((hb3.frozen (p := ⟨w.heap.size, 0, none⟩) (by show w.heap.size < _; omega)).trans ((ho2.frozen (p := ⟨w.heap.size, 0, none⟩) (by show w.heap.size < _; omega) (by show w.heap.size ≠ K; omega)).trans HR1.out.2)))
  have HAll := Lib.hid (And.intro hl1 (And.intro hk1 hall))
  clear HR1 HC1 ht2 hc2 ho2 hb3 hk1 hall
  have b3' := b3
  have HCall := Lib.hid (fun (X : World) (hX : Below W3.heap.size W3 X) => show Calls Tryd.prog 36 #[.pointer (some ⟨K, 0, none⟩), .int .i64 (IntKind.i64.wrap ((ts.length : Int) + 2))] X (fun e w' => ∃ x, e = .returned (.int .i64 x) ∧ IntKind.i64.wrap (x - 1) = x - 1 ∧ w'.cell? ⟨w2.heap.size, 0, none⟩ = some (.slice A1 ts.length c1) ∧ w'.cell? ⟨w.heap.size, 0, none⟩ = some (.slice none 0 0) ∧ w'.frozen? ⟨w.heap.size, 0, none⟩ = false ∧ ∀ V, NewAtD w (.returned (.tuple #[.agg #[.slice A1 ts.length c1], .int .i64 (x - 1)])) (w'.setCell ⟨w.heap.size, 0, none⟩ V)) from by
    rw [show IntKind.i64.wrap ((ts.length : Int) + 2) = (ts.length : Int) + 2 by rw [IntKind.wrap_i64]; omega]
    exact (l1Below_any K code ((ts.length : Int) + 2) X (HC3.out.below hX (by omega))).mono (by
      rintro e w' ⟨x, rfl, hx, hc, ho⟩
      have hx' := hx.2.1 (by omega)
      have hXs := hX.size
      have hkeep : ∀ p : Addr, p.block < W3.heap.size → p.block ≠ K → w'.cell? p = W3.cell? p := fun p h1 h2 => (ho.cell (by omega) h2).trans (hX.cell h1)
      refine ⟨x, rfl, by rw [IntKind.wrap_i64]; omega, (hkeep ⟨w2.heap.size, 0, none⟩ (by show w2.heap.size < _; omega) (by show w2.heap.size ≠ K; omega)).trans b3', (hkeep ⟨w.heap.size, 0, none⟩ (by show w.heap.size < _; omega) (by show w.heap.size ≠ K; omega)).trans HR3.out.1, ((ho.frozen (p := ⟨w.heap.size, 0, none⟩) (by show w.heap.size < _; omega) (by show w.heap.size ≠ K; omega)).trans (hX.frozen (p := ⟨w.heap.size, 0, none⟩) (by show w.heap.size < _; omega))).trans HR3.out.2, fun V => ?_⟩
      have hall : OffK K w1 w' := (HO3.out.below hX).trans ho (.inl rfl)
      refine ⟨ts, A1, c1, x - 1, rfl, HAll.out, by omega, ?_, (HB1.out.trans (hall.low (B := w.heap.size) (by omega) (by omega))).setCell (Nat.le_refl _) _⟩
      refine TmsIn.mono (TmsIn.low (HT3.out.keep fun p hp hp2 => ?_) (by omega)) (by have := ho.size; simp; omega)
      rw [World.cell?_setCell_other _ _ _ _ (fun e => by subst e; exact absurd hp (by show ¬ (w1.heap.size ≤ w.heap.size); omega)), hkeep p (by omega) (by omega)]))
  clear b3' HT3 HO3 HR3 HAll HB1 HC3
  go_upto_region 3 with fail
  rw [← hW3]
  clear hW3
  go_region_law
    (first
      | (go_simp
         go_at_call 36
         refine (HCall.out _ ?_).mono ?_
         · exact (Below.refl _ _).drew
         rintro e w6 ⟨x6, rfl, he6, cb6, r6, rf6, hf6⟩
         have HF := Lib.hid hf6
         clear HCall hf6
         go_wp2_with fail))
  all_goals
    go_wp2_with fail
    refine bodyPost_ret (v := .tuple #[.agg #[.slice A1 ts.length c1], .int .i64 (x6 - 1)]) (by simp [results, Tryd.results19, go_sem, *]) rfl ?_
    exact HF.out _

end Go.Proofs.YtkmoihkpaccbdaaDoor
