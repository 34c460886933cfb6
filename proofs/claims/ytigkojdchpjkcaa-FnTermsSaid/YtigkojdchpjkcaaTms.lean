/-
  The laws' own look at three terms: whatever the world, it is true.
-/
import Derived.Test.YtigkojdchpjkcaaGi
import Derived.Test.YtigkojdchpjkcaaDd
import Derived.Test.YtigkojdchpjkcaaOpen
import Derived.Test.YtigkojdchpjkcaaGOp
namespace Go.Proofs.Ytigkojdchpjkcaa
open Go.RowKit Go.Maps

theorem led_tms {ls : List Tm} {i : Int} {w w' : World} {e : Ending} (h : NewLedI ls i w e w') (n : Nat) (hn : ls.length = n) :
    ∃ A c, e = .returned (.tuple #[.agg #[.slice A n c], .int .i64 i]) ∧ TmsIn w' w.heap.size w'.heap.size A ls ∧ Below w.heap.size w w' := by
  obtain ⟨us, A, c, rfl, hu, hb, hf, hbel⟩ := h
  subst hn
  exact ⟨A, c, rfl, hf.tms hu hb, hbel⟩

theorem lok_snoc {ts : List Tm} {t : Tm} (h : LOk ts) (ho : okB ts.length t = true) (hk : keyedB ts t = true) (hm : t ∉ ts) (hn : ts.length < 400) : LOk (ts ++ [t]) := by
  refine ⟨by rw [List.length_append]; exact hn, fun i hi => ?_⟩
  have hkey : ∀ x : Tm, (x.kind = 5 ∨ x.kind = 6 → 0 ≤ x.a ∧ x.a < ts.length) → keyedB (ts ++ [t]) x = keyedB ts x := fun x hx => by
    unfold keyedB
    by_cases h56 : x.kind = 5 ∨ x.kind = 6
    · have := hx h56
      rw [List.getElem?_append_left (by omega)]
    · have h5 : x.kind ≠ 5 := fun h => h56 (.inl h)
      have h6 : x.kind ≠ 6 := fun h => h56 (.inr h)
      rw [bne_iff_ne.2 h5, bne_iff_ne.2 h6]
      rfl
  by_cases hlt : i < ts.length
  · obtain ⟨_, h1, h2, h3⟩ := h.2 i hlt
    have e : (ts ++ [t])[i] = ts[i] := List.getElem_append_left hlt
    refine ⟨hi, by rw [e]; exact h1, ?_, fun k hk => ?_⟩
    · rw [e, hkey _ (fun h56 => by have := okB_key h1 h56; omega)]
      exact h2
    · rw [e, List.getElem_append_left (by omega)]
      exact h3 k hk
  · have hi' : i = ts.length := by simp at hi; omega
    subst hi'
    have e : (ts ++ [t])[ts.length] = t := by simp
    refine ⟨hi, by rw [e]; exact ho, ?_, fun k hk => ?_⟩
    · rw [e, hkey _ (fun h56 => okB_key ho h56)]
      exact hk
    · rw [e, List.getElem_append_left hk]
      exact fun h => hm (h ▸ List.getElem_mem hk)

theorem lok_nil : LOk [] := ⟨by simp, fun i hi => absurd hi (by simp)⟩
def kT : Tm := ⟨1, 1, 0, []⟩
def nT : Tm := ⟨0, 7, 0, []⟩
def sT : Tm := ⟨5, 0, 1, []⟩
theorem lok_k : LOk [kT] := lok_snoc lok_nil (by decide) (by decide) (by decide) (by decide)
theorem lok_kn : LOk [kT, nT] := lok_snoc lok_k (by decide) (by decide) (by decide) (by decide)
theorem lok_kns : LOk [kT, nT, sT] := lok_snoc lok_kn (by decide) (by decide) (by decide) (by decide)
theorem termB_of {ts : List Tm} {t : Tm} (h : LOk ts) (ho : okB ts.length t = true) (hk : keyedB ts t = true) : termB ts t = true := by
  simp [termB, lokB_true h, readB_eq', ho, hk]
theorem int_k : internL [] kT = [kT] ∧ internI [] kT = 0 := intern_new (termB_of lok_nil (by decide) (by decide)) (by decide) (by decide)
theorem int_n : internL [kT] nT = [kT, nT] ∧ internI [kT] nT = 1 := intern_new (termB_of lok_k (by decide) (by decide)) (by decide) (by decide)
theorem int_s : internL [kT, nT] sT = [kT, nT, sT] ∧ internI [kT, nT] sT = 2 := intern_new (termB_of lok_kn (by decide) (by decide)) (by decide) (by decide)
theorem can_yes : canV [kT, nT, sT] [0, 2] 1 = true := by
  unfold canV askB
  rw [lokB_true lok_kns]
  have h : Cn [kT, nT, sT] (endB [kT, nT, sT] [0, 2]) 1 := .had (by
    unfold endB
    rw [opB_iff]
    exact Op.lock (i := 2) (.had (by decide)) (by decide) (.had (by decide)))
  simp [hasB, (cnB_iff _ _ _).2 h]
theorem can_no : canV [kT, nT, sT] [2] 1 = false := by
  have hE : ∀ j, endB [kT, nT, sT] [2] j = true → j = 2 := fun j hj => by
    unfold endB at hj
    rw [opB_iff] at hj
    have := op_closed (f := fun j => decide (j = 2)) (fun j hj => by
      have : j < 3 := by
        have h := hj
        simp only [haveB, Bool.and_eq_true, decide_eq_true_eq] at h
        exact h.1
      have hj' : j = 0 ∨ j = 1 ∨ j = 2 := by omega
      rcases hj' with rfl | rfl | rfl
      · exact absurd hj (by decide)
      · exact absurd hj (by decide)
      · rfl) (fun i hi p hp => by
      have : i = 2 := by simpa using hi
      subst this
      have e : givesV (tmAt [kT, nT, sT] ((2 : Nat) : Int)) (decide ((tmAt [kT, nT, sT] ((2 : Nat) : Int)).a.toNat = 2)) = [] := by decide
      rw [e] at hp
      cases hp) hj
    simpa using this
  have hN : ¬ Cn [kT, nT, sT] (endB [kT, nT, sT] [2]) 1 := fun h => by
    cases h with
    | had h => exact absurd (hE 1 h) (by decide)
    | text h => exact absurd h (by decide)
    | made h => exact absurd h (by decide)
  have hN' : cnB [kT, nT, sT] (endB [kT, nT, sT] [2]) 1 = false := by
    cases h : cnB [kT, nT, sT] (endB [kT, nT, sT] [2]) 1 with
    | false => rfl
    | true => exact absurd ((cnB_iff _ _ _).1 h) hN
  unfold canV
  simp [hN']

theorem open_yes : openV [kT, nT, sT] 0 2 = .tuple #[.int .i64 1, .bool true] := by
  unfold openV
  rw [if_pos ⟨lokB_true lok_kns, by decide, by decide, by decide⟩]
  rfl
theorem tms_nil (w : World) (L B : Nat) (A : Option Addr) : TmsIn w L B A [] := fun h => absurd h (by simp)
theorem bytes_nil (w : World) (L B : Nat) (A : Option Addr) : BytesIn w L B A [] := fun h => absurd h (by simp)
theorem ints2_in {X : World} {g : Nat} {u0 u1 : Int} (h0 : X.cell? ⟨g, 0, none⟩ = some (.int .i64 u0)) (h1 : X.cell? ⟨g, 1, none⟩ = some (.int .i64 u1)) : IntsIn X 0 X.heap.size (some ⟨g, 0, none⟩) [u0, u1] := fun _ => by
  refine ⟨g, 0, rfl, Nat.zero_le _, World.block_lt_of_cell? X _ h0, fun j hj => ?_⟩
  have hj' : j = 0 ∨ j = 1 := by simp at hj; omega
  rcases hj' with rfl | rfl
  · exact h0
  · exact h1
theorem ints1_in {X : World} {g : Nat} {u0 : Int} (h0 : X.cell? ⟨g, 0, none⟩ = some (.int .i64 u0)) : IntsIn X 0 X.heap.size (some ⟨g, 0, none⟩) [u0] := fun _ => by
  refine ⟨g, 0, rfl, Nat.zero_le _, World.block_lt_of_cell? X _ h0, fun j hj => ?_⟩
  have hj' : j = 0 := by simpa using hj
  subst hj'
  exact h0

set_option maxRecDepth 100000 in
set_option maxHeartbeats 1000000 in
theorem terms_any (w : World) : Calls Try.prog 13 #[] w fun e w' => e = .returned (.bool true) ∧ Below w.heap.size w w' := by
  go_enter Try.func13, Try.ntmps13
  go_wp2_with fail
  have c1 := implIntern_g none none 0 0 [] 0 kT 0 0 0 w (tms_nil _ _ _ _) (Nat.zero_le _) (by simp) (by simp [bulk]) (bytes_nil _ _ _ _) (Nat.zero_le _) (by decide)
  rw [int_k.1, int_k.2] at c1
  refine c1.mono ?_
  intro e w1 h1
  obtain ⟨A1, k1, rfl, ht1, hb1⟩ := led_tms h1 1 rfl
  clear h1 c1
  have HT1 := Lib.hid ht1
  have HB1 := Lib.hid hb1
  clear ht1 hb1
  go_wp2_with fail
  obtain ⟨W1, hW1⟩ : ∃ y, y = w1.alloc (.cells #[.slice A1 1 k1] 25) := ⟨_, rfl⟩
  have hbw1 : Below w1.heap.size w1 W1 := by rw [hW1]; exact (Below.refl _ _).alloc (Nat.le_refl _) _
  have b1 : W1.cell? ⟨w1.heap.size, 0, none⟩ = some (.slice A1 1 k1) := by rw [hW1]; simp
  have f1 : W1.frozen? ⟨w1.heap.size, 0, none⟩ = false := by rw [hW1]; simp
  have hz1 : w1.heap.size < W1.heap.size := by rw [hW1]; simp
  have HT1' := Lib.hid (HT1.out.below hbw1)
  have HB1' := Lib.hid (HB1.out.trans (hbw1.mono HB1.out.size))
  have hzw1 := HB1.out.size
  rw [← hW1]
  clear hW1 hbw1 HT1 HB1
  have c2 := implIntern_g A1 none w.heap.size w1.heap.size [kT] k1 nT 0 0 0 W1 HT1'.out (by omega) (by simp) (by simp [bulk, kT]) (bytes_nil _ _ _ _) (Nat.zero_le _) (by decide)
  rw [int_n.1, int_n.2] at c2
  refine c2.mono ?_
  intro e w2 h2
  obtain ⟨A2, k2, rfl, ht2, hb2⟩ := led_tms h2 2 rfl
  clear h2 c2
  have hz2 := hb2.size
  have b2 := (hb2.cell (p := ⟨w1.heap.size, 0, none⟩) hz1).trans b1
  have f2 := (hb2.frozen (p := ⟨w1.heap.size, 0, none⟩) hz1).trans f1
  have HT2 := Lib.hid (show TmsIn (w2.setCell ⟨w1.heap.size, 0, none⟩ (.slice A2 2 k2)) W1.heap.size w2.heap.size A2 [kT, nT] from ht2.set (by show w1.heap.size < W1.heap.size; omega) _)
  have HB2 := Lib.hid ((HB1'.out.trans (hb2.mono (by omega))).setCell (p := ⟨w1.heap.size, 0, none⟩) (by show w.heap.size ≤ w1.heap.size; omega) (.slice A2 2 k2))
  clear ht2 hb2 b1 f1 HT1' HB1'
  go_wp2_with fail
  obtain ⟨W2, hW2⟩ : ∃ y, y = w2.setCell ⟨w1.heap.size, 0, none⟩ (.slice A2 2 k2) := ⟨_, rfl⟩
  have e2 : W2.cell? ⟨w1.heap.size, 0, none⟩ = some (.slice A2 2 k2) := by rw [hW2]; exact World.cell?_setCell_same _ _ _ (by rw [b2])
  have g2 : W2.frozen? ⟨w1.heap.size, 0, none⟩ = false := by rw [hW2]; exact (World.frozen?_setCell _ _ _ _).trans f2
  have hzW2 : w2.heap.size ≤ W2.heap.size := by rw [hW2]; simp
  rw [← hW2] at HT2 HB2 ⊢
  clear hW2 b2 f2
  have c3 := implIntern_g A2 none W1.heap.size w2.heap.size [kT, nT] k2 sT 0 0 0 W2 HT2.out hzW2 (by simp) (by simp [bulk, kT, nT]) (bytes_nil _ _ _ _) (Nat.zero_le _) (by decide)
  rw [int_s.1, int_s.2] at c3
  refine c3.mono ?_
  intro e w3 h3
  obtain ⟨A3, k3, rfl, ht3, hb3⟩ := led_tms h3 3 rfl
  clear h3 c3
  have hz3 := hb3.size
  have b3 := (hb3.cell (p := ⟨w1.heap.size, 0, none⟩) (by show w1.heap.size < _; omega)).trans e2
  have f3 := (hb3.frozen (p := ⟨w1.heap.size, 0, none⟩) (by show w1.heap.size < _; omega)).trans g2
  have HT3 := Lib.hid (show TmsIn (w3.setCell ⟨w1.heap.size, 0, none⟩ (.slice A3 3 k3)) W2.heap.size w3.heap.size A3 [kT, nT, sT] from ht3.set (by show w1.heap.size < W2.heap.size; omega) _)
  have HB3 := Lib.hid ((HB2.out.trans (hb3.mono (by omega))).setCell (p := ⟨w1.heap.size, 0, none⟩) (by show w.heap.size ≤ w1.heap.size; omega) (.slice A3 3 k3))
  clear ht3 hb3 e2 g2 HT2 HB2
  go_wp2_with fail
  obtain ⟨W3, hW3⟩ : ∃ y, y = w3.setCell ⟨w1.heap.size, 0, none⟩ (.slice A3 3 k3) := ⟨_, rfl⟩
  have e3 : W3.cell? ⟨w1.heap.size, 0, none⟩ = some (.slice A3 3 k3) := by rw [hW3]; exact World.cell?_setCell_same _ _ _ (by rw [b3])
  have hzW3 : w3.heap.size ≤ W3.heap.size := by rw [hW3]; simp
  rw [← hW3] at HT3 HB3 ⊢
  clear hW3 b3 f3
  have c4 := implOpen_any (A := A3) (ts := [kT, nT, sT]) (c := k3) (L := W2.heap.size) (B := w3.heap.size) (key := 0) (id := 2) (w := W3) HT3.out hzW3 (by simp) (by simp [bulk, kT, nT, sT])
  rw [open_yes] at c4
  refine c4.mono ?_
  rintro e w4 ⟨rfl, hb4⟩
  have hz4 := hb4.size
  have b4 := (hb4.cell (p := ⟨w1.heap.size, 0, none⟩) (by show w1.heap.size < _; omega)).trans e3
  have HT4 := Lib.hid (HT3.out.keep fun p _ hp => hb4.cell (by omega))
  have HB4 := Lib.hid (HB3.out.trans (hb4.mono (by omega)))
  clear c4 hb4 e3 HT3 HB3
  go_wp2_with fail
  obtain ⟨W5, hW5⟩ : ∃ y, y = w4.alloc (.cells #[.int .i64 0, .int .i64 2] 3) := ⟨_, rfl⟩
  have hb5 : Below w4.heap.size w4 W5 := by rw [hW5]; exact (Below.refl _ _).alloc (Nat.le_refl _) _
  have HI5 := Lib.hid (show IntsIn W5 0 W5.heap.size (some ⟨w4.heap.size, 0, none⟩) [0, 2] from ints2_in (by rw [hW5]; simp) (by rw [hW5]; simp))
  have b5 := (hb5.cell (p := ⟨w1.heap.size, 0, none⟩) (by show w1.heap.size < _; omega)).trans b4
  have hz5 := hb5.size
  have HT5 := Lib.hid (HT4.out.keep fun p _ hp => hb5.cell (by omega))
  have HB5 := Lib.hid (HB4.out.trans (hb5.mono (by omega)))
  rw [← hW5]
  clear hW5 hb5 b4 HT4 HB4
  have c6 := implCan_any A3 [kT, nT, sT] k3 W2.heap.size w3.heap.size (some ⟨w4.heap.size, 0, none⟩) [0, 2] 2 1 W5 (wfI_of (by decide) (by decide)) HT5.out (by omega) (by simp) (by simp [bulk, kT, nT, sT]) HI5.out (by simp)
  rw [can_yes] at c6
  refine c6.mono ?_
  rintro e w6 ⟨rfl, hb6⟩
  have hz6 := hb6.size
  have b6 := (hb6.cell (p := ⟨w1.heap.size, 0, none⟩) (by show w1.heap.size < _; omega)).trans b5
  have HT6 := Lib.hid (HT5.out.keep fun p _ hp => hb6.cell (by omega))
  have HB6 := Lib.hid (HB5.out.trans (hb6.mono (by omega)))
  clear c6 hb6 b5 HT5 HB5 HI5
  go_wp2_with fail
  obtain ⟨W7, hW7⟩ : ∃ y, y = w6.alloc (.cells #[.int .i64 2] 3) := ⟨_, rfl⟩
  have hb7 : Below w6.heap.size w6 W7 := by rw [hW7]; exact (Below.refl _ _).alloc (Nat.le_refl _) _
  have HI7 := Lib.hid (show IntsIn W7 0 W7.heap.size (some ⟨w6.heap.size, 0, none⟩) [2] from ints1_in (by rw [hW7]; simp))
  have b7 := (hb7.cell (p := ⟨w1.heap.size, 0, none⟩) (by show w1.heap.size < _; omega)).trans b6
  have hz7 := hb7.size
  have HT7 := Lib.hid (HT6.out.keep fun p _ hp => hb7.cell (by omega))
  have HB7 := Lib.hid (HB6.out.trans (hb7.mono (by omega)))
  rw [← hW7]
  clear hW7 hb7 b6 HT6 HB6
  have c8 := implCan_any A3 [kT, nT, sT] k3 W2.heap.size w3.heap.size (some ⟨w6.heap.size, 0, none⟩) [2] 1 1 W7 (wfI_of (by decide) (by decide)) HT7.out (by omega) (by simp) (by simp [bulk, kT, nT, sT]) HI7.out (by simp)
  rw [can_no] at c8
  refine c8.mono ?_
  rintro e w8 ⟨rfl, hb8⟩
  have hz8 := hb8.size
  have b8 := (hb8.cell (p := ⟨w1.heap.size, 0, none⟩) (by show w1.heap.size < _; omega)).trans b7
  have HT8 := Lib.hid (HT7.out.keep fun p _ hp => hb8.cell (by omega))
  have HB8 := Lib.hid (HB7.out.trans (hb8.mono (by omega)))
  clear c8 hb8 b7 HT7 HB7 HI7
  go_wp2_with fail
  have c9 := implLedgerOk_any A3 [kT, nT, sT] k3 W2.heap.size w3.heap.size w8 HT8.out (by omega) (by simp) (by simp [bulk, kT, nT, sT])
  rw [lokB_true lok_kns] at c9
  refine c9.mono ?_
  rintro e w9 ⟨rfl, hb9⟩
  have HB9 := Lib.hid (HB8.out.trans (hb9.mono (by omega)))
  clear c9 hb9
  go_wp2_with fail
  go_ret
  exact ⟨rfl, HB9.out⟩

end Go.Proofs.Ytigkojdchpjkcaa
