/-
  A new device: the program.
-/
import Derived.Test.YtgomdjhfdnbmdaaDnA
import Derived.Deep.CutRange
import Derived.Deep.RegionHeld3
namespace Go.Proofs.Ytgomdjhfdnbmdaa
open Go.RowKit Go.Maps

set_option maxRecDepth 100000 in
set_option maxHeartbeats 1000000 in
theorem inAlarm_none (id : Int) (w : World) :
    Calls Try.prog 55 #[.agg #[.int .i64 id, .int .i64 0, .int .i64 0, .int .i64 0, .int .i64 0, .slice none 0 0, .int .i64 0, .int .i64 0, .int .i64 0, .int .i64 0, .int .i64 0, .int .i64 0, .int .i64 0, .slice none 0 0, .int .i64 0, .int .i64 0, .int .i64 0, .int .i64 0, .int .i64 0, .int .i64 0, .int .i64 0, .int .i64 0, .slice none 0 0, .int .i64 0, .int .i64 0, .int .i64 0, .int .i64 0, .int .i64 0, .int .i64 0, .int .i64 0, .int .i64 0, .slice none 0 0, .int .i64 0, .int .i64 0, .int .i64 0, .int .i64 0, .int .i64 0, .int .i64 0, .int .i64 0, .int .i64 0, .slice none 0 0, .int .i64 0, .slice none 0 0]] w fun e w' => e = .returned (.bool false) ∧ Below w.heap.size w w' := by
  go_enter Try.func55, Try.ntmps55
  go_wp2_with fail
  go_ret
  exact ⟨rfl, (Below.refl _ _).alloc (Nat.le_refl _) _⟩

/-- A box that may be written. -/
def BxF (w : World) (b : Nat) (l : List Value) : Prop := Bx w b l ∧ (∀ o, w.frozen? ⟨b, o, none⟩ = false) ∧ b < w.heap.size
theorem bxF_below {w w' : World} {b : Nat} {l : List Value} (h : BxF w b l) (hb : Below w.heap.size w w') : BxF w' b l :=
  ⟨h.1.below hb h.2.2, fun o => (hb.frozen (p := ⟨b, o, none⟩) h.2.2).trans (h.2.1 o), Nat.lt_of_lt_of_le h.2.2 hb.size⟩
theorem bxF_at {X : World} {v0 v1 v2 v3 v4 v5 : Value} {t : TypeId} : BxF (X.alloc (.cells #[v0, v1, v2, v3, v4, v5] t)) X.heap.size [v0, v1, v2, v3, v4, v5] :=
  ⟨Bx.new' _ _ _ _ rfl, fun o => ((Fresh.refl X).alloc _ _) ⟨X.heap.size, o, none⟩ (Nat.le_refl _), by simp⟩
theorem bxF_new {X wt : World} {v0 v1 v2 v3 v4 v5 : Value} {t : TypeId} (h : Below (X.alloc (.cells #[v0, v1, v2, v3, v4, v5] t)).drew.heap.size (X.alloc (.cells #[v0, v1, v2, v3, v4, v5] t)).drew wt) : BxF wt X.heap.size [v0, v1, v2, v3, v4, v5] :=
  bxF_below bxF_at ((Below.refl _ _).drew.trans h)
theorem bxF_new' {X wt : World} {v0 v1 v2 v3 v4 v5 : Value} {t : TypeId} (h : Below (X.alloc (.cells #[v0, v1, v2, v3, v4, v5] t)).heap.size (X.alloc (.cells #[v0, v1, v2, v3, v4, v5] t)) wt) : BxF wt X.heap.size [v0, v1, v2, v3, v4, v5] :=
  bxF_below bxF_at h
theorem bxF_cells {w : World} {b : Nat} {v0 v1 v2 v3 v4 v5 : Value} (h : BxF w b [v0, v1, v2, v3, v4, v5]) :
    w.cell? ⟨b, 0, none⟩ = some v0 ∧ w.cell? ⟨b, 1, none⟩ = some v1 ∧ w.cell? ⟨b, 2, none⟩ = some v2 ∧ w.cell? ⟨b, 3, none⟩ = some v3 ∧ w.cell? ⟨b, 4, none⟩ = some v4 ∧ w.cell? ⟨b, 5, none⟩ = some v5 ∧
    w.frozen? ⟨b, 0, none⟩ = false ∧ w.frozen? ⟨b, 1, none⟩ = false ∧ w.frozen? ⟨b, 2, none⟩ = false ∧ w.frozen? ⟨b, 3, none⟩ = false ∧ w.frozen? ⟨b, 4, none⟩ = false ∧ w.frozen? ⟨b, 5, none⟩ = false :=
  ⟨h.1 0 (by simp), h.1 1 (by simp), h.1 2 (by simp), h.1 3 (by simp), h.1 4 (by simp), h.1 5 (by simp), h.2.1 0, h.2.1 1, h.2.1 2, h.2.1 3, h.2.1 4, h.2.1 5⟩

/-- Where the new box lies, and the tree. -/
def RelO (id : Int) (W : World) (s : Value) (X : World) : Prop :=
  ∃ (b : Nat) (AV : Option Addr) (cv : Nat) (A : Option Addr) (c L1 B1 : Nat), s = .pointer (some ⟨b, 0, none⟩) ∧ W.heap.size ≤ b ∧ BxF X b [.int .i64 id, .slice AV 4 cv, .slice A 0 c, .slice none 0 0, .bool false, .slice none 0 0] ∧ W.heap.size ≤ L1 ∧ B1 ≤ X.heap.size ∧ L1 ≤ B1 ∧ (b < L1 ∨ B1 ≤ b) ∧ TrOwn X L1 B1 AV [0, 0, 0, 0] A [] ∧ Below W.heap.size W X
theorem bxF_put {X : World} {b : Nat} {us vs : List Value} (h : BxF X b us) (hl : vs.length = us.length) : BxF (putAll b 0 vs X) b vs :=
  ⟨putAll_bx h.1 hl, fun o => (putAll_frozen _).trans (h.2.1 o), by rw [putAll_size]; exact h.2.2⟩
theorem relO_put {id : Int} {W wt wi : World} {b L1 : Nat} {AV A : Option Addr} {cv c : Nat} (hO : TrOwn wt L1 wt.heap.size AV [0, 0, 0, 0] A []) (hti : Below wt.heap.size wt wi) (hq : BxF wi b [.int .i64 0, .slice none 0 0, .slice none 0 0, .slice none 0 0, .bool false, .slice none 0 0]) (hb : W.heap.size ≤ b) (hL : W.heap.size ≤ L1) (hLt : L1 ≤ wt.heap.size) (hap : b < L1 ∨ wt.heap.size ≤ b) (hB : Below W.heap.size W wi) :
    RelO id W (.pointer (some ⟨b, 0, none⟩)) (putAll b 0 [.int .i64 id, .slice AV 4 cv, .slice A 0 c, .slice none 0 0, .bool false, .slice none 0 0] wi) :=
  ⟨b, AV, cv, A, c, L1, wt.heap.size, rfl, hb, bxF_put hq rfl, hL, by rw [putAll_size]; exact hti.size, hLt, hap, hO.keep fun p hp hq' => ⟨(putAll_other (by omega)).trans (hti.cell hq'), (putAll_frozen _).trans (hti.frozen hq')⟩, putAll_below hB hb⟩
theorem relO_new {id : Int} {W wt wi : World} {L1 : Nat} {AV A : Option Addr} {cv c : Nat} {t : TypeId} (hO : TrOwn wt L1 wt.heap.size AV [0, 0, 0, 0] A []) (hti : Below wt.heap.size wt wi) (hL : W.heap.size ≤ L1) (hLt : L1 ≤ wt.heap.size) (hB : Below W.heap.size W wi) :
    RelO id W (.pointer (some ⟨wi.heap.size, 0, none⟩)) (wi.alloc (.cells #[.int .i64 id, .slice AV 4 cv, .slice A 0 c, .slice none 0 0, .bool false, .slice none 0 0] t)) := by
  have h1 := hti.size
  have h2 := hB.size
  have h3 : Below wi.heap.size wi (wi.alloc (.cells #[.int .i64 id, .slice AV 4 cv, .slice A 0 c, .slice none 0 0, .bool false, .slice none 0 0] t)) := (Below.refl _ _).alloc (Nat.le_refl _) _
  refine ⟨wi.heap.size, AV, cv, A, c, L1, wt.heap.size, rfl, by omega, bxF_at, hL, by simp; omega, hLt, .inr h1, hO.keep fun p hp hq => ?_, hB.trans (h3.mono h2)⟩
  exact ⟨(h3.cell (by omega)).trans (hti.cell hq), (h3.frozen (by omega)).trans (hti.frozen hq)⟩

attribute [local simp ↓] la43_name lv43_name la36_name lv36_name

set_option maxRecDepth 100000 in
set_option maxHeartbeats 1000000 in
theorem outZ_any (id : Int) (w : World) :
    Calls Try.prog 35 #[.agg #[.int .i64 id, .int .i64 0, .int .i64 0, .int .i64 0, .int .i64 0, .slice none 0 0, .int .i64 0, .int .i64 0, .int .i64 0, .int .i64 0, .int .i64 0, .int .i64 0, .int .i64 0, .slice none 0 0, .int .i64 0, .int .i64 0, .int .i64 0, .int .i64 0, .int .i64 0, .int .i64 0, .int .i64 0, .int .i64 0, .slice none 0 0, .int .i64 0, .int .i64 0, .int .i64 0, .int .i64 0, .int .i64 0, .int .i64 0, .int .i64 0, .int .i64 0, .slice none 0 0, .int .i64 0, .int .i64 0, .int .i64 0, .int .i64 0, .int .i64 0, .int .i64 0, .int .i64 0, .int .i64 0, .slice none 0 0, .int .i64 0, .slice none 0 0]] w (NewDv id [0, 0, 0, 0] [] [] false [] w) := by
  have HTo := Lib.hid (fun X => outNil_any 0 0 0 0 X)
  have HIn := Lib.hid (show ∀ X, Calls Try.prog 55 #[.agg (d43 id).toArray] X fun e w' => e = .returned (.bool false) ∧ Below X.heap.size X w' from fun X => inAlarm_none id X)
  go_enter Try.func35, Try.ntmps35
  go_upto_region 1 with fail
  obtain ⟨W1_0, hW1_0⟩ : ∃ x, x = w.alloc (.cells #[.int .i64 id, .int .i64 0, .int .i64 0, .int .i64 0, .int .i64 0, .slice none 0 0, .int .i64 0, .int .i64 0, .int .i64 0, .int .i64 0, .int .i64 0, .int .i64 0, .int .i64 0, .slice none 0 0, .int .i64 0, .int .i64 0, .int .i64 0, .int .i64 0, .int .i64 0, .int .i64 0, .int .i64 0, .int .i64 0, .slice none 0 0, .int .i64 0, .int .i64 0, .int .i64 0, .int .i64 0, .int .i64 0, .int .i64 0, .int .i64 0, .int .i64 0, .slice none 0 0, .int .i64 0, .int .i64 0, .int .i64 0, .int .i64 0, .int .i64 0, .int .i64 0, .int .i64 0, .int .i64 0, .slice none 0 0, .int .i64 0, .slice none 0 0] 71) := ⟨_, rfl⟩
  obtain ⟨W1_1, hW1_1⟩ : ∃ x, x = W1_0.alloc (.cells #[.int .i64 0, .slice none 0 0, .slice none 0 0, .slice none 0 0, .bool false, .slice none 0 0] 36) := ⟨_, rfl⟩
  have hZ1_0 : W1_0.heap.size = w.heap.size + 1 := by rw [hW1_0]; simp
  have hZ1_1 : W1_1.heap.size = w.heap.size + 2 := by rw [hW1_1]; simp [hZ1_0]
  have hx0 : Bx W1_0 (w.heap.size) [.int .i64 id, .int .i64 0, .int .i64 0, .int .i64 0, .int .i64 0, .slice none 0 0, .int .i64 0, .int .i64 0, .int .i64 0, .int .i64 0, .int .i64 0, .int .i64 0, .int .i64 0, .slice none 0 0, .int .i64 0, .int .i64 0, .int .i64 0, .int .i64 0, .int .i64 0, .int .i64 0, .int .i64 0, .int .i64 0, .slice none 0 0, .int .i64 0, .int .i64 0, .int .i64 0, .int .i64 0, .int .i64 0, .int .i64 0, .int .i64 0, .int .i64 0, .slice none 0 0, .int .i64 0, .int .i64 0, .int .i64 0, .int .i64 0, .int .i64 0, .int .i64 0, .int .i64 0, .int .i64 0, .slice none 0 0, .int .i64 0, .slice none 0 0] := by rw [hW1_0]; exact Bx.new' _ _ _ _ rfl
  replace hx0 : Bx W1_1 (w.heap.size) [.int .i64 id, .int .i64 0, .int .i64 0, .int .i64 0, .int .i64 0, .slice none 0 0, .int .i64 0, .int .i64 0, .int .i64 0, .int .i64 0, .int .i64 0, .int .i64 0, .int .i64 0, .slice none 0 0, .int .i64 0, .int .i64 0, .int .i64 0, .int .i64 0, .int .i64 0, .int .i64 0, .int .i64 0, .int .i64 0, .slice none 0 0, .int .i64 0, .int .i64 0, .int .i64 0, .int .i64 0, .int .i64 0, .int .i64 0, .int .i64 0, .int .i64 0, .slice none 0 0, .int .i64 0, .int .i64 0, .int .i64 0, .int .i64 0, .int .i64 0, .int .i64 0, .int .i64 0, .int .i64 0, .slice none 0 0, .int .i64 0, .slice none 0 0] := by rw [hW1_1]; exact hx0.alloc (by omega) _
  have hx1 : Bx W1_1 (w.heap.size + 1) [.int .i64 0, .slice none 0 0, .slice none 0 0, .slice none 0 0, .bool false, .slice none 0 0] := by rw [hW1_1, ← hZ1_0]; exact Bx.new' _ _ _ _ rfl
  have hb0 : Below w.heap.size w W1_1 := by rw [hW1_1, hW1_0]; exact (((Below.refl _ _).alloc (by first | exact Nat.le_refl _ | (simp; done) | (simp; omega)) _).alloc (by first | exact Nat.le_refl _ | (simp; done) | (simp; omega)) _)
  have hf1 : ∀ o, W1_1.frozen? ⟨w.heap.size + 1, o, none⟩ = false := fun o => by rw [hW1_1, hW1_0]; exact (((Fresh.refl w).alloc _ _).alloc _ _) ⟨w.heap.size + 1, o, none⟩ (by show w.heap.size ≤ w.heap.size + 1; omega)
  have hlt : w.heap.size + 1 < W1_1.heap.size := by omega
  rw [← hW1_0, ← hW1_1]
  clear hW1_0 hZ1_0 hW1_1 hZ1_1
  have z_2 := hb0.size
  have Hbel_3 := Lib.hid (hb0)
  have HD_4 := Lib.hid (hx0)
  have HR_5 := Lib.hid (hx1)
  have HRF_6 := Lib.hid (hf1)
  clear hf1
  clear hb0 hx0 hx1
  have hl_7 := hlt
  clear hlt
  have hlD : w.heap.size < W1_1.heap.size := by omega
  have HRg := Lib.hid (show W1_1.rangeAt w.heap.size 0 (d43 id) from bx_range HD_4.out)
  have HCell := Lib.hid (show ∀ X, Below W1_1.heap.size W1_1 X → X.rangeAt w.heap.size 0 (d43 id) ∧ X.cell? ⟨w.heap.size, 0, none⟩ = some (.int .i64 id) ∧ X.cell? ⟨w.heap.size, 1, none⟩ = some (.int .i64 0) ∧ X.cell? ⟨w.heap.size, 2, none⟩ = some (.int .i64 0) ∧ X.cell? ⟨w.heap.size, 3, none⟩ = some (.int .i64 0) ∧ X.cell? ⟨w.heap.size, 4, none⟩ = some (.int .i64 0) ∧ X.cell? ⟨w.heap.size, 5, none⟩ = some (.slice none 0 0) from fun X hX => ⟨range_below HRg.out hX hlD, (hX.cell (p := ⟨w.heap.size, 0, none⟩) hlD).trans (HD_4.out 0 (by simp)), (hX.cell (p := ⟨w.heap.size, 1, none⟩) hlD).trans (HD_4.out 1 (by simp)), (hX.cell (p := ⟨w.heap.size, 2, none⟩) hlD).trans (HD_4.out 2 (by simp)), (hX.cell (p := ⟨w.heap.size, 3, none⟩) hlD).trans (HD_4.out 3 (by simp)), (hX.cell (p := ⟨w.heap.size, 4, none⟩) hlD).trans (HD_4.out 4 (by simp)), (hX.cell (p := ⟨w.heap.size, 5, none⟩) hlD).trans (HD_4.out 5 (by simp))⟩)
  have HA43 : ∀ X : World, X.rangeAt w.heap.size 0 (d43 id) → (LA43 (.pointer (some ⟨w.heap.size, 0, none⟩))).run Try.prog X = .ok (.agg (d43 id).toArray) X := fun X h => la43_run h
  have HV43 : ∀ X : World, X.rangeAt w.heap.size 0 (d43 id) → (LV43 ⟨w.heap.size, 0, none⟩).run Try.prog X = .ok (.agg (d43 id).toArray) X := fun X h => lv43_run h
  go_cut [3] from 8 to 15 (fun s3 wx => RelO id W1_1 s3 wx)
  case first =>
    go_region_held3 (fun X => X.rangeAt w.heap.size 0 (d43 id) ∧ X.cell? ⟨w.heap.size, 0, none⟩ = some (.int .i64 id) ∧ X.cell? ⟨w.heap.size, 1, none⟩ = some (.int .i64 0) ∧ X.cell? ⟨w.heap.size, 2, none⟩ = some (.int .i64 0) ∧ X.cell? ⟨w.heap.size, 3, none⟩ = some (.int .i64 0) ∧ X.cell? ⟨w.heap.size, 4, none⟩ = some (.int .i64 0) ∧ X.cell? ⟨w.heap.size, 5, none⟩ = some (.slice none 0 0))
      (first | (refine HCell.out _ ?_; repeat first | with_reducible exact Below.refl _ _ | with_reducible exact hbi | with_reducible exact hbt | with_reducible apply Below.drew | with_reducible refine Below.setCell ?_ (by first | exact Nat.le_refl _ | (simp; done) | (simp; omega) | omega) _ | with_reducible refine Below.alloc ?_ (by first | exact Nat.le_refl _ | (simp; done) | (simp; omega) | omega) _))
      (first
        | (go_at_call 54
           refine (HTo.out _).mono ?_
           rintro r wt ⟨AV, cv, A, c, rfl, hown, hlt, hbt0⟩
           have hbt : Below W1_1.heap.size W1_1 wt := Below.trans (by repeat first | with_reducible exact Below.refl _ _ | with_reducible exact hbi | with_reducible exact hbt | with_reducible apply Below.drew | with_reducible refine Below.setCell ?_ (by first | exact Nat.le_refl _ | (simp; done) | (simp; omega) | omega) _ | with_reducible refine Below.alloc ?_ (by first | exact Nat.le_refl _ | (simp; done) | (simp; omega) | omega) _) (hbt0.mono (by first | exact Nat.le_refl _ | (simp; done) | (simp; omega)))
           have hzt := hbt.size
           have HOt := Lib.hid hown
           try first | have hq := bxF_new hbt0 | have hq := bxF_new' hbt0)
        | (go_at_call 55
           refine (HIn.out _).mono ?_
           rintro r wi ⟨rfl, hbi0⟩
           have hbi : Below W1_1.heap.size W1_1 wi := Below.trans (by repeat first | with_reducible exact Below.refl _ _ | with_reducible exact hbi | with_reducible exact hbt | with_reducible apply Below.drew | with_reducible refine Below.setCell ?_ (by first | exact Nat.le_refl _ | (simp; done) | (simp; omega) | omega) _ | with_reducible refine Below.alloc ?_ (by first | exact Nat.le_refl _ | (simp; done) | (simp; omega) | omega) _) (hbi0.mono (by first | exact Nat.le_refl _ | exact hbt.size | (simp; done) | (simp; have := hbt.size; omega)))
           have hzi := hbi.size
           have hti : Below wt.heap.size wt wi := Below.trans (by repeat first | with_reducible exact Below.refl _ _ | with_reducible apply Below.drew | with_reducible refine Below.alloc ?_ (by first | exact Nat.le_refl _ | (simp; done) | (simp; omega) | omega) _) (hbi0.mono (by first | exact Nat.le_refl _ | (simp; done) | (simp; omega)))
           have hzti := hti.size
           try replace hq := bxF_below hq hti
           try first | have hq := bxF_new hbi0 | have hq := bxF_new' hbi0
           try (have hz := bxF_cells hq; obtain ⟨q0, q1, q2, q3, q4, q5, k0, k1, k2, k3, k4, k5⟩ := hz)))
    all_goals go_wp2_with fail
    all_goals go_meet
    · exact relO_new hown hti (by first | exact Nat.le_refl _ | (simp; done) | (simp; omega)) (Nat.le_of_lt hlt) hbi
    · have hr := relO_put (id := id) (cv := cv) (c := c) hown hti hq (by omega) (by first | exact Nat.le_refl _ | (simp; done) | (simp; omega)) (Nat.le_of_lt hlt) (.inr (Nat.le_refl _)) hbi
      simp only [putAll] at hr
      exact hr
    · have hr := relO_put (id := id) (cv := cv) (c := c) hown hti hq (Nat.le_refl _) (by first | exact Nat.le_refl _ | (simp; done) | (simp; omega)) (Nat.le_of_lt hlt) (.inl (by simp)) hbi
      simp only [putAll] at hr
      exact hr
  case rest =>
    obtain ⟨b, AV, cv, A, c, L1, B1, rfl, hb1, hbx, hL1, hB1, hLB, hap, hT, hbel⟩ := hcut
    rename World => W4
    have lb := hbx.2.2
    clear HTo HIn HCell
    have z_8 := hbel.size
    have Hbel_9 := Lib.hid (Hbel_3.out.trans (hbel.mono (by omega)))
    have HR_10 := Lib.hid (HR_5.out.below hbel (by omega))
    have HRF_11 := Lib.hid (show ∀ o, W4.frozen? ⟨w.heap.size + 1, o, none⟩ = false from fun o => (hbel.frozen (p := ⟨w.heap.size + 1, o, none⟩) (by show w.heap.size + 1 < _; omega)).trans (HRF_6.out o))
    clear Hbel_3 HD_4 HR_5 HRF_6
    have HO_12 := Lib.hid (hbx.1)
    have Htr_13 := Lib.hid (hT)
    have Hrg_14 := Lib.hid (range_below HRg.out hbel (by omega))
    clear hbel hT hbx HRg HA43 HV43
    have hrd := z36_of Hrg_14.out
    have HA36 : (LA36 (.pointer (some ⟨w.heap.size, 6, none⟩))).run Try.prog W4 = .ok (.agg z36.toArray) W4 := la36_run hrd
    have HV36 : (LV36 ⟨w.heap.size, 6, none⟩).run Try.prog W4 = .ok (.agg z36.toArray) W4 := lv36_run hrd
    clear hrd
    go_wp2_with fail
    clear HA36 HV36
    go_loopw [18] (fun i wr => ∃ k : Nat, k ≤ 4 ∧ i = .int .i64 k ∧ Below W4.heap.size W4 wr) (fun i _ => 4 - (intOf i).toNat)
    case atStart => exact ⟨0, by omega, rfl, Below.refl _ _⟩
    case round =>
      obtain ⟨k, hk, rfl, hbel⟩ := hrel
      by_cases hlt : k < 4
      · have hix := ix36 k hlt
        unfold z9 at hix
        have HB := Lib.hid hbel
        have hzk := hbel.size
        clear hbel
        go_wp2_with fail
        go_roundw
        case rel => exact ⟨k + 1, by omega, by go_num, HB.out.alloc (by first | exact hzk | (simp; omega)) _⟩
        case measure => simp [intOf]; omega
      · have hke : k = 4 := by omega
        subst hke
        have z_15 := hbel.size
        have Hbel_16 := Lib.hid (Hbel_9.out.trans (hbel.mono (by omega)))
        have HR_17 := Lib.hid (HR_10.out.below hbel (by omega))
        have HRF_18 := Lib.hid (show ∀ o, wr.frozen? ⟨w.heap.size + 1, o, none⟩ = false from fun o => (hbel.frozen (p := ⟨w.heap.size + 1, o, none⟩) (by show w.heap.size + 1 < _; omega)).trans (HRF_11.out o))
        have HO_19 := Lib.hid (HO_12.out.below hbel (by omega))
        have Htr_20 := Lib.hid (show TrOwn wr L1 B1 AV [0, 0, 0, 0] A [] from Htr_13.out.keep fun p hp hq => ⟨hbel.cell (by omega), hbel.frozen (by omega)⟩)
        have Hrg_21 := Lib.hid (show wr.rangeAt w.heap.size 0 (d43 id) from range_below Hrg_14.out hbel (by omega))
        clear Hbel_9 HR_10 HRF_11 HO_12 Htr_13 Hrg_14
        clear hbel
        have hp := Hrg_21.out 42 (.slice none 0 0) rfl
        simp only [Nat.zero_add] at hp
        go_wp2_with fail
        clear hp
        go_loopw [36] (fun i w2 => i = .int .i64 0 ∧ w2 = wr) (fun _ _ => 0)
        case atStart => exact ⟨rfl, rfl⟩
        case round =>
          obtain ⟨rfl, rfl⟩ := hrel
          have qO_0 := HO_19.out 0 (by simp)
          have qO_1 := HO_19.out 1 (by simp)
          have qO_2 := HO_19.out 2 (by simp)
          have qO_3 := HO_19.out 3 (by simp)
          have qO_4 := HO_19.out 4 (by simp)
          have qO_5 := HO_19.out 5 (by simp)
          have lO : b < wr.heap.size := by omega
          have qR_0 := HR_17.out 0 (by simp)
          have qR_1 := HR_17.out 1 (by simp)
          have qR_2 := HR_17.out 2 (by simp)
          have qR_3 := HR_17.out 3 (by simp)
          have qR_4 := HR_17.out 4 (by simp)
          have qR_5 := HR_17.out 5 (by simp)
          have lR : w.heap.size + 1 < wr.heap.size := by omega
          have fRF_0 := HRF_18.out 0
          have fRF_1 := HRF_18.out 1
          have fRF_2 := HRF_18.out 2
          have fRF_3 := HRF_18.out 3
          have fRF_4 := HRF_18.out 4
          have fRF_5 := HRF_18.out 5
          simp only [List.getElem_cons_succ, List.getElem_cons_zero] at qO_0 qO_1 qO_2 qO_3 qO_4 qO_5 qR_0 qR_1 qR_2 qR_3 qR_4 qR_5
          go_wp2_with fail
          clear qO_0 qO_1 qO_2 qO_3 qO_4 qO_5 lO qR_0 qR_1 qR_2 qR_3 qR_4 qR_5 lR fRF_0 fRF_1 fRF_2 fRF_3 fRF_4 fRF_5
          clear Hrg_21 HO_19
          obtain ⟨w9, hW22⟩ : ∃ x, x = putAll (w.heap.size + 1) 0 [.int .i64 id, .slice AV 4 cv, .slice A 0 c, .slice none 0 0, .bool false, .slice none 0 0] wr := ⟨_, rfl⟩
          have hs22 : w9.heap.size = wr.heap.size := by rw [hW22]; exact putAll_size
          have Hbel_23 := Lib.hid (show Below w.heap.size w w9 by rw [hW22]; exact putAll_below Hbel_16.out (by omega))
          have HR_24 := Lib.hid (show Bx w9 (w.heap.size + 1) [.int .i64 id, .slice AV 4 cv, .slice A 0 c, .slice none 0 0, .bool false, .slice none 0 0] by rw [hW22]; have hq := HR_17.out.put 0 [.int .i64 id, .slice AV 4 cv, .slice A 0 c, .slice none 0 0, .bool false, .slice none 0 0] (by simp); simpa using hq)
          have HRF_25 := Lib.hid (show ∀ o, w9.frozen? ⟨w.heap.size + 1, o, none⟩ = false from fun o => by rw [hW22]; exact (putAll_frozen _).trans (HRF_18.out o))
          have Htr_26 := Lib.hid (show TrOwn w9 L1 B1 AV [0, 0, 0, 0] A [] by rw [hW22]; exact Htr_20.out.keep fun p hp hq => ⟨putAll_other (by omega), putAll_frozen _⟩)
          simp only [putAll] at hW22
          rw [← hW22]
          have z_27 : wr.heap.size ≤ w9.heap.size := Nat.le_of_eq hs22.symm
          clear hW22 hs22 Hbel_16 HR_17 HRF_18 Htr_20
          have qR_0 := HR_24.out 0 (by simp)
          have qR_1 := HR_24.out 1 (by simp)
          have qR_2 := HR_24.out 2 (by simp)
          have qR_3 := HR_24.out 3 (by simp)
          have qR_4 := HR_24.out 4 (by simp)
          have qR_5 := HR_24.out 5 (by simp)
          have lR : w.heap.size + 1 < w9.heap.size := by omega
          simp only [List.getElem_cons_succ, List.getElem_cons_zero] at qR_0 qR_1 qR_2 qR_3 qR_4 qR_5
          refine bodyPost_ret (v := .agg #[.int .i64 id, .slice AV 4 cv, .slice A 0 c, .slice none 0 0, .bool false, .slice none 0 0]) (by simp [results, Try.results35, qR_0, qR_1, qR_2, qR_3, qR_4, qR_5, go_sem]) rfl ⟨AV, cv, A, c, none, 0, none, 0, rfl, dv_tree Htr_26.out (by omega) (by omega) hLB, by omega, Hbel_23.out⟩


end Go.Proofs.Ytgomdjhfdnbmdaa
