/-
  KeysOf: the model's and the program's answer alike.
-/
import Derived.Test.YtigkojdchpjkcaaPick
namespace Go.Proofs.Ytigkojdchpjkcaa
open Go.RowKit Go.Maps

def isKey (ts : List Tm) (j : Nat) : Bool := (tmAt ts j).kind == 1
/-- What KeysOf answers. -/
noncomputable def keysV (ts : List Tm) : List Int := if lokB ts = true then pick (isKey ts) ts.length else []

theorem keysV_length (ts : List Tm) : (keysV ts).length ≤ ts.length := by
  unfold keysV
  split
  · exact pick_length _ _
  · simp

theorem hasKeyB_nat (ts : List Tm) (j : Nat) (h : j < ts.length) : hasKeyB ts j = isKey ts j := by
  unfold hasKeyB isKey tmAt
  rw [(hasB_iff ts.length j).2 ⟨by omega, by omega⟩]
  rfl

theorem NewIntsFr.nil {w w' : World} (hb : Below w.heap.size w w') : NewIntsFr [] w (.returned (.slice none 0 0)) w' :=
  ⟨none, 0, rfl, fun h => absurd h (by simp), hb⟩

section
variable (A : Option Addr) (ts : List Tm) (c L B : Nat) (w : World)

set_option maxRecDepth 100000 in
set_option maxHeartbeats 1000000 in
theorem implKeysOf_any (hA : TmsIn w L B A ts) (hB : B ≤ w.heap.size) (hn : ts.length ≤ 1048576) (hbk : bulk ts ≤ 1048576) :
    Calls Try.prog 37 #[.agg #[.slice A ts.length c]] w (NewIntsFr (keysV ts) w) := by
  have HA := Lib.hid hA
  clear hA
  go_enter Try.func37, Try.ntmps37
  go_wp2_with fail
  have hb0 : Below w.heap.size w (w.alloc (.cells #[.slice A ts.length c] 25)) := (Below.refl _ _).alloc (Nat.le_refl _) _
  refine (readLedger_any A ts c L B _ (HA.out.keep fun p _ hp => hb0.cell (by omega)) (by simp; omega) hn hbk).mono ?_
  rintro e w1 (⟨hok, A1, c1, M, rfl, _, hbk1, _, hb1⟩ | ⟨hno, rfl, hb1⟩)
  · have HB := Lib.hid (hb0.trans (hb1.mono (by simp)))
    have HV := Lib.hid (show keysV ts = pick (isKey ts) ts.length by simp [keysV, lokB_true hok])
    have HBk := Lib.hid hbk1
    have hmk := run_make_bools ts.length hn
    have hwz := HB.out.size
    clear hb0 hb1 hok hbk1
    go_wp2_with fail
    clear hmk
    obtain ⟨W2, hW2⟩ : ∃ W2, W2 = w1.alloc (.cells #[.slice A1 ts.length c1, .map (some M)] 64) := ⟨_, rfl⟩
    have hb2 : Below w1.heap.size w1 W2 := by subst hW2; exact (Below.refl _ _).alloc (Nat.le_refl _) _
    have d0 : W2.cell? ⟨w1.heap.size, 0, none⟩ = some (.slice A1 ts.length c1) := by subst hW2; simp
    have d1 : W2.cell? ⟨w1.heap.size, 1, none⟩ = some (.map (some M)) := by subst hW2; simp
    have hs2 : w1.heap.size + 1 = W2.heap.size := by subst hW2; simp
    rw [← hW2, hs2]
    have HB2 := Lib.hid hb2
    clear hb2 hW2
    obtain ⟨R, hR⟩ : ∃ R, R = W2.heap.size := ⟨_, rfl⟩
    rw [← hR]
    have hwR : w1.heap.size < R := by omega
    go_loopw [20] (fun i wr => ∃ k : Nat, k ≤ ts.length ∧ i = .int .i64 k ∧ wr.rowIs R 4 ts.length (fun j => .bool (decide (j < k) && isKey ts j)) ∧ Below R W2 wr) (fun i _ => ts.length - (intOf i).toNat)
    case atStart =>
      subst hR
      exact ⟨0, Nat.zero_le _, rfl, (World.rowIs_made W2 _ _ _).congr (fun j _ => by simp), (Below.refl _ _).alloc (Nat.le_refl _) _⟩
    case round =>
      clear hR hs2
      obtain ⟨k, hk, rfl, hrow, hbel⟩ := hrel
      have e0 := (hbel.cell (p := ⟨w1.heap.size, 0, none⟩) hwR).trans d0
      have e1 := (hbel.cell (p := ⟨w1.heap.size, 1, none⟩) hwR).trans d1
      have HRow := Lib.hid hrow
      have HBel := Lib.hid hbel
      have hRlt := hrow.lt
      clear hrow hbel
      by_cases hlt : k < ts.length
      · go_wp2_with fail
        refine (hasKey_any A1 ts c1 _ w1.heap.size (some M) k wr (HBk.out.keep fun p _ hp => (HBel.out.cell (by omega)).trans (HB2.out.cell hp)) (by omega) hn).mono ?_
        rintro e w3 ⟨rfl, hb3⟩
        rw [hasKeyB_nat ts k hlt]
        have hrow3 := rowIs_below HRow.out hb3 hRlt
        have hk0 := hrow3.cell (i := k) hlt
        have hf0 := hrow3.frozen k
        have HRow3 := Lib.hid hrow3
        have HB3 := Lib.hid (HBel.out.trans (hb3.mono (by omega)))
        clear hrow3 hb3
        go_wp2_with fail
        go_roundw
        case rel =>
          refine ⟨k + 1, by omega, by go_num, (HRow3.out.set k _).congr (fun x _ => ?_), HB3.out.setCell (Nat.le_refl _) _⟩
          by_cases e : x = k
          · subst e; simp
          · by_cases e2 : x < k
            · simp [e, e2, show x < k + 1 by omega]
            · simp [e, e2, show ¬ x < k + 1 by omega]
        case measure => simp [intOf]; omega
      · have hke : k = ts.length := by omega
        have hrow := HRow.out.congr (g := fun j => .bool (isKey ts j)) (fun j hj => by simp [show j < k by omega])
        have HRw := Lib.hid hrow
        clear hrow e0 e1
        go_wp2_with fail
        refine (marked_any R ts.length (isKey ts) wr HRw.out hn).mono ?_
        rintro e w4 ⟨A4, c4, rfl, hints, hb4⟩
        have HR := Lib.hid (show NewIntsFr (keysV ts) w (.returned (.slice A4 (pick (isKey ts) ts.length).length c4)) w4 from by
          rw [HV.out]
          have h1 := HB2.out.size
          have h2 := HBel.out.size
          exact ⟨A4, c4, rfl, hints.low (by omega), HB.out.trans ((HB2.out.mono (by omega)).trans ((HBel.out.mono (by omega)).trans (hb4.mono (by omega))))⟩)
        clear hints hb4
        go_wp2_with fail
        go_ret
        exact HR.out
  · have HB := Lib.hid (hb0.trans (hb1.mono (by simp)))
    have HV := Lib.hid (show keysV ts = [] by simp [keysV, lokB_false hno])
    clear hb0 hb1 hno
    go_wp2_with fail
    all_goals go_ret
    all_goals (rw [HV.out]; exact .nil (HB.out.alloc HB.out.size _))
end

end Go.Proofs.Ytigkojdchpjkcaa
