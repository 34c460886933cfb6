/-
  UsesOf: the model's and the program's answer alike.
-/
import Derived.Test.YtigkojdchpjkcaaKeysOf
namespace Go.Proofs.Ytigkojdchpjkcaa
open Go.RowKit Go.Maps

/-- Is id among the numbers l? -/
def amongB (l : List Int) (id : Int) : Bool := l.any fun p => p == id
theorem amongB_succ (l : List Int) (id : Int) (j : Nat) (hj : j < l.length) : amongB (l.take (j + 1)) id = (amongB (l.take j) id || (l[j] == id)) := by
  unfold amongB
  rw [List.take_succ_eq_append_getElem hj, List.any_append]
  simp

def usesB (ts : List Tm) (id : Int) (j : Nat) : Bool := amongB (partsV (tmAt ts j)) id
/-- What UsesOf answers. -/
noncomputable def usesV (ts : List Tm) (id : Int) : List Int := if lokB ts = true then pick (usesB ts id) ts.length else []
theorem usesV_length (ts : List Tm) (id : Int) : (usesV ts id).length ≤ ts.length := by
  unfold usesV
  split
  · exact pick_length _ _
  · simp

theorem partsV_length (t : Tm) : (partsV t).length ≤ 2 := by unfold partsV; split <;> (try split) <;> simp

/-- The marks at the head of round k, where its own is x. -/
def uRow (f : Nat → Bool) (k : Nat) (x : Bool) (j : Nat) : Value := .bool (if j < k then f j else if j = k then x else false)
theorem uRow_self {f : Nat → Bool} {k : Nat} {x : Bool} : uRow f k x k = .bool x := by simp [uRow]
theorem uRow_set (f : Nat → Bool) (k : Nat) (x x' : Bool) (j : Nat) : (if j = k then Value.bool x' else uRow f k x j) = uRow f k x' j := by
  unfold uRow
  by_cases h : j = k
  · subst h; simp
  · simp [h]
theorem uRow_next (f : Nat → Bool) (k j : Nat) : uRow f k (f k) j = uRow f (k + 1) false j := by
  unfold uRow
  by_cases h : j < k
  · simp [h, show j < k + 1 by omega]
  · by_cases h2 : j = k
    · subst h2; simp
    · simp [h, h2, show ¬ j < k + 1 by omega]

section
variable (A : Option Addr) (ts : List Tm) (c L B : Nat) (id : Int) (w : World)

set_option maxRecDepth 100000 in
set_option maxHeartbeats 1000000 in
theorem implUsesOf_any (hA : TmsIn w L B A ts) (hB : B ≤ w.heap.size) (hn : ts.length ≤ 1048576) (hbk : bulk ts ≤ 1048576) :
    Calls Try.prog 36 #[.agg #[.slice A ts.length c], .int .i64 id] w (NewIntsFr (usesV ts id) w) := by
  have HA := Lib.hid hA
  clear hA
  go_enter Try.func36, Try.ntmps36
  go_wp2_with fail
  have hb0 : Below w.heap.size w (w.alloc (.cells #[.slice A ts.length c] 25)) := (Below.refl _ _).alloc (Nat.le_refl _) _
  refine (readLedger_any A ts c L B _ (HA.out.keep fun p _ hp => hb0.cell (by omega)) (by simp; omega) hn hbk).mono ?_
  rintro e w1 (⟨hok, A1, c1, M, rfl, _, hbk1, _, hb1⟩ | ⟨hno, rfl, hb1⟩)
  · have HB := Lib.hid (hb0.trans (hb1.mono (by simp)))
    have HV := Lib.hid (show usesV ts id = pick (usesB ts id) ts.length by simp [usesV, lokB_true hok])
    have HOk := Lib.hid hok
    have HBk := Lib.hid hbk1
    have hmk := run_make_bools ts.length hn
    have hwz := HB.out.size
    clear hb0 hb1 hok hbk1
    go_wp2_with fail
    clear hmk
    obtain ⟨W2, hW2⟩ : ∃ W2, W2 = w1.alloc (.cells #[.slice A1 ts.length c1, .map (some M)] 64) := ⟨_, rfl⟩
    have hb2 : Below w1.heap.size w1 W2 := by subst hW2; exact (Below.refl _ _).alloc (Nat.le_refl _) _
    have d0 : W2.cell? ⟨w1.heap.size, 0, none⟩ = some (.slice A1 ts.length c1) := by subst hW2; simp
    have hs2 : w1.heap.size + 1 = W2.heap.size := by subst hW2; simp
    rw [← hW2, hs2]
    have HB2 := Lib.hid hb2
    clear hb2 hW2
    obtain ⟨R, hR⟩ : ∃ R, R = W2.heap.size := ⟨_, rfl⟩
    rw [← hR]
    have hwR : w1.heap.size < R := by omega
    go_loopw [26] (fun i wr => ∃ k : Nat, k ≤ ts.length ∧ i = .int .i64 k ∧ wr.rowIs R 4 ts.length (uRow (usesB ts id) k false) ∧ Below R W2 wr) (fun i _ => ts.length - (intOf i).toNat)
    case atStart =>
      subst hR
      exact ⟨0, Nat.zero_le _, rfl, (World.rowIs_made W2 _ _ _).congr (fun j _ => by simp [uRow]), (Below.refl _ _).alloc (Nat.le_refl _) _⟩
    case round =>
      clear hR hs2
      obtain ⟨k, hk, rfl, hrow, hbel⟩ := hrel
      have e0 := (hbel.cell (p := ⟨w1.heap.size, 0, none⟩) hwR).trans d0
      have HRow := Lib.hid hrow
      have HBel := Lib.hid hbel
      have hRlt := hrow.lt
      clear hrow hbel
      by_cases hlt : k < ts.length
      · obtain ⟨b, o, rfl, hL, hb, hc⟩ := HBk.out (by omega)
        have hck := (HBel.out.cell (p := ⟨b, o + k, none⟩) (by show b < R; omega)).trans ((HB2.out.cell (p := ⟨b, o + k, none⟩) hb).trans (hc k hlt))
        obtain ⟨hkl, hkind⟩ := kind_of_good (HOk.out.2 k hlt)
        obtain ⟨T, v, F, htv, hmeth, hcf, hcall⟩ := parts_invoke ts[k] hkind
        rw [htv] at hck
        clear htv hkind hc
        go_wp2_with fail
        refine (hcall wr).mono ?_
        rintro e w3 ⟨A2, c2, rfl, _, _, hints, hb2⟩
        have hlen2 := partsV_length ts[k]
        have HU := Lib.hid (show usesB ts id k = amongB (partsV ts[k]) id by unfold usesB; rw [tmAt_nat ts k hlt])
        have hrow2 := rowIs_below HRow.out hb2 hRlt
        have HRow2 := Lib.hid hrow2
        have HBel2 := Lib.hid (HBel.out.trans (hb2.mono (by omega)))
        have HInts := Lib.hid (hints.low (L' := R + 1) (by omega))
        generalize partsV ts[k] = l at *
        clear hrow2 hints hb2 hck hmeth hcf hcall e0
        go_wp2_with fail
        go_loopw [34] (fun y wi => ∃ j : Nat, j ≤ l.length ∧ y = .int .i64 j ∧ wi.rowIs R 4 ts.length (uRow (usesB ts id) k (amongB (l.take j) id)) ∧ IntsIn wi (R + 1) w3.heap.size A2 l ∧ Below R W2 wi) (fun y _ => l.length - (intOf y).toNat)
        case atStart => exact ⟨0, Nat.zero_le _, rfl, HRow2.out, HInts.out, HBel2.out⟩
        case round =>
          obtain ⟨j, hj, rfl, hrowj, hintsj, hbelj⟩ := hrel
          have HRowj := Lib.hid hrowj
          have HIntsj := Lib.hid hintsj
          have HBelj := Lib.hid hbelj
          have hk0 := (hrowj.cell (i := k) hlt).trans (congrArg some uRow_self)
          have hf0 := hrowj.frozen k
          by_cases hjl : j < l.length
          · obtain ⟨b2, o2, rfl, hL2, hlt2, hcell⟩ := hintsj (by omega)
            have hcj := hcell j hjl
            have HS := Lib.hid (amongB_succ l id j hjl)
            clear hrowj hintsj hbelj hcell
            cases hfb : amongB (l.take j) id with
            | true =>
              have HS' := Lib.hid (show amongB (l.take (j + 1)) id = true by rw [HS.out, hfb]; rfl)
              rw [hfb] at hk0
              clear hfb
              go_wp2_with fail
              go_roundw
              case rel =>
                refine ⟨j + 1, by omega, by go_num, ?_, HIntsj.out.keep fun p hp _ => World.cell?_setCell_other _ _ _ _ (by rintro rfl; simp at hp; omega), HBelj.out.setCell (Nat.le_refl _) _⟩
                exact (HRowj.out.set k _).congr fun x _ => by rw [uRow_set, HS'.out]
              case measure => simp [intOf]; omega
            | false =>
              have HS' := Lib.hid (show amongB (l.take (j + 1)) id = (l[j] == id) by rw [HS.out, hfb]; rfl)
              rw [hfb] at hk0
              clear hfb
              go_wp2_with fail
              go_roundw
              case rel =>
                refine ⟨j + 1, by omega, by go_num, ?_, HIntsj.out.keep fun p hp _ => World.cell?_setCell_other _ _ _ _ (by rintro rfl; simp at hp; omega), HBelj.out.setCell (Nat.le_refl _) _⟩
                exact (HRowj.out.set k _).congr fun x _ => by rw [uRow_set, HS'.out]
              case measure => simp [intOf]; omega
          · clear hrowj hintsj hbelj
            have hje : j = l.length := by omega
            have HX := Lib.hid (show amongB (l.take j) id = usesB ts id k by rw [HU.out, hje, List.take_length])
            clear hje
            go_wp2_with fail
            go_roundw
            case rel => exact ⟨k + 1, by omega, by go_num, HRowj.out.congr (fun x _ => by rw [HX.out, uRow_next]), HBelj.out⟩
            case measure => simp [intOf]; omega
      · have hke : k = ts.length := by omega
        have hrow := HRow.out.congr (g := fun j => .bool (usesB ts id j)) (fun j hj => by simp [uRow, show j < k by omega])
        have HRw := Lib.hid hrow
        clear hrow e0
        go_wp2_with fail
        refine (marked_any R ts.length (usesB ts id) wr HRw.out hn).mono ?_
        rintro e w4 ⟨A4, c4, rfl, hints, hb4⟩
        have HR := Lib.hid (show NewIntsFr (usesV ts id) w (.returned (.slice A4 (pick (usesB ts id) ts.length).length c4)) w4 from by
          rw [HV.out]
          have h1 := HB2.out.size
          have h2 := HBel.out.size
          exact ⟨A4, c4, rfl, hints.low (by omega), HB.out.trans ((HB2.out.mono (by omega)).trans ((HBel.out.mono (by omega)).trans (hb4.mono (by omega))))⟩)
        clear hints hb4
        go_wp2_with fail
        go_ret
        exact HR.out
  · have HB := Lib.hid (hb0.trans (hb1.mono (by simp)))
    have HV := Lib.hid (show usesV ts id = [] by simp [usesV, lokB_false hno])
    clear hb0 hb1 hno
    go_wp2_with fail
    all_goals go_ret
    all_goals (rw [HV.out]; exact .nil (HB.out.alloc HB.out.size _))
end

end Go.Proofs.Ytigkojdchpjkcaa
