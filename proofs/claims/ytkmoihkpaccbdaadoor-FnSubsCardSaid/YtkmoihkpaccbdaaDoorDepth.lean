/-
  Depth: the model's and the program's answer alike.
-/
import Derived.Test.YtkmoihkpaccbdaaDoorDepthV
namespace Go.Proofs.YtkmoihkpaccbdaaDoor
open Go.RowKit Go.Maps

section
variable (A : Option Addr) (ts : List Tm) (c L B : Nat) (id : Int) (w : World)

set_option maxRecDepth 100000 in
set_option maxHeartbeats 1000000 in
theorem implDepth_any (hA : TmsIn w L B A ts) (hB : B ≤ w.heap.size) (hn : ts.length ≤ 1048576) (hbk : bulk ts ≤ 1048576) :
    Calls Tryd.prog 7 #[.agg #[.slice A ts.length c], .int .i64 id] w fun e w' => e = .returned (.int .i64 (depthV ts id)) ∧ Below w.heap.size w w' := by
  have HA := Lib.hid hA
  clear hA
  go_enter Tryd.func7, Tryd.ntmps7
  go_wp2_with fail
  have hb0 : Below w.heap.size w (w.alloc (.cells #[.slice A ts.length c] 25)) := (Below.refl _ _).alloc (Nat.le_refl _) _
  refine (readLedger_any A ts c L B _ (HA.out.keep fun p _ hp => hb0.cell (by omega)) (by simp; omega) hn hbk).mono ?_
  rintro e w1 (⟨hok, A1, c1, M, rfl, _, hbk1, _, hb1⟩ | ⟨hno, rfl, hb1⟩)
  · have HB := Lib.hid (hb0.trans (hb1.mono (by simp)))
    have HK := Lib.hid (lokB_true hok)
    have HOk := Lib.hid hok
    have HBk := Lib.hid hbk1
    clear hb0 hb1 hok hbk1
    go_wp2_with fail
    have hb2 : Below w1.heap.size w1 (w1.alloc (.cells #[.slice A1 ts.length c1, .map (some M)] 47)) := (Below.refl _ _).alloc (Nat.le_refl _) _
    refine (has_any _ _ _ _ _ _).mono ?_
    rintro e w2 ⟨rfl, hb3⟩
    have d0 : w2.cell? ⟨w1.heap.size, 0, none⟩ = some (.slice A1 ts.length c1) := (hb3.cell (p := ⟨w1.heap.size, 0, none⟩) (by simp)).trans (by simp)
    have hz2 : w1.heap.size < w2.heap.size := by have := hb3.size; simp at this; omega
    have HB2 := Lib.hid (hb2.trans (hb3.mono (by simp)))
    clear hb2 hb3
    cases hh : hasB ts.length id with
    | false =>
      have HV := Lib.hid (show depthV ts id = -1 by simp [depthV, hh])
      clear hh
      go_wp2_with fail
      all_goals go_ret
      all_goals exact ⟨ret_int HV.out.symm, HB.out.trans (HB2.out.mono HB.out.size)⟩
    | true =>
      have hr := (hasB_iff _ _).1 hh
      obtain ⟨i, rfl⟩ := Int.eq_ofNat_of_zero_le hr.1
      have hi : i < ts.length := by omega
      have hi4 : ts.length ≤ 400 := HOk.out.1
      have HV := Lib.hid (show depthV ts i = (depths ts (i + 1)).getD i 0 by simp [depthV, HK.out, hh])
      obtain ⟨b, o, rfl, hL, hb, hc⟩ := HBk.out (by omega)
      have HC := Lib.hid hc
      have hmk := run_make_ints (i + 1) (by omega)
      rw [show ((i + 1 : Nat) : Int) = (i : Int) + 1 from rfl] at hmk
      have hwz := HB.out.size
      clear hh hr hc
      go_wp2_with fail
      clear hmk
      obtain ⟨R, hR⟩ : ∃ R, R = w2.heap.size := ⟨_, rfl⟩
      rw [← hR]
      have hwR : w1.heap.size < R := by omega
      go_loopw [29] (fun x wr => ∃ k : Nat, k ≤ i + 1 ∧ x = .int .i64 k ∧ wr.rowIs R 3 (i + 1) (dRow ts k 0) ∧ Below R w2 wr) (fun x _ => i + 1 - (intOf x).toNat)
      case atStart =>
        subst hR
        exact ⟨0, Nat.zero_le _, rfl, (World.rowIs_made w2 _ _ _).congr (fun j _ => (dRow_zero ts j).symm), (Below.refl _ _).alloc (Nat.le_refl _) _⟩
      case round =>
        clear hR
        obtain ⟨k, hk, rfl, hrow, hbel⟩ := hrel
        have e0 := (hbel.cell (p := ⟨w1.heap.size, 0, none⟩) (by show w1.heap.size < _; omega)).trans d0
        have HRow := Lib.hid hrow
        have HBel := Lib.hid hbel
        have hRlt := hrow.lt
        clear hrow hbel
        by_cases hlt : k < i + 1
        · have hck := (HBel.out.cell (p := ⟨b, o + k, none⟩) (by show b < R; omega)).trans ((HB2.out.cell (p := ⟨b, o + k, none⟩) hb).trans (HC.out k (by omega)))
          obtain ⟨hkl, hkind⟩ := kind_of_good (HOk.out.2 k (by omega))
          obtain ⟨T, v, F, htv, hmeth, hcf, hcall⟩ := parts_invoke ts[k] hkind
          rw [htv] at hck
          clear htv hkind
          go_wp2_with fail
          refine (hcall wr).mono ?_
          rintro e w3 ⟨A2, c2, rfl, hc2, hm2, hints, hb2⟩
          obtain ⟨_, hlp⟩ := good_parts (HOk.out.2 k (by omega))
          have HP := Lib.hid hlp
          obtain ⟨l, hl⟩ : ∃ l, l = partsV ts[k] := ⟨_, rfl⟩
          rw [← hl] at HP hints ⊢
          have HL := Lib.hid (show partsV (tmAt ts k) = l by rw [tmAt_nat ts k hkl, hl])
          have hrow2 := rowIs_below HRow.out hb2 hRlt
          have hbel2 := HBel.out.trans (hb2.mono (by omega))
          have hz3 := hb2.size
          have HRow2 := Lib.hid hrow2
          have HBel2 := Lib.hid hbel2
          have HInts := Lib.hid (hints.low (L' := R + 1) (by omega))
          have hlen : l.length ≤ 2 := by rw [hl]; unfold partsV; split <;> (try split) <;> simp
          clear hlp hrow2 hbel2 hb2 hints hl hck hmeth hcf hcall e0
          go_wp2_with fail
          go_loopw [39] (fun y wi => ∃ j : Nat, j ≤ l.length ∧ y = .int .i64 j ∧ wi.rowIs R 3 (i + 1) (dRow ts k (maxOf (depths ts k) (l.take j))) ∧ IntsIn wi (R + 1) w3.heap.size A2 l ∧ Below R w2 wi) (fun y _ => l.length - (intOf y).toNat)
          case atStart => exact ⟨0, Nat.zero_le _, rfl, by simpa [maxOf] using HRow2.out, HInts.out, HBel2.out⟩
          case round =>
            obtain ⟨j, hj, rfl, hrowj, hintsj, hbelj⟩ := hrel
            have HRowj := Lib.hid hrowj
            have HIntsj := Lib.hid hintsj
            have HBelj := Lib.hid hbelj
            have hm := maxOf_range (depths ts k) (l.take j) k (by omega) (depths_range ts k)
            have hk0 := (hrowj.cell (i := k) hlt).trans (congrArg some dRow_self)
            have hf0 := hrowj.frozen k
            by_cases hjl : j < l.length
            · obtain ⟨b2, o2, rfl, hL2, hlt2, hcell⟩ := hintsj (by omega)
              have hcj := hcell j hjl
              obtain ⟨hp0, hpk⟩ := HP.out _ (List.getElem_mem hjl)
              obtain ⟨q, hq⟩ := Int.eq_ofNat_of_zero_le hp0
              have hS := maxOf_succ (depths ts k) l j hjl
              rw [hq] at hcj hpk hS
              have hqk : q < k := by omega
              have hq0 := (hrowj.cell (i := q) (by omega)).trans (congrArg some (dRow_lt hqk))
              have hqr := depths_get ts k q
              rw [Int.toNat_natCast] at hS
              generalize (depths ts k).getD q 0 = dq at *
              generalize hmm : maxOf (depths ts k) (l.take j) = m at *
              have HM := Lib.hid (show maxOf (depths ts k) (l.take (j + 1)) = if m < dq then dq else m by rw [hS]; split <;> omega)
              clear hrowj hintsj hbelj hcell hS hp0 hpk hq
              go_wp2_with fail
              go_region
              go_wp2_with fail
              go_roundw
              case rel =>
                refine ⟨j + 1, by omega, by go_num, ?_, HIntsj.out.keep fun p hp _ => World.cell?_setCell_other _ _ _ _ (by rintro rfl; simp at hp; omega), (HBelj.out.setCell (Nat.le_refl _) _).drew⟩
                exact (HRowj.out.set k _).drew.congr fun x _ => by rw [dRow_set, HM.out]
              case measure => simp [intOf]; omega
            · clear hrowj hintsj hbelj
              have hje : j = l.length := by omega
              have HX := Lib.hid (show maxOf (depths ts k) (l.take j) = maxOf (depths ts k) (partsV (tmAt ts k)) by rw [HL.out, hje, List.take_length])
              generalize hmm : maxOf (depths ts k) (l.take j) = m at *
              clear hmm
              go_wp2_with fail
              go_roundw
              case rel => exact ⟨k + 1, by omega, by go_num, (HRowj.out.set k _).congr (fun x _ => by rw [dRow_set, HX.out, dRow_next]), HBelj.out.setCell (Nat.le_refl _) _⟩
              case measure => simp [intOf]; omega
        · have hki : k = i + 1 := by omega
          have hk0 := (HRow.out.cell (i := i) (by omega)).trans (congrArg some (dRow_lt (by omega)))
          have HK := Lib.hid (show (depths ts k).getD i 0 = depthV ts i by rw [HV.out, hki])
          generalize (depths ts k).getD i 0 = v at *
          clear e0 hki
          go_wp2_with fail
          all_goals go_ret
          all_goals exact ⟨ret_int HK.out, HB.out.trans ((HB2.out.mono HB.out.size).trans (HBel.out.mono (by omega)))⟩
  · have HB := Lib.hid (hb0.trans (hb1.mono (by simp)))
    have HV := Lib.hid (show depthV ts id = -1 by simp [depthV, lokB_false hno])
    clear hb0 hb1 hno
    go_wp2_with fail
    all_goals go_ret
    all_goals exact ⟨ret_int HV.out.symm, HB.out.alloc HB.out.size _⟩
end

end Go.Proofs.YtkmoihkpaccbdaaDoor
