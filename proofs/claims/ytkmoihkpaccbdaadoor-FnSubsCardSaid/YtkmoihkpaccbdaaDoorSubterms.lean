/-
  Subterms: the model's and the program's answer alike.
-/
import Derived.Test.YtkmoihkpaccbdaaDoorReach
import Derived.Deep.RegionHeld3
namespace Go.Proofs.YtkmoihkpaccbdaaDoor
open Go.RowKit Go.Maps

theorem Down.pass {ts : List Tm} {i k : Nat} {g : Nat → Bool} (h : Down ts i (k + 1) g) (hk : g k = true → ∀ p ∈ partsV (tmAt ts k), g p.toNat = true) : Down ts i k g where
  own := h.own
  sole := h.sole
  done m hm hg p hp := by
    by_cases e : m = k
    · subst e; exact hk hg p hp
    · exact h.done m (by omega) hg p hp

theorem Down.put {ts : List Tm} {i k q : Nat} {g : Nat → Bool} (h : Down ts i (k + 1) g) (hk : g k = true) (hq : q < k) (hp : ((q : Nat) : Int) ∈ partsV (tmAt ts k)) : Down ts i (k + 1) (fun m => if m = q then true else g m) where
  own := by show (if i = q then true else g i) = true; split <;> simp [h.own]
  sole m hm := by
    by_cases e : m = q
    · subst e
      have := reach_step (h.sole k hk) hp
      simpa using this
    · exact h.sole m (by simpa [e] using hm)
  done m hm hg p hpm := by
    simp only [show m ≠ q by omega, if_false] at hg
    show (if p.toNat = q then true else g p.toNat) = true
    split
    · rfl
    · exact h.done m hm hg p hpm

theorem Down.start (ts : List Tm) (i : Nat) : Down ts i (i + 1) (fun m => if m = i then true else false) where
  own := if_pos rfl
  sole m hm := by
    by_cases e : m = i
    · subst e; exact .refl _
    · simp [e] at hm
  done m hm hg := by simp [show m ≠ i by omega] at hg

section
variable (A : Option Addr) (ts : List Tm) (c L B : Nat) (id : Int) (w : World)

set_option maxRecDepth 100000 in
set_option maxHeartbeats 1000000 in
theorem implSubterms_any (hA : TmsIn w L B A ts) (hB : B ≤ w.heap.size) (hn : ts.length ≤ 1048576) (hbk : bulk ts ≤ 1048576) :
    Calls Tryd.prog 6 #[.agg #[.slice A ts.length c], .int .i64 id] w (NewIntsFr (subsV ts id) w) := by
  have HA := Lib.hid hA
  clear hA
  go_enter Tryd.func6, Tryd.ntmps6
  go_wp2_with fail
  have hb0 : Below w.heap.size w (w.alloc (.cells #[.slice A ts.length c] 25)) := (Below.refl _ _).alloc (Nat.le_refl _) _
  refine (readLedger_any A ts c L B _ (HA.out.keep fun p _ hp => hb0.cell (by omega)) (by simp; omega) hn hbk).mono ?_
  rintro e w1 (⟨hok, A1, c1, M, rfl, _, hbk1, _, hb1⟩ | ⟨hno, rfl, hb1⟩)
  · have HB := Lib.hid (hb0.trans (hb1.mono (by simp)))
    have HK := Lib.hid (lokB_true hok)
    have HOk := Lib.hid hok
    have HBk := Lib.hid hbk1
    clear hb0 hb1 hok hbk1
    go_wp2_with fail
    have hb2 : Below w1.heap.size w1 (w1.alloc (.cells #[.slice A1 ts.length c1, .map (some M)] 47)) := (Below.refl _ _).alloc (Nat.le_refl _) _
    refine (has_any _ _ _ _ _ _).mono ?_
    rintro e w2 ⟨rfl, hb3⟩
    have d0 : w2.cell? ⟨w1.heap.size, 0, none⟩ = some (.slice A1 ts.length c1) := (hb3.cell (p := ⟨w1.heap.size, 0, none⟩) (by simp)).trans (by simp)
    have hz2 : w1.heap.size < w2.heap.size := by have := hb3.size; simp at this; omega
    have HB2 := Lib.hid (hb2.trans (hb3.mono (by simp)))
    clear hb2 hb3
    cases hh : hasB ts.length id with
    | false =>
      have HV := Lib.hid (show subsV ts id = [] by simp [subsV, hh])
      clear hh
      go_wp2_with fail
      all_goals go_ret
      all_goals (rw [HV.out]; exact .nil (HB.out.trans (HB2.out.mono HB.out.size)))
    | true =>
      have hr := (hasB_iff _ _).1 hh
      obtain ⟨i, rfl⟩ := Int.eq_ofNat_of_zero_le hr.1
      have hi : i < ts.length := by omega
      have hi4 : ts.length ≤ 400 := HOk.out.1
      have HV := Lib.hid (show subsV ts i = pick (reachB ts i) (i + 1) by simp [subsV, HK.out, hh, subs_short HOk.out hi])
      obtain ⟨b, o, rfl, hL, hb, hc⟩ := HBk.out (by omega)
      have HC := Lib.hid hc
      have hmk := run_make_bools (i + 1) (by omega)
      rw [show ((i + 1 : Nat) : Int) = (i : Int) + 1 from rfl] at hmk
      have hwz := HB.out.size
      have hrow := World.rowIs_made w2 (.bool false) (i + 1) 4
      have hci := hrow.cell (i := i) (by omega)
      have hfi := hrow.frozen i
      clear hh hr hc hrow
      go_wp2_with fail
      clear hmk hci hfi
      obtain ⟨R, hR⟩ : ∃ R, R = w2.heap.size := ⟨_, rfl⟩
      have hrow0 : (w2.alloc (.cells ((madeCells #[.bool false] (i + 1)).setIfInBounds i (.bool true)) 4)).rowIs w2.heap.size 4 (i + 1) (fun m => .bool (if m = i then true else false)) := by
        refine ⟨_, heap_alloc_new w2 _, by simp [size_madeCells], fun m hm => ?_⟩
        rw [Array.getElem?_setIfInBounds]
        by_cases e : i = m
        · subst e
          simp [size_madeCells]
        · rw [if_neg e]
          have e' : ¬ m = i := fun h => e h.symm
          simp [madeCells, hm, Nat.mod_one, e']
      have HRow0 := Lib.hid hrow0
      have HB0 := Lib.hid ((Below.refl w2.heap.size w2).alloc (Nat.le_refl _) (.cells ((madeCells #[.bool false] (i + 1)).setIfInBounds i (.bool true)) 4))
      clear hrow0
      rw [← hR] at HRow0 HB0
      rw [← hR]
      have hwR : w1.heap.size < R := by omega
      go_loopw [8] (fun x wr => ∃ (k : Nat) (g : Nat → Bool), k ≤ i + 1 ∧ x = .int .i64 ((k : Int) - 1) ∧ Down ts i k g ∧ wr.rowIs R 4 (i + 1) (fun m => .bool (g m)) ∧ Below R w2 wr) (fun x _ => (intOf x + 1).toNat)
      case atStart => exact ⟨i + 1, _, Nat.le_refl _, by simp, Down.start ts i, HRow0.out, HB0.out⟩
      case round =>
        clear hR
        obtain ⟨k, g, hk, rfl, hdown, hrow, hbel⟩ := hrel
        have e0 := (hbel.cell (p := ⟨w1.heap.size, 0, none⟩) hwR).trans d0
        have HRowk := Lib.hid hrow
        have HBel := Lib.hid hbel
        have HD := Lib.hid hdown
        have hRlt := hrow.lt
        clear hdown
        cases k with
        | zero =>
          have hrw := hrow.congr (g := fun m => .bool (reachB ts i m)) (fun m _ => by rw [HD.out.all HOk.out hi m])
          have HRw := Lib.hid hrw
          clear hrow hbel hrw e0
          go_wp2_with fail
          refine (marked_any R (i + 1) (reachB ts i) wr HRw.out (by omega)).mono ?_
          rintro e w4 ⟨A4, c4, rfl, hints, hb4⟩
          have HR := Lib.hid (show NewIntsFr (subsV ts i) w (.returned (.slice A4 (pick (reachB ts i) (i + 1)).length c4)) w4 from by
            rw [HV.out]
            have h1 := HB2.out.size
            have h2 := HBel.out.size
            exact ⟨A4, c4, rfl, hints.low (by omega), HB.out.trans ((HB2.out.mono (by omega)).trans ((HBel.out.mono (by omega)).trans (hb4.mono (by omega))))⟩)
          clear hints hb4
          go_wp2_with fail
          go_ret
          exact HR.out
        | succ k =>
          rw [show (((k + 1 : Nat) : Int) - 1) = (k : Int) by omega]
          have hki := hrow.cell (i := k) (by omega)
          have hkl : k < ts.length := by omega
          cases hg : g k with
          | false =>
            have HD' := Lib.hid (HD.out.pass (fun h => by rw [hg] at h; cases h))
            simp only [hg] at hki
            clear hrow hbel hg e0
            go_wp2_with fail
            go_roundw
            case rel => exact ⟨k, g, by omega, by go_num, HD'.out, HRowk.out, HBel.out⟩
            case measure => simp [intOf]; try omega
          | true =>
            have HG := Lib.hid hg
            simp only [hg] at hki
            have hck := (hbel.cell (p := ⟨b, o + k, none⟩) (by show b < R; omega)).trans ((HB2.out.cell (p := ⟨b, o + k, none⟩) hb).trans (HC.out k hkl))
            obtain ⟨_, hkind⟩ := kind_of_good (HOk.out.2 k hkl)
            obtain ⟨T, v, F, htv, hmeth, hcf, hcall⟩ := parts_invoke ts[k] hkind
            rw [htv] at hck
            clear htv hkind hrow hbel hg
            go_wp2_with fail
            refine (hcall wr).mono ?_
            rintro e w3 ⟨A2, c2, rfl, _, _, hints, hb2⟩
            have hlen2 := partsV_length ts[k]
            have HL := Lib.hid (show partsV (tmAt ts k) = partsV ts[k] by rw [tmAt_nat ts k hkl])
            have HRow2 := Lib.hid (rowIs_below HRowk.out hb2 hRlt)
            have HBel2 := Lib.hid (HBel.out.trans (hb2.mono (by omega)))
            have HInts := Lib.hid (hints.low (L' := R + 1) (by omega))
            generalize partsV ts[k] = l at *
            clear hints hb2 hck hmeth hcf hcall e0 hki
            go_wp2_with fail
            go_loopw [46] (fun y wi => ∃ (j : Nat) (h : Nat → Bool), j ≤ l.length ∧ y = .int .i64 j ∧ Down ts i (k + 1) h ∧ h k = true ∧ (∀ q (hq : q < l.length), q < j → h l[q].toNat = true) ∧ wi.rowIs R 4 (i + 1) (fun m => .bool (h m)) ∧ IntsIn wi (R + 1) w3.heap.size A2 l ∧ Below R w2 wi) (fun y _ => l.length - (intOf y).toNat)
            case atStart => exact ⟨0, g, Nat.zero_le _, rfl, HD.out, HG.out, fun q _ h => absurd h (by omega), HRow2.out, HInts.out, HBel2.out⟩
            case round =>
              obtain ⟨j, h, hj, rfl, hdn, hhk, hdone, hrowj, hintsj, hbelj⟩ := hrel
              have HDn := Lib.hid hdn
              have HHk := Lib.hid hhk
              have HDone := Lib.hid hdone
              have HRowj := Lib.hid hrowj
              have HIntsj := Lib.hid hintsj
              have HBelj := Lib.hid hbelj
              clear hdn hhk hdone
              by_cases hjl : j < l.length
              · obtain ⟨b2, o2, rfl, hL2, hlt2, hcell⟩ := hintsj (by omega)
                have hcj := hcell j hjl
                have hmem : l[j] ∈ partsV (tmAt ts k) := by rw [HL.out]; exact List.getElem_mem hjl
                obtain ⟨hp0, hpk⟩ := parts_lt HOk.out hkl hmem
                obtain ⟨q, hq⟩ := Int.eq_ofNat_of_zero_le hp0
                have HQ := Lib.hid (show l[j].toNat = q by rw [hq, Int.toNat_natCast])
                rw [hq] at hcj hpk hmem
                have hqk : q < k := by omega
                have HMem := Lib.hid hmem
                have hq0 := hrowj.cell (i := q) (by omega)
                have hf0 := hrowj.frozen q
                clear hrowj hintsj hbelj hcell hmem hp0 hpk hq
                go_wp2_with fail
                go_roundw
                case rel =>
                  refine ⟨j + 1, fun m => if m = q then true else h m, by omega, by go_num, HDn.out.put HHk.out hqk HMem.out, by simp [HHk.out], fun q' hq' hlt => ?_, ?_, HIntsj.out.keep fun p hp _ => World.cell?_setCell_other _ _ _ _ (by rintro rfl; simp at hp; omega), HBelj.out.setCell (Nat.le_refl _) _⟩
                  · by_cases e : q' = j
                    · subst e; simp [HQ.out]
                    · have := HDone.out q' hq' (by omega)
                      simp [this]
                  · exact (HRowj.out.set q _).congr fun m _ => by show (if m = q then Value.bool true else Value.bool (h m)) = Value.bool (if m = q then true else h m); split <;> rfl
                case measure => simp [intOf]; omega
              · clear hrowj hintsj hbelj
                have hje : j = l.length := by omega
                have HD' := Lib.hid (HDn.out.pass (fun _ p hp => by
                  rw [HL.out] at hp
                  obtain ⟨q, hq, rfl⟩ := List.mem_iff_getElem.1 hp
                  exact HDone.out q hq (by omega)))
                clear hje
                go_wp2_with fail
                go_roundw
                case rel => exact ⟨k, h, by omega, by go_num, HD'.out, HRowj.out, HBelj.out⟩
                case measure => simp [intOf]; try omega
  · have HB := Lib.hid (hb0.trans (hb1.mono (by simp)))
    have HV := Lib.hid (show subsV ts id = [] by simp [subsV, lokB_false hno])
    clear hb0 hb1 hno
    go_wp2_with fail
    all_goals go_ret
    all_goals (rw [HV.out]; exact .nil (HB.out.alloc HB.out.size _))
end

end Go.Proofs.YtkmoihkpaccbdaaDoor
