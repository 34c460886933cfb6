/-
  The law that what can't be made lacks a nonce or a key that can't be had.
-/
import Derived.Test.YtigkojdchpjkcaaDo
import Derived.Test.YtigkojdchpjkcaaTms
import Derived.Test.YtigkojdchpjkcaaOh
import Derived.Deep.QuietTactic
namespace Go.Proofs.Ytigkojdchpjkcaa
open Go.RowKit Go.Maps

theorem cn_all {ts : List Tm} (hok : LOk ts) {f : Nat → Bool} : ∀ a, a < ts.length → (∀ j, Reach ts a j → (tmAt ts j).kind ≤ 1 → Cn ts f j) → Cn ts f a := by
  intro a
  induction a using Nat.strongRecOn with
  | _ a ih =>
    intro ha h
    obtain ⟨_, hk⟩ := kind_of_good (hok.2 a ha)
    rw [← tmAt_nat ts a ha] at hk
    by_cases h1 : (tmAt ts a).kind ≤ 1
    · exact h a (.refl a) h1
    · by_cases h2 : (tmAt ts a).kind = 2
      · exact .text h2
      · refine .made ?_ fun p hp => ?_
        · unfold partsV
          split
          · simp
          · split
            · simp
            · omega
        · have := parts_lt hok ha hp
          exact ih _ (by omega) (by omega) fun j hj hl => h j (.head hp hj) hl

theorem miss_pos {ts : List Tm} {hv : List Int} {want : Int} (hok : LOk ts) (hn : hv.length ≤ 1000) (h0 : 0 ≤ want) (h1 : want < ts.length) (hc : canV ts hv want = false) : 0 < (missV ts hv want).length := by
  have hask : askB ts hv = true := by simp [askB, lokB_true hok, hn]
  have hcan : ∀ j : Nat, j < ts.length → canV ts hv j = cnB ts (endB ts hv) j := fun j hj => by
    simp [canV, hask, hasB, hj]
  obtain ⟨k, rfl⟩ := Int.eq_ofNat_of_zero_le h0
  have hk : k < ts.length := by omega
  rw [hcan k hk] at hc
  have hne : ¬ ∀ j, Reach ts k j → (tmAt ts j).kind ≤ 1 → Cn ts (endB ts hv) j := fun h => by
    have := (cnB_iff _ _ _).2 (cn_all hok k hk h)
    rw [this] at hc
    cases hc
  obtain ⟨j, hj⟩ := Classical.not_forall.1 hne
  obtain ⟨hr, hj2⟩ := Classical.not_imp.1 hj
  obtain ⟨hl, hcn⟩ := Classical.not_imp.1 hj2
  have hjl : j < ts.length := by have := reach_le hok hr hk; omega
  refine List.length_pos_of_mem (a := (j : Int)) ?_
  unfold missV
  rw [if_pos hask, List.mem_filter]
  refine ⟨?_, ?_⟩
  · unfold subsV
    rw [if_pos (by simp [lokB_true hok, hasB, hk])]
    rw [mem_pick]
    exact ⟨j, hjl, rfl, by rw [reachB_iff]; exact hr⟩
  · unfold missB lowB
    rw [hcan j hjl]
    have : cnB ts (endB ts hv) j = false := by
      cases h : cnB ts (endB ts hv) j with
      | false => rfl
      | true => exact absurd ((cnB_iff _ _ _).1 h) hcn
    simp [this, hl]

set_option maxRecDepth 100000 in
set_option maxHeartbeats 2000000 in
theorem fnMissing_any (A : Option Addr) (c : Nat) (code : List UInt8) (w : World) (hA : BytesIn w 0 w.heap.size A code) (hn : code.length ≤ 9223372036854775807) :
    Calls Try.prog 7 #[.slice A code.length c] w fun e w' => e = .returned (.bool true) ∧ Below w.heap.size w w' := by
  have HA := Lib.hid hA
  clear hA
  go_enter Try.func7, Try.ntmps7
  go_wp2_with fail
  refine (drawMissing_any A c code w HA.out hn).mono ?_
  rintro e w1 ⟨ts, A1, c1, hv, A2, c2, want, rfl, ⟨hl1, hk1, _⟩, ⟨hvl, _⟩, ⟨hwa, hwb⟩, ht1, hi1, hb1⟩
  obtain ⟨W2, hW2⟩ : ∃ y, y = w1.alloc (.cells #[.slice A1 ts.length c1] 25) := ⟨_, rfl⟩
  have hb2 : Below w1.heap.size w1 W2 := by rw [hW2]; exact (Below.refl _ _).alloc (Nat.le_refl _) _
  have b2 : W2.cell? ⟨w1.heap.size, 0, none⟩ = some (.slice A1 ts.length c1) := by rw [hW2]; simp
  have hz2 : w1.heap.size < W2.heap.size := by rw [hW2]; simp
  have HT2 := Lib.hid (ht1.keep fun p _ hp => hb2.cell hp)
  have HI2 := Lib.hid (hi1.keep fun p _ hp => hb2.cell hp)
  have HB2 := Lib.hid (hb1.trans (hb2.mono hb1.size))
  have hzw := hb1.size
  have hw64 : WfI want := by
    show (decide ((-9223372036854775808 : Int) ≤ want) && decide (want ≤ (9223372036854775807 : Int))) = true
    simp
    omega
  clear ht1 hi1 hb1 hb2
  go_upto_region 2 with fail
  rw [← hW2]
  clear hW2
  -- what lies below w1 stays
  have HCan := Lib.hid (fun (X : World) (hX : Below W2.heap.size W2 X) (x : Int) (hx : WfI x) => implCan_any A1 ts c1 w.heap.size w1.heap.size A2 hv c2 x X hx (HT2.out.keep fun p _ hp => hX.cell (by omega)) (by have := hX.size; omega) (by omega) (by omega) (((HI2.out.keep fun p _ hp => hX.cell (by omega)).low (Nat.zero_le _)).mono (by have := hX.size; omega)) (by omega))
  have HLok := Lib.hid (fun (X : World) (hX : Below W2.heap.size W2 X) => specLedgerOk_any A1 ts c1 w.heap.size w1.heap.size X (HT2.out.keep fun p _ hp => hX.cell (by omega)) (by have := hX.size; omega) (by omega) (by omega))
  go_wp2_with fail
  refine (implSecret_any A1 ts c1 w.heap.size w1.heap.size A2 hv c2 want W2 HT2.out (by omega) (by omega) (by omega) ((HI2.out.low (Nat.zero_le _)).mono (by omega)) (by omega)).mono ?_
  rintro e w3 ⟨rfl, hb3⟩
  have hz3 := hb3.size
  have b3 := (hb3.cell (p := ⟨w1.heap.size, 0, none⟩) hz2).trans b2
  have HB3 := Lib.hid hb3
  obtain ⟨s, hs⟩ : ∃ s, s = secretV ts hv want := ⟨_, rfl⟩
  rw [← hs]
  have HS := Lib.hid hs
  clear hb3 b2 hs
  go_wp2_with fail
  refine (implMissing_any A1 ts c1 w.heap.size w1.heap.size A2 hv c2 want w3 (HT2.out.keep fun p _ hp => HB3.out.cell (by omega)) (by omega) (by omega) (by omega) (((HI2.out.keep fun p _ hp => HB3.out.cell (by omega)).low (Nat.zero_le _)).mono (by omega)) (by omega)).mono ?_
  rintro e w4 ⟨A4, c4, rfl, hi4, hb4⟩
  have hz4 := hb4.size
  obtain ⟨ms, hms⟩ : ∃ ms, ms = missV ts hv want := ⟨_, rfl⟩
  rw [← hms] at hi4 ⊢
  have HMs := Lib.hid hms
  have b4 := (hb4.cell (p := ⟨w1.heap.size, 0, none⟩) (by show w1.heap.size < _; omega)).trans b3
  have HI4 := Lib.hid (hi4.ints)
  have HB4 := Lib.hid (HB3.out.trans (hb4.mono (by omega)))
  have hml : ms.length ≤ 1048576 := by
    rw [hms]
    have h1 : (missV ts hv want).length ≤ ts.length := by
      unfold missV
      split
      · exact Nat.le_trans (List.length_filter_le _ _) (subsV_length ts want)
      · simp
    omega
  have HNo := Lib.hid (fun (x : Int) (hx : x ∈ ms) => show canV ts hv x = false ∧ WfI x by
    rw [hms] at hx
    unfold missV at hx
    split at hx
    · have h2 := (List.mem_filter.1 hx).2
      have hr := subsV_range (List.mem_filter.1 hx).1
      simp only [missB, Bool.and_eq_true, Bool.not_eq_true'] at h2
      exact ⟨h2.2, wfI_of hr.1 (by omega)⟩
    · simp at hx)
  clear hi4 hb4 b3 hms
  go_wp2_with fail
  go_loopw [8] (fun i wr => ∃ k : Nat, k ≤ ms.length ∧ i = .int .i64 k ∧ Below w4.heap.size w4 wr) (fun i _ => ms.length - (intOf i).toNat)
  case atStart => exact ⟨0, Nat.zero_le _, rfl, Below.refl _ _⟩
  case round =>
    obtain ⟨k, hk, rfl, hbr⟩ := hrel
    have HBr := Lib.hid hbr
    have hzr := hbr.size
    have br := (hbr.cell (p := ⟨w1.heap.size, 0, none⟩) (by show w1.heap.size < _; omega)).trans b4
    clear hbr b4
    by_cases hlt : k < ms.length
    · obtain ⟨b, o, rfl, _, hb, hc⟩ := HI4.out (by omega)
      have hc0 := (HBr.out.cell (p := ⟨b, o + k, none⟩) (by show b < _; omega)).trans (hc k hlt)
      have hno := HNo.out ms[k] (List.getElem_mem hlt)
      have HC := Lib.hid (show Calls Try.prog 29 #[.agg #[.slice A1 ts.length c1], .slice A2 hv.length c2, .int .i64 ms[k]] wr.drew (fun e w' => e = .returned (.bool false) ∧ Below w4.heap.size w4 w') from by
        refine (HCan.out wr.drew ((HB4.out.trans (HBr.out.mono (by omega))).drew) ms[k] hno.2).mono ?_
        rintro e w' ⟨rfl, hb⟩
        rw [hno.1]
        exact ⟨rfl, HBr.out.drew.trans (hb.mono hzr)⟩)
      clear hc hno
      go_upto_region 7 with fail
      go_region_law
        (first
          | (go_simp
             go_at_call 29
             refine HC.out.mono ?_
             rintro e w6 ⟨rfl, hb6⟩
             have HB6 := Lib.hid hb6
             clear hb6 HC
             go_wp2_with fail))
      all_goals
        go_wp2_with fail
        go_roundw
        case rel => exact ⟨k + 1, by omega, by go_num, HB6.out⟩
        case measure => simp [intOf]; omega
    · have HBe := Lib.hid (HB4.out.trans (HBr.out.mono (by omega)))
      have HPos := Lib.hid (fun (hlk : lokB ts = true) (h0 : 0 ≤ want) (h1 : want < ts.length) (hc : canV ts hv want = false) => show 0 < ms.length by
        rw [HMs.out]
        exact miss_pos (lok_of hlk) (by omega) h0 h1 hc)
      clear HI4 HNo
      cases hlk : lokB ts with
      | false =>
        have hs : s = false := by rw [HS.out]; simp [secretV, askB, hlk]
        subst hs
        go_wp2_with fail
        refine (HLok.out wr HBe.out).mono ?_
        rintro e w5 ⟨rfl, hb5⟩
        rw [hlk]
        have b5 := (hb5.cell (p := ⟨w1.heap.size, 0, none⟩) (by show w1.heap.size < _; omega)).trans br
        have HB5 := Lib.hid (HBe.out.trans (hb5.mono (by have := HBe.out.size; omega)))
        clear hb5 br
        go_wp2_with fail
        refine (terms_any _).mono ?_
        rintro e w9 ⟨rfl, hb9⟩
        have HF := Lib.hid (HB2.out.trans (((HB5.out.trans (hb9.mono (by have := HB5.out.size; omega))).mono (by omega))))
        clear hb9
        go_wp2_with fail
        go_ret
        exact ⟨rfl, HF.out⟩
      | true =>
        have hask : askB ts hv = true := by simp [askB, hlk, show hv.length ≤ 1000 by omega]
        by_cases h0 : 0 ≤ want
        · by_cases h1 : want < ts.length
          · cases hcn : canV ts hv want with
            | false =>
              have hs : s = true := by rw [HS.out]; simp [secretV, hask, hcn, hasB, h0, h1]
              subst hs
              have hp := HPos.out hlk h0 h1 hcn
              clear HPos
              go_wp2_with fail
              refine (HLok.out wr HBe.out).mono ?_
              rintro e w5 ⟨rfl, hb5⟩
              rw [hlk]
              have b5 := (hb5.cell (p := ⟨w1.heap.size, 0, none⟩) (by show w1.heap.size < _; omega)).trans br
              have HB5 := Lib.hid (HBe.out.trans (hb5.mono (by have := HBe.out.size; omega)))
              clear hb5 br
              go_wp2_with fail
              refine (HCan.out w5 HB5.out want hw64).mono ?_
              rintro e w6 ⟨rfl, hb6⟩
              rw [hcn]
              have HB6 := Lib.hid (HB5.out.trans (hb6.mono (by have := HB5.out.size; omega)))
              clear hb6 b5
              go_wp2_with fail
              refine (terms_any _).mono ?_
              rintro e w9 ⟨rfl, hb9⟩
              have HF := Lib.hid (HB2.out.trans (((HB6.out.trans (hb9.mono (by have := HB6.out.size; omega))).mono (by omega))))
              clear hb9
              go_wp2_with fail
              go_ret
              exact ⟨rfl, HF.out⟩
            | true =>
              have hs : s = false := by rw [HS.out]; simp [secretV, hask, hcn, hasB, h0, h1]
              subst hs
              go_wp2_with fail
              refine (HLok.out wr HBe.out).mono ?_
              rintro e w5 ⟨rfl, hb5⟩
              rw [hlk]
              have b5 := (hb5.cell (p := ⟨w1.heap.size, 0, none⟩) (by show w1.heap.size < _; omega)).trans br
              have HB5 := Lib.hid (HBe.out.trans (hb5.mono (by have := HBe.out.size; omega)))
              clear hb5 br
              go_wp2_with fail
              refine (HCan.out w5 HB5.out want hw64).mono ?_
              rintro e w6 ⟨rfl, hb6⟩
              rw [hcn]
              have HB6 := Lib.hid (HB5.out.trans (hb6.mono (by have := HB5.out.size; omega)))
              clear hb6 b5
              go_wp2_with fail
              refine (terms_any _).mono ?_
              rintro e w9 ⟨rfl, hb9⟩
              have HF := Lib.hid (HB2.out.trans (((HB6.out.trans (hb9.mono (by have := HB6.out.size; omega))).mono (by omega))))
              clear hb9
              go_wp2_with fail
              go_ret
              exact ⟨rfl, HF.out⟩
          · have hs : s = false := by rw [HS.out]; simp [secretV, hasB, h1]
            subst hs
            go_wp2_with fail
            refine (HLok.out wr HBe.out).mono ?_
            rintro e w5 ⟨rfl, hb5⟩
            rw [hlk]
            have b5 := (hb5.cell (p := ⟨w1.heap.size, 0, none⟩) (by show w1.heap.size < _; omega)).trans br
            have HB5 := Lib.hid (HBe.out.trans (hb5.mono (by have := HBe.out.size; omega)))
            clear hb5 br
            go_wp2_with fail
            refine (terms_any _).mono ?_
            rintro e w9 ⟨rfl, hb9⟩
            have HF := Lib.hid (HB2.out.trans (((HB5.out.trans (hb9.mono (by have := HB5.out.size; omega))).mono (by omega))))
            clear hb9
            go_wp2_with fail
            go_ret
            exact ⟨rfl, HF.out⟩
        · have hs : s = false := by rw [HS.out]; simp [secretV, hasB, h0]
          subst hs
          go_wp2_with fail
          refine (HLok.out wr HBe.out).mono ?_
          rintro e w5 ⟨rfl, hb5⟩
          rw [hlk]
          have b5 := (hb5.cell (p := ⟨w1.heap.size, 0, none⟩) (by show w1.heap.size < _; omega)).trans br
          have HB5 := Lib.hid (HBe.out.trans (hb5.mono (by have := HBe.out.size; omega)))
          clear hb5 br
          go_wp2_with fail
          refine (terms_any _).mono ?_
          rintro e w9 ⟨rfl, hb9⟩
          have HF := Lib.hid (HB2.out.trans (((HB5.out.trans (hb9.mono (by have := HB5.out.size; omega))).mono (by omega))))
          clear hb9
          go_wp2_with fail
          go_ret
          exact ⟨rfl, HF.out⟩

end Go.Proofs.Ytigkojdchpjkcaa
