/-
  The law that what is taken apart is taken apart, that what one has is among it, and that all of it can be had.
-/
import Derived.Test.YtigkojdchpjkcaaFo
namespace Go.Proofs.Ytigkojdchpjkcaa
open Go.RowKit Go.Maps

theorem opened_in {ts : List Tm} {hv : List Int} (hok : lokB ts = true) (hn : hv.length ≤ 1000) {x : Int} (hx : 0 ≤ x ∧ x < ts.length) (h : x ∈ hv) : x ∈ openedV ts hv := by
  have h1 : askB ts hv = true := by simp [askB, hok, hn]
  unfold openedV
  rw [if_pos h1, mem_pick]
  refine ⟨x.toNat, by omega, by omega, ?_⟩
  unfold endB
  rw [opB_iff]
  refine .had ?_
  simp only [haveB, Bool.and_eq_true, decide_eq_true_eq, List.contains_iff_mem]
  exact ⟨by omega, by rw [Int.toNat_of_nonneg hx.1]; exact h⟩
theorem opened_all {ts : List Tm} {hv : List Int} {x : Int} (h : x ∈ openedV ts hv) : x ∈ allV ts hv := by
  unfold openedV at h
  unfold allV
  split at h
  · rename_i ha
    rw [if_pos ha, mem_pick]
    obtain ⟨j, hj, rfl, hf⟩ := mem_pick.1 h
    exact ⟨j, hj, rfl, (cnB_iff _ _ _).2 (.had hf)⟩
  · simp at h
theorem opened_len (ts : List Tm) (hv : List Int) : (openedV ts hv).length ≤ ts.length := by
  unfold openedV
  split
  · exact pick_length _ _
  · simp
theorem all_len (ts : List Tm) (hv : List Int) : (allV ts hv).length ≤ ts.length := by
  unfold allV
  split
  · exact pick_length _ _
  · simp

set_option maxRecDepth 100000 in
set_option maxHeartbeats 4000000 in
theorem fnOpened_any (A : Option Addr) (c : Nat) (code : List UInt8) (w : World) (hA : BytesIn w 0 w.heap.size A code) (hn : code.length ≤ 9223372036854775807) :
    Calls Try.prog 5 #[.slice A code.length c] w fun e w' => e = .returned (.bool true) ∧ Below w.heap.size w w' := by
  have HA := Lib.hid hA
  clear hA
  go_enter Try.func5, Try.ntmps5
  go_wp2_with fail
  refine (drawOpened_any A c code w HA.out hn).mono ?_
  rintro e w1 ⟨ts, A1, c1, hv, A2, c2, rfl, ⟨hl1, hk1, _⟩, ⟨hvl, _⟩, ht1, hi1, hb1⟩
  obtain ⟨W2, hW2⟩ : ∃ y, y = w1.alloc (.cells #[.slice A1 ts.length c1] 25) := ⟨_, rfl⟩
  have hb2 : Below w1.heap.size w1 W2 := by rw [hW2]; exact (Below.refl _ _).alloc (Nat.le_refl _) _
  have b2 : W2.cell? ⟨w1.heap.size, 0, none⟩ = some (.slice A1 ts.length c1) := by rw [hW2]; simp
  have hz2 : w1.heap.size < W2.heap.size := by rw [hW2]; simp
  have HT2 := Lib.hid (ht1.keep fun p _ hp => hb2.cell hp)
  have HI2 := Lib.hid (hi1.keep fun p _ hp => hb2.cell hp)
  have HB2 := Lib.hid (hb1.trans (hb2.mono hb1.size))
  have hzw := hb1.size
  clear ht1 hi1 hb1 hb2
  go_upto_region 2 with fail
  rw [← hW2]
  clear hW2
  have HOpn := Lib.hid (fun (X : World) (hX : Below W2.heap.size W2 X) (A3 : Option Addr) (h3 : List Int) (c3 : Nat) (hi : IntsIn X 0 X.heap.size A3 h3) (hl : h3.length ≤ 1000) => implOpened_any A1 ts c1 w.heap.size w1.heap.size A3 h3 c3 X (HT2.out.keep fun p _ hp => hX.cell (by omega)) (by have := hX.size; omega) (by omega) (by omega) hi (by omega))
  have HAll := Lib.hid (fun (X : World) (hX : Below W2.heap.size W2 X) (A3 : Option Addr) (h3 : List Int) (c3 : Nat) (hi : IntsIn X 0 X.heap.size A3 h3) (hl : h3.length ≤ 1000) => implAll_any A1 ts c1 w.heap.size w1.heap.size A3 h3 c3 X (HT2.out.keep fun p _ hp => hX.cell (by omega)) (by have := hX.size; omega) (by omega) (by omega) hi (by omega))
  have HLok := Lib.hid (fun (X : World) (hX : Below W2.heap.size W2 X) => specLedgerOk_any A1 ts c1 w.heap.size w1.heap.size X (HT2.out.keep fun p _ hp => hX.cell (by omega)) (by have := hX.size; omega) (by omega) (by omega))
  have HHave := Lib.hid (fun (X : World) (hX : Below W2.heap.size W2 X) => show IntsIn X 0 X.heap.size A2 hv from ((HI2.out.keep fun p _ hp => hX.cell (by omega)).low (Nat.zero_le _)).mono (by have := hX.size; omega))
  go_wp2_with fail
  refine (HOpn.out W2 (Below.refl _ _) A2 hv c2 (HHave.out W2 (Below.refl _ _)) (by omega)).mono ?_
  rintro e w3 ⟨A3, c3, rfl, hi3, hb3⟩
  have hz3 := hb3.size
  have b3 := (hb3.cell (p := ⟨w1.heap.size, 0, none⟩) hz2).trans b2
  have HB3 := Lib.hid hb3
  obtain ⟨os, hos⟩ : ∃ y, y = openedV ts hv := ⟨_, rfl⟩
  rw [← hos] at hi3 ⊢
  have hol : os.length ≤ 32 := by rw [hos]; have := opened_len ts hv; omega
  have HI3 := Lib.hid ((hi3.ints).low (Nat.zero_le _))
  have HOs := Lib.hid hos
  clear hi3 hb3 b2 hos
  go_wp2_with fail
  refine (HLok.out w3 HB3.out).mono ?_
  rintro e w4 ⟨rfl, hb4⟩
  have hz4 := hb4.size
  have b4 := (hb4.cell (p := ⟨w1.heap.size, 0, none⟩) (by show w1.heap.size < _; omega)).trans b3
  have HB4 := Lib.hid (HB3.out.trans (hb4.mono (by omega)))
  have HI4 := Lib.hid ((HI3.out.keep fun p _ hp => hb4.cell hp).mono hb4.size)
  clear hb4 b3 HI3 HLok
  cases hlk : lokB ts with
  | false =>
    have he : os = [] := by rw [HOs.out]; simp [openedV, askB, hlk]
    subst he
    have CT := Lib.hid (terms_any w4)
    go_wp2_with fail
    refine CT.out.mono ?_
    rintro e w5 ⟨rfl, hb5⟩
    have HF := Lib.hid (HB2.out.trans ((HB4.out.trans (hb5.mono (by omega))).mono (by omega)))
    clear hb5 CT
    go_wp2_with fail
    go_ret
    exact ⟨rfl, HF.out⟩
  | true =>
    have HLk := Lib.hid hlk
    have HMem := Lib.hid (fun (x : Int) (h : x ∈ hv) (h0 : 0 ≤ x) (h1 : x < ts.length) => show x ∈ os by rw [HOs.out]; exact opened_in hlk (by omega) ⟨h0, h1⟩ h)
    clear hlk
    go_wp2_with fail
    go_loopw [6] (fun i wr => ∃ k : Nat, k ≤ hv.length ∧ i = .int .i64 k ∧ Below w4.heap.size w4 wr) (fun i _ => hv.length - (intOf i).toNat)
    case atStart => exact ⟨0, Nat.zero_le _, rfl, Below.refl _ _⟩
    case round =>
      obtain ⟨k, hk, rfl, hbr⟩ := hrel
      have HBr := Lib.hid hbr
      have hzr := hbr.size
      have br := (hbr.cell (p := ⟨w1.heap.size, 0, none⟩) (by show w1.heap.size < _; omega)).trans b4
      have HBW := Lib.hid (HB4.out.trans (hbr.mono (by omega)))
      clear hbr b4
      by_cases hlt : k < hv.length
      · obtain ⟨b, o, rfl, _, hb, hc⟩ := (HHave.out wr HBW.out) (by omega)
        have hc0 := hc k hlt
        obtain ⟨x, hx⟩ : ∃ x, x = hv[k] := ⟨_, rfl⟩
        have hxm : x ∈ hv := hx ▸ List.getElem_mem hlt
        rw [← hx] at hc0
        have HM := Lib.hid (HMem.out x hxm)
        have HHas := Lib.hid (fun (y : Kp wr) (hm : x ∈ os) => show Calls Try.prog 25 #[.slice A3 os.length c3, .int .i64 x] y.val (fun e w' => e = .returned (.bool true) ∧ Below y.val.heap.size y.val w') from by
          have hY := HBr.out.trans (y.ok.mono (show w4.heap.size ≤ wr.heap.size by omega))
          refine (hasInt_any A3 os c3 x y.val ((HI4.out.keep fun p _ hp => hY.cell hp).mono hY.size) (by omega)).mono ?_
          rintro e w' ⟨rfl, hb'⟩
          exact ⟨by simp [hm], hb'⟩)
        have q0 : ∀ y : Kp wr, y.val.cell? ⟨w1.heap.size, 0, none⟩ = some (.slice A1 ts.length c1) := fun y => y.cell br
        have q1 : ∀ y : Kp wr, y.val.cell? ⟨b, o + k, none⟩ = some (.int .i64 x) := fun y => y.cell hc0
        clear hc hx hxm hc0
        by_cases h0 : 0 ≤ x
        · by_cases h1 : x < ts.length
          · have hm := HM.out h0 h1
            have HC := Lib.hid (fun y : Kp wr => HHas.out y hm)
            clear HHas HM hm
            go_upto_region 8 with fail
            refine wp_region_kept (by kernel_rfl) (by kernel_rfl) ?_
            repeat (go_big_quiet_step ((go_at_call 25; refine kept_of (v := .bool true) (HC.out _))))
            refine wpQuiet_nil ?_
            rintro _ ⟨y, rfl⟩
            have HB6 := Lib.hid (HBr.out.trans (y.ok.mono hzr))
            clear q0 q1 HC
            go_wp2_with fail
            go_roundw
            case rel => exact ⟨k + 1, by omega, by go_num, HB6.out⟩
            case measure => simp [intOf]; omega
          · clear HHas HM
            go_upto_region 8 with fail
            refine wp_region_kept (by kernel_rfl) (by kernel_rfl) ?_
            repeat (go_big_quiet_step (fail))
            refine wpQuiet_nil ?_
            rintro _ ⟨y, rfl⟩
            have HB6 := Lib.hid (HBr.out.trans (y.ok.mono hzr))
            clear q0 q1
            go_wp2_with fail
            go_roundw
            case rel => exact ⟨k + 1, by omega, by go_num, HB6.out⟩
            case measure => simp [intOf]; omega
        · clear HHas HM
          go_upto_region 8 with fail
          refine wp_region_kept (by kernel_rfl) (by kernel_rfl) ?_
          repeat (go_big_quiet_step (fail))
          refine wpQuiet_nil ?_
          rintro _ ⟨y, rfl⟩
          have HB6 := Lib.hid (HBr.out.trans (y.ok.mono hzr))
          clear q0 q1
          go_wp2_with fail
          go_roundw
          case rel => exact ⟨k + 1, by omega, by go_num, HB6.out⟩
          case measure => simp [intOf]; omega
      · have HI5 := Lib.hid ((HI4.out.keep fun p _ hp => HBr.out.cell hp).mono hzr)
        clear HI4 HMem HBr
        go_wp2_with fail
        refine (HAll.out wr HBW.out A2 hv c2 (HHave.out wr HBW.out) (by omega)).mono ?_
        rintro e w7 ⟨A7, c7, rfl, hi7, hb7⟩
        have hz7 := hb7.size
        have b7 := (hb7.cell (p := ⟨w1.heap.size, 0, none⟩) (by show w1.heap.size < _; omega)).trans br
        obtain ⟨al, has⟩ : ∃ y, y = allV ts hv := ⟨_, rfl⟩
        rw [← has] at hi7 ⊢
        have hasl : al.length ≤ 32 := by rw [has]; have := all_len ts hv; omega
        have HI7 := Lib.hid ((hi7.ints).low (Nat.zero_le _))
        have HO7 := Lib.hid ((HI5.out.keep fun p _ hp => hb7.cell hp).mono hb7.size)
        have HB7 := Lib.hid (HBW.out.trans (hb7.mono (by omega)))
        have HSub := Lib.hid (fun (x : Int) (h : x ∈ os) => show x ∈ al by rw [has]; exact opened_all (by rw [← HOs.out]; exact h))
        have HOO := Lib.hid (show openedV ts os = os by rw [HOs.out]; exact opened_opened (lok_of HLk.out) (by omega))
        have HAA := Lib.hid (show allV ts al = al by rw [has]; exact all_all (lok_of HLk.out) (by omega))
        clear hi7 hb7 br has HI5
        go_wp2_with fail
        go_loopw [8] (fun i wq => ∃ k : Nat, k ≤ os.length ∧ i = .int .i64 k ∧ Below w7.heap.size w7 wq) (fun i _ => os.length - (intOf i).toNat)
        case atStart => exact ⟨0, Nat.zero_le _, rfl, Below.refl _ _⟩
        case round =>
          obtain ⟨k2, hk2, rfl, hbq⟩ := hrel
          have HBq := Lib.hid hbq
          have hzq := hbq.size
          have bq := (hbq.cell (p := ⟨w1.heap.size, 0, none⟩) (by show w1.heap.size < _; omega)).trans b7
          have HBV := Lib.hid (HB7.out.trans (hbq.mono (by omega)))
          have HIa := Lib.hid ((HI7.out.keep fun p _ hp => hbq.cell hp).mono hbq.size)
          have HIo := Lib.hid ((HO7.out.keep fun p _ hp => hbq.cell hp).mono hbq.size)
          clear hbq b7
          by_cases hlt2 : k2 < os.length
          · have hm := HSub.out os[k2] (List.getElem_mem hlt2)
            have CH := Lib.hid (hasInt_any A7 al c7 os[k2] wr HIa.out (by omega))
            obtain ⟨b, o, rfl, _, hb, hc⟩ := HIo.out (by omega)
            have hc0 := hc k2 hlt2
            clear hc
            go_wp2_with fail
            refine CH.out.mono ?_
            rintro e w8 ⟨rfl, hb8⟩
            rw [show decide (os[k2] ∈ al) = true by simp [hm]]
            have HB8 := Lib.hid (HBq.out.trans (hb8.mono (by omega)))
            clear hb8 CH hm hc0
            go_wp2_with fail
            go_roundw
            case rel => exact ⟨k2 + 1, by omega, by go_num, HB8.out⟩
            case measure => simp [intOf]; omega
          · have C1 := Lib.hid (HOpn.out wr HBV.out A3 os c3 HIo.out (by omega))
            clear HI7 HO7 HSub
            go_wp2_with fail
            refine C1.out.mono ?_
            rintro e w9 ⟨A9, c9, rfl, hi9, hb9⟩
            rw [HOO.out] at hi9 ⊢
            have hz9 := hb9.size
            have b9 := (hb9.cell (p := ⟨w1.heap.size, 0, none⟩) (by show w1.heap.size < _; omega)).trans bq
            have HB9 := Lib.hid (HBV.out.trans (hb9.mono (by omega)))
            have HIa9 := Lib.hid ((HIa.out.keep fun p _ hp => hb9.cell hp).mono hb9.size)
            have C2 := Lib.hid (sameInts_any A9 A3 os c9 c3 w9 ((hi9.ints).low (Nat.zero_le _)) ((HIo.out.keep fun p _ hp => hb9.cell hp).mono hb9.size) (by omega))
            clear hi9 hb9 bq C1
            go_wp2_with fail
            refine C2.out.mono ?_
            rintro e w10 ⟨rfl, hb10⟩
            have hz10 := hb10.size
            have b10 := (hb10.cell (p := ⟨w1.heap.size, 0, none⟩) (by show w1.heap.size < _; omega)).trans b9
            have HB10 := Lib.hid (HB9.out.trans (hb10.mono (by omega)))
            have HIa10 := Lib.hid ((HIa9.out.keep fun p _ hp => hb10.cell hp).mono hb10.size)
            have C3 := Lib.hid (HAll.out w10 HB10.out A7 al c7 HIa10.out (by omega))
            clear hb10 b9 C2
            go_wp2_with fail
            refine C3.out.mono ?_
            rintro e w11 ⟨A11, c11, rfl, hi11, hb11⟩
            rw [HAA.out] at hi11 ⊢
            have hz11 := hb11.size
            have HB11 := Lib.hid (HB10.out.trans (hb11.mono (by omega)))
            have C4 := Lib.hid (sameInts_any A11 A7 al c11 c7 w11 ((hi11.ints).low (Nat.zero_le _)) ((HIa10.out.keep fun p _ hp => hb11.cell hp).mono hb11.size) (by omega))
            clear hi11 hb11 b10 C3
            go_wp2_with fail
            refine C4.out.mono ?_
            rintro e w12 ⟨rfl, hb12⟩
            have hz12 := hb12.size
            have HB12 := Lib.hid (HB11.out.trans (hb12.mono (by omega)))
            have C5 := Lib.hid (terms_any w12)
            clear hb12 C4
            go_wp2_with fail
            refine C5.out.mono ?_
            rintro e w13 ⟨rfl, hb13⟩
            have HF := Lib.hid (HB2.out.trans ((HB12.out.trans (hb13.mono (by omega))).mono (by omega)))
            clear hb13 C5
            go_wp2_with fail
            go_ret
            exact ⟨rfl, HF.out⟩

end Go.Proofs.Ytigkojdchpjkcaa
