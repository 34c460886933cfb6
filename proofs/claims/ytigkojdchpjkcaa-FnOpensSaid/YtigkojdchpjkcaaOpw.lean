/-
  The law that a seal is opened with its key, and a mark is of one key and one thing.
-/
import Derived.Test.YtigkojdchpjkcaaDve
import Derived.Test.YtigkojdchpjkcaaTms
namespace Go.Proofs.Ytigkojdchpjkcaa
open Go.RowKit Go.Maps

set_option maxRecDepth 100000 in
set_option maxHeartbeats 4000000 in
theorem fnOpens_any (A : Option Addr) (c : Nat) (code : List UInt8) (w : World) (hA : BytesIn w 0 w.heap.size A code) (hn : code.length ≤ 9223372036854775807) :
    Calls Try.prog 4 #[.slice A code.length c] w fun e w' => e = .returned (.bool true) ∧ Below w.heap.size w w' := by
  have HA := Lib.hid hA
  clear hA
  go_enter Try.func4, Try.ntmps4
  go_wp2_with fail
  refine (drawOpen_any A c code w HA.out hn).mono ?_
  rintro e w1 ⟨ts, A1, c1, key, id, rfl, ⟨hl1, hk1, _⟩, ⟨hia, hib⟩, ht1, hb1⟩
  obtain ⟨W2, hW2⟩ : ∃ y, y = w1.alloc (.cells #[.slice A1 ts.length c1] 25) := ⟨_, rfl⟩
  have hb2 : Below w1.heap.size w1 W2 := by rw [hW2]; exact (Below.refl _ _).alloc (Nat.le_refl _) _
  have b2 : W2.cell? ⟨w1.heap.size, 0, none⟩ = some (.slice A1 ts.length c1) := by rw [hW2]; simp
  have hz2 : w1.heap.size < W2.heap.size := by rw [hW2]; simp
  have HT2 := Lib.hid (ht1.keep fun p _ hp => hb2.cell hp)
  have HB2 := Lib.hid (hb1.trans (hb2.mono hb1.size))
  have hzw := hb1.size
  clear ht1 hb1 hb2
  go_upto_region 2 with fail
  rw [← hW2]
  clear hW2
  -- what follows region 5: the second draw
  have HRest := Lib.hid (fun (X : World) (hX : Below w.heap.size w X) => (drawVerify_any A c code X ((HA.out.keep fun p _ hp => hX.cell hp).mono hX.size) hn))
  have HOp := Lib.hid (implOpen_any A1 ts c1 w.heap.size w1.heap.size key id W2 HT2.out (by omega) (by omega) (by omega))
  go_wp2_with fail
  refine HOp.out.mono ?_
  rintro e w3 ⟨rfl, hb3⟩
  have hz3 := hb3.size
  have b3 := (hb3.cell (p := ⟨w1.heap.size, 0, none⟩) hz2).trans b2
  have HB3 := Lib.hid (HB2.out.trans (hb3.mono (by omega)))
  have HAt0 := Lib.hid (implAt_g A1 ts c1 w.heap.size w1.heap.size id w3 (HT2.out.keep fun p _ hp => hb3.cell (by omega)) (by omega) (by omega) (by omega))
  clear hb3 b2 HOp HT2
  -- the two ways: opened, or not
  have HWay := Lib.hid (show (∃ x, openV ts key id = .tuple #[.int .i64 x, .bool true] ∧ Hid (Calls Try.prog 14 #[.agg #[.slice A1 ts.length c1], .int .i64 id] w3 (fun e w' => ∃ A' n c', e = .returned (.tuple #[.agg #[.int .i64 5, .int .i64 key, .int .i64 x, .slice A' n c'], .bool true]) ∧ Below w3.heap.size w3 w'))) ∨
      (openV ts key id = .tuple #[.int .i64 (-1), .bool false] ∧ Hid (Calls Try.prog 14 #[.agg #[.slice A1 ts.length c1], .int .i64 id] w3 (fun e w' => ∃ k a b A' n c' ok, e = .returned (.tuple #[.agg #[.int .i64 k, .int .i64 a, .int .i64 b, .slice A' n c'], .bool ok]) ∧ Below w3.heap.size w3 w'))) from by
    by_cases h : OpenP ts key id
    · obtain ⟨h1, h2, h3, h4, h5⟩ := open_yes' h
      refine .inl ⟨_, h1, Lib.hid (HAt0.out.mono ?_)⟩
      rintro e w' ⟨A', c', rfl, _, hb⟩
      rw [h2, h3, h4, h5]
      exact ⟨A', _, c', rfl, hb⟩
    · refine .inr ⟨open_no' h, Lib.hid (HAt0.out.mono ?_)⟩
      rintro e w' ⟨A', c', rfl, _, hb⟩
      exact ⟨_, _, _, A', _, c', _, rfl, hb⟩)
  clear HAt0
  obtain ⟨ov, hov⟩ : ∃ y, y = openV ts key id := ⟨_, rfl⟩
  rw [← hov] at HWay ⊢
  clear hov
  rcases HWay.out with ⟨x, rfl, HAt⟩ | ⟨rfl, HAt⟩
  all_goals clear HWay
  · go_wp2_with fail
    refine HAt.out.mono ?_
    rintro e w4 ⟨A4, n4, c4, rfl, hb4⟩
    have hz4 := hb4.size
    obtain ⟨W4, hW4⟩ : ∃ y, y = w4.alloc (.cells #[.int .i64 5, .int .i64 key, .int .i64 x, .slice A4 n4 c4] 27) := ⟨_, rfl⟩
    have HB4 := Lib.hid (show Below w.heap.size w W4 by rw [hW4]; exact HB3.out.trans ((hb4.mono (by omega)).alloc (by omega) _))
    have hz44 : w4.heap.size < W4.heap.size := by rw [hW4]; simp
    have HR4 := Lib.hid (HRest.out _ HB4.out)
    clear hb4 HAt HRest HB3
    go_upto_region 6 with fail
    rw [← hW4]
    clear hW4 b3
    go_wp2_with fail
    refine HR4.out.mono ?_
    rintro e w5 ⟨us, A5, c5, key2, sig, msg, rfl, ⟨hl5, hk5⟩, ht5, hb5⟩
    have hz5 := hb5.size
    obtain ⟨W6, hW6⟩ : ∃ y, y = w5.alloc (.cells #[.slice A5 us.length c5] 25) := ⟨_, rfl⟩
    have hb6 : Below w5.heap.size w5 W6 := by rw [hW6]; exact (Below.refl _ _).alloc (Nat.le_refl _) _
    have b6 : W6.cell? ⟨w5.heap.size, 0, none⟩ = some (.slice A5 us.length c5) := by rw [hW6]; simp
    have hz6 : w5.heap.size < W6.heap.size := by rw [hW6]; simp
    have HB6 := Lib.hid (HB4.out.trans ((hb5.trans (hb6.mono hz5)).mono (by omega)))
    have HT6 := Lib.hid (show TmsIn W6 W4.heap.size w5.heap.size A5 us from ht5.keep fun p _ hp => hb6.cell hp)
    have HV := Lib.hid (fun (X : World) (hX : Below W6.heap.size W6 X) (k s m : Int) => implVerify_any A5 us c5 W4.heap.size w5.heap.size k s m X (HT6.out.keep fun p _ hp => hX.cell (by omega)) (by have := hX.size; omega) (by omega) (by omega))
    have HV0 := Lib.hid (HV.out W6 (Below.refl _ _) key2 sig msg)
    clear ht5 hb5 hb6 HR4 HB4 HT6
    go_upto_region 7 with fail
    rw [← hW6]
    clear hW6
    go_wp2_with fail
    refine HV0.out.mono ?_
    rintro e w7 ⟨rfl, hb7⟩
    have hz7 := hb7.size
    have b7 := (hb7.cell (p := ⟨w5.heap.size, 0, none⟩) hz6).trans b6
    have HB7 := Lib.hid hb7
    clear hb7 b6 HV0
    cases hv : verifyB us key2 sig msg with
    | false =>
      have CT := Lib.hid (terms_any w7)
      clear HV hv
      go_wp2_with fail
      refine CT.out.mono ?_
      rintro e w8 ⟨rfl, hb8⟩
      have HF := Lib.hid (HB6.out.trans ((HB7.out.trans (hb8.mono (by omega))).mono (by omega)))
      clear hb8 CT
      go_wp2_with fail
      go_ret
      exact ⟨rfl, HF.out⟩
    | true =>
      have HV1 := Lib.hid (ver_one hv)
      clear hv
      go_wp2_with fail
      go_loopw [14] (fun i wr => ∃ k : Nat, k ≤ us.length ∧ i = .int .i64 k ∧ Below W6.heap.size W6 wr) (fun i _ => us.length - (intOf i).toNat)
      case atStart => exact ⟨0, Nat.zero_le _, rfl, HB7.out⟩
      case round =>
        obtain ⟨k, hk, rfl, hbr⟩ := hrel
        have HBr := Lib.hid hbr
        have hzr := hbr.size
        have br := (hbr.cell (p := ⟨w5.heap.size, 0, none⟩) hz6).trans ((HB7.out.cell (p := ⟨w5.heap.size, 0, none⟩) hz6).symm.trans b7)
        clear hbr b7
        by_cases hlt : k < us.length
        · have HC1 := Lib.hid (HV.out wr HBr.out k sig msg)
          by_cases e1 : (k : Int) = key2
          · by_cases e2 : (k : Int) = msg
            · subst e1
              subst e2
              clear HC1 HV
              go_wp2_with fail
              go_roundw
              case rel => exact ⟨k + 1, by omega, by go_num, HBr.out⟩
              case measure => simp [intOf]; omega
            · subst e1
              have HC2 := Lib.hid (HV.out wr HBr.out k sig k)
              have hv2 := HV1.out.2 k e2
              clear HC1 HV
              go_wp2_with fail
              refine HC2.out.mono ?_
              rintro e w8 ⟨rfl, hb8⟩
              rw [hv2]
              have HB8 := Lib.hid (HBr.out.trans (hb8.mono hzr))
              clear hb8 HC2
              go_wp2_with fail
              go_roundw
              case rel => exact ⟨k + 1, by omega, by go_num, HB8.out⟩
              case measure => simp [intOf]; omega
          · have hv1 := HV1.out.1 k e1
            go_wp2_with fail
            refine HC1.out.mono ?_
            rintro e w8 ⟨rfl, hb8⟩
            rw [hv1]
            have hz8 := hb8.size
            have HB8 := Lib.hid (HBr.out.trans (hb8.mono hzr))
            have b8 := (hb8.cell (p := ⟨w5.heap.size, 0, none⟩) (by show w5.heap.size < _; omega)).trans br
            clear hb8 HC1 hv1
            by_cases e2 : (k : Int) = msg
            · subst e2
              clear HV
              go_wp2_with fail
              go_roundw
              case rel => exact ⟨k + 1, by omega, by go_num, HB8.out⟩
              case measure => simp [intOf]; omega
            · have HC2 := Lib.hid (HV.out w8 HB8.out key2 sig k)
              have hv2 := HV1.out.2 k e2
              clear HV
              go_wp2_with fail
              refine HC2.out.mono ?_
              rintro e w9 ⟨rfl, hb9⟩
              rw [hv2]
              have HB9 := Lib.hid (HB8.out.trans (hb9.mono (by omega)))
              clear hb9 HC2
              go_wp2_with fail
              go_roundw
              case rel => exact ⟨k + 1, by omega, by go_num, HB9.out⟩
              case measure => simp [intOf]; omega
        · have CT := Lib.hid (terms_any wr)
          clear HV
          go_wp2_with fail
          refine CT.out.mono ?_
          rintro e w8 ⟨rfl, hb8⟩
          have HF := Lib.hid (HB6.out.trans ((HBr.out.trans (hb8.mono (by omega))).mono (by omega)))
          clear hb8 CT
          go_wp2_with fail
          go_ret
          exact ⟨rfl, HF.out⟩
  · go_wp2_with fail
    refine HAt.out.mono ?_
    rintro e w4 ⟨kd, ka, kb, A4, n4, c4, ok, rfl, hb4⟩
    have hz4 := hb4.size
    obtain ⟨W4, hW4⟩ : ∃ y, y = w4.alloc (.cells #[.int .i64 kd, .int .i64 ka, .int .i64 kb, .slice A4 n4 c4] 27) := ⟨_, rfl⟩
    have HB4 := Lib.hid (show Below w.heap.size w W4 by rw [hW4]; exact HB3.out.trans ((hb4.mono (by omega)).alloc (by omega) _))
    have hz44 : w4.heap.size < W4.heap.size := by rw [hW4]; simp
    have HR4 := Lib.hid (HRest.out _ HB4.out)
    clear hb4 HAt HRest HB3
    go_upto_region 6 with fail
    rw [← hW4]
    clear hW4 b3
    go_wp2_with fail
    refine HR4.out.mono ?_
    rintro e w5 ⟨us, A5, c5, key2, sig, msg, rfl, ⟨hl5, hk5⟩, ht5, hb5⟩
    have hz5 := hb5.size
    obtain ⟨W6, hW6⟩ : ∃ y, y = w5.alloc (.cells #[.slice A5 us.length c5] 25) := ⟨_, rfl⟩
    have hb6 : Below w5.heap.size w5 W6 := by rw [hW6]; exact (Below.refl _ _).alloc (Nat.le_refl _) _
    have b6 : W6.cell? ⟨w5.heap.size, 0, none⟩ = some (.slice A5 us.length c5) := by rw [hW6]; simp
    have hz6 : w5.heap.size < W6.heap.size := by rw [hW6]; simp
    have HB6 := Lib.hid (HB4.out.trans ((hb5.trans (hb6.mono hz5)).mono (by omega)))
    have HT6 := Lib.hid (show TmsIn W6 W4.heap.size w5.heap.size A5 us from ht5.keep fun p _ hp => hb6.cell hp)
    have HV := Lib.hid (fun (X : World) (hX : Below W6.heap.size W6 X) (k s m : Int) => implVerify_any A5 us c5 W4.heap.size w5.heap.size k s m X (HT6.out.keep fun p _ hp => hX.cell (by omega)) (by have := hX.size; omega) (by omega) (by omega))
    have HV0 := Lib.hid (HV.out W6 (Below.refl _ _) key2 sig msg)
    clear ht5 hb5 hb6 HR4 HB4 HT6
    go_upto_region 7 with fail
    rw [← hW6]
    clear hW6
    go_wp2_with fail
    refine HV0.out.mono ?_
    rintro e w7 ⟨rfl, hb7⟩
    have hz7 := hb7.size
    have b7 := (hb7.cell (p := ⟨w5.heap.size, 0, none⟩) hz6).trans b6
    have HB7 := Lib.hid hb7
    clear hb7 b6 HV0
    cases hv : verifyB us key2 sig msg with
    | false =>
      have CT := Lib.hid (terms_any w7)
      clear HV hv
      go_wp2_with fail
      refine CT.out.mono ?_
      rintro e w8 ⟨rfl, hb8⟩
      have HF := Lib.hid (HB6.out.trans ((HB7.out.trans (hb8.mono (by omega))).mono (by omega)))
      clear hb8 CT
      go_wp2_with fail
      go_ret
      exact ⟨rfl, HF.out⟩
    | true =>
      have HV1 := Lib.hid (ver_one hv)
      clear hv
      go_wp2_with fail
      go_loopw [14] (fun i wr => ∃ k : Nat, k ≤ us.length ∧ i = .int .i64 k ∧ Below W6.heap.size W6 wr) (fun i _ => us.length - (intOf i).toNat)
      case atStart => exact ⟨0, Nat.zero_le _, rfl, HB7.out⟩
      case round =>
        obtain ⟨k, hk, rfl, hbr⟩ := hrel
        have HBr := Lib.hid hbr
        have hzr := hbr.size
        have br := (hbr.cell (p := ⟨w5.heap.size, 0, none⟩) hz6).trans ((HB7.out.cell (p := ⟨w5.heap.size, 0, none⟩) hz6).symm.trans b7)
        clear hbr b7
        by_cases hlt : k < us.length
        · have HC1 := Lib.hid (HV.out wr HBr.out k sig msg)
          by_cases e1 : (k : Int) = key2
          · by_cases e2 : (k : Int) = msg
            · subst e1
              subst e2
              clear HC1 HV
              go_wp2_with fail
              go_roundw
              case rel => exact ⟨k + 1, by omega, by go_num, HBr.out⟩
              case measure => simp [intOf]; omega
            · subst e1
              have HC2 := Lib.hid (HV.out wr HBr.out k sig k)
              have hv2 := HV1.out.2 k e2
              clear HC1 HV
              go_wp2_with fail
              refine HC2.out.mono ?_
              rintro e w8 ⟨rfl, hb8⟩
              rw [hv2]
              have HB8 := Lib.hid (HBr.out.trans (hb8.mono hzr))
              clear hb8 HC2
              go_wp2_with fail
              go_roundw
              case rel => exact ⟨k + 1, by omega, by go_num, HB8.out⟩
              case measure => simp [intOf]; omega
          · have hv1 := HV1.out.1 k e1
            go_wp2_with fail
            refine HC1.out.mono ?_
            rintro e w8 ⟨rfl, hb8⟩
            rw [hv1]
            have hz8 := hb8.size
            have HB8 := Lib.hid (HBr.out.trans (hb8.mono hzr))
            have b8 := (hb8.cell (p := ⟨w5.heap.size, 0, none⟩) (by show w5.heap.size < _; omega)).trans br
            clear hb8 HC1 hv1
            by_cases e2 : (k : Int) = msg
            · subst e2
              clear HV
              go_wp2_with fail
              go_roundw
              case rel => exact ⟨k + 1, by omega, by go_num, HB8.out⟩
              case measure => simp [intOf]; omega
            · have HC2 := Lib.hid (HV.out w8 HB8.out key2 sig k)
              have hv2 := HV1.out.2 k e2
              clear HV
              go_wp2_with fail
              refine HC2.out.mono ?_
              rintro e w9 ⟨rfl, hb9⟩
              rw [hv2]
              have HB9 := Lib.hid (HB8.out.trans (hb9.mono (by omega)))
              clear hb9 HC2
              go_wp2_with fail
              go_roundw
              case rel => exact ⟨k + 1, by omega, by go_num, HB9.out⟩
              case measure => simp [intOf]; omega
        · have CT := Lib.hid (terms_any wr)
          clear HV
          go_wp2_with fail
          refine CT.out.mono ?_
          rintro e w8 ⟨rfl, hb8⟩
          have HF := Lib.hid (HB6.out.trans ((HBr.out.trans (hb8.mono (by omega))).mono (by omega)))
          clear hb8 CT
          go_wp2_with fail
          go_ret
          exact ⟨rfl, HF.out⟩

end Go.Proofs.Ytigkojdchpjkcaa
