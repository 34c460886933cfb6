/-
  The law that what is put into a ledger is there by its number; that put in again it has the same; and that all else stays.
-/
import Derived.Test.YtigkojdchpjkcaaTep
import Derived.Test.YtigkojdchpjkcaaDte
import Derived.Test.YtigkojdchpjkcaaKept
namespace Go.Proofs.Ytigkojdchpjkcaa
open Go.RowKit Go.Maps

set_option maxRecDepth 100000 in
set_option maxHeartbeats 4000000 in
theorem fnTerms_any (A : Option Addr) (c : Nat) (code : List UInt8) (w : World) (hA : BytesIn w 0 w.heap.size A code) (hn : code.length ≤ 9223372036854775807) :
    Calls Try.prog 3 #[.slice A code.length c] w fun e w' => e = .returned (.bool true) ∧ Below w.heap.size w w' := by
  have HA := Lib.hid hA
  clear hA
  go_enter Try.func3, Try.ntmps3
  go_wp2_with fail
  refine (drawIntern_any A c code w HA.out hn).mono ?_
  rintro e w1 ⟨ts, A1, c1, t, A', c', rfl, ⟨hl1, hk1, htx⟩, ht1, ha1, hb1⟩
  obtain ⟨W2, hW2⟩ : ∃ y, y = (w1.alloc (.cells #[.slice A1 ts.length c1] 25)).alloc (.cells #[.int .i64 t.kind, .int .i64 t.a, .int .i64 t.b, .slice A' t.text.length c'] 27) := ⟨_, rfl⟩
  have hb2 : Below w1.heap.size w1 W2 := by rw [hW2]; exact ((Below.refl _ _).alloc (Nat.le_refl _) _).alloc (by simp) _
  have b2 : W2.cell? ⟨w1.heap.size, 0, none⟩ = some (.slice A1 ts.length c1) := by rw [hW2]; simp
  have hq2 : Bq W2 (w1.heap.size + 1) (.int .i64 t.kind) (.int .i64 t.a) (.int .i64 t.b) (.slice A' t.text.length c') := by
    rw [hW2]
    have h := Bq.new (w1.alloc (.cells #[.slice A1 ts.length c1] 25)) (.int .i64 t.kind) (.int .i64 t.a) (.int .i64 t.b) (.slice A' t.text.length c') 27
    simpa using h
  have hz2 : w1.heap.size + 2 ≤ W2.heap.size := by rw [hW2]; simp
  have HB2 := Lib.hid (hb1.trans (hb2.mono hb1.size))
  have hzw := hb1.size
  have HT := Lib.hid (fun (X : World) (hX : Below W2.heap.size W2 X) => show TmsIn X w.heap.size w1.heap.size A1 ts from ht1.keep fun p _ hp => (hX.cell (by omega)).trans (hb2.cell hp))
  have HY := Lib.hid (fun (X : World) (hX : Below W2.heap.size W2 X) => show BytesIn X w.heap.size w1.heap.size A' t.text from ha1.keep fun p _ hp => (hX.cell (by omega)).trans (hb2.cell hp))
  have HQ2 := Lib.hid hq2
  have HBk := Lib.hid b2
  -- the two variables of what was drawn, in each later world
  have HBox := Lib.hid (fun (X : World) (hX : Below W2.heap.size W2 X) => show X.cell? ⟨w1.heap.size, 0, none⟩ = some (.slice A1 ts.length c1) ∧ Bq X (w1.heap.size + 1) (.int .i64 t.kind) (.int .i64 t.a) (.int .i64 t.b) (.slice A' t.text.length c') from
    ⟨(hX.cell (p := ⟨w1.heap.size, 0, none⟩) (by show w1.heap.size < _; omega)).trans HBk.out, HQ2.out.below hX (Nat.le_refl _)⟩)
  obtain ⟨q0, q1, q2, q3, _, _, _, _⟩ := hq2
  clear ht1 ha1 hb1 hb2
  go_upto_region 2 with fail
  rw [← hW2]
  clear hW2
  have HI := Lib.hid (implIntern_g A1 A' w.heap.size w1.heap.size ts c1 t c' w.heap.size w1.heap.size W2 (HT.out _ (Below.refl _ _)) (by omega) (by omega) (by omega) (HY.out _ (Below.refl _ _)) (by omega) (by omega))
  go_wp2_with fail
  refine HI.out.mono ?_
  intro e w3 h3
  clear HI b2 q0 q1 q2 q3
  rcases intern_ways ts t with ⟨h1, h2⟩ | ⟨xs, i, h1, h2, hP⟩
  · rw [h1, h2] at h3
    obtain ⟨A3, c3, rfl, _, hb3⟩ := led_tms h3 0 rfl
    have hz3 := hb3.size
    have HB3 := Lib.hid (HB2.out.trans ((hb3.alloc (by omega) (.cells #[.slice A3 0 c3] 25)).mono (by omega)))
    have hs : (w3.alloc (.cells #[.slice A3 0 c3] 25)).heap.size = w3.heap.size + 1 := by simp
    have CT := Lib.hid (terms_any (w3.alloc (.cells #[.slice A3 0 c3] 25)))
    clear h1 h2 h3 hb3 HT HY HBox
    go_wp2_with fail
    refine CT.out.mono ?_
    rintro e w4 ⟨rfl, hb4⟩
    have HF := Lib.hid (HB3.out.trans (hb4.mono (by omega)))
    clear hb4 CT
    go_wp2_with fail
    go_ret
    exact ⟨rfl, HF.out⟩
  · rw [h1, h2] at h3
    obtain ⟨A3, c3, rfl, ht3, hb3⟩ := led_tms h3 xs.length rfl
    have hz3 := hb3.size
    have hge := hP.ge
    have hle := hP.le
    have hbk := hP.bk
    obtain ⟨hix, _⟩ := hP.here
    have HP := Lib.hid hP
    obtain ⟨W4, hW4⟩ : ∃ y, y = w3.alloc (.cells #[.slice A3 xs.length c3] 25) := ⟨_, rfl⟩
    have hb4 : Below w3.heap.size w3 W4 := by rw [hW4]; exact (Below.refl _ _).alloc (Nat.le_refl _) _
    have x4 : W4.cell? ⟨w3.heap.size, 0, none⟩ = some (.slice A3 xs.length c3) := by rw [hW4]; simp
    have hz4 : w3.heap.size < W4.heap.size := by rw [hW4]; simp
    have HB4 := Lib.hid (hb3.trans (hb4.mono hz3))
    have HX := Lib.hid (fun (X : World) (hX : Below W4.heap.size W4 X) => show TmsIn X W2.heap.size w3.heap.size A3 xs from ht3.keep fun p _ hp => (hX.cell (by omega)).trans (hb4.cell hp))
    obtain ⟨b4, q0, q1, q2, q3, _, _, _, _⟩ := HBox.out W4 HB4.out
    clear h1 h2 h3 hb3 hb4 ht3 hP
    go_upto_region 5 with fail
    rw [← hW4]
    clear hW4
    have HI := Lib.hid (implIntern_g A3 A' W2.heap.size w3.heap.size xs c3 t c' w.heap.size w1.heap.size W4 (HX.out _ (Below.refl _ _)) (by omega) (by omega) (by omega) (HY.out _ HB4.out) (by omega) (by omega))
    rw [HP.out.again.1, HP.out.again.2] at HI
    go_wp2_with fail
    refine HI.out.mono ?_
    intro e w5 h5
    obtain ⟨A5, c5, rfl, _, hb5⟩ := led_tms h5 xs.length rfl
    have hz5 := hb5.size
    obtain ⟨W6, hW6⟩ : ∃ y, y = w5.alloc (.cells #[.slice A5 xs.length c5] 25) := ⟨_, rfl⟩
    have hb6 : Below w5.heap.size w5 W6 := by rw [hW6]; exact (Below.refl _ _).alloc (Nat.le_refl _) _
    have y6 : W6.cell? ⟨w5.heap.size, 0, none⟩ = some (.slice A5 xs.length c5) := by rw [hW6]; simp
    have hz6 : w5.heap.size < W6.heap.size := by rw [hW6]; simp
    have h46 := hb5.trans (hb6.mono hz5)
    have HB46 := Lib.hid h46
    have x6 := (h46.cell (p := ⟨w3.heap.size, 0, none⟩) hz4).trans x4
    clear h5 hb5 hb6 h46 HI b4 q0 q1 q2 q3 x4
    go_upto_region 6 with fail
    rw [← hW6]
    clear hW6
    have HAt := Lib.hid (fun (X : World) (hX : Below W4.heap.size W4 X) (j : Nat) (hj : j < xs.length) => show Calls Try.prog 14 #[.agg #[.slice A3 xs.length c3], .int .i64 j] X (NewTmOk xs[j] true X) from by
      have h := implAt_g A3 xs c3 W2.heap.size w3.heap.size j X (HX.out X hX) (by have := hX.size; omega) (by omega) (by omega)
      rw [(at_in HP.out.ok hj).1, (at_in HP.out.ok hj).2] at h
      exact h)
    have HA6 := Lib.hid (show Calls Try.prog 14 #[.agg #[.slice A3 xs.length c3], .int .i64 i] W6 (NewTmOk t true W6) from by
      obtain ⟨hi, he⟩ := HP.out.here
      have h := HAt.out W6 HB46.out i hi
      rw [he] at h
      exact h)
    go_wp2_with fail
    refine HA6.out.mono ?_
    rintro e w7 ⟨A7, c7, rfl, hby7, hb7⟩
    have hz7 := hb7.size
    obtain ⟨W8, hW8⟩ : ∃ y, y = w7.alloc (.cells #[.int .i64 t.kind, .int .i64 t.a, .int .i64 t.b, .slice A7 t.text.length c7] 27) := ⟨_, rfl⟩
    have hb8 : Below w7.heap.size w7 W8 := by rw [hW8]; exact (Below.refl _ _).alloc (Nat.le_refl _) _
    have HU8 := Lib.hid (show Bq W8 w7.heap.size (.int .i64 t.kind) (.int .i64 t.a) (.int .i64 t.b) (.slice A7 t.text.length c7) by rw [hW8]; exact Bq.new _ _ _ _ _ _)
    have hz8 : w7.heap.size < W8.heap.size := by rw [hW8]; simp
    have h68 := hb7.trans (hb8.mono hz7)
    have HB8 := Lib.hid (HB46.out.trans (h68.mono (by omega)))
    have HY7 := Lib.hid (show BytesIn W8 W6.heap.size w7.heap.size A7 t.text from hby7.bytes.keep fun p _ hp => hb8.cell hp)
    have x8 := (h68.cell (p := ⟨w3.heap.size, 0, none⟩) (by show w3.heap.size < _; omega)).trans x6
    have y8 := (h68.cell (p := ⟨w5.heap.size, 0, none⟩) hz6).trans y6
    have HX8 := Lib.hid x8
    have HY8 := Lib.hid y8
    clear hby7 hb7 hb8 h68 HA6 x6 y6 y8
    have HB28 := Lib.hid (HB4.out.trans (HB8.out.mono (by omega)))
    go_upto_region 7 with fail
    rw [← hW8]
    clear hW8
    obtain ⟨b8, q0, q1, q2, q3, _, _, _, _⟩ := HBox.out W8 HB28.out
    go_wp2_with fail
    go_loopw [11, 12, 13] (fun j _ _ wr => ∃ k : Nat, k ≤ ts.length ∧ j = .int .i64 k ∧ Below W8.heap.size W8 wr) (fun j _ _ _ => ts.length - (intOf j).toNat)
    case atStart => exact ⟨0, Nat.zero_le _, rfl, Below.refl _ _⟩
    case round =>
      obtain ⟨k, hk, rfl, hbr⟩ := hrel
      have HBr := Lib.hid hbr
      have hzr := hbr.size
      have HB4r := Lib.hid (HB8.out.trans (hbr.mono (by omega)))
      have HB2r := Lib.hid (HB28.out.trans (hbr.mono (by omega)))
      have xr := (hbr.cell (p := ⟨w3.heap.size, 0, none⟩) (by show w3.heap.size < _; omega)).trans HX8.out
      clear hbr b8 q0 q1 q2 q3 x8
      obtain ⟨br, q0, q1, q2, q3, _, _, _, _⟩ := HBox.out wr HB2r.out
      by_cases hlt : k < ts.length
      · have HAk := Lib.hid (HAt.out wr HB4r.out k (by omega))
        obtain ⟨hk2, hke⟩ := HP.out.pre k hlt
        rw [hke] at HAk
        obtain ⟨bt, ot, rfl, _, hbt, hct⟩ := (HT.out wr HB2r.out) (by omega)
        obtain ⟨At, ct, p0, p1, p2, p3, _, _, hby⟩ := hct k hlt
        obtain ⟨kd, hkd⟩ : ∃ y, y = ts[k].kind := ⟨_, rfl⟩
        obtain ⟨ka, hka⟩ : ∃ y, y = ts[k].a := ⟨_, rfl⟩
        obtain ⟨kb, hkb⟩ : ∃ y, y = ts[k].b := ⟨_, rfl⟩
        obtain ⟨tx, htx2⟩ : ∃ y, y = ts[k].text := ⟨_, rfl⟩
        unfold NewTmOk at HAk
        rw [← hkd, ← hka, ← hkb, ← htx2] at HAk
        rw [← hkd] at p0
        rw [← hka] at p1
        rw [← hkb] at p2
        rw [← htx2] at p3 hby
        clear hct hke hkd hka hkb htx2
        go_wp2_with fail
        refine HAk.out.mono ?_
        rintro e w9 ⟨A9, c9, rfl, hby9, hb9⟩
        have hz9 := hb9.size
        obtain ⟨W10, hW10⟩ : ∃ y, y = w9.alloc (.cells #[.int .i64 kd, .int .i64 ka, .int .i64 kb, .slice A9 tx.length c9] 27) := ⟨_, rfl⟩
        have hb10 : Below w9.heap.size w9 W10 := by rw [hW10]; exact (Below.refl _ _).alloc (Nat.le_refl _) _
        obtain ⟨m0, m1, m2, m3, _, _, _, _⟩ : Bq W10 w9.heap.size (.int .i64 kd) (.int .i64 ka) (.int .i64 kb) (.slice A9 tx.length c9) := by rw [hW10]; exact Bq.new _ _ _ _ _ _
        have hz10 : w9.heap.size < W10.heap.size := by rw [hW10]; simp
        have h910 := hb9.trans (hb10.mono hz9)
        have HB10 := Lib.hid (HBr.out.trans (h910.mono hzr))
        have HSame := Lib.hid (fun (x : Kp W10) => show Calls Try.prog 15 #[.slice A9 tx.length c9, .slice At tx.length ct] x.val (fun e w' => e = .returned (.bool true) ∧ Below x.val.heap.size x.val w') from by
          refine (same_any tx tx A9 At c9 ct wr.heap.size w.heap.size w9.heap.size w1.heap.size x.val (hby9.bytes.keep fun p _ hp => (x.ok.cell (by omega)).trans (hb10.cell hp)) (hby.keep fun p _ hp => (x.ok.cell (by omega)).trans (h910.cell (by omega)))).mono ?_
          rintro e w' ⟨rfl, hb'⟩
          exact ⟨by simp, hb'⟩)
        have z0 : ∀ x : Kp W10, x.val.cell? ⟨w9.heap.size, 0, none⟩ = some (.int .i64 kd) := fun x => x.cell m0
        have z1 : ∀ x : Kp W10, x.val.cell? ⟨w9.heap.size, 1, none⟩ = some (.int .i64 ka) := fun x => x.cell m1
        have z2 : ∀ x : Kp W10, x.val.cell? ⟨w9.heap.size, 2, none⟩ = some (.int .i64 kb) := fun x => x.cell m2
        have z3 : ∀ x : Kp W10, x.val.cell? ⟨w9.heap.size, 3, none⟩ = some (.slice A9 tx.length c9) := fun x => x.cell m3
        have z4 : ∀ x : Kp W10, x.val.cell? ⟨w1.heap.size, 0, none⟩ = some (.slice (some ⟨bt, ot, none⟩) ts.length c1) := fun x => x.cell ((h910.cell (p := ⟨w1.heap.size, 0, none⟩) (by show w1.heap.size < _; omega)).trans br)
        have z5 : ∀ x : Kp W10, x.val.cell? ⟨bt, ot + k * 4, none⟩ = some (.int .i64 kd) := fun x => x.cell ((h910.cell (p := ⟨bt, ot + k * 4, none⟩) (by show bt < _; omega)).trans p0)
        have z6 : ∀ x : Kp W10, x.val.cell? ⟨bt, ot + k * 4 + 1, none⟩ = some (.int .i64 ka) := fun x => x.cell ((h910.cell (p := ⟨bt, ot + k * 4 + 1, none⟩) (by show bt < _; omega)).trans p1)
        have z7 : ∀ x : Kp W10, x.val.cell? ⟨bt, ot + k * 4 + 2, none⟩ = some (.int .i64 kb) := fun x => x.cell ((h910.cell (p := ⟨bt, ot + k * 4 + 2, none⟩) (by show bt < _; omega)).trans p2)
        have z8 : ∀ x : Kp W10, x.val.cell? ⟨bt, ot + k * 4 + 3, none⟩ = some (.slice At tx.length ct) := fun x => x.cell ((h910.cell (p := ⟨bt, ot + k * 4 + 3, none⟩) (by show bt < _; omega)).trans p3)
        have hzz : W8.heap.size ≤ W10.heap.size := by omega
        clear hby9 hb9 hb10 h910 m0 m1 m2 m3 p0 p1 p2 p3 hby xr br q0 q1 q2 q3 HAk HP HT HAt HX HY HBox
        go_upto_region 11 with fail
        rw [← hW10]
        clear hW10
        refine wp_region_kept (by kernel_rfl) (by kernel_rfl) ?_
        repeat (go_big_quiet_step ((go_at_call 15; refine kept_of (v := .bool true) (HSame.out _))))
        refine wpQuiet_nil ?_
        rintro _ ⟨x, rfl⟩
        have HB11 := Lib.hid (HB10.out.trans (x.ok.mono hzz))
        clear z0 z1 z2 z3 z4 z5 z6 z7 z8 HSame
        go_wp2_with fail
        go_roundw
        case rel => exact ⟨k + 1, by omega, by go_num, HB11.out⟩
        case measure => simp [intOf]; omega
      · obtain ⟨u0, u1, u2, u3, _, _, _, _⟩ := HU8.out.below HBr.out (Nat.le_refl _)
        have yr := (HBr.out.cell (p := ⟨w5.heap.size, 0, none⟩) (by show w5.heap.size < _; omega)).trans HY8.out
        have HS := Lib.hid (same_any t.text t.text A7 A' c7 c' W6.heap.size w.heap.size w7.heap.size w1.heap.size wr (HY7.out.keep fun p _ hp => HBr.out.cell (by omega)) (HY.out wr HB2r.out))
        have hle2 : (xs.length : Int) ≤ (ts.length : Int) + 1 := by omega
        go_wp2_with fail
        refine HS.out.mono ?_
        rintro e w9 ⟨rfl, hb9⟩
        rw [show decide True = true by rfl]
        have hz9 := hb9.size
        have HB9 := Lib.hid (HB4r.out.trans (hb9.mono (by omega)))
        have HB29 := Lib.hid (HB2r.out.trans (hb9.mono (by omega)))
        have x9 := (hb9.cell (p := ⟨w3.heap.size, 0, none⟩) (by show w3.heap.size < _; omega)).trans xr
        have HL := Lib.hid (implLookup_any A3 A' xs t c3 c' W2.heap.size w3.heap.size w.heap.size w1.heap.size w9 (HX.out w9 HB9.out) (by omega) (HY.out w9 HB29.out) (by omega) (by omega) (by omega) (by omega))
        rw [HP.out.look] at HL
        clear hb9 HS u0 u1 u2 u3 q0 q1 q2 q3 br xr yr
        obtain ⟨br, q0, q1, q2, q3, _, _, _, _⟩ := HBox.out w9 HB29.out
        go_wp2_with fail
        refine HL.out.mono ?_
        rintro e w10 ⟨rfl, hb10⟩
        have hz10 := hb10.size
        have HB10 := Lib.hid (HB9.out.trans (hb10.mono (by omega)))
        have HB210 := Lib.hid (HB29.out.trans (hb10.mono (by omega)))
        have x10 := (hb10.cell (p := ⟨w3.heap.size, 0, none⟩) (by show w3.heap.size < _; omega)).trans x9
        have HO := Lib.hid (implLedgerOk_any A3 xs c3 W2.heap.size w3.heap.size w10 (HX.out w10 HB10.out) (by omega) (by omega) (by omega))
        rw [lokB_true HP.out.ok] at HO
        clear hb10 HL q0 q1 q2 q3 br x9
        go_wp2_with fail
        refine HO.out.mono ?_
        rintro e w11 ⟨rfl, hb11⟩
        have hz11 := hb11.size
        have HB211 := Lib.hid (HB210.out.trans (hb11.mono (by omega)))
        have x11 := (hb11.cell (p := ⟨w3.heap.size, 0, none⟩) (by show w3.heap.size < _; omega)).trans x10
        obtain ⟨b11, _⟩ := HBox.out w11 HB211.out
        have CT := Lib.hid (terms_any w11)
        clear hb11 HO x10
        go_wp2_with fail
        refine CT.out.mono ?_
        rintro e w12 ⟨rfl, hb12⟩
        have HF := Lib.hid (HB2.out.trans ((HB211.out.trans (hb12.mono (by omega))).mono (by omega)))
        clear hb12 CT
        go_wp2_with fail
        go_ret
        exact ⟨rfl, HF.out⟩

end Go.Proofs.Ytigkojdchpjkcaa
