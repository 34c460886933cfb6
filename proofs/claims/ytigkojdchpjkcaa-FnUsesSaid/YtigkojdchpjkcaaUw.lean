/-
  The law that who is made of a term uses it, and nobody else; that terms of all kinds are all; and that keys are those that seal and sign.
-/
import Derived.Test.YtigkojdchpjkcaaUp
import Derived.Test.YtigkojdchpjkcaaKept
namespace Go.Proofs.Ytigkojdchpjkcaa
open Go.RowKit Go.Maps

set_option maxRecDepth 100000 in
set_option maxHeartbeats 4000000 in
theorem fnUses_any (A : Option Addr) (c : Nat) (code : List UInt8) (w : World) (hA : BytesIn w 0 w.heap.size A code) (hn : code.length ≤ 9223372036854775807) :
    Calls Try.prog 9 #[.slice A code.length c] w fun e w' => e = .returned (.bool true) ∧ Below w.heap.size w w' := by
  have HA := Lib.hid hA
  clear hA
  go_enter Try.func9, Try.ntmps9
  go_wp2_with fail
  refine (drawUsesOf_any A c code w HA.out hn).mono ?_
  rintro e w1 ⟨ts, A1, c1, id, rfl, ⟨hl1, hk1, _⟩, ⟨hia, hib⟩, ht1, hb1⟩
  obtain ⟨W2, hW2⟩ : ∃ y, y = w1.alloc (.cells #[.slice A1 ts.length c1] 25) := ⟨_, rfl⟩
  have hb2 : Below w1.heap.size w1 W2 := by rw [hW2]; exact (Below.refl _ _).alloc (Nat.le_refl _) _
  have b2 : W2.cell? ⟨w1.heap.size, 0, none⟩ = some (.slice A1 ts.length c1) := by rw [hW2]; simp
  have hz2 : w1.heap.size < W2.heap.size := by rw [hW2]; simp
  have HT2 := Lib.hid (ht1.keep fun p _ hp => hb2.cell hp)
  have HB2 := Lib.hid (hb1.trans (hb2.mono hb1.size))
  have hzw := hb1.size
  have HT := Lib.hid (fun (X : World) (hX : Below W2.heap.size W2 X) => show TmsIn X w.heap.size w1.heap.size A1 ts from HT2.out.keep fun p _ hp => hX.cell (by omega))
  clear ht1 hb1 hb2
  go_upto_region 2 with fail
  rw [← hW2]
  clear hW2
  go_wp2_with fail
  refine (implUsesOf_any A1 ts c1 w.heap.size w1.heap.size id W2 HT2.out (by omega) (by omega) (by omega)).mono ?_
  rintro e w3 ⟨A3, c3, rfl, hi3, hb3⟩
  have hz3 := hb3.size
  have b3 := (hb3.cell (p := ⟨w1.heap.size, 0, none⟩) hz2).trans b2
  obtain ⟨us, hus⟩ : ∃ y, y = usesV ts id := ⟨_, rfl⟩
  rw [← hus] at hi3 ⊢
  have hul : us.length ≤ 32 := by rw [hus]; have := usesV_length ts id; omega
  have HU := Lib.hid (fun (x : Int) (hx : x ∈ us) => uses_mem (ts := ts) (id := id) (by rw [← hus]; exact hx))
  have HU0 := Lib.hid (fun (h : lokB ts = false) => show us = [] by rw [hus]; unfold usesV; rw [if_neg (by simp [h])])
  have HI3 := Lib.hid ((hi3.ints).low (Nat.zero_le _))
  have HB3 := Lib.hid hb3
  clear hi3 hb3 b2 hus
  go_wp2_with fail
  refine (implKeysOf_any A1 ts c1 w.heap.size w1.heap.size w3 (HT.out _ HB3.out) (by omega) (by omega) (by omega)).mono ?_
  rintro e w4 ⟨A4, c4, rfl, hi4, hb4⟩
  have hz4 := hb4.size
  have b4 := (hb4.cell (p := ⟨w1.heap.size, 0, none⟩) (by show w1.heap.size < _; omega)).trans b3
  obtain ⟨ks, hks⟩ : ∃ y, y = keysV ts := ⟨_, rfl⟩
  rw [← hks] at hi4 ⊢
  have hkl : ks.length ≤ 32 := by rw [hks]; have := keysV_length ts; omega
  have HK := Lib.hid (fun (hok : LOk ts) (i : Nat) (hi : i < ts.length) (hk : 5 ≤ ts[i].kind) => show ts[i].a ∈ ks ∧ (i : Int) ∈ usesV ts ts[i].b by rw [hks]; exact seal_uses hok hi hk)
  have HK0 := Lib.hid (fun (h : lokB ts = false) => show ks = [] by rw [hks]; unfold keysV; rw [if_neg (by simp [h])])
  have HKn := Lib.hid (fun (hok : LOk ts) => show ks.length = countK ts 1 by rw [hks]; exact keys_count hok)
  have HI4 := Lib.hid ((hi4.ints).low (Nat.zero_le _))
  have HI3b := Lib.hid ((HI3.out.keep fun p _ hp => hb4.cell hp).mono hb4.size)
  have HB4 := Lib.hid (HB3.out.trans (hb4.mono hz3))
  clear hi4 hb4 b3 hks HI3
  go_wp2_with fail
  refine (specLedgerOk_any A1 ts c1 w.heap.size w1.heap.size w4 (HT.out _ HB4.out) (by omega) (by omega) (by omega)).mono ?_
  rintro e w5 ⟨rfl, hb5⟩
  have hz5 := hb5.size
  have b5 := (hb5.cell (p := ⟨w1.heap.size, 0, none⟩) (by show w1.heap.size < _; omega)).trans b4
  have HI5 := Lib.hid ((HI3b.out.keep fun p _ hp => hb5.cell hp).mono hb5.size)
  have HK5 := Lib.hid ((HI4.out.keep fun p _ hp => hb5.cell hp).mono hb5.size)
  have HB5 := Lib.hid (HB4.out.trans (hb5.mono (by omega)))
  have HC := Lib.hid (fun (X : World) (hX : Below W2.heap.size W2 X) (k : Int) => implCountKind_any A1 ts c1 w.heap.size w1.heap.size k X (HT.out X hX) (by have := hX.size; omega) (by omega) (by omega))
  clear hb5 b4 HI3b HI4 HB3 HB4 HT2
  cases hlk : lokB ts with
  | false =>
    have hu0 := HU0.out hlk
    have hk0 := HK0.out hlk
    subst hu0 hk0
    have HC0 := Lib.hid (HC.out w5 HB5.out 0)
    have hcv : countV ts 0 = -1 := by unfold countV; rw [if_neg (by simp [hlk])]
    clear HU0 HK0 HU HK HKn HC hlk
    go_wp2_with fail
    refine HC0.out.mono ?_
    rintro e w6 ⟨rfl, hb6⟩
    rw [hcv]
    have HB6 := Lib.hid (HB5.out.trans (hb6.mono (by omega)))
    have CT := Lib.hid (terms_any w6)
    have hz6 := hb6.size
    clear hb6 HC0 hcv
    go_wp2_with fail
    refine CT.out.mono ?_
    rintro e w7 ⟨rfl, hb7⟩
    have HF := Lib.hid (HB2.out.trans ((HB6.out.trans (hb7.mono (by omega))).mono (by omega)))
    clear hb7 CT
    go_wp2_with fail
    go_ret
    exact ⟨rfl, HF.out⟩
  | true =>
    have HOk := Lib.hid (lok_of hlk)
    have hcv : ∀ k : Int, countV ts k = (countK ts k : Nat) := fun k => by unfold countV; rw [if_pos hlk]
    have HCV := Lib.hid hcv
    clear HU0 HK0 hlk hcv
    go_wp2_with fail
    go_loopw [7, 8] (fun n i wr => ∃ k : Nat, k ≤ 7 ∧ n = .int .i64 (belowK ts k : Nat) ∧ i = .int .i64 k ∧ Below w5.heap.size w5 wr) (fun _ i _ => 7 - (intOf i).toNat)
    case atStart => exact ⟨0, by omega, by rw [show ((0 : Nat) : Int) = 0 by rfl, belowK_zero HOk.out]; rfl, rfl, Below.refl _ _⟩
    case round =>
      obtain ⟨k, hk, rfl, rfl, hbr⟩ := hrel
      have HBr := Lib.hid (HB5.out.trans (hbr.mono (by omega)))
      have HB5r := Lib.hid hbr
      have hzr := hbr.size
      have br := (hbr.cell (p := ⟨w1.heap.size, 0, none⟩) (by show w1.heap.size < _; omega)).trans b5
      clear hbr
      by_cases hlt : k < 7
      · have hle : (k : Int) ≤ 6 := by omega
        have h1 := belowK_succ ts k
        have h2 := belowK_le ts k
        have h3 := countK_le ts k
        have HCk := Lib.hid (HC.out wr HBr.out k)
        go_wp2_with fail
        refine HCk.out.mono ?_
        rintro e w6 ⟨rfl, hb6⟩
        rw [HCV.out]
        have hw : IntKind.i64.wrap (((belowK ts k : Nat) : Int) + ((countK ts k : Nat) : Int)) = ((belowK ts ((k + 1 : Nat) : Int) : Nat) : Int) := by
          rw [show ((k + 1 : Nat) : Int) = (k : Int) + 1 by omega, h1, IntKind.wrap_i64]; omega
        have HB6 := Lib.hid (HB5r.out.trans (hb6.mono hzr))
        clear hb6 h1 h2 h3 HCk
        go_wp2_with fail
        go_roundw
        case rel => exact ⟨k + 1, by omega, by first | rfl | rw [hw], by go_num, HB6.out⟩
        case measure => simp [intOf]; omega
      · have hk7 : k = 7 := by omega
        subst hk7
        obtain ⟨wa, rfl⟩ : ∃ X : World, X = wr := ⟨_, rfl⟩
        rw [show ((7 : Nat) : Int) = 7 by rfl, belowK_all HOk.out]
        have HIu := Lib.hid ((HI5.out.keep fun p _ hp => HB5r.out.cell hp).mono hzr)
        have HIk := Lib.hid ((HK5.out.keep fun p _ hp => HB5r.out.cell hp).mono hzr)
        clear HI5 HK5 HB5r b5 hlt hk
        go_wp2_with fail
        go_loopw [9] (fun i wq => ∃ k : Nat, k ≤ us.length ∧ i = .int .i64 k ∧ Below wa.heap.size wa wq) (fun i _ => us.length - (intOf i).toNat)
        case atStart => exact ⟨0, Nat.zero_le _, rfl, Below.refl _ _⟩
        case round =>
          obtain ⟨k2, hk2, rfl, hbq⟩ := hrel
          obtain ⟨wq, rfl⟩ : ∃ X : World, X = wr := ⟨_, rfl⟩
          have HBq := Lib.hid hbq
          have HBW := Lib.hid (HBr.out.trans (hbq.mono (by omega)))
          have hzq := hbq.size
          have bq := (hbq.cell (p := ⟨w1.heap.size, 0, none⟩) (by show w1.heap.size < _; omega)).trans br
          clear hbq
          by_cases hlt2 : k2 < us.length
          · obtain ⟨b, o, rfl, _, hb, hc⟩ := HIu.out (by omega)
            obtain ⟨j, hj, hjl, hjid, hmem⟩ := HU.out us[k2] (List.getElem_mem hlt2)
            have hc0 := (HBq.out.cell (p := ⟨b, o + k2, none⟩) hb).trans (hc k2 hlt2)
            rw [hj] at hc0
            obtain ⟨ss, hss⟩ : ∃ y, y = subsV ts (j : Int) := ⟨_, rfl⟩
            have hsl : ss.length ≤ 32 := by rw [hss]; have := subsV_length ts (j : Int); omega
            rw [← hss] at hmem
            have HS := Lib.hid (show Calls Try.prog 39 #[.agg #[.slice A1 ts.length c1], .int .i64 j] wq.drew (fun e w' => ∃ A7 c7, e = .returned (.slice A7 ss.length c7) ∧ (w'.cell? ⟨w1.heap.size, 0, none⟩ = some (.slice A1 ts.length c1) ∧ w'.cell? ⟨b, o + k2, none⟩ = some (.int .i64 j)) ∧
                Hid (Calls Try.prog 25 #[.slice A7 ss.length c7, .int .i64 id] w' (fun e w'' => e = .returned (.bool true) ∧ Below wa.heap.size wa w''))) from by
              refine (implSubterms_any A1 ts c1 w.heap.size w1.heap.size j wq.drew (HT.out _ HBW.out.drew) (by show w1.heap.size ≤ wq.heap.size; omega) (by omega) (by omega)).mono ?_
              rintro e w' ⟨A7, c7, rfl, hi7, hb7⟩
              rw [← hss] at hi7 ⊢
              have hb2' : Below wa.heap.size wa w' := HBq.out.drew.trans (hb7.mono hzq)
              refine ⟨A7, c7, rfl, ⟨(hb7.cell (p := ⟨w1.heap.size, 0, none⟩) (by show w1.heap.size < wq.heap.size; omega)).trans bq, (hb7.cell (p := ⟨b, o + k2, none⟩) (by show b < wq.heap.size; omega)).trans hc0⟩, Lib.hid ?_⟩
              refine (hasInt_any A7 ss c7 id w' ((hi7.ints).low (Nat.zero_le _)) (by omega)).mono ?_
              rintro e w'' ⟨rfl, hb''⟩
              rw [show decide (id ∈ ss) = true by simp [hmem]]
              exact ⟨rfl, hb2'.trans (hb''.mono hb2'.size)⟩)
            clear hc hj hmem hss
            go_upto_region 14 with fail
            have hjn : ¬ ((j : Int) ≤ id) := by omega
            go_region_law
              (first
                | (go_simp
                   go_at_call 39
                   refine HS.out.mono ?_
                   rintro e w6 ⟨A7, c7, rfl, ⟨e6, f6⟩, HS2⟩
                   clear HS
                   go_wp2_with fail)
                | (go_simp
                   go_at_call 25
                   refine HS2.out.mono ?_
                   rintro e w9 ⟨rfl, hb9⟩
                   have HB9 := Lib.hid hb9
                   clear hb9 HS2
                   go_wp2_with fail))
            all_goals
              go_wp2_with fail
              go_roundw
              case rel => exact ⟨k2 + 1, by omega, by go_num, HB9.out⟩
              case measure => simp [intOf]; omega
          · have HIq := Lib.hid ((HIk.out.keep fun p _ hp => HBq.out.cell hp).mono hzq)
            clear HIu HIk HU HBq
            go_wp2_with fail
            go_loopw [10] (fun i wp => ∃ k : Nat, k ≤ ts.length ∧ i = .int .i64 k ∧ Below wq.heap.size wq wp) (fun i _ => ts.length - (intOf i).toNat)
            case atStart => exact ⟨0, Nat.zero_le _, rfl, Below.refl _ _⟩
            case round =>
              obtain ⟨k3, hk3, rfl, hbp⟩ := hrel
              obtain ⟨wp, rfl⟩ : ∃ X : World, X = wr := ⟨_, rfl⟩
              have HBp := Lib.hid hbp
              have HBV := Lib.hid (HBW.out.trans (hbp.mono (by omega)))
              have hzp := hbp.size
              have bp := (hbp.cell (p := ⟨w1.heap.size, 0, none⟩) (by show w1.heap.size < _; omega)).trans bq
              clear hbp
              by_cases hlt3 : k3 < ts.length
              · obtain ⟨bt, ot, rfl, _, hbt, hct⟩ := (HT.out wp HBV.out) (by omega)
                obtain ⟨At, ct, q0, q1, q2, _⟩ := hct k3 hlt3
                obtain ⟨kd, hkd⟩ : ∃ y, y = ts[k3].kind := ⟨_, rfl⟩
                obtain ⟨ka, hka⟩ : ∃ y, y = ts[k3].a := ⟨_, rfl⟩
                obtain ⟨kb, hkb⟩ : ∃ y, y = ts[k3].b := ⟨_, rfl⟩
                rw [← hkd] at q0
                rw [← hka] at q1
                rw [← hkb] at q2
                by_cases h5 : 5 ≤ kd
                · obtain ⟨hm1, hm2⟩ := HK.out HOk.out k3 hlt3 (by omega)
                  rw [← hka] at hm1
                  rw [← hkb] at hm2
                  obtain ⟨vs, hvs⟩ : ∃ y, y = usesV ts kb := ⟨_, rfl⟩
                  have hvl : vs.length ≤ 32 := by rw [hvs]; have := usesV_length ts kb; omega
                  rw [← hvs] at hm2
                  have HS := Lib.hid (show Calls Try.prog 25 #[.slice A4 ks.length c4, .int .i64 ka] wp.drew (fun e w' => e = .returned (.bool true) ∧ (w'.cell? ⟨w1.heap.size, 0, none⟩ = some (.slice (some ⟨bt, ot, none⟩) ts.length c1) ∧ w'.cell? ⟨bt, ot + k3 * 4, none⟩ = some (.int .i64 kd) ∧ w'.cell? ⟨bt, ot + k3 * 4 + 1, none⟩ = some (.int .i64 ka) ∧ w'.cell? ⟨bt, ot + k3 * 4 + 2, none⟩ = some (.int .i64 kb)) ∧
                      Hid (Calls Try.prog 36 #[.agg #[.slice (some ⟨bt, ot, none⟩) ts.length c1], .int .i64 kb] w' (fun e w'' => ∃ A7 c7, e = .returned (.slice A7 vs.length c7) ∧ (w''.cell? ⟨w1.heap.size, 0, none⟩ = some (.slice (some ⟨bt, ot, none⟩) ts.length c1) ∧ w''.cell? ⟨bt, ot + k3 * 4, none⟩ = some (.int .i64 kd) ∧ w''.cell? ⟨bt, ot + k3 * 4 + 1, none⟩ = some (.int .i64 ka) ∧ w''.cell? ⟨bt, ot + k3 * 4 + 2, none⟩ = some (.int .i64 kb)) ∧
                        Hid (Calls Try.prog 25 #[.slice A7 vs.length c7, .int .i64 k3] w'' (fun e w3 => e = .returned (.bool true) ∧ Below wq.heap.size wq w3))))) from by
                    refine (hasInt_any A4 ks c4 ka wp.drew ((HIq.out.keep fun p _ hp => HBp.out.drew.cell hp).mono HBp.out.drew.size) (by omega)).mono ?_
                    rintro e w' ⟨rfl, hb'⟩
                    have hkeep : ∀ p : Addr, p.block < wp.heap.size → w'.cell? p = wp.cell? p := fun p hp => hb'.cell hp
                    have hb2 : Below wq.heap.size wq w' := HBp.out.drew.trans (hb'.mono hzp)
                    rw [show decide (ka ∈ ks) = true by simp [hm1]]
                    refine ⟨rfl, ⟨(hkeep ⟨w1.heap.size, 0, none⟩ (by show w1.heap.size < _; omega)).trans bp, (hkeep ⟨bt, ot + k3 * 4, none⟩ (by show bt < _; omega)).trans q0, (hkeep ⟨bt, ot + k3 * 4 + 1, none⟩ (by show bt < _; omega)).trans q1, (hkeep ⟨bt, ot + k3 * 4 + 2, none⟩ (by show bt < _; omega)).trans q2⟩, Lib.hid ?_⟩
                    have hz' := hb'.size
                    refine (implUsesOf_any (some ⟨bt, ot, none⟩) ts c1 w.heap.size w1.heap.size kb w' (HT.out w' (HBW.out.trans (hb2.mono (by omega)))) (by have : wp.heap.size ≤ w'.heap.size := hz'; omega) (by omega) (by omega)).mono ?_
                    rintro e w'' ⟨A7, c7, rfl, hi7, hb7⟩
                    rw [← hvs] at hi7 ⊢
                    have hb3 : Below wq.heap.size wq w'' := hb2.trans (hb7.mono hb2.size)
                    have hkeep2 : ∀ p : Addr, p.block < wp.heap.size → w''.cell? p = wp.cell? p := fun p hp => (hb7.cell (Nat.lt_of_lt_of_le hp hz')).trans (hkeep p hp)
                    refine ⟨A7, c7, rfl, ⟨(hkeep2 ⟨w1.heap.size, 0, none⟩ (by show w1.heap.size < _; omega)).trans bp, (hkeep2 ⟨bt, ot + k3 * 4, none⟩ (by show bt < _; omega)).trans q0, (hkeep2 ⟨bt, ot + k3 * 4 + 1, none⟩ (by show bt < _; omega)).trans q1, (hkeep2 ⟨bt, ot + k3 * 4 + 2, none⟩ (by show bt < _; omega)).trans q2⟩, Lib.hid ?_⟩
                    refine (hasInt_any A7 vs c7 k3 w'' ((hi7.ints).low (Nat.zero_le _)) (by omega)).mono ?_
                    rintro e w3' ⟨rfl, hb''⟩
                    rw [show decide ((k3 : Int) ∈ vs) = true by simp [hm2]]
                    exact ⟨rfl, hb3.trans (hb''.mono hb3.size)⟩)
                  clear hct hkd hka hkb hm1 hm2 hvs HC HCV HK HKn HT HOk HBV HBp
                  go_upto_region 19 with fail
                  go_region_law
                    (first
                      | (go_simp
                         go_at_call 25
                         refine HS.out.mono ?_
                         rintro e w6 ⟨rfl, ⟨e6, f6, g6, h6⟩, HS2⟩
                         clear HS
                         go_wp2_with fail)
                      | (go_simp
                         go_at_call 36
                         refine HS2.out.mono ?_
                         rintro e w8 ⟨A7, c7, rfl, ⟨e8, f8, g8, h8⟩, HS3⟩
                         clear HS2
                         go_wp2_with fail)
                      | (go_simp
                         go_at_call 25
                         refine HS3.out.mono ?_
                         rintro e w9 ⟨rfl, hb9⟩
                         have HB9 := Lib.hid hb9
                         clear hb9 HS3
                         go_wp2_with fail))
                  all_goals
                    go_wp2_with fail
                    go_roundw
                    case rel => exact ⟨k3 + 1, by omega, by go_num, HB9.out⟩
                    case measure => simp [intOf]; omega
                · have p0 : ∀ x : Kp wp, x.val.cell? ⟨w1.heap.size, 0, none⟩ = some (.slice (some ⟨bt, ot, none⟩) ts.length c1) := fun x => x.cell bp
                  have p1 : ∀ x : Kp wp, x.val.cell? ⟨bt, ot + k3 * 4, none⟩ = some (.int .i64 kd) := fun x => x.cell q0
                  clear hct hkd hka hkb HC HCV HK HKn HT HOk HBV
                  go_upto_region 19 with fail
                  refine wp_region_kept (by kernel_rfl) (by kernel_rfl) ?_
                  repeat (go_big_quiet_step (fail))
                  refine wpQuiet_nil ?_
                  rintro _ ⟨x, rfl⟩
                  have HB9 := Lib.hid (HBp.out.trans (x.ok.mono hzp))
                  clear p0 p1
                  go_wp2_with fail
                  go_roundw
                  case rel => exact ⟨k3 + 1, by omega, by go_num, HB9.out⟩
                  case measure => simp [intOf]; omega
              · have hk3e : k3 = ts.length := by omega
                have HC1 := Lib.hid (HC.out wp HBV.out 1)
                have hkn := HKn.out HOk.out
                clear HT HK HKn HC HIq hk3e
                go_wp2_with fail
                refine HC1.out.mono ?_
                rintro e w6 ⟨rfl, hb6⟩
                rw [HCV.out, ← hkn]
                have hz6 := hb6.size
                have HB6 := Lib.hid (HBV.out.trans (hb6.mono (by omega)))
                have CT := Lib.hid (terms_any w6)
                clear hb6 HC1 hkn
                go_wp2_with fail
                refine CT.out.mono ?_
                rintro e w7 ⟨rfl, hb7⟩
                have HF := Lib.hid (HB2.out.trans ((HB6.out.trans (hb7.mono (by omega))).mono (by omega)))
                clear hb7 CT
                go_wp2_with fail
                go_ret
                exact ⟨rfl, HF.out⟩

end Go.Proofs.Ytigkojdchpjkcaa
