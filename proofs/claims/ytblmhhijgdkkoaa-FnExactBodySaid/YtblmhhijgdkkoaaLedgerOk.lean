/-
  The model's LedgerOk.
-/
import Derived.Test.YtblmhhijgdkkoaaLok
namespace Go.Proofs.Ytblmhhijgdkkoaa
open Go.RowKit

/-- Term i may stand where it does. -/
def Good (ts : List Tm) (i : Nat) : Prop :=
  ∃ h : i < ts.length, okB i ts[i] = true ∧ keyedB ts ts[i] = true ∧ ∀ k (hk : k < i), ts[k] ≠ ts[i]

/-- A ledger that is as it should be. -/
def LOk (ts : List Tm) : Prop := ts.length ≤ 400 ∧ ∀ i, i < ts.length → Good ts i

open Classical in
noncomputable def lokB (ts : List Tm) : Bool := decide (LOk ts)
theorem lokB_true {ts : List Tm} (h : LOk ts) : lokB ts = true := by unfold lokB; simpa using h
theorem lokB_false {ts : List Tm} (h : ¬ LOk ts) : lokB ts = false := by unfold lokB; simpa using h
theorem lok_of {ts : List Tm} (h : lokB ts = true) : LOk ts := by unfold lokB at h; simpa using h
theorem not_lok_of {ts : List Tm} (h : lokB ts = false) : ¬ LOk ts := by unfold lokB at h; simpa using h

set_option maxRecDepth 100000 in
set_option maxHeartbeats 1000000 in
theorem specLedgerOk_any (A : Option Addr) (ts : List Tm) (c L B : Nat) (w : World) (hA : TmsIn w L B A ts) (hB : B ≤ w.heap.size) (hn : ts.length ≤ 1048576) (hbk : bulk ts ≤ 1048576) :
    Calls Try.prog 79 #[.agg #[.slice A ts.length c]] w fun e w' => e = .returned (.bool (lokB ts)) ∧ Below w.heap.size w w' := by
  go_enter Try.func79, Try.ntmps79
  go_wp2_with fail
  obtain ⟨W0, hW0⟩ : ∃ W0, W0 = w.alloc (.cells #[.slice A ts.length c] 66) := ⟨_, rfl⟩
  have hbox : W0.cell? ⟨w.heap.size, 0, none⟩ = some (.slice A ts.length c) := by subst hW0; simp
  have hbelow : Below w.heap.size w W0 := by subst hW0; exact (Below.refl _ _).alloc (Nat.le_refl _) _
  have hsz : W0.heap.size = w.heap.size + 1 := by subst hW0; simp
  rw [← hW0]
  clear hW0
  have hA0 : TmsIn W0 L B A ts := hA.keep fun p _ hp => hbelow.cell (by omega)
  have HBel := Lib.hid hbelow
  clear hA hbelow
  go_loopw [3, 4] (fun i _ wr => ∃ k : Nat, k ≤ ts.length ∧ i = .int .i64 k ∧ (∀ j, j < k → Good ts j) ∧ Below W0.heap.size W0 wr) (fun i _ _ => ts.length - (intOf i).toNat)
  case atStart => exact ⟨0, Nat.zero_le _, rfl, fun j h => absurd h (by omega), Below.refl _ _⟩
  case round =>
    obtain ⟨wo, rfl⟩ : ∃ wo : World, wo = wr := ⟨_, rfl⟩
    obtain ⟨k, hk, rfl, hgood, hbel⟩ := hrel
    have HG := Lib.hid hgood
    have HB := Lib.hid hbel
    have hx0 := (hbel.cell (p := ⟨w.heap.size, 0, none⟩) (by show w.heap.size < _; omega)).trans hbox
    clear hgood
    by_cases hlt : k < ts.length
    · obtain ⟨b, o, rfl, hL, hb, hc⟩ := hA0 (by omega)
      obtain ⟨A1, c1, x0, x1, x2, x3, _, _, hby⟩ := (hc k hlt).keep hL hb (fun p _ hp => hbel.cell (by omega))
      have kb : ∀ x : Kp wo, x.val.cell? ⟨w.heap.size, 0, none⟩ = some (.slice (some ⟨b, o, none⟩) ts.length c) := fun x => x.cell hx0
      have k0 : ∀ x : Kp wo, x.val.cell? ⟨b, o + k * 4, none⟩ = some (.int .i64 ts[k].kind) := fun x => x.cell x0
      have k1 : ∀ x : Kp wo, x.val.cell? ⟨b, o + k * 4 + 1, none⟩ = some (.int .i64 ts[k].a) := fun x => x.cell x1
      have k2 : ∀ x : Kp wo, x.val.cell? ⟨b, o + k * 4 + 2, none⟩ = some (.int .i64 ts[k].b) := fun x => x.cell x2
      have k3 : ∀ x : Kp wo, x.val.cell? ⟨b, o + k * 4 + 3, none⟩ = some (.slice A1 ts[k].text.length c1) := fun x => x.cell x3
      have hle := text_le_bulk ts k hlt
      have HC := Lib.hid hc
      have HY := Lib.hid hby
      clear hc hby hbel
      go_wp2
      cases hok : okB k ts[k] with
      | false =>
        have H1 := Lib.hid hok
        clear hok
        refine wp_region_kept (by kernel_rfl) (by kernel_rfl) ?_
        repeat (go_big_quiet_step ((go_at_call 110; refine kept_of (v := .bool false) ((l1ok_any k ts[k] A1 c1 _ (by omega)).mono ?_); rintro e w' ⟨rfl, hb'⟩; exact ⟨by rw [H1.out], hb'⟩)))
        refine wpQuiet_nil ?_
        rintro _ ⟨x, rfl⟩
        have HX := Lib.hid x.ok
        have hno : ¬ LOk ts := fun h => by
          obtain ⟨_, h1, _⟩ := h.2 k hlt
          rw [H1.out] at h1
          cases h1
        have HF := Lib.hid (lokB_false hno)
        clear hno
        go_wp2
        go_ret
        exact ⟨ret_bool HF.out.symm, HBel.out.trans (((HB.out.mono (Nat.le_of_lt (by omega))).trans (HX.out.mono (by have := HB.out.size; omega))))⟩
      | true =>
        have H1 := Lib.hid hok
        have hak : (ts[k].kind = 5 ∨ ts[k].kind = 6) → 0 ≤ ts[k].a ∧ ts[k].a < ts.length := fun h => by
          have h2 := H1.out
          unfold okB at h2
          rcases h with h | h <;> (simp [h] at h2; omega)
        clear hok
        have hts : ∀ x : Kp wo, TmsIn x.val L B (some ⟨b, o, none⟩) ts := fun x => hA0.keep fun p _ hp => (x.ok.cell (by have := HB.out.size; omega)).trans (HB.out.cell (by omega))
        have hBx : ∀ x : Kp wo, B ≤ x.val.heap.size := fun x => by have := HB.out.size; have := x.ok.size; omega
        have HT := Lib.hid hts
        have HK := Lib.hid hak
        have HBX := Lib.hid hBx
        clear hts hak hBx
        cases hkey : keyedB ts ts[k] with
        | false =>
          have H2 := Lib.hid hkey
          clear hkey
          refine wp_region_kept (by kernel_rfl) (by kernel_rfl) ?_
          repeat (go_big_quiet_step (first | ((go_at_call 110; refine kept_of (v := .bool true) ((l1ok_any k ts[k] A1 c1 _ (by omega)).mono ?_); rintro e w' ⟨rfl, hb'⟩; exact ⟨by rw [H1.out], hb'⟩)) | ((go_at_call 111; refine kept_of (v := .bool false) ((l1keyed_any ts ts[k] _ _ _ _ L B _ (HT.out _) (HBX.out _) HK.out hn).mono ?_); rintro e w' ⟨rfl, hb'⟩; exact ⟨by rw [H2.out], hb'⟩))))
          refine wpQuiet_nil ?_
          rintro _ ⟨x, rfl⟩
          have HX := Lib.hid x.ok
          have hno : ¬ LOk ts := fun h => by
            obtain ⟨_, _, h2, _⟩ := h.2 k hlt
            rw [H2.out] at h2
            cases h2
          have HF := Lib.hid (lokB_false hno)
          clear hno
          go_wp2
          go_ret
          exact ⟨ret_bool HF.out.symm, HBel.out.trans (((HB.out.mono (Nat.le_of_lt (by omega))).trans (HX.out.mono (by have := HB.out.size; omega))))⟩
        | true =>
          have H2 := Lib.hid hkey
          clear hkey
          refine wp_region_kept (by kernel_rfl) (by kernel_rfl) ?_
          repeat (go_big_quiet_step (first | ((go_at_call 110; refine kept_of (v := .bool true) ((l1ok_any k ts[k] A1 c1 _ (by omega)).mono ?_); rintro e w' ⟨rfl, hb'⟩; exact ⟨by rw [H1.out], hb'⟩)) | ((go_at_call 111; refine kept_of (v := .bool true) ((l1keyed_any ts ts[k] _ _ _ _ L B _ (HT.out _) (HBX.out _) HK.out hn).mono ?_); rintro e w' ⟨rfl, hb'⟩; exact ⟨by rw [H2.out], hb'⟩))))
          refine wpQuiet_nil ?_
          rintro _ ⟨x, rfl⟩
          have HX := Lib.hid x.ok
          obtain ⟨W1, hW1⟩ : ∃ W1, W1 = x.val := ⟨_, rfl⟩
          have hB1 : Below W0.heap.size W0 W1 := by subst hW1; exact HB.out.trans (HX.out.mono HB.out.size)
          rw [← hW1]
          clear hW1 HX HT HK HBX kb k0 k1 k2 k3 x0 x1 x2 x3 hx0
          have HB1 := Lib.hid hB1
          clear hB1
          go_wp2
          go_loopw [4] (fun m wi => ∃ j : Nat, j ≤ k ∧ m = .int .i64 j ∧ (∀ i (hi : i < j), j ≤ k → ts[i]? ≠ ts[k]?) ∧ Below W1.heap.size W1 wi) (fun m _ => k - (intOf m).toNat)
          case atStart => exact ⟨0, Nat.zero_le _, rfl, fun i h _ => absurd h (by omega), Below.refl _ _⟩
          case round =>
            obtain ⟨j, hj, rfl, hne, hbi⟩ := hrel
            have HN := Lib.hid hne
            have HBI := Lib.hid hbi
            have hb2 : Below W0.heap.size W0 wr := HB1.out.trans (hbi.mono HB1.out.size)
            have hx0 := (hb2.cell (p := ⟨w.heap.size, 0, none⟩) (by show w.heap.size < _; omega)).trans hbox
            by_cases hjk : j < k
            · obtain ⟨A1, c1, x0, x1, x2, x3, _, _, hby⟩ := (HC.out k hlt).keep hL hb (fun p _ hp => hb2.cell (by omega))
              obtain ⟨A2, c2, y0, y1, y2, y3, _, _, hby'⟩ := (HC.out j (by omega)).keep hL hb (fun p _ hp => hb2.cell (by omega))
              have kb : ∀ x : Kp wr, x.val.cell? ⟨w.heap.size, 0, none⟩ = some (.slice (some ⟨b, o, none⟩) ts.length c) := fun x => x.cell hx0
              have k0 : ∀ x : Kp wr, x.val.cell? ⟨b, o + k * 4, none⟩ = some (.int .i64 ts[k].kind) := fun x => x.cell x0
              have k1 : ∀ x : Kp wr, x.val.cell? ⟨b, o + k * 4 + 1, none⟩ = some (.int .i64 ts[k].a) := fun x => x.cell x1
              have k2 : ∀ x : Kp wr, x.val.cell? ⟨b, o + k * 4 + 2, none⟩ = some (.int .i64 ts[k].b) := fun x => x.cell x2
              have k3 : ∀ x : Kp wr, x.val.cell? ⟨b, o + k * 4 + 3, none⟩ = some (.slice A1 ts[k].text.length c1) := fun x => x.cell x3
              have l0 : ∀ x : Kp wr, x.val.cell? ⟨b, o + j * 4, none⟩ = some (.int .i64 ts[j].kind) := fun x => x.cell y0
              have l1 : ∀ x : Kp wr, x.val.cell? ⟨b, o + j * 4 + 1, none⟩ = some (.int .i64 ts[j].a) := fun x => x.cell y1
              have l2 : ∀ x : Kp wr, x.val.cell? ⟨b, o + j * 4 + 2, none⟩ = some (.int .i64 ts[j].b) := fun x => x.cell y2
              have l3 : ∀ x : Kp wr, x.val.cell? ⟨b, o + j * 4 + 3, none⟩ = some (.slice A2 ts[j].text.length c2) := fun x => x.cell y3
              have hjl : j < ts.length := by omega
              have hB2 : ∀ x : Kp wr, B ≤ x.val.heap.size ∧ BytesIn x.val L B A2 ts[j].text ∧ BytesIn x.val L B A1 ts[k].text := fun x => ⟨by have := hb2.size; have := x.ok.size; omega, hby'.keep fun p _ hp => x.ok.cell (by have := hb2.size; omega), hby.keep fun p _ hp => x.ok.cell (by have := hb2.size; omega)⟩
              have HB2 := Lib.hid hB2
              clear hby hby' hB2 hb2 hbi hne
              go_wp2
              by_cases heq : ts[j] = ts[k]
              · have hd : decide (ts[j] = ts[k]) = true := by simpa using heq
                have HD := Lib.hid hd
                have hno : ¬ LOk ts := fun h => by
                  obtain ⟨_, _, _, h3⟩ := h.2 k hlt
                  exact h3 j hjk heq
                have HF := Lib.hid (lokB_false hno)
                clear hno heq hd
                refine wp_region_kept (by kernel_rfl) (by kernel_rfl) ?_
                repeat (go_big_quiet_step ((go_at_call 112; refine kept_of (v := .bool true) ((l1same_any ts[j] ts[k] A2 A1 c2 c1 L L B B _ (HB2.out _).2.1 (HB2.out _).2.2 (HB2.out _).1 (HB2.out _).1).mono ?_); rintro e w' ⟨rfl, hb'⟩; exact ⟨by rw [HD.out], hb'⟩)))
                refine wpQuiet_nil ?_
                rintro _ ⟨x, rfl⟩
                have HX := Lib.hid x.ok
                go_wp2
                go_ret
                exact ⟨ret_bool HF.out.symm, HBel.out.trans ((HB1.out.mono (by omega)).trans ((HBI.out.mono (by have := HB1.out.size; omega)).trans (HX.out.mono (by have := HB1.out.size; have := HBI.out.size; omega))))⟩
              · have hd : decide (ts[j] = ts[k]) = false := by simpa using heq
                have HD := Lib.hid hd
                have HE := Lib.hid heq
                clear heq hd
                refine wp_region_kept (by kernel_rfl) (by kernel_rfl) ?_
                repeat (go_big_quiet_step ((go_at_call 112; refine kept_of (v := .bool false) ((l1same_any ts[j] ts[k] A2 A1 c2 c1 L L B B _ (HB2.out _).2.1 (HB2.out _).2.2 (HB2.out _).1 (HB2.out _).1).mono ?_); rintro e w' ⟨rfl, hb'⟩; exact ⟨by rw [HD.out], hb'⟩)))
                refine wpQuiet_nil ?_
                rintro _ ⟨x, rfl⟩
                have HX := Lib.hid x.ok
                go_wp2
                go_roundw
                case rel =>
                  refine ⟨j + 1, by omega, by go_num, fun i hi _ => ?_, HBI.out.trans (HX.out.mono HBI.out.size)⟩
                  by_cases e : i = j
                  · subst e
                    rw [List.getElem?_eq_getElem hjl, List.getElem?_eq_getElem hlt]
                    intro h
                    exact HE.out (Option.some.inj h)
                  · exact HN.out i (by omega) hj
                case measure => simp [intOf]; omega
            · clear hbi hne
              go_wp2
              go_roundw
              case rel =>
                refine ⟨k + 1, by omega, by go_num, fun i hi => ?_, HB1.out.trans (HBI.out.mono HB1.out.size)⟩
                by_cases e : i = k
                · subst e
                  refine ⟨hlt, H1.out, H2.out, fun i hi e => ?_⟩
                  exact HN.out i (by omega) hj (by rw [List.getElem?_eq_getElem (by omega), List.getElem?_eq_getElem hlt, e])
                · exact HG.out i (by omega)
              case measure => simp [intOf]; omega
    · have hend : decide ((ts.length : Int) ≤ 400) = lokB ts := by
        have hg : ∀ i, i < ts.length → Good ts i := fun i hi => HG.out i (by omega)
        by_cases h4 : ts.length ≤ 400
        · rw [lokB_true ⟨h4, hg⟩]; simp; omega
        · rw [lokB_false (fun h => h4 h.1)]; simp; omega
      have HE := Lib.hid hend
      clear hend hbel
      go_wp2
      go_ret
      exact ⟨ret_bool HE.out, HBel.out.trans (HB.out.mono (by omega))⟩

end Go.Proofs.Ytblmhhijgdkkoaa
