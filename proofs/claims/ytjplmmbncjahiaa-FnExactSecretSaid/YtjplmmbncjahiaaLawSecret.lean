/-
  The law on Secret, walked: it answers true, and turns nothing that was there, where the program's Secret answers as the model's.
-/
import Derived.Test.YtjplmmbncjahiaaLawInts
namespace Go.Proofs.Ytjplmmbncjahiaa
open Go.RowKit Go.Maps

set_option maxRecDepth 100000 in
set_option maxHeartbeats 8000000 in
theorem lawSecret_of (himpl : ∀ (R B : Nat) (ts : List Tm) (c g2 L2 B2 : Nat) (hv : List Int) (c2 : Nat) (id : Int) (w : World), CopyIn w R B ts → NoNil w R ts → R < B → B ≤ w.heap.size → ts.length ≤ 1048576 → bulk ts ≤ 1048576 → IntsFr w L2 B2 (some ⟨g2, 0, none⟩) hv → B2 ≤ w.heap.size → hv.length ≤ 1048576 → Calls Try.prog 27 #[.agg #[.slice (some ⟨R, 0, none⟩) ts.length c], .slice (some ⟨g2, 0, none⟩) hv.length c2, .int .i64 id] w (fun e w' => e = .returned (.bool (secretV ts hv id)) ∧ Below w.heap.size w w'))
    (A : Option Addr) (ts : List Tm) (c : Nat) (A2 : Option Addr) (hv : List Int) (c2 : Nat) (id : Int) (w : World) (hA : TmsIn w 0 w.heap.size A ts) (hn : ts.length ≤ 9223372036854775807) (hA2 : IntsIn w 0 w.heap.size A2 hv) (hn2 : hv.length ≤ 9223372036854775807) :
    Calls Try.prog 7 #[.agg #[.slice A ts.length c], .slice A2 hv.length c2, .int .i64 id] w fun e w' => e = .returned (.bool true) ∧ Below w.heap.size w w' := by
  have HA := Lib.hid hA
  have HA2 := Lib.hid hA2
  have HImpl := Lib.hid himpl
  clear hA hA2 himpl
  go_enter Try.func7, Try.ntmps7
  by_cases h0 : (1048576 : Int) < hv.length
  · go_wp2_with fail
    all_goals go_ret
    all_goals exact ⟨rfl, (Below.refl _ _).alloc (Nat.le_refl _) _⟩
  go_wp2_with fail
  obtain ⟨W0, hW0⟩ : ∃ W0, W0 = w.alloc (.cells #[.slice A ts.length c] 24) := ⟨_, rfl⟩
  have P0 : Mx A ts c A2 hv w W0 := by rw [hW0]; exact Mx.start HA.out HA2.out _
  rw [← hW0]
  clear hW0
  refine (szLedger_any A ts c _ _ P0.tms hn (by omega) (by omega)).mono ?_
  rintro e w1 ⟨r, rfl, hsz, hb1⟩
  have P1 := P0.below hb1 P0.sz
  have b_1 := P1.bx.one
  have HPw1 := Lib.hid P1
  have HSz := Lib.hid hsz
  clear P0 P1 hb1 hsz
  by_cases hr : r < 0
  · go_wp2_with fail
    all_goals go_ret
    all_goals exact ⟨rfl, HPw1.out.bel⟩
  · have hr' : 0 ≤ r := by omega
    have hsum : ts.length + bulk ts ≤ 1048576 := by have := HSz.out; unfold SzOk at this; omega
    have hvl : hv.length ≤ 1048576 := by omega
    obtain ⟨l, hlv⟩ : ∃ l, l = secretV ts hv id := ⟨_, rfl⟩
    have HV := Lib.hid hlv
    skip
    have himpl := HImpl.out
    clear hr hlv h0
    go_wp2_with fail
    have HImpl2 := Lib.hid himpl
    clear himpl HImpl
    refine (toLedger_nn A ts c w1 HPw1.out.tms (by omega) (by omega)).mono ?_
    rintro e w2 ⟨g2, rfl, hg2, hg2', hcp2, hnn2, hfz2, hb2⟩
    have hz2 := hb2.size
    have HPw2 := Lib.hid (HPw1.out.below hb2 HPw1.out.sz)
    have HCq2 := Lib.hid hcp2
    have HNq2 := Lib.hid hnn2
    clear hcp2 hnn2 hfz2 hb2 HPw1
    go_wp2_with fail
    refine (toIntS_fr A2 hv c2 w2 HPw2.out.tis (by omega)).mono ?_
    rintro e w3 ⟨g3, rfl, hg3, hg3', hfr3, hb3⟩
    have hz3 := hb3.size
    have HPw3 := Lib.hid (HPw2.out.below hb3 HPw2.out.sz)
    have HCq3 := Lib.hid (HCq2.out.keep (fun p _ hp => hb3.cell (by omega)) hg2')
    have HNq3 := Lib.hid (HNq2.out.keep fun p hp => hb3.cell (by omega))
    have HYq3 := Lib.hid hfr3
    clear hfr3 hb3 HCq2 HNq2 HPw2
    go_wp2_with fail
    have hcall := specSecret_any (some ⟨g2, 0, none⟩) ts ts.length g2 w2.heap.size (some ⟨g3, 0, none⟩) hv hv.length w2.heap.size w3.heap.size id w3 (HCq3.out.tms hg2') (by omega) (by omega) (by omega) HYq3.out.ints (Nat.le_refl _) (by omega)
    rw [← HV.out] at hcall
    refine hcall.mono ?_
    clear hcall
    rintro e v4 ⟨rfl, hb4⟩
    have hz4 := hb4.size
    have HPv4 := Lib.hid (HPw3.out.below hb4 HPw3.out.sz)
    have b_4 := HPv4.out.bx.one
    obtain ⟨s3, hs3⟩ : ∃ s3, s3 = w3.heap.size := ⟨_, rfl⟩
    have hs3v : s3 ≤ v4.heap.size := by omega
    skip
    clear hb4 HCq3 HNq3 HYq3 HPw3 b_1
    have hsv : w.heap.size + 1 ≤ v4.heap.size := HPv4.out.sz
    go_wp2_with fail
    -- the program's arguments
    refine (toLedger_nn A ts c v4 HPv4.out.tms (by omega) (by omega)).mono ?_
    rintro e w5 ⟨g5, rfl, hg5, hg5', hcp5, hnn5, hfz5, hb5⟩
    have hz5 := hb5.size
    have HCw5 := Lib.hid hcp5
    have HNw5 := Lib.hid hnn5
    have HFw5 := Lib.hid (fun (p : Addr) (hp : g5 ≤ p.block) (_ : p.block < w5.heap.size) => hfz5 p (by omega))
    have HPw5 := Lib.hid (HPv4.out.below hb5 HPv4.out.sz)
    clear hcp5 hnn5 hfz5 hb5 b_4 HPv4
    go_wp2_with fail
    obtain ⟨w5a, hw5a⟩ : ∃ x, x = w5.alloc (.cells #[.slice (some ⟨g5, 0, none⟩) ts.length ts.length] 30) := ⟨_, rfl⟩
    have hbw5a : Below w5.heap.size w5 w5a := by rw [hw5a]; exact (Below.refl _ _).alloc (Nat.le_refl _) _
    have hzw5a : w5a.heap.size = w5.heap.size + 1 := by rw [hw5a]; simp
    have HXw5a := Lib.hid (show Bx w5a w5.heap.size [.slice (some ⟨g5, 0, none⟩) ts.length ts.length] by rw [hw5a]; exact Bx.new' _ _ _ _ rfl)
    have HPw5a := Lib.hid (HPw5.out.below hbw5a HPw5.out.sz)
    have HCw5a := Lib.hid (HCw5.out.keep (fun p _ hp => hbw5a.cell (by omega)) hg5')
    have HNw5a := Lib.hid (HNw5.out.keep fun p hp => hbw5a.cell (by omega))
    have HFw5a := Lib.hid (fun (p : Addr) (hp : g5 ≤ p.block) (hpB : p.block < w5.heap.size) => (hbw5a.frozen (by omega)).trans (HFw5.out p hp hpB))
    rw [← hw5a]
    clear hw5a hbw5a HPw5 HCw5 HNw5 HFw5
    refine (toIntS_fr A2 hv c2 w5a HPw5a.out.tis (by omega)).mono ?_
    rintro e w6 ⟨g6, rfl, _, _, hfr6, hb6⟩
    have hz6 := hb6.size
    have HYw6 := Lib.hid hfr6
    have HPw6 := Lib.hid (HPw5a.out.below hb6 HPw5a.out.sz)
    have HCw6 := Lib.hid (HCw5a.out.keep (fun p _ hp => hb6.cell (by omega)) hg5')
    have HNw6 := Lib.hid (HNw5a.out.keep fun p hp => hb6.cell (by omega))
    have HFw6 := Lib.hid (fun (p : Addr) (hp : g5 ≤ p.block) (hpB : p.block < w5.heap.size) => (hb6.frozen (by omega)).trans (HFw5a.out p hp hpB))
    have HXw6 := Lib.hid (HXw5a.out.below hb6 (by omega))
    have x_6 := HXw6.out.one
    clear hfr6 hb6 HPw5a HCw5a HNw5a HFw5a HXw5a
    go_wp2_with fail
    -- the program
    have hcall := HImpl2.out g5 w5.heap.size ts ts.length g6 w5a.heap.size w6.heap.size hv hv.length id w6 HCw6.out HNw6.out hg5' (by omega) (by omega) (by omega) HYw6.out (Nat.le_refl _) (by omega)
    rw [← HV.out] at hcall
    refine hcall.mono ?_
    clear hcall
    rintro e w7 ⟨rfl, hb7⟩
    have hz7 := hb7.size
    have HPw7 := Lib.hid (HPw6.out.below hb7 HPw6.out.sz)
    have HCw7 := Lib.hid (HCw6.out.keep (fun p _ hp => hb7.cell (by omega)) hg5')
    have HFw7 := Lib.hid (fun (p : Addr) (hp : g5 ≤ p.block) (hpB : p.block < w5.heap.size) => (hb7.frozen (by omega)).trans (HFw6.out p hp hpB))
    have HXw7 := Lib.hid (HXw6.out.below hb7 (by omega))
    have HYw7 := Lib.hid (HYw6.out.keep fun p _ hp => ⟨hb7.cell (by omega), hb7.frozen (by omega)⟩)
    clear hb7 x_6 HNw6 HPw6 HCw6 HFw6 HXw6 HYw6
    have x_9 := HXw7.out.one
    have b_9 := HPw7.out.bx.one
    have hcmp : (l != l) = false := by simp
    go_wp2_with fail
    -- the arguments are as they were
    go_region_held3 (fun W => W.cell? ⟨w5.heap.size, 0, none⟩ = some (.slice (some ⟨g5, 0, none⟩) ts.length ts.length) ∧ W.cell? ⟨w.heap.size, 0, none⟩ = some (.slice A ts.length c))
      (first | exact ⟨x_9, b_9⟩ | exact ⟨x_10, b_10⟩ | exact ⟨x_11, b_11⟩)
      (first
        | (go_at_call 12
           refine (toLedger_any A ts c _ ?_ (by omega) (by omega)).mono ?_
           · exact HPw7.out.tms
           rintro e w10 ⟨n10, rfl, _, hts10, hb10⟩
           have hb910 : Below w7.heap.size w7 w10 := by first | exact hb10 | exact (Below.refl w7.heap.size w7).drew.trans hb10
           have x_10 := (hb910.cell (p := ⟨w5.heap.size, 0, none⟩) (by show w5.heap.size < w7.heap.size; omega)).trans x_9
           have b_10 := (hb910.cell (p := ⟨w.heap.size, 0, none⟩) (by show w.heap.size < w7.heap.size; omega)).trans b_9
           have hz10 : w7.heap.size ≤ w10.heap.size := hb910.size
           have HT10 := Lib.hid (show TmsIn w10 w7.heap.size w10.heap.size _ ts from hts10)
           have HB910 := Lib.hid hb910
           clear hts10 hb10 hb910)
        | (go_at_call 16
           refine (eqLedger_same _ _ ts _ _ g5 w7.heap.size w5.heap.size w10.heap.size _ ((HCw7.out.tms hg5').keep fun p _ hp => HB910.out.cell (by show p.block < w7.heap.size; omega)) HT10.out (by show w5.heap.size ≤ w10.heap.size; omega) (Nat.le_refl _) (by omega) (by omega)).mono ?_
           rintro e w11 ⟨rfl, hb11⟩
           have hb1011 : Below w10.heap.size w10 w11 := by first | exact hb11 | exact (Below.refl w10.heap.size w10).drew.trans hb11
           have x_11 := (hb1011.cell (p := ⟨w5.heap.size, 0, none⟩) (by show w5.heap.size < w10.heap.size; omega)).trans x_10
           have b_11 := (hb1011.cell (p := ⟨w.heap.size, 0, none⟩) (by show w.heap.size < w10.heap.size; omega)).trans b_10
           have hz11 : w10.heap.size ≤ w11.heap.size := hb1011.size
           have HB911 := Lib.hid (HB910.out.trans (hb1011.mono (by omega)))
           clear hb11 hb1011))
    have hb911 := HB911.out
    have HPw11 := Lib.hid (HPw7.out.below hb911 HPw7.out.sz)
    have HCw11 := Lib.hid (HCw7.out.keep (fun p _ hp => hb911.cell (by omega)) hg5')
    have HFw11 := Lib.hid (fun (p : Addr) (hp : g5 ≤ p.block) (hpB : p.block < w5.heap.size) => (hb911.frozen (by omega)).trans (HFw7.out p hp hpB))
    have HXw11 := Lib.hid (HXw7.out.below hb911 (by omega))
    have HYw11 := Lib.hid (HYw7.out.keep fun p _ hp => ⟨hb911.cell (by omega), hb911.frozen (by omega)⟩)
    clear hb911 x_9 b_9 x_10 b_10 x_11 b_11 HB910 HB911 HT10 HPw7 HCw7 HFw7 HXw7 HYw7
    go_wp2_with fail
    refine (toIntS_fr A2 hv c2 w11 HPw11.out.tis (by omega)).mono ?_
    rintro e w12 ⟨g12, rfl, _, _, hfr12, hb12⟩
    have hz12 := hb12.size
    have HPw12 := Lib.hid (HPw11.out.below hb12 HPw11.out.sz)
    have HCw12 := Lib.hid (HCw11.out.keep (fun p _ hp => hb12.cell (by omega)) hg5')
    have HFw12 := Lib.hid (fun (p : Addr) (hp : g5 ≤ p.block) (hpB : p.block < w5.heap.size) => (hb12.frozen (by omega)).trans (HFw11.out p hp hpB))
    have HXw12 := Lib.hid (HXw11.out.below hb12 (by omega))
    have HYw12 := Lib.hid (HYw11.out.keep fun p _ hp => ⟨hb12.cell (by omega), hb12.frozen (by omega)⟩)
    have HT12 := Lib.hid hfr12
    clear hfr12 hb12 HPw11 HCw11 HFw11 HXw11 HYw11
    go_wp2_with fail
    refine (eqIntS_same _ _ hv _ _ w5a.heap.size w11.heap.size w6.heap.size w12.heap.size w12 HYw12.out HT12.out (by omega)).mono ?_
    rintro e w13 ⟨rfl, hb13⟩
    have hz13 := hb13.size
    have HPw13 := Lib.hid (HPw12.out.below hb13 HPw12.out.sz)
    have HCw13 := Lib.hid (HCw12.out.keep (fun p _ hp => hb13.cell (by omega)) hg5')
    have HFw13 := Lib.hid (fun (p : Addr) (hp : g5 ≤ p.block) (hpB : p.block < w5.heap.size) => (hb13.frozen (by omega)).trans (HFw12.out p hp hpB))
    have HXw13 := Lib.hid (HXw12.out.below hb13 (by omega))
    have HYw13 := Lib.hid (HYw12.out.keep fun p _ hp => ⟨hb13.cell (by omega), hb13.frozen (by omega)⟩)
    have x_13 := HXw13.out.one
    clear hb13 HT12 HPw12 HCw12 HFw12 HXw12 HYw12
    go_wp2_with fail
    go_ret
    exact ⟨rfl, HPw13.out.bel⟩

end Go.Proofs.Ytjplmmbncjahiaa
