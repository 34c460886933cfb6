/-
  The law on Gains, walked: it answers true, and turns nothing that was there, where the program's Gains answers as the model's.
-/
import Derived.Test.YtjplmmbncjahiaaLawInts
namespace Go.Proofs.Ytjplmmbncjahiaa
open Go.RowKit Go.Maps

set_option maxRecDepth 100000 in
set_option maxHeartbeats 8000000 in
theorem lawGains_of (himpl : ∀ (R B : Nat) (ts : List Tm) (c g2 L2 B2 : Nat) (hv : List Int) (c2 : Nat) (id : Int) (w : World), CopyIn w R B ts → NoNil w R ts → R < B → B ≤ w.heap.size → ts.length ≤ 1048576 → bulk ts ≤ 1048576 → IntsFr w L2 B2 (some ⟨g2, 0, none⟩) hv → B2 ≤ w.heap.size → hv.length ≤ 1048576 → Calls Try.prog 31 #[.agg #[.slice (some ⟨R, 0, none⟩) ts.length c], .slice (some ⟨g2, 0, none⟩) hv.length c2, .int .i64 id] w (NewIntsFr (gainsV ts hv id) w))
    (A : Option Addr) (ts : List Tm) (c : Nat) (A2 : Option Addr) (hv : List Int) (c2 : Nat) (id : Int) (w : World) (hA : TmsIn w 0 w.heap.size A ts) (hn : ts.length ≤ 9223372036854775807) (hA2 : IntsIn w 0 w.heap.size A2 hv) (hn2 : hv.length ≤ 9223372036854775807) :
    Calls Try.prog 9 #[.agg #[.slice A ts.length c], .slice A2 hv.length c2, .int .i64 id] w fun e w' => e = .returned (.bool true) ∧ Below w.heap.size w w' := by
  have HA := Lib.hid hA
  have HA2 := Lib.hid hA2
  have HImpl := Lib.hid himpl
  clear hA hA2 himpl
  go_enter Try.func9, Try.ntmps9
  by_cases h0 : (1048576 : Int) < hv.length
  · go_wp2_with fail
    all_goals go_ret
    all_goals exact ⟨rfl, (Below.refl _ _).alloc (Nat.le_refl _) _⟩
  go_wp2_with fail
  obtain ⟨W0, hW0⟩ : ∃ W0, W0 = w.alloc (.cells #[.slice A ts.length c] 24) := ⟨_, rfl⟩
  have P0 : Mx A ts c A2 hv w W0 := by rw [hW0]; exact Mx.start HA.out HA2.out _
  rw [← hW0]
  clear hW0
  refine (szLedger_any A ts c _ _ P0.tms hn (by omega) (by omega)).mono ?_
  rintro e w1 ⟨r, rfl, hsz, hb1⟩
  have P1 := P0.below hb1 P0.sz
  have b_1 := P1.bx.one
  have HPw1 := Lib.hid P1
  have HSz := Lib.hid hsz
  clear P0 P1 hb1 hsz
  by_cases hr : r < 0
  · go_wp2_with fail
    all_goals go_ret
    all_goals exact ⟨rfl, HPw1.out.bel⟩
  · have hr' : 0 ≤ r := by omega
    have hsum : ts.length + bulk ts ≤ 1048576 := by have := HSz.out; unfold SzOk at this; omega
    have hvl : hv.length ≤ 1048576 := by omega
    obtain ⟨l, hlv⟩ : ∃ l, l = gainsV ts hv id := ⟨_, rfl⟩
    have HV := Lib.hid hlv
    have hll : l.length ≤ 1048576 := by rw [hlv]; exact Nat.le_trans (gainsV_length ts hv id) (by omega)
    have himpl := HImpl.out
    clear hr hlv h0
    go_wp2_with fail
    have HImpl2 := Lib.hid himpl
    clear himpl HImpl
    refine (toLedger_nn A ts c w1 HPw1.out.tms (by omega) (by omega)).mono ?_
    rintro e w2 ⟨g2, rfl, hg2, hg2', hcp2, hnn2, hfz2, hb2⟩
    have hz2 := hb2.size
    have HPw2 := Lib.hid (HPw1.out.below hb2 HPw1.out.sz)
    have HCq2 := Lib.hid hcp2
    have HNq2 := Lib.hid hnn2
    clear hcp2 hnn2 hfz2 hb2 HPw1
    go_wp2_with fail
    refine (toIntS_fr A2 hv c2 w2 HPw2.out.tis (by omega)).mono ?_
    rintro e w3 ⟨g3, rfl, hg3, hg3', hfr3, hb3⟩
    have hz3 := hb3.size
    have HPw3 := Lib.hid (HPw2.out.below hb3 HPw2.out.sz)
    have HCq3 := Lib.hid (HCq2.out.keep (fun p _ hp => hb3.cell (by omega)) hg2')
    have HNq3 := Lib.hid (HNq2.out.keep fun p hp => hb3.cell (by omega))
    have HYq3 := Lib.hid hfr3
    clear hfr3 hb3 HCq2 HNq2 HPw2
    go_wp2_with fail
    have hcall := specGains_any (some ⟨g2, 0, none⟩) ts ts.length g2 w2.heap.size g3 hv hv.length w2.heap.size w3.heap.size id w3 (HCq3.out.tms hg2') (by omega) (by omega) (by omega) HYq3.out.ints (Nat.le_refl _) (by omega)
    rw [← HV.out] at hcall
    refine hcall.mono ?_
    clear hcall
    rintro e v4 ⟨A4, c4, rfl, hfr4, hb4⟩
    have HWv4 := Lib.hid hfr4
    have hz4 := hb4.size
    have HPv4 := Lib.hid (HPw3.out.below hb4 HPw3.out.sz)
    have b_4 := HPv4.out.bx.one
    obtain ⟨s3, hs3⟩ : ∃ s3, s3 = w3.heap.size := ⟨_, rfl⟩
    have hs3v : s3 ≤ v4.heap.size := by omega
    skip
    clear hb4 HCq3 HNq3 HYq3 HPw3 b_1 hfr4
    have hsv : w.heap.size + 1 ≤ v4.heap.size := HPv4.out.sz
    go_wp2_with fail
    -- the program's arguments
    refine (toLedger_nn A ts c v4 HPv4.out.tms (by omega) (by omega)).mono ?_
    rintro e w5 ⟨g5, rfl, hg5, hg5', hcp5, hnn5, hfz5, hb5⟩
    have hz5 := hb5.size
    have HCw5 := Lib.hid hcp5
    have HNw5 := Lib.hid hnn5
    have HFw5 := Lib.hid (fun (p : Addr) (hp : g5 ≤ p.block) (_ : p.block < w5.heap.size) => hfz5 p (by omega))
    have HPw5 := Lib.hid (HPv4.out.below hb5 HPv4.out.sz)
    have HWw5 := Lib.hid (HWv4.out.keep fun p _ hp => ⟨hb5.cell (by omega), hb5.frozen (by omega)⟩)
    clear hcp5 hnn5 hfz5 hb5 b_4 HPv4 HWv4
    go_wp2_with fail
    obtain ⟨w5a, hw5a⟩ : ∃ x, x = w5.alloc (.cells #[.slice (some ⟨g5, 0, none⟩) ts.length ts.length] 30) := ⟨_, rfl⟩
    have hbw5a : Below w5.heap.size w5 w5a := by rw [hw5a]; exact (Below.refl _ _).alloc (Nat.le_refl _) _
    have hzw5a : w5a.heap.size = w5.heap.size + 1 := by rw [hw5a]; simp
    have HXw5a := Lib.hid (show Bx w5a w5.heap.size [.slice (some ⟨g5, 0, none⟩) ts.length ts.length] by rw [hw5a]; exact Bx.new' _ _ _ _ rfl)
    have HPw5a := Lib.hid (HPw5.out.below hbw5a HPw5.out.sz)
    have HWw5a := Lib.hid (HWw5.out.keep fun p _ hp => ⟨hbw5a.cell (by omega), hbw5a.frozen (by omega)⟩)
    have HCw5a := Lib.hid (HCw5.out.keep (fun p _ hp => hbw5a.cell (by omega)) hg5')
    have HNw5a := Lib.hid (HNw5.out.keep fun p hp => hbw5a.cell (by omega))
    have HFw5a := Lib.hid (fun (p : Addr) (hp : g5 ≤ p.block) (hpB : p.block < w5.heap.size) => (hbw5a.frozen (by omega)).trans (HFw5.out p hp hpB))
    rw [← hw5a]
    clear hw5a hbw5a HPw5 HWw5 HCw5 HNw5 HFw5
    refine (toIntS_fr A2 hv c2 w5a HPw5a.out.tis (by omega)).mono ?_
    rintro e w6 ⟨g6, rfl, _, _, hfr6, hb6⟩
    have hz6 := hb6.size
    have HYw6 := Lib.hid hfr6
    have HPw6 := Lib.hid (HPw5a.out.below hb6 HPw5a.out.sz)
    have HWw6 := Lib.hid (HWw5a.out.keep fun p _ hp => ⟨hb6.cell (by omega), hb6.frozen (by omega)⟩)
    have HCw6 := Lib.hid (HCw5a.out.keep (fun p _ hp => hb6.cell (by omega)) hg5')
    have HNw6 := Lib.hid (HNw5a.out.keep fun p hp => hb6.cell (by omega))
    have HFw6 := Lib.hid (fun (p : Addr) (hp : g5 ≤ p.block) (hpB : p.block < w5.heap.size) => (hb6.frozen (by omega)).trans (HFw5a.out p hp hpB))
    have HXw6 := Lib.hid (HXw5a.out.below hb6 (by omega))
    have x_6 := HXw6.out.one
    clear hfr6 hb6 HPw5a HWw5a HCw5a HNw5a HFw5a HXw5a
    go_wp2_with fail
    -- the program
    have hcall := HImpl2.out g5 w5.heap.size ts ts.length g6 w5a.heap.size w6.heap.size hv hv.length id w6 HCw6.out HNw6.out hg5' (by omega) (by omega) (by omega) HYw6.out (Nat.le_refl _) (by omega)
    rw [← HV.out] at hcall
    refine hcall.mono ?_
    clear hcall
    rintro e w7 ⟨A7, c7, rfl, hfr7, hb7⟩
    have HGw7 := Lib.hid hfr7
    have hz7 := hb7.size
    have HPw7 := Lib.hid (HPw6.out.below hb7 HPw6.out.sz)
    have HWw7 := Lib.hid (HWw6.out.keep fun p _ hp => ⟨hb7.cell (by omega), hb7.frozen (by omega)⟩)
    have HCw7 := Lib.hid (HCw6.out.keep (fun p _ hp => hb7.cell (by omega)) hg5')
    have HFw7 := Lib.hid (fun (p : Addr) (hp : g5 ≤ p.block) (hpB : p.block < w5.heap.size) => (hb7.frozen (by omega)).trans (HFw6.out p hp hpB))
    have HXw7 := Lib.hid (HXw6.out.below hb7 (by omega))
    have HYw7 := Lib.hid (HYw6.out.keep fun p _ hp => ⟨hb7.cell (by omega), hb7.frozen (by omega)⟩)
    clear hb7 x_6 HNw6 HPw6 HWw6 HCw6 HFw6 HXw6 HYw6 hfr7
    go_wp2_with fail
    refine (eqIntS_same A7 A4 l c7 c4 w6.heap.size w3.heap.size w7.heap.size v4.heap.size w7 HGw7.out HWw7.out (by omega)).mono ?_
    rintro e w9 ⟨rfl, hb9⟩
    have hz9 := hb9.size
    have HPw9 := Lib.hid (HPw7.out.below hb9 HPw7.out.sz)
    have HWw9 := Lib.hid (HWw7.out.keep fun p _ hp => ⟨hb9.cell (by omega), hb9.frozen (by omega)⟩)
    have HCw9 := Lib.hid (HCw7.out.keep (fun p _ hp => hb9.cell (by omega)) hg5')
    have HFw9 := Lib.hid (fun (p : Addr) (hp : g5 ≤ p.block) (hpB : p.block < w5.heap.size) => (hb9.frozen (by omega)).trans (HFw7.out p hp hpB))
    have HXw9 := Lib.hid (HXw7.out.below hb9 (by omega))
    have HYw9 := Lib.hid (HYw7.out.keep fun p _ hp => ⟨hb9.cell (by omega), hb9.frozen (by omega)⟩)
    have HGw9 := Lib.hid (HGw7.out.keep fun p _ hp => ⟨hb9.cell (by omega), hb9.frozen (by omega)⟩)
    clear hb9 HPw7 HWw7 HCw7 HFw7 HXw7 HYw7 HGw7
    have x_9 := HXw9.out.one
    have b_9 := HPw9.out.bx.one
    go_wp2_with fail
    -- the arguments are as they were
    go_region_held3 (fun W => W.cell? ⟨w5.heap.size, 0, none⟩ = some (.slice (some ⟨g5, 0, none⟩) ts.length ts.length) ∧ W.cell? ⟨w.heap.size, 0, none⟩ = some (.slice A ts.length c))
      (first | exact ⟨x_9, b_9⟩ | exact ⟨x_10, b_10⟩ | exact ⟨x_11, b_11⟩)
      (first
        | (go_at_call 12
           refine (toLedger_any A ts c _ ?_ (by omega) (by omega)).mono ?_
           · exact HPw9.out.tms
           rintro e w10 ⟨n10, rfl, _, hts10, hb10⟩
           have hb910 : Below w9.heap.size w9 w10 := by first | exact hb10 | exact (Below.refl w9.heap.size w9).drew.trans hb10
           have x_10 := (hb910.cell (p := ⟨w5.heap.size, 0, none⟩) (by show w5.heap.size < w9.heap.size; omega)).trans x_9
           have b_10 := (hb910.cell (p := ⟨w.heap.size, 0, none⟩) (by show w.heap.size < w9.heap.size; omega)).trans b_9
           have hz10 : w9.heap.size ≤ w10.heap.size := hb910.size
           have HT10 := Lib.hid (show TmsIn w10 w9.heap.size w10.heap.size _ ts from hts10)
           have HB910 := Lib.hid hb910
           clear hts10 hb10 hb910)
        | (go_at_call 16
           refine (eqLedger_same _ _ ts _ _ g5 w9.heap.size w5.heap.size w10.heap.size _ ((HCw9.out.tms hg5').keep fun p _ hp => HB910.out.cell (by show p.block < w9.heap.size; omega)) HT10.out (by show w5.heap.size ≤ w10.heap.size; omega) (Nat.le_refl _) (by omega) (by omega)).mono ?_
           rintro e w11 ⟨rfl, hb11⟩
           have hb1011 : Below w10.heap.size w10 w11 := by first | exact hb11 | exact (Below.refl w10.heap.size w10).drew.trans hb11
           have x_11 := (hb1011.cell (p := ⟨w5.heap.size, 0, none⟩) (by show w5.heap.size < w10.heap.size; omega)).trans x_10
           have b_11 := (hb1011.cell (p := ⟨w.heap.size, 0, none⟩) (by show w.heap.size < w10.heap.size; omega)).trans b_10
           have hz11 : w10.heap.size ≤ w11.heap.size := hb1011.size
           have HB911 := Lib.hid (HB910.out.trans (hb1011.mono (by omega)))
           clear hb11 hb1011))
    have hb911 := HB911.out
    have HPw11 := Lib.hid (HPw9.out.below hb911 HPw9.out.sz)
    have HWw11 := Lib.hid (HWw9.out.keep fun p _ hp => ⟨hb911.cell (by omega), hb911.frozen (by omega)⟩)
    have HCw11 := Lib.hid (HCw9.out.keep (fun p _ hp => hb911.cell (by omega)) hg5')
    have HFw11 := Lib.hid (fun (p : Addr) (hp : g5 ≤ p.block) (hpB : p.block < w5.heap.size) => (hb911.frozen (by omega)).trans (HFw9.out p hp hpB))
    have HXw11 := Lib.hid (HXw9.out.below hb911 (by omega))
    have HYw11 := Lib.hid (HYw9.out.keep fun p _ hp => ⟨hb911.cell (by omega), hb911.frozen (by omega)⟩)
    have HGw11 := Lib.hid (HGw9.out.keep fun p _ hp => ⟨hb911.cell (by omega), hb911.frozen (by omega)⟩)
    clear hb911 x_9 b_9 x_10 b_10 x_11 b_11 HB910 HB911 HT10 HPw9 HWw9 HCw9 HFw9 HXw9 HYw9 HGw9
    go_wp2_with fail
    refine (toIntS_fr A2 hv c2 w11 HPw11.out.tis (by omega)).mono ?_
    rintro e w12 ⟨g12, rfl, _, _, hfr12, hb12⟩
    have hz12 := hb12.size
    have HPw12 := Lib.hid (HPw11.out.below hb12 HPw11.out.sz)
    have HWw12 := Lib.hid (HWw11.out.keep fun p _ hp => ⟨hb12.cell (by omega), hb12.frozen (by omega)⟩)
    have HCw12 := Lib.hid (HCw11.out.keep (fun p _ hp => hb12.cell (by omega)) hg5')
    have HFw12 := Lib.hid (fun (p : Addr) (hp : g5 ≤ p.block) (hpB : p.block < w5.heap.size) => (hb12.frozen (by omega)).trans (HFw11.out p hp hpB))
    have HXw12 := Lib.hid (HXw11.out.below hb12 (by omega))
    have HYw12 := Lib.hid (HYw11.out.keep fun p _ hp => ⟨hb12.cell (by omega), hb12.frozen (by omega)⟩)
    have HGw12 := Lib.hid (HGw11.out.keep fun p _ hp => ⟨hb12.cell (by omega), hb12.frozen (by omega)⟩)
    have HT12 := Lib.hid hfr12
    clear hfr12 hb12 HPw11 HWw11 HCw11 HFw11 HXw11 HYw11 HGw11
    go_wp2_with fail
    refine (eqIntS_same _ _ hv _ _ w5a.heap.size w11.heap.size w6.heap.size w12.heap.size w12 HYw12.out HT12.out (by omega)).mono ?_
    rintro e w13 ⟨rfl, hb13⟩
    have hz13 := hb13.size
    have HPw13 := Lib.hid (HPw12.out.below hb13 HPw12.out.sz)
    have HWw13 := Lib.hid (HWw12.out.keep fun p _ hp => ⟨hb13.cell (by omega), hb13.frozen (by omega)⟩)
    have HCw13 := Lib.hid (HCw12.out.keep (fun p _ hp => hb13.cell (by omega)) hg5')
    have HFw13 := Lib.hid (fun (p : Addr) (hp : g5 ≤ p.block) (hpB : p.block < w5.heap.size) => (hb13.frozen (by omega)).trans (HFw12.out p hp hpB))
    have HXw13 := Lib.hid (HXw12.out.below hb13 (by omega))
    have HYw13 := Lib.hid (HYw12.out.keep fun p _ hp => ⟨hb13.cell (by omega), hb13.frozen (by omega)⟩)
    have HGw13 := Lib.hid (HGw12.out.keep fun p _ hp => ⟨hb13.cell (by omega), hb13.frozen (by omega)⟩)
    have x_13 := HXw13.out.one
    clear hb13 HT12 HPw12 HWw12 HCw12 HFw12 HXw12 HYw12 HGw12
    go_wp2_with fail
    -- numbers are written into the arguments: the answer stays
    refine (markLedger_num g5 ts ts.length w5.heap.size 1 w13 HCw13.out hg5' (by omega) HFw13.out (by omega) (by omega) (by omega) (by omega)).mono ?_
    rintro e w14 ⟨⟨k14, rfl, hk0, hk1⟩, hin14⟩
    have hz14 := hin14.below.size
    have HPw14 := Lib.hid (HPw13.out.below hin14.below (by omega))
    have HWw14 := Lib.hid (HWw13.out.keep fun p _ hp => ⟨hin14.cell (.inl (by omega)), hin14.frozen p (by omega)⟩)
    have HYw14 := Lib.hid (HYw13.out.keep fun p hp hpB => ⟨hin14.cell (.inr ⟨by omega, by omega⟩), hin14.frozen p (by omega)⟩)
    have HGw14 := Lib.hid (HGw13.out.keep fun p hp hpB => ⟨hin14.cell (.inr ⟨by omega, by omega⟩), hin14.frozen p (by omega)⟩)
    clear hin14 x_13 HPw13 HWw13 HCw13 HFw13 HXw13 HYw13 HGw13
    go_wp2_with fail
    refine (markIntS_any (some ⟨g6, 0, none⟩) hv hv.length w5a.heap.size w6.heap.size k14 w14 HYw14.out (by omega) hk0 (by omega)).mono ?_
    rintro e w15 ⟨rfl, _, hin15⟩
    have hz15 := hin15.below.size
    have HPw15 := Lib.hid (HPw14.out.below hin15.below (by omega))
    have HWw15 := Lib.hid (HWw14.out.keep fun p _ hp => ⟨hin15.cell (.inl (by omega)), hin15.frozen p (by omega)⟩)
    have HGw15 := Lib.hid (HGw14.out.keep fun p hp hpB => ⟨hin15.cell (.inr ⟨by omega, by omega⟩), hin15.frozen p (by omega)⟩)
    have hk15 : 0 ≤ k14 + (hv.length : Int) := by omega
    clear hin15 HPw14 HWw14 HYw14 HGw14
    go_wp2_with fail
    refine (eqIntS_same A7 A4 l c7 c4 w6.heap.size w3.heap.size w7.heap.size v4.heap.size w15 HGw15.out HWw15.out (by omega)).mono ?_
    rintro e w16 ⟨rfl, hb16⟩
    have hz16 := hb16.size
    have HPw16 := Lib.hid (HPw15.out.below hb16 HPw15.out.sz)
    have HWw16 := Lib.hid (HWw15.out.keep fun p _ hp => ⟨hb16.cell (by omega), hb16.frozen (by omega)⟩)
    have HGw16 := Lib.hid (HGw15.out.keep fun p _ hp => ⟨hb16.cell (by omega), hb16.frozen (by omega)⟩)
    clear hb16 hk15 hk0 hk1 HPw15 HWw15 HGw15
    go_wp2_with fail
    -- numbers are written into the answer
    refine (markIntS_any A7 l c7 w6.heap.size w7.heap.size 1 w16 HGw16.out (by omega) (by omega) (by omega)).mono ?_
    rintro e w17 ⟨rfl, hmk17, hin17⟩
    have hz17 := hin17.below.size
    have HMw17 := Lib.hid hmk17
    have HPw17 := Lib.hid (HPw16.out.below hin17.below (by omega))
    have HWw17 := Lib.hid (HWw16.out.keep fun p _ hp => ⟨hin17.cell (.inl (by omega)), hin17.frozen p (by omega)⟩)
    clear hmk17 hin17 HPw16 HWw16 HGw16
    go_wp2_with fail
    refine (heldIntS_any A7 l.length c7 w6.heap.size w7.heap.size 1 w17 HMw17.out (by omega) (by omega) (by omega)).mono ?_
    rintro e w18 ⟨rfl, rfl⟩
    have hq0 : (0 : Int) ≤ 1 + (l.length : Int) := by omega
    have hq1 : ((1 + (l.length : Int)) != 1 + (l.length : Int)) = false := by simp
    have b_17 := HPw17.out.bx.one
    go_wp2_with fail
    -- once more
    refine (toLedger_nn A ts c w17 HPw17.out.tms (by omega) (by omega)).mono ?_
    rintro e z2 ⟨y2, rfl, hy2, hy2', hcp2, hnn2, hfz2, hb2⟩
    have hzz2 := hb2.size
    have HPz2 := Lib.hid (HPw17.out.below hb2 HPw17.out.sz)
    have HWz2 := Lib.hid (HWw17.out.keep fun p _ hp => ⟨hb2.cell (by omega), hb2.frozen (by omega)⟩)
    have HMz2 := Lib.hid (HMw17.out.keep fun p _ hp => ⟨hb2.cell (by omega), hb2.frozen (by omega)⟩)
    have HDq2 := Lib.hid hcp2
    have HEq2 := Lib.hid hnn2
    clear hcp2 hnn2 hfz2 hb2 HPw17 HWw17 HMw17
    go_wp2_with fail
    refine (toIntS_fr A2 hv c2 z2 HPz2.out.tis (by omega)).mono ?_
    rintro e z3 ⟨y3, rfl, hy3, hy3', hfr3, hb3⟩
    have hzz3 := hb3.size
    have HPz3 := Lib.hid (HPz2.out.below hb3 HPz2.out.sz)
    have HWz3 := Lib.hid (HWz2.out.keep fun p _ hp => ⟨hb3.cell (by omega), hb3.frozen (by omega)⟩)
    have HMz3 := Lib.hid (HMz2.out.keep fun p _ hp => ⟨hb3.cell (by omega), hb3.frozen (by omega)⟩)
    have HDq3 := Lib.hid (HDq2.out.keep (fun p _ hp => hb3.cell (by omega)) hy2')
    have HEq3 := Lib.hid (HEq2.out.keep fun p hp => hb3.cell (by omega))
    have HZq3 := Lib.hid hfr3
    clear hfr3 hb3 HDq2 HEq2 HPz2 HWz2 HMz2
    go_wp2_with fail
    have hcall := HImpl2.out y2 z2.heap.size ts ts.length y3 z2.heap.size z3.heap.size hv hv.length id z3 HDq3.out HEq3.out hy2' (by omega) (by omega) (by omega) HZq3.out (Nat.le_refl _) (by omega)
    rw [← HV.out] at hcall
    refine hcall.mono ?_
    clear hcall
    rintro e z4 ⟨A19, c19, rfl, hfr19, hb19⟩
    have hz19 := hb19.size
    have HPz4 := Lib.hid (HPz3.out.below hb19 HPz3.out.sz)
    have HWz4 := Lib.hid (HWz3.out.keep fun p _ hp => ⟨hb19.cell (by omega), hb19.frozen (by omega)⟩)
    have HMz4 := Lib.hid (HMz3.out.keep fun p _ hp => ⟨hb19.cell (by omega), hb19.frozen (by omega)⟩)
    have HV19 := Lib.hid hfr19
    clear hb19 hfr19 HPz3 HWz3 HMz3
    go_wp2_with fail
    refine (eqIntS_same A19 A4 l c19 c4 z3.heap.size w3.heap.size z4.heap.size v4.heap.size z4 HV19.out HWz4.out (by omega)).mono ?_
    rintro e w20 ⟨rfl, hb20⟩
    have hz20 := hb20.size
    have HPw20 := Lib.hid (HPz4.out.below hb20 HPz4.out.sz)
    have HMw20 := Lib.hid (HMz4.out.keep fun p _ hp => ⟨hb20.cell (by omega), hb20.frozen (by omega)⟩)
    clear hb20 HV19 HPz4 HWz4 HMz4
    go_wp2_with fail
    refine (heldIntS_any A7 l.length c7 w6.heap.size w7.heap.size 1 w20 HMw20.out (by omega) (by omega) (by omega)).mono ?_
    rintro e w21 ⟨rfl, rfl⟩
    go_wp2_with fail
    go_ret
    exact ⟨rfl, HPw20.out.bel⟩

end Go.Proofs.Ytjplmmbncjahiaa
