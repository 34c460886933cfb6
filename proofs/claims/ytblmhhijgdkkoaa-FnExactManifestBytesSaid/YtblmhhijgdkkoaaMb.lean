/-
  The bytes of a manifest: plain data, the program's side, the model's.
-/
import Derived.Test.YtblmhhijgdkkoaaBdS
namespace Go.Proofs.Ytblmhhijgdkkoaa
open Go.RowKit Go.Maps

/-- The answer of ManifestBytes. -/
def mbV (au sq pv : Int) (vec : List Int) (es : List En) (sg : Int) : List UInt8 := if manB au sq pv vec es sg then b2 sg ++ bdV au sq pv vec es else []
theorem mbV_length (au sq pv : Int) (vec : List Int) (es : List En) (sg : Int) : (mbV au sq pv vec es sg).length ≤ 1010 := by
  have h := bbV_length au sq pv vec es sg
  unfold bbV at h
  unfold mbV
  split
  · rename_i h2
    rw [if_pos h2] at h
    rw [List.length_append]
    have : (b2 sg).length = 2 := rfl
    omega
  · simp

set_option maxRecDepth 100000 in
set_option maxHeartbeats 4000000 in
theorem l4bytes_any (au sq pv : Int) (AV : Option Addr) (vec : List Int) (cv : Nat) (A : Option Addr) (es : List En) (c : Nat) (sg : Int) (w : World) (hV : IntsIn w 0 w.heap.size AV vec) (hA : EnsIn w 0 w.heap.size A es) (hv : vec.length ≤ 1000) (hn : es.length ≤ 1000) (hbk : ebulk es ≤ 1048576) (hnp : ∀ i (hi : i < es.length), 0 < es[i].name.length) :
    Calls Try.prog 76 #[.agg #[.int .i64 au, .int .i64 sq, .int .i64 pv, .slice AV vec.length cv, .slice A es.length c, .int .i64 sg]] w (NewRw (b2 sg ++ bdV au sq pv vec es) w) := by
  have hl3 := fun (X : World) (hX : Below w.heap.size w X) => l4body_any au sq pv AV vec cv A es c sg X ((hV.keep fun p _ hp => hX.cell hp).mono hX.size) ((hA.below hX).mono hX.size) hv hn hbk hnp
  have hTl := bdV_length au sq pv vec es
  have hTl2 := tbV_length vec es
  obtain ⟨T, hT⟩ : ∃ T, T = bdV au sq pv vec es := ⟨_, rfl⟩
  rw [← hT] at hl3 hTl
  have hT0 : 0 < T.length := by omega
  have hT1 : T.length ≤ 2000000 := by omega
  have HTe := Lib.hid hT
  have HL3w := Lib.hid hl3
  clear hl3 hV hA hT hTl hTl2
  go_enter Try.func76, Try.ntmps76
  go_wp2_with fail
  obtain ⟨W, hW⟩ : ∃ W, W = w.alloc (.cells #[.int .i64 au, .int .i64 sq, .int .i64 pv, .slice AV vec.length cv, .slice A es.length c, .int .i64 sg] 52) := ⟨_, rfl⟩
  have HX := Lib.hid (show Bx W w.heap.size [.int .i64 au, .int .i64 sq, .int .i64 pv, .slice AV vec.length cv, .slice A es.length c, .int .i64 sg] by rw [hW]; exact Bx.new' _ _ _ _ rfl)
  have HBel := Lib.hid (show Below w.heap.size w W by rw [hW]; exact (Below.refl _ _).alloc (Nat.le_refl _) _)
  have hzW : w.heap.size < W.heap.size := by rw [hW]; simp
  rw [← hW]
  clear hW
  have HL3 := Lib.hid (fun (X : World) (hX : Below W.heap.size W X) => HL3w.out X (HBel.out.trans (hX.mono (by omega))))
  have HCell := Lib.hid (show ∀ X, Below W.heap.size W X → X.cell? ⟨w.heap.size, 0, none⟩ = some (.int .i64 au) ∧ X.cell? ⟨w.heap.size, 1, none⟩ = some (.int .i64 sq) ∧ X.cell? ⟨w.heap.size, 2, none⟩ = some (.int .i64 pv) ∧ X.cell? ⟨w.heap.size, 3, none⟩ = some (.slice AV vec.length cv) ∧ X.cell? ⟨w.heap.size, 4, none⟩ = some (.slice A es.length c) ∧ X.cell? ⟨w.heap.size, 5, none⟩ = some (.int .i64 sg) from fun X hX => ⟨(hX.cell (p := ⟨w.heap.size, 0, none⟩) hzW).trans (HX.out 0 (by simp)), (hX.cell (p := ⟨w.heap.size, 1, none⟩) hzW).trans (HX.out 1 (by simp)), (hX.cell (p := ⟨w.heap.size, 2, none⟩) hzW).trans (HX.out 2 (by simp)), (hX.cell (p := ⟨w.heap.size, 3, none⟩) hzW).trans (HX.out 3 (by simp)), (hX.cell (p := ⟨w.heap.size, 4, none⟩) hzW).trans (HX.out 4 (by simp)), (hX.cell (p := ⟨w.heap.size, 5, none⟩) hzW).trans (HX.out 5 (by simp))⟩)
  have HTwo := Lib.hid (show ∀ X : World, Below W.heap.size W X → Calls Try.prog 108 #[.slice none 0 0, .int .i64 sg] X fun e w' => ∃ v', e = .returned v' ∧ Rw w' W.heap.size v' (b2 sg) ∧ Below W.heap.size W w' from fun X hX => (l4two_any (.slice none 0 0) [] sg W.heap.size X (Rw.nil _ _) (by simp) hX.size).mono fun e w' ⟨v', h1, h2, h3⟩ => ⟨v', h1, by simpa using h2, hX.grown h3 hX.size (fun k hk => by simp [Value.ownBlock] at hk)⟩)
  obtain ⟨L2, hL2⟩ : ∃ L2, L2 = b2 sg := ⟨_, rfl⟩
  have hl4 : L2.length = 2 := by rw [hL2]; rfl
  rw [← hL2] at HTwo
  have HL2 := Lib.hid hL2
  have hlim : L2.length + T.length ≤ 100000000 := by omega
  clear hL2 HX HL3w
  go_region_held3 (fun X => X.cell? ⟨w.heap.size, 0, none⟩ = some (.int .i64 au) ∧ X.cell? ⟨w.heap.size, 1, none⟩ = some (.int .i64 sq) ∧ X.cell? ⟨w.heap.size, 2, none⟩ = some (.int .i64 pv) ∧ X.cell? ⟨w.heap.size, 3, none⟩ = some (.slice AV vec.length cv) ∧ X.cell? ⟨w.heap.size, 4, none⟩ = some (.slice A es.length c) ∧ X.cell? ⟨w.heap.size, 5, none⟩ = some (.int .i64 sg))
    (first | (refine HCell.out _ ?_; repeat first | with_reducible exact Below.refl _ _ | with_reducible exact hb3w | with_reducible exact hb2w | with_reducible exact hb5w | with_reducible apply Below.drew | with_reducible refine Below.alloc ?_ (by first | exact Nat.le_refl _ | omega | (simp; done) | (simp; omega)) _))
    (first
      | (go_at_call 108
         refine (HTwo.out _ (by repeat first | with_reducible exact Below.refl _ _ | with_reducible exact hb3w | with_reducible exact hb2w | with_reducible exact hb5w | with_reducible apply Below.drew | with_reducible refine Below.alloc ?_ (by first | exact Nat.le_refl _ | omega | (simp; done) | (simp; omega)) _)).mono ?_
         rintro r w2 ⟨v2, rfl, hr2, hb2w⟩
         have hz2w := hb2w.size
         have HR2 := Lib.hid hr2
         clear hr2)
      | (go_at_call 74
         refine (HL3.out _ (by repeat first | with_reducible exact Below.refl _ _ | with_reducible exact hb3w | with_reducible exact hb2w | with_reducible exact hb5w | with_reducible apply Below.drew | with_reducible refine Below.alloc ?_ (by first | exact Nat.le_refl _ | omega | (simp; done) | (simp; omega)) _)).mono ?_
         rintro r w3 ⟨v3, rfl, hr3, hb3⟩
         have hb3w : Below W.heap.size W w3 := Below.trans (by repeat first | with_reducible exact Below.refl _ _ | with_reducible exact hb3w | with_reducible exact hb2w | with_reducible exact hb5w | with_reducible apply Below.drew | with_reducible refine Below.alloc ?_ (by first | exact Nat.le_refl _ | omega | (simp; done) | (simp; omega)) _) (hb3.mono (by first | exact Nat.le_refl _ | omega | (simp; done) | (simp; omega)))
         have hz3w := hb3w.size
         have HR3 := Lib.hid (show Rw w3 W.heap.size v3 T from hr3.low (by first | exact Nat.le_refl _ | omega | (simp; done) | (simp; omega)))
         try (have hk := HR2.out.below hb3; have HR2k := Lib.hid hk; clear hk)
         clear hr3 hb3)
      | (refine step_append_rw _ (by rfl) _ _ 26 (by rfl) W.heap.size v2 L2 (by rfl) (by first | exact HR2k.out | exact HR2.out) v3 T (by rfl) (by first | exact HR3.out.src hT0) hlim (Or.inl hT0) (by first | exact hz3w | exact hz2w) ?_
         intro v5 w5 hr5 hg5
         have HR5 := Lib.hid hr5
         have hb5w : Below W.heap.size W w5 := by
           first
             | exact below_grownRw hb3w HR2k.out hg5 hz3w
             | exact below_grownRw hb2w HR2.out hg5 hz2w
         have HB5 := Lib.hid (HBel.out.trans (hb5w.mono (by omega)))
         clear hr5 hg5))
  have hWw : w.heap.size ≤ W.heap.size := by omega
  have HFin := Lib.hid (show Rw w5 w.heap.size v5 (b2 sg ++ bdV au sq pv vec es) from by
    have h := HR5.out
    rw [HL2.out, HTe.out] at h
    exact h.low hWw)
  clear HCell
  go_wp2_with fail
  go_ret
  exact ⟨v5, rfl, HFin.out, HB5.out⟩

set_option maxRecDepth 100000 in
set_option maxHeartbeats 2000000 in
theorem specManifestBytes_any (au sq pv : Int) (AV : Option Addr) (vec : List Int) (cv : Nat) (A : Option Addr) (es : List En) (c : Nat) (sg : Int) (w : World) (hV : IntsIn w 0 w.heap.size AV vec) (hA : EnsIn w 0 w.heap.size A es) (hv : vec.length ≤ 1048576) (hn : es.length ≤ 1048576) (hbk : ebulk es ≤ 1048576) (hc : es.length ≤ c := by omega) :
    Calls Try.prog 39 #[.agg #[.int .i64 au, .int .i64 sq, .int .i64 pv, .slice AV vec.length cv, .slice A es.length c, .int .i64 sg]] w (NewByB (mbV au sq pv vec es sg) (manB au sq pv vec es sg) w) := by
  have HV := Lib.hid hV
  have HA := Lib.hid hA
  have HM := Lib.hid (@manB_tree au sq pv vec es sg)
  have HM2 := Lib.hid (@manB_said au sq pv vec es sg)
  have HTv := Lib.hid (@treeB_vec0 vec es)
  have HTn := Lib.hid (@treeB_names0 vec es)
  obtain ⟨L, hL⟩ : ∃ L, L = mbV au sq pv vec es sg := ⟨_, rfl⟩
  have HL := Lib.hid (show L = if manB au sq pv vec es sg then b2 sg ++ bdV au sq pv vec es else [] from hL)
  rw [← hL]
  clear hV hA hL
  go_enter Try.func39, Try.ntmps39
  go_wp2_with fail
  obtain ⟨W, hW⟩ : ∃ W, W = w.alloc (.cells #[.int .i64 au, .int .i64 sq, .int .i64 pv, .slice AV vec.length cv, .slice A es.length c, .int .i64 sg] 52) := ⟨_, rfl⟩
  have HX := Lib.hid (show Bx W w.heap.size [.int .i64 au, .int .i64 sq, .int .i64 pv, .slice AV vec.length cv, .slice A es.length c, .int .i64 sg] by rw [hW]; exact Bx.new' _ _ _ _ rfl)
  have HBel := Lib.hid (show Below w.heap.size w W by rw [hW]; exact (Below.refl _ _).alloc (Nat.le_refl _) _)
  have hzW : w.heap.size < W.heap.size := by rw [hW]; simp
  rw [← hW]
  clear hW
  refine (specManifestOk_any au sq pv AV vec cv A es c sg W ((HV.out.keep fun p _ hp => HBel.out.cell hp).mono (by omega)) ((HA.out.below HBel.out).mono (by omega)) hv hn hbk hc).mono ?_
  rintro e w1 ⟨rfl, hb1⟩
  have HB1 := Lib.hid (HBel.out.trans (hb1.mono (by omega)))
  have hz1 := hb1.size
  have x0 := (HX.out.below hb1 hzW) 0 (by simp)
  have x1 := (HX.out.below hb1 hzW) 1 (by simp)
  have x2 := (HX.out.below hb1 hzW) 2 (by simp)
  have x3 := (HX.out.below hb1 hzW) 3 (by simp)
  have x4 := (HX.out.below hb1 hzW) 4 (by simp)
  have x5 := (HX.out.below hb1 hzW) 5 (by simp)
  simp only [List.getElem_cons_succ, List.getElem_cons_zero] at x0 x1 x2 x3 x4 x5
  have lw : w.heap.size < w1.heap.size := by omega
  clear hb1
  obtain ⟨mb, hmb⟩ : ∃ mb, mb = manB au sq pv vec es sg := ⟨_, rfl⟩
  rw [← hmb] at HM HM2 HL ⊢
  have HMe := Lib.hid hmb.symm
  clear hmb
  cases mb with
  | false =>
    have HL0 := Lib.hid (show L = [] from HL.out)
    go_wp2_with fail
    go_ret2
    exact ⟨none, 0, by rw [HL0.out, HMe.out]; rfl, by rw [HL0.out]; exact fun h => absurd h (by simp), HB1.out⟩
  | true =>
  have hs8 := (HM2.out rfl).2.2.2.2.2.2.1
  have hvl : vec.length ≤ 1000 := by have := HTv.out (HM.out rfl); omega
  have HL0 := Lib.hid (show L = b2 sg ++ bdV au sq pv vec es from HL.out)
  have HNp := Lib.hid (HTn.out (HM.out rfl))
  clear HM HM2 HL HTv HTn
  go_wp2_with fail
  refine (l4bytes_any au sq pv AV vec cv A es c sg w1 ((HV.out.keep fun p _ hp => HB1.out.cell hp).mono (by omega)) ((HA.out.below HB1.out).mono (by omega)) (by omega) (by omega) hbk HNp.out).mono ?_
  rintro e w3 ⟨v3, rfl, hr3, hb3⟩
  obtain ⟨A3, c3, rfl, hfr⟩ := hr3.fr
  have hz3 := hb3.size
  have HFr := Lib.hid hfr
  have HB3 := Lib.hid (HB1.out.trans (hb3.mono (by omega)))
  rw [← HL0.out] at HFr ⊢
  clear hr3 hfr hb3
  go_wp2_with fail
  go_ret2
  exact ⟨A3, c3, by rw [HMe.out]; rfl, HFr.out.low (by omega), HB3.out⟩

set_option maxRecDepth 100000 in
set_option maxHeartbeats 2000000 in
theorem implManifestBytes_any (au sq pv : Int) (AV : Option Addr) (vec : List Int) (cv : Nat) (A : Option Addr) (es : List En) (c : Nat) (sg : Int) (w : World) (hV : IntsIn w 0 w.heap.size AV vec) (hA : EnsIn w 0 w.heap.size A es) (_hv : vec.length ≤ 1048576) (hn : es.length ≤ 1048576) (hbk : ebulk es ≤ 1048576) :
    Calls Try.prog 40 #[.agg #[.int .i64 au, .int .i64 sq, .int .i64 pv, .slice AV vec.length cv, .slice A es.length c, .int .i64 sg]] w (NewByB (mbV au sq pv vec es sg) (manB au sq pv vec es sg) w) := by
  have HV := Lib.hid hV
  have HA := Lib.hid hA
  have HM := Lib.hid (@manB_tree au sq pv vec es sg)
  have HM2 := Lib.hid (@manB_said au sq pv vec es sg)
  obtain ⟨L, hL⟩ : ∃ L, L = mbV au sq pv vec es sg := ⟨_, rfl⟩
  have HL := Lib.hid (show L = if manB au sq pv vec es sg then b2 sg ++ bdV au sq pv vec es else [] from hL)
  rw [← hL]
  clear hV hA hL
  go_enter Try.func40, Try.ntmps40
  go_wp2_with fail
  obtain ⟨W, hW⟩ : ∃ W, W = w.alloc (.cells #[.int .i64 au, .int .i64 sq, .int .i64 pv, .slice AV vec.length cv, .slice A es.length c, .int .i64 sg] 52) := ⟨_, rfl⟩
  have HBel := Lib.hid (show Below w.heap.size w W by rw [hW]; exact (Below.refl _ _).alloc (Nat.le_refl _) _)
  have hzW : w.heap.size < W.heap.size := by rw [hW]; simp
  rw [← hW]
  clear hW
  refine (readManifest_any au sq pv AV vec cv A es c sg W ((HV.out.keep fun p _ hp => HBel.out.cell hp).mono (by omega)) ((HA.out.below HBel.out).mono (by omega)) hn hbk).mono ?_
  rintro e w1 ⟨x0, x1, x2, x3, A', n, c', rfl, htr, hb1⟩
  have HTr := Lib.hid htr
  have HB1 := Lib.hid (HBel.out.trans (hb1.mono (by omega)))
  have hz1 := hb1.size
  clear hb1 htr
  obtain ⟨mb, hmb⟩ : ∃ mb, mb = manB au sq pv vec es sg := ⟨_, rfl⟩
  rw [← hmb] at HM HM2 HL ⊢
  have HMe := Lib.hid hmb.symm
  clear hmb
  cases mb with
  | false =>
    have HL0 := Lib.hid (show L = [] from HL.out)
    go_wp2_with fail
    go_ret2
    exact ⟨none, 0, by rw [HL0.out, HMe.out]; rfl, by rw [HL0.out]; exact fun h => absurd h (by simp), HB1.out.alloc (by omega) _⟩
  | true =>
  obtain ⟨hvx, hne, hev⟩ := HTr.out (HM.out rfl)
  have hs8 := (HM2.out rfl).2.2.2.2.2.2.1
  subst hne
  subst hvx
  have HEv := Lib.hid hev
  have HL0 := Lib.hid (show L = b2 sg ++ bdV au sq pv [x0, x1, x2, x3] es from HL.out)
  clear hev HTr HM HM2 HL
  go_wp2_with fail
  obtain ⟨W2, hW2⟩ : ∃ W2, W2 = w1.alloc (.cells #[.int .i64 au, .int .i64 sq, .int .i64 pv, .int .i64 x0, .int .i64 x1, .int .i64 x2, .int .i64 x3, .slice A' es.length c', .int .i64 sg] 107) := ⟨_, rfl⟩
  have hb2 : Below w1.heap.size w1 W2 := by rw [hW2]; exact (Below.refl _ _).alloc (Nat.le_refl _) _
  have hz2 := hb2.size
  have HB2 := Lib.hid (HB1.out.trans (hb2.mono (by omega)))
  have HEv2 := Lib.hid (((HEv.out.below hb2).low (Nat.zero_le _)).mono hz2)
  have HX2 := Lib.hid (show Bx W2 w1.heap.size [.int .i64 au, .int .i64 sq, .int .i64 pv, .int .i64 x0, .int .i64 x1, .int .i64 x2, .int .i64 x3, .slice A' es.length c', .int .i64 sg] by rw [hW2]; exact Bx.new' _ _ _ _ rfl)
  have hlt2 : w1.heap.size < W2.heap.size := by rw [hW2]; simp
  rw [← hW2]
  clear hW2 hb2 HEv
  have hTl := bdV_length au sq pv [x0, x1, x2, x3] es
  have hTl2 := tbV_length [x0, x1, x2, x3] es
  have he := fun (X : World) (hX : Below W2.heap.size W2 X) => bodyEnc_any au sq pv x0 x1 x2 x3 A' es c' X ((HEv2.out.below hX).mono hX.size) (by omega) hbk
  obtain ⟨T, hT⟩ : ∃ T, T = bdV au sq pv [x0, x1, x2, x3] es := ⟨_, rfl⟩
  rw [← hT] at he hTl HL0
  have hT0 : 0 < T.length := by omega
  have hv4 : [x0, x1, x2, x3].length = 4 := rfl
  have hT1 : T.length ≤ 2000000 := by omega
  have HEnc := Lib.hid he
  clear he hT hTl hTl2 hv4
  have HCell := Lib.hid (show ∀ X, Below W2.heap.size W2 X → X.cell? ⟨w1.heap.size, 0, none⟩ = some (.int .i64 au) ∧ X.cell? ⟨w1.heap.size, 1, none⟩ = some (.int .i64 sq) ∧ X.cell? ⟨w1.heap.size, 2, none⟩ = some (.int .i64 pv) ∧ X.cell? ⟨w1.heap.size, 3, none⟩ = some (.int .i64 x0) ∧ X.cell? ⟨w1.heap.size, 4, none⟩ = some (.int .i64 x1) ∧ X.cell? ⟨w1.heap.size, 5, none⟩ = some (.int .i64 x2) ∧ X.cell? ⟨w1.heap.size, 6, none⟩ = some (.int .i64 x3) ∧ X.cell? ⟨w1.heap.size, 7, none⟩ = some (.slice A' es.length c') ∧ X.cell? ⟨w1.heap.size, 8, none⟩ = some (.int .i64 sg) from fun X hX => ⟨(hX.cell (p := ⟨w1.heap.size, 0, none⟩) hlt2).trans (HX2.out 0 (by simp)), (hX.cell (p := ⟨w1.heap.size, 1, none⟩) hlt2).trans (HX2.out 1 (by simp)), (hX.cell (p := ⟨w1.heap.size, 2, none⟩) hlt2).trans (HX2.out 2 (by simp)), (hX.cell (p := ⟨w1.heap.size, 3, none⟩) hlt2).trans (HX2.out 3 (by simp)), (hX.cell (p := ⟨w1.heap.size, 4, none⟩) hlt2).trans (HX2.out 4 (by simp)), (hX.cell (p := ⟨w1.heap.size, 5, none⟩) hlt2).trans (HX2.out 5 (by simp)), (hX.cell (p := ⟨w1.heap.size, 6, none⟩) hlt2).trans (HX2.out 6 (by simp)), (hX.cell (p := ⟨w1.heap.size, 7, none⟩) hlt2).trans (HX2.out 7 (by simp)), (hX.cell (p := ⟨w1.heap.size, 8, none⟩) hlt2).trans (HX2.out 8 (by simp))⟩)
  have HTwo := Lib.hid (show ∀ X : World, Below W2.heap.size W2 X → Calls Try.prog 77 #[.slice none 0 0, .int .i64 sg] X fun e w' => ∃ v', e = .returned v' ∧ Rw w' W2.heap.size v' (b2 sg) ∧ Below W2.heap.size W2 w' from fun X hX => (appendTwo_any (.slice none 0 0) [] sg W2.heap.size X (Rw.nil _ _) (by simp) hX.size).mono fun e w' ⟨v', h1, h2, h3⟩ => ⟨v', h1, by simpa using h2, hX.grown h3 hX.size (fun k hk => by simp [Value.ownBlock] at hk)⟩)
  obtain ⟨L2, hL2⟩ : ∃ L2, L2 = b2 sg := ⟨_, rfl⟩
  have hl4 : L2.length = 2 := by rw [hL2]; rfl
  rw [← hL2] at HTwo HL0
  have hlim : L2.length + T.length ≤ 100000000 := by omega
  clear hL2 HX2
  go_wp2_with fail
  go_region_held3 (fun X => X.cell? ⟨w1.heap.size, 0, none⟩ = some (.int .i64 au) ∧ X.cell? ⟨w1.heap.size, 1, none⟩ = some (.int .i64 sq) ∧ X.cell? ⟨w1.heap.size, 2, none⟩ = some (.int .i64 pv) ∧ X.cell? ⟨w1.heap.size, 3, none⟩ = some (.int .i64 x0) ∧ X.cell? ⟨w1.heap.size, 4, none⟩ = some (.int .i64 x1) ∧ X.cell? ⟨w1.heap.size, 5, none⟩ = some (.int .i64 x2) ∧ X.cell? ⟨w1.heap.size, 6, none⟩ = some (.int .i64 x3) ∧ X.cell? ⟨w1.heap.size, 7, none⟩ = some (.slice A' es.length c') ∧ X.cell? ⟨w1.heap.size, 8, none⟩ = some (.int .i64 sg))
    (first | (refine HCell.out _ ?_; repeat first | with_reducible exact Below.refl _ _ | with_reducible exact hb3w | with_reducible exact hb2w | with_reducible exact hb5w | with_reducible apply Below.drew | with_reducible refine Below.alloc ?_ (by first | exact Nat.le_refl _ | omega | (simp; done) | (simp; omega)) _))
    (first
      | (go_at_call 77
         refine (HTwo.out _ (by repeat first | with_reducible exact Below.refl _ _ | with_reducible exact hb3w | with_reducible exact hb2w | with_reducible exact hb5w | with_reducible apply Below.drew | with_reducible refine Below.alloc ?_ (by first | exact Nat.le_refl _ | omega | (simp; done) | (simp; omega)) _)).mono ?_
         rintro r w2 ⟨v2, rfl, hr2, hb2w⟩
         have hz2w := hb2w.size
         have HR2 := Lib.hid hr2
         clear hr2)
      | (go_at_call 75
         refine (HEnc.out _ (by repeat first | with_reducible exact Below.refl _ _ | with_reducible exact hb3w | with_reducible exact hb2w | with_reducible exact hb5w | with_reducible apply Below.drew | with_reducible refine Below.alloc ?_ (by first | exact Nat.le_refl _ | omega | (simp; done) | (simp; omega)) _)).mono ?_
         rintro r w3 ⟨v3, rfl, hr3, hb3⟩
         have hb3w : Below W2.heap.size W2 w3 := Below.trans (by repeat first | with_reducible exact Below.refl _ _ | with_reducible exact hb3w | with_reducible exact hb2w | with_reducible exact hb5w | with_reducible apply Below.drew | with_reducible refine Below.alloc ?_ (by first | exact Nat.le_refl _ | omega | (simp; done) | (simp; omega)) _) (hb3.mono (by first | exact Nat.le_refl _ | omega | (simp; done) | (simp; omega)))
         have hz3w := hb3w.size
         have HR3 := Lib.hid (show Rw w3 W2.heap.size v3 T from hr3.low (by first | exact Nat.le_refl _ | omega | (simp; done) | (simp; omega)))
         try (have hk := HR2.out.below hb3; have HR2k := Lib.hid hk; clear hk)
         clear hr3 hb3)
      | (refine step_append_rw _ (by rfl) _ _ 26 (by rfl) W2.heap.size v2 L2 (by rfl) (by first | exact HR2k.out | exact HR2.out) v3 T (by rfl) (by first | exact HR3.out.src hT0) hlim (Or.inl hT0) (by first | exact hz3w | exact hz2w) ?_
         intro v5 w5 hr5 hg5
         have HR5 := Lib.hid hr5
         have hb5w : Below W2.heap.size W2 w5 := by
           first
             | exact below_grownRw hb3w HR2k.out hg5 hz3w
             | exact below_grownRw hb2w HR2.out hg5 hz2w
         have HB5 := Lib.hid (HB2.out.trans (hb5w.mono (by omega)))
         clear hr5 hg5))
  have hr5 := HR5.out
  rw [← HL0.out] at hr5
  obtain ⟨A3, c3, rfl, hfr⟩ := hr5.fr
  have HFr := Lib.hid hfr
  have hW2w : w.heap.size ≤ W2.heap.size := by omega
  clear hr5 hfr HCell
  go_wp2_with fail
  go_ret2
  exact ⟨A3, c3, by rw [HMe.out]; rfl, HFr.out.low hW2w, HB5.out⟩

end Go.Proofs.Ytblmhhijgdkkoaa
