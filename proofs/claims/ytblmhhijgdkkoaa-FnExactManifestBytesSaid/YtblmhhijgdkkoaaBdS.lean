/-
  The bytes of what a manifest says, the model's side; its BodyBytes.
-/
import Derived.Test.YtblmhhijgdkkoaaBd
namespace Go.Proofs.Ytblmhhijgdkkoaa
open Go.RowKit Go.Maps

theorem treeB_vec0 {vec : List Int} {es : List En} (h : treeB vec es = true) : vec.length = 4 := by
  unfold treeB at h
  simp only [Bool.and_eq_true] at h
  obtain ⟨a, b, c, d, e⟩ := vecB_four h.1.1.1
  rw [e]
  rfl
theorem Rw.kept {w w' : World} {B : Nat} {v : Value} {l : List UInt8} {row : Option Nat} (h : Rw w B v l) (hg : w.grownBy w' row) (hne : v.ownBlock ≠ row) : Rw w' B v l := h.imp id fun h => h.kept hg hne

set_option maxRecDepth 100000 in
set_option maxHeartbeats 1000000 in
theorem l4two_any (v : Value) (l : List UInt8) (n : Int) (B : Nat) (w : World) (hr : Rw w B v l) (hl : l.length ≤ 90000000) (hB : B ≤ w.heap.size) :
    Calls Try.prog 108 #[v, .int .i64 n] w fun e w' => ∃ v', e = .returned v' ∧ Rw w' B v' (l ++ b2 n) ∧ w.grownBy w' v.ownBlock := by
  have HR := Lib.hid hr
  clear hr
  go_enter Try.func108, Try.ntmps108
  go_wp2_with (at_builtin; refine wpList_append_rw _ rfl _ _ 26 rfl B v l rfl (HR.out.alloc _) _ (b2 n) rfl (src_built w (b2 n) _ (by rw [cells_two])) ?c1 ?c2 ?c3 ?_)
  case c1 => simp [b2]; omega
  case c2 => exact .inl (by simp [b2])
  case c3 => simp; omega
  intro v' w' h1 h2
  have H1 := Lib.hid h1
  have h3 := h2
  have H3 := Lib.hid (show w.grownBy w' v.ownBlock from ⟨h2.os, h2.tape, h2.output, by have := h2.size; simp at this; omega, fun k hk hne => (h2.block k (by simp; omega) hne).trans (heap_alloc_old w _ hk)⟩)
  clear h1 h2 h3
  go_wp2_with fail
  go_ret
  exact ⟨v', rfl, H1.out, H3.out⟩

set_option maxRecDepth 100000 in
set_option maxHeartbeats 4000000 in
theorem l4body_any (au sq pv : Int) (AV : Option Addr) (vec : List Int) (cv : Nat) (A : Option Addr) (es : List En) (c : Nat) (sg : Int) (w : World) (hV : IntsIn w 0 w.heap.size AV vec) (hA : EnsIn w 0 w.heap.size A es) (hv : vec.length ≤ 1000) (hn : es.length ≤ 1000) (hbk : ebulk es ≤ 1048576) (hnp : ∀ i (hi : i < es.length), 0 < es[i].name.length) :
    Calls Try.prog 74 #[.agg #[.int .i64 au, .int .i64 sq, .int .i64 pv, .slice AV vec.length cv, .slice A es.length c, .int .i64 sg]] w (NewRw (bdV au sq pv vec es) w) := by
  have hl3 := fun (X : World) (hX : Below w.heap.size w X) => l3bytes_any AV vec cv A es c X ((hV.keep fun p _ hp => hX.cell hp).mono hX.size) ((hA.below hX).mono hX.size) hv hn hbk hnp
  have hTl := tbV_length vec es
  obtain ⟨T, hT⟩ : ∃ T, T = tbV vec es := ⟨_, rfl⟩
  rw [← hT] at hl3 hTl
  have hT0 : 0 < T.length := by omega
  have hT1 : T.length ≤ 2000000 := by omega
  have HTe := Lib.hid hT
  have HL3w := Lib.hid hl3
  clear hl3 hV hA hT hTl
  go_enter Try.func74, Try.ntmps74
  go_wp2_with fail
  obtain ⟨W, hW⟩ : ∃ W, W = w.alloc (.cells #[.int .i64 au, .int .i64 sq, .int .i64 pv, .slice AV vec.length cv, .slice A es.length c, .int .i64 sg] 52) := ⟨_, rfl⟩
  have HX := Lib.hid (show Bx W w.heap.size [.int .i64 au, .int .i64 sq, .int .i64 pv, .slice AV vec.length cv, .slice A es.length c, .int .i64 sg] by rw [hW]; exact Bx.new' _ _ _ _ rfl)
  have HBel := Lib.hid (show Below w.heap.size w W by rw [hW]; exact (Below.refl _ _).alloc (Nat.le_refl _) _)
  have hzW : w.heap.size < W.heap.size := by rw [hW]; simp
  rw [← hW]
  clear hW
  have HL3 := Lib.hid (fun (X : World) (hX : Below W.heap.size W X) => HL3w.out X (HBel.out.trans (hX.mono (by omega))))
  have HCell := Lib.hid (show ∀ X, Below W.heap.size W X → X.cell? ⟨w.heap.size, 0, none⟩ = some (.int .i64 au) ∧ X.cell? ⟨w.heap.size, 1, none⟩ = some (.int .i64 sq) ∧ X.cell? ⟨w.heap.size, 2, none⟩ = some (.int .i64 pv) ∧ X.cell? ⟨w.heap.size, 3, none⟩ = some (.slice AV vec.length cv) ∧ X.cell? ⟨w.heap.size, 4, none⟩ = some (.slice A es.length c) from fun X hX => ⟨(hX.cell (p := ⟨w.heap.size, 0, none⟩) hzW).trans (HX.out 0 (by simp)), (hX.cell (p := ⟨w.heap.size, 1, none⟩) hzW).trans (HX.out 1 (by simp)), (hX.cell (p := ⟨w.heap.size, 2, none⟩) hzW).trans (HX.out 2 (by simp)), (hX.cell (p := ⟨w.heap.size, 3, none⟩) hzW).trans (HX.out 3 (by simp)), (hX.cell (p := ⟨w.heap.size, 4, none⟩) hzW).trans (HX.out 4 (by simp))⟩)
  have hp2 : 0 < ([lo8 au, lo8 sq] : List UInt8).length := by simp
  have hl2 : ([lo8 au, lo8 sq] : List UInt8).length ≤ 90000000 := by simp
  have hl2b : ([lo8 au, lo8 sq] : List UInt8).length ≤ 1000000 := by simp
  obtain ⟨L2, hL2⟩ : ∃ L2, L2 = [lo8 au, lo8 sq] ++ b2 pv := ⟨_, rfl⟩
  have hl4 : L2.length = 4 := by rw [hL2]; rfl
  have HL2 := Lib.hid hL2
  have hlim : L2.length + T.length ≤ 100000000 := by omega
  have HW2 := Lib.hid (rw_built W W.heap.size W.heap.size rfl [lo8 au, lo8 sq] #[.int .u8 (IntKind.u8.wrap au), .int .u8 (IntKind.u8.wrap sq)] (by rw [cells_pair, ← wrap8, ← wrap8]) (Nat.le_refl _) hl2b).drew
  have HWb := Lib.hid (show ∀ X : World, W.heap.size ≤ X.heap.size → Rw (X.alloc (.cells #[.int .u8 (IntKind.u8.wrap au), .int .u8 (IntKind.u8.wrap sq)] 5)) W.heap.size (.slice (some ⟨X.heap.size, 0, none⟩) 2 2) [lo8 au, lo8 sq] from fun X hX => rw_built X W.heap.size X.heap.size rfl [lo8 au, lo8 sq] #[.int .u8 (IntKind.u8.wrap au), .int .u8 (IntKind.u8.wrap sq)] (by rw [cells_pair, ← wrap8, ← wrap8]) hX hl2b)
  clear hL2 HX HL3w
  go_region_held3 (fun X => X.cell? ⟨w.heap.size, 0, none⟩ = some (.int .i64 au) ∧ X.cell? ⟨w.heap.size, 1, none⟩ = some (.int .i64 sq) ∧ X.cell? ⟨w.heap.size, 2, none⟩ = some (.int .i64 pv) ∧ X.cell? ⟨w.heap.size, 3, none⟩ = some (.slice AV vec.length cv) ∧ X.cell? ⟨w.heap.size, 4, none⟩ = some (.slice A es.length c))
    (first | (refine HCell.out _ ?_; repeat first | with_reducible exact Below.refl _ _ | with_reducible exact hb3w | with_reducible exact hb2w | with_reducible exact hb5w | with_reducible apply Below.drew | with_reducible refine Below.alloc ?_ (by first | exact Nat.le_refl _ | omega | (simp; done) | (simp; omega)) _))
    (first
      | (go_at_call 108
         have hrow : ∀ (X : World) (v : Value), Rw X W.heap.size v [lo8 au, lo8 sq] → Below W.heap.size W X → Calls Try.prog 108 #[v, .int .i64 pv] X fun e w' => ∃ v', e = .returned v' ∧ Rw w' W.heap.size v' L2 ∧ X.grownBy w' v.ownBlock ∧ Below W.heap.size W w' := fun X v hr hX => (l4two_any v [lo8 au, lo8 sq] pv W.heap.size X hr hl2 hX.size).mono fun e w' ⟨v', h1, h2, h3⟩ => ⟨v', h1, by rw [HL2.out]; exact h2, h3, below_grownRw hX hr h3 hX.size⟩
         refine (hrow _ _ (by first | exact HW2.out | exact HRk.out | exact HWb.out _ hz3w) (by repeat first | with_reducible exact Below.refl _ _ | with_reducible exact hb3w | with_reducible exact hb2w | with_reducible apply Below.drew | with_reducible refine Below.alloc ?_ (by first | exact Nat.le_refl _ | omega | (simp; done) | (simp; omega)) _)).mono ?_
         rintro r w2 ⟨v2, rfl, hr2, hg2, hb2w⟩
         have hz2w := hb2w.size
         have HR2 := Lib.hid hr2
         try (have hr3k := HR3.out.kept hg2 (fun e => by have h9 := (HR3l.out.lt W.heap.size e).1; simp at h9); have HR3k := Lib.hid hr3k; clear hr3k)
         try (have hr3k := (HR3.out.alloc _).kept hg2 (fun e => by have h9 := (HR3.out.lt _ e).2; omega); have HR3k := Lib.hid hr3k; clear hr3k)
         clear hrow hr2)
      | (go_at_call 69
         refine (HL3.out _ (by repeat first | with_reducible exact Below.refl _ _ | with_reducible exact hb3w | with_reducible exact hb2w | with_reducible apply Below.drew | with_reducible refine Below.alloc ?_ (by first | exact Nat.le_refl _ | omega | (simp; done) | (simp; omega)) _)).mono ?_
         rintro r w3 ⟨v3, rfl, hr3, hb3⟩
         have hb3w : Below W.heap.size W w3 := Below.trans (by repeat first | with_reducible exact Below.refl _ _ | with_reducible exact hb3w | with_reducible exact hb2w | with_reducible apply Below.drew | with_reducible refine Below.alloc ?_ (by first | exact Nat.le_refl _ | omega | (simp; done) | (simp; omega)) _) (hb3.mono (by first | exact Nat.le_refl _ | omega | (simp; done) | (simp; omega)))
         have hz3w := hb3w.size
         have HR3l := Lib.hid hr3
         have HR3 := Lib.hid (show Rw w3 W.heap.size v3 T from hr3.low (by first | exact Nat.le_refl _ | omega | (simp; done) | (simp; omega)))
         try (have hk := HR2.out.below hb3; have HR2k := Lib.hid hk; clear hk)
         try (have hk := HW2.out.below hb3; have HRk := Lib.hid hk; clear hk)
         clear hr3 hb3)
      | (refine step_append_rw _ (by rfl) _ _ 26 (by rfl) W.heap.size v2 L2 (by rfl) (by first | exact HR2k.out | exact HR2.out) v3 T (by rfl) (by first | exact HR3k.out.src hT0 | exact HR3.out.src hT0) hlim (Or.inl hT0) (by first | exact hz2w | exact hz3w) ?_
         intro v5 w5 hr5 hg5
         have HR5 := Lib.hid hr5
         have hb5w : Below W.heap.size W w5 := by
           first
             | exact below_grownRw hb3w HR2k.out hg5 hz3w
             | exact below_grownRw hb2w HR2.out hg5 hz2w
         have HB5 := Lib.hid (HBel.out.trans (hb5w.mono (by omega)))
         clear hr5 hg5))
  have hWw : w.heap.size ≤ W.heap.size := by omega
  have HFin := Lib.hid (show Rw w5 w.heap.size v5 (bdV au sq pv vec es) from by
    have h := HR5.out
    rw [HL2.out, HTe.out] at h
    exact h.low hWw)
  clear HCell
  go_wp2_with fail
  go_ret
  exact ⟨v5, rfl, HFin.out, HB5.out⟩

set_option maxRecDepth 100000 in
set_option maxHeartbeats 2000000 in
theorem specBodyBytes_any (au sq pv : Int) (AV : Option Addr) (vec : List Int) (cv : Nat) (A : Option Addr) (es : List En) (c : Nat) (sg : Int) (w : World) (hV : IntsIn w 0 w.heap.size AV vec) (hA : EnsIn w 0 w.heap.size A es) (hv : vec.length ≤ 1048576) (hn : es.length ≤ 1048576) (hbk : ebulk es ≤ 1048576) (hc : es.length ≤ c := by omega) :
    Calls Try.prog 35 #[.agg #[.int .i64 au, .int .i64 sq, .int .i64 pv, .slice AV vec.length cv, .slice A es.length c, .int .i64 sg]] w (NewByB (bbV au sq pv vec es sg) (manB au sq pv vec es sg) w) := by
  have HV := Lib.hid hV
  have HA := Lib.hid hA
  have HM := Lib.hid (@manB_tree au sq pv vec es sg)
  have HM2 := Lib.hid (@manB_said au sq pv vec es sg)
  have HTv := Lib.hid (@treeB_vec0 vec es)
  have HTn := Lib.hid (@treeB_names0 vec es)
  obtain ⟨L, hL⟩ : ∃ L, L = bbV au sq pv vec es sg := ⟨_, rfl⟩
  have HL := Lib.hid (show L = if manB au sq pv vec es sg then bdV au sq pv vec es else [] from hL)
  rw [← hL]
  clear hV hA hL
  go_enter Try.func35, Try.ntmps35
  go_wp2_with fail
  obtain ⟨W, hW⟩ : ∃ W, W = w.alloc (.cells #[.int .i64 au, .int .i64 sq, .int .i64 pv, .slice AV vec.length cv, .slice A es.length c, .int .i64 sg] 52) := ⟨_, rfl⟩
  have HX := Lib.hid (show Bx W w.heap.size [.int .i64 au, .int .i64 sq, .int .i64 pv, .slice AV vec.length cv, .slice A es.length c, .int .i64 sg] by rw [hW]; exact Bx.new' _ _ _ _ rfl)
  have HBel := Lib.hid (show Below w.heap.size w W by rw [hW]; exact (Below.refl _ _).alloc (Nat.le_refl _) _)
  have hzW : w.heap.size < W.heap.size := by rw [hW]; simp
  rw [← hW]
  clear hW
  refine (specManifestOk_any au sq pv AV vec cv A es c sg W ((HV.out.keep fun p _ hp => HBel.out.cell hp).mono (by omega)) ((HA.out.below HBel.out).mono (by omega)) hv hn hbk hc).mono ?_
  rintro e w1 ⟨rfl, hb1⟩
  have HB1 := Lib.hid (HBel.out.trans (hb1.mono (by omega)))
  have hz1 := hb1.size
  have x0 := (HX.out.below hb1 hzW) 0 (by simp)
  have x1 := (HX.out.below hb1 hzW) 1 (by simp)
  have x2 := (HX.out.below hb1 hzW) 2 (by simp)
  have x3 := (HX.out.below hb1 hzW) 3 (by simp)
  have x4 := (HX.out.below hb1 hzW) 4 (by simp)
  have x5 := (HX.out.below hb1 hzW) 5 (by simp)
  simp only [List.getElem_cons_succ, List.getElem_cons_zero] at x0 x1 x2 x3 x4 x5
  have lw : w.heap.size < w1.heap.size := by omega
  clear hb1
  obtain ⟨mb, hmb⟩ : ∃ mb, mb = manB au sq pv vec es sg := ⟨_, rfl⟩
  rw [← hmb] at HM HM2 HL ⊢
  have HMe := Lib.hid hmb.symm
  clear hmb
  cases mb with
  | false =>
    have HL0 := Lib.hid (show L = [] from HL.out)
    go_wp2_with fail
    go_ret2
    exact ⟨none, 0, by rw [HL0.out, HMe.out]; rfl, by rw [HL0.out]; exact fun h => absurd h (by simp), HB1.out⟩
  | true =>
  have hs8 := (HM2.out rfl).2.2.2.2.2.2.1
  have hvl : vec.length ≤ 1000 := by have := HTv.out (HM.out rfl); omega
  have HL0 := Lib.hid (show L = bdV au sq pv vec es from HL.out)
  have HNp := Lib.hid (HTn.out (HM.out rfl))
  clear HM HM2 HL HTv HTn
  go_wp2_with fail
  refine (l4body_any au sq pv AV vec cv A es c sg w1 ((HV.out.keep fun p _ hp => HB1.out.cell hp).mono (by omega)) ((HA.out.below HB1.out).mono (by omega)) (by omega) (by omega) hbk HNp.out).mono ?_
  rintro e w3 ⟨v3, rfl, hr3, hb3⟩
  obtain ⟨A3, c3, rfl, hfr⟩ := hr3.fr
  have hz3 := hb3.size
  have HFr := Lib.hid hfr
  have HB3 := Lib.hid (HB1.out.trans (hb3.mono (by omega)))
  rw [← HL0.out] at HFr ⊢
  clear hr3 hfr hb3
  go_wp2_with fail
  go_ret2
  exact ⟨A3, c3, by rw [HMe.out]; rfl, HFr.out.low (by omega), HB3.out⟩

theorem nameB_len {l : List UInt8} (h : nameB l = true) : l.length ≤ 24 := by
  unfold nameB at h
  split at h
  · exact absurd h (by decide)
  · simp only [Bool.and_eq_true, decide_eq_true_eq] at h
    exact h.2
theorem ebulk_names : ∀ (es : List En), (es.all fun e => nameB e.name) = true → ebulk es ≤ 24 * es.length
  | [], _ => by simp [ebulk]
  | e :: es, h => by
    simp only [List.all_cons, Bool.and_eq_true] at h
    have h1 := nameB_len h.1
    have h2 := ebulk_names es h.2
    simp only [ebulk, List.length_cons]
    omega
theorem bbV_length (au sq pv : Int) (vec : List Int) (es : List En) (sg : Int) : (bbV au sq pv vec es sg).length ≤ 1000 := by
  unfold bbV
  split
  · rename_i h
    have ht := manB_tree h
    have h8 := (manB_said h).2.2.2.2.2.2.1
    have hv := treeB_vec0 ht
    unfold treeB at ht
    simp only [Bool.and_eq_true, decide_eq_true_eq] at ht
    have hb := ebulk_names es ht.1.2
    rw [bdV_length, tbV_length]
    omega
  · simp

end Go.Proofs.Ytblmhhijgdkkoaa
