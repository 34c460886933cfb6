/-
  The program's Leaks.
-/
import Derived.Test.YtigkojdchpjkcaaOh
namespace Go.Proofs.Ytigkojdchpjkcaa
open Go.RowKit Go.Maps

set_option maxRecDepth 100000 in
set_option maxHeartbeats 1000000 in
theorem implLeaks_any (A : Option Addr) (ts : List Tm) (c L B : Nat) (A2 : Option Addr) (hv : List Int) (c2 : Nat) (w : World) (hA : TmsIn w L B A ts) (hB : B ≤ w.heap.size) (hn : ts.length ≤ 1048576) (hbk : bulk ts ≤ 1048576) (hA2 : IntsIn w 0 w.heap.size A2 hv) (hn2 : hv.length ≤ 1048576) :
    Calls Try.prog 42 #[.agg #[.slice A ts.length c], .slice A2 hv.length c2] w (NewIntsFr (leaksV ts hv) w) := by
  have HA := Lib.hid hA
  have HA2 := Lib.hid hA2
  clear hA hA2
  go_enter Try.func42, Try.ntmps42
  go_wp2_with fail
  have hb0 : Below w.heap.size w (w.alloc (.cells #[.slice A ts.length c] 25)) := (Below.refl _ _).alloc (Nat.le_refl _) _
  refine (readFor_any A ts c L B hv.length _ (HA.out.keep fun p _ hp => hb0.cell (by omega)) (by simp; omega) hn hbk).mono ?_
  rintro e w1 (⟨hok, hle, A1, c1, M1, rfl, hbk1, hb1⟩ | ⟨hno, rfl, hb1⟩)
  · have HV := Lib.hid (show leaksV ts hv = (pick (cnB ts (endB ts hv)) ts.length).filter (lowB ts) by simp [leaksV, allV, askB, lokB_true hok, show hv.length ≤ 1000 by omega])
    have hl0 := (hb1.cell (p := ⟨w.heap.size, 0, none⟩) (by simp)).trans (by simp : _ = some (Value.slice A ts.length c))
    have HB1 := Lib.hid (hb0.trans (hb1.mono (by simp)))
    have HOk := Lib.hid hok
    have HBk := Lib.hid hbk1
    have hlen := hok.1
    have hz1 : w.heap.size + 1 ≤ w1.heap.size := by simpa using hb1.size
    clear hb0 hb1 hok hbk1
    go_wp2_with fail
    obtain ⟨W2, hW2⟩ : ∃ x, x = w1.alloc (.cells #[.slice A1 ts.length c1, .map (some M1)] 64) := ⟨_, rfl⟩
    have hb2 : Below w1.heap.size w1 W2 := by rw [hW2]; exact (Below.refl _ _).alloc (Nat.le_refl _) _
    have hx2 : W2.cell? ⟨w1.heap.size, 0, none⟩ = some (.slice A1 ts.length c1) ∧ W2.cell? ⟨w1.heap.size, 1, none⟩ = some (.map (some M1)) := by rw [hW2]; exact ⟨by simp, by simp⟩
    have hz2 : W2.heap.size = w1.heap.size + 1 := by rw [hW2]; simp
    have HX2 := Lib.hid hx2
    have HB2 := Lib.hid (HB1.out.trans (hb2.mono (by omega)))
    have HBk2 := Lib.hid (HBk.out.below hb2)
    have HA22 := Lib.hid ((HA2.out.keep fun p _ hp => HB2.out.cell hp).mono (show w.heap.size ≤ W2.heap.size by omega))
    rw [← hW2]
    clear hW2 hb2 hx2 HBk HA2 hl0
    have HMade := Lib.hid (fun (W : World) (hW : Below W2.heap.size W2 W) => made_any A1 ts c1 _ _ (some M1) A2 hv c2 W HOk.out (HBk2.out.below (hW.mono (by omega))) (by have := hW.size; omega) ((HA22.out.keep fun p _ hp => hW.cell hp).mono hW.size) hn2)
    have HCh := Lib.hid (fun (M : Nat) (v : Value) (ms : List Int) (w3 : World) (hM : W2.heap.size ≤ M) (hset : NumSet w3 M (M + 3) ms v) (hsz : M + 3 ≤ w3.heap.size) (hnd : ms.Nodup) (hmem : ∀ x, x ∈ ms ↔ ∃ j : Nat, j < ts.length ∧ x = (j : Int) ∧ cnB ts (endB ts hv) j = true) (hb3 : Below W2.heap.size W2 w3) => show Calls Try.prog 64 #[.func (.func 83) #[] #[.pointer (some ⟨w3.heap.size, 0, none⟩)], .func (.func 67) #[.agg #[.slice A1 ts.length c1, .map (some M1)]] #[]] (w3.alloc (.cells #[.pointer (some ⟨M + 1, 0, none⟩)] 89)) (fun e w' => NewIntsFr (leaksV ts hv) w e w' ∧ w'.cell? ⟨w1.heap.size, 0, none⟩ = some (.slice A1 ts.length c1) ∧ w'.cell? ⟨w1.heap.size, 1, none⟩ = some (.map (some M1))) from by
      have hb4 : Below w3.heap.size w3 (w3.alloc (.cells #[.pointer (some ⟨M + 1, 0, none⟩)] 89)) := (Below.refl _ _).alloc (Nat.le_refl _) _
      have hz3 := hb3.size
      have hml : ms.length ≤ ts.length := nodup_length hnd (mem_range hmem)
      refine (chosen_any 83 #[.pointer (some ⟨w3.heap.size, 0, none⟩)] _ ms (each1_seq 8 w3.heap.size (M + 1) ms.length (by omega) (by omega)) (enters_of Try.func83 (by kernel_rfl) rfl) (by omega) _ (fun W hW => ⟨(hW.cell (p := ⟨w3.heap.size, 0, none⟩) (by simp)).trans (by simp), ((hset.below hb4).below hW).mem⟩)
        67 #[.agg #[.slice A1 ts.length c1, .map (some M1)]] #[] (lowB ts) (enters_of Try.func67 (by kernel_rfl) rfl) (fun x hx W hW => ?_)).mono ?_
      · have hb : Below W2.heap.size W2 W := hb3.trans ((hb4.mono hz3).trans (hW.mono (by simp; omega)))
        exact onlyTold_any A1 ts c1 _ _ (some M1) x W HOk.out (HBk2.out.below (hb.mono (by omega))) (mem_range hmem x hx)
      · rintro e w7 ⟨A7, c7, rfl, hr7, hb7⟩
        have e1 : sortV (ms.filter (lowB ts)) = leaksV ts hv := by rw [HV.out, sort_filter hnd, sort_pick hnd hmem]
        have e2 : (ms.filter (lowB ts)).length = (leaksV ts hv).length := by rw [← e1, sortV_length]
        rw [e2, e1] at hr7
        rw [e2]
        have hb := hb3.trans ((hb4.mono hz3).trans (hb7.mono (by simp; omega)))
        exact ⟨⟨A7, c7, rfl, ints_of_row (base := w.heap.size) (c := c7) (e := 3) (ownsRow_lowF hr7 (by simp; omega)), HB2.out.trans (hb.mono (by omega))⟩, (hb.cell (p := ⟨w1.heap.size, 0, none⟩) (by show w1.heap.size < _; omega)).trans HX2.out.1, (hb.cell (p := ⟨w1.heap.size, 1, none⟩) (by show w1.heap.size < _; omega)).trans HX2.out.2⟩)
    have k0 := HX2.out.1
    have k1 := HX2.out.2
    have HEach := Lib.hid each_any
    have HS2d := Lib.hid (show W2.drew.cell? ⟨w1.heap.size, 0, none⟩ = some (.slice A1 ts.length c1) ∧ W2.drew.cell? ⟨w1.heap.size, 1, none⟩ = some (.map (some M1)) from HX2.out)
    have HS2e := Lib.hid HX2.out
    clear HBk2 HA22 HV
    go_region_held3 (fun X => X.cell? ⟨w1.heap.size, 0, none⟩ = some (.slice A1 ts.length c1) ∧ X.cell? ⟨w1.heap.size, 1, none⟩ = some (.map (some M1)))
      (first | with_reducible exact HS2d.out | with_reducible exact HS2e.out | with_reducible exact HS3.out | with_reducible exact HS4.out | with_reducible exact HS7.out)
      (first
        | (go_at_call 62
           refine (HMade.out _ ?_).mono ?_
           · exact (Below.refl _ _).drew
           rintro e w3 ⟨M, v, ms, rfl, hM, hset, hsz, hnd, hmem, hb3⟩
           have HS3 := Lib.hid (show w3.cell? ⟨w1.heap.size, 0, none⟩ = some (.slice A1 ts.length c1) ∧ w3.cell? ⟨w1.heap.size, 1, none⟩ = some (.map (some M1)) from ⟨(hb3.cell (p := ⟨w1.heap.size, 0, none⟩) (by show w1.heap.size < W2.heap.size; omega)).trans HX2.out.1, (hb3.cell (p := ⟨w1.heap.size, 1, none⟩) (by show w1.heap.size < W2.heap.size; omega)).trans HX2.out.2⟩)
           have HC3 := Lib.hid (HCh.out M v ms w3 hM hset hsz hnd hmem ((Below.refl _ _).drew.trans hb3))
           clear HMade hM hset hsz hnd hmem hb3)
        | (go_at_call 58
           refine (HEach.out _ _).mono ?_
           rintro e w4 ⟨rfl, rfl⟩
           have HS4 := Lib.hid (show (w3.alloc (.cells #[.pointer (some ⟨M + 1, 0, none⟩)] 89)).cell? ⟨w1.heap.size, 0, none⟩ = some (.slice A1 ts.length c1) ∧ (w3.alloc (.cells #[.pointer (some ⟨M + 1, 0, none⟩)] 89)).cell? ⟨w1.heap.size, 1, none⟩ = some (.map (some M1)) from ⟨cellN_alloc _ HS3.out.1, cellN_alloc _ HS3.out.2⟩)
           clear HEach)
        | (go_at_call 64
           refine HC3.out.mono ?_
           rintro e w7 ⟨⟨A7, c7, rfl, hi7, hb7⟩, hs7⟩
           have HR := Lib.hid (show NewIntsFr (leaksV ts hv) w (.returned (.slice A7 (leaksV ts hv).length c7)) w7 from ⟨A7, c7, rfl, hi7, hb7⟩)
           have HS7 := Lib.hid hs7
           clear hi7 hb7 hs7 HC3))
    all_goals
      go_wp2_with fail
      go_ret
      exact HR.out
  · have HV := Lib.hid (show leaksV ts hv = [] by
      unfold leaksV allV askB
      rw [if_neg]
      · rfl
      · intro h
        simp only [Bool.and_eq_true, decide_eq_true_eq] at h
        exact hno ⟨lok_of h.1, by omega⟩)
    have HB1 := Lib.hid (hb0.trans (hb1.mono (by simp)))
    clear hb0 hb1 hno
    go_wp2_with fail
    go_ret
    rw [HV.out]
    exact .nil (HB1.out.alloc HB1.out.size _)

end Go.Proofs.Ytigkojdchpjkcaa
