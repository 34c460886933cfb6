/-
  Verify: the model's and the program's answer alike.
-/
import Derived.Test.YtigkojdchpjkcaaOpen
namespace Go.Proofs.Ytigkojdchpjkcaa
open Go.RowKit Go.Maps

/-- Is there such a mark of that number? -/
def verB (ts : List Tm) (key sig msg : Int) : Bool := hasB ts.length sig && ((tmAt ts sig).kind == 6) && ((tmAt ts sig).a == key) && ((tmAt ts sig).b == msg)
/-- What Verify answers. -/
noncomputable def verifyB (ts : List Tm) (key sig msg : Int) : Bool := lokB ts && verB ts key sig msg

section
variable (A : Option Addr) (ts : List Tm) (c L B : Nat) (key sig msg : Int) (w : World)

set_option maxRecDepth 100000 in
set_option maxHeartbeats 1000000 in
theorem implVerify_any (hA : TmsIn w L B A ts) (hB : B ≤ w.heap.size) (hn : ts.length ≤ 1048576) (hbk : bulk ts ≤ 1048576) :
    Calls Try.prog 21 #[.agg #[.slice A ts.length c], .int .i64 key, .int .i64 sig, .int .i64 msg] w fun e w' => e = .returned (.bool (verifyB ts key sig msg)) ∧ Below w.heap.size w w' := by
  have HA := Lib.hid hA
  clear hA
  go_enter Try.func21, Try.ntmps21
  go_wp2_with fail
  have hb0 : Below w.heap.size w (w.alloc (.cells #[.slice A ts.length c] 25)) := (Below.refl _ _).alloc (Nat.le_refl _) _
  refine (readLedger_any A ts c L B _ (HA.out.keep fun p _ hp => hb0.cell (by omega)) (by simp; omega) hn hbk).mono ?_
  rintro e w1 (⟨hok, A1, c1, M, rfl, _, hbk1, _, hb1⟩ | ⟨hno, rfl, hb1⟩)
  · have HB := Lib.hid (hb0.trans (hb1.mono (by simp)))
    have HK := Lib.hid (lokB_true hok)
    have HOk := Lib.hid hok
    have HBk := Lib.hid hbk1
    clear hb0 hb1 hok hbk1
    go_wp2_with fail
    have hb2 : Below w1.heap.size w1 (w1.alloc (.cells #[.slice A1 ts.length c1, .map (some M)] 64)) := (Below.refl _ _).alloc (Nat.le_refl _) _
    refine (has_any _ _ _ _ _ _).mono ?_
    rintro e w2 ⟨rfl, hb3⟩
    have d0 : w2.cell? ⟨w1.heap.size, 0, none⟩ = some (.slice A1 ts.length c1) := (hb3.cell (p := ⟨w1.heap.size, 0, none⟩) (by simp)).trans (by simp)
    have HB2 := Lib.hid (hb2.trans (hb3.mono (by simp)))
    clear hb2 hb3
    cases hh : hasB ts.length sig with
    | false =>
      have HV := Lib.hid (show verifyB ts key sig msg = false by simp [verifyB, verB, hh])
      clear hh
      go_wp2_with fail
      all_goals go_ret
      all_goals exact ⟨ret_bool HV.out.symm, HB.out.trans (HB2.out.mono HB.out.size)⟩
    | true =>
      have hr := (hasB_iff _ _).1 hh
      obtain ⟨i, rfl⟩ := Int.eq_ofNat_of_zero_le hr.1
      have hi : i < ts.length := by omega
      obtain ⟨b, o, rfl, hL, hb, hc⟩ := HBk.out (by omega)
      have hcell := (HB2.out.cell (p := ⟨b, o + i, none⟩) hb).trans (hc i hi)
      obtain ⟨_, hkind⟩ := kind_of_good (HOk.out.2 i hi)
      obtain ⟨T, v, htv, _, hT6⟩ := tv_shape ts[i] hkind
      have HV := Lib.hid (show verifyB ts key i msg = (ts[i].kind == 6 && ts[i].a == key && ts[i].b == msg) by simp [verifyB, verB, HK.out, tmAt_nat ts i hi, hh])
      clear hc hr hh
      by_cases hk : ts[i].kind = 6
      · rw [tv_sign _ hk] at hcell
        have HKk := Lib.hid hk
        clear htv hT6 hkind hk
        cases ha : (ts[i].a == key) with
        | false =>
          have HKa := Lib.hid ha
          go_wp2_with fail
          all_goals go_ret
          all_goals exact ⟨ret_bool (by rw [HV.out, HKa.out]; simp), (HB.out.trans (HB2.out.mono HB.out.size)).alloc (Nat.le_trans HB.out.size HB2.out.size) _⟩
        | true =>
          have HKa := Lib.hid ha
          go_wp2_with fail
          all_goals go_ret
          all_goals exact ⟨ret_bool (by rw [HV.out, HKa.out]; simp [HKk.out]), (HB.out.trans (HB2.out.mono HB.out.size)).alloc (Nat.le_trans HB.out.size HB2.out.size) _⟩
      · rw [htv] at hcell
        have hT := hT6 hk
        have HKk := Lib.hid hk
        clear htv hT6 hkind hk
        go_wp2_with fail
        all_goals go_ret
        all_goals exact ⟨ret_bool (by rw [HV.out]; simp [HKk.out]), (HB.out.trans (HB2.out.mono HB.out.size)).alloc (Nat.le_trans HB.out.size HB2.out.size) _⟩
  · have HB := Lib.hid (hb0.trans (hb1.mono (by simp)))
    have HV := Lib.hid (show verifyB ts key sig msg = false by simp [verifyB, lokB_false hno])
    clear hb0 hb1 hno
    go_wp2_with fail
    all_goals go_ret
    all_goals exact ⟨ret_bool HV.out.symm, HB.out.alloc HB.out.size _⟩
end

end Go.Proofs.Ytigkojdchpjkcaa
