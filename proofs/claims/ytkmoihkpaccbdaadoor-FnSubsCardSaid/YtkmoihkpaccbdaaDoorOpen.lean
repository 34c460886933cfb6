/-
  Open: the model's and the program's answer alike.
-/
import Derived.Test.YtkmoihkpaccbdaaDoorGLed
namespace Go.Proofs.YtkmoihkpaccbdaaDoor
open Go.RowKit Go.Maps

/-- The term of a number. -/
def tmAt (ts : List Tm) (i : Int) : Tm := ts[i.toNat]?.getD default

theorem tmAt_nat (ts : List Tm) (i : Nat) (h : i < ts.length) : tmAt ts i = ts[i] := by simp [tmAt, h]

/-- What Open answers. -/
noncomputable def openV (ts : List Tm) (key id : Int) : Value :=
  if lokB ts = true ∧ hasB ts.length id = true ∧ (tmAt ts id).kind = 5 ∧ (tmAt ts id).a = key then .tuple #[.int .i64 (tmAt ts id).b, .bool true] else .tuple #[.int .i64 (-1), .bool false]

theorem openV_form (ts : List Tm) (key id : Int) : ∃ n b, openV ts key id = .tuple #[.int .i64 n, .bool b] := by
  unfold openV
  split
  · exact ⟨_, _, rfl⟩
  · exact ⟨_, _, rfl⟩

theorem hasB_iff (n : Nat) (i : Int) : hasB n i = true ↔ 0 ≤ i ∧ i < n := by simp [hasB]

/-- What is known of a term's value by its kind. -/
theorem tv_shape (t : Tm) (h : t.kind = 0 ∨ t.kind = 1 ∨ t.kind = 2 ∨ t.kind = 3 ∨ t.kind = 4 ∨ t.kind = 5 ∨ t.kind = 6) :
    ∃ T v, tv t = .iface T v ∧ (t.kind ≠ 5 → T ≠ 67) ∧ (t.kind ≠ 6 → T ≠ 68) := by
  rcases h with h | h | h | h | h | h | h
  all_goals
    refine ⟨_, _, by simp [tv, h]; exact ⟨rfl, rfl⟩, fun h' => ?_, fun h' => ?_⟩
    all_goals first | decide | exact absurd h h'

theorem tv_seal (t : Tm) (h : t.kind = 5) : tv t = .iface 67 (.agg #[.int .i64 t.a, .int .i64 t.b]) := by simp [tv, h]
theorem tv_sign (t : Tm) (h : t.kind = 6) : tv t = .iface 68 (.agg #[.int .i64 t.a, .int .i64 t.b]) := by simp [tv, h]

theorem kind_of_good {ts : List Tm} {i : Nat} (h : Good ts i) : ∃ hi : i < ts.length, ts[i].kind = 0 ∨ ts[i].kind = 1 ∨ ts[i].kind = 2 ∨ ts[i].kind = 3 ∨ ts[i].kind = 4 ∨ ts[i].kind = 5 ∨ ts[i].kind = 6 := by
  obtain ⟨hi, h1, _⟩ := h
  refine ⟨hi, ?_⟩
  unfold okB at h1
  by_cases h0 : ts[i].kind = 0 ∨ ts[i].kind = 1
  · omega
  by_cases h2 : ts[i].kind = 2
  · omega
  by_cases h4 : ts[i].kind = 4
  · omega
  by_cases h3 : ts[i].kind = 3 ∨ ts[i].kind = 5 ∨ ts[i].kind = 6
  · omega
  · simp [h0, h2, h4, h3] at h1

section
variable (A : Option Addr) (ts : List Tm) (c L B : Nat) (key id : Int) (w : World)

set_option maxRecDepth 100000 in
set_option maxHeartbeats 1000000 in
theorem implOpen_any (hA : TmsIn w L B A ts) (hB : B ≤ w.heap.size) (hn : ts.length ≤ 1048576) (hbk : bulk ts ≤ 1048576) :
    Calls Tryd.prog 25 #[.agg #[.slice A ts.length c], .int .i64 key, .int .i64 id] w fun e w' => e = .returned (openV ts key id) ∧ Below w.heap.size w w' := by
  have HA := Lib.hid hA
  clear hA
  go_enter Tryd.func25, Tryd.ntmps25
  go_wp2_with fail
  have hb0 : Below w.heap.size w (w.alloc (.cells #[.slice A ts.length c] 25)) := (Below.refl _ _).alloc (Nat.le_refl _) _
  refine (readLedger_any A ts c L B _ (HA.out.keep fun p _ hp => hb0.cell (by omega)) (by simp; omega) hn hbk).mono ?_
  rintro e w1 (⟨hok, A1, c1, M, rfl, _, hbk1, _, hb1⟩ | ⟨hno, rfl, hb1⟩)
  · have HB := Lib.hid (hb0.trans (hb1.mono (by simp)))
    have HK := Lib.hid (lokB_true hok)
    have HOk := Lib.hid hok
    have HBk := Lib.hid hbk1
    clear hb0 hb1 hok hbk1
    go_wp2_with fail
    have hb2 : Below w1.heap.size w1 (w1.alloc (.cells #[.slice A1 ts.length c1, .map (some M)] 47)) := (Below.refl _ _).alloc (Nat.le_refl _) _
    refine (has_any _ _ _ _ _ _).mono ?_
    rintro e w2 ⟨rfl, hb3⟩
    have d0 : w2.cell? ⟨w1.heap.size, 0, none⟩ = some (.slice A1 ts.length c1) := (hb3.cell (p := ⟨w1.heap.size, 0, none⟩) (by simp)).trans (by simp)
    have HB2 := Lib.hid (hb2.trans (hb3.mono (by simp)))
    clear hb2 hb3
    cases hh : hasB ts.length id with
    | false =>
      have HV := Lib.hid (show openV ts key id = .tuple #[.int .i64 (-1), .bool false] by simp [openV, hh])
      clear hh
      go_wp2_with fail
      all_goals go_ret2
      all_goals exact ⟨ret_val HV.out.symm, HB.out.trans (HB2.out.mono HB.out.size)⟩
    | true =>
      have hr := (hasB_iff _ _).1 hh
      obtain ⟨i, rfl⟩ := Int.eq_ofNat_of_zero_le hr.1
      have hi : i < ts.length := by omega
      obtain ⟨b, o, rfl, hL, hb, hc⟩ := HBk.out (by omega)
      have hcell := (HB2.out.cell (p := ⟨b, o + i, none⟩) hb).trans (hc i hi)
      have hat := tmAt_nat ts i hi
      obtain ⟨_, hkind⟩ := kind_of_good (HOk.out.2 i hi)
      obtain ⟨T, v, htv, hT5, _⟩ := tv_shape ts[i] hkind
      clear hc hr
      by_cases hk : ts[i].kind = 5
      · rw [tv_seal _ hk] at hcell
        by_cases ha : ts[i].a = key
        · have HV := Lib.hid (show openV ts key i = .tuple #[.int .i64 ts[i].b, .bool true] by simp [openV, HK.out, hat, hh, hk, ha])
          have ha' : (ts[i].a != key) = false := by simp [ha]
          clear hat hh hk ha htv hT5 hkind
          go_wp2_with fail
          all_goals go_ret2
          all_goals exact ⟨ret_val HV.out.symm, (HB.out.trans (HB2.out.mono HB.out.size)).alloc (Nat.le_trans HB.out.size HB2.out.size) _⟩
        · have HV := Lib.hid (show openV ts key i = .tuple #[.int .i64 (-1), .bool false] by simp [openV, hat, ha])
          have ha' : (ts[i].a != key) = true := by simp [ha]
          clear hat hh hk ha htv hT5 hkind
          go_wp2_with fail
          all_goals go_ret2
          all_goals exact ⟨ret_val HV.out.symm, (HB.out.trans (HB2.out.mono HB.out.size)).alloc (Nat.le_trans HB.out.size HB2.out.size) _⟩
      · have HV := Lib.hid (show openV ts key i = .tuple #[.int .i64 (-1), .bool false] by simp [openV, hat, hk])
        rw [htv] at hcell
        have hT := hT5 hk
        clear hat hh hk htv hT5 hkind
        go_wp2_with fail
        all_goals go_ret2
        all_goals exact ⟨ret_val HV.out.symm, (HB.out.trans (HB2.out.mono HB.out.size)).alloc (Nat.le_trans HB.out.size HB2.out.size) _⟩
  · have HB := Lib.hid (hb0.trans (hb1.mono (by simp)))
    have HV := Lib.hid (show openV ts key id = .tuple #[.int .i64 (-1), .bool false] by simp [openV, lokB_false hno])
    clear hb0 hb1 hno
    go_wp2_with fail
    all_goals go_ret2
    all_goals exact ⟨ret_val HV.out.symm, HB.out.alloc HB.out.size _⟩
end

end Go.Proofs.YtkmoihkpaccbdaaDoor
