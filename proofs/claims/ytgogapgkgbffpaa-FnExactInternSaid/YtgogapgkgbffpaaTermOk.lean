/-
  TermOk: the model's and the program's answer alike; what readBoth hands back.
-/
import Derived.Test.YtgogapgkgbffpaaImplOk
namespace Go.Proofs.Ytgogapgkgbffpaa
open Go.RowKit Go.Maps

theorem readB_eq' (us : List Tm) (t : Tm) : readB us t = (okB us.length t && keyedB us t) := by
  obtain ⟨kd, a, b, l⟩ := t
  unfold readB fieldsB partsB okB keyedB hasKeyB hasB
  simp only
  generalize l.length = n
  by_cases h0 : kd = 0
  · subst h0; rw [Bool.eq_iff_iff]; simp; omega
  by_cases h1 : kd = 1
  · subst h1; rw [Bool.eq_iff_iff]; simp; omega
  by_cases h2 : kd = 2
  · subst h2; simp
  by_cases h3 : kd = 3
  · subst h3; rw [Bool.eq_iff_iff]; simp; omega
  by_cases h4 : kd = 4
  · subst h4; rw [Bool.eq_iff_iff]; simp; omega
  by_cases h5 : kd = 5
  · subst h5; rw [Bool.eq_iff_iff]; simp; omega
  by_cases h6 : kd = 6
  · subst h6; rw [Bool.eq_iff_iff]; simp; omega
  · simp [h0, h1, h2, h3, h4, h5, h6]

/-- What TermOk answers. -/
noncomputable def termB (ts : List Tm) (t : Tm) : Bool := lokB ts && readB ts t

/-- What readBoth hands back. -/
def RbPost (ts : List Tm) (t : Tm) (w : World) (e : Ending) (w' : World) : Prop :=
  (LOk ts ∧ readB ts t = true ∧ ∃ A c M, e = .returned (.tuple #[.agg #[.slice A ts.length c, .map (some M)], .bool true]) ∧ w.heap.size ≤ M ∧ BkIn w' w.heap.size w'.heap.size A ts ∧ w'.ownsMap (H := Unit) Try.prog 96 (plainElem Try.prog 3) M ts.length (mapOf ts) ∧ Below w.heap.size w w') ∨
  (termB ts t = false ∧ e = .returned (.tuple #[.agg #[.slice none 0 0, .map none], .bool false]) ∧ Below w.heap.size w w')

section
variable (A A' : Option Addr) (ts : List Tm) (t : Tm) (c c' L B L' B' : Nat) (w : World)

set_option maxRecDepth 100000 in
set_option maxHeartbeats 1000000 in
theorem specTermOk_any (hA : TmsIn w L B A ts) (hB : B ≤ w.heap.size) (_ : BytesIn w L' B' A' t.text) (_ : B' ≤ w.heap.size) (hn : ts.length ≤ 1048576) (hbk : bulk ts ≤ 1048576) (htl : t.text.length ≤ 1048576) :
    Calls Try.prog 16 #[.agg #[.slice A ts.length c], .agg #[.int .i64 t.kind, .int .i64 t.a, .int .i64 t.b, .slice A' t.text.length c']] w fun e w' => e = .returned (.bool (termB ts t)) ∧ Below w.heap.size w w' := by
  have HA := Lib.hid hA
  clear hA
  go_enter Try.func16, Try.ntmps16
  go_wp2_with fail
  have hb0 : Below w.heap.size w ((w.alloc (.cells #[.slice A ts.length c] 33)).alloc (.cells #[.int .i64 t.kind, .int .i64 t.a, .int .i64 t.b, .slice A' t.text.length c'] 35)) := ((Below.refl _ _).alloc (Nat.le_refl _) _).alloc (by simp) _
  refine (specLedgerOk_any A ts c L B _ (HA.out.keep fun p _ hp => hb0.cell (by omega)) (by simp; omega) hn hbk).mono ?_
  rintro e w1 ⟨rfl, hb1⟩
  obtain ⟨hc, _⟩ := bcell hb1
  have b0 : w1.cell? ⟨w.heap.size, 0, none⟩ = some (.slice A ts.length c) := (hc _ _ (by simp; omega)).trans (by simp)
  have t0 : w1.cell? ⟨w.heap.size + 1, 0, none⟩ = some (.int .i64 t.kind) := (hc _ _ (by simp)).trans (by simp)
  have t1 : w1.cell? ⟨w.heap.size + 1, 1, none⟩ = some (.int .i64 t.a) := (hc _ _ (by simp)).trans (by simp)
  have t2 : w1.cell? ⟨w.heap.size + 1, 2, none⟩ = some (.int .i64 t.b) := (hc _ _ (by simp)).trans (by simp)
  have t3 : w1.cell? ⟨w.heap.size + 1, 3, none⟩ = some (.slice A' t.text.length c') := (hc _ _ (by simp)).trans (by simp)
  have hz1 : w.heap.size + 1 + 1 ≤ w1.heap.size := by simpa using hb1.size
  have HB := Lib.hid (hb0.trans (hb1.mono (by simp; omega)))
  clear hb0 hb1 hc
  cases hl : lokB ts with
  | false =>
    have HV := Lib.hid (show termB ts t = false by simp [termB, hl])
    clear hl
    go_wp2_with fail
    all_goals go_ret
    all_goals exact ⟨ret_bool HV.out.symm, HB.out⟩
  | true =>
    have HL := Lib.hid hl
    clear hl
    go_wp2_with fail
    refine (l1ok_any ts.length t A' c' w1 htl).mono ?_
    rintro e w2 ⟨rfl, hb2⟩
    have c0 := (hb2.cell (p := ⟨w.heap.size, 0, none⟩) (by show w.heap.size < _; omega)).trans b0
    have u0 := (hb2.cell (p := ⟨w.heap.size + 1, 0, none⟩) (by show w.heap.size + 1 < _; omega)).trans t0
    have u1 := (hb2.cell (p := ⟨w.heap.size + 1, 1, none⟩) (by show w.heap.size + 1 < _; omega)).trans t1
    have u2 := (hb2.cell (p := ⟨w.heap.size + 1, 2, none⟩) (by show w.heap.size + 1 < _; omega)).trans t2
    have u3 := (hb2.cell (p := ⟨w.heap.size + 1, 3, none⟩) (by show w.heap.size + 1 < _; omega)).trans t3
    have HB2 := Lib.hid (HB.out.trans (hb2.mono HB.out.size))
    clear hb2 b0 t0 t1 t2 t3
    cases ho : okB ts.length t with
    | false =>
      have HV := Lib.hid (show termB ts t = false by simp [termB, readB_eq', ho])
      clear ho
      go_wp2_with fail
      all_goals go_ret
      all_goals exact ⟨ret_bool HV.out.symm, HB2.out⟩
    | true =>
      have HV := Lib.hid (show termB ts t = keyedB ts t by simp [termB, readB_eq', HL.out, ho])
      have hak : (t.kind = 5 ∨ t.kind = 6) → 0 ≤ t.a ∧ t.a < ts.length := fun h => by
        unfold okB at ho
        rcases h with h | h <;> (simp [h] at ho; omega)
      have HK := Lib.hid hak
      clear ho hak
      go_wp2_with fail
      refine (l1keyed_any ts t A A' c c' L B w2 (HA.out.keep fun p _ hp => HB2.out.cell (by omega)) (by have := HB2.out.size; omega) HK.out hn).mono ?_
      rintro e w3 ⟨rfl, hb3⟩
      have HB3 := Lib.hid (HB2.out.trans (hb3.mono HB2.out.size))
      clear hb3
      go_wp2_with fail
      all_goals go_ret
      all_goals exact ⟨ret_bool (by rw [HV.out]; try simp), HB3.out⟩

set_option maxRecDepth 100000 in
set_option maxHeartbeats 1000000 in
theorem readBoth_any (hA : TmsIn w L B A ts) (hB : B ≤ w.heap.size) (hA' : BytesIn w L' B' A' t.text) (hB' : B' ≤ w.heap.size) (hn : ts.length ≤ 1048576) (hbk : bulk ts ≤ 1048576) (htl : t.text.length ≤ 1048576) :
    Calls Try.prog 55 #[.agg #[.slice A ts.length c], .agg #[.int .i64 t.kind, .int .i64 t.a, .int .i64 t.b, .slice A' t.text.length c']] w (RbPost ts t w) := by
  have HA := Lib.hid hA
  have HA' := Lib.hid hA'
  clear hA hA'
  go_enter Try.func55, Try.ntmps55
  go_wp2_with fail
  have hb0 : Below w.heap.size w (((w.alloc (.cells #[.slice A ts.length c] 33)).alloc (.cells #[.int .i64 t.kind, .int .i64 t.a, .int .i64 t.b, .slice A' t.text.length c'] 35)).alloc (.cells #[.slice none 0 0, .map none] 68)) := (((Below.refl _ _).alloc (Nat.le_refl _) _).alloc (by simp) _).alloc (by simp; omega) _
  refine (readLedger_any A ts c L B _ (HA.out.keep fun p _ hp => hb0.cell (by omega)) (by simp; omega) hn hbk).mono ?_
  rintro e w1 (⟨hok, A1, c1, M, rfl, hM, hbk1, hmap, hb1⟩ | ⟨hno, rfl, hb1⟩)
  · obtain ⟨hc, hf⟩ := bcell hb1
    have t0 : w1.cell? ⟨w.heap.size + 1, 0, none⟩ = some (.int .i64 t.kind) := (hb1.cell (p := ⟨w.heap.size + 1, 0, none⟩) (by simp)).trans (by simp [go_sem])
    have t1 : w1.cell? ⟨w.heap.size + 1, 1, none⟩ = some (.int .i64 t.a) := (hb1.cell (p := ⟨w.heap.size + 1, 1, none⟩) (by simp)).trans (by simp [go_sem])
    have t2 : w1.cell? ⟨w.heap.size + 1, 2, none⟩ = some (.int .i64 t.b) := (hb1.cell (p := ⟨w.heap.size + 1, 2, none⟩) (by simp)).trans (by simp [go_sem])
    have t3 : w1.cell? ⟨w.heap.size + 1, 3, none⟩ = some (.slice A' t.text.length c') := (hb1.cell (p := ⟨w.heap.size + 1, 3, none⟩) (by simp)).trans (by simp [go_sem])
    have r0 : w1.cell? ⟨w.heap.size + 1 + 1, 0, none⟩ = some (.slice none 0 0) := (hb1.cell (p := ⟨w.heap.size + 1 + 1, 0, none⟩) (by simp)).trans (by simp [go_sem])
    have r1 : w1.cell? ⟨w.heap.size + 1 + 1, 1, none⟩ = some (.map none) := (hb1.cell (p := ⟨w.heap.size + 1 + 1, 1, none⟩) (by simp)).trans (by simp [go_sem])
    have f0 : w1.frozen? ⟨w.heap.size + 1 + 1, 0, none⟩ = false := (hb1.frozen (p := ⟨w.heap.size + 1 + 1, 0, none⟩) (by simp)).trans (by simp [go_sem])
    have f1 : w1.frozen? ⟨w.heap.size + 1 + 1, 1, none⟩ = false := (hb1.frozen (p := ⟨w.heap.size + 1 + 1, 1, none⟩) (by simp)).trans (by simp [go_sem])
    have hz1 : w.heap.size + 1 + 1 < w1.heap.size := by have := hb1.size; simp at this; omega
    have hz1' : w.heap.size + 1 < w1.heap.size := by omega
    have hM' : w.heap.size + 1 + 1 + 1 ≤ M := by simpa using hM
    have HB := Lib.hid (hb0.trans (hb1.mono (by simp; omega)))
    have HOk := Lib.hid hok
    have HBk := Lib.hid (show BkIn w1 (w.heap.size + 1 + 1 + 1) w1.heap.size A1 ts by simpa using hbk1)
    have HMap := Lib.hid hmap
    clear hb0 hb1 hok hbk1 hmap hc hf hM
    go_wp2_with fail
    have hbk2 : Below w1.heap.size w1 (w1.alloc (.cells #[.slice A1 ts.length c1, .map (some M)] 68)) := (Below.refl _ _).alloc (Nat.le_refl _) _
    refine (read_any A1 A' ts t c1 c' (w.heap.size + 1 + 1 + 1) w1.heap.size L' B' (some M) _ (HBk.out.below hbk2) (by simp) (HA'.out.keep fun p _ hp => (hbk2.cell (by have := HB.out.size; omega)).trans (HB.out.cell (by omega))) (by have := HB.out.size; simp; omega) hn htl).mono ?_
    rintro e w2 ⟨rfl, hb2⟩
    have hb12 : Below w1.heap.size w1 w2 := hbk2.trans (hb2.mono (by simp))
    have hz2 : w1.heap.size + 1 ≤ w2.heap.size := by simpa using hb2.size
    have d0 : w2.cell? ⟨w1.heap.size, 0, none⟩ = some (.slice A1 ts.length c1) := (hb2.cell (p := ⟨w1.heap.size, 0, none⟩) (by simp)).trans (by simp)
    have d1 : w2.cell? ⟨w1.heap.size, 1, none⟩ = some (.map (some M)) := (hb2.cell (p := ⟨w1.heap.size, 1, none⟩) (by simp)).trans (by simp)
    have s0 := (hb12.cell (p := ⟨w.heap.size + 1 + 1, 0, none⟩) hz1).trans r0
    have s1 := (hb12.cell (p := ⟨w.heap.size + 1 + 1, 1, none⟩) hz1).trans r1
    have g0 := (hb12.frozen (p := ⟨w.heap.size + 1 + 1, 0, none⟩) hz1).trans f0
    have g1 := (hb12.frozen (p := ⟨w.heap.size + 1 + 1, 1, none⟩) hz1).trans f1
    have HB12 := Lib.hid hb12
    clear hbk2 hb2 hb12 r0 r1 f0 f1 t0 t1 t2 t3
    cases hr : readB ts t with
    | false =>
      have HV := Lib.hid (show readV ts t = .tuple #[.nilIface, .bool false] by simp [readV, hr])
      have HT := Lib.hid (show termB ts t = false by simp [termB, hr])
      rw [HV.out]
      clear hr
      go_wp2_with fail
      refine bodyPost_ret (v := .tuple #[.agg #[.slice none 0 0, .map none], .bool false]) (by simp [results, Try.results55, s0, s1, go_sem]) rfl (.inr ⟨HT.out, rfl, ?_⟩)
      exact ((HB.out.trans (HB12.out.mono HB.out.size)).setCell (by show w.heap.size ≤ w.heap.size + 1 + 1; omega) _).setCell (by show w.heap.size ≤ w.heap.size + 1 + 1; omega) _
    | true =>
      obtain ⟨T, v, htv, _⟩ := tv_cases t
      have HV := Lib.hid (show readV ts t = .tuple #[.iface T v, .bool true] by simp [readV, hr, htv])
      have HR := Lib.hid hr
      rw [HV.out]
      clear hr htv
      go_wp2_with fail
      refine bodyPost_ret (v := .tuple #[.agg #[.slice A1 ts.length c1, .map (some M)], .bool true]) (by simp [results, Try.results55, s0, s1, go_sem]) rfl (.inl ⟨HOk.out, HR.out, A1, c1, M, rfl, by omega, ?_, ?_, ?_⟩)
      · refine BkIn.low (BkIn.mono ((HBk.out.below HB12.out).keep fun p hp _ => ?_) (by simp; omega)) (by omega)
        rw [World.cell?_setCell_other _ _ _ _ (by rintro rfl; simp at hp; omega), World.cell?_setCell_other _ _ _ _ (by rintro rfl; simp at hp; omega)]
      · exact ((HMap.out.kept (grown_of_below HB12.out) (by simp)).setCell (by show M ≠ w.heap.size + 1 + 1; omega) _).setCell (by show M ≠ w.heap.size + 1 + 1; omega) _
      · exact ((HB.out.trans (HB12.out.mono HB.out.size)).setCell (by show w.heap.size ≤ w.heap.size + 1 + 1; omega) _).setCell (by show w.heap.size ≤ w.heap.size + 1 + 1; omega) _
  · obtain ⟨hc, hf⟩ := bcell hb1
    have r0 : w1.cell? ⟨w.heap.size + 1 + 1, 0, none⟩ = some (.slice none 0 0) := (hb1.cell (p := ⟨w.heap.size + 1 + 1, 0, none⟩) (by simp)).trans (by simp [go_sem])
    have r1 : w1.cell? ⟨w.heap.size + 1 + 1, 1, none⟩ = some (.map none) := (hb1.cell (p := ⟨w.heap.size + 1 + 1, 1, none⟩) (by simp)).trans (by simp [go_sem])
    have f0 : w1.frozen? ⟨w.heap.size + 1 + 1, 0, none⟩ = false := (hb1.frozen (p := ⟨w.heap.size + 1 + 1, 0, none⟩) (by simp)).trans (by simp [go_sem])
    have f1 : w1.frozen? ⟨w.heap.size + 1 + 1, 1, none⟩ = false := (hb1.frozen (p := ⟨w.heap.size + 1 + 1, 1, none⟩) (by simp)).trans (by simp [go_sem])
    have hz1 : w.heap.size + 1 + 1 < w1.heap.size := by have := hb1.size; simp at this; omega
    have HB := Lib.hid (hb0.trans (hb1.mono (by simp; omega)))
    have HT := Lib.hid (show termB ts t = false by simp [termB, lokB_false hno])
    clear hb0 hb1 hno hc hf
    go_wp2_with fail
    refine bodyPost_ret (v := .tuple #[.agg #[.slice none 0 0, .map none], .bool false]) (by simp [results, Try.results55, hz1, r0, r1, go_sem]) rfl (.inr ⟨HT.out, rfl, ?_⟩)
    exact ((HB.out.setCell (by show w.heap.size ≤ w.heap.size + 1 + 1; omega) _).setCell (by show w.heap.size ≤ w.heap.size + 1 + 1; omega) _).alloc (by have := HB.out.size; simp; omega) _

set_option maxRecDepth 100000 in
set_option maxHeartbeats 1000000 in
theorem implTermOk_any (hA : TmsIn w L B A ts) (hB : B ≤ w.heap.size) (hA' : BytesIn w L' B' A' t.text) (hB' : B' ≤ w.heap.size) (hn : ts.length ≤ 1048576) (hbk : bulk ts ≤ 1048576) (htl : t.text.length ≤ 1048576) :
    Calls Try.prog 19 #[.agg #[.slice A ts.length c], .agg #[.int .i64 t.kind, .int .i64 t.a, .int .i64 t.b, .slice A' t.text.length c']] w fun e w' => e = .returned (.bool (termB ts t)) ∧ Below w.heap.size w w' := by
  have HA := Lib.hid hA
  have HA' := Lib.hid hA'
  clear hA hA'
  go_enter Try.func19, Try.ntmps19
  go_wp2_with fail
  have hb0 : Below w.heap.size w ((w.alloc (.cells #[.slice A ts.length c] 33)).alloc (.cells #[.int .i64 t.kind, .int .i64 t.a, .int .i64 t.b, .slice A' t.text.length c'] 35)) := ((Below.refl _ _).alloc (Nat.le_refl _) _).alloc (by simp) _
  refine (readBoth_any A A' ts t c c' L B L' B' _ (HA.out.keep fun p _ hp => hb0.cell (by omega)) (by simp; omega) (HA'.out.keep fun p _ hp => hb0.cell (by omega)) (by simp; omega) hn hbk htl).mono ?_
  rintro e w1 (⟨hok, hrd, A1, c1, M, rfl, _, _, _, hb1⟩ | ⟨hno, rfl, hb1⟩)
  · have HB := Lib.hid (hb0.trans (hb1.mono (by simp; omega)))
    have HK := Lib.hid (show termB ts t = true by simp [termB, lokB_true hok, hrd])
    clear hb0 hb1 hok hrd
    go_wp2_with fail
    all_goals go_ret
    all_goals exact ⟨ret_bool HK.out.symm, HB.out.alloc HB.out.size _⟩
  · have HB := Lib.hid (hb0.trans (hb1.mono (by simp; omega)))
    have HK := Lib.hid hno
    clear hb0 hb1 hno
    go_wp2_with fail
    all_goals go_ret
    all_goals exact ⟨ret_bool HK.out.symm, HB.out.alloc HB.out.size _⟩
end

end Go.Proofs.Ytgogapgkgbffpaa
