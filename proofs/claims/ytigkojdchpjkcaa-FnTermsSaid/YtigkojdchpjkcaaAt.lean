/-
  At: the model's and the program's answer alike.
-/
import Derived.Test.YtigkojdchpjkcaaCopy
import Derived.Test.YtigkojdchpjkcaaOpen
namespace Go.Proofs.Ytigkojdchpjkcaa
open Go.RowKit Go.Maps

/-- The zero term. -/
def tm0 : Tm := ⟨0, 0, 0, []⟩
open Classical in
/-- Is there a term of that number? -/
noncomputable def atB (ts : List Tm) (id : Int) : Bool := lokB ts && hasB ts.length id
/-- The term that At answers. -/
noncomputable def atT (ts : List Tm) (id : Int) : Tm := if atB ts id = true then tmAt ts id else tm0

theorem atT_text (ts : List Tm) (id : Int) (h : bulk ts ≤ 1048576) : (atT ts id).text.length ≤ 1048576 := by
  unfold atT
  split
  · rename_i hb
    unfold atB at hb
    rw [Bool.and_eq_true, hasB_iff] at hb
    obtain ⟨i, rfl⟩ := Int.eq_ofNat_of_zero_le hb.2.1
    rw [tmAt_nat ts i (by omega)]
    have := text_le_bulk ts i (by omega)
    omega
  · exact Nat.zero_le _

/-- A new term, and whether it is one, are handed back. -/
def NewTmOk (t : Tm) (ok : Bool) (w : World) (e : Ending) (w' : World) : Prop :=
  ∃ A c, e = .returned (.tuple #[.agg #[.int .i64 t.kind, .int .i64 t.a, .int .i64 t.b, .slice A t.text.length c], .bool ok]) ∧ BytesFr w' w.heap.size w'.heap.size A t.text ∧ Below w.heap.size w w'

section
variable (R B : Nat) (ts : List Tm) (c : Nat) (id : Int) (w : World)

set_option maxRecDepth 100000 in
set_option maxHeartbeats 1000000 in
theorem implAt_any (hA : CopyIn w R B ts) (hN : NoNil w R ts) (hR : R < B) (hB : B ≤ w.heap.size) (hn : ts.length ≤ 1048576) (hbk : bulk ts ≤ 1048576) :
    Calls Try.prog 14 #[.agg #[.slice (some ⟨R, 0, none⟩) ts.length c], .int .i64 id] w (NewTmOk (atT ts id) (atB ts id) w) := by
  have HA := Lib.hid hA
  have HN := Lib.hid hN
  clear hA hN
  go_enter Try.func14, Try.ntmps14
  go_wp2_with fail
  have hb0 : Below w.heap.size w ((w.alloc (.cells #[.slice (some ⟨R, 0, none⟩) ts.length c] 25)).alloc (.cells #[.int .i64 0, .int .i64 0, .int .i64 0, .slice none 0 0] 27)) := ((Below.refl _ _).alloc (Nat.le_refl _) _).alloc (by simp) _
  refine (readLedger_any (some ⟨R, 0, none⟩) ts c R B _ ((HA.out.tms hR).keep fun p _ hp => hb0.cell (by omega)) (by simp; omega) hn hbk).mono ?_
  rintro e w1 (⟨hok, A1, c1, M, rfl, _, _, _, hb1⟩ | ⟨hno, rfl, hb1⟩)
  · have b0 : w1.cell? ⟨w.heap.size, 0, none⟩ = some (.slice (some ⟨R, 0, none⟩) ts.length c) := (hb1.cell (p := ⟨w.heap.size, 0, none⟩) (by simp; omega)).trans (by simp)
    have r0 : w1.cell? ⟨w.heap.size + 1, 0, none⟩ = some (.int .i64 0) := (hb1.cell (p := ⟨w.heap.size + 1, 0, none⟩) (by simp)).trans (by simp)
    have r1 : w1.cell? ⟨w.heap.size + 1, 1, none⟩ = some (.int .i64 0) := (hb1.cell (p := ⟨w.heap.size + 1, 1, none⟩) (by simp)).trans (by simp)
    have r2 : w1.cell? ⟨w.heap.size + 1, 2, none⟩ = some (.int .i64 0) := (hb1.cell (p := ⟨w.heap.size + 1, 2, none⟩) (by simp)).trans (by simp)
    have r3 : w1.cell? ⟨w.heap.size + 1, 3, none⟩ = some (.slice none 0 0) := (hb1.cell (p := ⟨w.heap.size + 1, 3, none⟩) (by simp)).trans (by simp)
    have hfz : ∀ j, w1.frozen? ⟨w.heap.size + 1, j, none⟩ = false := fun j => (hb1.frozen (p := ⟨w.heap.size + 1, j, none⟩) (by simp)).trans (by simp)
    have HFz := Lib.hid hfz
    have HB := Lib.hid (hb0.trans (hb1.mono (by simp; omega)))
    have hz1 : w.heap.size + 1 + 1 ≤ w1.heap.size := by simpa using hb1.size
    have HK := Lib.hid (lokB_true hok)
    clear hb0 hb1 hok hfz
    go_wp2_with fail
    have hb2 : Below w1.heap.size w1 (w1.alloc (.cells #[.slice A1 ts.length c1, .map (some M)] 64)) := (Below.refl _ _).alloc (Nat.le_refl _) _
    refine (has_any _ _ _ _ _ _).mono ?_
    rintro e w2 ⟨rfl, hb3⟩
    have hb23 := hb2.trans (hb3.mono (by simp))
    have b2 := (hb23.cell (p := ⟨w.heap.size, 0, none⟩) (by show w.heap.size < _; omega)).trans b0
    have q0 := (hb23.cell (p := ⟨w.heap.size + 1, 0, none⟩) (by show w.heap.size + 1 < _; omega)).trans r0
    have q1 := (hb23.cell (p := ⟨w.heap.size + 1, 1, none⟩) (by show w.heap.size + 1 < _; omega)).trans r1
    have q2 := (hb23.cell (p := ⟨w.heap.size + 1, 2, none⟩) (by show w.heap.size + 1 < _; omega)).trans r2
    have q3 := (hb23.cell (p := ⟨w.heap.size + 1, 3, none⟩) (by show w.heap.size + 1 < _; omega)).trans r3
    have hfz2 : ∀ j, w2.frozen? ⟨w.heap.size + 1, j, none⟩ = false := fun j => (hb23.frozen (p := ⟨w.heap.size + 1, j, none⟩) (by show w.heap.size + 1 < _; omega)).trans (HFz.out j)
    have hz2 := hb23.size
    have HB2 := Lib.hid (HB.out.trans (hb23.mono HB.out.size))
    clear hb2 hb3 hb23 b0 r0 r1 r2 r3
    cases hh : hasB ts.length id with
    | false =>
      have HV := Lib.hid (show atB ts id = false by simp [atB, hh])
      have HT := Lib.hid (show atT ts id = tm0 by simp [atT, HV.out])
      have f0 := hfz2 0
      have f1 := hfz2 1
      have f2 := hfz2 2
      have f3 := hfz2 3
      clear hh hfz2
      go_wp2_with fail
      refine bodyPost_ret (v := .tuple #[.agg #[.int .i64 0, .int .i64 0, .int .i64 0, .slice none 0 0], .bool false]) (by simp [results, Try.results14, go_sem, *]) rfl ?_
      rw [HV.out, HT.out]
      refine ⟨none, 0, rfl, BytesFr.nil, ?_⟩
      refine (((HB2.out.setCell ?_ _).setCell ?_ _).setCell ?_ _).setCell ?_ _
      all_goals first | (simp; done) | (simp; omega)
    | true =>
      have hr := (hasB_iff _ _).1 hh
      obtain ⟨i, rfl⟩ := Int.eq_ofNat_of_zero_le hr.1
      have hi : i < ts.length := by omega
      have HV := Lib.hid (show atB ts i = true by simp [atB, hh, HK.out])
      have HT := Lib.hid (show atT ts i = ts[i] by simp [atT, HV.out, tmAt_nat ts i hi])
      obtain ⟨A2, c2, x0, x1, x2, x3, _, _, hby⟩ := (HA.out.keep (w' := w2) (fun p _ hp => HB2.out.cell (by omega)) hR) i hi
      obtain ⟨g, hg⟩ := HN.out i hi
      have hg2 := (HB2.out.cell (p := ⟨R, i * 4 + 3, none⟩) (by show R < _; omega)).trans hg
      rw [x3] at hg2
      simp only [Option.some.injEq, Value.slice.injEq] at hg2
      obtain ⟨rfl, _, rfl⟩ := hg2
      have hle := text_le_bulk ts i hi
      have HY := Lib.hid hby
      have HFz2 := Lib.hid hfz2
      clear hh hr hby hg hfz2
      go_wp2_with fail
      refine (copyTerm_any ts[i] g _ (R + 1) B w2 HY.out (by omega) (by omega)).mono ?_
      rintro e w3 ⟨A3, c3, rfl, hbf, hb4⟩
      have s0 := (hb4.cell (p := ⟨w.heap.size + 1, 0, none⟩) (by show w.heap.size + 1 < _; omega)).trans q0
      have s1 := (hb4.cell (p := ⟨w.heap.size + 1, 1, none⟩) (by show w.heap.size + 1 < _; omega)).trans q1
      have s2 := (hb4.cell (p := ⟨w.heap.size + 1, 2, none⟩) (by show w.heap.size + 1 < _; omega)).trans q2
      have s3 := (hb4.cell (p := ⟨w.heap.size + 1, 3, none⟩) (by show w.heap.size + 1 < _; omega)).trans q3
      have f0 := (hb4.frozen (p := ⟨w.heap.size + 1, 0, none⟩) (by show w.heap.size + 1 < _; omega)).trans (HFz2.out 0)
      have f1 := (hb4.frozen (p := ⟨w.heap.size + 1, 1, none⟩) (by show w.heap.size + 1 < _; omega)).trans (HFz2.out 1)
      have f2 := (hb4.frozen (p := ⟨w.heap.size + 1, 2, none⟩) (by show w.heap.size + 1 < _; omega)).trans (HFz2.out 2)
      have f3 := (hb4.frozen (p := ⟨w.heap.size + 1, 3, none⟩) (by show w.heap.size + 1 < _; omega)).trans (HFz2.out 3)
      have HBf := Lib.hid hbf
      have HB4 := Lib.hid (HB2.out.trans (hb4.mono (by omega)))
      clear hbf hb4 x0 x1 x2 x3 b2 q0 q1 q2 q3
      go_wp2_with fail
      refine bodyPost_ret (v := .tuple #[.agg #[.int .i64 ts[i].kind, .int .i64 ts[i].a, .int .i64 ts[i].b, .slice A3 ts[i].text.length c3], .bool true]) (by simp [results, Try.results14, go_sem, *]) rfl ?_
      rw [HV.out, HT.out]
      refine ⟨A3, c3, rfl, ?_, ?_⟩
      · refine BytesFr.mono (BytesFr.low (HBf.out.keep fun p hp _ => ⟨?_, ?_⟩) (by omega)) (by simp)
        · rw [World.cell?_setCell_other _ _ _ _ (by rintro rfl; simp at hp; omega), World.cell?_setCell_other _ _ _ _ (by rintro rfl; simp at hp; omega), World.cell?_setCell_other _ _ _ _ (by rintro rfl; simp at hp; omega), World.cell?_setCell_other _ _ _ _ (by rintro rfl; simp at hp; omega)]
        · rw [World.frozen?_setCell, World.frozen?_setCell, World.frozen?_setCell, World.frozen?_setCell]
      · refine (((HB4.out.setCell ?_ _).setCell ?_ _).setCell ?_ _).setCell ?_ _
        all_goals first | (simp; done) | (simp; omega)
  · have r0 : w1.cell? ⟨w.heap.size + 1, 0, none⟩ = some (.int .i64 0) := (hb1.cell (p := ⟨w.heap.size + 1, 0, none⟩) (by simp)).trans (by simp)
    have r1 : w1.cell? ⟨w.heap.size + 1, 1, none⟩ = some (.int .i64 0) := (hb1.cell (p := ⟨w.heap.size + 1, 1, none⟩) (by simp)).trans (by simp)
    have r2 : w1.cell? ⟨w.heap.size + 1, 2, none⟩ = some (.int .i64 0) := (hb1.cell (p := ⟨w.heap.size + 1, 2, none⟩) (by simp)).trans (by simp)
    have r3 : w1.cell? ⟨w.heap.size + 1, 3, none⟩ = some (.slice none 0 0) := (hb1.cell (p := ⟨w.heap.size + 1, 3, none⟩) (by simp)).trans (by simp)
    have hfz : ∀ j, w1.frozen? ⟨w.heap.size + 1, j, none⟩ = false := fun j => (hb1.frozen (p := ⟨w.heap.size + 1, j, none⟩) (by simp)).trans (by simp)
    have f0 := hfz 0
    have f1 := hfz 1
    have f2 := hfz 2
    have f3 := hfz 3
    have hz1 : w.heap.size + 1 + 1 ≤ w1.heap.size := by simpa using hb1.size
    have hz1' : w.heap.size + 1 < w1.heap.size := by omega
    have HB := Lib.hid (hb0.trans (hb1.mono (by simp; omega)))
    have HV := Lib.hid (show atB ts id = false by simp [atB, lokB_false hno])
    have HT := Lib.hid (show atT ts id = tm0 by simp [atT, HV.out])
    clear hb0 hb1 hno hfz
    go_wp2_with fail
    refine bodyPost_ret (v := .tuple #[.agg #[.int .i64 0, .int .i64 0, .int .i64 0, .slice none 0 0], .bool false]) (by simp [results, Try.results14, go_sem, *]) rfl ?_
    rw [HV.out, HT.out]
    refine ⟨none, 0, rfl, BytesFr.nil, ?_⟩
    refine ((((HB.out.setCell ?_ _).setCell ?_ _).setCell ?_ _).setCell ?_ _).alloc ?_ _
    all_goals first | (simp; done) | (simp; omega)

end

end Go.Proofs.Ytigkojdchpjkcaa
