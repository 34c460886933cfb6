/-
  At over any ledger: its texts may be none.
-/
import Derived.Test.YtigkojdchpjkcaaAt
import Derived.Test.YtigkojdchpjkcaaGi
namespace Go.Proofs.Ytigkojdchpjkcaa
open Go.RowKit Go.Maps

section
variable (A : Option Addr) (ts : List Tm) (c L B : Nat) (id : Int) (w : World)

set_option maxRecDepth 100000 in
set_option maxHeartbeats 1000000 in
theorem implAt_g (hA : TmsIn w L B A ts) (hB : B ≤ w.heap.size) (hn : ts.length ≤ 1048576) (hbk : bulk ts ≤ 1048576) :
    Calls Try.prog 14 #[.agg #[.slice A ts.length c], .int .i64 id] w (NewTmOk (atT ts id) (atB ts id) w) := by
  have HA := Lib.hid hA
  clear hA
  go_enter Try.func14, Try.ntmps14
  go_wp2_with fail
  have hb0 : Below w.heap.size w ((w.alloc (.cells #[.slice A ts.length c] 25)).alloc (.cells #[.int .i64 0, .int .i64 0, .int .i64 0, .slice none 0 0] 27)) := ((Below.refl _ _).alloc (Nat.le_refl _) _).alloc (by simp) _
  refine (readLedger_any A ts c L B _ (HA.out.keep fun p _ hp => hb0.cell (by omega)) (by simp; omega) hn hbk).mono ?_
  rintro e w1 (⟨hok, A1, c1, M, rfl, _, _, _, hb1⟩ | ⟨hno, rfl, hb1⟩)
  · have b0 : w1.cell? ⟨w.heap.size, 0, none⟩ = some (.slice A ts.length c) := (hb1.cell (p := ⟨w.heap.size, 0, none⟩) (by simp; omega)).trans (by simp)
    have r0 : w1.cell? ⟨w.heap.size + 1, 0, none⟩ = some (.int .i64 0) := (hb1.cell (p := ⟨w.heap.size + 1, 0, none⟩) (by simp)).trans (by simp)
    have r1 : w1.cell? ⟨w.heap.size + 1, 1, none⟩ = some (.int .i64 0) := (hb1.cell (p := ⟨w.heap.size + 1, 1, none⟩) (by simp)).trans (by simp)
    have r2 : w1.cell? ⟨w.heap.size + 1, 2, none⟩ = some (.int .i64 0) := (hb1.cell (p := ⟨w.heap.size + 1, 2, none⟩) (by simp)).trans (by simp)
    have r3 : w1.cell? ⟨w.heap.size + 1, 3, none⟩ = some (.slice none 0 0) := (hb1.cell (p := ⟨w.heap.size + 1, 3, none⟩) (by simp)).trans (by simp)
    have hfz : ∀ j, w1.frozen? ⟨w.heap.size + 1, j, none⟩ = false := fun j => (hb1.frozen (p := ⟨w.heap.size + 1, j, none⟩) (by simp)).trans (by simp)
    have HFz := Lib.hid hfz
    have HB := Lib.hid (hb0.trans (hb1.mono (by simp; omega)))
    have hz1 : w.heap.size + 1 + 1 ≤ w1.heap.size := by simpa using hb1.size
    have HK := Lib.hid (lokB_true hok)
    clear hb0 hb1 hok hfz
    go_wp2_with fail
    have hb2 : Below w1.heap.size w1 (w1.alloc (.cells #[.slice A1 ts.length c1, .map (some M)] 64)) := (Below.refl _ _).alloc (Nat.le_refl _) _
    refine (has_any _ _ _ _ _ _).mono ?_
    rintro e w2 ⟨rfl, hb3⟩
    have hb23 := hb2.trans (hb3.mono (by simp))
    have b2 := (hb23.cell (p := ⟨w.heap.size, 0, none⟩) (by show w.heap.size < _; omega)).trans b0
    have q0 := (hb23.cell (p := ⟨w.heap.size + 1, 0, none⟩) (by show w.heap.size + 1 < _; omega)).trans r0
    have q1 := (hb23.cell (p := ⟨w.heap.size + 1, 1, none⟩) (by show w.heap.size + 1 < _; omega)).trans r1
    have q2 := (hb23.cell (p := ⟨w.heap.size + 1, 2, none⟩) (by show w.heap.size + 1 < _; omega)).trans r2
    have q3 := (hb23.cell (p := ⟨w.heap.size + 1, 3, none⟩) (by show w.heap.size + 1 < _; omega)).trans r3
    have hfz2 : ∀ j, w2.frozen? ⟨w.heap.size + 1, j, none⟩ = false := fun j => (hb23.frozen (p := ⟨w.heap.size + 1, j, none⟩) (by show w.heap.size + 1 < _; omega)).trans (HFz.out j)
    have hz2 := hb23.size
    have HB2 := Lib.hid (HB.out.trans (hb23.mono HB.out.size))
    clear hb2 hb3 hb23 b0 r0 r1 r2 r3
    cases hh : hasB ts.length id with
    | false =>
      have HV := Lib.hid (show atB ts id = false by simp [atB, hh])
      have HT := Lib.hid (show atT ts id = tm0 by simp [atT, HV.out])
      have f0 := hfz2 0
      have f1 := hfz2 1
      have f2 := hfz2 2
      have f3 := hfz2 3
      clear hh hfz2
      go_wp2_with fail
      refine bodyPost_ret (v := .tuple #[.agg #[.int .i64 0, .int .i64 0, .int .i64 0, .slice none 0 0], .bool false]) (by simp [results, Try.results14, go_sem, *]) rfl ?_
      rw [HV.out, HT.out]
      refine ⟨none, 0, rfl, BytesFr.nil, ?_⟩
      refine (((HB2.out.setCell ?_ _).setCell ?_ _).setCell ?_ _).setCell ?_ _
      all_goals first | (simp; done) | (simp; omega)
    | true =>
      have hr := (hasB_iff _ _).1 hh
      obtain ⟨i, rfl⟩ := Int.eq_ofNat_of_zero_le hr.1
      have hi : i < ts.length := by omega
      have HV := Lib.hid (show atB ts i = true by simp [atB, hh, HK.out])
      have HT := Lib.hid (show atT ts i = ts[i] by simp [atT, HV.out, tmAt_nat ts i hi])
      obtain ⟨bt, ot, rfl, _, hbt, hct⟩ := (TmsIn.keep (w' := w2) HA.out fun p _ hp => HB2.out.cell (by omega)) (by omega)
      obtain ⟨A2, c2, x0, x1, x2, x3, _, _, hby⟩ := hct i hi
      have hle := text_le_bulk ts i hi
      have HY := Lib.hid hby
      have HFz2 := Lib.hid hfz2
      clear hh hr hby hct hfz2
      go_wp2_with fail
      refine (copyTerm_g ts[i] A2 c2 L B w2 HY.out (by omega) (by omega)).mono ?_
      rintro e w3 ⟨A3, c3, rfl, _, _, htx, hb4⟩
      have hbf := htx.bytes
      clear htx
      have s0 := (hb4.cell (p := ⟨w.heap.size + 1, 0, none⟩) (by show w.heap.size + 1 < _; omega)).trans q0
      have s1 := (hb4.cell (p := ⟨w.heap.size + 1, 1, none⟩) (by show w.heap.size + 1 < _; omega)).trans q1
      have s2 := (hb4.cell (p := ⟨w.heap.size + 1, 2, none⟩) (by show w.heap.size + 1 < _; omega)).trans q2
      have s3 := (hb4.cell (p := ⟨w.heap.size + 1, 3, none⟩) (by show w.heap.size + 1 < _; omega)).trans q3
      have f0 := (hb4.frozen (p := ⟨w.heap.size + 1, 0, none⟩) (by show w.heap.size + 1 < _; omega)).trans (HFz2.out 0)
      have f1 := (hb4.frozen (p := ⟨w.heap.size + 1, 1, none⟩) (by show w.heap.size + 1 < _; omega)).trans (HFz2.out 1)
      have f2 := (hb4.frozen (p := ⟨w.heap.size + 1, 2, none⟩) (by show w.heap.size + 1 < _; omega)).trans (HFz2.out 2)
      have f3 := (hb4.frozen (p := ⟨w.heap.size + 1, 3, none⟩) (by show w.heap.size + 1 < _; omega)).trans (HFz2.out 3)
      have HBf := Lib.hid hbf
      have HB4 := Lib.hid (HB2.out.trans (hb4.mono (by omega)))
      clear hbf hb4 x0 x1 x2 x3 b2 q0 q1 q2 q3
      go_wp2_with fail
      refine bodyPost_ret (v := .tuple #[.agg #[.int .i64 ts[i].kind, .int .i64 ts[i].a, .int .i64 ts[i].b, .slice A3 ts[i].text.length c3], .bool true]) (by simp [results, Try.results14, go_sem, *]) rfl ?_
      rw [HV.out, HT.out]
      refine ⟨A3, c3, rfl, ?_, ?_⟩
      · refine BytesFr.mono (BytesFr.low (HBf.out.keep fun p hp _ => ⟨?_, ?_⟩) (by omega)) (by simp)
        · rw [World.cell?_setCell_other _ _ _ _ (by rintro rfl; simp at hp; omega), World.cell?_setCell_other _ _ _ _ (by rintro rfl; simp at hp; omega), World.cell?_setCell_other _ _ _ _ (by rintro rfl; simp at hp; omega), World.cell?_setCell_other _ _ _ _ (by rintro rfl; simp at hp; omega)]
        · rw [World.frozen?_setCell, World.frozen?_setCell, World.frozen?_setCell, World.frozen?_setCell]
      · refine (((HB4.out.setCell ?_ _).setCell ?_ _).setCell ?_ _).setCell ?_ _
        all_goals first | (simp; done) | (simp; omega)
  · have r0 : w1.cell? ⟨w.heap.size + 1, 0, none⟩ = some (.int .i64 0) := (hb1.cell (p := ⟨w.heap.size + 1, 0, none⟩) (by simp)).trans (by simp)
    have r1 : w1.cell? ⟨w.heap.size + 1, 1, none⟩ = some (.int .i64 0) := (hb1.cell (p := ⟨w.heap.size + 1, 1, none⟩) (by simp)).trans (by simp)
    have r2 : w1.cell? ⟨w.heap.size + 1, 2, none⟩ = some (.int .i64 0) := (hb1.cell (p := ⟨w.heap.size + 1, 2, none⟩) (by simp)).trans (by simp)
    have r3 : w1.cell? ⟨w.heap.size + 1, 3, none⟩ = some (.slice none 0 0) := (hb1.cell (p := ⟨w.heap.size + 1, 3, none⟩) (by simp)).trans (by simp)
    have hfz : ∀ j, w1.frozen? ⟨w.heap.size + 1, j, none⟩ = false := fun j => (hb1.frozen (p := ⟨w.heap.size + 1, j, none⟩) (by simp)).trans (by simp)
    have f0 := hfz 0
    have f1 := hfz 1
    have f2 := hfz 2
    have f3 := hfz 3
    have hz1 : w.heap.size + 1 + 1 ≤ w1.heap.size := by simpa using hb1.size
    have hz1' : w.heap.size + 1 < w1.heap.size := by omega
    have HB := Lib.hid (hb0.trans (hb1.mono (by simp; omega)))
    have HV := Lib.hid (show atB ts id = false by simp [atB, lokB_false hno])
    have HT := Lib.hid (show atT ts id = tm0 by simp [atT, HV.out])
    clear hb0 hb1 hno hfz
    go_wp2_with fail
    refine bodyPost_ret (v := .tuple #[.agg #[.int .i64 0, .int .i64 0, .int .i64 0, .slice none 0 0], .bool false]) (by simp [results, Try.results14, go_sem, *]) rfl ?_
    rw [HV.out, HT.out]
    refine ⟨none, 0, rfl, BytesFr.nil, ?_⟩
    refine ((((HB.out.setCell ?_ _).setCell ?_ _).setCell ?_ _).setCell ?_ _).alloc ?_ _
    all_goals first | (simp; done) | (simp; omega)

end

end Go.Proofs.Ytigkojdchpjkcaa
