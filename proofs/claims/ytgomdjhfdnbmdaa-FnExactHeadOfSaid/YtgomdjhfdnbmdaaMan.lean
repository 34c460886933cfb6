/-
  A manifest: a tree with four numbers. The law's reckoning of its size, its copy, its comparison, its marks.
-/
import Derived.Test.YtgomdjhfdnbmdaaTrM
import Derived.Test.YtgomdjhfdnbmdaaPut
namespace Go.Proofs.Ytgomdjhfdnbmdaa
open Go.RowKit Go.Maps

set_option maxHeartbeats 1000000 in
theorem szManifest_any (au sq pv sg : Int) (AV : Option Addr) (vec : List Int) (cv : Nat) (A : Option Addr) (es : List En) (c : Nat) (left : Int) (w : World) (hA : EnsIn w 0 w.heap.size A es) (hv : vec.length ≤ 9223372036854775807) (hn : es.length ≤ 9223372036854775807) (hbn : ∀ i (hi : i < es.length), es[i].name.length ≤ 9223372036854775807) (h0 : 0 ≤ left) (h1 : left ≤ 1048576) :
    Calls Try.prog 39 #[.agg #[.int .i64 au, .int .i64 sq, .int .i64 pv, .slice AV vec.length cv, .slice A es.length c, .int .i64 sg], .int .i64 left] w fun e w' => ∃ r : Int, e = .returned (.int .i64 r) ∧ SzOk left (vec.length + (es.length + ebulk es)) r ∧ Below w.heap.size w w' := by
  have HA := Lib.hid hA
  have HBn := Lib.hid hbn
  clear hA hbn
  go_enter Try.func39, Try.ntmps39
  go_wp2_with fail
  obtain ⟨W, hW⟩ : ∃ W, W = w.alloc (.cells #[.int .i64 au, .int .i64 sq, .int .i64 pv, .slice AV vec.length cv, .slice A es.length c, .int .i64 sg] 77) := ⟨_, rfl⟩
  have HBel := Lib.hid (show Below w.heap.size w W by rw [hW]; exact (Below.refl _ _).alloc (Nat.le_refl _) _)
  have hz : w.heap.size < W.heap.size := by rw [hW]; simp
  rw [← hW]
  clear hW
  refine (szTree_any AV vec cv A es c left W (HA.out.up HBel.out) hv hn HBn.out h0 h1).mono ?_
  rintro e w1 ⟨r, rfl, hsz, hb⟩
  have HSz := Lib.hid hsz
  have HB1 := Lib.hid (HBel.out.trans (hb.mono (by omega)))
  clear hsz hb
  by_cases hr : r < 0
  · have HN := Lib.hid (show SzOk left (vec.length + (es.length + ebulk es)) (-1) from .inl rfl)
    go_wp2_with fail
    go_ret
    exact ⟨-1, rfl, HN.out, HB1.out⟩
  · go_wp2_with fail
    go_ret
    exact ⟨r, rfl, HSz.out, HB1.out⟩

set_option maxHeartbeats 1000000 in
theorem eqManifest_same (au sq pv sg : Int) (AV AV' A A' : Option Addr) (vec : List Int) (es : List En) (cv cv' c c' L L' B B' : Nat) (w : World) (h : TrOwn w L B AV vec A es) (h' : TrOwn w L' B' AV' vec A' es) (hB : B ≤ w.heap.size) (hB' : B' ≤ w.heap.size) (hv : vec.length ≤ 1048576) (hn : es.length ≤ 1048576) (hbk : ebulk es ≤ 1048576) :
    Calls Try.prog 13 #[.agg #[.int .i64 au, .int .i64 sq, .int .i64 pv, .slice AV vec.length cv, .slice A es.length c, .int .i64 sg], .agg #[.int .i64 au, .int .i64 sq, .int .i64 pv, .slice AV' vec.length cv', .slice A' es.length c', .int .i64 sg]] w fun e w' => e = .returned (.bool true) ∧ Below w.heap.size w w' := by
  have HT := Lib.hid h
  have HT' := Lib.hid h'
  clear h h'
  have e1 : (au != au) = false := by simp
  have e2 : (sq != sq) = false := by simp
  have e3 : (pv != pv) = false := by simp
  have e4 : (sg != sg) = false := by simp
  go_enter Try.func13, Try.ntmps13
  go_wp2_with fail
  obtain ⟨W0, hW0⟩ : ∃ W0, W0 = w.alloc (.cells #[.int .i64 au, .int .i64 sq, .int .i64 pv, .slice AV vec.length cv, .slice A es.length c, .int .i64 sg] 41) := ⟨_, rfl⟩
  obtain ⟨W, hW⟩ : ∃ W, W = W0.alloc (.cells #[.int .i64 au, .int .i64 sq, .int .i64 pv, .slice AV' vec.length cv', .slice A' es.length c', .int .i64 sg] 41) := ⟨_, rfl⟩
  have hz0 : W0.heap.size = w.heap.size + 1 := by rw [hW0]; simp
  have hz : W.heap.size = w.heap.size + 2 := by rw [hW]; simp [hz0]
  have HX := Lib.hid (show Bx W w.heap.size [.int .i64 au, .int .i64 sq, .int .i64 pv, .slice AV vec.length cv, .slice A es.length c, .int .i64 sg] by rw [hW, hW0]; exact Bx.alloc (Bx.new' _ _ _ _ rfl) (by simp) _)
  have HY := Lib.hid (show Bx W (w.heap.size + 1) [.int .i64 au, .int .i64 sq, .int .i64 pv, .slice AV' vec.length cv', .slice A' es.length c', .int .i64 sg] by rw [hW, ← hz0]; exact Bx.new' _ _ _ _ rfl)
  have HBel := Lib.hid (show Below w.heap.size w W by rw [hW, hW0]; exact ((Below.refl _ _).alloc (Nat.le_refl _) _).alloc (by simp) _)
  rw [← hW0, ← hW]
  have hzW : w.heap.size + 1 < W.heap.size := by omega
  clear hW hW0 hz0 hz
  have HT1 := Lib.hid (HT.out.keep fun p _ hp => ⟨HBel.out.cell (by omega), HBel.out.frozen (by omega)⟩)
  have HT1' := Lib.hid (HT'.out.keep fun p _ hp => ⟨HBel.out.cell (by omega), HBel.out.frozen (by omega)⟩)
  refine (eqTree_same AV AV' A A' vec es cv cv' c c' L L' B B' W HT1.out HT1'.out (by omega) (by omega) hv hn hbk).mono ?_
  rintro e w1 ⟨rfl, hb⟩
  have x5 := (HX.out.below hb (by omega)) 5 (by simp)
  have y5 := (HY.out.below hb (by omega)) 5 (by simp)
  simp only [List.getElem_cons_succ, List.getElem_cons_zero] at x5 y5
  have HB1 := Lib.hid (HBel.out.trans (hb.mono (by omega)))
  clear hb HX HY
  go_wp2_with fail
  go_ret
  exact ⟨rfl, HB1.out⟩

set_option maxRecDepth 100000 in
set_option maxHeartbeats 2000000 in
theorem markManifest_own (au sq pv sg : Int) (AV A : Option Addr) (vec : List Int) (es : List En) (cv c L B : Nat) (k : Int) (w : World) (h : TrOwn w L B AV vec A es) (hB : B ≤ w.heap.size) (hv : vec.length ≤ 1048576) (hn : es.length ≤ 1048576) (hbk : ebulk es ≤ 1048576) (hk : 0 ≤ k) (hk' : k ≤ 50000000) (hLw : L ≤ w.heap.size) :
    Calls Try.prog 15 #[.agg #[.int .i64 au, .int .i64 sq, .int .i64 pv, .slice AV vec.length cv, .slice A es.length c, .int .i64 sg], .int .i64 k] w fun e w' => e = .returned (.int .i64 (k + vec.length + (mo es : Nat))) ∧ TrMk w' L B AV vec.length A es k ∧ Inside L B w w' := by
  have HT := Lib.hid h
  clear h
  go_enter Try.func15, Try.ntmps15
  go_wp2_with fail
  obtain ⟨W, hW⟩ : ∃ W, W = w.alloc (.cells #[.int .i64 au, .int .i64 sq, .int .i64 pv, .slice AV vec.length cv, .slice A es.length c, .int .i64 sg] 41) := ⟨_, rfl⟩
  have HBel := Lib.hid (show Below w.heap.size w W by rw [hW]; exact (Below.refl _ _).alloc (Nat.le_refl _) _)
  have hz : w.heap.size < W.heap.size := by rw [hW]; simp
  rw [← hW]
  clear hW
  refine (markTree_own AV A vec es cv c L B k W (HT.out.keep fun p _ hp => ⟨HBel.out.cell (by omega), HBel.out.frozen (by omega)⟩) (by omega) hv hn hbk hk hk' (by omega)).mono ?_
  rintro e w1 ⟨rfl, hmk, hin⟩
  have HR := Lib.hid hmk
  have HI := Lib.hid (((Inside.refl L B w).grown HBel.out hLw).trans hin)
  clear hmk hin
  go_wp2_with fail
  go_ret
  exact ⟨rfl, HR.out, HI.out⟩

set_option maxRecDepth 100000 in
set_option maxHeartbeats 2000000 in
theorem heldManifest_own (au sq pv sg : Int) (AV A : Option Addr) (n : Nat) (es : List En) (cv c L B : Nat) (k : Int) (w : World) (h : TrMk w L B AV n A es k) (hB : B ≤ w.heap.size) (hv : n ≤ 1048576) (hn : es.length ≤ 1048576) (hbk : ebulk es ≤ 1048576) (hk : 0 ≤ k) (hk' : k ≤ 50000000) :
    Calls Try.prog 16 #[.agg #[.int .i64 au, .int .i64 sq, .int .i64 pv, .slice AV n cv, .slice A es.length c, .int .i64 sg], .int .i64 k] w fun e w' => e = .returned (.int .i64 (k + n + (mo es : Nat))) ∧ Below w.heap.size w w' := by
  have HT := Lib.hid h
  clear h
  go_enter Try.func16, Try.ntmps16
  go_wp2_with fail
  obtain ⟨W, hW⟩ : ∃ W, W = w.alloc (.cells #[.int .i64 au, .int .i64 sq, .int .i64 pv, .slice AV n cv, .slice A es.length c, .int .i64 sg] 41) := ⟨_, rfl⟩
  have HBel := Lib.hid (show Below w.heap.size w W by rw [hW]; exact (Below.refl _ _).alloc (Nat.le_refl _) _)
  have hz : w.heap.size < W.heap.size := by rw [hW]; simp
  rw [← hW]
  clear hW
  have h1 : ¬ (k + (n : Int) + ((mo es : Nat) : Int)) < 0 := by omega
  refine (heldTree_own AV A n es cv c L B k W (HT.out.keep fun p _ hp => ⟨HBel.out.cell (by omega), HBel.out.frozen (by omega)⟩) (by omega) hv hn hbk hk hk').mono ?_
  rintro e w1 ⟨rfl, hb⟩
  have HB1 := Lib.hid (HBel.out.trans (hb.mono (by omega)))
  clear hb
  go_wp2_with fail
  go_ret
  exact ⟨rfl, HB1.out⟩

set_option maxRecDepth 100000 in
set_option maxHeartbeats 4000000 in
theorem toManifest_own (au sq pv sg : Int) (AV : Option Addr) (vec : List Int) (cv : Nat) (A : Option Addr) (es : List En) (c : Nat) (w : World) (hV : IntsIn w 0 w.heap.size AV vec) (hA : EnsIn w 0 w.heap.size A es) (hv : vec.length ≤ 1048576) (hn : es.length ≤ 1048576) (hbk : ebulk es ≤ 1048576) :
    Calls Try.prog 42 #[.agg #[.int .i64 au, .int .i64 sq, .int .i64 pv, .slice AV vec.length cv, .slice A es.length c, .int .i64 sg]] w fun e w' => ∃ gv ge, e = .returned (.agg #[.int .i64 au, .int .i64 sq, .int .i64 pv, .slice (some ⟨gv, 0, none⟩) vec.length vec.length, .slice (some ⟨ge, 0, none⟩) es.length es.length, .int .i64 sg]) ∧ w.heap.size < w'.heap.size ∧ TrOwn w' w.heap.size w'.heap.size (some ⟨gv, 0, none⟩) vec (some ⟨ge, 0, none⟩) es ∧ Below w.heap.size w w' := by
  have HV := Lib.hid hV
  have HA := Lib.hid hA
  clear hV hA
  go_enter Try.func42, Try.ntmps42
  go_wp2_with fail
  obtain ⟨W0, hW0⟩ : ∃ W0, W0 = w.alloc (.cells #[.int .i64 au, .int .i64 sq, .int .i64 pv, .slice AV vec.length cv, .slice A es.length c, .int .i64 sg] 77) := ⟨_, rfl⟩
  obtain ⟨W1, hW1⟩ : ∃ W1, W1 = W0.alloc (.cells #[.int .i64 0, .int .i64 0, .int .i64 0, .slice none 0 0, .slice none 0 0, .int .i64 0] 41) := ⟨_, rfl⟩
  obtain ⟨W, hW⟩ : ∃ W, W = W1.alloc (.cells #[.int .i64 au, .int .i64 sq, .int .i64 pv, .slice none 0 0, .slice none 0 0, .int .i64 0] 41) := ⟨_, rfl⟩
  have hz0 : W0.heap.size = w.heap.size + 1 := by rw [hW0]; simp
  have hz1 : W1.heap.size = w.heap.size + 2 := by rw [hW1]; simp [hz0]
  have hz : W.heap.size = w.heap.size + 3 := by rw [hW]; simp [hz1]
  have HX := Lib.hid (show Bx W w.heap.size [.int .i64 au, .int .i64 sq, .int .i64 pv, .slice AV vec.length cv, .slice A es.length c, .int .i64 sg] by rw [hW, hW1, hW0]; exact Bx.alloc (Bx.alloc (Bx.new' _ _ _ _ rfl) (by simp) _) (by simp; omega) _)
  have HY := Lib.hid (show Bx W (w.heap.size + 1) [.int .i64 0, .int .i64 0, .int .i64 0, .slice none 0 0, .slice none 0 0, .int .i64 0] by rw [hW, ← hz0, hW1]; exact Bx.alloc (Bx.new' _ _ _ _ rfl) (by simp) _)
  have HZ := Lib.hid (show Bx W (w.heap.size + 2) [.int .i64 au, .int .i64 sq, .int .i64 pv, .slice none 0 0, .slice none 0 0, .int .i64 0] by rw [hW, ← hz1]; exact Bx.new' _ _ _ _ rfl)
  have HFy := Lib.hid (show ∀ o, W.frozen? ⟨w.heap.size + 1, o, none⟩ = false ∧ W.frozen? ⟨w.heap.size + 2, o, none⟩ = false from fun o => by rw [hW, hW1, hW0]; exact ⟨((((Fresh.refl w).alloc _ _).alloc _ _).alloc _ _) ⟨w.heap.size + 1, o, none⟩ (by show w.heap.size ≤ w.heap.size + 1; omega), ((((Fresh.refl w).alloc _ _).alloc _ _).alloc _ _) ⟨w.heap.size + 2, o, none⟩ (by show w.heap.size ≤ w.heap.size + 2; omega)⟩)
  have HBel := Lib.hid (show Below w.heap.size w W by rw [hW, hW1, hW0]; exact (((Below.refl _ _).alloc (Nat.le_refl _) _).alloc (by simp) _).alloc (by simp; omega) _)
  rw [← hW0, ← hW1, ← hW]
  have hzW : w.heap.size + 2 < W.heap.size := by omega
  clear hW hW1 hW0 hz0 hz1 hz
  obtain ⟨w2, hw2⟩ : ∃ w2, w2 = W := ⟨_, rfl⟩
  rw [← hw2] at HX HY HZ HFy HBel hzW ⊢
  have hzw2 := hzW
  have HX2 := HX
  have HY2 := HY
  have HZ2 := HZ
  have HF2 := HFy
  have HB2 := HBel
  clear hw2 HX HY HZ HFy HBel hzW
  refine (toTree_own AV vec cv A es c w2 ((HV.out.keep fun p _ hp => HB2.out.cell hp).mono (by omega)) ((HA.out.keep fun p _ hp => HB2.out.cell hp).mono (by omega)) hv hn hbk).mono ?_
  rintro e w3 ⟨gv, ge, rfl, hlt3, hown, hb3⟩
  have HT3 := Lib.hid hown
  have HX3 := Lib.hid (HX2.out.below hb3 (by omega))
  have HY3 := Lib.hid (HY2.out.below hb3 (by omega))
  have HZ3 := Lib.hid (HZ2.out.below hb3 (by omega))
  have HF3 := Lib.hid (show ∀ o, w3.frozen? ⟨w.heap.size + 1, o, none⟩ = false ∧ w3.frozen? ⟨w.heap.size + 2, o, none⟩ = false from fun o => ⟨(hb3.frozen (by show w.heap.size + 1 < _; omega)).trans (HF2.out o).1, (hb3.frozen (by show w.heap.size + 2 < _; omega)).trans (HF2.out o).2⟩)
  have HB3 := Lib.hid (HB2.out.trans (hb3.mono (by omega)))
  clear hown hb3 HX2 HY2 HZ2 HF2 HB2
  have x5 := HX3.out 5 (by simp)
  have z0 := HZ3.out 0 (by simp)
  have z1 := HZ3.out 1 (by simp)
  have z2 := HZ3.out 2 (by simp)
  have z3 := HZ3.out 3 (by simp)
  have z4 := HZ3.out 4 (by simp)
  have z5 := HZ3.out 5 (by simp)
  have y0 := HY3.out 0 (by simp)
  have y1 := HY3.out 1 (by simp)
  have y2 := HY3.out 2 (by simp)
  have y3 := HY3.out 3 (by simp)
  have y4 := HY3.out 4 (by simp)
  have y5 := HY3.out 5 (by simp)
  simp only [List.getElem_cons_succ, List.getElem_cons_zero] at x5 z0 z1 z2 z3 z4 z5 y0 y1 y2 y3 y4 y5
  have f3 := (HF3.out 3).2
  have f4 := (HF3.out 4).2
  have f5 := (HF3.out 5).2
  have e0 := (HF3.out 0).1
  have e1 := (HF3.out 1).1
  have e2 := (HF3.out 2).1
  have e3 := (HF3.out 3).1
  have e4 := (HF3.out 4).1
  have e5 := (HF3.out 5).1
  go_wp2_with fail
  have hY : Bx (putAll (w.heap.size + 2) 3 [.slice (some ⟨gv, 0, none⟩) vec.length vec.length, .slice (some ⟨ge, 0, none⟩) es.length es.length, .int .i64 sg] w3) (w.heap.size + 1) [.int .i64 0, .int .i64 0, .int .i64 0, .slice none 0 0, .slice none 0 0, .int .i64 0] := fun j hj => (putAll_other (by show w.heap.size + 1 ≠ w.heap.size + 2; omega)).trans (HY3.out j hj)
  have hq := putAll_bx (vs := [.int .i64 au, .int .i64 sq, .int .i64 pv, .slice (some ⟨gv, 0, none⟩) vec.length vec.length, .slice (some ⟨ge, 0, none⟩) es.length es.length, .int .i64 sg]) hY rfl
  have hqo : ∀ p : Addr, w.heap.size + 2 < p.block → (putAll (w.heap.size + 1) 0 [.int .i64 au, .int .i64 sq, .int .i64 pv, .slice (some ⟨gv, 0, none⟩) vec.length vec.length, .slice (some ⟨ge, 0, none⟩) es.length es.length, .int .i64 sg] (putAll (w.heap.size + 2) 3 [.slice (some ⟨gv, 0, none⟩) vec.length vec.length, .slice (some ⟨ge, 0, none⟩) es.length es.length, .int .i64 sg] w3)).cell? p = w3.cell? p ∧ (putAll (w.heap.size + 1) 0 [.int .i64 au, .int .i64 sq, .int .i64 pv, .slice (some ⟨gv, 0, none⟩) vec.length vec.length, .slice (some ⟨ge, 0, none⟩) es.length es.length, .int .i64 sg] (putAll (w.heap.size + 2) 3 [.slice (some ⟨gv, 0, none⟩) vec.length vec.length, .slice (some ⟨ge, 0, none⟩) es.length es.length, .int .i64 sg] w3)).frozen? p = w3.frozen? p := fun p hp => ⟨(putAll_other (by omega)).trans (putAll_other (by omega)), (putAll_frozen _).trans (putAll_frozen _)⟩
  have hqs := (putAll_size (b := w.heap.size + 1) (o := 0) (vs := [.int .i64 au, .int .i64 sq, .int .i64 pv, .slice (some ⟨gv, 0, none⟩) vec.length vec.length, .slice (some ⟨ge, 0, none⟩) es.length es.length, .int .i64 sg]) (w := putAll (w.heap.size + 2) 3 [.slice (some ⟨gv, 0, none⟩) vec.length vec.length, .slice (some ⟨ge, 0, none⟩) es.length es.length, .int .i64 sg] w3)).trans putAll_size
  have hqb := putAll_below (b := w.heap.size + 1) (o := 0) (vs := [.int .i64 au, .int .i64 sq, .int .i64 pv, .slice (some ⟨gv, 0, none⟩) vec.length vec.length, .slice (some ⟨ge, 0, none⟩) es.length es.length, .int .i64 sg]) (putAll_below (b := w.heap.size + 2) (o := 3) (vs := [.slice (some ⟨gv, 0, none⟩) vec.length vec.length, .slice (some ⟨ge, 0, none⟩) es.length es.length, .int .i64 sg]) HB3.out (by omega)) (by omega)
  obtain ⟨W9, hW9⟩ : ∃ W9, W9 = putAll (w.heap.size + 1) 0 [.int .i64 au, .int .i64 sq, .int .i64 pv, .slice (some ⟨gv, 0, none⟩) vec.length vec.length, .slice (some ⟨ge, 0, none⟩) es.length es.length, .int .i64 sg] (putAll (w.heap.size + 2) 3 [.slice (some ⟨gv, 0, none⟩) vec.length vec.length, .slice (some ⟨ge, 0, none⟩) es.length es.length, .int .i64 sg] w3) := ⟨_, rfl⟩
  rw [← hW9] at hq hqo hqs hqb
  simp only [putAll] at hW9
  rw [← hW9]
  have r0 := hq 0 (by simp)
  have r1 := hq 1 (by simp)
  have r2 := hq 2 (by simp)
  have r3 := hq 3 (by simp)
  have r4 := hq 4 (by simp)
  have r5 := hq 5 (by simp)
  simp only [List.getElem_cons_succ, List.getElem_cons_zero] at r0 r1 r2 r3 r4 r5
  refine bodyPost_ret (v := .agg #[.int .i64 au, .int .i64 sq, .int .i64 pv, .slice (some ⟨gv, 0, none⟩) vec.length vec.length, .slice (some ⟨ge, 0, none⟩) es.length es.length, .int .i64 sg]) (by simp [results, Try.results42, r0, r1, r2, r3, r4, r5, go_sem]) rfl ⟨gv, ge, rfl, by omega, ?_, hqb⟩
  exact (HT3.out.keep fun p hp _ => hqo p (by omega)).mono (by omega) (by omega)

end Go.Proofs.Ytgomdjhfdnbmdaa
