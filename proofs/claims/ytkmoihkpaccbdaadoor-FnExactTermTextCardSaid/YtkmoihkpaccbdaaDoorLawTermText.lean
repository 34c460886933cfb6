/-
  The law on TermText, walked: it answers true, and turns nothing that was there.
-/
import Derived.Test.YtkmoihkpaccbdaaDoorSz
import Derived.Test.YtkmoihkpaccbdaaDoorEq
import Derived.Test.YtkmoihkpaccbdaaDoorTxtS
import Derived.Test.YtkmoihkpaccbdaaDoorMark2
import Derived.Deep.RegionHeld3
namespace Go.Proofs.YtkmoihkpaccbdaaDoor
open Go.RowKit Go.Maps

theorem numsV_len (l : List Nat) (h : ∀ n ∈ l, n < 18446744073709551616) : (numsV l).length ≤ l.length * 21 := by
  induction l with
  | nil => simp [numsV]
  | cons n l ih =>
    have h1 := digits20 n (h n (by simp))
    have h2 := ih (fun m hm => h m (by simp [hm]))
    have e : (numsV (n :: l)).length = 1 + (Lib.decDigits n).length + (numsV l).length := by
      rw [show n :: l = [n] ++ l from rfl, numsV_append]
      simp [numsV]
      omega
    rw [e]
    simp only [List.length_cons]
    omega
theorem ttV_length (ts : List Tm) (id : Int) : (ttV ts id).length ≤ 100 := by
  unfold ttV
  split
  · rename_i h
    have hr := (hasB_iff _ _).1 h.2
    obtain ⟨i, rfl⟩ := Int.eq_ofNat_of_zero_le hr.1
    have hi : i < ts.length := by omega
    rw [tmAt_nat ts i hi]
    obtain ⟨na, nb, hna, hnb, h1, h2, h3⟩ := good_nums (lok_of h.1) hi
    have hw : (ttW ts[i].kind).data.toList.length ≤ 10 := by
      unfold ttW
      repeat (first | (split; · decide) | decide)
    have hn := numsV_len (ttN ts[i]) (fun n hn => by
      unfold ttN at hn
      split at hn
      · simp at hn; omega
      · split at hn
        · simp at hn; omega
        · simp at hn; omega)
    have hl : (ttN ts[i]).length ≤ 2 := by
      unfold ttN
      split
      · simp
      · split <;> simp
    unfold ttB
    rw [List.length_append]
    omega
  · simp

set_option maxRecDepth 100000 in
set_option maxHeartbeats 4000000 in
theorem lawTermText_any (A : Option Addr) (ts : List Tm) (c : Nat) (id : Int) (w : World) (hA : TmsIn w 0 w.heap.size A ts) (hn : ts.length ≤ 9223372036854775807)
    (htab : Lib.TabIs Tryd.prog w "internal/strconv.uint64pow10" .u64 Lib.pow10Tab) :
    Calls Tryd.prog 4 #[.agg #[.slice A ts.length c], .int .i64 id] w fun e w' => e = .returned (.bool true) ∧ Below w.heap.size w w' := by
  have HA := Lib.hid hA
  have HTab := Lib.hid (Lib.tabBelow_of_tabIs htab)
  have hlv := ttV_length ts id
  clear hA htab
  go_enter Tryd.func4, Tryd.ntmps4
  go_wp2_with fail
  have hb0 : Below w.heap.size w (w.alloc (.cells #[.slice A ts.length c] 37)) := (Below.refl _ _).alloc (Nat.le_refl _) _
  have HB0 := Lib.hid hb0
  refine (szLedger_any A ts c _ _ ?_ hn (by omega) (by omega)).mono ?_
  · exact (HA.out.up hb0)
  rintro e w1 ⟨r, rfl, hsz, hb1⟩
  have b1 : w1.cell? ⟨w.heap.size, 0, none⟩ = some (.slice A ts.length c) := (hb1.cell (p := ⟨w.heap.size, 0, none⟩) (by simp)).trans (by simp)
  have hz1 : w.heap.size + 1 ≤ w1.heap.size := by simpa using hb1.size
  have HB1 := Lib.hid (HB0.out.trans (hb1.mono (by simp)))
  have HSz := Lib.hid hsz
  clear hb0 hb1 hsz
  by_cases hr : r < 0
  · go_wp2_with fail
    all_goals go_ret
    all_goals exact ⟨rfl, HB1.out⟩
  · have hr' : 0 ≤ r := by omega
    have hsum : ts.length + bulk ts ≤ 1048576 := by have := HSz.out; unfold SzOk at this; omega
    clear hr
    go_wp2_with fail
    -- the model
    refine (toLedger_any A ts c w1 ?_ (by omega) (by omega)).mono ?_
    · exact (HA.out.below HB1.out).mono (by omega)
    rintro e w2 ⟨g2, rfl, hg2, hts2, hb2⟩
    have b2 := (hb2.cell (p := ⟨w.heap.size, 0, none⟩) (by show w.heap.size < _; omega)).trans b1
    have hz2 := hb2.size
    have HT2 := Lib.hid hts2
    have HB2 := Lib.hid (HB1.out.trans (hb2.mono (by omega)))
    clear hts2 hb2 b1
    go_wp2_with fail
    refine (specTermText_any _ ts _ _ _ id _ HT2.out (Nat.le_refl _) (by omega) (by omega)).mono ?_
    rintro e w3 ⟨A3, c3, rfl, hints3, hb3⟩
    have b3 := (hb3.cell (p := ⟨w.heap.size, 0, none⟩) (by show w.heap.size < _; omega)).trans b2
    have hz3 := hb3.size
    have HW3 := Lib.hid hints3
    have HB3 := Lib.hid (HB2.out.trans (hb3.mono (by omega)))
    clear hints3 hb3 b2
    go_wp2_with fail
    -- the program's argument
    refine (toLedger_fr A ts c w3 ?_ (by omega) (by omega)).mono ?_
    · exact (HA.out.below HB3.out).mono (by omega)
    rintro e w4 ⟨g4, rfl, hg4, hg4', hcp4, hfr4, hb4⟩
    have b4 := (hb4.cell (p := ⟨w.heap.size, 0, none⟩) (by show w.heap.size < _; omega)).trans b3
    have hz4 := hb4.size
    have HC4 := Lib.hid hcp4
    have HF4 := Lib.hid hfr4
    have HW4 := Lib.hid (HW3.out.below hb4)
    have HB4 := Lib.hid (HB3.out.trans (hb4.mono (by omega)))
    clear hcp4 hfr4 hb4 b3
    go_wp2_with fail
    -- the program
    have hb5 : Below w4.heap.size w4 (w4.alloc (.cells #[.slice (some ⟨g4, 0, none⟩) ts.length ts.length] 25)) := (Below.refl _ _).alloc (Nat.le_refl _) _
    refine (implTermText_any _ ts _ g4 w4.heap.size id _ ((HC4.out.tms hg4').below hb5) (by simp) (by omega) (by omega) (HTab.out _ (HB4.out.trans (hb5.mono (by omega))))).mono ?_
    rintro e w6 ⟨A6, c6, rfl, hints6, hb6⟩
    have x6 : w6.cell? ⟨w4.heap.size, 0, none⟩ = some (.slice (some ⟨g4, 0, none⟩) ts.length ts.length) := (hb6.cell (p := ⟨w4.heap.size, 0, none⟩) (by simp)).trans (by simp)
    have hb46 := hb5.trans (hb6.mono (by simp))
    have b6 := (hb46.cell (p := ⟨w.heap.size, 0, none⟩) (by show w.heap.size < _; omega)).trans b4
    have hz6 : w4.heap.size + 1 ≤ w6.heap.size := by simpa using hb6.size
    have HG6 := Lib.hid (show BytesFr w6 (w4.heap.size + 1) w6.heap.size A6 (ttV ts id) by simpa using hints6)
    have HW6 := Lib.hid (HW4.out.keep fun p _ hp => ⟨hb46.cell (by omega), hb46.frozen (by omega)⟩)
    have HC6 := Lib.hid (HC4.out.keep (fun p _ hp => hb46.cell hp) hg4')
    have HF6 := Lib.hid (fun (p : Addr) (hp : g4 ≤ p.block) (hpB : p.block < w4.heap.size) => (hb46.frozen hpB).trans (HF4.out p (by omega)))
    have HB6 := Lib.hid (HB4.out.trans (hb46.mono (by omega)))
    clear hints6 hb5 hb6 hb46 b4
    go_wp2_with fail
    -- both answers
    refine (eqByteS_same A6 A3 (ttV ts id) c6 c3 _ _ _ _ w6 HG6.out.bytes HW6.out.bytes (by omega)).mono ?_
    rintro e w7 ⟨rfl, hb7⟩
    have x7 := (hb7.cell (p := ⟨w4.heap.size, 0, none⟩) (by show w4.heap.size < _; omega)).trans x6
    have b7 := (hb7.cell (p := ⟨w.heap.size, 0, none⟩) (by show w.heap.size < _; omega)).trans b6
    have hz7 := hb7.size
    have HG7 := Lib.hid (HG6.out.below hb7)
    have HW7 := Lib.hid (HW6.out.keep fun p _ hp => ⟨hb7.cell (by omega), hb7.frozen (by omega)⟩)
    have HC7 := Lib.hid (HC6.out.keep (fun p _ hp => hb7.cell (by omega)) hg4')
    have HF7 := Lib.hid (fun (p : Addr) (hp : g4 ≤ p.block) (hpB : p.block < w4.heap.size) => (hb7.frozen (by omega)).trans (HF6.out p hp hpB))
    have HB7 := Lib.hid (HB6.out.trans (hb7.mono (by omega)))
    clear hb7 x6 b6
    go_wp2_with fail
    -- the argument is as it was
    go_region_held3 (fun W => W.cell? ⟨w4.heap.size, 0, none⟩ = some (.slice (some ⟨g4, 0, none⟩) ts.length ts.length) ∧ W.cell? ⟨w.heap.size, 0, none⟩ = some (.slice A ts.length c))
      (first | exact ⟨x7, b7⟩ | exact ⟨x8, b8⟩ | exact ⟨x9, b9⟩)
      (first
        | (go_at_call 13
           refine (toLedger_any A ts c _ ?_ (by omega) (by omega)).mono ?_
           · first | exact (HA.out.below HB7.out).mono (by show w.heap.size ≤ w7.heap.size; omega) | exact (HA.out.below HB7.out.drew).mono (by show w.heap.size ≤ w7.heap.size; omega)
           rintro e w8 ⟨g8, rfl, hg8, hts8, hb8⟩
           have x8 := (hb8.cell (p := ⟨w4.heap.size, 0, none⟩) (by show w4.heap.size < w7.heap.size; omega)).trans x7
           have b8 := (hb8.cell (p := ⟨w.heap.size, 0, none⟩) (by show w.heap.size < w7.heap.size; omega)).trans b7
           have hz8 : w7.heap.size ≤ w8.heap.size := hb8.size
           have HT8 := Lib.hid hts8
           have HB78 := Lib.hid (show Below w7.heap.size w7 w8 by first | exact hb8 | exact (Below.refl w7.heap.size w7).drew.trans hb8)
           clear hts8 hb8)
        | (go_at_call 15
           refine (eqLedger_same _ _ ts _ _ g4 _ w4.heap.size w8.heap.size _ ((HC7.out.tms hg4').keep fun p _ hp => (HB78.out.cell (by show p.block < w7.heap.size; omega))) HT8.out (by show w4.heap.size ≤ w8.heap.size; omega) (Nat.le_refl _) (by omega) (by omega)).mono ?_
           rintro e w9 ⟨rfl, hb9⟩
           have x9 := (hb9.cell (p := ⟨w4.heap.size, 0, none⟩) (by show w4.heap.size < w8.heap.size; omega)).trans x8
           have b9 := (hb9.cell (p := ⟨w.heap.size, 0, none⟩) (by show w.heap.size < w8.heap.size; omega)).trans b8
           have hz9 : w8.heap.size ≤ w9.heap.size := hb9.size
           have HB79 := Lib.hid (show Below w7.heap.size w7 w9 by first | exact HB78.out.trans (hb9.mono (by show w7.heap.size ≤ w8.heap.size; omega)) | exact HB78.out.drew.trans (hb9.mono (by show w7.heap.size ≤ w8.heap.size; omega)))
           clear hb9))
    have HG9 := Lib.hid (HG7.out.keep fun p _ hp => ⟨HB79.out.cell (by omega), HB79.out.frozen (by omega)⟩)
    have HW9 := Lib.hid (HW7.out.keep fun p _ hp => ⟨HB79.out.cell (by omega), HB79.out.frozen (by omega)⟩)
    have HC9 := Lib.hid (HC7.out.keep (fun p _ hp => HB79.out.cell (by omega)) hg4')
    have HF9 := Lib.hid (fun (p : Addr) (hp : g4 ≤ p.block) (hpB : p.block < w4.heap.size) => (HB79.out.frozen (by omega)).trans (HF7.out p hp hpB))
    have HB9 := Lib.hid (HB7.out.trans (HB79.out.mono (by omega)))
    clear x7 b7 x8 b8
    go_wp2_with fail
    -- numbers are written into the argument: the answer stays
    refine (markLedger_any g4 ts ts.length w4.heap.size 1 w9 HC9.out hg4' (by omega) HF9.out (by omega) (by omega) (by omega) (by omega)).mono ?_
    rintro e w10 ⟨⟨r10, rfl, hr10⟩, hin10⟩
    have b10 := (hin10.cell (p := ⟨w.heap.size, 0, none⟩) (.inl (by show w.heap.size < g4; omega))).trans b9
    have hz10 := hin10.below.size
    have HG10 := Lib.hid (HG9.out.keep fun p hp hpB => ⟨hin10.cell (.inr ⟨by omega, by omega⟩), hin10.frozen p (by omega)⟩)
    have HW10 := Lib.hid (HW9.out.keep fun p _ hp => ⟨hin10.cell (.inl (by omega)), hin10.frozen p (by omega)⟩)
    have HB10 := Lib.hid (HB9.out.trans (hin10.below.mono (by omega)))
    clear hin10 b9 x9
    go_wp2_with fail
    refine (eqByteS_same A6 A3 (ttV ts id) c6 c3 _ _ _ _ w10 HG10.out.bytes HW10.out.bytes (by omega)).mono ?_
    rintro e w11 ⟨rfl, hb11⟩
    have b11 := (hb11.cell (p := ⟨w.heap.size, 0, none⟩) (by show w.heap.size < _; omega)).trans b10
    have hz11 := hb11.size
    have HG11 := Lib.hid (HG10.out.keep fun p _ hp => ⟨hb11.cell (by omega), hb11.frozen (by omega)⟩)
    have HW11 := Lib.hid (HW10.out.keep fun p _ hp => ⟨hb11.cell (by omega), hb11.frozen (by omega)⟩)
    have HB11 := Lib.hid (HB10.out.trans (hb11.mono (by omega)))
    clear hb11 b10
    go_wp2_with fail
    -- numbers are written into the answer
    refine (markByteS_fr A6 (ttV ts id) c6 _ _ 1 w11 HG11.out (by omega) (by omega) (by omega)).mono ?_
    rintro e w12 ⟨rfl, hints12, hin12⟩
    have b12 := (hin12.cell (p := ⟨w.heap.size, 0, none⟩) (.inl (by show w.heap.size < w4.heap.size + 1; omega))).trans b11
    have hz12 := hin12.below.size
    have HG12 := Lib.hid hints12
    have HW12 := Lib.hid (HW11.out.keep fun p _ hp => ⟨hin12.cell (.inl (by omega)), hin12.frozen p (by omega)⟩)
    have HB12 := Lib.hid (HB11.out.trans (hin12.below.mono (by omega)))
    clear hints12 hin12 b11
    go_wp2_with fail
    refine (heldByteS_any A6 (ttV ts id).length c6 _ _ 1 w12 HG12.out (by omega) (by omega) (by omega)).mono ?_
    rintro e w12' ⟨rfl, rfl⟩
    have hq0 : (0 : Int) ≤ 1 + ((ttV ts id).length : Int) := by omega
    have hq1 : ((1 + ((ttV ts id).length : Int)) != 1 + ((ttV ts id).length : Int)) = false := by simp
    go_wp2_with fail
    -- once more
    refine (toLedger_any A ts c w12 ?_ (by omega) (by omega)).mono ?_
    · exact (HA.out.below HB12.out).mono (by omega)
    rintro e w13 ⟨g13, rfl, hg13, hts13, hb13⟩
    have hz13 := hb13.size
    have HT13 := Lib.hid hts13
    have HB1213 := Lib.hid hb13
    clear hts13 hb13 b12
    go_wp2_with fail
    refine (implTermText_any _ ts _ _ _ id _ HT13.out (Nat.le_refl _) (by omega) (by omega) (HTab.out _ (HB12.out.trans (HB1213.out.mono (by omega))))).mono ?_
    rintro e w14 ⟨A14, c14, rfl, hints14, hb14⟩
    have hz14 := hb14.size
    have HH14 := Lib.hid hints14
    have HB1214 := Lib.hid (HB1213.out.trans (hb14.mono (by omega)))
    clear hints14 hb14
    have HW14 := Lib.hid (HW12.out.keep fun p _ hp => ⟨HB1214.out.cell (by omega), HB1214.out.frozen (by omega)⟩)
    have HG14 := Lib.hid (HG12.out.keep fun p _ hp => ⟨HB1214.out.cell (by omega), HB1214.out.frozen (by omega)⟩)
    have HB14 := Lib.hid (HB12.out.trans (HB1214.out.mono (by omega)))
    go_wp2_with fail
    refine (eqByteS_same A14 A3 (ttV ts id) c14 c3 _ _ _ _ w14 HH14.out.bytes HW14.out.bytes (by omega)).mono ?_
    rintro e w15 ⟨rfl, hb15⟩
    have HG15 := Lib.hid (HG14.out.keep fun p _ hp => ⟨hb15.cell (by omega), hb15.frozen (by omega)⟩)
    have HB15 := Lib.hid (HB14.out.trans (hb15.mono (by omega)))
    clear hb15
    go_wp2_with fail
    refine (heldByteS_any A6 (ttV ts id).length c6 _ _ 1 w15 HG15.out (by omega) (by omega) (by omega)).mono ?_
    rintro e w15' ⟨rfl, rfl⟩
    go_wp2_with fail
    go_ret
    exact ⟨rfl, HB15.out⟩

end Go.Proofs.YtkmoihkpaccbdaaDoor
