/-
  ValueOf: the value of the first by a name. The model's and the program's.
-/
import Derived.Test.YtnejbggbkjgfeaaWriters
namespace Go.Proofs.Ytnejbggbkjgfeaa
open Go.RowKit Go.Maps

def firstV : List En → Int
  | [] => 0
  | e :: _ => e.val
def valI (vec : List Int) (es : List En) (l : List UInt8) : Int := if treeB vec es then firstV (ofName l es) else 0
def valK (vec : List Int) (es : List En) (l : List UInt8) : Bool := treeB vec es && decide (0 < (ofName l es).length)

set_option maxRecDepth 100000 in
set_option maxHeartbeats 4000000 in
theorem implValueOf_any (AV : Option Addr) (vec : List Int) (cv : Nat) (A : Option Addr) (es : List En) (c : Nat) (Ab : Option Addr) (l : List UInt8) (cb : Nat) (w : World) (hV : IntsIn w 0 w.heap.size AV vec) (hA : EnsIn w 0 w.heap.size A es) (_hv : vec.length ≤ 1048576) (hn : es.length ≤ 1048576) (hbk : ebulk es ≤ 1048576) (hB : BytesIn w 0 w.heap.size Ab l) (_hl : l.length ≤ 1048576) :
    Calls Try.prog 46 #[.agg #[.slice AV vec.length cv, .slice A es.length c], .slice Ab l.length cb] w fun e w' => e = .returned (.tuple #[.int .i64 (valI vec es l), .bool (valK vec es l)]) ∧ Below w.heap.size w w' := by
  have HV := Lib.hid hV
  have HA := Lib.hid hA
  have HB := Lib.hid hB
  have HI := Lib.hid (show valI vec es l = if treeB vec es then firstV (ofName l es) else 0 from rfl)
  have HK := Lib.hid (show valK vec es l = (treeB vec es && decide (0 < (ofName l es).length)) from rfl)
  have HLen := Lib.hid (@treeB_len vec es)
  clear hV hA hB
  go_enter Try.func46, Try.ntmps46
  go_wp2_with fail
  obtain ⟨W, hW⟩ : ∃ W, W = w.alloc (.cells #[.slice AV vec.length cv, .slice A es.length c] 39) := ⟨_, rfl⟩
  have HBel := Lib.hid (show Below w.heap.size w W by rw [hW]; exact (Below.refl _ _).alloc (Nat.le_refl _) _)
  have hzW : w.heap.size < W.heap.size := by rw [hW]; simp
  rw [← hW]
  clear hW
  refine (readTree_any AV vec cv A es c W ((HV.out.keep fun p _ hp => HBel.out.cell hp).mono (by omega)) ((HA.out.below HBel.out).mono (by omega)) hn hbk).mono ?_
  rintro e w1 ⟨x0, x1, x2, x3, A', n, c', rfl, htr, hb1⟩
  have HB1 := Lib.hid (HBel.out.trans (hb1.mono (by omega)))
  have hz1 := hb1.size
  clear hb1
  obtain ⟨tb, htb⟩ : ∃ tb, tb = treeB vec es := ⟨_, rfl⟩
  rw [← htb] at htr HI HK HLen ⊢
  clear htb
  cases tb with
  | false =>
    have HN := Lib.hid (show valI vec es l = 0 by rw [HI.out]; rfl)
    have HM := Lib.hid (show valK vec es l = false by rw [HK.out]; rfl)
    clear htr
    go_wp2_with fail
    refine bodyPost_ret (v := .tuple #[.int .i64 0, .bool false]) (by simp [results, Try.results46, go_sem]) rfl ?_
    exact ⟨by rw [HN.out, HM.out], HB1.out.alloc (by omega) _⟩
  | true =>
  obtain ⟨-, rfl, hev⟩ := htr rfl
  have hl12 := HLen.out rfl
  have HE := Lib.hid hev
  have HN := Lib.hid (show valI vec es l = firstV (ofName l es) by rw [HI.out]; rfl)
  have HM := Lib.hid (show valK vec es l = decide (0 < (ofName l es).length) by rw [HK.out]; simp)
  clear htr hev HI HK HLen
  go_wp2_with fail
  obtain ⟨W2, hW2⟩ : ∃ W2, W2 = w1.alloc (.cells #[.int .i64 x0, .int .i64 x1, .int .i64 x2, .int .i64 x3, .slice A' es.length c'] 75) := ⟨_, rfl⟩
  have hb2 : Below w1.heap.size w1 W2 := by rw [hW2]; exact (Below.refl _ _).alloc (Nat.le_refl _) _
  have hz2 : w1.heap.size < W2.heap.size := by rw [hW2]; simp
  have HE2 := Lib.hid (HE.out.below hb2)
  have HB2 := Lib.hid (HB1.out.trans (hb2.mono (by omega)))
  rw [← hW2]
  clear hW2 hb2
  refine (named_any x0 x1 x2 x3 A' es c' Ab l cb W2 ((HE2.out.low (by omega)).mono (by omega)) hl12 ((HB.out.keep fun p _ hp => HB2.out.cell hp).mono (by omega))).mono ?_
  rintro r w3 ⟨A3, c3, rfl, hev3, hb3⟩
  obtain ⟨F, hF⟩ : ∃ F, F = ofName l es := ⟨_, rfl⟩
  have hFl : F.length ≤ 12 := by rw [hF]; exact Nat.le_trans (ofName_le _ _) hl12
  rw [← hF] at hev3 HN HM ⊢
  have HE3 := Lib.hid hev3
  have HB3 := Lib.hid (HB2.out.trans (hb3.mono (by omega)))
  have hz3 := hb3.size
  clear hev3 hb3 hF HE HE2
  cases F with
  | nil =>
    go_wp2_with fail
    refine bodyPost_ret (v := .tuple #[.int .i64 0, .bool false]) (by simp [results, Try.results46, go_sem]) rfl ?_
    exact ⟨by rw [HN.out, HM.out]; rfl, HB3.out⟩
  | cons f fs =>
    obtain ⟨bA, oA, hAe, _, hbA, hcA⟩ := HE3.out (by simp)
    obtain ⟨_, c1, _, _⟩ := hcA 0 (by simp)
    simp only [List.getElem_cons_zero, Nat.zero_mul, Nat.add_zero] at c1
    subst hAe
    have hne : ((((f :: fs).length : Nat) : Int) == 0) = false := by have hp : 0 < (f :: fs).length := Nat.succ_pos _; rw [beq_eq_false_iff_ne]; omega
    have hpo : 0 < (f :: fs).length := by simp
    have hpos : (0 : Int) < (((f :: fs).length : Nat) : Int) := by omega
    obtain ⟨m, hm⟩ : ∃ m, m = (f :: fs).length := ⟨_, rfl⟩
    have HM2 := Lib.hid (show valK vec es l = true by rw [HM.out]; simp)
    rw [← hm] at hne hpos ⊢
    clear hcA hm HM
    go_wp2_with fail
    refine bodyPost_ret (v := .tuple #[.int .i64 f.val, .bool true]) (by simp [results, Try.results46, go_sem]) rfl ?_
    exact ⟨by rw [HN.out, HM2.out]; rfl, HB3.out⟩

set_option maxRecDepth 100000 in
set_option maxHeartbeats 4000000 in
theorem specValueOf_any (AV : Option Addr) (vec : List Int) (cv : Nat) (A : Option Addr) (es : List En) (c : Nat) (Ab : Option Addr) (l : List UInt8) (cb : Nat) (w : World) (hV : IntsIn w 0 w.heap.size AV vec) (hA : EnsIn w 0 w.heap.size A es) (hv : vec.length ≤ 1048576) (hn : es.length ≤ 1048576) (hbk : ebulk es ≤ 1048576) (hB : BytesIn w 0 w.heap.size Ab l) (_hl : l.length ≤ 1048576) (hc : es.length ≤ c := by omega) :
    Calls Try.prog 45 #[.agg #[.slice AV vec.length cv, .slice A es.length c], .slice Ab l.length cb] w fun e w' => e = .returned (.tuple #[.int .i64 (valI vec es l), .bool (valK vec es l)]) ∧ Below w.heap.size w w' := by
  have HV := Lib.hid hV
  have HA := Lib.hid hA
  have HB := Lib.hid hB
  have HI := Lib.hid (show valI vec es l = if treeB vec es then firstV (ofName l es) else 0 from rfl)
  have HK := Lib.hid (show valK vec es l = (treeB vec es && decide (0 < (ofName l es).length)) from rfl)
  have HLen := Lib.hid (@treeB_len vec es)
  clear hV hA hB
  go_enter Try.func45, Try.ntmps45
  go_wp2_with fail
  obtain ⟨W, hW⟩ : ∃ W, W = w.alloc (.cells #[.slice AV vec.length cv, .slice A es.length c] 39) := ⟨_, rfl⟩
  have HX := Lib.hid (show Bx W w.heap.size [.slice AV vec.length cv, .slice A es.length c] by rw [hW]; exact Bx.new' _ _ _ _ rfl)
  have HBel := Lib.hid (show Below w.heap.size w W by rw [hW]; exact (Below.refl _ _).alloc (Nat.le_refl _) _)
  have hzW : w.heap.size < W.heap.size := by rw [hW]; simp
  rw [← hW]
  clear hW
  refine (specTreeOk_any AV vec cv A es c W ((HV.out.keep fun p _ hp => HBel.out.cell hp).mono (by omega)) ((HA.out.below HBel.out).mono (by omega)) hv hn hbk hc).mono ?_
  rintro e w1 ⟨rfl, hb1⟩
  have HB1 := Lib.hid (HBel.out.trans (hb1.mono (by omega)))
  have HX1 := Lib.hid (HX.out.below hb1 hzW)
  have hz1 := hb1.size
  clear hb1
  obtain ⟨tb, htb⟩ : ∃ tb, tb = treeB vec es := ⟨_, rfl⟩
  rw [← htb] at HI HK HLen ⊢
  clear htb
  cases tb with
  | false =>
    have HN := Lib.hid (show valI vec es l = 0 by rw [HI.out]; rfl)
    have HM := Lib.hid (show valK vec es l = false by rw [HK.out]; rfl)
    go_wp2_with fail
    refine bodyPost_ret (v := .tuple #[.int .i64 0, .bool false]) (by simp [results, Try.results45, go_sem]) rfl ?_
    exact ⟨by rw [HN.out, HM.out], HB1.out⟩
  | true =>
  have hl12 := HLen.out rfl
  have HN := Lib.hid (show valI vec es l = firstV (ofName l es) by rw [HI.out]; rfl)
  have HM := Lib.hid (show valK vec es l = decide (0 < (ofName l es).length) by rw [HK.out]; simp)
  clear HI HK HLen
  go_wp2_with fail
  go_loopw [6] (fun i wr => ∃ (k : Nat), k ≤ es.length ∧ i = .int .i64 k ∧ ofName l (es.take k) = [] ∧ Below w1.heap.size w1 wr ∧ w1.heap.size ≤ wr.heap.size) (fun i _ => es.length - (intOf i).toNat)
  case atStart => exact ⟨0, Nat.zero_le _, rfl, rfl, Below.refl _ _, Nat.le_refl _⟩
  case round =>
    obtain ⟨k, hk, rfl, hnone, hbel, hzr⟩ := hrel
    have HNone := Lib.hid hnone
    have HBr := Lib.hid hbel
    have x1 := (HBr.out.cell (p := ⟨w.heap.size, 1, none⟩) (by show w.heap.size < w1.heap.size; omega)).trans (HX1.out 1 (by simp))
    simp only [List.getElem_cons_succ, List.getElem_cons_zero] at x1
    clear hnone hbel
    by_cases hlt : k < es.length
    · have HO := Lib.hid (show Below w.heap.size w wr from HB1.out.trans (HBr.out.mono (by omega)))
      obtain ⟨bA, oA, hAe, _, hbA, hcA⟩ := HA.out (by omega)
      obtain ⟨An, cn, c0, c2, _, _, hby⟩ := (hcA k hlt).keep (Nat.zero_le _) hbA (fun p _ hp => HO.out.cell hp)
      obtain ⟨e, he⟩ : ∃ e, e = es[k] := ⟨_, rfl⟩
      have hnl := name_le_ebulk es k hlt
      rw [← he] at c0 c2 hby hnl
      have HS := Lib.hid (ofName_succ l es k hlt)
      rw [← he] at HS
      rw [HNone.out] at HS
      have HBy := Lib.hid hby
      subst hAe
      clear hcA he hby
      obtain ⟨n1, v1, d1, m1⟩ := e
      simp only at c0 c2 hnl
      have hlt' : (k : Int) < (es.length : Int) := by omega
      have C2 := Lib.hid c2
      have X1 := Lib.hid x1
      have g0 := fun x : Kp wr => x.cell c0
      have g1 := fun x : Kp wr => x.cell x1
      have k1 := fun x : Kp wr => run_str (w := x.val) (HBy.out.keep fun p _ hp => x.ok.cell (by omega)) cn
      have k2 := fun x : Kp wr => run_str (w := x.val) (HB.out.keep fun p _ hp => (x.ok.cell (by omega)).trans (HO.out.cell hp)) cb
      clear c0 c2
      cases hq : (n1 == l) with
      | false =>
        have HS2 := Lib.hid (show ofName l (es.take (k + 1)) = [] by rw [HS.out]; simp [hq])
        go_wp2_with fail
        refine wp_region_kept (by kernel_rfl) (by kernel_rfl) ?_
        repeat (go_big_quiet_step (fail))
        refine wpQuiet_nil ?_
        rintro _ ⟨x, rfl⟩
        clear k1 k2 g0 g1 x1
        obtain ⟨w7, hw7⟩ : ∃ w7, w7 = x.val := ⟨_, rfl⟩
        have HB7 := Lib.hid (show Below wr.heap.size wr w7 by rw [hw7]; exact x.ok)
        rw [← hw7]
        clear hw7 x
        have hz7 := HB7.out.size
        go_wp2_with fail
        go_roundw
        case rel =>
          exact ⟨k + 1, by omega, by go_num, HS2.out, HBr.out.trans (HB7.out.mono hzr), by omega⟩
        case measure => simp [intOf]; omega
      | true =>
        have hsp := List.take_append_drop (k + 1) es
        have HF := Lib.hid (show ofName l es = ⟨n1, v1, d1, m1⟩ :: ofName l (es.drop (k + 1)) by
          have h1 : ofName l es = ofName l (es.take (k + 1)) ++ ofName l (es.drop (k + 1)) := by
            unfold ofName
            rw [← List.filter_append, hsp]
          rw [h1, HS.out]
          simp [hq])
        have HI2 := Lib.hid (show valI vec es l = v1 by rw [HN.out, HF.out]; rfl)
        have HK2 := Lib.hid (show valK vec es l = true by rw [HM.out, HF.out]; simp)
        clear hsp HS HF
        go_wp2_with fail
        refine wp_region_kept (by kernel_rfl) (by kernel_rfl) ?_
        repeat (go_big_quiet_step (fail))
        refine wpQuiet_nil ?_
        rintro _ ⟨x, rfl⟩
        clear k1 k2 g0 g1 x1
        obtain ⟨w7, hw7⟩ : ∃ w7, w7 = x.val := ⟨_, rfl⟩
        have HB7 := Lib.hid (show Below wr.heap.size wr w7 by rw [hw7]; exact x.ok)
        rw [← hw7]
        clear hw7 x
        have hz7 := HB7.out.size
        have c2 := (HB7.out.cell (p := ⟨bA, oA + k * 4 + 1, none⟩) (by show bA < wr.heap.size; omega)).trans C2.out
        have x1 := (HB7.out.cell (p := ⟨w.heap.size, 1, none⟩) (by show w.heap.size < wr.heap.size; omega)).trans X1.out
        go_wp2_with fail
        refine bodyPost_ret (v := .tuple #[.int .i64 v1, .bool true]) (by simp [results, Try.results45, go_sem]) rfl ?_
        exact ⟨by rw [HI2.out, HK2.out], HO.out.trans (HB7.out.mono (by omega))⟩
    · have hke : k = es.length := by omega
      have hnn := HNone.out
      rw [hke, List.take_length] at hnn
      have HI2 := Lib.hid (show valI vec es l = 0 by rw [HN.out, hnn]; rfl)
      have HK2 := Lib.hid (show valK vec es l = false by rw [HM.out, hnn]; rfl)
      clear hnn hke
      go_wp2_with fail
      refine bodyPost_ret (v := .tuple #[.int .i64 0, .bool false]) (by simp [results, Try.results45, go_sem]) rfl ?_
      exact ⟨by rw [HI2.out, HK2.out], HB1.out.trans (HBr.out.mono (by omega))⟩

end Go.Proofs.Ytnejbggbkjgfeaa
