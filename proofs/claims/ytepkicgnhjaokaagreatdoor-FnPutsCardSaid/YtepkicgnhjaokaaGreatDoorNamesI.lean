/-
  How many names the program's NamesOf gives; the program's Copies.
-/
import Derived.Test.YtepkicgnhjaokaaGreatDoorStart
namespace Go.Proofs.YtepkicgnhjaokaaGreatDoor
open Go.RowKit Go.Maps

theorem Tryz.infoBs : (Tryz.prog.info? 22).map (fun i => (i.zero, i.size, i.bytes)) = some (some (.slice none 0 0), 1, 24) := by kernel_rfl

/-- As many slices, new or none. -/
def NmLen (n : Nat) (w : World) (e : Ending) (w' : World) : Prop := ∃ A' c', e = .returned (.slice A' n c') ∧ Below w.heap.size w w'

theorem below_bytes (w : World) (e : TypeId) (s : ByteArray) : Below w.heap.size w (Lib.bytesWorld w e s) :=
  ⟨rfl, rfl, rfl, by rw [Lib.bytesWorld_size]; omega, fun k hk => Lib.bytesWorld_at_old w e s k hk⟩

set_option maxRecDepth 100000 in
set_option maxHeartbeats 4000000 in
theorem implNamesLen_any (AV : Option Addr) (vec : List Int) (cv : Nat) (A : Option Addr) (es : List En) (c : Nat) (w : World) (hV : IntsIn w 0 w.heap.size AV vec) (hA : EnsIn w 0 w.heap.size A es) (hn : es.length ≤ 1048576) (hbk : ebulk es ≤ 1048576) :
    Calls Tryz.prog 26 #[.agg #[.slice AV vec.length cv, .slice A es.length c]] w (NmLen (if treeB vec es then nmC es es.length else 0) w) := by
  have HV := Lib.hid hV
  have HA := Lib.hid hA
  have HLen := Lib.hid (@treeB_len' vec es)
  obtain ⟨N, hN⟩ : ∃ N, N = (if treeB vec es then nmC es es.length else 0) := ⟨_, rfl⟩
  have HN := Lib.hid hN
  rw [← hN]
  clear hN
  clear hV hA
  go_enter Tryz.func26, Tryz.ntmps26
  go_wp2_with fail
  obtain ⟨W, hW⟩ : ∃ W, W = w.alloc (.cells #[.slice AV vec.length cv, .slice A es.length c] 26) := ⟨_, rfl⟩
  have HBel := Lib.hid (show Below w.heap.size w W by rw [hW]; exact (Below.refl _ _).alloc (Nat.le_refl _) _)
  have hzW : w.heap.size < W.heap.size := by rw [hW]; simp
  rw [← hW]
  clear hW
  refine (readTree_any AV vec cv A es c W ((HV.out.keep fun p _ hp => HBel.out.cell hp).mono (by omega)) ((HA.out.below HBel.out).mono (by omega)) hn hbk).mono ?_
  rintro e w1 ⟨x0, x1, x2, x3, A', n, c', rfl, htr, hb1⟩
  have HB1 := Lib.hid (HBel.out.trans (hb1.mono (by omega)))
  have hz1 := hb1.size
  clear hb1
  obtain ⟨tb, htb⟩ : ∃ tb, tb = treeB vec es := ⟨_, rfl⟩
  rw [← htb] at htr HLen HN ⊢
  clear htb
  cases tb with
  | false =>
    have HN0 := Lib.hid (show N = 0 from HN.out)
    clear htr
    go_wp2_with fail
    go_ret
    exact ⟨none, 0, by rw [HN0.out]; rfl, HB1.out.alloc (by omega) _⟩
  | true =>
  obtain ⟨-, rfl, hev⟩ := htr rfl
  have hl12 := HLen.out rfl
  have HE := Lib.hid hev
  clear htr hev HLen
  go_wp2_with fail
  obtain ⟨W2, hW2⟩ : ∃ W2, W2 = w1.alloc (.cells #[.int .i64 x0, .int .i64 x1, .int .i64 x2, .int .i64 x3, .slice A' es.length c'] 66) := ⟨_, rfl⟩
  have HX := Lib.hid (show Bx W2 w1.heap.size [.int .i64 x0, .int .i64 x1, .int .i64 x2, .int .i64 x3, .slice A' es.length c'] by rw [hW2]; exact Bx.new' _ _ _ _ rfl)
  have hb2 : Below w1.heap.size w1 W2 := by rw [hW2]; exact (Below.refl _ _).alloc (Nat.le_refl _) _
  have hz2 : w1.heap.size < W2.heap.size := by rw [hW2]; simp
  have HE2 := Lib.hid ((HE.out.below hb2).mono (Nat.le_of_lt hz2))
  have HB2 := Lib.hid (HB1.out.trans (hb2.mono (by omega)))
  rw [← hW2]
  clear hW2 hb2 HE
  go_loopw [5, 18] (fun x i wr => ∃ (k : Nat) (B : Option Addr) (cx : Nat) (vs : List Value), k ≤ es.length ∧ i = .int .i64 k ∧ x = .slice B (nmC es k) cx ∧ wr.ownsRow W2.heap.size 22 1 (.slice B (nmC es k) cx) (nmC es k) vs ∧ Below W2.heap.size W2 wr ∧ W2.heap.size ≤ wr.heap.size) (fun _ i _ => es.length - (intOf i).toNat)
  case atStart => exact ⟨0, none, 0, [], Nat.zero_le _, rfl, rfl, World.ownsRow_nil _ _ _ _, Below.refl _ _, Nat.le_refl _⟩
  case round =>
    obtain ⟨k, B, cx, vs, hk, rfl, rfl, hown, hbel, hzr⟩ := hrel
    have HOwn := Lib.hid hown
    have HBr := Lib.hid hbel
    have HEr := Lib.hid ((HE2.out.below hbel).mono hzr)
    clear hown hbel
    by_cases hlt : k < es.length
    · obtain ⟨bA, oA, hAe, hLA, hbA, hcA⟩ := HE2.out (by omega)
      obtain ⟨c0, c1, c2, c3⟩ := (hcA k hlt).keep (w' := wr) fun o => HBr.out.cell hbA
      obtain ⟨e, he⟩ : ∃ e, e = es[k] := ⟨_, rfl⟩
      rw [← he] at c0 c1 c2 c3
      have HS := Lib.hid (nmC_succ es k)
      have hkl := nmC_le es k
      obtain ⟨F, hF⟩ : ∃ F, F = nmC es k := ⟨_, rfl⟩
      rw [← hF] at HS hkl HOwn ⊢
      subst hAe
      clear hcA he hF
      obtain ⟨n1, v1, d1, m1⟩ := e
      simp only at c0 c1 c2 c3
      have q0 := (HBr.out.cell (p := ⟨w1.heap.size, 0, none⟩) hz2).trans (HX.out 0 (by simp))
      have q1 := (HBr.out.cell (p := ⟨w1.heap.size, 1, none⟩) hz2).trans (HX.out 1 (by simp))
      have q2 := (HBr.out.cell (p := ⟨w1.heap.size, 2, none⟩) hz2).trans (HX.out 2 (by simp))
      have q3 := (HBr.out.cell (p := ⟨w1.heap.size, 3, none⟩) hz2).trans (HX.out 3 (by simp))
      have q4 := (HBr.out.cell (p := ⟨w1.heap.size, 4, none⟩) hz2).trans (HX.out 4 (by simp))
      simp only [List.getElem_cons_succ, List.getElem_cons_zero] at q0 q1 q2 q3 q4
      have lq : w1.heap.size < wr.heap.size := by omega
      have hlt' : (k : Int) < (es.length : Int) := by omega
      go_wp2_with fail
      obtain ⟨W7, hW7⟩ : ∃ W7, W7 = wr.alloc (.cells #[.string ⟨n1.toArray⟩, .int .i64 v1, .int .i64 d1, .int .i64 m1] 74) := ⟨_, rfl⟩
      have HZ7 := Lib.hid (show Bx W7 wr.heap.size [.string ⟨n1.toArray⟩, .int .i64 v1, .int .i64 d1, .int .i64 m1] by rw [hW7]; exact Bx.new' _ _ _ _ rfl)
      have HB7 := Lib.hid (show Below wr.heap.size wr W7 by rw [hW7]; exact (Below.refl _ _).alloc (Nat.le_refl _) _)
      have hz7 : wr.heap.size < W7.heap.size := by rw [hW7]; simp
      rw [← hW7]
      clear hW7 c0 c1 c2 c3 q0 q1 q2 q3 q4
      refine (startsName_any x0 x1 x2 x3 (some ⟨bA, oA, none⟩) es c' k W7 (((HEr.out.below HB7.out).low (by omega)).mono (by omega)) hlt hl12).mono ?_
      rintro r w8 ⟨rfl, hb8⟩
      have HZ8 := Lib.hid (HZ7.out.below hb8 hz7)
      have HB8 := Lib.hid (HB7.out.trans (hb8.mono (by omega)))
      have hz8 := hb8.size
      clear hb8
      cases hq : stB es k with
      | false =>
        have HS2 := Lib.hid (show nmC es (k + 1) = F by rw [HS.out, hq]; simp)
        clear hq
        go_wp2_with fail
        go_roundw
        case rel =>
          refine ⟨k + 1, B, cx, vs, by omega, by go_num, by rw [HS2.out], ?_, HBr.out.trans (HB8.out.mono hzr), by omega⟩
          rw [HS2.out]
          exact ownsRow_below HOwn.out HB8.out fun g hg => (HOwn.out.lt g hg).2
        case measure => simp [intOf]; omega
      | true =>
        have HS2 := Lib.hid (show nmC es (k + 1) = F + 1 by rw [HS.out, hq]; simp)
        have z0 := HZ8.out 0 (by simp)
        simp only [List.getElem_cons_zero] at z0
        have HOwn8 := Lib.hid (ownsRow_below HOwn.out HB8.out fun g hg => (HOwn.out.lt g hg).2)
        obtain ⟨i0, hi, hz0, hz1', hz2'⟩ := info_parts Tryz.infoBs
        have hcv := Lib.run_convert_string_bytes (P := Tryz.prog) w8 9 22 5 ⟨n1.toArray⟩ Tryz.underlying9 Tryz.underlying22 Tryz.underlying5
        obtain ⟨W9, hW9⟩ : ∃ W9, W9 = Lib.bytesWorld w8 5 ⟨n1.toArray⟩ := ⟨_, rfl⟩
        obtain ⟨gc, hgc⟩ : ∃ gc, gc = grownCap w8 (ByteArray.size ⟨n1.toArray⟩) 0 5 := ⟨_, rfl⟩
        obtain ⟨ns, hns⟩ : ∃ ns, ns = ByteArray.size ⟨n1.toArray⟩ := ⟨_, rfl⟩
        rw [← hW9, ← hgc, ← hns] at hcv
        have hb9 : Below w8.heap.size w8 W9 := by rw [hW9]; exact below_bytes _ _ _
        have hz9 : w8.heap.size < W9.heap.size := by rw [hW9, Lib.bytesWorld_size]; omega
        have HB9 := Lib.hid (HB8.out.trans (hb9.mono (by omega)))
        have HOwn9 := Lib.hid (ownsRow_below HOwn8.out hb9 fun g hg => (HOwn8.out.lt g hg).2)
        clear hq hW9 hb9 hgc hns
        go_wp2_with (at_builtin; refine wpList_append_own _ rfl _ _ 48 rfl W2.heap.size 22 i0 (.slice none 0 0) 1 24 Tryz.underlying48 hi hz0 hz1' hz2' rfl (by decide) _ _ _ rfl (HOwn9.out.alloc _) ⟨W9.heap.size, 0, none⟩ 1 1 [.slice (some ⟨w8.heap.size, 0, none⟩) ns gc] rfl rfl ?c1 ?c2 ?c3 ?c4 ?c5 ?_)
        case c1 => exact cell_one_new _ _ _
        case c2 => first | rfl | (intro u hu; simp at hu; subst hu; rfl)
        case c3 => unfold maxLen; omega
        case c4 => omega
        case c5 => first | omega | (simp; omega)
        intro v' w5 hrow5 hgr5 _
        obtain ⟨A5, c5, rfl⟩ := row_shapeN hrow5
        have HRow5 := Lib.hid hrow5
        have HB5 := Lib.hid (((HBr.out.trans (HB9.out.mono hzr)).alloc (by omega) (.cells #[.slice (some ⟨w8.heap.size, 0, none⟩) ns gc] 22)).grown hgr5 (by simp; omega) (fun g hg => (HOwn9.out.lt g hg).1))
        have hz5 : W9.heap.size + 1 ≤ w5.heap.size := by simpa using hgr5.size
        clear hrow5 hgr5
        go_wp2_with fail
        go_roundw
        case rel =>
          have hr := HRow5.out
          rw [← HS2.out] at hr
          exact ⟨k + 1, A5, c5, _, by omega, by go_num, by rw [HS2.out], hr, HB5.out, by omega⟩
        case measure => simp [intOf]; omega
    · have hke : k = es.length := by omega
      have HL := Lib.hid (show N = nmC es k by rw [HN.out, hke]; rfl)
      clear hke
      have HO := Lib.hid (HB2.out.trans (HBr.out.mono (by omega)))
      go_wp2_with fail
      go_ret
      exact ⟨B, cx, by rw [HL.out]; rfl, HO.out⟩

set_option maxRecDepth 100000 in
set_option maxHeartbeats 4000000 in
theorem implCopies_any (AV : Option Addr) (vec : List Int) (cv : Nat) (A : Option Addr) (es : List En) (c : Nat) (w : World) (hV : IntsIn w 0 w.heap.size AV vec) (hA : EnsIn w 0 w.heap.size A es) (hv : vec.length ≤ 1048576) (hn : es.length ≤ 1048576) (hbk : ebulk es ≤ 1048576) :
    Calls Tryz.prog 27 #[.agg #[.slice AV vec.length cv, .slice A es.length c]] w fun e w' => e = .returned (.int .i64 (cpV vec es)) ∧ Below w.heap.size w w' := by
  have HV := Lib.hid hV
  have HA := Lib.hid hA
  have HC := Lib.hid (show cpV vec es = if treeB vec es then (es.length : Int) - (nmC es es.length : Nat) else -1 from rfl)
  clear hV hA
  go_enter Tryz.func27, Tryz.ntmps27
  go_wp2_with fail
  obtain ⟨W, hW⟩ : ∃ W, W = w.alloc (.cells #[.slice AV vec.length cv, .slice A es.length c] 26) := ⟨_, rfl⟩
  have HX := Lib.hid (show Bx W w.heap.size [.slice AV vec.length cv, .slice A es.length c] by rw [hW]; exact Bx.new' _ _ _ _ rfl)
  have HBel := Lib.hid (show Below w.heap.size w W by rw [hW]; exact (Below.refl _ _).alloc (Nat.le_refl _) _)
  have hzW : w.heap.size < W.heap.size := by rw [hW]; simp
  rw [← hW]
  clear hW
  refine (implTreeOk_any AV vec cv A es c W ((HV.out.keep fun p _ hp => HBel.out.cell hp).mono (by omega)) ((HA.out.below HBel.out).mono (by omega)) hv hn hbk).mono ?_
  rintro e w1 ⟨rfl, hb1⟩
  have HB1 := Lib.hid (HBel.out.trans (hb1.mono (by omega)))
  have hz1 := hb1.size
  have HX1 := Lib.hid (HX.out.below hb1 hzW)
  clear hb1
  have hnl := fun (x : World) (hV : IntsIn x 0 x.heap.size AV vec) (hA : EnsIn x 0 x.heap.size A es) => implNamesLen_any AV vec cv A es c x hV hA hn hbk
  obtain ⟨tb, htb⟩ : ∃ tb, tb = treeB vec es := ⟨_, rfl⟩
  rw [← htb] at HC hnl ⊢
  clear htb
  cases tb with
  | false =>
    have HN := Lib.hid (show cpV vec es = -1 by rw [HC.out]; rfl)
    clear hnl
    go_wp2_with fail
    go_ret
    exact ⟨ret_int (a := -1) HN.out.symm, HB1.out⟩
  | true =>
  obtain ⟨N, hN⟩ : ∃ N, N = nmC es es.length := ⟨_, rfl⟩
  have hNl : N ≤ es.length := by rw [hN]; exact nmC_le _ _
  have HN := Lib.hid (show cpV vec es = (es.length : Int) - (N : Nat) by rw [HC.out, hN]; rfl)
  rw [if_pos rfl, ← hN] at hnl
  clear hN
  have x0 := HX1.out 0 (by simp)
  have x1 := HX1.out 1 (by simp)
  simp only [List.getElem_cons_succ, List.getElem_cons_zero] at x0 x1
  have HNl := Lib.hid hnl
  have hVi := (HV.out.keep fun p _ hp => HB1.out.cell hp : IntsIn w1 0 w.heap.size AV vec)
  have hEi := (HA.out.keep fun p _ hp => HB1.out.cell hp : EnsIn w1 0 w.heap.size A es)
  have HVi := Lib.hid (hVi.mono (show w.heap.size ≤ w1.heap.size by omega))
  have HEi := Lib.hid (hEi.mono (show w.heap.size ≤ w1.heap.size by omega))
  have lw : w.heap.size < w1.heap.size := by omega
  clear hnl hVi hEi
  go_wp2_with fail
  go_region_held3 (fun X => X.cell? ⟨w.heap.size, 0, none⟩ = some (.slice AV vec.length cv) ∧ X.cell? ⟨w.heap.size, 1, none⟩ = some (.slice A es.length c))
    (first | with_reducible exact ⟨x0, x1⟩ | with_reducible exact ⟨s0, s1⟩ | with_reducible exact ⟨(cell_drew _ _).trans x0, (cell_drew _ _).trans x1⟩)
    (first
      | (go_at_call 26
         refine (HNl.out _ ?_ ?_).mono ?_
         · exact HVi.out.keep fun p _ hp => rfl
         · exact HEi.out.keep fun p _ hp => rfl
         rintro r wt ⟨A2, c2, rfl, hbt⟩
         have hbrt : Below w1.heap.size w1 wt := by first | with_reducible exact hbt | exact (Below.refl w1.heap.size w1).drew.trans hbt
         have s0 := (hbrt.cell (p := ⟨w.heap.size, 0, none⟩) lw).trans x0
         have s1 := (hbrt.cell (p := ⟨w.heap.size, 1, none⟩) lw).trans x1
         have HRt := Lib.hid (HB1.out.trans (hbrt.mono (by omega)))
         clear hbrt hbt))
  go_wp2_with fail
  go_ret
  exact ⟨ret_int ((IntWalk.i64_in _ (by omega)).trans HN.out.symm), HRt.out⟩

end Go.Proofs.YtepkicgnhjaokaaGreatDoor
