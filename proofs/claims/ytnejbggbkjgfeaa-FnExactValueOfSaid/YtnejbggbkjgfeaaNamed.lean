/-
  The program's Writers: who wrote those by one name.
-/
import Derived.Test.YtnejbggbkjgfeaaThose
namespace Go.Proofs.Ytnejbggbkjgfeaa
open Go.RowKit Go.Maps

set_option maxRecDepth 100000 in
set_option maxHeartbeats 2000000 in
theorem named_any (a b c d : Int) (A : Option Addr) (es : List En) (cap : Nat) (Ab : Option Addr) (l : List UInt8) (cb : Nat) (w : World) (hA : EvsIn w 0 w.heap.size A es) (hn : es.length ≤ 12) (hB : BytesIn w 0 w.heap.size Ab l) :
    Calls Try.prog 73 #[.agg #[.int .i64 a, .int .i64 b, .int .i64 c, .int .i64 d, .slice A es.length cap], .slice Ab l.length cb] w
      fun r w' => ∃ A' c', r = .returned (.slice A' (ofName l es).length c') ∧ EvsIn w' w.heap.size w'.heap.size A' (ofName l es) ∧ Below w.heap.size w w' := by
  have HA := Lib.hid hA
  have HB := Lib.hid hB
  have hmf : ∀ (fn : Fn) (first cap : Array Value) (w : World), (Instr.makeFunc fn first cap).run Try.prog w = .ok (.func fn first cap) w := fun _ _ _ _ => rfl
  clear hA hB
  go_enter Try.func73, Try.ntmps73
  go_wp2_with fail
  obtain ⟨W0, hW0⟩ : ∃ W0, W0 = w.alloc (.cells #[.int .i64 a, .int .i64 b, .int .i64 c, .int .i64 d, .slice A es.length cap] 75) := ⟨_, rfl⟩
  obtain ⟨W, hW⟩ : ∃ W, W = W0.alloc (.cells #[.slice Ab l.length cb] 22) := ⟨_, rfl⟩
  have hz0 : W0.heap.size = w.heap.size + 1 := by rw [hW0]; simp
  have hz : w.heap.size + 1 < W.heap.size := by rw [hW]; simp [hz0]
  have HBel := Lib.hid (show Below w.heap.size w W by rw [hW, hW0]; exact ((Below.refl _ _).alloc (Nat.le_refl _) _).alloc (by simp) _)
  have hp : W.cell? ⟨w.heap.size + 1, 0, none⟩ = some (.slice Ab l.length cb) := by rw [hW, ← hz0]; simp
  have HP := Lib.hid hp
  rw [← hW0, ← hW]
  clear hW hW0 hz0 hp
  refine (those_named a b c d A es cap (w.heap.size + 1) Ab l cb W ((HA.out.below HBel.out).mono (by omega)) hn HP.out ((HB.out.keep fun p _ hp => HBel.out.cell hp).mono (by omega))).mono ?_
  rintro r w1 ⟨A', c', rfl, hev, hb⟩
  have HE := Lib.hid hev
  have HB1 := Lib.hid (HBel.out.trans (hb.mono (by omega)))
  clear hev hb
  go_wp2_with fail
  go_ret
  exact ⟨A', c', rfl, HE.out.low (by omega), HB1.out⟩

/-- Who wrote those by that name. -/
def wrsV (vec : List Int) (es : List En) (l : List UInt8) : List Int := if treeB vec es then (ofName l es).map En.dev else []
theorem treeB_len {vec : List Int} {es : List En} (h : treeB vec es = true) : es.length ≤ 12 := by
  unfold treeB at h
  simp only [Bool.and_eq_true, decide_eq_true_eq] at h
  exact h.1.1.2
theorem wrsV_length (vec : List Int) (es : List En) (l : List UInt8) : (wrsV vec es l).length ≤ 12 := by
  unfold wrsV
  split
  next h => have := treeB_len h; have := ofName_le l es; simp; omega
  next => simp

set_option maxRecDepth 100000 in
set_option maxHeartbeats 4000000 in
theorem implWriters_any (AV : Option Addr) (vec : List Int) (cv : Nat) (A : Option Addr) (es : List En) (c : Nat) (Ab : Option Addr) (l : List UInt8) (cb : Nat) (w : World) (hV : IntsIn w 0 w.heap.size AV vec) (hA : EnsIn w 0 w.heap.size A es) (_hv : vec.length ≤ 1048576) (hn : es.length ≤ 1048576) (hbk : ebulk es ≤ 1048576) (hB : BytesIn w 0 w.heap.size Ab l) (_hl : l.length ≤ 1048576) :
    Calls Try.prog 48 #[.agg #[.slice AV vec.length cv, .slice A es.length c], .slice Ab l.length cb] w (NewIntsFr (wrsV vec es l) w) := by
  have HV := Lib.hid hV
  have HA := Lib.hid hA
  have HB := Lib.hid hB
  have HW := Lib.hid (show wrsV vec es l = if treeB vec es then (ofName l es).map En.dev else [] from rfl)
  have HLen := Lib.hid (@treeB_len vec es)
  clear hV hA hB
  go_enter Try.func48, Try.ntmps48
  go_wp2_with fail
  obtain ⟨W, hW⟩ : ∃ W, W = w.alloc (.cells #[.slice AV vec.length cv, .slice A es.length c] 39) := ⟨_, rfl⟩
  have HBel := Lib.hid (show Below w.heap.size w W by rw [hW]; exact (Below.refl _ _).alloc (Nat.le_refl _) _)
  have hzW : w.heap.size < W.heap.size := by rw [hW]; simp
  rw [← hW]
  clear hW
  refine (readTree_any AV vec cv A es c W ((HV.out.keep fun p _ hp => HBel.out.cell hp).mono (by omega)) ((HA.out.below HBel.out).mono (by omega)) hn hbk).mono ?_
  rintro e w1 ⟨x0, x1, x2, x3, A', n, c', rfl, htr, hb1⟩
  have HB1 := Lib.hid (HBel.out.trans (hb1.mono (by omega)))
  have hz1 := hb1.size
  clear hb1
  obtain ⟨tb, htb⟩ : ∃ tb, tb = treeB vec es := ⟨_, rfl⟩
  rw [← htb] at htr HW HLen ⊢
  clear htb
  cases tb with
  | false =>
    have HN := Lib.hid (show wrsV vec es l = [] by rw [HW.out]; rfl)
    clear htr
    go_wp2_with fail
    go_ret
    rw [HN.out]
    exact .nil (HB1.out.alloc (by omega) _)
  | true =>
  obtain ⟨-, rfl, hev⟩ := htr rfl
  have hl12 := HLen.out rfl
  have HE := Lib.hid hev
  have HN := Lib.hid (show wrsV vec es l = (ofName l es).map En.dev by rw [HW.out]; rfl)
  clear htr hev HW HLen
  go_wp2_with fail
  obtain ⟨W2, hW2⟩ : ∃ W2, W2 = w1.alloc (.cells #[.int .i64 x0, .int .i64 x1, .int .i64 x2, .int .i64 x3, .slice A' es.length c'] 75) := ⟨_, rfl⟩
  have hb2 : Below w1.heap.size w1 W2 := by rw [hW2]; exact (Below.refl _ _).alloc (Nat.le_refl _) _
  have hz2 : w1.heap.size < W2.heap.size := by rw [hW2]; simp
  have HE2 := Lib.hid (HE.out.below hb2)
  have HB2 := Lib.hid (HB1.out.trans (hb2.mono (by omega)))
  rw [← hW2]
  clear hW2 hb2
  refine (named_any x0 x1 x2 x3 A' es c' Ab l cb W2 ((HE2.out.low (by omega)).mono (by omega)) hl12 ((HB.out.keep fun p _ hp => HB2.out.cell hp).mono (by omega))).mono ?_
  rintro r w3 ⟨A3, c3, rfl, hev3, hb3⟩
  obtain ⟨F, hF⟩ : ∃ F, F = ofName l es := ⟨_, rfl⟩
  have hFl : F.length ≤ 12 := by rw [hF]; exact Nat.le_trans (ofName_le _ _) hl12
  rw [← hF] at hev3 HN ⊢
  have HE3 := Lib.hid hev3
  have HB3 := Lib.hid (HB2.out.trans (hb3.mono (by omega)))
  have hz3 := hb3.size
  clear hev3 hb3 hF HE HE2
  go_wp2_with fail
  go_loopw [7, 21] (fun x i wr => ∃ (k : Nat) (B : Option Addr) (cx : Nat), k ≤ F.length ∧ i = .int .i64 k ∧ x = .slice B k cx ∧ wr.ownsRow w3.heap.size 3 1 (.slice B k cx) k (((F.take k).map En.dev).map vint) ∧ Below w3.heap.size w3 wr ∧ w3.heap.size ≤ wr.heap.size) (fun _ i _ => F.length - (intOf i).toNat)
  case atStart => exact ⟨0, none, 0, Nat.zero_le _, rfl, rfl, World.ownsRow_nil _ _ _ _, Below.refl _ _, Nat.le_refl _⟩
  case round =>
    obtain ⟨k, B, cx, hk, rfl, rfl, hown, hbel, hzr⟩ := hrel
    have HOwn := Lib.hid hown
    have HBr := Lib.hid hbel
    clear hown hbel
    by_cases hlt : k < F.length
    · obtain ⟨bA, oA, hAe, _, hbA, hcA⟩ := HE3.out (by omega)
      obtain ⟨c0, c1, c2, c3⟩ := (hcA k hlt).keep (w' := wr) fun o => HBr.out.cell hbA
      obtain ⟨e, he⟩ : ∃ e, e = F[k] := ⟨_, rfl⟩
      rw [← he] at c0 c1 c2 c3
      have HEk := Lib.hid (show (F.take (k + 1)).map En.dev = (F.take k).map En.dev ++ [e.dev] by rw [List.take_succ_eq_append_getElem hlt, List.map_append, ← he]; rfl)
      subst hAe
      clear hcA he
      obtain ⟨n1, v1, d1, m1⟩ := e
      simp only at c0 c1 c2 c3
      have hlt' : (k : Int) < (F.length : Int) := by omega
      obtain ⟨i0, hi, hz0, hz1', hz2'⟩ := info_parts Try.infoInt
      go_wp2_with (at_builtin; refine wpList_append_own _ rfl _ _ 26 rfl w3.heap.size 3 i0 (.int .i64 0) 1 8 Try.underlying26 hi hz0 hz1' hz2' rfl (by decide) _ _ _ rfl ((HOwn.out.alloc _).alloc _) ⟨wr.heap.size + 1, 0, none⟩ 1 1 [.int .i64 d1] rfl rfl ?c1 ?c2 ?c3 ?c4 ?c5 ?_)
      case c2 => first | rfl | (intro u hu; simp at hu; subst hu; rfl)
      case c3 => unfold maxLen; omega
      case c4 => omega
      case c5 => omega
      intro v' w5 hrow5 hgr5 _
      obtain ⟨A5, c5, rfl⟩ := row_shape hrow5
      have HRow5 := Lib.hid hrow5
      have HB5 := Lib.hid (((HBr.out.alloc hzr (.cells #[.string ⟨n1.toArray⟩, .int .i64 v1, .int .i64 d1, .int .i64 m1] 83)).alloc (by simp; omega) (.cells #[.int .i64 d1] 3)).grown hgr5 (by simp; omega) (fun g hg => (HOwn.out.lt g hg).1))
      have hz5 : wr.heap.size + 1 + 1 ≤ w5.heap.size := by simpa using hgr5.size
      clear hrow5 hgr5
      go_wp2_with fail
      go_roundw
      case rel =>
        refine ⟨k + 1, A5, c5, by omega, by go_num, rfl, ?_, HB5.out, by omega⟩
        have := HRow5.out
        rw [HEk.out]
        simpa [vint] using this
      case measure => simp [intOf]; omega
    · have hke : k = F.length := by omega
      have HR := Lib.hid (show NewIntsFr (wrsV vec es l) w (.returned (.slice B k cx)) wr from by
        subst hke
        rw [HN.out]
        have h := HOwn.out
        rw [List.take_length] at h
        have hlen : (F.map En.dev).length = F.length := by simp
        refine ⟨B, cx, by rw [hlen], (ints_of_row (by rw [hlen]; exact h)).low (by omega), HB3.out.trans (HBr.out.mono (by omega))⟩)
      go_wp2_with fail
      go_ret
      exact HR.out

end Go.Proofs.Ytnejbggbkjgfeaa
