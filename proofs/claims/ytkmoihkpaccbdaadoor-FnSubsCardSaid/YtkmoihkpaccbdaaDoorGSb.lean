/-
  Several texts in one: Laid, Sbp, Sbw.
-/
import Derived.Test.YtkmoihkpaccbdaaDoorRows
import Derived.Test.YtkmoihkpaccbdaaDoorArgs
import Derived.LaidMore
import Derived.OpenShut
import Derived.Stop.Joined
import Derived.Lib.LaidTab
import Derived.Lib.AppendIntMem
import Derived.Test.YtkmoihkpaccbdaaDoorGFo
import Derived.Test.YtkmoihkpaccbdaaDoorSubterms
import Derived.Test.YtkmoihkpaccbdaaDoorDepth
import Derived.Test.YtkmoihkpaccbdaaDoorGTxt
import Derived.Test.YtkmoihkpaccbdaaDoorKept
namespace Go.Proofs.YtkmoihkpaccbdaaDoor
open Go.ChangeShapes Go.WideShapes Go.ChangeAt Go.RowKit

/-- The three tables. -/
def laid3 : List (String × DataW Unit) := [("math/bits.deBruijn32tab", Rows.laid_math_bits_deBruijn32tab), ("math/bits.deBruijn64tab", Rows.laid_math_bits_deBruijn64tab), ("internal/strconv.uint64pow10", Rows.laid_internal_strconv_uint64pow10)]

theorem pow10_data : (Rows.laid_internal_strconv_uint64pow10 : DataW Unit) = Lib.tabData .u64 Lib.pow10Tab := by rfl

theorem door_met (os : Os) (args : Array Value) : laidMetH Tryd.prog laid3 ((World.doorLaid Tryd.prog 24 os).forCall (fun _ _ => 0) ⟨#[], args, []⟩).memory :=
  laidMetH_of_parts3 (fuel := 8) (laidMet_of_run' 8 (by kernel_rfl) (by kernel_rfl)) (by kernel_rfl) (by kernel_rfl)

theorem pow10_of_laid {W : World} (h : laidMetH Tryd.prog laid3 W) : Lib.TabIs Tryd.prog W "internal/strconv.uint64pow10" .u64 Lib.pow10Tab := by
  rw [MakeChecks.laidMetH_plain _ _ _ (by kernel_rfl)] at h
  obtain ⟨ps, ⟨g0, t0, cs0, f0, p0, q0, hg0, ht0, hv0, hd0, ⟨g1, t1, cs1, f1, p1, q1, hg1, ht1, hv1, hd1, ⟨g2, t2, cs2, f2, p2, q2, hg2, ht2, hv2, hd2, _, _⟩, _⟩, _⟩, _⟩ := h
  have hg : Tryd.prog.globalNamed "internal/strconv.uint64pow10" = some 0 := by kernel_rfl
  have hty : (Tryd.prog.globals[0]?).map (·.type) = some 141 := by kernel_rfl
  obtain rfl := Option.some.inj (hg.symm.trans hg2)
  obtain rfl := Option.some.inj (hty.symm.trans ht2)
  rw [pow10_data] at hd2
  unfold Lib.TabIs
  rw [hv2, ← Lib.cells_of_tab (e := 124) (n := 20) (by kernel_rfl) (by kernel_rfl) (by kernel_rfl) (by kernel_rfl) hd2]

end Go.Proofs.YtkmoihkpaccbdaaDoor

namespace Go.Proofs.YtkmoihkpaccbdaaDoor
open Go.RowKit Go.Maps

theorem reach_trans {ts : List Tm} {a b c : Nat} (h : Reach ts a b) (k : Reach ts b c) : Reach ts a c := by
  induction h with
  | refl a => exact k
  | head hp _ ih => exact .head hp (ih k)

theorem depths_more (ts : List Tm) (k m j : Nat) (hj : j < k) (hk : k ≤ m) : (depths ts m).getD j 0 = (depths ts k).getD j 0 := by
  induction m with
  | zero => omega
  | succ m ih =>
    by_cases e : k = m + 1
    · rw [e]
    · rw [← ih (by omega)]
      simp only [depths]
      rw [List.getD_eq_getElem?_getD, List.getD_eq_getElem?_getD, List.getElem?_append_left (by rw [depths_length]; omega)]

/-- How deep term j is. -/
def dep (ts : List Tm) (j : Nat) : Int := (depths ts (j + 1)).getD j 0
theorem dep_eq (ts : List Tm) (j : Nat) : dep ts j = maxOf (depths ts j) (partsV (tmAt ts j)) + 1 := by
  unfold dep
  simp only [depths]
  rw [List.getD_eq_getElem?_getD, List.getElem?_append_right (by rw [depths_length]; omega)]
  simp [depths_length]
theorem maxOf_ge (d l : List Int) (p : Int) (hp : p ∈ l) : d.getD p.toNat 0 ≤ maxOf d l := by
  unfold maxOf
  induction l using snoc_ind with
  | h0 => simp at hp
  | h1 l q ih =>
    rw [List.foldl_append]
    simp only [List.foldl_cons, List.foldl_nil]
    rcases List.mem_append.1 hp with h | h
    · have := ih h; omega
    · simp only [List.mem_singleton] at h; subst h; omega
theorem maxOf_or (d l : List Int) : maxOf d l = 0 ∨ ∃ p ∈ l, maxOf d l = d.getD p.toNat 0 := by
  unfold maxOf
  induction l using snoc_ind with
  | h0 => exact .inl rfl
  | h1 l q ih =>
    rw [List.foldl_append]
    simp only [List.foldl_cons, List.foldl_nil]
    by_cases h : d.getD q.toNat 0 ≤ l.foldl (fun m p => max m (d.getD p.toNat 0)) 0
    · rw [Int.max_eq_left h]
      rcases ih with h0 | ⟨p, hp, he⟩
      · exact .inl h0
      · exact .inr ⟨p, List.mem_append_left _ hp, he⟩
    · rw [Int.max_eq_right (by omega)]
      exact .inr ⟨q, by simp, rfl⟩
theorem dep_pos (ts : List Tm) (j : Nat) : 1 ≤ dep ts j := by
  rw [dep_eq]
  have := maxOf_range (depths ts j) (partsV (tmAt ts j)) j (by omega) (depths_range ts j)
  omega
theorem dep_part {ts : List Tm} (hok : LOk ts) {j : Nat} (hj : j < ts.length) {p : Int} (hp : p ∈ partsV (tmAt ts j)) : dep ts p.toNat < dep ts j := by
  have hlt := parts_lt hok hj hp
  have h := maxOf_ge (depths ts j) (partsV (tmAt ts j)) p hp
  rw [depths_more ts (p.toNat + 1) j p.toNat (by omega) (by omega)] at h
  rw [dep_eq ts j]
  unfold dep
  omega
theorem dep_reach {ts : List Tm} (hok : LOk ts) {a b : Nat} (h : Reach ts a b) (ha : a < ts.length) : a = b ∨ dep ts b < dep ts a := by
  induction h with
  | refl a => exact .inl rfl
  | head hp _ ih =>
    have hlt := parts_lt hok ha hp
    have h1 := dep_part hok ha hp
    rcases ih (by omega) with h | h
    · right; rw [← h]; exact h1
    · right; omega

theorem pick_sub {f g : Nat → Bool} (h : ∀ k, f k = true → g k = true) (n : Nat) : (pick f n).length ≤ (pick g n).length := by
  induction n with
  | zero => exact Nat.le_refl _
  | succ n ih =>
    cases hf : f n with
    | true => rw [pick_true hf, pick_true (h n hf)]; simp; exact ih
    | false =>
      rw [pick_false hf]
      cases hg : g n with
      | true => rw [pick_true hg]; simp; omega
      | false => rw [pick_false hg]; exact ih
theorem pick_less {f g : Nat → Bool} (h : ∀ k, f k = true → g k = true) {j n : Nat} (hj : j < n) (h1 : f j = false) (h2 : g j = true) : (pick f n).length + 1 ≤ (pick g n).length := by
  induction n with
  | zero => omega
  | succ n ih =>
    by_cases e : j = n
    · subst e
      rw [pick_false h1, pick_true h2]
      have := pick_sub h j
      simp
      omega
    · have h3 := ih (by omega)
      cases hf : f n with
      | true => rw [pick_true hf, pick_true (h n hf)]; simp; omega
      | false =>
        rw [pick_false hf]
        cases hg : g n with
        | true => rw [pick_true hg]; simp; omega
        | false => rw [pick_false hg]; exact h3
theorem dep_len {ts : List Tm} (hok : LOk ts) : ∀ (j : Nat), j < ts.length → dep ts j ≤ ((pick (reachB ts j) ts.length).length : Nat) := by
  intro j
  induction j using Nat.strongRecOn with
  | ind j ih =>
  intro hj
  have hself : reachB ts j j = true := (reachB_iff _ _ _).2 (.refl _)
  rw [dep_eq]
  rcases maxOf_or (depths ts j) (partsV (tmAt ts j)) with h | ⟨p, hp, h⟩
  · rw [h]
    have := pick_less (f := fun _ => false) (g := reachB ts j) (fun _ hk => by cases hk) hj rfl hself
    omega
  · have hlt := parts_lt hok hj hp
    rw [h, depths_more ts (p.toNat + 1) j p.toNat (by omega) (by omega)]
    have h1 := ih p.toNat (by omega) (by omega)
    unfold dep at h1
    have h2 := pick_less (f := reachB ts p.toNat) (g := reachB ts j) (n := ts.length) (fun k hk => (reachB_iff _ _ _).2 (.head hp ((reachB_iff _ _ _).1 hk))) hj (by
      rw [Bool.eq_false_iff]
      intro hr
      have := reach_le hok ((reachB_iff _ _ _).1 hr) (by omega)
      omega) hself
    omega

theorem pick_mem {f : Nat → Bool} {n : Nat} {x : Int} : x ∈ pick f n ↔ ∃ j : Nat, j < n ∧ x = (j : Int) ∧ f j = true := mem_pick
theorem pick_asc {f : Nat → Bool} {n : Nat} {i : Nat} (h : i + 1 < (pick f n).length) : (pick f n)[i] < (pick f n)[i + 1] := by
  have hp := asc_pick f n
  unfold Asc at hp
  rw [List.pairwise_iff_getElem] at hp
  exact hp i (i + 1) (by omega) h (by omega)

/-- A number that names a term of a right ledger. -/
structure SubP (ts : List Tm) (j : Nat) (s : List Int) : Prop where
  eq : subsV ts (j : Int) = s
  dp : depthV ts (j : Int) = dep ts j
  one : 1 ≤ dep ts j
  len : dep ts j ≤ (s.length : Int)
  lt : s.length ≤ ts.length
  ne : 0 < s.length
  last : ∀ h : s.length - 1 < s.length, s[s.length - 1] = (j : Int)
  asc : ∀ i (h : i + 1 < s.length), s[i] < s[i + 1]
  mem : ∀ i (h : i < s.length), ∃ m : Nat, s[i] = (m : Int) ∧ m < ts.length ∧ m ≤ j ∧ depthV ts (m : Int) = dep ts m ∧ (¬ m = j → dep ts m < dep ts j) ∧ ∀ y ∈ subsV ts (m : Int), y ∈ s
  text : 0 < (ttV ts (j : Int)).length

theorem sub_of {ts : List Tm} (hlk : lokB ts = true) {j : Nat} (hj : j < ts.length) : SubP ts j (subsV ts (j : Int)) := by
  have hok := lok_of hlk
  have hdp : ∀ m : Nat, m < ts.length → depthV ts (m : Int) = dep ts m := fun m hm => by
    unfold depthV
    rw [if_pos ⟨hlk, (hasB_iff _ _).2 ⟨by omega, by omega⟩⟩]
    rfl
  have hsv : ∀ m : Nat, m < ts.length → subsV ts (m : Int) = pick (reachB ts m) ts.length := fun m hm => by
    unfold subsV
    rw [if_pos ⟨hlk, (hasB_iff _ _).2 ⟨by omega, by omega⟩⟩]
    rfl
  have hself : reachB ts j j = true := (reachB_iff _ _ _).2 (.refl _)
  have hsh : subsV ts (j : Int) = pick (reachB ts j) j ++ [(j : Int)] := by rw [hsv j hj, subs_short hok hj, pick_true hself]
  refine ⟨rfl, hdp j hj, dep_pos ts j, ?_, subsV_length _ _, by rw [hsh]; simp, fun h => ?_, fun i h => ?_, fun i h => ?_, ?_⟩
  · rw [hsv j hj]; exact dep_len hok j hj
  · simp only [hsh]
    simp
  · simp only [hsv j hj] at h ⊢
    exact pick_asc h
  · obtain ⟨x, hx⟩ : ∃ x, x = (subsV ts (j : Int))[i] := ⟨_, rfl⟩
    have hm : x ∈ subsV ts (j : Int) := by rw [hx]; exact List.getElem_mem h
    rw [hsv j hj] at hm
    obtain ⟨m, hml, he, hr⟩ := pick_mem.1 hm
    have hr' := (reachB_iff _ _ _).1 hr
    have he' : (subsV ts (j : Int))[i] = (m : Int) := hx.symm.trans he
    refine ⟨m, he', hml, reach_le hok hr' hj, hdp m hml, fun hne => ?_, fun y hy => ?_⟩
    · rcases dep_reach hok hr' hj with h1 | h1
      · exact absurd h1.symm hne
      · exact h1
    · rw [hsv m hml] at hy
      obtain ⟨k, hk, rfl, hr2⟩ := pick_mem.1 hy
      rw [hsv j hj]
      exact pick_mem.2 ⟨k, hk, rfl, (reachB_iff _ _ _).2 (reach_trans hr' ((reachB_iff _ _ _).1 hr2))⟩
  · unfold ttV
    rw [if_pos ⟨hlk, (hasB_iff _ _).2 ⟨by omega, by omega⟩⟩]
    unfold ttB
    have hw : 0 < (ttW (tmAt ts (j : Int)).kind).data.toList.length := by
      unfold ttW
      repeat (first | (split; · decide) | decide)
    rw [List.length_append]
    omega

theorem sub_none {ts : List Tm} {id : Int} (h : ¬ (lokB ts = true ∧ hasB ts.length id = true)) : subsV ts id = [] ∧ depthV ts id = -1 ∧ ttV ts id = [] :=
  ⟨by unfold subsV; rw [if_neg h], by unfold depthV; rw [if_neg h], by unfold ttV; rw [if_neg h]⟩
theorem sub_some {ts : List Tm} {id : Int} (h : lokB ts = true ∧ hasB ts.length id = true) : ∃ j : Nat, id = (j : Int) ∧ j < ts.length ∧ SubP ts j (subsV ts (j : Int)) := by
  have hr := (hasB_iff _ _).1 h.2
  obtain ⟨j, rfl⟩ := Int.eq_ofNat_of_zero_le hr.1
  exact ⟨j, rfl, by omega, sub_of h.1 (by omega)⟩

end Go.Proofs.YtkmoihkpaccbdaaDoor

namespace Go.Proofs.YtkmoihkpaccbdaaDoor
open Go.RowKit Go.Maps

set_option maxRecDepth 100000 in
set_option maxHeartbeats 1000000 in
theorem drawSubterms_any (A : Option Addr) (c : Nat) (code : List UInt8) (w : World) (hA : BytesIn w 0 w.heap.size A code) (hn : code.length ≤ 9223372036854775807) :
    Calls Tryd.prog 5 #[.slice A code.length c] w (NewAtD w) := by
  have HA := Lib.hid hA
  clear hA
  go_enter Tryd.func5, Tryd.ntmps5
  go_wp2_with fail
  obtain ⟨W0, hW0⟩ : ∃ y, y = w.alloc (.cells #[.slice none 0 0] 25) := ⟨_, rfl⟩
  have hb0 : Below w.heap.size w W0 := by rw [hW0]; exact (Below.refl _ _).alloc (Nat.le_refl _) _
  have hz0 : w.heap.size < W0.heap.size := by rw [hW0]; simp
  have r0 : W0.cell? ⟨w.heap.size, 0, none⟩ = some (.slice none 0 0) := by rw [hW0]; simp
  have rf : W0.frozen? ⟨w.heap.size, 0, none⟩ = false := by rw [hW0]; simp
  rw [← hW0]
  refine (drawAt_any A c code W0 ((HA.out.keep fun p _ hp => hb0.cell hp).mono hb0.size) hn).mono ?_
  rintro e w1 ⟨ts, A1, c1, id, rfl, h1, h2, ht, hb1⟩
  have r1 := (hb1.cell (p := ⟨w.heap.size, 0, none⟩) hz0).trans r0
  have rf1 := (hb1.frozen (p := ⟨w.heap.size, 0, none⟩) hz0).trans rf
  have HF := Lib.hid (fun V => show NewAtD w (.returned (.tuple #[.agg #[.slice A1 ts.length c1], .int .i64 id])) (w1.setCell ⟨w.heap.size, 0, none⟩ V) from
    ⟨ts, A1, c1, id, rfl, h1, h2, ((ht.set (by show w.heap.size < W0.heap.size; omega) V).low (by omega)).mono (by simp), (hb0.trans (hb1.mono (by omega))).setCell (Nat.le_refl _) _⟩)
  clear hW0 hb0 r0 rf h1 h2 ht hb1
  go_wp2_with fail
  refine bodyPost_ret (v := .tuple #[.agg #[.slice A1 ts.length c1], .int .i64 id]) (by simp [results, Tryd.results5, go_sem, *]) rfl ?_
  exact HF.out _

set_option maxRecDepth 100000 in
set_option maxHeartbeats 4000000 in
theorem fnSubs_any (A : Option Addr) (c : Nat) (code : List UInt8) (w : World) (hA : BytesIn w 0 w.heap.size A code) (hn : code.length ≤ 9223372036854775807)
    (htab : Lib.TabIs Tryd.prog w "internal/strconv.uint64pow10" .u64 Lib.pow10Tab) :
    Calls Tryd.prog 3 #[.slice A code.length c] w fun e w' => e = .returned (.bool true) ∧ Below w.heap.size w w' := by
  have HA := Lib.hid hA
  have HTab := Lib.hid (Lib.tabBelow_of_tabIs htab)
  clear hA htab
  go_enter Tryd.func3, Tryd.ntmps3
  go_wp2_with fail
  refine (drawSubterms_any A c code w HA.out hn).mono ?_
  rintro e w1 ⟨ts, A1, c1, id, rfl, ⟨hl1, hk1, _⟩, ⟨hia, hib⟩, ht1, hb1⟩
  obtain ⟨W2, hW2⟩ : ∃ y, y = w1.alloc (.cells #[.slice A1 ts.length c1] 25) := ⟨_, rfl⟩
  have hb2 : Below w1.heap.size w1 W2 := by rw [hW2]; exact (Below.refl _ _).alloc (Nat.le_refl _) _
  have b2 : W2.cell? ⟨w1.heap.size, 0, none⟩ = some (.slice A1 ts.length c1) := by rw [hW2]; simp
  have hz2 : w1.heap.size < W2.heap.size := by rw [hW2]; simp
  have HT2 := Lib.hid (ht1.keep fun p _ hp => hb2.cell hp)
  have HB2 := Lib.hid (hb1.trans (hb2.mono hb1.size))
  have hzw := hb1.size
  have HT := Lib.hid (fun (X : World) (hX : Below W2.heap.size W2 X) => show TmsIn X w.heap.size w1.heap.size A1 ts from HT2.out.keep fun p _ hp => hX.cell (by omega))
  have HTx := Lib.hid (fun (X : World) (hX : Below W2.heap.size W2 X) => implTermText_any A1 ts c1 w.heap.size w1.heap.size id X (HT.out X hX) (by have := hX.size; omega) (by omega) (by omega) (HTab.out X (HB2.out.trans (hX.mono (by omega)))))
  have HSu := Lib.hid (fun (X : World) (hX : Below W2.heap.size W2 X) (x : Int) => implSubterms_any A1 ts c1 w.heap.size w1.heap.size x X (HT.out X hX) (by have := hX.size; omega) (by omega) (by omega))
  have HDe := Lib.hid (fun (X : World) (hX : Below W2.heap.size W2 X) (x : Int) => implDepth_any A1 ts c1 w.heap.size w1.heap.size x X (HT.out X hX) (by have := hX.size; omega) (by omega) (by omega))
  have HSu0 := Lib.hid (HSu.out W2 (Below.refl _ _) id)
  clear ht1 hb1 hb2 HT2 HTab
  go_upto_region 2 with fail
  rw [← hW2]
  clear hW2
  go_wp2_with fail
  refine HSu0.out.mono ?_
  rintro e w3 ⟨A3, c3, rfl, hi3, hb3⟩
  have hz3 := hb3.size
  have b3 := (hb3.cell (p := ⟨w1.heap.size, 0, none⟩) hz2).trans b2
  have HI3 := Lib.hid ((hi3.ints).low (Nat.zero_le _))
  have HB3 := Lib.hid hb3
  have HD0 := Lib.hid (HDe.out w3 hb3 id)
  clear hi3 hb3 b2 HSu0
  go_wp2_with fail
  refine HD0.out.mono ?_
  rintro e w4 ⟨rfl, hb4⟩
  have hz4 := hb4.size
  have b4 := (hb4.cell (p := ⟨w1.heap.size, 0, none⟩) (by show w1.heap.size < _; omega)).trans b3
  have HI4 := Lib.hid ((HI3.out.keep fun p _ hp => hb4.cell hp).mono hb4.size)
  have HB4 := Lib.hid (HB3.out.trans (hb4.mono hz3))
  clear hb4 b3 HI3 HB3 HD0
  by_cases hlk : lokB ts = true ∧ hasB ts.length id = true
  case neg =>
    obtain ⟨e1, e2, e3⟩ := sub_none hlk
    rw [e1, e2]
    have HX := Lib.hid (HTx.out w4 HB4.out)
    rw [e3] at HX
    clear HTx HSu HDe e1 e2 e3 hlk
    go_wp2_with fail
    refine HX.out.mono ?_
    rintro e w5 ⟨A5, c5, rfl, _, hb5⟩
    have hz5 := hb5.size
    have HB5 := Lib.hid (HB4.out.trans (hb5.mono (by omega)))
    have CT := Lib.hid (terms_any w5)
    clear hb5 HX
    go_wp2_with fail
    refine CT.out.mono ?_
    rintro e w6 ⟨rfl, hb6⟩
    have HF := Lib.hid (HB2.out.trans ((HB5.out.trans (hb6.mono (by omega))).mono (by omega)))
    clear hb6 CT
    go_wp2_with fail
    go_ret
    exact ⟨rfl, HF.out⟩
  case pos =>
    obtain ⟨j, hij, hj, hP⟩ := sub_some hlk
    clear hlk
    have hsq : subsV ts id = subsV ts (j : Int) := by rw [hij]
    have hdq : depthV ts id = dep ts j := by rw [hij]; exact hP.dp
    have htx : 0 < (ttV ts id).length := by rw [hij]; exact hP.text
    obtain ⟨s, hs⟩ : ∃ y, y = subsV ts (j : Int) := ⟨_, rfl⟩
    rw [hsq, ← hs] at HI4 ⊢
    rw [← hs] at hP
    rw [hdq]
    obtain ⟨n, hnn⟩ : ∃ n, s.length = n + 1 := ⟨s.length - 1, by have := hP.ne; omega⟩
    rw [hnn]
    obtain ⟨dj, hdj⟩ : ∃ y, y = dep ts j := ⟨_, rfl⟩
    rw [← hdj]
    have hd1 : 1 ≤ dj := by rw [hdj]; exact hP.one
    have hdn : dj ≤ (n : Int) + 1 := by have := hP.len; rw [hnn, ← hdj] at this; simpa using this
    have hnl : n + 1 ≤ 32 := by have := hP.lt; omega
    have HLast := Lib.hid (show ∀ h : n < s.length, s[n] = id from fun h => by have h1 := hP.last (by omega); rw [hij]; simpa only [hnn, Nat.add_sub_cancel] using h1)
    have HAsc := Lib.hid hP.asc
    have HMem := Lib.hid (show ∀ i (h : i < s.length), ¬ id < s[i] ∧ (¬ s[i] = id → ¬ dj ≤ depthV ts s[i]) ∧ ∀ y ∈ subsV ts s[i], y ∈ s from fun i h => by
      obtain ⟨m, h1, h2, h3, h4, h5, h6⟩ := hP.mem i h
      rw [h1, hij, hdj]
      exact ⟨by omega, fun hne => by rw [h4]; have := h5 (by omega); omega, h6⟩)
    have HN := Lib.hid hnn
    have hn10 : ((n : Int) + 1 == 0) = false := by rw [beq_eq_false_iff_ne]; omega
    have HHas := Lib.hid (fun (X : World) (hX : Below w4.heap.size w4 X) (y : Int) (hy : y ∈ s) => show Calls Tryd.prog 10 #[.slice A3 (n + 1) c3, .int .i64 y] X (fun e w' => e = .returned (.bool true) ∧ Below X.heap.size X w') from by
      have h := hasInt_any A3 s c3 y X ((HI4.out.keep fun p _ hp => hX.cell hp).mono hX.size) (by have := HN.out; omega)
      rw [HN.out, show decide (y ∈ s) = true by simp [hy]] at h
      exact h)
    obtain ⟨b, o, rfl, _, hb, hc⟩ := HI4.out (by omega)
    have HC := Lib.hid hc
    have hjw : IntKind.i64.wrap (n : Int) = (n : Int) := by rw [IntKind.wrap_i64]; omega
    clear hP hnn hdj hs hc hia hib hsq hdq hij
    go_wp2_with fail
    go_loopw [7, 8, 9] (fun i _ _ wr => ∃ k : Nat, k ≤ n + 1 ∧ i = .int .i64 k ∧ Below w4.heap.size w4 wr) (fun i _ _ _ => n + 1 - (intOf i).toNat)
    case atStart => exact ⟨0, Nat.zero_le _, rfl, Below.refl _ _⟩
    case round =>
      obtain ⟨k, hk, rfl, hbr⟩ := hrel
      obtain ⟨wa, rfl⟩ : ∃ X : World, X = wr := ⟨_, rfl⟩
      have HBr := Lib.hid hbr
      have HBw := Lib.hid (HB4.out.trans (hbr.mono (by omega)))
      have hzr := hbr.size
      have br := (hbr.cell (p := ⟨w1.heap.size, 0, none⟩) (by show w1.heap.size < _; omega)).trans b4
      clear hbr b4
      by_cases hlt : k < n + 1
      case pos =>
        have hks : k < s.length := by have := HN.out; omega
        obtain ⟨hmj, hmo, hms⟩ := HMem.out k hks
        have cm := (HBr.out.cell (p := ⟨b, o + k, none⟩) hb).trans (HC.out k hks)
        obtain ⟨m, hm⟩ : ∃ y, y = s[k] := ⟨_, rfl⟩
        rw [← hm] at cm hmj hmo hms
        have HMs := Lib.hid hms
        have hDm := Lib.hid (fun (x : Kp wa) => show Calls Tryd.prog 7 #[.agg #[.slice A1 ts.length c1], .int .i64 m] x.val (fun e w' => e = .returned (.int .i64 (depthV ts m)) ∧ Below x.val.heap.size x.val w') from
          HDe.out x.val (HBw.out.trans (x.ok.mono (by omega))) m)
        obtain ⟨dm, hdm⟩ : ∃ y, y = depthV ts m := ⟨_, rfl⟩
        rw [← hdm] at hDm hmo
        have q0 : ∀ x : Kp wa, x.val.cell? ⟨w1.heap.size, 0, none⟩ = some (.slice A1 ts.length c1) := fun x => x.cell br
        clear hms hdm
        rcases Nat.eq_zero_or_pos k with hk0 | hk0
        · have hk00 := hk0
          clear hk00
          by_cases hmj3 : m = id
          · rw [hmj3] at cm hmj HMs
            clear hmo hmj3
            clear hm
            go_upto_region 9 with fail
            have hmj2 : ¬ (id < id) := by omega
            have hki : (k : Int) < (n : Int) + 1 := by omega
            have q1 : ∀ x : Kp wa, x.val.cell? ⟨b, o + k, none⟩ = some (.int .i64 id) := fun x => x.cell cm
            have hkp : ¬ ((0 : Int) < (k : Int)) := by omega
            have hkp2 : ¬ (0 < k) := by omega
            clear hk0
            refine wp_region_kept (by kernel_rfl) (by kernel_rfl) ?_
            repeat (go_big_quiet_step ((go_at_call 7; refine kept_of (v := .int .i64 dm) (hDm.out _))))
            refine wpQuiet_nil ?_
            rintro W9 ⟨⟨_, hb9⟩, rfl⟩
            have hz9 := hb9.size
            have HB9 := Lib.hid (HBw.out.trans (hb9.mono (by omega)))
            have HB49 := Lib.hid (HBr.out.trans (hb9.mono hzr))
            have b9 := (hb9.cell (p := ⟨w1.heap.size, 0, none⟩) (by show w1.heap.size < _; omega)).trans br
            have cm9 := (hb9.cell (p := ⟨b, o + k, none⟩) (by show b < _; omega)).trans cm
            obtain ⟨ps, hps⟩ : ∃ y, y = subsV ts id := ⟨_, rfl⟩
            have hpl : ps.length ≤ 32 := by rw [hps]; have := subsV_length ts (id : Int); omega
            have HS := Lib.hid (show Calls Tryd.prog 6 #[.agg #[.slice A1 ts.length c1], .int .i64 id] W9.drew (fun e w' => ∃ A7 c7, e = .returned (.slice A7 ps.length c7) ∧ (w'.cell? ⟨w1.heap.size, 0, none⟩ = some (.slice A1 ts.length c1) ∧ w'.cell? ⟨b, o + k, none⟩ = some (.int .i64 id)) ∧ IntsIn w' 0 w'.heap.size A7 ps ∧ Below w4.heap.size w4 w') from by
              refine (HSu.out W9.drew HB9.out.drew id).mono ?_
              rintro e w' ⟨A7, c7, rfl, hi7, hb7⟩
              rw [← hps] at hi7 ⊢
              exact ⟨A7, c7, rfl, ⟨(hb7.cell (p := ⟨w1.heap.size, 0, none⟩) (by show w1.heap.size < W9.heap.size; omega)).trans b9, (hb7.cell (p := ⟨b, o + k, none⟩) (by show b < W9.heap.size; omega)).trans cm9⟩, (hi7.ints).low (Nat.zero_le _), HB49.out.drew.trans (hb7.mono (by show w4.heap.size ≤ W9.heap.size; omega))⟩)
            have HPs := Lib.hid (show ∀ y ∈ ps, y ∈ s by rw [hps]; exact HMs.out)
            clear hmj2 q1 hkp hkp2  q0 cm br hDm hb9 hps HMs
            go_upto_region 11 with fail
            go_region_law
              (first
                | (go_simp
                   go_at_call 6
                   refine HS.out.mono ?_
                   rintro e w10 ⟨A7, c7, rfl, ⟨e10, f10⟩, hi10, hb10⟩
                   have HI10 := Lib.hid hi10
                   have HB10 := Lib.hid hb10
                   clear HS hi10 hb10
                   go_wp2_with fail))
            all_goals
              go_wp2_with fail
              go_loopw [9] (fun i wr => ∃ k2 : Nat, k2 ≤ ps.length ∧ i = .int .i64 k2 ∧ Below w10.heap.size w10 wr) (fun i _ => ps.length - (intOf i).toNat)
              case atStart => exact ⟨0, Nat.zero_le _, rfl, Below.refl _ _⟩
              case round =>
                obtain ⟨k2, hk2, rfl, hbq⟩ := hrel
                obtain ⟨wq, rfl⟩ : ∃ X : World, X = wr := ⟨_, rfl⟩
                have hz10 := HB10.out.size
                have HBq := Lib.hid (HB10.out.trans (hbq.mono (by omega)))
                have hzq := hbq.size
                by_cases hlt2 : k2 < ps.length
                · obtain ⟨bp, op, rfl, _, hbp, hcp⟩ := HI10.out (by omega)
                  have cp := (hbq.cell (p := ⟨bp, op + k2, none⟩) hbp).trans (hcp k2 hlt2)
                  have HH := Lib.hid (HHas.out wq HBq.out ps[k2] (HPs.out _ (List.getElem_mem hlt2)))
                  have HB10q := Lib.hid hbq
                  obtain ⟨y, hy⟩ : ∃ y, y = ps[k2] := ⟨_, rfl⟩
                  rw [← hy] at cp HH
                  clear hcp hbq hy
                  go_wp2_with fail
                  refine HH.out.mono ?_
                  rintro e w11 ⟨rfl, hb11⟩
                  have HB11 := Lib.hid (HB10q.out.trans (hb11.mono hzq))
                  clear hb11 HH
                  go_wp2_with fail
                  go_roundw
                  case rel => exact ⟨k2 + 1, by omega, by go_num, HB11.out⟩
                  case measure => simp [intOf]; omega
                · clear hbq
                  go_wp2_with fail
                  go_roundw
                  case rel => exact ⟨k + 1, by omega, by go_num, HBq.out⟩
                  case measure => simp [intOf]; omega
          · have hmd2 := hmo hmj3
            clear hmo
            clear hm
            go_upto_region 9 with fail
            have hmj2 : ¬ (id < m) := by omega
            have hki : (k : Int) < (n : Int) + 1 := by omega
            have hne2 : ¬ (m = id) := hmj3
            have hne3 : (m != id) = true := by rw [bne_iff_ne]; exact hmj3
            have hdd : ¬ (dj ≤ dm) := by omega
            have q1 : ∀ x : Kp wa, x.val.cell? ⟨b, o + k, none⟩ = some (.int .i64 m) := fun x => x.cell cm
            have hkp : ¬ ((0 : Int) < (k : Int)) := by omega
            have hkp2 : ¬ (0 < k) := by omega
            clear hk0
            refine wp_region_kept (by kernel_rfl) (by kernel_rfl) ?_
            repeat (go_big_quiet_step ((go_at_call 7; refine kept_of (v := .int .i64 dm) (hDm.out _))))
            refine wpQuiet_nil ?_
            rintro W9 ⟨⟨_, hb9⟩, rfl⟩
            have hz9 := hb9.size
            have HB9 := Lib.hid (HBw.out.trans (hb9.mono (by omega)))
            have HB49 := Lib.hid (HBr.out.trans (hb9.mono hzr))
            have b9 := (hb9.cell (p := ⟨w1.heap.size, 0, none⟩) (by show w1.heap.size < _; omega)).trans br
            have cm9 := (hb9.cell (p := ⟨b, o + k, none⟩) (by show b < _; omega)).trans cm
            obtain ⟨ps, hps⟩ : ∃ y, y = subsV ts m := ⟨_, rfl⟩
            have hpl : ps.length ≤ 32 := by rw [hps]; have := subsV_length ts (m : Int); omega
            have HS := Lib.hid (show Calls Tryd.prog 6 #[.agg #[.slice A1 ts.length c1], .int .i64 m] W9.drew (fun e w' => ∃ A7 c7, e = .returned (.slice A7 ps.length c7) ∧ (w'.cell? ⟨w1.heap.size, 0, none⟩ = some (.slice A1 ts.length c1) ∧ w'.cell? ⟨b, o + k, none⟩ = some (.int .i64 m)) ∧ IntsIn w' 0 w'.heap.size A7 ps ∧ Below w4.heap.size w4 w') from by
              refine (HSu.out W9.drew HB9.out.drew m).mono ?_
              rintro e w' ⟨A7, c7, rfl, hi7, hb7⟩
              rw [← hps] at hi7 ⊢
              exact ⟨A7, c7, rfl, ⟨(hb7.cell (p := ⟨w1.heap.size, 0, none⟩) (by show w1.heap.size < W9.heap.size; omega)).trans b9, (hb7.cell (p := ⟨b, o + k, none⟩) (by show b < W9.heap.size; omega)).trans cm9⟩, (hi7.ints).low (Nat.zero_le _), HB49.out.drew.trans (hb7.mono (by show w4.heap.size ≤ W9.heap.size; omega))⟩)
            have HPs := Lib.hid (show ∀ y ∈ ps, y ∈ s by rw [hps]; exact HMs.out)
            clear hmj2 q1 hne2 hne3 hdd hkp hkp2  q0 cm br hDm hb9 hps HMs
            go_upto_region 11 with fail
            go_region_law
              (first
                | (go_simp
                   go_at_call 6
                   refine HS.out.mono ?_
                   rintro e w10 ⟨A7, c7, rfl, ⟨e10, f10⟩, hi10, hb10⟩
                   have HI10 := Lib.hid hi10
                   have HB10 := Lib.hid hb10
                   clear HS hi10 hb10
                   go_wp2_with fail))
            all_goals
              go_wp2_with fail
              go_loopw [9] (fun i wr => ∃ k2 : Nat, k2 ≤ ps.length ∧ i = .int .i64 k2 ∧ Below w10.heap.size w10 wr) (fun i _ => ps.length - (intOf i).toNat)
              case atStart => exact ⟨0, Nat.zero_le _, rfl, Below.refl _ _⟩
              case round =>
                obtain ⟨k2, hk2, rfl, hbq⟩ := hrel
                obtain ⟨wq, rfl⟩ : ∃ X : World, X = wr := ⟨_, rfl⟩
                have hz10 := HB10.out.size
                have HBq := Lib.hid (HB10.out.trans (hbq.mono (by omega)))
                have hzq := hbq.size
                by_cases hlt2 : k2 < ps.length
                · obtain ⟨bp, op, rfl, _, hbp, hcp⟩ := HI10.out (by omega)
                  have cp := (hbq.cell (p := ⟨bp, op + k2, none⟩) hbp).trans (hcp k2 hlt2)
                  have HH := Lib.hid (HHas.out wq HBq.out ps[k2] (HPs.out _ (List.getElem_mem hlt2)))
                  have HB10q := Lib.hid hbq
                  obtain ⟨y, hy⟩ : ∃ y, y = ps[k2] := ⟨_, rfl⟩
                  rw [← hy] at cp HH
                  clear hcp hbq hy
                  go_wp2_with fail
                  refine HH.out.mono ?_
                  rintro e w11 ⟨rfl, hb11⟩
                  have HB11 := Lib.hid (HB10q.out.trans (hb11.mono hzq))
                  clear hb11 HH
                  go_wp2_with fail
                  go_roundw
                  case rel => exact ⟨k2 + 1, by omega, by go_num, HB11.out⟩
                  case measure => simp [intOf]; omega
                · clear hbq
                  go_wp2_with fail
                  go_roundw
                  case rel => exact ⟨k + 1, by omega, by go_num, HBq.out⟩
                  case measure => simp [intOf]; omega
        · obtain ⟨k1, hk1⟩ : ∃ k1, k1 + 1 = k := ⟨k - 1, by omega⟩
          have hk's : k1 < s.length := by omega
          obtain ⟨x0, hx0⟩ : ∃ y, y = s[k1] := ⟨_, rfl⟩
          have hasc := HAsc.out k1 (by omega)
          simp only [hk1] at hasc
          rw [← hm, ← hx0] at hasc
          have c0 := (HBr.out.cell (p := ⟨b, o + k1, none⟩) hb).trans (HC.out k1 hk's)
          rw [← hx0] at c0
          clear hx0
          by_cases hmj3 : m = id
          · rw [hmj3] at cm hmj HMs hasc
            clear hmo hmj3
            clear hm
            go_upto_region 9 with fail
            have hmj2 : ¬ (id < id) := by omega
            have hki : (k : Int) < (n : Int) + 1 := by omega
            have q1 : ∀ x : Kp wa, x.val.cell? ⟨b, o + k, none⟩ = some (.int .i64 id) := fun x => x.cell cm
            have hkp : (0 : Int) < (k : Int) := by omega
            have hxx : ¬ (id ≤ x0) := by omega
            have q2 : ∀ x : Kp wa, x.val.cell? ⟨b, o + k1, none⟩ = some (.int .i64 x0) := fun x => x.cell c0
            have hk1w : IntKind.i64.wrap ((k : Int) - 1) = (k1 : Int) := by rw [IntKind.wrap_i64]; omega
            have hk1i : (k1 : Int) < (n : Int) + 1 := by omega
            refine wp_region_kept (by kernel_rfl) (by kernel_rfl) ?_
            repeat (go_big_quiet_step ((go_at_call 7; refine kept_of (v := .int .i64 dm) (hDm.out _))))
            refine wpQuiet_nil ?_
            rintro W9 ⟨⟨_, hb9⟩, rfl⟩
            have hz9 := hb9.size
            have HB9 := Lib.hid (HBw.out.trans (hb9.mono (by omega)))
            have HB49 := Lib.hid (HBr.out.trans (hb9.mono hzr))
            have b9 := (hb9.cell (p := ⟨w1.heap.size, 0, none⟩) (by show w1.heap.size < _; omega)).trans br
            have cm9 := (hb9.cell (p := ⟨b, o + k, none⟩) (by show b < _; omega)).trans cm
            obtain ⟨ps, hps⟩ : ∃ y, y = subsV ts id := ⟨_, rfl⟩
            have hpl : ps.length ≤ 32 := by rw [hps]; have := subsV_length ts (id : Int); omega
            have HS := Lib.hid (show Calls Tryd.prog 6 #[.agg #[.slice A1 ts.length c1], .int .i64 id] W9.drew (fun e w' => ∃ A7 c7, e = .returned (.slice A7 ps.length c7) ∧ (w'.cell? ⟨w1.heap.size, 0, none⟩ = some (.slice A1 ts.length c1) ∧ w'.cell? ⟨b, o + k, none⟩ = some (.int .i64 id)) ∧ IntsIn w' 0 w'.heap.size A7 ps ∧ Below w4.heap.size w4 w') from by
              refine (HSu.out W9.drew HB9.out.drew id).mono ?_
              rintro e w' ⟨A7, c7, rfl, hi7, hb7⟩
              rw [← hps] at hi7 ⊢
              exact ⟨A7, c7, rfl, ⟨(hb7.cell (p := ⟨w1.heap.size, 0, none⟩) (by show w1.heap.size < W9.heap.size; omega)).trans b9, (hb7.cell (p := ⟨b, o + k, none⟩) (by show b < W9.heap.size; omega)).trans cm9⟩, (hi7.ints).low (Nat.zero_le _), HB49.out.drew.trans (hb7.mono (by show w4.heap.size ≤ W9.heap.size; omega))⟩)
            have HPs := Lib.hid (show ∀ y ∈ ps, y ∈ s by rw [hps]; exact HMs.out)
            clear hmj2 q1 hkp hxx q2 hk1w hk1i  q0 cm br hDm hb9 hps HMs
            go_upto_region 11 with fail
            go_region_law
              (first
                | (go_simp
                   go_at_call 6
                   refine HS.out.mono ?_
                   rintro e w10 ⟨A7, c7, rfl, ⟨e10, f10⟩, hi10, hb10⟩
                   have HI10 := Lib.hid hi10
                   have HB10 := Lib.hid hb10
                   clear HS hi10 hb10
                   go_wp2_with fail))
            all_goals
              go_wp2_with fail
              go_loopw [9] (fun i wr => ∃ k2 : Nat, k2 ≤ ps.length ∧ i = .int .i64 k2 ∧ Below w10.heap.size w10 wr) (fun i _ => ps.length - (intOf i).toNat)
              case atStart => exact ⟨0, Nat.zero_le _, rfl, Below.refl _ _⟩
              case round =>
                obtain ⟨k2, hk2, rfl, hbq⟩ := hrel
                obtain ⟨wq, rfl⟩ : ∃ X : World, X = wr := ⟨_, rfl⟩
                have hz10 := HB10.out.size
                have HBq := Lib.hid (HB10.out.trans (hbq.mono (by omega)))
                have hzq := hbq.size
                by_cases hlt2 : k2 < ps.length
                · obtain ⟨bp, op, rfl, _, hbp, hcp⟩ := HI10.out (by omega)
                  have cp := (hbq.cell (p := ⟨bp, op + k2, none⟩) hbp).trans (hcp k2 hlt2)
                  have HH := Lib.hid (HHas.out wq HBq.out ps[k2] (HPs.out _ (List.getElem_mem hlt2)))
                  have HB10q := Lib.hid hbq
                  obtain ⟨y, hy⟩ : ∃ y, y = ps[k2] := ⟨_, rfl⟩
                  rw [← hy] at cp HH
                  clear hcp hbq hy
                  go_wp2_with fail
                  refine HH.out.mono ?_
                  rintro e w11 ⟨rfl, hb11⟩
                  have HB11 := Lib.hid (HB10q.out.trans (hb11.mono hzq))
                  clear hb11 HH
                  go_wp2_with fail
                  go_roundw
                  case rel => exact ⟨k2 + 1, by omega, by go_num, HB11.out⟩
                  case measure => simp [intOf]; omega
                · clear hbq
                  go_wp2_with fail
                  go_roundw
                  case rel => exact ⟨k + 1, by omega, by go_num, HBq.out⟩
                  case measure => simp [intOf]; omega
          · have hmd2 := hmo hmj3
            clear hmo
            clear hm
            go_upto_region 9 with fail
            have hmj2 : ¬ (id < m) := by omega
            have hki : (k : Int) < (n : Int) + 1 := by omega
            have hne2 : ¬ (m = id) := hmj3
            have hne3 : (m != id) = true := by rw [bne_iff_ne]; exact hmj3
            have hdd : ¬ (dj ≤ dm) := by omega
            have q1 : ∀ x : Kp wa, x.val.cell? ⟨b, o + k, none⟩ = some (.int .i64 m) := fun x => x.cell cm
            have hkp : (0 : Int) < (k : Int) := by omega
            have hxx : ¬ (m ≤ x0) := by omega
            have q2 : ∀ x : Kp wa, x.val.cell? ⟨b, o + k1, none⟩ = some (.int .i64 x0) := fun x => x.cell c0
            have hk1w : IntKind.i64.wrap ((k : Int) - 1) = (k1 : Int) := by rw [IntKind.wrap_i64]; omega
            have hk1i : (k1 : Int) < (n : Int) + 1 := by omega
            refine wp_region_kept (by kernel_rfl) (by kernel_rfl) ?_
            repeat (go_big_quiet_step ((go_at_call 7; refine kept_of (v := .int .i64 dm) (hDm.out _))))
            refine wpQuiet_nil ?_
            rintro W9 ⟨⟨_, hb9⟩, rfl⟩
            have hz9 := hb9.size
            have HB9 := Lib.hid (HBw.out.trans (hb9.mono (by omega)))
            have HB49 := Lib.hid (HBr.out.trans (hb9.mono hzr))
            have b9 := (hb9.cell (p := ⟨w1.heap.size, 0, none⟩) (by show w1.heap.size < _; omega)).trans br
            have cm9 := (hb9.cell (p := ⟨b, o + k, none⟩) (by show b < _; omega)).trans cm
            obtain ⟨ps, hps⟩ : ∃ y, y = subsV ts m := ⟨_, rfl⟩
            have hpl : ps.length ≤ 32 := by rw [hps]; have := subsV_length ts (m : Int); omega
            have HS := Lib.hid (show Calls Tryd.prog 6 #[.agg #[.slice A1 ts.length c1], .int .i64 m] W9.drew (fun e w' => ∃ A7 c7, e = .returned (.slice A7 ps.length c7) ∧ (w'.cell? ⟨w1.heap.size, 0, none⟩ = some (.slice A1 ts.length c1) ∧ w'.cell? ⟨b, o + k, none⟩ = some (.int .i64 m)) ∧ IntsIn w' 0 w'.heap.size A7 ps ∧ Below w4.heap.size w4 w') from by
              refine (HSu.out W9.drew HB9.out.drew m).mono ?_
              rintro e w' ⟨A7, c7, rfl, hi7, hb7⟩
              rw [← hps] at hi7 ⊢
              exact ⟨A7, c7, rfl, ⟨(hb7.cell (p := ⟨w1.heap.size, 0, none⟩) (by show w1.heap.size < W9.heap.size; omega)).trans b9, (hb7.cell (p := ⟨b, o + k, none⟩) (by show b < W9.heap.size; omega)).trans cm9⟩, (hi7.ints).low (Nat.zero_le _), HB49.out.drew.trans (hb7.mono (by show w4.heap.size ≤ W9.heap.size; omega))⟩)
            have HPs := Lib.hid (show ∀ y ∈ ps, y ∈ s by rw [hps]; exact HMs.out)
            clear hmj2 q1 hne2 hne3 hdd hkp hxx q2 hk1w hk1i  q0 cm br hDm hb9 hps HMs
            go_upto_region 11 with fail
            go_region_law
              (first
                | (go_simp
                   go_at_call 6
                   refine HS.out.mono ?_
                   rintro e w10 ⟨A7, c7, rfl, ⟨e10, f10⟩, hi10, hb10⟩
                   have HI10 := Lib.hid hi10
                   have HB10 := Lib.hid hb10
                   clear HS hi10 hb10
                   go_wp2_with fail))
            all_goals
              go_wp2_with fail
              go_loopw [9] (fun i wr => ∃ k2 : Nat, k2 ≤ ps.length ∧ i = .int .i64 k2 ∧ Below w10.heap.size w10 wr) (fun i _ => ps.length - (intOf i).toNat)
              case atStart => exact ⟨0, Nat.zero_le _, rfl, Below.refl _ _⟩
              case round =>
                obtain ⟨k2, hk2, rfl, hbq⟩ := hrel
                obtain ⟨wq, rfl⟩ : ∃ X : World, X = wr := ⟨_, rfl⟩
                have hz10 := HB10.out.size
                have HBq := Lib.hid (HB10.out.trans (hbq.mono (by omega)))
                have hzq := hbq.size
                by_cases hlt2 : k2 < ps.length
                · obtain ⟨bp, op, rfl, _, hbp, hcp⟩ := HI10.out (by omega)
                  have cp := (hbq.cell (p := ⟨bp, op + k2, none⟩) hbp).trans (hcp k2 hlt2)
                  have HH := Lib.hid (HHas.out wq HBq.out ps[k2] (HPs.out _ (List.getElem_mem hlt2)))
                  have HB10q := Lib.hid hbq
                  obtain ⟨y, hy⟩ : ∃ y, y = ps[k2] := ⟨_, rfl⟩
                  rw [← hy] at cp HH
                  clear hcp hbq hy
                  go_wp2_with fail
                  refine HH.out.mono ?_
                  rintro e w11 ⟨rfl, hb11⟩
                  have HB11 := Lib.hid (HB10q.out.trans (hb11.mono hzq))
                  clear hb11 HH
                  go_wp2_with fail
                  go_roundw
                  case rel => exact ⟨k2 + 1, by omega, by go_num, HB11.out⟩
                  case measure => simp [intOf]; omega
                · clear hbq
                  go_wp2_with fail
                  go_roundw
                  case rel => exact ⟨k + 1, by omega, by go_num, HBq.out⟩
                  case measure => simp [intOf]; omega
      case neg =>
        have hke : k = n + 1 := by omega
        have hns : n < s.length := by have := HN.out; omega
        have cn := (HBr.out.cell (p := ⟨b, o + n, none⟩) hb).trans (HC.out n hns)
        rw [HLast.out hns] at cn
        have HX := Lib.hid (HTx.out wa HBw.out)
        obtain ⟨tl, htl⟩ : ∃ y, y = (ttV ts id).length := ⟨_, rfl⟩
        have htl0 : (0 : Int) < (tl : Int) := by rw [htl]; omega
        have htl1 : 0 < tl := by rw [htl]; omega
        unfold NewBytesFr at HX
        rw [← htl] at HX
        clear htl htx HTx HSu HDe HMem HHas HC HAsc HLast
        go_wp2_with fail
        refine HX.out.mono ?_
        rintro e w5 ⟨A5, c5, rfl, _, hb5⟩
        have hz5 := hb5.size
        have HB5 := Lib.hid (HBw.out.trans (hb5.mono (by omega)))
        have CT := Lib.hid (terms_any w5)
        clear hb5 HX
        go_wp2_with fail
        refine CT.out.mono ?_
        rintro e w6 ⟨rfl, hb6⟩
        have HF := Lib.hid (HB2.out.trans ((HB5.out.trans (hb6.mono (by omega))).mono (by omega)))
        clear hb6 CT
        go_wp2_with fail
        go_ret
        exact ⟨rfl, HF.out⟩

end Go.Proofs.YtkmoihkpaccbdaaDoor
