/-
  Several texts in one: Fo, Dt, Frp, Frw.
-/
import Derived.Test.YtigkojdchpjkcaaFh
import Derived.Test.YtigkojdchpjkcaaTms
import Derived.Test.YtigkojdchpjkcaaGOp
import Derived.Test.YtigkojdchpjkcaaKept
import Derived.Test.YtigkojdchpjkcaaFm
import Derived.Test.YtigkojdchpjkcaaFc
namespace Go.Proofs.Ytigkojdchpjkcaa
open Go.RowKit Go.Maps

theorem have_pick (f : Nat → Bool) (n j : Nat) : haveB n (pick f n) j = (decide (j < n) && f j) := by
  rw [Bool.eq_iff_iff]
  simp only [haveB, Bool.and_eq_true, decide_eq_true_eq, List.contains_iff_mem, mem_pick]
  constructor
  · rintro ⟨h1, k, h2, h3, h4⟩
    have : k = j := by omega
    subst this
    exact ⟨h1, h4⟩
  · rintro ⟨h1, h2⟩
    exact ⟨h1, j, h1, rfl, h2⟩
theorem op_op {ts : List Tm} {h : Nat → Bool} {i : Nat} (k : Op ts (opB ts h) i) : Op ts h i := by
  induction k with
  | had k => exact (opB_iff _ _ _).1 k
  | pairL _ k ih => exact .pairL ih k
  | pairR _ k ih => exact .pairR ih k
  | sign _ k ih => exact .sign ih k
  | lock _ k _ ih ih2 => exact .lock ih k ih2
theorem end_lt {ts : List Tm} (hok : LOk ts) {hv : List Int} {j : Nat} (h : endB ts hv j = true) : j < ts.length := by
  unfold endB at h
  rw [opB_iff] at h
  exact op_below hok h fun i hi => by
    simp only [haveB, Bool.and_eq_true, decide_eq_true_eq] at hi
    exact hi.1
theorem end_end {ts : List Tm} (hok : LOk ts) (hv : List Int) : endB ts (pick (endB ts hv) ts.length) = endB ts hv := by
  have e : haveB ts.length (pick (endB ts hv) ts.length) = endB ts hv := by
    funext j
    rw [have_pick]
    cases h : endB ts hv j with
    | false => simp
    | true => simp [end_lt hok h]
  funext j
  show opB ts (haveB ts.length (pick (endB ts hv) ts.length)) j = endB ts hv j
  rw [e, Bool.eq_iff_iff, opB_iff]
  constructor
  · intro h
    have := op_op (h := haveB ts.length hv) h
    unfold endB
    rwa [opB_iff]
  · intro h
    exact .had h
theorem opened_opened {ts : List Tm} (hok : LOk ts) {hv : List Int} (hn : hv.length ≤ 1000) : openedV ts (openedV ts hv) = openedV ts hv := by
  have h1 : askB ts hv = true := by simp [askB, lokB_true hok, hn]
  have e : openedV ts hv = pick (endB ts hv) ts.length := by simp [openedV, h1]
  have hl : (pick (endB ts hv) ts.length).length ≤ 1000 := by
    have := pick_length (endB ts hv) ts.length
    have := hok.1
    omega
  rw [e]
  have h2 : askB ts (pick (endB ts hv) ts.length) = true := by simp [askB, lokB_true hok, hl]
  unfold openedV
  rw [if_pos h2, end_end hok]

theorem key_kind {ts : List Tm} (hok : LOk ts) {i : Nat} (hi : i < ts.length) (h5 : (tmAt ts i).kind = 5) : (tmAt ts ((tmAt ts i).a.toNat : Nat)).kind = 1 := by
  obtain ⟨_, _, hk, _⟩ := hok.2 i hi
  rw [tmAt_nat ts i hi] at h5 ⊢
  unfold keyedB at hk
  simp [h5] at hk
  show (ts[((ts[i].a.toNat : Nat) : Int).toNat]?.getD default).kind = 1
  rw [Int.toNat_natCast]
  exact hk
theorem op_cn {ts : List Tm} (hok : LOk ts) {hv : List Int} {i : Nat} (k : Op ts (fun j => decide (j < ts.length) && cnB ts (endB ts hv) j) i) : i < ts.length ∧ Cn ts (endB ts hv) i := by
  have hE : ∀ j, endB ts hv j = true → Op ts (haveB ts.length hv) j := fun j h => (opB_iff _ _ _).1 h
  have hE2 : ∀ j, Op ts (haveB ts.length hv) j → endB ts hv j = true := fun j h => (opB_iff _ _ _).2 h
  have hpl : ∀ i, i < ts.length → ∀ p ∈ partsV (tmAt ts i), p.toNat < ts.length := fun i hi p hp => by have := parts_below hok hi hp; omega
  induction k with
  | had k =>
    simp only [Bool.and_eq_true, decide_eq_true_eq] at k
    exact ⟨k.1, (cnB_iff _ _ _).1 k.2⟩
  | @pairL i _ k ih =>
    have hp : (tmAt ts i).a ∈ partsV (tmAt ts i) := by simp [partsV, k]
    refine ⟨hpl i ih.1 _ hp, ?_⟩
    cases ih.2 with
    | had h => exact .had (hE2 _ (.pairL (hE _ h) k))
    | text h => omega
    | made _ h => exact h _ hp
  | @pairR i _ k ih =>
    have hp : (tmAt ts i).b ∈ partsV (tmAt ts i) := by simp [partsV, k]
    refine ⟨hpl i ih.1 _ hp, ?_⟩
    cases ih.2 with
    | had h => exact .had (hE2 _ (.pairR (hE _ h) k))
    | text h => omega
    | made _ h => exact h _ hp
  | @sign i _ k ih =>
    have hp : (tmAt ts i).b ∈ partsV (tmAt ts i) := by simp [partsV, k]
    refine ⟨hpl i ih.1 _ hp, ?_⟩
    cases ih.2 with
    | had h => exact .had (hE2 _ (.sign (hE _ h) k))
    | text h => omega
    | made _ h => exact h _ hp
  | @lock i _ k _ ih ih2 =>
    have hp : (tmAt ts i).b ∈ partsV (tmAt ts i) := by simp [partsV, k]
    refine ⟨hpl i ih.1 _ hp, ?_⟩
    cases ih.2 with
    | had h => exact .had (hE2 _ (.lock (hE _ h) k (hE _ (cn_key ih2.2 (key_kind hok ih.1 k)))))
    | text h => omega
    | made _ h => exact h _ hp
theorem all_all {ts : List Tm} (hok : LOk ts) {hv : List Int} (hn : hv.length ≤ 1000) : allV ts (allV ts hv) = allV ts hv := by
  have h1 : askB ts hv = true := by simp [askB, lokB_true hok, hn]
  have e : allV ts hv = pick (cnB ts (endB ts hv)) ts.length := by simp [allV, h1]
  have hl : (pick (cnB ts (endB ts hv)) ts.length).length ≤ 1000 := by
    have := pick_length (cnB ts (endB ts hv)) ts.length
    have := hok.1
    omega
  rw [e]
  have h2 : askB ts (pick (cnB ts (endB ts hv)) ts.length) = true := by simp [askB, lokB_true hok, hl]
  unfold allV
  rw [if_pos h2]
  refine pick_congr fun j hj => ?_
  have hh : haveB ts.length (pick (cnB ts (endB ts hv)) ts.length) = fun j => decide (j < ts.length) && cnB ts (endB ts hv) j := by
    funext j
    exact have_pick _ _ _
  rw [Bool.eq_iff_iff, cnB_iff, cnB_iff]
  show Cn ts (opB ts (haveB ts.length (pick (cnB ts (endB ts hv)) ts.length))) j ↔ Cn ts (endB ts hv) j
  rw [hh]
  constructor
  · intro h
    induction h with
    | had h => exact (op_cn hok ((opB_iff _ _ _).1 h)).2
    | text h => exact .text h
    | @made i h _ ih =>
      refine .made h fun p hp => ih p hp ?_
      have := parts_below hok hj hp
      omega
  · intro h
    refine .had ((opB_iff _ _ _).2 (.had ?_))
    simp [hj, (cnB_iff _ _ _).2 h]

set_option maxRecDepth 100000 in
set_option maxHeartbeats 1000000 in
/-- Two lists that are the same. -/
theorem sameInts_any (A B : Option Addr) (l : List Int) (c c' : Nat) (w : World) (hA : IntsIn w 0 w.heap.size A l) (hB : IntsIn w 0 w.heap.size B l) (hn : l.length ≤ 1048576) :
    Calls Try.prog 27 #[.slice A l.length c, .slice B l.length c'] w fun e w' => e = .returned (.bool true) ∧ Below w.heap.size w w' := by
  have HA := Lib.hid hA
  have HB := Lib.hid hB
  clear hA hB
  go_enter Try.func27, Try.ntmps27
  go_wp2_with fail
  go_loopw [5] (fun i wr => ∃ k : Nat, k ≤ l.length ∧ i = .int .i64 k ∧ Below w.heap.size w wr) (fun i _ => l.length - (intOf i).toNat)
  case atStart => exact ⟨0, Nat.zero_le _, rfl, Below.refl _ _⟩
  case round =>
    obtain ⟨k, hk, rfl, hbr⟩ := hrel
    have HBr := Lib.hid hbr
    clear hbr
    by_cases hlt : k < l.length
    · obtain ⟨b, o, rfl, _, hb, hc⟩ := HA.out (by omega)
      obtain ⟨b2, o2, rfl, _, hb2, hc2⟩ := HB.out (by omega)
      have hc0 := (HBr.out.cell (p := ⟨b, o + k, none⟩) (by show b < _; omega)).trans (hc k hlt)
      have hd0 := (HBr.out.cell (p := ⟨b2, o2 + k, none⟩) (by show b2 < _; omega)).trans (hc2 k hlt)
      clear hc hc2
      go_wp2_with fail
      go_quiet (fail)
      have HB2 := Lib.hid (show Below w.heap.size w (wr.drewN nq) from below_drewN HBr.out nq)
      go_wp2_with fail
      go_roundw
      case rel => exact ⟨k + 1, by omega, by go_num, HB2.out⟩
      case measure => simp [intOf]; omega
    · go_wp2_with fail
      go_ret
      exact ⟨rfl, HBr.out⟩

/-- A ledger and a list are drawn. -/
def NewOp (w : World) (e : Ending) (w' : World) : Prop :=
  ∃ (ts : List Tm) (A : Option Addr) (c : Nat) (hv : List Int) (A2 : Option Addr) (c2 : Nat), e = .returned (.tuple #[.agg #[.slice A ts.length c], .slice A2 hv.length c2]) ∧ (ts.length ≤ 32 ∧ bulk ts ≤ 64 ∧ ∀ t ∈ ts, BentT t) ∧ (hv.length ≤ 4 ∧ ∀ x ∈ hv, -1 ≤ x ∧ x ≤ (ts.length : Int)) ∧
    TmsIn w' w.heap.size w'.heap.size A ts ∧ IntsIn w' w.heap.size w'.heap.size A2 hv ∧ Below w.heap.size w w'

set_option maxRecDepth 100000 in
set_option maxHeartbeats 1000000 in
theorem drawOpened_any (A : Option Addr) (c : Nat) (code : List UInt8) (w : World) (hA : BytesIn w 0 w.heap.size A code) (hn : code.length ≤ 9223372036854775807) :
    Calls Try.prog 22 #[.slice A code.length c] w (NewOp w) := by
  have HA := Lib.hid hA
  clear hA
  go_enter Try.func22, Try.ntmps22
  go_wp2_with fail
  obtain ⟨W0, hW0⟩ : ∃ y, y = w.alloc (.cells #[.slice none 0 0] 25) := ⟨_, rfl⟩
  have hb0 : Below w.heap.size w W0 := by rw [hW0]; exact (Below.refl _ _).alloc (Nat.le_refl _) _
  have hz0 : W0.heap.size = w.heap.size + 1 := by rw [hW0]; simp
  have r0 : W0.cell? ⟨w.heap.size, 0, none⟩ = some (.slice none 0 0) := by rw [hW0]; simp
  have rf : W0.frozen? ⟨w.heap.size, 0, none⟩ = false := by rw [hW0]; simp
  rw [← hW0]
  refine (l1New_any A c code W0 ((HA.out.keep fun p _ hp => hb0.cell hp).mono hb0.size) hn).mono ?_
  rintro e w1 ⟨rfl, hc1, hb1⟩
  obtain ⟨K, hKe⟩ : ∃ K, K = W0.heap.size := ⟨_, rfl⟩
  rw [← hKe] at hc1 hb1 ⊢
  have hKw : w.heap.size < K := by omega
  have hz1 := hc1.lt
  have HC1 := Lib.hid hc1
  have HB1 := Lib.hid (hb0.trans (hb1.mono (by omega)))
  have HR1 := Lib.hid (And.intro ((hb1.cell (p := ⟨w.heap.size, 0, none⟩) hKw).trans r0) ((hb1.frozen (p := ⟨w.heap.size, 0, none⟩) hKw).trans rf))
  clear hW0 hb0 hz0 r0 rf hKe hc1 hb1
  go_wp2_with fail
  refine (l1bent_any K code w1 HC1.out).mono ?_
  rintro e w2 ⟨ts, A1, c1, rfl, hl1, hk1, hall, ht2, hc2, ho2⟩
  have hz2 := ho2.size
  obtain ⟨W3, hW3⟩ : ∃ y, y = w2.alloc (.cells #[.slice A1 ts.length c1] 25) := ⟨_, rfl⟩
  have hb3 : Below w2.heap.size w2 W3 := by rw [hW3]; exact (Below.refl _ _).alloc (Nat.le_refl _) _
  have b3 : W3.cell? ⟨w2.heap.size, 0, none⟩ = some (.slice A1 ts.length c1) := by rw [hW3]; simp
  have hz3 : w2.heap.size < W3.heap.size := by rw [hW3]; simp
  have HT3 := Lib.hid (ht2.keep fun p _ hp => hb3.cell hp)
  have HC3 := Lib.hid (hc2.below hb3 (by omega))
  have HO3 := Lib.hid (ho2.below hb3)
  have HR3 := Lib.hid (And.intro ((hb3.cell (p := ⟨w.heap.size, 0, none⟩) (by show w.heap.size < _; omega)).trans ((ho2.cell (p := ⟨w.heap.size, 0, none⟩) (by show w.heap.size < _; omega) (by show w.heap.size ≠ K; omega)).trans HR1.out.1)) ((hb3.frozen (p := ⟨w.heap.size, 0, none⟩) (by show w.heap.size < _; omega)).trans ((ho2.frozen (p := ⟨w.heap.size, 0, none⟩) (by show w.heap.size < _; omega) (by show w.heap.size ≠ K; omega)).trans HR1.out.2)))
  have HAll := Lib.hid (And.intro hl1 (And.intro hk1 hall))
  clear HR1 HC1 ht2 hc2 ho2 hb3 hk1 hall
  have b3' := b3
  have HCall := Lib.hid (fun (X : World) (hX : Below W3.heap.size W3 X) => show Calls Try.prog 54 #[.pointer (some ⟨K, 0, none⟩), .int .i64 ts.length] X (fun e w' => ∃ (hv : List Int) (A2 : Option Addr) (c2 : Nat), e = .returned (.slice A2 hv.length c2) ∧ w'.cell? ⟨w2.heap.size, 0, none⟩ = some (.slice A1 ts.length c1) ∧ w'.cell? ⟨w.heap.size, 0, none⟩ = some (.slice none 0 0) ∧ w'.frozen? ⟨w.heap.size, 0, none⟩ = false ∧ ∀ V, NewOp w (.returned (.tuple #[.agg #[.slice A1 ts.length c1], .slice A2 hv.length c2])) (w'.setCell ⟨w.heap.size, 0, none⟩ V)) from
    (l2some_any K code ts.length (by omega) X (HC3.out.below hX (by omega))).mono (by
      rintro e w' ⟨hv, A2, c2, rfl, hl4, hall4, hi4, hc, ho⟩
      have hXs := hX.size
      have hkeep : ∀ p : Addr, p.block < W3.heap.size → p.block ≠ K → w'.cell? p = W3.cell? p := fun p h1 h2 => (ho.cell (by omega) h2).trans (hX.cell h1)
      refine ⟨hv, A2, c2, rfl, (hkeep ⟨w2.heap.size, 0, none⟩ (by show w2.heap.size < _; omega) (by show w2.heap.size ≠ K; omega)).trans b3', (hkeep ⟨w.heap.size, 0, none⟩ (by show w.heap.size < _; omega) (by show w.heap.size ≠ K; omega)).trans HR3.out.1, ((ho.frozen (p := ⟨w.heap.size, 0, none⟩) (by show w.heap.size < _; omega) (by show w.heap.size ≠ K; omega)).trans (hX.frozen (p := ⟨w.heap.size, 0, none⟩) (by show w.heap.size < _; omega))).trans HR3.out.2, fun V => ?_⟩
      have hall : OffK K w1 w' := (HO3.out.below hX).trans ho (.inl rfl)
      refine ⟨ts, A1, c1, hv, A2, c2, rfl, HAll.out, ⟨hl4, hall4⟩, ?_, ?_, (HB1.out.trans (hall.low (B := w.heap.size) (by omega) (by omega))).setCell (Nat.le_refl _) _⟩
      · refine TmsIn.mono (TmsIn.low (HT3.out.keep fun p hp hp2 => ?_) (by omega)) (by have := ho.size; simp; omega)
        rw [World.cell?_setCell_other _ _ _ _ (fun e => by subst e; exact absurd hp (by show ¬ (w1.heap.size ≤ w.heap.size); omega)), hkeep p (by omega) (by omega)]
      · refine IntsIn.mono (IntsIn.low (hi4.keep fun p hp _ => ?_) (by omega)) (by simp)
        rw [World.cell?_setCell_other _ _ _ _ (fun e => by subst e; exact absurd hp (by show ¬ (X.heap.size ≤ w.heap.size); omega))]))
  clear b3' HT3 HO3 HR3 HAll HB1 HC3
  go_upto_region 3 with fail
  rw [← hW3]
  clear hW3
  go_region_law
    (first
      | (go_simp
         go_at_call 54
         refine (HCall.out _ ?_).mono ?_
         · exact (Below.refl _ _).drew
         rintro e w6 ⟨hv, A2, c2, rfl, cb6, r6, rf6, hf6⟩
         have HF := Lib.hid hf6
         clear HCall hf6
         go_wp2_with fail))
  all_goals
    go_wp2_with fail
    refine bodyPost_ret (v := .tuple #[.agg #[.slice A1 ts.length c1], .slice A2 hv.length c2]) (by simp [results, Try.results22, go_sem, *]) rfl ?_
    exact HF.out _

end Go.Proofs.Ytigkojdchpjkcaa

namespace Go.Proofs.Ytigkojdchpjkcaa
open Go.RowKit Go.Maps

/-- A ledger and a number are drawn. -/
def NewAtD (w : World) (e : Ending) (w' : World) : Prop :=
  ∃ (ts : List Tm) (A : Option Addr) (c : Nat) (id : Int), e = .returned (.tuple #[.agg #[.slice A ts.length c], .int .i64 id]) ∧ (ts.length ≤ 32 ∧ bulk ts ≤ 64 ∧ ∀ t ∈ ts, BentT t) ∧ (-1 ≤ id ∧ id ≤ (ts.length : Int)) ∧
    TmsIn w' w.heap.size w'.heap.size A ts ∧ Below w.heap.size w w'

set_option maxRecDepth 100000 in
set_option maxHeartbeats 1000000 in
theorem drawAt_any (A : Option Addr) (c : Nat) (code : List UInt8) (w : World) (hA : BytesIn w 0 w.heap.size A code) (hn : code.length ≤ 9223372036854775807) :
    Calls Try.prog 68 #[.slice A code.length c] w (NewAtD w) := by
  have HA := Lib.hid hA
  clear hA
  go_enter Try.func68, Try.ntmps68
  go_wp2_with fail
  obtain ⟨W0, hW0⟩ : ∃ y, y = w.alloc (.cells #[.slice none 0 0] 25) := ⟨_, rfl⟩
  have hb0 : Below w.heap.size w W0 := by rw [hW0]; exact (Below.refl _ _).alloc (Nat.le_refl _) _
  have hz0 : W0.heap.size = w.heap.size + 1 := by rw [hW0]; simp
  have r0 : W0.cell? ⟨w.heap.size, 0, none⟩ = some (.slice none 0 0) := by rw [hW0]; simp
  have rf : W0.frozen? ⟨w.heap.size, 0, none⟩ = false := by rw [hW0]; simp
  rw [← hW0]
  refine (l1New_any A c code W0 ((HA.out.keep fun p _ hp => hb0.cell hp).mono hb0.size) hn).mono ?_
  rintro e w1 ⟨rfl, hc1, hb1⟩
  obtain ⟨K, hKe⟩ : ∃ K, K = W0.heap.size := ⟨_, rfl⟩
  rw [← hKe] at hc1 hb1 ⊢
  have hKw : w.heap.size < K := by omega
  have hz1 := hc1.lt
  have HC1 := Lib.hid hc1
  have HB1 := Lib.hid (hb0.trans (hb1.mono (by omega)))
  have HR1 := Lib.hid (And.intro ((hb1.cell (p := ⟨w.heap.size, 0, none⟩) hKw).trans r0) ((hb1.frozen (p := ⟨w.heap.size, 0, none⟩) hKw).trans rf))
  clear hW0 hb0 hz0 r0 rf hKe hc1 hb1
  go_wp2_with fail
  refine (l1bent_any K code w1 HC1.out).mono ?_
  rintro e w2 ⟨ts, A1, c1, rfl, hl1, hk1, hall, ht2, hc2, ho2⟩
  have hz2 := ho2.size
  obtain ⟨W3, hW3⟩ : ∃ y, y = w2.alloc (.cells #[.slice A1 ts.length c1] 25) := ⟨_, rfl⟩
  have hb3 : Below w2.heap.size w2 W3 := by rw [hW3]; exact (Below.refl _ _).alloc (Nat.le_refl _) _
  have b3 : W3.cell? ⟨w2.heap.size, 0, none⟩ = some (.slice A1 ts.length c1) := by rw [hW3]; simp
  have hz3 : w2.heap.size < W3.heap.size := by rw [hW3]; simp
  have HT3 := Lib.hid (ht2.keep fun p _ hp => hb3.cell hp)
  have HC3 := Lib.hid (hc2.below hb3 (by omega))
  have HO3 := Lib.hid (ho2.below hb3)
  have HR3 := Lib.hid (And.intro ((hb3.cell (p := ⟨w.heap.size, 0, none⟩) (by show w.heap.size < _; omega)).trans ((ho2.cell (p := ⟨w.heap.size, 0, none⟩) (by show w.heap.size < _; omega) (by show w.heap.size ≠ K; omega)).trans HR1.out.1)) ((hb3.frozen (p := ⟨w.heap.size, 0, none⟩) (by show w.heap.size < _; omega)).trans ((ho2.frozen (p := ⟨w.heap.size, 0, none⟩) (by show w.heap.size < _; omega) (by show w.heap.size ≠ K; omega)).trans HR1.out.2)))
  have HAll := Lib.hid (And.intro hl1 (And.intro hk1 hall))
  clear HR1 HC1 ht2 hc2 ho2 hb3 hk1 hall
  have b3' := b3
  have HCall := Lib.hid (fun (X : World) (hX : Below W3.heap.size W3 X) => show Calls Try.prog 52 #[.pointer (some ⟨K, 0, none⟩), .int .i64 (IntKind.i64.wrap ((ts.length : Int) + 2))] X (fun e w' => ∃ x, e = .returned (.int .i64 x) ∧ IntKind.i64.wrap (x - 1) = x - 1 ∧ w'.cell? ⟨w2.heap.size, 0, none⟩ = some (.slice A1 ts.length c1) ∧ w'.cell? ⟨w.heap.size, 0, none⟩ = some (.slice none 0 0) ∧ w'.frozen? ⟨w.heap.size, 0, none⟩ = false ∧ ∀ V, NewAtD w (.returned (.tuple #[.agg #[.slice A1 ts.length c1], .int .i64 (x - 1)])) (w'.setCell ⟨w.heap.size, 0, none⟩ V)) from by
    rw [show IntKind.i64.wrap ((ts.length : Int) + 2) = (ts.length : Int) + 2 by rw [IntKind.wrap_i64]; omega]
    exact (l1Below_any K code ((ts.length : Int) + 2) X (HC3.out.below hX (by omega))).mono (by
      rintro e w' ⟨x, rfl, hx, hc, ho⟩
      have hx' := hx.2.1 (by omega)
      have hXs := hX.size
      have hkeep : ∀ p : Addr, p.block < W3.heap.size → p.block ≠ K → w'.cell? p = W3.cell? p := fun p h1 h2 => (ho.cell (by omega) h2).trans (hX.cell h1)
      refine ⟨x, rfl, by rw [IntKind.wrap_i64]; omega, (hkeep ⟨w2.heap.size, 0, none⟩ (by show w2.heap.size < _; omega) (by show w2.heap.size ≠ K; omega)).trans b3', (hkeep ⟨w.heap.size, 0, none⟩ (by show w.heap.size < _; omega) (by show w.heap.size ≠ K; omega)).trans HR3.out.1, ((ho.frozen (p := ⟨w.heap.size, 0, none⟩) (by show w.heap.size < _; omega) (by show w.heap.size ≠ K; omega)).trans (hX.frozen (p := ⟨w.heap.size, 0, none⟩) (by show w.heap.size < _; omega))).trans HR3.out.2, fun V => ?_⟩
      have hall : OffK K w1 w' := (HO3.out.below hX).trans ho (.inl rfl)
      refine ⟨ts, A1, c1, x - 1, rfl, HAll.out, by omega, ?_, (HB1.out.trans (hall.low (B := w.heap.size) (by omega) (by omega))).setCell (Nat.le_refl _) _⟩
      refine TmsIn.mono (TmsIn.low (HT3.out.keep fun p hp hp2 => ?_) (by omega)) (by have := ho.size; simp; omega)
      rw [World.cell?_setCell_other _ _ _ _ (fun e => by subst e; exact absurd hp (by show ¬ (w1.heap.size ≤ w.heap.size); omega)), hkeep p (by omega) (by omega)]))
  clear b3' HT3 HO3 HR3 HAll HB1 HC3
  go_upto_region 3 with fail
  rw [← hW3]
  clear hW3
  go_region_law
    (first
      | (go_simp
         go_at_call 52
         refine (HCall.out _ ?_).mono ?_
         · exact (Below.refl _ _).drew
         rintro e w6 ⟨x6, rfl, he6, cb6, r6, rf6, hf6⟩
         have HF := Lib.hid hf6
         clear HCall hf6
         go_wp2_with fail))
  all_goals
    go_wp2_with fail
    refine bodyPost_ret (v := .tuple #[.agg #[.slice A1 ts.length c1], .int .i64 (x6 - 1)]) (by simp [results, Try.results68, go_sem, *]) rfl ?_
    exact HF.out _

set_option maxRecDepth 100000 in
set_option maxHeartbeats 1000000 in
theorem drawUsesOf_any (A : Option Addr) (c : Nat) (code : List UInt8) (w : World) (hA : BytesIn w 0 w.heap.size A code) (hn : code.length ≤ 9223372036854775807) :
    Calls Try.prog 35 #[.slice A code.length c] w (NewAtD w) := by
  have HA := Lib.hid hA
  clear hA
  go_enter Try.func35, Try.ntmps35
  go_wp2_with fail
  obtain ⟨W0, hW0⟩ : ∃ y, y = w.alloc (.cells #[.slice none 0 0] 25) := ⟨_, rfl⟩
  have hb0 : Below w.heap.size w W0 := by rw [hW0]; exact (Below.refl _ _).alloc (Nat.le_refl _) _
  have hz0 : w.heap.size < W0.heap.size := by rw [hW0]; simp
  have r0 : W0.cell? ⟨w.heap.size, 0, none⟩ = some (.slice none 0 0) := by rw [hW0]; simp
  have rf : W0.frozen? ⟨w.heap.size, 0, none⟩ = false := by rw [hW0]; simp
  rw [← hW0]
  refine (drawAt_any A c code W0 ((HA.out.keep fun p _ hp => hb0.cell hp).mono hb0.size) hn).mono ?_
  rintro e w1 ⟨ts, A1, c1, id, rfl, h1, h2, ht, hb1⟩
  have r1 := (hb1.cell (p := ⟨w.heap.size, 0, none⟩) hz0).trans r0
  have rf1 := (hb1.frozen (p := ⟨w.heap.size, 0, none⟩) hz0).trans rf
  have HF := Lib.hid (fun V => show NewAtD w (.returned (.tuple #[.agg #[.slice A1 ts.length c1], .int .i64 id])) (w1.setCell ⟨w.heap.size, 0, none⟩ V) from
    ⟨ts, A1, c1, id, rfl, h1, h2, ((ht.set (by show w.heap.size < W0.heap.size; omega) V).low (by omega)).mono (by simp), (hb0.trans (hb1.mono (by omega))).setCell (Nat.le_refl _) _⟩)
  clear hW0 hb0 r0 rf h1 h2 ht hb1
  go_wp2_with fail
  refine bodyPost_ret (v := .tuple #[.agg #[.slice A1 ts.length c1], .int .i64 id]) (by simp [results, Try.results35, go_sem, *]) rfl ?_
  exact HF.out _

set_option maxRecDepth 100000 in
set_option maxHeartbeats 1000000 in
theorem drawAll_any (A : Option Addr) (c : Nat) (code : List UInt8) (w : World) (hA : BytesIn w 0 w.heap.size A code) (hn : code.length ≤ 9223372036854775807) :
    Calls Try.prog 34 #[.slice A code.length c] w (NewOp w) := by
  have HA := Lib.hid hA
  clear hA
  go_enter Try.func34, Try.ntmps34
  go_wp2_with fail
  obtain ⟨W0, hW0⟩ : ∃ y, y = w.alloc (.cells #[.slice none 0 0] 25) := ⟨_, rfl⟩
  have hb0 : Below w.heap.size w W0 := by rw [hW0]; exact (Below.refl _ _).alloc (Nat.le_refl _) _
  have hz0 : w.heap.size < W0.heap.size := by rw [hW0]; simp
  have r0 : W0.cell? ⟨w.heap.size, 0, none⟩ = some (.slice none 0 0) := by rw [hW0]; simp
  have rf : W0.frozen? ⟨w.heap.size, 0, none⟩ = false := by rw [hW0]; simp
  rw [← hW0]
  refine (drawOpened_any A c code W0 ((HA.out.keep fun p _ hp => hb0.cell hp).mono hb0.size) hn).mono ?_
  rintro e w1 ⟨ts, A1, c1, hv, A2, c2, rfl, h1, h2, ht, hi, hb1⟩
  have r1 := (hb1.cell (p := ⟨w.heap.size, 0, none⟩) hz0).trans r0
  have rf1 := (hb1.frozen (p := ⟨w.heap.size, 0, none⟩) hz0).trans rf
  have HF := Lib.hid (fun V => show NewOp w (.returned (.tuple #[.agg #[.slice A1 ts.length c1], .slice A2 hv.length c2])) (w1.setCell ⟨w.heap.size, 0, none⟩ V) from
    ⟨ts, A1, c1, hv, A2, c2, rfl, h1, h2, ((ht.set (by show w.heap.size < W0.heap.size; omega) V).low (by omega)).mono (by simp), ((hi.keep fun p hp _ => World.cell?_setCell_other _ _ _ _ (fun e => by subst e; exact absurd hp (by show ¬ (W0.heap.size ≤ w.heap.size); omega))).low (by omega)).mono (by simp), (hb0.trans (hb1.mono (by omega))).setCell (Nat.le_refl _) _⟩)
  clear hW0 hb0 r0 rf h1 h2 ht hi hb1
  go_wp2_with fail
  refine bodyPost_ret (v := .tuple #[.agg #[.slice A1 ts.length c1], .slice A2 hv.length c2]) (by simp [results, Try.results34, go_sem, *]) rfl ?_
  exact HF.out _

end Go.Proofs.Ytigkojdchpjkcaa

namespace Go.Proofs.Ytigkojdchpjkcaa
open Go.RowKit Go.Maps

def kF : Tm := ⟨1, 900, 0, []⟩
def nF : Tm := ⟨0, 901, 0, []⟩
def sF (n : Nat) : Tm := ⟨5, n, (n : Int) + 1, []⟩

theorem kF_new {ts : List Tm} (h : ∀ t ∈ ts, BentT t) : kF ∉ ts := fun hm => by
  have := (h _ hm).low (by decide)
  simp [kF] at this
theorem nF_new {ts : List Tm} (h : ∀ t ∈ ts, BentT t) : nF ∉ ts ++ [kF] := fun hm => by
  rcases List.mem_append.1 hm with hm | hm
  · have := (h _ hm).low (by decide)
    simp [nF] at this
  · simp [nF, kF] at hm
theorem sF_new {ts : List Tm} (hok : LOk ts) : sF ts.length ∉ ts ++ [kF] ++ [nF] := fun hm => by
  simp only [List.mem_append, List.mem_singleton] at hm
  rcases hm with (hm | hm) | hm
  · obtain ⟨i, hi, he⟩ := List.getElem_of_mem hm
    have hp : (tmAt ts i).a ∈ partsV (tmAt ts i) := by
      rw [tmAt_nat ts i hi, he]
      simp [partsV, sF]
    have := parts_below hok hi hp
    rw [tmAt_nat ts i hi, he] at this
    simp [sF] at this
    omega
  · simp [sF, kF] at hm
  · simp [sF, nF] at hm
theorem lok_kF {ts : List Tm} (hok : LOk ts) (h : ∀ t ∈ ts, BentT t) (hl : ts.length ≤ 32) : LOk (ts ++ [kF]) :=
  lok_snoc hok (by simp [okB, kF]) (by simp [keyedB, kF]) (kF_new h) (by omega)
theorem lok_nF {ts : List Tm} (hok : LOk ts) (h : ∀ t ∈ ts, BentT t) (hl : ts.length ≤ 32) : LOk (ts ++ [kF] ++ [nF]) :=
  lok_snoc (lok_kF hok h hl) (by simp [okB, nF]) (by simp [keyedB, nF]) (nF_new h) (by simp; omega)
theorem lok_sF {ts : List Tm} (hok : LOk ts) (h : ∀ t ∈ ts, BentT t) (hl : ts.length ≤ 32) : LOk (ts ++ [kF] ++ [nF] ++ [sF ts.length]) := by
  refine lok_snoc (lok_nF hok h hl) ?_ ?_ (sF_new hok) (by simp; omega)
  · have e : (ts ++ [kF] ++ [nF]).length = ts.length + 2 := by simp
    rw [e]
    unfold okB
    rw [if_neg (by simp [sF]), if_neg (by simp [sF]), if_neg (by simp [sF]), if_pos (by simp [sF])]
    simp only [sF, Bool.and_eq_true]
    exact ⟨⟨⟨⟨decide_eq_true (by omega), decide_eq_true (by omega)⟩, decide_eq_true (by omega)⟩, decide_eq_true (by omega)⟩, rfl⟩
  · simp [keyedB, sF, kF]

/-- What all four are: the old ones, the key, the nonce, the seal. -/
def frT (ts : List Tm) : List Tm := ts ++ [kF] ++ [nF] ++ [sF ts.length]
theorem frT_len (ts : List Tm) : (frT ts).length = ts.length + 3 := by simp [frT]
theorem frT_k (ts : List Tm) : tmAt (frT ts) (ts.length : Nat) = kF := by
  unfold tmAt
  rw [Int.toNat_natCast]
  simp [frT]
theorem frT_n (ts : List Tm) : tmAt (frT ts) ((ts.length + 1 : Nat) : Int) = nF := by
  unfold tmAt
  rw [Int.toNat_natCast]
  simp [frT]
theorem frT_s (ts : List Tm) : tmAt (frT ts) ((ts.length + 2 : Nat) : Int) = sF ts.length := by
  unfold tmAt
  rw [Int.toNat_natCast]
  simp [frT]
theorem lok_fr {ts : List Tm} (hok : LOk ts) (h : ∀ t ∈ ts, BentT t) (hl : ts.length ≤ 32) : LOk (frT ts) := lok_sF hok h hl

/-- Of the old ones and the seal alone neither the key nor the nonce is had. -/
theorem fr_end {ts : List Tm} (hok : LOk (frT ts)) {hv : List Int} (hh : ∀ x ∈ hv, x < ts.length ∨ x = (ts.length : Int) + 2) {j : Nat} (hj : endB (frT ts) hv j = true) : j < ts.length ∨ j = ts.length + 2 := by
  unfold endB at hj
  rw [opB_iff] at hj
  have := op_closed (f := fun j => decide (j < ts.length ∨ j = ts.length + 2)) (fun j hj => by
    simp only [haveB, Bool.and_eq_true, decide_eq_true_eq, List.contains_iff_mem] at hj
    have := hh _ hj.2
    simp only [decide_eq_true_eq]
    omega) (fun i hi p hp => by
    simp only [decide_eq_true_eq] at hi ⊢
    rcases hi with hi | rfl
    · have := gives_below hok (show i < (frT ts).length by rw [frT_len]; omega) _ hp
      omega
    · rw [frT_s] at hp
      simp [givesV, sF] at hp) hj
  simpa using this
theorem fr_secret {ts : List Tm} (hok : LOk (frT ts)) {hv : List Int} (hn : hv.length ≤ 1000) (hh : ∀ x ∈ hv, x < ts.length ∨ x = (ts.length : Int) + 2) : secretV (frT ts) hv (ts.length + 1 : Nat) = true ∧ secretV (frT ts) hv (ts.length : Nat) = true := by
  have hno : ∀ j : Nat, j = ts.length ∨ j = ts.length + 1 → canV (frT ts) hv j = false := fun j hj => by
    have hc : cnB (frT ts) (endB (frT ts) hv) j = false := by
      cases h : cnB (frT ts) (endB (frT ts) hv) j with
      | false => rfl
      | true =>
        have h' := (cnB_iff _ _ _).1 h
        have hk : tmAt (frT ts) (j : Nat) = kF ∨ tmAt (frT ts) (j : Nat) = nF := by
          rcases hj with rfl | rfl
          · exact .inl (frT_k ts)
          · exact .inr (frT_n ts)
        cases h' with
        | had h => have := fr_end hok hh h; omega
        | text h => rcases hk with e | e <;> rw [e] at h <;> simp [kF, nF] at h
        | made h => rcases hk with e | e <;> rw [e] at h <;> simp [partsV, kF, nF] at h
    unfold canV
    rw [Int.toNat_natCast, hc]
    simp
  have hask : askB (frT ts) hv = true := by simp [askB, lokB_true hok, hn]
  refine ⟨?_, ?_⟩
  · have := hno (ts.length + 1) (.inr rfl)
    unfold secretV
    rw [hask, this, frT_len, (hasB_iff _ _).2 (by omega)]
    rfl
  · have := hno ts.length (.inl rfl)
    unfold secretV
    rw [hask, this, frT_len, (hasB_iff _ _).2 (by omega)]
    rfl
theorem fr_can {ts : List Tm} (hok : LOk (frT ts)) {hv : List Int} (hn : hv.length ≤ 1000) (hs : (ts.length : Int) + 2 ∈ hv) (hk : (ts.length : Int) ∈ hv) : canV (frT ts) hv (ts.length + 1 : Nat) = true := by
  have hask : askB (frT ts) hv = true := by simp [askB, lokB_true hok, hn]
  have hhad : ∀ j : Nat, j < ts.length + 3 → (j : Int) ∈ hv → Op (frT ts) (haveB (frT ts).length hv) j := fun j hj hm => .had (by
    simp only [haveB, Bool.and_eq_true, decide_eq_true_eq, List.contains_iff_mem, frT_len]
    exact ⟨hj, hm⟩)
  have h1 := hhad (ts.length + 2) (by omega) (by simpa using hs)
  have h2 := hhad ts.length (by omega) hk
  have h3 : Op (frT ts) (haveB (frT ts).length hv) (ts.length + 1) := by
    have h := Op.lock h1 (by rw [frT_s]; rfl) (by rw [frT_s]; simpa [sF] using h2)
    rw [frT_s] at h
    have e : (sF ts.length).b.toNat = ts.length + 1 := by
      show ((ts.length : Int) + 1).toNat = ts.length + 1
      omega
    rwa [e] at h
  have hc : cnB (frT ts) (endB (frT ts) hv) (ts.length + 1) = true := (cnB_iff _ _ _).2 (.had ((opB_iff _ _ _).2 h3))
  unfold canV
  rw [hask, frT_len, (hasB_iff _ _).2 (by omega), Int.toNat_natCast, hc]
  rfl

/-- What Intern answers at each of the three. -/
theorem int_kF {ts : List Tm} (hok : LOk ts) (h : ∀ t ∈ ts, BentT t) (hl : ts.length ≤ 32) : internL ts kF = ts ++ [kF] ∧ internI ts kF = (ts.length : Int) :=
  intern_new (termB_of hok (by simp [okB, kF]) (by simp [keyedB, kF])) (kF_new h) (by omega)
theorem int_nF {ts : List Tm} (hok : LOk ts) (h : ∀ t ∈ ts, BentT t) (hl : ts.length ≤ 32) : internL (ts ++ [kF]) nF = ts ++ [kF] ++ [nF] ∧ internI (ts ++ [kF]) nF = (ts.length : Int) + 1 := by
  have := intern_new (termB_of (lok_kF hok h hl) (t := nF) (by simp [okB, nF]) (by simp [keyedB, nF])) (nF_new h) (by simp; omega)
  exact ⟨this.1, by rw [this.2]; simp⟩
theorem int_sF {ts : List Tm} (hok : LOk ts) (h : ∀ t ∈ ts, BentT t) (hl : ts.length ≤ 32) : internL (ts ++ [kF] ++ [nF]) (sF ts.length) = frT ts ∧ internI (ts ++ [kF] ++ [nF]) (sF ts.length) = (ts.length : Int) + 2 := by
  have e : (ts ++ [kF] ++ [nF]).length = ts.length + 2 := by simp
  have ho : okB (ts ++ [kF] ++ [nF]).length (sF ts.length) = true := by
    rw [e]
    unfold okB
    rw [if_neg (by simp [sF]), if_neg (by simp [sF]), if_neg (by simp [sF]), if_pos (by simp [sF])]
    simp only [sF, Bool.and_eq_true]
    exact ⟨⟨⟨⟨decide_eq_true (by omega), decide_eq_true (by omega)⟩, decide_eq_true (by omega)⟩, decide_eq_true (by omega)⟩, rfl⟩
  have := intern_new (termB_of (lok_nF hok h hl) ho (by simp [keyedB, sF, kF])) (sF_new hok) (by rw [e]; omega)
  exact ⟨this.1, by rw [this.2, e]; rfl⟩

end Go.Proofs.Ytigkojdchpjkcaa

namespace Go.Proofs.Ytigkojdchpjkcaa
open Go.RowKit Go.Maps

theorem Pz.one3 {W Y : World} {N : Nat} {ops : Array Oper} {o : Oper} {a : Act} {Q : Exit → Act → World → Prop} {E : Prop} {KK : Act → World → Prop} {y : Int} {T : TypeId} (h : Pz W N Y) (hgd : o.guard = none ∨ Region.wanted o (yielded ops a.tmps) = true) (s x : Operand)
    (ho : o.op = .call { callee := .builtin .append, args := #[s, x], argTypes := #[46, 46] }) (A : Option Addr) (l : List Int) (n c : Nat) (hnl : l.length = n) (hs : a.eval s = .slice A n c) (hown : Y.ownsRow N 3 1 (.slice A l.length c) l.length (l.map vint))
    (hx : a.eval x = .slice (some ⟨Y.heap.size, 0, none⟩) 1 1) (hl : l.length ≤ 1048576)
    (hK : ∀ A7 c7 w7, Pz W N w7 → IntsIn w7 0 w7.heap.size A7 (l ++ [y]) → KK (a.put o.dst (.slice A7 (n + 1) c7)) w7) :
    if Region.wanted o (yielded ops a.tmps) = true then Oper.wp Try.prog o a (Y.alloc (.cells #[.int .i64 y] T)) KK Q else E := by
  have hw : Region.wanted o (yielded ops a.tmps) = true := by
    rcases hgd with h | h
    · simp [Region.wanted, h]
    · exact h
  rw [if_pos hw]
  subst hnl
  obtain ⟨i0, hi0, hz0, hz1, hz2⟩ := info_parts Try.infoInt
  have hsz := h.sz
  obtain ⟨A', cap, w', hr, h2, h3⟩ := apg_run (P := Try.prog) (Y.alloc (.cells #[.int .i64 y] T)) N 46 o.type 3 i0 (.int .i64 0) 1 8 Try.underlying46 hi0 hz0 hz1 hz2 rfl (by decide) _ l.length (l.map vint) (hown.alloc _) (some ⟨Y.heap.size, 0, none⟩) 1 1 [.int .i64 y] rfl ⟨fun e => (by cases e), fun ad e j u hu => by
    cases e
    have hj : j = 0 := by
      have := (List.getElem?_eq_some_iff.1 hu).1
      simpa using this
    subst hj
    rw [Addr.add_lit]
    simpa using hu⟩ (fun u hu => by simp at hu; subst hu; rfl) (by unfold maxLen; omega) (by omega) (by simp; omega)
  unfold Oper.wp execOp
  simp only [ho, resolve, invoke, builtin, Sem.run_bind, Sem.run_pure, Result.andThen_ok, List.map_toArray, List.map_cons, List.map_nil, hs, hx, hr]
  refine hK A' cap w' ((h.alloc _).grown h3 fun k hk => (hown.lt k hk).1) ?_
  have hr2 : w'.ownsRow N 3 1 (.slice A' (l ++ [y]).length cap) (l ++ [y]).length ((l ++ [y]).map vint) := by simpa [vint] using h2
  exact ((ints_of_row hr2).ints).low (Nat.zero_le _)

set_option maxRecDepth 100000 in
set_option maxHeartbeats 4000000 in
theorem fnFresh_any (A : Option Addr) (c : Nat) (code : List UInt8) (w : World) (hA : BytesIn w 0 w.heap.size A code) (hn : code.length ≤ 9223372036854775807) :
    Calls Try.prog 8 #[.slice A code.length c] w fun e w' => e = .returned (.bool true) ∧ Below w.heap.size w w' := by
  have HA := Lib.hid hA
  clear hA
  go_enter Try.func8, Try.ntmps8
  go_wp2_with fail
  refine (drawAll_any A c code w HA.out hn).mono ?_
  rintro e w1 ⟨ts, A1, c1, hv, A2, c2, rfl, ⟨hl1, hk1, hbt⟩, ⟨hvl, _⟩, ht1, hi1, hb1⟩
  obtain ⟨W2, hW2⟩ : ∃ y, y = w1.alloc (.cells #[.slice A1 ts.length c1] 25) := ⟨_, rfl⟩
  have hb2 : Below w1.heap.size w1 W2 := by rw [hW2]; exact (Below.refl _ _).alloc (Nat.le_refl _) _
  have b2 : W2.cell? ⟨w1.heap.size, 0, none⟩ = some (.slice A1 ts.length c1) := by rw [hW2]; simp
  have hz2 : w1.heap.size < W2.heap.size := by rw [hW2]; simp
  have HT2 := Lib.hid (ht1.keep fun p _ hp => hb2.cell hp)
  have HI2 := Lib.hid (hi1.keep fun p _ hp => hb2.cell hp)
  have HB2 := Lib.hid (hb1.trans (hb2.mono hb1.size))
  have hzw := hb1.size
  have HBt := Lib.hid hbt
  clear ht1 hi1 hb1 hb2 hbt
  go_upto_region 2 with fail
  rw [← hW2]
  clear hW2
  go_wp2_with fail
  refine (specLedgerOk_any A1 ts c1 w.heap.size w1.heap.size W2 HT2.out (by omega) (by omega) (by omega)).mono ?_
  rintro e w3 ⟨rfl, hb3⟩
  have hz3 := hb3.size
  have b3 := (hb3.cell (p := ⟨w1.heap.size, 0, none⟩) hz2).trans b2
  have HB3 := Lib.hid hb3
  clear hb3 b2
  cases hlk : lokB ts with
  | false =>
    have CT := Lib.hid (terms_any w3)
    clear hlk
    go_wp2_with fail
    refine CT.out.mono ?_
    rintro e w5 ⟨rfl, hb5⟩
    have HF := Lib.hid (HB2.out.trans ((HB3.out.trans (hb5.mono (by omega))).mono (by omega)))
    clear hb5 CT
    go_wp2_with fail
    go_ret
    exact ⟨rfl, HF.out⟩
  | true =>
    have HOk := Lib.hid (lok_of hlk)
    clear hlk
    go_wp2_with fail
    have d1 := implIntern_g A1 none w.heap.size w1.heap.size ts c1 kF 0 0 0 w3 (HT2.out.keep fun p _ hp => HB3.out.cell (by omega)) (by omega) (by omega) (by omega) (bytes_nil _ _ _ _) (Nat.zero_le _) (by decide)
    rw [(int_kF HOk.out HBt.out hl1).1, (int_kF HOk.out HBt.out hl1).2] at d1
    refine d1.mono ?_
    intro e w4 h4
    obtain ⟨A4, c4, rfl, ht4, hb4⟩ := led_tms h4 (ts.length + 1) (by simp)
    clear h4 d1
    have hz4 := hb4.size
    have b4 := (hb4.cell (p := ⟨w1.heap.size, 0, none⟩) (by show w1.heap.size < _; omega)).trans b3
    obtain ⟨W5, hW5⟩ : ∃ y, y = w4.alloc (.cells #[.slice A4 (ts.length + 1) c4] 25) := ⟨_, rfl⟩
    have hb5 : Below w4.heap.size w4 W5 := by rw [hW5]; exact (Below.refl _ _).alloc (Nat.le_refl _) _
    have x5 : W5.cell? ⟨w4.heap.size, 0, none⟩ = some (.slice A4 (ts.length + 1) c4) := by rw [hW5]; simp
    have xf5 : W5.frozen? ⟨w4.heap.size, 0, none⟩ = false := by rw [hW5]; simp
    have hz5 : w4.heap.size < W5.heap.size := by rw [hW5]; simp
    have b5 := (hb5.cell (p := ⟨w1.heap.size, 0, none⟩) (by show w1.heap.size < _; omega)).trans b4
    have HT5 := Lib.hid (ht4.keep fun p _ hp => hb5.cell hp)
    have HB5 := Lib.hid (HB3.out.trans ((hb4.trans (hb5.mono (by omega))).mono (by omega)))
    clear ht4 hb4 hb5 b3 b4
    go_upto_region 5 with fail
    rw [← hW5]
    clear hW5
    go_wp2_with fail
    have d2 := implIntern_g A4 none w3.heap.size w4.heap.size (ts ++ [kF]) c4 nF 0 0 0 W5 HT5.out (by omega) (by simp; omega) (by simp [bulk_append, bulk, kF]; omega) (bytes_nil _ _ _ _) (Nat.zero_le _) (by decide)
    rw [(int_nF HOk.out HBt.out hl1).1, (int_nF HOk.out HBt.out hl1).2, show (ts ++ [kF]).length = ts.length + 1 by simp] at d2
    refine d2.mono ?_
    intro e w6 h6
    obtain ⟨A6, c6, rfl, ht6, hb6⟩ := led_tms h6 (ts.length + 2) (by simp)
    clear h6 d2
    have hz6 := hb6.size
    have x6 := (hb6.cell (p := ⟨w4.heap.size, 0, none⟩) hz5).trans x5
    have xf6 := (hb6.frozen (p := ⟨w4.heap.size, 0, none⟩) hz5).trans xf5
    have b6 := (World.cell?_setCell_other w6 ⟨w4.heap.size, 0, none⟩ ⟨w1.heap.size, 0, none⟩ (.slice A6 (ts.length + 2) c6) (by intro e; injection e with e1; omega)).trans ((hb6.cell (p := ⟨w1.heap.size, 0, none⟩) (by show w1.heap.size < _; omega)).trans b5)
    have HT6 := Lib.hid (show TmsIn (w6.setCell ⟨w4.heap.size, 0, none⟩ (.slice A6 (ts.length + 2) c6)) W5.heap.size w6.heap.size A6 (ts ++ [kF] ++ [nF]) from ht6.set (by show w4.heap.size < W5.heap.size; omega) _)
    have HB6 := Lib.hid ((HB5.out.trans (hb6.mono (by omega))).setCell (p := ⟨w4.heap.size, 0, none⟩) (by show W2.heap.size ≤ w4.heap.size; omega) (.slice A6 (ts.length + 2) c6))
    clear ht6 hb6 x5 xf5 b5 HT5 HB5
    go_upto_region 6 with fail
    obtain ⟨W7, hW7⟩ : ∃ y, y = w6.setCell ⟨w4.heap.size, 0, none⟩ (.slice A6 (ts.length + 2) c6) := ⟨_, rfl⟩
    have x7 : W7.cell? ⟨w4.heap.size, 0, none⟩ = some (.slice A6 (ts.length + 2) c6) := by rw [hW7]; exact World.cell?_setCell_same _ _ _ (by rw [x6])
    have xf7 : W7.frozen? ⟨w4.heap.size, 0, none⟩ = false := by rw [hW7]; exact (World.frozen?_setCell _ _ _ _).trans xf6
    have hzW7 : w6.heap.size ≤ W7.heap.size := by rw [hW7]; simp
    rw [← hW7] at HT6 HB6 b6 ⊢
    clear hW7 x6 xf6
    go_wp2_with fail
    have d3 := implIntern_g A6 none W5.heap.size w6.heap.size (ts ++ [kF] ++ [nF]) c6 (sF ts.length) 0 0 0 W7 HT6.out hzW7 (by simp; omega) (by simp [bulk_append, bulk, kF, nF]; omega) (bytes_nil _ _ _ _) (Nat.zero_le _) (by simp [sF])
    rw [(int_sF HOk.out HBt.out hl1).1, (int_sF HOk.out HBt.out hl1).2, show (ts ++ [kF] ++ [nF]).length = ts.length + 2 by simp] at d3
    refine d3.mono ?_
    intro e w8 h8
    obtain ⟨A8, c8, rfl, ht8, hb8⟩ := led_tms h8 (ts.length + 3) (frT_len ts)
    clear h8 d3
    have hz8 := hb8.size
    have x8 := (hb8.cell (p := ⟨w4.heap.size, 0, none⟩) (by show w4.heap.size < _; omega)).trans x7
    have xf8 := (hb8.frozen (p := ⟨w4.heap.size, 0, none⟩) (by show w4.heap.size < _; omega)).trans xf7
    have b8 := (World.cell?_setCell_other w8 ⟨w4.heap.size, 0, none⟩ ⟨w1.heap.size, 0, none⟩ (.slice A8 (ts.length + 3) c8) (by intro e; injection e with e1; omega)).trans ((hb8.cell (p := ⟨w1.heap.size, 0, none⟩) (by show w1.heap.size < _; omega)).trans b6)
    have HT8 := Lib.hid (show TmsIn (w8.setCell ⟨w4.heap.size, 0, none⟩ (.slice A8 (ts.length + 3) c8)) W7.heap.size w8.heap.size A8 (frT ts) from ht8.set (by show w4.heap.size < W7.heap.size; omega) _)
    have HB8 := Lib.hid ((HB6.out.trans (hb8.mono (by omega))).setCell (p := ⟨w4.heap.size, 0, none⟩) (by show W2.heap.size ≤ w4.heap.size; omega) (.slice A8 (ts.length + 3) c8))
    clear ht8 hb8 x7 xf7 b6 HT6 HB6
    go_upto_region 7 with fail
    obtain ⟨W9, hW9⟩ : ∃ y, y = w8.setCell ⟨w4.heap.size, 0, none⟩ (.slice A8 (ts.length + 3) c8) := ⟨_, rfl⟩
    have x9 : W9.cell? ⟨w4.heap.size, 0, none⟩ = some (.slice A8 (ts.length + 3) c8) := by rw [hW9]; exact World.cell?_setCell_same _ _ _ (by rw [x8])
    have hzW9 : w8.heap.size ≤ W9.heap.size := by rw [hW9]; simp
    rw [← hW9] at HT8 HB8 b8 ⊢
    clear hW9 x8 xf8
    obtain ⟨N, hNe⟩ : ∃ N, N = W9.heap.size := ⟨_, rfl⟩
    have HP9 := Lib.hid (show Pz W9 N W9 from ⟨Below.refl _ _, by omega⟩)
    have HIh := Lib.hid (show IntsIn W9 0 N A2 hv from by rw [hNe]; exact ((HI2.out.keep fun p _ hp => HB8.out.cell (by omega)).low (Nat.zero_le _)).mono (by omega))
    have hNle : N ≤ W9.heap.size := by omega
    have hNge : W9.heap.size ≤ N := by omega
    have hsn : ¬ ((ts.length : Int) + 2 < 0) := by omega
    clear hNe
    obtain ⟨i0, hi0, hz0, hz1, hz2'⟩ := info_parts Try.infoInt
    have HSec := Lib.hid (fun (X : World) (hX : Pz W9 N X) (A3 : Option Addr) (h3 : List Int) (c3 : Nat) (x : Int) (hi : IntsIn X 0 X.heap.size A3 h3) (hl : h3.length ≤ 1000) => implSecret_any A8 (frT ts) c8 W7.heap.size w8.heap.size A3 h3 c3 x X (HT8.out.keep fun p _ hp => hX.bel.cell (by omega)) (by have := hX.sz; omega) (by rw [frT_len]; omega) (by simp [frT, bulk_append, bulk, kF, nF, sF]; omega) hi (by omega))
    have HCan := Lib.hid (fun (X : World) (hX : Pz W9 N X) (A3 : Option Addr) (h3 : List Int) (c3 : Nat) (x : Int) (hx : WfI x) (hi : IntsIn X 0 X.heap.size A3 h3) (hl : h3.length ≤ 1000) => implCan_any A8 (frT ts) c8 W7.heap.size w8.heap.size A3 h3 c3 x X hx (HT8.out.keep fun p _ hp => hX.bel.cell (by omega)) (by have := hX.sz; omega) (by rw [frT_len]; omega) (by simp [frT, bulk_append, bulk, kF, nF, sF]; omega) hi (by omega))
    go_wp2_with fail
    go_loopw [9, 10] (fun x i wr => ∃ (k : Nat) (l : List Int) (A' : Option Addr) (c' : Nat), k ≤ hv.length ∧ i = .int .i64 k ∧ l.length ≤ k ∧ (∀ y ∈ l, y < (ts.length : Int)) ∧ x = .slice A' l.length c' ∧ wr.ownsRow N 3 1 (.slice A' l.length c') l.length (l.map vint) ∧ Pz W9 N wr) (fun _ i _ => hv.length - (intOf i).toNat)
    case atStart => exact ⟨0, [], none, 0, Nat.zero_le _, rfl, Nat.le_refl _, by simp, rfl, World.ownsRow_nil _ _ _ _, HP9.out⟩
    case round =>
      obtain ⟨k, l, A', c', hk, rfl, hlk, hly, rfl, hrow, hp⟩ := hrel
      have br := (hp.bel.cell (p := ⟨w1.heap.size, 0, none⟩) (by show w1.heap.size < _; omega)).trans b8
      have HL := Lib.hid hly
      have HR := Lib.hid hrow
      have HP := Lib.hid hp
      clear hly hrow hp
      by_cases hlt : k < hv.length
      · have HIq := HIh
        obtain ⟨b, o, rfl, _, hb, hc⟩ := HIq.out (by omega)
        have hc0 := (HP.out.bel.cell (p := ⟨b, o + k, none⟩) hb).trans (hc k hlt)
        obtain ⟨x, hx⟩ : ∃ x, x = hv[k] := ⟨_, rfl⟩
        rw [← hx] at hc0
        clear hc hx HIq
        go_upto_region 13 with fail
        go_quiet (fail)
        obtain ⟨W10, hW10⟩ : ∃ y, y = wr.drewN nq := ⟨_, rfl⟩
        have hcq : W10.cell? ⟨b, o + k, none⟩ = some (.int .i64 x) := by rw [hW10]; exact hc0
        have HP10 := Lib.hid (show Pz W9 N W10 by rw [hW10]; exact HP.out.below (below_drewN (Below.refl _ _) nq))
        have HR10 := Lib.hid (show W10.ownsRow N 3 1 (.slice A' l.length c') l.length (l.map vint) by rw [hW10]; exact row_pz HR.out (below_drewN (Below.refl _ _) nq))
        have hzN := HP10.out.sz
        rw [← hW10]
        clear hW10 hc0 br HP HR
        by_cases hxl : x < (ts.length : Int)
        · go_wp2_with (at_builtin; refine wpList_append_own _ rfl _ _ 46 rfl N 3 i0 (.int .i64 0) 1 8 Try.underlying46 hi0 hz0 hz1 hz2' rfl (by decide) _ _ _ rfl (HR10.out.alloc _) ⟨W10.heap.size, 0, none⟩ 1 1 [.int .i64 x] rfl rfl ?c1 ?c2 ?c3 ?c4 ?c5 ?_)
          case c1 =>
            intro j u hu
            have hj : j = 0 := by
              have := (List.getElem?_eq_some_iff.1 hu).1
              simpa using this
            subst hj
            rw [Addr.add_lit]
            simpa using hu
          case c2 => intro u hu; simp at hu; subst hu; rfl
          case c3 => unfold maxLen; omega
          case c4 => omega
          case c5 => first | omega | (simp; omega)
          intro v' w5 hrow5 hgr5 _
          obtain ⟨A5, c5, rfl⟩ := row_shape hrow5
          have HRow5 := Lib.hid (show w5.ownsRow N 3 1 (.slice A5 (l ++ [x]).length c5) (l ++ [x]).length ((l ++ [x]).map vint) by simpa [vint] using hrow5)
          have HP5 := Lib.hid ((HP10.out.alloc (.cells #[.int .i64 x] 3)).grown hgr5 (fun g hg => (HR10.out.lt g hg).1))
          clear hrow5 hgr5
          go_wp2_with fail
          go_roundw
          case rel => exact ⟨k + 1, l ++ [x], A5, c5, by omega, by go_num, by simp; omega, fun y hy => by
            rcases List.mem_append.1 hy with h | h
            · exact HL.out y h
            · simp only [List.mem_singleton] at h; subst h; exact hxl, by simp, HRow5.out, HP5.out⟩
          case measure => simp [intOf]; omega
        · go_wp2_with fail
          go_roundw
          case rel => exact ⟨k + 1, l, A', c', by omega, by go_num, by omega, HL.out, rfl, HR10.out, HP10.out⟩
          case measure => simp [intOf]; omega
      · have hzN := HP.out.sz
        go_wp2_with (at_builtin; refine wpList_append_own _ rfl _ _ 46 rfl N 3 i0 (.int .i64 0) 1 8 Try.underlying46 hi0 hz0 hz1 hz2' rfl (by decide) _ _ _ rfl (HR.out.alloc _) ⟨wr.heap.size, 0, none⟩ 1 1 [.int .i64 ((ts.length : Int) + 2)] rfl rfl ?d1 ?d2 ?d3 ?d4 ?d5 ?_)
        case d1 =>
          intro j u hu
          have hj : j = 0 := by
            have := (List.getElem?_eq_some_iff.1 hu).1
            simpa using this
          subst hj
          rw [Addr.add_lit]
          simpa using hu
        case d2 => intro u hu; simp at hu; subst hu; rfl
        case d3 => unfold maxLen; omega
        case d4 => omega
        case d5 => first | omega | (simp; omega)
        intro v' w11 hrow5 hgr5 _
        obtain ⟨A11, c11, rfl⟩ := row_shape hrow5
        obtain ⟨h, hh⟩ : ∃ h, h = l ++ [(ts.length : Int) + 2] := ⟨_, rfl⟩
        have hhl : h.length = l.length + 1 := by rw [hh]; simp
        have HR11 := Lib.hid (show w11.ownsRow N 3 1 (.slice A11 h.length c11) h.length (h.map vint) by rw [hh]; simpa [vint] using hrow5)
        have HP11 := Lib.hid ((HP.out.alloc (.cells #[.int .i64 ((ts.length : Int) + 2)] 3)).grown hgr5 (fun g hg => (HR.out.lt g hg).1))
        have HH := Lib.hid (fun (y : Int) (hy : y ∈ h) => show y < ts.length ∨ y = (ts.length : Int) + 2 by
          rw [hh] at hy
          rcases List.mem_append.1 hy with q | q
          · exact .inl (HL.out y q)
          · simp only [List.mem_singleton] at q; exact .inr q)
        have HS := Lib.hid (show (ts.length : Int) + 2 ∈ h by rw [hh]; simp)
        clear hrow5 hgr5 hh br
        have hfl := lok_fr HOk.out HBt.out hl1
        have hh1000 : h.length ≤ 1000 := by omega
        have hsec := fr_secret hfl hh1000 HH.out
        have x11 := (HP11.out.bel.cell (p := ⟨w4.heap.size, 0, none⟩) (by show w4.heap.size < _; omega)).trans x9
        have HI11 := Lib.hid (show IntsIn w11 0 w11.heap.size A11 h from ((ints_of_row HR11.out).ints).low (Nat.zero_le _))
        have HS1 := Lib.hid (fun (X : World) (hX : Pz W9 N X) (hi : IntsIn X 0 X.heap.size A11 h) => show Calls Try.prog 31 #[.agg #[.slice A8 (ts.length + 3) c8], .slice A11 (l.length + 1) c11, .int .i64 ((ts.length : Int) + 1)] X (fun e w' => e = .returned (.bool true) ∧ Pz W9 N w' ∧ Below X.heap.size X w') from by
          have q := HSec.out X hX A11 h c11 ((ts.length : Int) + 1) hi hh1000
          rw [frT_len, hhl] at q
          refine q.mono ?_
          rintro e w' ⟨rfl, hb⟩
          exact ⟨by rw [show secretV (frT ts) h ((ts.length : Int) + 1) = true from hsec.1], hX.below hb, hb⟩)
        have HS2 := Lib.hid (fun (X : World) (hX : Pz W9 N X) (hi : IntsIn X 0 X.heap.size A11 h) => show Calls Try.prog 31 #[.agg #[.slice A8 (ts.length + 3) c8], .slice A11 (l.length + 1) c11, .int .i64 (ts.length : Int)] X (fun e w' => e = .returned (.bool true) ∧ Pz W9 N w' ∧ Below X.heap.size X w') from by
          have q := HSec.out X hX A11 h c11 (ts.length : Int) hi hh1000
          rw [frT_len, hhl] at q
          refine q.mono ?_
          rintro e w' ⟨rfl, hb⟩
          exact ⟨by rw [hsec.2], hX.below hb, hb⟩)
        have HC := Lib.hid (fun (X : World) (hX : Pz W9 N X) (A3 : Option Addr) (c3 : Nat) (hi : IntsIn X 0 X.heap.size A3 (h ++ [(ts.length : Int)])) => show Calls Try.prog 29 #[.agg #[.slice A8 (ts.length + 3) c8], .slice A3 (l.length + 1 + 1) c3, .int .i64 ((ts.length : Int) + 1)] X (fun e w' => e = .returned (.bool true) ∧ Pz W9 N w' ∧ Below X.heap.size X w') from by
          have q := HCan.out X hX A3 (h ++ [(ts.length : Int)]) c3 ((ts.length : Int) + 1) (wfI_of (by omega) (by omega)) hi (by simp; omega)
          rw [frT_len, List.length_append, hhl] at q
          refine q.mono ?_
          rintro e w' ⟨rfl, hb⟩
          have hc := fr_can hfl (hv := h ++ [(ts.length : Int)]) (by simp; omega) (List.mem_append_left _ HS.out) (by simp)
          exact ⟨by rw [show canV (frT ts) (h ++ [(ts.length : Int)]) ((ts.length : Int) + 1) = true from hc], hX.below hb, hb⟩)
        have HTm := Lib.hid terms_any
        clear hsec hfl HSec HCan HL HR HP
        go_upto_region 16 with fail
        go_region_law
          (first
            | (refine Pz.one3 (W := W9) (N := N) HP13.out (.inr (by kernel_rfl)) _ _ (by rfl) A11 h (l.length + 1) c11 hhl (by rfl) HR13.out (by rfl) (by omega) ?_
               intro A14 c14 w14 hp14 hi14
               have HP14 := Lib.hid hp14
               have HI14 := Lib.hid hi14
               have x14 := (hp14.bel.cell (p := ⟨w4.heap.size, 0, none⟩) (by show w4.heap.size < _; omega)).trans x9
               clear hp14 hi14)
            | (go_simp
               go_at_call 31
               refine (HS1.out _ HP11.out.drew HI11.out).mono ?_
               rintro e w12 ⟨rfl, hp12, hb12⟩
               have x12 := (hp12.bel.cell (p := ⟨w4.heap.size, 0, none⟩) (by show w4.heap.size < _; omega)).trans x9
               have HP12 := Lib.hid hp12
               have HI12 := Lib.hid ((HI11.out.keep fun p _ hp => hb12.cell hp).mono hb12.size)
               have HR12 := Lib.hid (row_pz (World.ownsRow.drew HR11.out) hb12)
               clear hp12 hb12 HS1
               go_wp2_with fail)
            | (go_simp
               go_at_call 31
               refine (HS2.out _ HP12.out HI12.out).mono ?_
               rintro e w13 ⟨rfl, hp13, hb13⟩
               have x13 := (hp13.bel.cell (p := ⟨w4.heap.size, 0, none⟩) (by show w4.heap.size < _; omega)).trans x9
               have x13n := cell_alloc_at (.cells #[.int .i64 (ts.length : Int)] 3) x13
               have HP13 := Lib.hid hp13
               have HR13 := Lib.hid (row_pz HR12.out hb13)
               clear hp13 hb13 HS2
               go_wp2_with fail)
            | (go_simp
               go_at_call 29
               refine (HC.out _ HP14.out A14 c14 HI14.out).mono ?_
               rintro e w15 ⟨rfl, hp15, hb15⟩
               have HP15 := Lib.hid hp15
               clear hp15 hb15 HC
               go_wp2_with fail)
            | (go_simp
               go_at_call 13
               refine (HTm.out _).mono ?_
               rintro e w16 ⟨rfl, hb16⟩
               have HP16 := Lib.hid (HP15.out.below hb16)
               clear hb16 HTm
               go_wp2_with fail))
        all_goals
          have HF := Lib.hid (HB2.out.trans ((HB8.out.trans (HP16.out.bel.mono (by omega))).mono (by omega)))
          go_wp2_with fail
          go_ret
          exact ⟨rfl, HF.out⟩

end Go.Proofs.Ytigkojdchpjkcaa
