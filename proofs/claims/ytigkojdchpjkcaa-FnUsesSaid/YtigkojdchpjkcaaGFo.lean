/-
  Several texts in one: Fo, Dt.
-/
import Derived.Test.YtigkojdchpjkcaaFh
import Derived.Test.YtigkojdchpjkcaaTms
import Derived.Test.YtigkojdchpjkcaaGOp
import Derived.Test.YtigkojdchpjkcaaKept
namespace Go.Proofs.Ytigkojdchpjkcaa
open Go.RowKit Go.Maps

theorem have_pick (f : Nat → Bool) (n j : Nat) : haveB n (pick f n) j = (decide (j < n) && f j) := by
  rw [Bool.eq_iff_iff]
  simp only [haveB, Bool.and_eq_true, decide_eq_true_eq, List.contains_iff_mem, mem_pick]
  constructor
  · rintro ⟨h1, k, h2, h3, h4⟩
    have : k = j := by omega
    subst this
    exact ⟨h1, h4⟩
  · rintro ⟨h1, h2⟩
    exact ⟨h1, j, h1, rfl, h2⟩
theorem op_op {ts : List Tm} {h : Nat → Bool} {i : Nat} (k : Op ts (opB ts h) i) : Op ts h i := by
  induction k with
  | had k => exact (opB_iff _ _ _).1 k
  | pairL _ k ih => exact .pairL ih k
  | pairR _ k ih => exact .pairR ih k
  | sign _ k ih => exact .sign ih k
  | lock _ k _ ih ih2 => exact .lock ih k ih2
theorem end_lt {ts : List Tm} (hok : LOk ts) {hv : List Int} {j : Nat} (h : endB ts hv j = true) : j < ts.length := by
  unfold endB at h
  rw [opB_iff] at h
  exact op_below hok h fun i hi => by
    simp only [haveB, Bool.and_eq_true, decide_eq_true_eq] at hi
    exact hi.1
theorem end_end {ts : List Tm} (hok : LOk ts) (hv : List Int) : endB ts (pick (endB ts hv) ts.length) = endB ts hv := by
  have e : haveB ts.length (pick (endB ts hv) ts.length) = endB ts hv := by
    funext j
    rw [have_pick]
    cases h : endB ts hv j with
    | false => simp
    | true => simp [end_lt hok h]
  funext j
  show opB ts (haveB ts.length (pick (endB ts hv) ts.length)) j = endB ts hv j
  rw [e, Bool.eq_iff_iff, opB_iff]
  constructor
  · intro h
    have := op_op (h := haveB ts.length hv) h
    unfold endB
    rwa [opB_iff]
  · intro h
    exact .had h
theorem opened_opened {ts : List Tm} (hok : LOk ts) {hv : List Int} (hn : hv.length ≤ 1000) : openedV ts (openedV ts hv) = openedV ts hv := by
  have h1 : askB ts hv = true := by simp [askB, lokB_true hok, hn]
  have e : openedV ts hv = pick (endB ts hv) ts.length := by simp [openedV, h1]
  have hl : (pick (endB ts hv) ts.length).length ≤ 1000 := by
    have := pick_length (endB ts hv) ts.length
    have := hok.1
    omega
  rw [e]
  have h2 : askB ts (pick (endB ts hv) ts.length) = true := by simp [askB, lokB_true hok, hl]
  unfold openedV
  rw [if_pos h2, end_end hok]

theorem key_kind {ts : List Tm} (hok : LOk ts) {i : Nat} (hi : i < ts.length) (h5 : (tmAt ts i).kind = 5) : (tmAt ts ((tmAt ts i).a.toNat : Nat)).kind = 1 := by
  obtain ⟨_, _, hk, _⟩ := hok.2 i hi
  rw [tmAt_nat ts i hi] at h5 ⊢
  unfold keyedB at hk
  simp [h5] at hk
  show (ts[((ts[i].a.toNat : Nat) : Int).toNat]?.getD default).kind = 1
  rw [Int.toNat_natCast]
  exact hk
theorem op_cn {ts : List Tm} (hok : LOk ts) {hv : List Int} {i : Nat} (k : Op ts (fun j => decide (j < ts.length) && cnB ts (endB ts hv) j) i) : i < ts.length ∧ Cn ts (endB ts hv) i := by
  have hE : ∀ j, endB ts hv j = true → Op ts (haveB ts.length hv) j := fun j h => (opB_iff _ _ _).1 h
  have hE2 : ∀ j, Op ts (haveB ts.length hv) j → endB ts hv j = true := fun j h => (opB_iff _ _ _).2 h
  have hpl : ∀ i, i < ts.length → ∀ p ∈ partsV (tmAt ts i), p.toNat < ts.length := fun i hi p hp => by have := parts_below hok hi hp; omega
  induction k with
  | had k =>
    simp only [Bool.and_eq_true, decide_eq_true_eq] at k
    exact ⟨k.1, (cnB_iff _ _ _).1 k.2⟩
  | @pairL i _ k ih =>
    have hp : (tmAt ts i).a ∈ partsV (tmAt ts i) := by simp [partsV, k]
    refine ⟨hpl i ih.1 _ hp, ?_⟩
    cases ih.2 with
    | had h => exact .had (hE2 _ (.pairL (hE _ h) k))
    | text h => omega
    | made _ h => exact h _ hp
  | @pairR i _ k ih =>
    have hp : (tmAt ts i).b ∈ partsV (tmAt ts i) := by simp [partsV, k]
    refine ⟨hpl i ih.1 _ hp, ?_⟩
    cases ih.2 with
    | had h => exact .had (hE2 _ (.pairR (hE _ h) k))
    | text h => omega
    | made _ h => exact h _ hp
  | @sign i _ k ih =>
    have hp : (tmAt ts i).b ∈ partsV (tmAt ts i) := by simp [partsV, k]
    refine ⟨hpl i ih.1 _ hp, ?_⟩
    cases ih.2 with
    | had h => exact .had (hE2 _ (.sign (hE _ h) k))
    | text h => omega
    | made _ h => exact h _ hp
  | @lock i _ k _ ih ih2 =>
    have hp : (tmAt ts i).b ∈ partsV (tmAt ts i) := by simp [partsV, k]
    refine ⟨hpl i ih.1 _ hp, ?_⟩
    cases ih.2 with
    | had h => exact .had (hE2 _ (.lock (hE _ h) k (hE _ (cn_key ih2.2 (key_kind hok ih.1 k)))))
    | text h => omega
    | made _ h => exact h _ hp
theorem all_all {ts : List Tm} (hok : LOk ts) {hv : List Int} (hn : hv.length ≤ 1000) : allV ts (allV ts hv) = allV ts hv := by
  have h1 : askB ts hv = true := by simp [askB, lokB_true hok, hn]
  have e : allV ts hv = pick (cnB ts (endB ts hv)) ts.length := by simp [allV, h1]
  have hl : (pick (cnB ts (endB ts hv)) ts.length).length ≤ 1000 := by
    have := pick_length (cnB ts (endB ts hv)) ts.length
    have := hok.1
    omega
  rw [e]
  have h2 : askB ts (pick (cnB ts (endB ts hv)) ts.length) = true := by simp [askB, lokB_true hok, hl]
  unfold allV
  rw [if_pos h2]
  refine pick_congr fun j hj => ?_
  have hh : haveB ts.length (pick (cnB ts (endB ts hv)) ts.length) = fun j => decide (j < ts.length) && cnB ts (endB ts hv) j := by
    funext j
    exact have_pick _ _ _
  rw [Bool.eq_iff_iff, cnB_iff, cnB_iff]
  show Cn ts (opB ts (haveB ts.length (pick (cnB ts (endB ts hv)) ts.length))) j ↔ Cn ts (endB ts hv) j
  rw [hh]
  constructor
  · intro h
    induction h with
    | had h => exact (op_cn hok ((opB_iff _ _ _).1 h)).2
    | text h => exact .text h
    | @made i h _ ih =>
      refine .made h fun p hp => ih p hp ?_
      have := parts_below hok hj hp
      omega
  · intro h
    refine .had ((opB_iff _ _ _).2 (.had ?_))
    simp [hj, (cnB_iff _ _ _).2 h]

set_option maxRecDepth 100000 in
set_option maxHeartbeats 1000000 in
/-- Two lists that are the same. -/
theorem sameInts_any (A B : Option Addr) (l : List Int) (c c' : Nat) (w : World) (hA : IntsIn w 0 w.heap.size A l) (hB : IntsIn w 0 w.heap.size B l) (hn : l.length ≤ 1048576) :
    Calls Try.prog 27 #[.slice A l.length c, .slice B l.length c'] w fun e w' => e = .returned (.bool true) ∧ Below w.heap.size w w' := by
  have HA := Lib.hid hA
  have HB := Lib.hid hB
  clear hA hB
  go_enter Try.func27, Try.ntmps27
  go_wp2_with fail
  go_loopw [5] (fun i wr => ∃ k : Nat, k ≤ l.length ∧ i = .int .i64 k ∧ Below w.heap.size w wr) (fun i _ => l.length - (intOf i).toNat)
  case atStart => exact ⟨0, Nat.zero_le _, rfl, Below.refl _ _⟩
  case round =>
    obtain ⟨k, hk, rfl, hbr⟩ := hrel
    have HBr := Lib.hid hbr
    clear hbr
    by_cases hlt : k < l.length
    · obtain ⟨b, o, rfl, _, hb, hc⟩ := HA.out (by omega)
      obtain ⟨b2, o2, rfl, _, hb2, hc2⟩ := HB.out (by omega)
      have hc0 := (HBr.out.cell (p := ⟨b, o + k, none⟩) (by show b < _; omega)).trans (hc k hlt)
      have hd0 := (HBr.out.cell (p := ⟨b2, o2 + k, none⟩) (by show b2 < _; omega)).trans (hc2 k hlt)
      clear hc hc2
      go_wp2_with fail
      go_quiet (fail)
      have HB2 := Lib.hid (show Below w.heap.size w (wr.drewN nq) from below_drewN HBr.out nq)
      go_wp2_with fail
      go_roundw
      case rel => exact ⟨k + 1, by omega, by go_num, HB2.out⟩
      case measure => simp [intOf]; omega
    · go_wp2_with fail
      go_ret
      exact ⟨rfl, HBr.out⟩

/-- A ledger and a list are drawn. -/
def NewOp (w : World) (e : Ending) (w' : World) : Prop :=
  ∃ (ts : List Tm) (A : Option Addr) (c : Nat) (hv : List Int) (A2 : Option Addr) (c2 : Nat), e = .returned (.tuple #[.agg #[.slice A ts.length c], .slice A2 hv.length c2]) ∧ (ts.length ≤ 32 ∧ bulk ts ≤ 64 ∧ ∀ t ∈ ts, BentT t) ∧ (hv.length ≤ 4 ∧ ∀ x ∈ hv, -1 ≤ x ∧ x ≤ (ts.length : Int)) ∧
    TmsIn w' w.heap.size w'.heap.size A ts ∧ IntsIn w' w.heap.size w'.heap.size A2 hv ∧ Below w.heap.size w w'

set_option maxRecDepth 100000 in
set_option maxHeartbeats 1000000 in
theorem drawOpened_any (A : Option Addr) (c : Nat) (code : List UInt8) (w : World) (hA : BytesIn w 0 w.heap.size A code) (hn : code.length ≤ 9223372036854775807) :
    Calls Try.prog 22 #[.slice A code.length c] w (NewOp w) := by
  have HA := Lib.hid hA
  clear hA
  go_enter Try.func22, Try.ntmps22
  go_wp2_with fail
  obtain ⟨W0, hW0⟩ : ∃ y, y = w.alloc (.cells #[.slice none 0 0] 25) := ⟨_, rfl⟩
  have hb0 : Below w.heap.size w W0 := by rw [hW0]; exact (Below.refl _ _).alloc (Nat.le_refl _) _
  have hz0 : W0.heap.size = w.heap.size + 1 := by rw [hW0]; simp
  have r0 : W0.cell? ⟨w.heap.size, 0, none⟩ = some (.slice none 0 0) := by rw [hW0]; simp
  have rf : W0.frozen? ⟨w.heap.size, 0, none⟩ = false := by rw [hW0]; simp
  rw [← hW0]
  refine (l1New_any A c code W0 ((HA.out.keep fun p _ hp => hb0.cell hp).mono hb0.size) hn).mono ?_
  rintro e w1 ⟨rfl, hc1, hb1⟩
  obtain ⟨K, hKe⟩ : ∃ K, K = W0.heap.size := ⟨_, rfl⟩
  rw [← hKe] at hc1 hb1 ⊢
  have hKw : w.heap.size < K := by omega
  have hz1 := hc1.lt
  have HC1 := Lib.hid hc1
  have HB1 := Lib.hid (hb0.trans (hb1.mono (by omega)))
  have HR1 := Lib.hid (And.intro ((hb1.cell (p := ⟨w.heap.size, 0, none⟩) hKw).trans r0) ((hb1.frozen (p := ⟨w.heap.size, 0, none⟩) hKw).trans rf))
  clear hW0 hb0 hz0 r0 rf hKe hc1 hb1
  go_wp2_with fail
  refine (l1bent_any K code w1 HC1.out).mono ?_
  rintro e w2 ⟨ts, A1, c1, rfl, hl1, hk1, hall, ht2, hc2, ho2⟩
  have hz2 := ho2.size
  obtain ⟨W3, hW3⟩ : ∃ y, y = w2.alloc (.cells #[.slice A1 ts.length c1] 25) := ⟨_, rfl⟩
  have hb3 : Below w2.heap.size w2 W3 := by rw [hW3]; exact (Below.refl _ _).alloc (Nat.le_refl _) _
  have b3 : W3.cell? ⟨w2.heap.size, 0, none⟩ = some (.slice A1 ts.length c1) := by rw [hW3]; simp
  have hz3 : w2.heap.size < W3.heap.size := by rw [hW3]; simp
  have HT3 := Lib.hid (ht2.keep fun p _ hp => hb3.cell hp)
  have HC3 := Lib.hid (hc2.below hb3 (by omega))
  have HO3 := Lib.hid (ho2.below hb3)
  have HR3 := Lib.hid (And.intro ((hb3.cell (p := ⟨w.heap.size, 0, none⟩) (by show w.heap.size < _; omega)).trans ((ho2.cell (p := ⟨w.heap.size, 0, none⟩) (by show w.heap.size < _; omega) (by show w.heap.size ≠ K; omega)).trans HR1.out.1)) ((hb3.frozen (p := ⟨w.heap.size, 0, none⟩) (by show w.heap.size < _; omega)).trans ((ho2.frozen (p := ⟨w.heap.size, 0, none⟩) (by show w.heap.size < _; omega) (by show w.heap.size ≠ K; omega)).trans HR1.out.2)))
  have HAll := Lib.hid (And.intro hl1 (And.intro hk1 hall))
  clear HR1 HC1 ht2 hc2 ho2 hb3 hk1 hall
  have b3' := b3
  have HCall := Lib.hid (fun (X : World) (hX : Below W3.heap.size W3 X) => show Calls Try.prog 54 #[.pointer (some ⟨K, 0, none⟩), .int .i64 ts.length] X (fun e w' => ∃ (hv : List Int) (A2 : Option Addr) (c2 : Nat), e = .returned (.slice A2 hv.length c2) ∧ w'.cell? ⟨w2.heap.size, 0, none⟩ = some (.slice A1 ts.length c1) ∧ w'.cell? ⟨w.heap.size, 0, none⟩ = some (.slice none 0 0) ∧ w'.frozen? ⟨w.heap.size, 0, none⟩ = false ∧ ∀ V, NewOp w (.returned (.tuple #[.agg #[.slice A1 ts.length c1], .slice A2 hv.length c2])) (w'.setCell ⟨w.heap.size, 0, none⟩ V)) from
    (l2some_any K code ts.length (by omega) X (HC3.out.below hX (by omega))).mono (by
      rintro e w' ⟨hv, A2, c2, rfl, hl4, hall4, hi4, hc, ho⟩
      have hXs := hX.size
      have hkeep : ∀ p : Addr, p.block < W3.heap.size → p.block ≠ K → w'.cell? p = W3.cell? p := fun p h1 h2 => (ho.cell (by omega) h2).trans (hX.cell h1)
      refine ⟨hv, A2, c2, rfl, (hkeep ⟨w2.heap.size, 0, none⟩ (by show w2.heap.size < _; omega) (by show w2.heap.size ≠ K; omega)).trans b3', (hkeep ⟨w.heap.size, 0, none⟩ (by show w.heap.size < _; omega) (by show w.heap.size ≠ K; omega)).trans HR3.out.1, ((ho.frozen (p := ⟨w.heap.size, 0, none⟩) (by show w.heap.size < _; omega) (by show w.heap.size ≠ K; omega)).trans (hX.frozen (p := ⟨w.heap.size, 0, none⟩) (by show w.heap.size < _; omega))).trans HR3.out.2, fun V => ?_⟩
      have hall : OffK K w1 w' := (HO3.out.below hX).trans ho (.inl rfl)
      refine ⟨ts, A1, c1, hv, A2, c2, rfl, HAll.out, ⟨hl4, hall4⟩, ?_, ?_, (HB1.out.trans (hall.low (B := w.heap.size) (by omega) (by omega))).setCell (Nat.le_refl _) _⟩
      · refine TmsIn.mono (TmsIn.low (HT3.out.keep fun p hp hp2 => ?_) (by omega)) (by have := ho.size; simp; omega)
        rw [World.cell?_setCell_other _ _ _ _ (fun e => by subst e; exact absurd hp (by show ¬ (w1.heap.size ≤ w.heap.size); omega)), hkeep p (by omega) (by omega)]
      · refine IntsIn.mono (IntsIn.low (hi4.keep fun p hp _ => ?_) (by omega)) (by simp)
        rw [World.cell?_setCell_other _ _ _ _ (fun e => by subst e; exact absurd hp (by show ¬ (X.heap.size ≤ w.heap.size); omega))]))
  clear b3' HT3 HO3 HR3 HAll HB1 HC3
  go_upto_region 3 with fail
  rw [← hW3]
  clear hW3
  go_region_law
    (first
      | (go_simp
         go_at_call 54
         refine (HCall.out _ ?_).mono ?_
         · exact (Below.refl _ _).drew
         rintro e w6 ⟨hv, A2, c2, rfl, cb6, r6, rf6, hf6⟩
         have HF := Lib.hid hf6
         clear HCall hf6
         go_wp2_with fail))
  all_goals
    go_wp2_with fail
    refine bodyPost_ret (v := .tuple #[.agg #[.slice A1 ts.length c1], .slice A2 hv.length c2]) (by simp [results, Try.results22, go_sem, *]) rfl ?_
    exact HF.out _

end Go.Proofs.Ytigkojdchpjkcaa

namespace Go.Proofs.Ytigkojdchpjkcaa
open Go.RowKit Go.Maps

/-- A ledger and a number are drawn. -/
def NewAtD (w : World) (e : Ending) (w' : World) : Prop :=
  ∃ (ts : List Tm) (A : Option Addr) (c : Nat) (id : Int), e = .returned (.tuple #[.agg #[.slice A ts.length c], .int .i64 id]) ∧ (ts.length ≤ 32 ∧ bulk ts ≤ 64 ∧ ∀ t ∈ ts, BentT t) ∧ (-1 ≤ id ∧ id ≤ (ts.length : Int)) ∧
    TmsIn w' w.heap.size w'.heap.size A ts ∧ Below w.heap.size w w'

set_option maxRecDepth 100000 in
set_option maxHeartbeats 1000000 in
theorem drawAt_any (A : Option Addr) (c : Nat) (code : List UInt8) (w : World) (hA : BytesIn w 0 w.heap.size A code) (hn : code.length ≤ 9223372036854775807) :
    Calls Try.prog 68 #[.slice A code.length c] w (NewAtD w) := by
  have HA := Lib.hid hA
  clear hA
  go_enter Try.func68, Try.ntmps68
  go_wp2_with fail
  obtain ⟨W0, hW0⟩ : ∃ y, y = w.alloc (.cells #[.slice none 0 0] 25) := ⟨_, rfl⟩
  have hb0 : Below w.heap.size w W0 := by rw [hW0]; exact (Below.refl _ _).alloc (Nat.le_refl _) _
  have hz0 : W0.heap.size = w.heap.size + 1 := by rw [hW0]; simp
  have r0 : W0.cell? ⟨w.heap.size, 0, none⟩ = some (.slice none 0 0) := by rw [hW0]; simp
  have rf : W0.frozen? ⟨w.heap.size, 0, none⟩ = false := by rw [hW0]; simp
  rw [← hW0]
  refine (l1New_any A c code W0 ((HA.out.keep fun p _ hp => hb0.cell hp).mono hb0.size) hn).mono ?_
  rintro e w1 ⟨rfl, hc1, hb1⟩
  obtain ⟨K, hKe⟩ : ∃ K, K = W0.heap.size := ⟨_, rfl⟩
  rw [← hKe] at hc1 hb1 ⊢
  have hKw : w.heap.size < K := by omega
  have hz1 := hc1.lt
  have HC1 := Lib.hid hc1
  have HB1 := Lib.hid (hb0.trans (hb1.mono (by omega)))
  have HR1 := Lib.hid (And.intro ((hb1.cell (p := ⟨w.heap.size, 0, none⟩) hKw).trans r0) ((hb1.frozen (p := ⟨w.heap.size, 0, none⟩) hKw).trans rf))
  clear hW0 hb0 hz0 r0 rf hKe hc1 hb1
  go_wp2_with fail
  refine (l1bent_any K code w1 HC1.out).mono ?_
  rintro e w2 ⟨ts, A1, c1, rfl, hl1, hk1, hall, ht2, hc2, ho2⟩
  have hz2 := ho2.size
  obtain ⟨W3, hW3⟩ : ∃ y, y = w2.alloc (.cells #[.slice A1 ts.length c1] 25) := ⟨_, rfl⟩
  have hb3 : Below w2.heap.size w2 W3 := by rw [hW3]; exact (Below.refl _ _).alloc (Nat.le_refl _) _
  have b3 : W3.cell? ⟨w2.heap.size, 0, none⟩ = some (.slice A1 ts.length c1) := by rw [hW3]; simp
  have hz3 : w2.heap.size < W3.heap.size := by rw [hW3]; simp
  have HT3 := Lib.hid (ht2.keep fun p _ hp => hb3.cell hp)
  have HC3 := Lib.hid (hc2.below hb3 (by omega))
  have HO3 := Lib.hid (ho2.below hb3)
  have HR3 := Lib.hid (And.intro ((hb3.cell (p := ⟨w.heap.size, 0, none⟩) (by show w.heap.size < _; omega)).trans ((ho2.cell (p := ⟨w.heap.size, 0, none⟩) (by show w.heap.size < _; omega) (by show w.heap.size ≠ K; omega)).trans HR1.out.1)) ((hb3.frozen (p := ⟨w.heap.size, 0, none⟩) (by show w.heap.size < _; omega)).trans ((ho2.frozen (p := ⟨w.heap.size, 0, none⟩) (by show w.heap.size < _; omega) (by show w.heap.size ≠ K; omega)).trans HR1.out.2)))
  have HAll := Lib.hid (And.intro hl1 (And.intro hk1 hall))
  clear HR1 HC1 ht2 hc2 ho2 hb3 hk1 hall
  have b3' := b3
  have HCall := Lib.hid (fun (X : World) (hX : Below W3.heap.size W3 X) => show Calls Try.prog 52 #[.pointer (some ⟨K, 0, none⟩), .int .i64 (IntKind.i64.wrap ((ts.length : Int) + 2))] X (fun e w' => ∃ x, e = .returned (.int .i64 x) ∧ IntKind.i64.wrap (x - 1) = x - 1 ∧ w'.cell? ⟨w2.heap.size, 0, none⟩ = some (.slice A1 ts.length c1) ∧ w'.cell? ⟨w.heap.size, 0, none⟩ = some (.slice none 0 0) ∧ w'.frozen? ⟨w.heap.size, 0, none⟩ = false ∧ ∀ V, NewAtD w (.returned (.tuple #[.agg #[.slice A1 ts.length c1], .int .i64 (x - 1)])) (w'.setCell ⟨w.heap.size, 0, none⟩ V)) from by
    rw [show IntKind.i64.wrap ((ts.length : Int) + 2) = (ts.length : Int) + 2 by rw [IntKind.wrap_i64]; omega]
    exact (l1Below_any K code ((ts.length : Int) + 2) X (HC3.out.below hX (by omega))).mono (by
      rintro e w' ⟨x, rfl, hx, hc, ho⟩
      have hx' := hx.2.1 (by omega)
      have hXs := hX.size
      have hkeep : ∀ p : Addr, p.block < W3.heap.size → p.block ≠ K → w'.cell? p = W3.cell? p := fun p h1 h2 => (ho.cell (by omega) h2).trans (hX.cell h1)
      refine ⟨x, rfl, by rw [IntKind.wrap_i64]; omega, (hkeep ⟨w2.heap.size, 0, none⟩ (by show w2.heap.size < _; omega) (by show w2.heap.size ≠ K; omega)).trans b3', (hkeep ⟨w.heap.size, 0, none⟩ (by show w.heap.size < _; omega) (by show w.heap.size ≠ K; omega)).trans HR3.out.1, ((ho.frozen (p := ⟨w.heap.size, 0, none⟩) (by show w.heap.size < _; omega) (by show w.heap.size ≠ K; omega)).trans (hX.frozen (p := ⟨w.heap.size, 0, none⟩) (by show w.heap.size < _; omega))).trans HR3.out.2, fun V => ?_⟩
      have hall : OffK K w1 w' := (HO3.out.below hX).trans ho (.inl rfl)
      refine ⟨ts, A1, c1, x - 1, rfl, HAll.out, by omega, ?_, (HB1.out.trans (hall.low (B := w.heap.size) (by omega) (by omega))).setCell (Nat.le_refl _) _⟩
      refine TmsIn.mono (TmsIn.low (HT3.out.keep fun p hp hp2 => ?_) (by omega)) (by have := ho.size; simp; omega)
      rw [World.cell?_setCell_other _ _ _ _ (fun e => by subst e; exact absurd hp (by show ¬ (w1.heap.size ≤ w.heap.size); omega)), hkeep p (by omega) (by omega)]))
  clear b3' HT3 HO3 HR3 HAll HB1 HC3
  go_upto_region 3 with fail
  rw [← hW3]
  clear hW3
  go_region_law
    (first
      | (go_simp
         go_at_call 52
         refine (HCall.out _ ?_).mono ?_
         · exact (Below.refl _ _).drew
         rintro e w6 ⟨x6, rfl, he6, cb6, r6, rf6, hf6⟩
         have HF := Lib.hid hf6
         clear HCall hf6
         go_wp2_with fail))
  all_goals
    go_wp2_with fail
    refine bodyPost_ret (v := .tuple #[.agg #[.slice A1 ts.length c1], .int .i64 (x6 - 1)]) (by simp [results, Try.results68, go_sem, *]) rfl ?_
    exact HF.out _

set_option maxRecDepth 100000 in
set_option maxHeartbeats 1000000 in
theorem drawUsesOf_any (A : Option Addr) (c : Nat) (code : List UInt8) (w : World) (hA : BytesIn w 0 w.heap.size A code) (hn : code.length ≤ 9223372036854775807) :
    Calls Try.prog 35 #[.slice A code.length c] w (NewAtD w) := by
  have HA := Lib.hid hA
  clear hA
  go_enter Try.func35, Try.ntmps35
  go_wp2_with fail
  obtain ⟨W0, hW0⟩ : ∃ y, y = w.alloc (.cells #[.slice none 0 0] 25) := ⟨_, rfl⟩
  have hb0 : Below w.heap.size w W0 := by rw [hW0]; exact (Below.refl _ _).alloc (Nat.le_refl _) _
  have hz0 : w.heap.size < W0.heap.size := by rw [hW0]; simp
  have r0 : W0.cell? ⟨w.heap.size, 0, none⟩ = some (.slice none 0 0) := by rw [hW0]; simp
  have rf : W0.frozen? ⟨w.heap.size, 0, none⟩ = false := by rw [hW0]; simp
  rw [← hW0]
  refine (drawAt_any A c code W0 ((HA.out.keep fun p _ hp => hb0.cell hp).mono hb0.size) hn).mono ?_
  rintro e w1 ⟨ts, A1, c1, id, rfl, h1, h2, ht, hb1⟩
  have r1 := (hb1.cell (p := ⟨w.heap.size, 0, none⟩) hz0).trans r0
  have rf1 := (hb1.frozen (p := ⟨w.heap.size, 0, none⟩) hz0).trans rf
  have HF := Lib.hid (fun V => show NewAtD w (.returned (.tuple #[.agg #[.slice A1 ts.length c1], .int .i64 id])) (w1.setCell ⟨w.heap.size, 0, none⟩ V) from
    ⟨ts, A1, c1, id, rfl, h1, h2, ((ht.set (by show w.heap.size < W0.heap.size; omega) V).low (by omega)).mono (by simp), (hb0.trans (hb1.mono (by omega))).setCell (Nat.le_refl _) _⟩)
  clear hW0 hb0 r0 rf h1 h2 ht hb1
  go_wp2_with fail
  refine bodyPost_ret (v := .tuple #[.agg #[.slice A1 ts.length c1], .int .i64 id]) (by simp [results, Try.results35, go_sem, *]) rfl ?_
  exact HF.out _

set_option maxRecDepth 100000 in
set_option maxHeartbeats 1000000 in
theorem drawAll_any (A : Option Addr) (c : Nat) (code : List UInt8) (w : World) (hA : BytesIn w 0 w.heap.size A code) (hn : code.length ≤ 9223372036854775807) :
    Calls Try.prog 34 #[.slice A code.length c] w (NewOp w) := by
  have HA := Lib.hid hA
  clear hA
  go_enter Try.func34, Try.ntmps34
  go_wp2_with fail
  obtain ⟨W0, hW0⟩ : ∃ y, y = w.alloc (.cells #[.slice none 0 0] 25) := ⟨_, rfl⟩
  have hb0 : Below w.heap.size w W0 := by rw [hW0]; exact (Below.refl _ _).alloc (Nat.le_refl _) _
  have hz0 : w.heap.size < W0.heap.size := by rw [hW0]; simp
  have r0 : W0.cell? ⟨w.heap.size, 0, none⟩ = some (.slice none 0 0) := by rw [hW0]; simp
  have rf : W0.frozen? ⟨w.heap.size, 0, none⟩ = false := by rw [hW0]; simp
  rw [← hW0]
  refine (drawOpened_any A c code W0 ((HA.out.keep fun p _ hp => hb0.cell hp).mono hb0.size) hn).mono ?_
  rintro e w1 ⟨ts, A1, c1, hv, A2, c2, rfl, h1, h2, ht, hi, hb1⟩
  have r1 := (hb1.cell (p := ⟨w.heap.size, 0, none⟩) hz0).trans r0
  have rf1 := (hb1.frozen (p := ⟨w.heap.size, 0, none⟩) hz0).trans rf
  have HF := Lib.hid (fun V => show NewOp w (.returned (.tuple #[.agg #[.slice A1 ts.length c1], .slice A2 hv.length c2])) (w1.setCell ⟨w.heap.size, 0, none⟩ V) from
    ⟨ts, A1, c1, hv, A2, c2, rfl, h1, h2, ((ht.set (by show w.heap.size < W0.heap.size; omega) V).low (by omega)).mono (by simp), ((hi.keep fun p hp _ => World.cell?_setCell_other _ _ _ _ (fun e => by subst e; exact absurd hp (by show ¬ (W0.heap.size ≤ w.heap.size); omega))).low (by omega)).mono (by simp), (hb0.trans (hb1.mono (by omega))).setCell (Nat.le_refl _) _⟩)
  clear hW0 hb0 r0 rf h1 h2 ht hi hb1
  go_wp2_with fail
  refine bodyPost_ret (v := .tuple #[.agg #[.slice A1 ts.length c1], .slice A2 hv.length c2]) (by simp [results, Try.results34, go_sem, *]) rfl ?_
  exact HF.out _

end Go.Proofs.Ytigkojdchpjkcaa
