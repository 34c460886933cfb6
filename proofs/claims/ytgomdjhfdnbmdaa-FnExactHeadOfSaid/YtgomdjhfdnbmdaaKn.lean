/-
  Whose head is the first: the model and the program.
-/
import Derived.Test.YtgomdjhfdnbmdaaMn
namespace Go.Proofs.Ytgomdjhfdnbmdaa
open Go.RowKit Go.Maps

/-- The place of the first of that author; as many as there are: none. -/
def headN (hs : List Mn) (a : Int) : Nat := hs.findIdx fun m => m.au == a
def headI (hs : List Mn) (a : Int) : Int := if headN hs a < hs.length then (headN hs a : Int) else -1
/-- Which was taken last of that author. -/
def knownI (hs : List Mn) (a : Int) : Int := if h : headN hs a < hs.length then hs[headN hs a].sq else 0

theorem headN_at {hs : List Mn} {a : Int} {k : Nat} (hk : k < hs.length) (h : hs[k].au = a) (hn : ∀ j (hj : j < hs.length), j < k → hs[j].au ≠ a) : headN hs a = k := by
  unfold headN
  rw [List.findIdx_eq hk]
  refine ⟨by simp [h], fun j hj => ?_⟩
  have := hn j (by omega) hj
  simp [this]
theorem headN_none {hs : List Mn} {a : Int} (hn : ∀ j (hj : j < hs.length), hs[j].au ≠ a) : ¬ headN hs a < hs.length := by
  intro h
  unfold headN at h
  have h2 := List.findIdx_getElem (p := fun m : Mn => m.au == a) (xs := hs) (w := h)
  exact hn _ h (by simpa using h2)
theorem headI_at {hs : List Mn} {a : Int} {k : Nat} (hk : k < hs.length) (h : hs[k].au = a) (hn : ∀ j (hj : j < hs.length), j < k → hs[j].au ≠ a) : headI hs a = k := by
  unfold headI
  rw [headN_at hk h hn, if_pos hk]
theorem headI_none {hs : List Mn} {a : Int} (hn : ∀ j (hj : j < hs.length), hs[j].au ≠ a) : headI hs a = -1 := by
  unfold headI
  rw [if_neg (headN_none hn)]
theorem headI_cases (hs : List Mn) (a : Int) : (headI hs a = -1 ∧ ¬ headN hs a < hs.length) ∨ ∃ k : Nat, headI hs a = k ∧ k = headN hs a ∧ k < hs.length := by
  unfold headI
  by_cases h : headN hs a < hs.length
  · exact .inr ⟨_, by rw [if_pos h], rfl, h⟩
  · exact .inl ⟨by rw [if_neg h], h⟩

section
variable (id : Int) (AV : Option Addr) (nv cv : Nat) (A : Option Addr) (ne c : Nat) (AH : Option Addr) (hs : List Mn) (ch : Nat) (al : Bool) (AP : Option Addr) (np cp : Nat) (a : Int) (w : World)

set_option maxRecDepth 100000 in
set_option maxHeartbeats 1000000 in
theorem l5head_any (hH : MnsIn w 0 w.heap.size AH hs) (hn : hs.length ≤ 1048576) :
    Calls Try.prog 22 #[.agg #[.int .i64 id, .slice AV nv cv, .slice A ne c, .slice AH hs.length ch, .bool al, .slice AP np cp], .int .i64 a] w fun e w' => e = .returned (.int .i64 (headI hs a)) ∧ Below w.heap.size w w' := by
  have HH := Lib.hid hH
  clear hH
  go_enter Try.func22, Try.ntmps22
  go_wp2_with fail
  obtain ⟨W, hW⟩ : ∃ W, W = w.alloc (.cells #[.int .i64 id, .slice AV nv cv, .slice A ne c, .slice AH hs.length ch, .bool al, .slice AP np cp] 36) := ⟨_, rfl⟩
  have HX := Lib.hid (show Bx W w.heap.size [.int .i64 id, .slice AV nv cv, .slice A ne c, .slice AH hs.length ch, .bool al, .slice AP np cp] by rw [hW]; exact Bx.new' _ _ _ _ rfl)
  have HBel := Lib.hid (show Below w.heap.size w W by rw [hW]; exact (Below.refl _ _).alloc (Nat.le_refl _) _)
  have hz : w.heap.size < W.heap.size := by rw [hW]; simp
  rw [← hW]
  clear hW
  go_loopw [5] (fun i wr => ∃ k : Nat, k ≤ hs.length ∧ i = .int .i64 k ∧ (∀ j (hj : j < hs.length), j < k → hs[j].au ≠ a) ∧ wr = W) (fun i _ => hs.length - (intOf i).toNat)
  case atStart => exact ⟨0, Nat.zero_le _, rfl, fun j _ h => absurd h (by omega), rfl⟩
  case round =>
    obtain ⟨k, hk, rfl, hno, rfl⟩ := hrel
    have HNo := Lib.hid hno
    have x3 := HX.out 3 (by simp)
    simp only [List.getElem_cons_succ, List.getElem_cons_zero] at x3
    clear hno
    by_cases hlt : k < hs.length
    · obtain ⟨b, o, rfl, hL, hb, hc⟩ := HH.out (by omega)
      obtain ⟨AV', cv', A', c', c0, _⟩ := (hc k hlt).keep hL hb (fun p _ hp => HBel.out.cell hp)
      obtain ⟨m, hm⟩ : ∃ m, m = hs[k].au := ⟨_, rfl⟩
      have HM := Lib.hid hm
      rw [← hm] at c0
      clear hc hm
      by_cases he : m = a
      · have HR := Lib.hid (headI_at hlt (HM.out.symm.trans he) HNo.out)
        subst he
        go_wp2_with fail
        go_ret
        exact ⟨ret_int HR.out.symm, HBel.out⟩
      · have HE := Lib.hid he
        go_wp2_with fail
        go_roundw
        case rel =>
          refine ⟨k + 1, by omega, by go_num, fun j hj hjk => ?_, by first | rfl | trivial⟩
          by_cases e : j = k
          · subst e; exact fun h => HE.out (HM.out.trans h)
          · exact HNo.out j hj (by omega)
        case measure => simp [intOf]; omega
    · have HR := Lib.hid (headI_none (hs := hs) (a := a) fun j hj => HNo.out j hj (by omega))
      go_wp2_with fail
      go_ret
      exact ⟨ret_int (a := -1) HR.out.symm, HBel.out⟩

set_option maxRecDepth 100000 in
set_option maxHeartbeats 1000000 in
theorem headAt1_any (m : Mn) (A1 : Option Addr) (c1 : Nat) (A2 : Option Addr) (c2 : Nat) (p : Nat) (hp : w.cell? ⟨p, 0, none⟩ = some (.int .i64 a)) :
    Calls Try.prog 44 #[.agg #[.int .i64 m.au, .int .i64 m.sq, .int .i64 m.pv, .slice A1 m.vec.length c1, .slice A2 m.es.length c2, .int .i64 m.sg], .pointer (some ⟨p, 0, none⟩)] w fun e w' => e = .returned (.bool (m.au == a)) ∧ Below w.heap.size w w' := by
  have hps := World.block_lt_of_cell? w _ hp
  have hps' : p < w.heap.size := hps
  go_enter Try.func44, Try.ntmps44
  go_wp2_with fail
  go_ret
  exact ⟨rfl, (Below.refl _ _).alloc (Nat.le_refl _) _⟩

set_option maxRecDepth 100000 in
set_option maxHeartbeats 1000000 in
theorem indexFunc_any (p : Nat) (hp : w.cell? ⟨p, 0, none⟩ = some (.int .i64 a)) (hH : MnsIn w 0 w.heap.size AH hs) (hn : hs.length ≤ 1048576) :
    Calls Try.prog 43 #[.slice AH hs.length ch, .func (.func 44) #[] #[.pointer (some ⟨p, 0, none⟩)]] w fun e w' => e = .returned (.int .i64 (headI hs a)) ∧ Below w.heap.size w w' := by
  have hps := World.block_lt_of_cell? w _ hp
  have hps' : p < w.heap.size := hps
  have HH := Lib.hid hH
  have HP := Lib.hid hp
  have HOne := Lib.hid (fun (X : World) (m : Mn) A1 c1 A2 c2 (h : X.cell? ⟨p, 0, none⟩ = some (.int .i64 a)) => headAt1_any a X m A1 c1 A2 c2 p h)
  clear hH hp hps
  go_enter Try.func43, Try.ntmps43
  go_wp2_with fail
  go_loopw [8] (fun i wr => ∃ k : Nat, k ≤ hs.length ∧ i = .int .i64 k ∧ (∀ j (hj : j < hs.length), j < k → hs[j].au ≠ a) ∧ Below w.heap.size w wr) (fun i _ => hs.length - (intOf i).toNat)
  case atStart => exact ⟨0, Nat.zero_le _, rfl, fun j _ h => absurd h (by omega), Below.refl _ _⟩
  case round =>
    obtain ⟨k, hk, rfl, hno, hbel⟩ := hrel
    have HNo := Lib.hid hno
    have HBel := Lib.hid hbel
    have hz := hbel.size
    clear hno hbel
    by_cases hlt : k < hs.length
    · obtain ⟨b, o, rfl, hL, hb, hc⟩ := HH.out (by omega)
      obtain ⟨A1, c1, A2, c2, d0, d1, d2, d3, d4, d5, _⟩ := (hc k hlt).keep (w' := wr) hL hb (fun p _ hp => HBel.out.cell hp)
      have hlt' : (k : Int) < (hs.length : Int) := by omega
      have HOne2 := Lib.hid (HOne.out wr hs[k] A1 c1 A2 c2 ((HBel.out.cell (p := ⟨p, 0, none⟩) hps').trans HP.out))
      obtain ⟨q, hq⟩ : ∃ q, q = (hs[k].au == a) := ⟨_, rfl⟩
      rw [← hq] at HOne2
      have HQ := Lib.hid hq
      obtain ⟨m, hm⟩ : ∃ m, m = hs[k] := ⟨_, rfl⟩
      rw [← hm] at d0 d1 d2 d3 d4 d5 HOne2
      clear hc hq hm
      go_wp2_with fail
      refine HOne2.out.mono ?_
      rintro e w1 ⟨rfl, hb1⟩
      have HB1 := Lib.hid (HBel.out.trans (hb1.mono hz))
      clear hb1 d0 d1 d2 d3 d4 d5 HOne2
      cases q with
      | true =>
        have HR := Lib.hid (headI_at hlt (by simpa using HQ.out.symm) HNo.out)
        go_wp2_with fail
        go_ret
        exact ⟨ret_int HR.out.symm, HB1.out⟩
      | false =>
        go_wp2_with fail
        go_roundw
        case rel =>
          refine ⟨k + 1, by omega, by go_num, fun j hj hjk => ?_, HB1.out⟩
          by_cases e : j = k
          · subst e
            have := HQ.out
            intro h
            simp [h] at this
          · exact HNo.out j hj (by omega)
        case measure => simp [intOf]; omega
    · have HR := Lib.hid (headI_none (hs := hs) (a := a) fun j hj => HNo.out j hj (by omega))
      go_wp2_with fail
      go_ret
      exact ⟨ret_int (a := -1) HR.out.symm, HBel.out⟩

set_option maxRecDepth 100000 in
set_option maxHeartbeats 1000000 in
theorem headAt_any (hH : MnsIn w 0 w.heap.size AH hs) (hn : hs.length ≤ 1048576) :
    Calls Try.prog 25 #[.agg #[.int .i64 id, .slice AV nv cv, .slice A ne c, .slice AH hs.length ch, .bool al, .slice AP np cp], .int .i64 a] w fun e w' => e = .returned (.int .i64 (headI hs a)) ∧ Below w.heap.size w w' := by
  have HH := Lib.hid hH
  have hmf : ∀ (fn : Fn) (first cap : Array Value) (w : World), (Instr.makeFunc fn first cap).run Try.prog w = .ok (.func fn first cap) w := fun _ _ _ _ => rfl
  clear hH
  go_enter Try.func25, Try.ntmps25
  go_wp2_with fail
  obtain ⟨W0, hW0⟩ : ∃ W0, W0 = w.alloc (.cells #[.int .i64 id, .slice AV nv cv, .slice A ne c, .slice AH hs.length ch, .bool al, .slice AP np cp] 36) := ⟨_, rfl⟩
  obtain ⟨W, hW⟩ : ∃ W, W = W0.alloc (.cells #[.int .i64 a] 3) := ⟨_, rfl⟩
  have hz0 : W0.heap.size = w.heap.size + 1 := by rw [hW0]; simp
  have hz : w.heap.size + 1 < W.heap.size := by rw [hW]; simp [hz0]
  have HBel := Lib.hid (show Below w.heap.size w W by rw [hW, hW0]; exact ((Below.refl _ _).alloc (Nat.le_refl _) _).alloc (by simp) _)
  have hp : W.cell? ⟨w.heap.size + 1, 0, none⟩ = some (.int .i64 a) := by rw [hW, ← hz0]; simp
  have HP := Lib.hid hp
  rw [← hW0, ← hW]
  clear hW hW0 hz0 hp
  refine (indexFunc_any AH hs ch a W (w.heap.size + 1) HP.out ((HH.out.keep fun p _ hp => HBel.out.cell hp).mono (by omega)) hn).mono ?_
  rintro r w1 ⟨rfl, hb⟩
  have HB1 := Lib.hid (HBel.out.trans (hb.mono (by omega)))
  clear hb
  go_wp2_with fail
  go_ret
  exact ⟨rfl, HB1.out⟩
end

theorem knownI_at {hs : List Mn} {a : Int} (h : headN hs a < hs.length) : knownI hs a = hs[headN hs a].sq := by unfold knownI; rw [dif_pos h]
theorem knownI_none {hs : List Mn} {a : Int} (h : ¬ headN hs a < hs.length) : knownI hs a = 0 := by unfold knownI; rw [dif_neg h]

set_option maxRecDepth 100000 in
set_option maxHeartbeats 1000000 in
theorem specKnown_any (id : Int) (AV : Option Addr) (vec : List Int) (cv : Nat) (A : Option Addr) (es : List En) (c : Nat) (AH : Option Addr) (hs : List Mn) (ch : Nat) (al : Bool) (AP : Option Addr) (ps : List Mn) (cp : Nat) (a : Int) (w : World) (_hV : IntsIn w 0 w.heap.size AV vec) (_hA : EnsIn w 0 w.heap.size A es) (hH : MnsRd w 0 w.heap.size AH hs) (_hP : MnsRd w 0 w.heap.size AP ps) (_hv : vec.length ≤ 1048576) (_hn : es.length ≤ 1048576) (_hbk : ebulk es ≤ 1048576) (hhl : hs.length ≤ 1048576) (_hhb : mbulk hs ≤ 1048576) (_hpl : ps.length ≤ 1048576) (_hpb : mbulk ps ≤ 1048576) :
    Calls Try.prog 7 #[.agg #[.int .i64 id, .slice AV vec.length cv, .slice A es.length c, .slice AH hs.length ch, .bool al, .slice AP ps.length cp], .int .i64 a] w fun e w' => e = .returned (.int .i64 (knownI hs a)) ∧ Below w.heap.size w w' := by
  have HH := Lib.hid hH.in
  clear hH
  go_enter Try.func7, Try.ntmps7
  go_wp2_with fail
  obtain ⟨W, hW⟩ : ∃ W, W = w.alloc (.cells #[.int .i64 id, .slice AV vec.length cv, .slice A es.length c, .slice AH hs.length ch, .bool al, .slice AP ps.length cp] 36) := ⟨_, rfl⟩
  have HX := Lib.hid (show Bx W w.heap.size [.int .i64 id, .slice AV vec.length cv, .slice A es.length c, .slice AH hs.length ch, .bool al, .slice AP ps.length cp] by rw [hW]; exact Bx.new' _ _ _ _ rfl)
  have HBel := Lib.hid (show Below w.heap.size w W by rw [hW]; exact (Below.refl _ _).alloc (Nat.le_refl _) _)
  have hz : w.heap.size < W.heap.size := by rw [hW]; simp
  rw [← hW]
  clear hW
  refine (l5head_any id AV vec.length cv A es.length c AH hs ch al AP ps.length cp a W ((HH.out.keep fun p _ hp => HBel.out.cell hp).mono (by omega)) hhl).mono ?_
  rintro e w1 ⟨rfl, hb1⟩
  have HB1 := Lib.hid (HBel.out.trans (hb1.mono (by omega)))
  have x3 := (HX.out.below hb1 hz) 3 (by simp)
  simp only [List.getElem_cons_succ, List.getElem_cons_zero] at x3
  have hz1 : w.heap.size < w1.heap.size := by have := hb1.size; omega
  clear hb1 HX HBel
  rcases headI_cases hs a with ⟨h1, h2⟩ | ⟨k, h1, h2, h3⟩
  · have HR := Lib.hid (knownI_none h2)
    rw [h1]
    clear h1
    go_wp2_with fail
    go_ret
    exact ⟨ret_int (a := 0) HR.out.symm, HB1.out⟩
  · obtain ⟨s, hs'⟩ : ∃ s, s = hs[k].sq := ⟨_, rfl⟩
    have HR := Lib.hid (show knownI hs a = s by subst h2; rw [hs', knownI_at h3])
    obtain ⟨b, o, rfl, hL, hb, hc⟩ := HH.out (by omega)
    obtain ⟨A1, c1, A2, c2, d0, d1, _⟩ := (hc k h3).keep (w' := w1) hL hb (fun p _ hp => HB1.out.cell hp)
    rw [← hs'] at d1
    have hk' : (k : Int) < (hs.length : Int) := by omega
    have hk0 : ¬ ((k : Int) < 0) := by omega
    rw [h1]
    clear h1 h2 hc hs' d0
    go_wp2_with fail
    go_ret
    exact ⟨ret_int HR.out.symm, HB1.out⟩

set_option maxRecDepth 100000 in
set_option maxHeartbeats 1000000 in
theorem implKnown_any (id : Int) (AV : Option Addr) (vec : List Int) (cv : Nat) (A : Option Addr) (es : List En) (c : Nat) (AH : Option Addr) (hs : List Mn) (ch : Nat) (al : Bool) (AP : Option Addr) (ps : List Mn) (cp : Nat) (a : Int) (w : World) (_hV : IntsIn w 0 w.heap.size AV vec) (_hA : EnsIn w 0 w.heap.size A es) (hH : MnsRd w 0 w.heap.size AH hs) (_hP : MnsRd w 0 w.heap.size AP ps) (_hv : vec.length ≤ 1048576) (_hn : es.length ≤ 1048576) (_hbk : ebulk es ≤ 1048576) (hhl : hs.length ≤ 1048576) (_hhb : mbulk hs ≤ 1048576) (_hpl : ps.length ≤ 1048576) (_hpb : mbulk ps ≤ 1048576) :
    Calls Try.prog 9 #[.agg #[.int .i64 id, .slice AV vec.length cv, .slice A es.length c, .slice AH hs.length ch, .bool al, .slice AP ps.length cp], .int .i64 a] w fun e w' => e = .returned (.int .i64 (knownI hs a)) ∧ Below w.heap.size w w' := by
  have HH := Lib.hid hH.in
  clear hH
  go_enter Try.func9, Try.ntmps9
  go_wp2_with fail
  obtain ⟨W, hW⟩ : ∃ W, W = w.alloc (.cells #[.int .i64 id, .slice AV vec.length cv, .slice A es.length c, .slice AH hs.length ch, .bool al, .slice AP ps.length cp] 36) := ⟨_, rfl⟩
  have HX := Lib.hid (show Bx W w.heap.size [.int .i64 id, .slice AV vec.length cv, .slice A es.length c, .slice AH hs.length ch, .bool al, .slice AP ps.length cp] by rw [hW]; exact Bx.new' _ _ _ _ rfl)
  have HBel := Lib.hid (show Below w.heap.size w W by rw [hW]; exact (Below.refl _ _).alloc (Nat.le_refl _) _)
  have hz : w.heap.size < W.heap.size := by rw [hW]; simp
  rw [← hW]
  clear hW
  refine (headAt_any id AV vec.length cv A es.length c AH hs ch al AP ps.length cp a W ((HH.out.keep fun p _ hp => HBel.out.cell hp).mono (by omega)) hhl).mono ?_
  rintro e w1 ⟨rfl, hb1⟩
  have HB1 := Lib.hid (HBel.out.trans (hb1.mono (by omega)))
  have x3 := (HX.out.below hb1 hz) 3 (by simp)
  simp only [List.getElem_cons_succ, List.getElem_cons_zero] at x3
  have hz1 : w.heap.size < w1.heap.size := by have := hb1.size; omega
  clear hb1 HX HBel
  rcases headI_cases hs a with ⟨h1, h2⟩ | ⟨k, h1, h2, h3⟩
  · have HR := Lib.hid (knownI_none h2)
    rw [h1]
    clear h1
    go_wp2_with fail
    go_ret
    exact ⟨ret_int (a := 0) HR.out.symm, HB1.out⟩
  · obtain ⟨s, hs'⟩ : ∃ s, s = hs[k].sq := ⟨_, rfl⟩
    have HR := Lib.hid (show knownI hs a = s by subst h2; rw [hs', knownI_at h3])
    obtain ⟨b, o, rfl, hL, hb, hc⟩ := HH.out (by omega)
    obtain ⟨A1, c1, A2, c2, d0, d1, _⟩ := (hc k h3).keep (w' := w1) hL hb (fun p _ hp => HB1.out.cell hp)
    rw [← hs'] at d1
    have hk' : (k : Int) < (hs.length : Int) := by omega
    have hk0 : ¬ ((k : Int) < 0) := by omega
    rw [h1]
    clear h1 h2 hc hs' d0
    go_wp2_with fail
    go_ret
    exact ⟨ret_int HR.out.symm, HB1.out⟩

end Go.Proofs.Ytgomdjhfdnbmdaa
