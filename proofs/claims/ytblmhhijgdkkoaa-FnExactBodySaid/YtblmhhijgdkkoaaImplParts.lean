/-
  The program's look at what a term is made of.
-/
import Derived.Test.YtblmhhijgdkkoaaImplBook
namespace Go.Proofs.Ytblmhhijgdkkoaa
open Go.RowKit

/-- Is what t is made of among the terms us? -/
def partsB (us : List Tm) (t : Tm) : Bool :=
  if t.kind = 0 ∨ t.kind = 1 ∨ t.kind = 2 then true
  else if t.kind = 3 then hasB us.length t.a && hasB us.length t.b
  else if t.kind = 4 then hasB us.length t.a
  else hasKeyB us t.a && hasB us.length t.b

section
variable (A : Option Addr) (us : List Tm) (c L B : Nat) (m : Option Nat) (w : World)

set_option maxRecDepth 100000 in
set_option maxHeartbeats 1000000 in
theorem parts_none (T : TypeId) (v : Value) (hT : T = 184 ∨ T = 185 ∨ T = 187) :
    Calls Try.prog 137 #[.agg #[.slice A us.length c, .map m], .iface T v] w fun e w' => e = .returned (.bool true) ∧ Below w.heap.size w w' := by
  rcases hT with rfl | rfl | rfl
  all_goals
    go_enter Try.func137, Try.ntmps137
    go_wp2_with fail
    go_ret
    exact ⟨rfl, (Below.refl _ _).alloc (Nat.le_refl _) _⟩

set_option maxRecDepth 100000 in
set_option maxHeartbeats 1000000 in
theorem parts_hash (a : Int) :
    Calls Try.prog 137 #[.agg #[.slice A us.length c, .map m], .iface 191 (.agg #[.int .i64 a])] w fun e w' => e = .returned (.bool (hasB us.length a)) ∧ Below w.heap.size w w' := by
  go_enter Try.func137, Try.ntmps137
  go_wp2_with fail
  refine (has_any _ _ _ _ _ _).mono ?_
  rintro e w1 ⟨rfl, hb⟩
  have HB := Lib.hid (((Below.refl _ _).alloc (Nat.le_refl _) _).alloc (by simp) _ |>.trans (hb.mono (by simp; omega)))
  clear hb
  go_wp2_with fail
  go_ret
  exact ⟨rfl, HB.out⟩

set_option maxRecDepth 100000 in
set_option maxHeartbeats 1000000 in
theorem parts_pair (a b : Int) :
    Calls Try.prog 137 #[.agg #[.slice A us.length c, .map m], .iface 189 (.agg #[.int .i64 a, .int .i64 b])] w fun e w' => e = .returned (.bool (hasB us.length a && hasB us.length b)) ∧ Below w.heap.size w w' := by
  cases h1 : hasB us.length a with
  | false =>
    have H1 := Lib.hid h1
    clear h1
    go_enter Try.func137, Try.ntmps137
    go_wp2_with fail
    refine (has_any _ _ _ _ _ _).mono ?_
    rintro e w1 ⟨rfl, hb⟩
    rw [H1.out]
    have HB := Lib.hid (((Below.refl _ _).alloc (Nat.le_refl _) _).alloc (by simp) _ |>.trans (hb.mono (by simp; omega)))
    clear hb
    go_wp2_with fail
    go_ret
    exact ⟨rfl, HB.out⟩
  | true =>
    have H1 := Lib.hid h1
    clear h1
    go_enter Try.func137, Try.ntmps137
    go_wp2_with fail
    refine (has_any _ _ _ _ _ _).mono ?_
    rintro e w1 ⟨rfl, hb⟩
    rw [H1.out]
    obtain ⟨hc, hf⟩ := bcell hb
    have HB := Lib.hid (((Below.refl _ _).alloc (Nat.le_refl _) _).alloc (by simp) _ |>.trans (hb.mono (by simp; omega)))
    clear hb hf
    go_wp2_with fail
    refine (has_any _ _ _ _ _ _).mono ?_
    rintro e w2 ⟨rfl, hb⟩
    have HB2 := Lib.hid (HB.out.trans (hb.mono HB.out.size))
    clear hb
    go_wp2_with fail
    go_ret
    exact ⟨ret_bool (by simp), HB2.out⟩

set_option maxRecDepth 100000 in
set_option maxHeartbeats 1000000 in
theorem parts_keyed (T : TypeId) (a b : Int) (hT : T = 193 ∨ T = 194) (hA : BkIn w L B A us) (hB : B ≤ w.heap.size) (hn : us.length ≤ 1048576) :
    Calls Try.prog 137 #[.agg #[.slice A us.length c, .map m], .iface T (.agg #[.int .i64 a, .int .i64 b])] w fun e w' => e = .returned (.bool (hasKeyB us a && hasB us.length b)) ∧ Below w.heap.size w w' := by
  have HA := Lib.hid hA
  clear hA
  cases h1 : hasKeyB us a with
  | false =>
    have H1 := Lib.hid h1
    clear h1
    rcases hT with rfl | rfl
    all_goals
      go_enter Try.func137, Try.ntmps137
      go_wp2_with fail
      refine (hasKey_any _ _ _ L B _ _ _ ?_ ?_ hn).mono ?_
      · exact HA.out.keep fun p _ hp => (((Below.refl _ _).alloc (Nat.le_refl _) _).alloc (by simp) _).cell (by omega)
      · simp; omega
      rintro e w1 ⟨rfl, hb⟩
      rw [H1.out]
      have HB := Lib.hid (((Below.refl _ _).alloc (Nat.le_refl _) _).alloc (by simp) _ |>.trans (hb.mono (by simp; omega)))
      clear hb
      go_wp2_with fail
      go_ret
      exact ⟨rfl, HB.out⟩
  | true =>
    have H1 := Lib.hid h1
    clear h1
    rcases hT with rfl | rfl
    all_goals
      go_enter Try.func137, Try.ntmps137
      go_wp2_with fail
      refine (hasKey_any _ _ _ L B _ _ _ ?_ ?_ hn).mono ?_
      · exact HA.out.keep fun p _ hp => (((Below.refl _ _).alloc (Nat.le_refl _) _).alloc (by simp) _).cell (by omega)
      · simp; omega
      rintro e w1 ⟨rfl, hb⟩
      rw [H1.out]
      obtain ⟨hc, hf⟩ := bcell hb
      have HB := Lib.hid (((Below.refl _ _).alloc (Nat.le_refl _) _).alloc (by simp) _ |>.trans (hb.mono (by simp; omega)))
      clear hb hf
      go_wp2_with fail
      refine (has_any _ _ _ _ _ _).mono ?_
      rintro e w2 ⟨rfl, hb⟩
      have HB2 := Lib.hid (HB.out.trans (hb.mono HB.out.size))
      clear hb
      go_wp2_with fail
      go_ret
      exact ⟨ret_bool (by simp), HB2.out⟩

theorem hasPartsOf_any (t : Tm) (hA : BkIn w L B A us) (hB : B ≤ w.heap.size) (hn : us.length ≤ 1048576) :
    Calls Try.prog 137 #[.agg #[.slice A us.length c, .map m], tv t] w fun e w' => e = .returned (.bool (partsB us t)) ∧ Below w.heap.size w w' := by
  unfold tv partsB
  by_cases h0 : t.kind = 0
  · rw [if_pos h0, if_pos (.inl h0)]
    exact parts_none A us c m w _ _ (.inl rfl)
  rw [if_neg h0]
  by_cases h1 : t.kind = 1
  · rw [if_pos h1, if_pos (.inr (.inl h1))]
    exact parts_none A us c m w _ _ (.inr (.inl rfl))
  rw [if_neg h1]
  by_cases h2 : t.kind = 2
  · rw [if_pos h2, if_pos (.inr (.inr h2))]
    exact parts_none A us c m w _ _ (.inr (.inr rfl))
  rw [if_neg h2, if_neg (show ¬ (t.kind = 0 ∨ t.kind = 1 ∨ t.kind = 2) by simp [h0, h1, h2])]
  by_cases h3 : t.kind = 3
  · rw [if_pos h3, if_pos h3]
    exact parts_pair A us c m w _ _
  rw [if_neg h3, if_neg h3]
  by_cases h4 : t.kind = 4
  · rw [if_pos h4, if_pos h4]
    exact parts_hash A us c m w _
  rw [if_neg h4, if_neg h4]
  by_cases h5 : t.kind = 5
  · rw [if_pos h5]
    exact parts_keyed A us c L B m w _ _ _ (.inl rfl) hA hB hn
  rw [if_neg h5]
  exact parts_keyed A us c L B m w _ _ _ (.inr rfl) hA hB hn
end

end Go.Proofs.Ytblmhhijgdkkoaa
