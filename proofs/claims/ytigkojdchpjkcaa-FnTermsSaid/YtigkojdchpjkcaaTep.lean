/-
  Intern's answer put in again: plain data. The laws' look at two texts.
-/
import Derived.Test.YtigkojdchpjkcaaGat
import Derived.Test.YtigkojdchpjkcaaTms
import Derived.Test.YtigkojdchpjkcaaDo
namespace Go.Proofs.Ytigkojdchpjkcaa
open Go.RowKit Go.Maps

theorem look_at {ts : List Tm} (hl : LOk ts) {t : Tm} {i : Nat} (hi : i < ts.length) (he : ts[i] = t) : lookI ts t = i := by
  refine lookI_found hi he fun j hj h => ?_
  obtain ⟨_, _, _, hd⟩ := hl.2 i hi
  have hj' : j < ts.length := by omega
  rw [List.getElem?_eq_getElem hj'] at h
  injection h with h
  exact hd j hj (h.trans he.symm)

/-- The term t stands at i in xs, which is ts or one more. -/
structure InP (ts : List Tm) (t : Tm) (xs : List Tm) (i : Nat) : Prop where
  ok : LOk xs
  here : ∃ h : i < xs.length, xs[i] = t
  ge : ts.length ≤ xs.length
  le : xs.length ≤ ts.length + 1
  pre : ∀ j (h : j < ts.length), ∃ h2 : j < xs.length, xs[j] = ts[j]
  again : internL xs t = xs ∧ internI xs t = i
  look : lookV xs t = i
  bk : bulk xs ≤ bulk ts + t.text.length

theorem in_again {xs : List Tm} {t : Tm} {i : Nat} (hok : LOk xs) (hi : i < xs.length) (he : xs[i] = t) : (internL xs t = xs ∧ internI xs t = i) ∧ lookV xs t = i := by
  obtain ⟨_, ho, hk, _⟩ := hok.2 i hi
  rw [he] at ho hk
  have hm : t ∈ xs := he ▸ List.getElem_mem hi
  have hlk := look_at hok hi he
  have h := intern_old (termB_of hok (okB_mono ho (by omega)) hk) hm
  rw [hlk] at h
  refine ⟨h, ?_⟩
  unfold lookV
  rw [if_pos (lokB_true hok), hlk]

theorem intern_ways (ts : List Tm) (t : Tm) : (internL ts t = [] ∧ internI ts t = -1) ∨ ∃ xs i, internL ts t = xs ∧ internI ts t = ((i : Nat) : Int) ∧ InP ts t xs i := by
  cases hb : internB ts t with
  | false => exact .inl (intern_no hb)
  | true =>
    right
    have hb' := hb
    unfold internB at hb
    simp only [Bool.and_eq_true, Bool.or_eq_true, decide_eq_true_eq] at hb
    obtain ⟨ht, hm⟩ := hb
    have ht' := ht
    unfold termB at ht
    rw [Bool.and_eq_true, readB_eq', Bool.and_eq_true] at ht
    obtain ⟨hlk, ho, hk⟩ := ht
    have hok := lok_of hlk
    by_cases hin : t ∈ ts
    · obtain ⟨i, hi, he⟩ := List.getElem_of_mem hin
      obtain ⟨h1, h2⟩ := in_again hok hi he
      exact ⟨ts, i, h1.1, h1.2, hok, ⟨hi, he⟩, Nat.le_refl _, by omega, fun j h => ⟨h, rfl⟩, h1, h2, by omega⟩
    · have hl : ts.length < 400 := by
        rcases hm with h | h
        · exact absurd h hin
        · exact h
      have hok2 := lok_snoc hok ho hk hin hl
      have hi : ts.length < (ts ++ [t]).length := by simp
      have he : (ts ++ [t])[ts.length] = t := by simp
      obtain ⟨h1, h2⟩ := in_again hok2 hi he
      have h := intern_new ht' hin hl
      exact ⟨ts ++ [t], ts.length, h.1, h.2, hok2, ⟨hi, he⟩, by simp, by simp, fun j h => ⟨by simp; omega, List.getElem_append_left h⟩, h1, h2, by rw [bulk_append]; simp [bulk]⟩

theorem at_in {xs : List Tm} (hok : LOk xs) {i : Nat} (hi : i < xs.length) : atB xs i = true ∧ atT xs i = xs[i] := by
  have hb : atB xs i = true := by
    unfold atB
    rw [lokB_true hok, (hasB_iff _ _).2 ⟨by omega, by omega⟩]
    rfl
  exact ⟨hb, by unfold atT; rw [if_pos hb, tmAt_nat xs i hi]⟩

set_option maxHeartbeats 1000000 in
theorem same_any (l l' : List UInt8) (A A' : Option Addr) (c c' L L' B B' : Nat) (w : World) (hA : BytesIn w L B A l) (hA' : BytesIn w L' B' A' l') :
    Calls Try.prog 15 #[.slice A l.length c, .slice A' l'.length c'] w fun e w' => e = .returned (.bool (decide (l = l'))) ∧ Below w.heap.size w w' := by
  have s1 := run_str hA c
  have s2 := run_str hA' c'
  clear hA hA'
  go_enter Try.func15, Try.ntmps15
  go_wp2
  all_goals go_ret
  all_goals refine ⟨ret_bool ?_, Below.refl _ _⟩
  all_goals first | (simp_all; done) | (rw [Bool.eq_iff_iff]; simp_all; done)

end Go.Proofs.Ytigkojdchpjkcaa
