/-
  The program's book: a ledger that has been read.
-/
import Derived.Test.YtblmhhijgdkkoaaImplTerm
import Derived.Test.YtblmhhijgdkkoaaAssert
namespace Go.Proofs.Ytblmhhijgdkkoaa
open Go.RowKit

/-- The slice address A holds the values of the terms us. -/
def BkIn (w : World) (L B : Nat) (A : Option Addr) (us : List Tm) : Prop :=
  0 < us.length → ∃ b o, A = some ⟨b, o, none⟩ ∧ L ≤ b ∧ b < B ∧ ∀ i (hi : i < us.length), w.cell? ⟨b, o + i, none⟩ = some (tv us[i])

section
variable {w w' : World} {L B B' : Nat} {A : Option Addr} {us : List Tm}
theorem BkIn.keep (h : BkIn w L B A us) (hk : ∀ p : Addr, L ≤ p.block → p.block < B → w'.cell? p = w.cell? p) : BkIn w' L B A us := fun hl => by
  obtain ⟨b, o, e, hL, hb, hc⟩ := h hl
  exact ⟨b, o, e, hL, hb, fun i hi => (hk _ hL hb).trans (hc i hi)⟩
theorem BkIn.below (h : BkIn w L B A us) (hb : Below B w w') : BkIn w' L B A us := h.keep fun _ _ hp => hb.cell hp
theorem BkIn.low {L' : Nat} (h : BkIn w L B A us) (hL' : L' ≤ L) : BkIn w L' B A us := fun hl => by
  obtain ⟨b, o, e, hL, hb, hc⟩ := h hl
  exact ⟨b, o, e, by omega, hb, hc⟩
theorem BkIn.mono (h : BkIn w L B A us) (hB : B ≤ B') : BkIn w L B' A us := fun hl => by
  obtain ⟨b, o, e, hL, hb, hc⟩ := h hl
  exact ⟨b, o, e, hL, by omega, hc⟩
end

def hasB (n : Nat) (i : Int) : Bool := decide (0 ≤ i) && decide (i < n)
def hasKeyB (us : List Tm) (i : Int) : Bool := hasB us.length i && ((us[i.toNat]?.getD default).kind == 1)

set_option maxHeartbeats 400000 in
theorem has_any (A : Option Addr) (n c : Nat) (m : Option Nat) (i : Int) (w : World) :
    Calls Try.prog 144 #[.agg #[.slice A n c, .map m], .int .i64 i] w fun e w' => e = .returned (.bool (hasB n i)) ∧ Below w.heap.size w w' := by
  go_enter Try.func144, Try.ntmps144
  go_wp2
  all_goals go_ret
  all_goals refine ⟨ret_bool ?_, (Below.refl _ _).alloc (Nat.le_refl _) _⟩
  all_goals first | (simp_all [hasB]; done) | (simp_all [hasB]; omega)

/-- A term's value is a key's just where it is a key. -/
theorem tv_key (t : Tm) (h : t.kind = 1) : tv t = .iface 185 (.agg #[.int .i64 t.a]) := by simp [tv, h]
theorem tv_cases (t : Tm) : ∃ T v, tv t = .iface T v ∧ (t.kind ≠ 1 → T ≠ 185) := by
  unfold tv
  by_cases h0 : t.kind = 0
  · exact ⟨_, _, if_pos h0, fun _ => by decide⟩
  rw [if_neg h0]
  by_cases h1 : t.kind = 1
  · exact ⟨_, _, if_pos h1, fun h => absurd h1 h⟩
  rw [if_neg h1]
  by_cases h2 : t.kind = 2
  · exact ⟨_, _, if_pos h2, fun _ => by decide⟩
  rw [if_neg h2]
  by_cases h3 : t.kind = 3
  · exact ⟨_, _, if_pos h3, fun _ => by decide⟩
  rw [if_neg h3]
  by_cases h4 : t.kind = 4
  · exact ⟨_, _, if_pos h4, fun _ => by decide⟩
  rw [if_neg h4]
  by_cases h5 : t.kind = 5
  · exact ⟨_, _, if_pos h5, fun _ => by decide⟩
  rw [if_neg h5]
  exact ⟨_, _, rfl, fun _ => by decide⟩

set_option maxRecDepth 100000 in
set_option maxHeartbeats 1000000 in
theorem hasKey_any (A : Option Addr) (us : List Tm) (c L B : Nat) (m : Option Nat) (i : Int) (w : World) (hA : BkIn w L B A us) (hB : B ≤ w.heap.size) (hn : us.length ≤ 1048576) :
    Calls Try.prog 145 #[.agg #[.slice A us.length c, .map m], .int .i64 i] w fun e w' => e = .returned (.bool (hasKeyB us i)) ∧ Below w.heap.size w w' := by
  cases hh : hasB us.length i with
  | false =>
    have HH := Lib.hid hh
    have HR := Lib.hid (show hasKeyB us i = false by simp [hasKeyB, hh])
    clear hh
    go_enter Try.func145, Try.ntmps145
    go_wp2_with fail
    refine (has_any _ _ _ _ _ _).mono ?_
    rintro e w' ⟨rfl, hb⟩
    rw [HH.out]
    have HB := Lib.hid (((Below.refl _ _).alloc (Nat.le_refl _) _).trans (hb.mono (by simp)))
    clear hb
    go_wp2
    go_ret
    exact ⟨ret_bool HR.out.symm, HB.out⟩
  | true =>
    have hi : 0 ≤ i ∧ i < us.length := by simpa [hasB] using hh
    obtain ⟨j, rfl⟩ := Int.eq_ofNat_of_zero_le hi.1
    have hj : j < us.length := by omega
    obtain ⟨b, o, rfl, hL, hb, hc⟩ := hA (by omega)
    have hcell := hc j hj
    have HH := Lib.hid hh
    have HR := Lib.hid (show hasKeyB us j = (us[j].kind == 1) by simp [hasKeyB, hh, hj])
    clear hh hc hA hi
    by_cases hk : us[j].kind = 1
    · rw [tv_key _ hk] at hcell
      have HK := Lib.hid hk
      clear hk
      go_enter Try.func145, Try.ntmps145
      go_wp2_with fail
      refine (has_any _ _ _ _ _ _).mono ?_
      rintro e w' ⟨rfl, hb'⟩
      rw [HH.out]
      have h1 := (hb'.cell (p := ⟨b, o + j, none⟩) (by simp; omega)).trans ((World.cell?_alloc_lt w (.cells #[.slice (some ⟨b, o, none⟩) us.length c, .map m] 122) ⟨b, o + j, none⟩ (by show b < _; omega)).trans hcell)
      have h2 := (hb'.cell (p := ⟨w.heap.size, 0, none⟩) (by simp)).trans (by simp : _ = some (Value.slice (some ⟨b, o, none⟩) us.length c))
      have HB := Lib.hid (((Below.refl _ _).alloc (Nat.le_refl _) _).trans (hb'.mono (by simp)))
      clear hb'
      go_wp2
      go_ret
      exact ⟨ret_bool (by rw [HR.out]; simp [HK.out]), HB.out.alloc (by simpa using HB.out.size) _⟩
    · obtain ⟨T, v, htv, hT⟩ := tv_cases us[j]
      rw [htv] at hcell
      have hT' := hT hk
      have HK := Lib.hid hk
      clear hk hT htv
      go_enter Try.func145, Try.ntmps145
      go_wp2_with fail
      refine (has_any _ _ _ _ _ _).mono ?_
      rintro e w' ⟨rfl, hb'⟩
      rw [HH.out]
      have h1 := (hb'.cell (p := ⟨b, o + j, none⟩) (by simp; omega)).trans ((World.cell?_alloc_lt w (.cells #[.slice (some ⟨b, o, none⟩) us.length c, .map m] 122) ⟨b, o + j, none⟩ (by show b < _; omega)).trans hcell)
      have h2 := (hb'.cell (p := ⟨w.heap.size, 0, none⟩) (by simp)).trans (by simp : _ = some (Value.slice (some ⟨b, o, none⟩) us.length c))
      have HB := Lib.hid (((Below.refl _ _).alloc (Nat.le_refl _) _).trans (hb'.mono (by simp)))
      clear hb'
      go_wp2
      go_ret
      exact ⟨ret_bool (by rw [HR.out]; simp [HK.out]), HB.out.alloc (by simpa using HB.out.size) _⟩

end Go.Proofs.Ytblmhhijgdkkoaa
