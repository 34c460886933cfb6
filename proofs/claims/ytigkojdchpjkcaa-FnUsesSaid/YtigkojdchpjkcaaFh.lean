/-
  The laws' own small helpers: a number out of the code, a number in a list.
-/
import Derived.Test.YtigkojdchpjkcaaDo
import Derived.Deep.QuietTactic
namespace Go.Proofs.Ytigkojdchpjkcaa
open Go.RowKit Go.Maps

set_option maxRecDepth 100000 in
set_option maxHeartbeats 1000000 in
theorem hasInt_any (A : Option Addr) (l : List Int) (c : Nat) (x : Int) (w : World) (hA : IntsIn w 0 w.heap.size A l) (hn : l.length ≤ 1048576) :
    Calls Try.prog 25 #[.slice A l.length c, .int .i64 x] w fun e w' => e = .returned (.bool (decide (x ∈ l))) ∧ Below w.heap.size w w' := by
  have HA := Lib.hid hA
  clear hA
  go_enter Try.func25, Try.ntmps25
  go_wp2_with fail
  go_loopw [5] (fun i wr => ∃ k : Nat, k ≤ l.length ∧ i = .int .i64 k ∧ x ∉ l.take k ∧ Below w.heap.size w wr) (fun i _ => l.length - (intOf i).toNat)
  case atStart => exact ⟨0, Nat.zero_le _, rfl, by simp, Below.refl _ _⟩
  case round =>
    obtain ⟨k, hk, rfl, hno, hbr⟩ := hrel
    have HNo := Lib.hid hno
    have HBr := Lib.hid hbr
    clear hno hbr
    by_cases hlt : k < l.length
    · obtain ⟨b, o, rfl, _, hb, hc⟩ := HA.out (by omega)
      have hc0 := (HBr.out.cell (p := ⟨b, o + k, none⟩) (by show b < _; omega)).trans (hc k hlt)
      clear hc
      by_cases he : l[k] = x
      · have HE := Lib.hid (show x ∈ l from he ▸ List.getElem_mem hlt)
        go_wp2_with fail
        go_ret
        exact ⟨by simp [HE.out], HBr.out⟩
      · have HN2 := Lib.hid (show x ∉ l.take (k + 1) by
          rw [List.take_succ_eq_append_getElem hlt]
          simp only [List.mem_append, List.mem_singleton, not_or]
          exact ⟨HNo.out, fun h => he h.symm⟩)
        go_wp2_with fail
        go_roundw
        case rel => exact ⟨k + 1, by omega, by go_num, HN2.out, HBr.out⟩
        case measure => simp [intOf]; omega
    · have HE := Lib.hid (show x ∉ l by
        have h := HNo.out
        rwa [List.take_of_length_le (by omega)] at h)
      go_wp2_with fail
      go_ret
      exact ⟨by simp [HE.out], HBr.out⟩

set_option maxRecDepth 100000 in
set_option maxHeartbeats 1000000 in
theorem at_any (A : Option Addr) (code : List UInt8) (c : Nat) (w : World) (hA : BytesIn w 0 w.heap.size A code) (hn : code.length ≤ 9223372036854775807) :
    Calls Try.prog 30 #[.slice A code.length c, .int .i64 1] w fun e w' => ∃ x, e = .returned (.int .i64 x) ∧ 0 ≤ x ∧ x ≤ 255 ∧ Below w.heap.size w w' := by
  have HA := Lib.hid hA
  clear hA
  go_enter Try.func30, Try.ntmps30
  by_cases h0 : code.length = 0
  · go_wp2_with fail
    all_goals go_ret
    all_goals exact ⟨0, rfl, by omega, by omega, Below.refl _ _⟩
  · obtain ⟨b, o, rfl, _, hb, hc⟩ := HA.out (by omega)
    have hm : 1 % code.length < code.length := Nat.mod_lt _ (by omega)
    have hc0 := hc (1 % code.length) hm
    have hmi : 0 ≤ (1 : Int) % (code.length : Int) ∧ (1 : Int) % (code.length : Int) < (code.length : Int) := ⟨Int.emod_nonneg _ (by omega), Int.emod_lt_of_pos _ (by omega)⟩
    have hwr : wrap64 ((code[1 % code.length].toNat : Nat) : Int) = ((code[1 % code.length].toNat : Nat) : Int) := by
      have := code[1 % code.length].toNat_lt
      unfold wrap64
      omega
    clear hc
    go_wp2_with fail
    go_ret
    exact ⟨_, rfl, by omega, by have := code[1 % code.length].toNat_lt; omega, Below.refl _ _⟩

end Go.Proofs.Ytigkojdchpjkcaa
