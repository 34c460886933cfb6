/-
  The law's own reckoning of how large its arguments are: what is left of the bound, or -1.
-/
import Derived.Test.YtkmoihkpaccbdaaDoorRows
import Derived.Test.YtkmoihkpaccbdaaDoorMem
namespace Go.Proofs.YtkmoihkpaccbdaaDoor
open Go.RowKit

set_option maxHeartbeats 400000 in
theorem szByteS_any (A : Option Addr) (n c : Nat) (left : Int) (w : World) (hn : n ≤ 9223372036854775807) (h0 : 0 ≤ left) (h1 : left ≤ 1048576) :
    Calls Tryd.prog 64 #[.slice A n c, .int .i64 left] w fun e w' => e = .returned (.int .i64 (szB left n)) ∧ w = w' := by
  go_enter Tryd.func64, Tryd.ntmps64
  go_wp2
  all_goals go_ret
  · exact ⟨by simp [szB, *], rfl⟩
  · exact ⟨by simp [szB]; omega, rfl⟩

set_option maxHeartbeats 400000 in
theorem szTerm_any (k a b : Int) (A : Option Addr) (n c : Nat) (left : Int) (w : World) (hn : n ≤ 9223372036854775807) (h0 : 0 ≤ left) (h1 : left ≤ 1048576) :
    Calls Tryd.prog 47 #[.agg #[.int .i64 k, .int .i64 a, .int .i64 b, .slice A n c], .int .i64 left] w fun e w' => ∃ r : Int, e = .returned (.int .i64 r) ∧ SzOk left n r ∧ Below w.heap.size w w' := by
  go_enter Tryd.func47, Tryd.ntmps47
  have HS := Lib.hid (szB_ok left n)
  go_wp2_with (go_at_call 64; refine (szByteS_any _ _ _ _ _ hn h0 h1).mono ?_; rintro e w' ⟨rfl, rfl⟩)
  all_goals go_ret
  · have hneg : szB left n < 0 := by assumption
    exact ⟨-1, rfl, HS.out.neg hneg ▸ HS.out, (Below.refl _ _).alloc (Nat.le_refl _) _⟩
  · exact ⟨_, rfl, HS.out, (Below.refl _ _).alloc (Nat.le_refl _) _⟩

set_option maxHeartbeats 400000 in
theorem szTermS_any (A : Option Addr) (ts : List Tm) (c : Nat) (left : Int) (w : World) (hA : TmsIn w 0 w.heap.size A ts) (hn : ts.length ≤ 9223372036854775807) (h0 : 0 ≤ left) (h1 : left ≤ 1048576) :
    Calls Tryd.prog 28 #[.slice A ts.length c, .int .i64 left] w fun e w' => ∃ r : Int, e = .returned (.int .i64 r) ∧ SzOk left (ts.length + bulk ts) r ∧ Below w.heap.size w w' := by
  go_enter Tryd.func28, Tryd.ntmps28
  by_cases hl : left - ts.length < 0
  · go_wp2
    go_ret
    exact ⟨-1, rfl, .inl rfl, Below.refl _ _⟩
  · have hl' : 0 ≤ left - ts.length := by omega
    clear hl
    go_wp2
    go_loopw [1, 4, 5] (fun l _ i wr => ∃ (k : Nat) (r : Int), k ≤ ts.length ∧ i = .int .i64 k ∧ l = .int .i64 r ∧ 0 ≤ r ∧ r + ts.length + bulk (ts.take k) = left ∧ Below w.heap.size w wr) (fun _ _ i _ => ts.length - (intOf i).toNat)
    case atStart => exact ⟨0, _, Nat.zero_le _, rfl, rfl, by omega, by simp [bulk_nil], Below.refl _ _⟩
    case round =>
      obtain ⟨k, r, hk, rfl, rfl, hr, hsum, hbel⟩ := hrel
      have HS := Lib.hid hsum
      clear hsum
      by_cases hlt : k < ts.length
      · obtain ⟨b, o, rfl, hL, hb, hc⟩ := hA (by omega)
        obtain ⟨A', c', c0, c1, c2, c3, hcap, hmax, hby⟩ := (hc k hlt).below hL hb hbel
        have hle := text_le_bulk ts k hlt
        have hr1 : r ≤ 1048576 := by have := HS.out; omega
        have hmax' : ts[k].text.length ≤ 9223372036854775807 := by unfold maxLen at hmax; omega
        clear hby hc
        go_wp2_with (go_at_call 47; refine (szTerm_any _ _ _ _ _ _ _ _ hmax' hr hr1).mono ?_; rintro e w' ⟨r', rfl, hs, hb'⟩; have HS' := Lib.hid hs; clear hs)
        · have hneg : r' < 0 := by assumption
          go_ret
          exact ⟨-1, rfl, .inl rfl, hbel.trans (hb'.mono hbel.size)⟩
        · have hpos : 0 ≤ r' := by assumption
          go_roundw
          case rel => exact ⟨k + 1, r', by omega, by go_num, rfl, hpos, by rw [bulk_take_succ ts k hlt]; have := HS.out; have := HS'.out; unfold SzOk at this; omega, hbel.trans (hb'.mono hbel.size)⟩
          case measure => simp [intOf]; omega
      · go_wp2
        go_ret
        exact ⟨r, rfl, .inr ⟨hr, by have := HS.out; rw [List.take_of_length_le (by omega)] at this; omega⟩, hbel⟩

set_option maxHeartbeats 400000 in
theorem szLedger_any (A : Option Addr) (ts : List Tm) (c : Nat) (left : Int) (w : World) (hA : TmsIn w 0 w.heap.size A ts) (hn : ts.length ≤ 9223372036854775807) (h0 : 0 ≤ left) (h1 : left ≤ 1048576) :
    Calls Tryd.prog 11 #[.agg #[.slice A ts.length c], .int .i64 left] w fun e w' => ∃ r : Int, e = .returned (.int .i64 r) ∧ SzOk left (ts.length + bulk ts) r ∧ Below w.heap.size w w' := by
  go_enter Tryd.func11, Tryd.ntmps11
  have HA := Lib.hid hA
  clear hA
  go_wp2_with (go_at_call 28; refine (szTermS_any _ _ _ _ _ ?h1 hn h0 h1).mono ?_)
  case h1 => exact (HA.out.below ((Below.refl _ _).alloc (Nat.le_refl _) _)).mono (by simp)
  rintro e w' ⟨r, rfl, hs, hb⟩
  have HS := Lib.hid hs
  clear hs
  go_wp2
  all_goals go_ret
  · have hneg : r < 0 := by assumption
    exact ⟨-1, rfl, .inl rfl, ((Below.refl _ _).alloc (Nat.le_refl _) _).trans (hb.mono (by simp))⟩
  · exact ⟨_, rfl, HS.out, ((Below.refl _ _).alloc (Nat.le_refl _) _).trans (hb.mono (by simp))⟩

end Go.Proofs.YtkmoihkpaccbdaaDoor
