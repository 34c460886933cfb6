/-
  What the law writes into a term that it was handed back, and what it finds there.
-/
import Derived.Test.YtepkicgnhjaokaaDoorMark
import Derived.Test.YtepkicgnhjaokaaDoorFresh2
namespace Go.Proofs.YtepkicgnhjaokaaDoor
open Go.RowKit

/-- The bytes of n numbers from k on. -/
def MkFr (w : World) (L B : Nat) (A : Option Addr) (k : Int) (n : Nat) : Prop :=
  0 < n → ∃ b o, A = some ⟨b, o, none⟩ ∧ L ≤ b ∧ b < B ∧ ∀ j, j < n → w.cell? ⟨b, o + j, none⟩ = some (.int .u8 ((k + j) % 256)) ∧ w.frozen? ⟨b, o + j, none⟩ = false

theorem MkFr.keep {w w' : World} {L B n : Nat} {k : Int} {A : Option Addr} (h : MkFr w L B A k n) (hk : ∀ p : Addr, L ≤ p.block → p.block < B → w'.cell? p = w.cell? p ∧ w'.frozen? p = w.frozen? p) : MkFr w' L B A k n := fun hl => by
  obtain ⟨b, o, e, hL, hb, hc⟩ := h hl
  exact ⟨b, o, e, hL, hb, fun j hj => ⟨(hk _ hL hb).1.trans (hc j hj).1, (hk _ hL hb).2.trans (hc j hj).2⟩⟩

set_option maxHeartbeats 400000 in
theorem markByteS_fr (A : Option Addr) (l : List UInt8) (c L B : Nat) (k : Int) (w : World) (hA : BytesFr w L B A l) (hn : l.length ≤ 1048576) (hk : 0 ≤ k) (hk' : k ≤ 1000000000) :
    Calls Tryd.prog 67 #[.slice A l.length c, .int .i64 k] w fun e w' => e = .returned (.int .i64 (k + l.length)) ∧ MkFr w' L B A k l.length ∧ Inside L B w w' := by
  go_enter Tryd.func67, Tryd.ntmps67
  go_wp2
  go_loopw [1, 5] (fun x i wr => ∃ j : Nat, j ≤ l.length ∧ i = .int .i64 j ∧ x = .int .i64 (k + j) ∧ Inside L B w wr ∧
    (0 < l.length → ∃ b o, A = some ⟨b, o, none⟩ ∧ L ≤ b ∧ b < B ∧ ∀ m (hm : m < l.length), wr.cell? ⟨b, o + m, none⟩ = some (.int .u8 (if m < j then (k + m) % 256 else (l[m].toNat : Int))) ∧ wr.frozen? ⟨b, o + m, none⟩ = false)) (fun _ i _ => l.length - (intOf i).toNat)
  case atStart => exact ⟨0, Nat.zero_le _, rfl, by simp, Inside.refl _ _ _, fun hl => by simpa using hA hl⟩
  case round =>
    obtain ⟨j, hj, rfl, rfl, hin, hc⟩ := hrel
    have HI := Lib.hid hin
    clear hin
    by_cases hlt : j < l.length
    · obtain ⟨b, o, rfl, hL, hb, hc⟩ := hc (by omega)
      have h0 := (hc j hlt).1
      have hf := (hc j hlt).2
      have HC := Lib.hid hc
      clear hc
      go_wp2
      go_roundw
      case rel =>
        refine ⟨j + 1, by omega, by go_num, by go_num, HI.out.setCell hL hb _, fun _ => ⟨b, o, rfl, hL, hb, fun m hm => ⟨?_, ?_⟩⟩⟩
        · by_cases e : m = j
          · subst e
            rw [World.cell?_setCell_same _ _ _ h0]
            simp
          · rw [World.cell?_setCell_other _ _ _ _ (by simp), (HC.out m hm).1]
            by_cases e1 : m < j
            · simp [e1, show m < j + 1 by omega]
            · simp [e1, show ¬ m < j + 1 by omega]
        · rw [World.frozen?_setCell]
          exact (HC.out m hm).2
      case measure => simp [intOf]; omega
    · have HC := Lib.hid hc
      clear hc
      go_wp2
      go_ret
      refine ⟨ret_int (by omega), fun hl => ?_, HI.out⟩
      obtain ⟨b, o, rfl, hL, hb, hc⟩ := HC.out hl
      refine ⟨b, o, rfl, hL, hb, fun m hm => ?_⟩
      have := hc m hm
      rwa [if_pos (by omega)] at this

set_option maxHeartbeats 400000 in
theorem heldByteS_any (A : Option Addr) (n c L B : Nat) (k : Int) (w : World) (hA : MkFr w L B A k n) (hn : n ≤ 1048576) (hk : 0 ≤ k) (hk' : k ≤ 1000000000) :
    Calls Tryd.prog 68 #[.slice A n c, .int .i64 k] w fun e w' => e = .returned (.int .i64 (k + n)) ∧ w = w' := by
  go_enter Tryd.func68, Tryd.ntmps68
  go_wp2
  go_loop [1, 5] (fun x i => ∃ j : Nat, j ≤ n ∧ i = .int .i64 j ∧ x = .int .i64 (k + j)) (fun _ i => n - (intOf i).toNat)
  case atStart => exact ⟨0, Nat.zero_le _, rfl, by simp⟩
  case round =>
    obtain ⟨j, hj, rfl, rfl⟩ := hrel
    by_cases hlt : j < n
    · obtain ⟨b, o, rfl, hL, hb, hc⟩ := hA (by omega)
      have h0 := (hc j hlt).1
      have hne : ((k + (j : Int)) % 256 != (k + j) % 256) = false := by simp
      clear hc
      go_wp2
      go_round
      case rel => exact ⟨j + 1, by omega, by go_num, by go_num⟩
      case measure => simp [intOf]; omega
    · go_wp2
      go_ret
      exact ⟨ret_int (by omega), rfl⟩

end Go.Proofs.YtepkicgnhjaokaaDoor
