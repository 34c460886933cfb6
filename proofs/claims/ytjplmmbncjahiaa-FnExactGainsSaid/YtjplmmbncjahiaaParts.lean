/-
  What a term is made of: the model's list and the program's, from whatever kind.
-/
import Derived.Test.YtjplmmbncjahiaaOpen
import Derived.Test.YtjplmmbncjahiaaInt
import Derived.Handy
namespace Go.Proofs.Ytjplmmbncjahiaa
open Go.RowKit Go.Maps

/-- What a term is made of. -/
def partsV (t : Tm) : List Int :=
  if t.kind = 4 then [t.a] else if t.kind = 3 ∨ t.kind = 5 ∨ t.kind = 6 then [t.a, t.b] else []

set_option maxHeartbeats 1000000 in
theorem l1parts_any (t : Tm) (A : Option Addr) (c : Nat) (w : World) :
    Calls Try.prog 69 #[.agg #[.int .i64 t.kind, .int .i64 t.a, .int .i64 t.b, .slice A t.text.length c]] w (NewInts (partsV t) w) := by
  obtain ⟨k, a, b, l⟩ := t
  go_enter Try.func69, Try.ntmps69
  go_wp2
  · go_ret
    rw [show partsV ⟨k, a, b, l⟩ = [a] by simp_all [partsV]]
    exact .one rfl (by simp) ((Below.refl _ _).alloc (Nat.le_refl _) _)
  · go_ret
    rw [show partsV ⟨k, a, b, l⟩ = [a, b] by simp_all [partsV]]
    exact .two rfl (by simp) ((Below.refl _ _).alloc (Nat.le_refl _) _)
  · go_ret
    rw [show partsV ⟨k, a, b, l⟩ = [a, b] by simp_all [partsV]]
    exact .two rfl (by simp) ((Below.refl _ _).alloc (Nat.le_refl _) _)
  · go_ret
    rw [show partsV ⟨k, a, b, l⟩ = [a, b] by simp_all [partsV]]
    exact .two rfl (by simp) ((Below.refl _ _).alloc (Nat.le_refl _) _)
  · go_ret
    rw [show partsV ⟨k, a, b, l⟩ = [] by simp_all [partsV]]
    exact .nil ((Below.refl _ _).alloc (Nat.le_refl _) _)

set_option maxHeartbeats 1000000 in
theorem partsNonce_any (a : Int) (w : World) : Calls Try.prog 123 #[.agg #[.int .i64 a]] w (NewInts [] w) := by
  go_enter Try.func123, Try.ntmps123
  go_wp2
  go_ret
  exact .nil ((Below.refl _ _).alloc (Nat.le_refl _) _)

set_option maxHeartbeats 1000000 in
theorem partsKey_any (a : Int) (w : World) : Calls Try.prog 122 #[.agg #[.int .i64 a]] w (NewInts [] w) := by
  go_enter Try.func122, Try.ntmps122
  go_wp2
  go_ret
  exact .nil ((Below.refl _ _).alloc (Nat.le_refl _) _)

set_option maxHeartbeats 1000000 in
theorem partsText_any (s : ByteArray) (w : World) : Calls Try.prog 124 #[.agg #[.string s]] w (NewInts [] w) := by
  go_enter Try.func124, Try.ntmps124
  go_wp2
  go_ret
  exact .nil ((Below.refl _ _).alloc (Nat.le_refl _) _)

set_option maxHeartbeats 1000000 in
theorem partsHash_any (a : Int) (w : World) : Calls Try.prog 125 #[.agg #[.int .i64 a]] w (NewInts [a] w) := by
  go_enter Try.func125, Try.ntmps125
  go_wp2
  go_ret
  exact .one rfl (by simp) ((Below.refl _ _).alloc (Nat.le_refl _) _)

set_option maxHeartbeats 1000000 in
theorem partsPair_any (a b : Int) (w : World) : Calls Try.prog 119 #[.agg #[.int .i64 a, .int .i64 b]] w (NewInts [a, b] w) := by
  go_enter Try.func119, Try.ntmps119
  go_wp2
  go_ret
  exact .two rfl (by simp) ((Below.refl _ _).alloc (Nat.le_refl _) _)

set_option maxHeartbeats 1000000 in
theorem partsSeal_any (a b : Int) (w : World) : Calls Try.prog 121 #[.agg #[.int .i64 a, .int .i64 b]] w (NewInts [a, b] w) := by
  go_enter Try.func121, Try.ntmps121
  go_wp2
  go_ret
  exact .two rfl (by simp) ((Below.refl _ _).alloc (Nat.le_refl _) _)

set_option maxHeartbeats 1000000 in
theorem partsSign_any (a b : Int) (w : World) : Calls Try.prog 120 #[.agg #[.int .i64 a, .int .i64 b]] w (NewInts [a, b] w) := by
  go_enter Try.func120, Try.ntmps120
  go_wp2
  go_ret
  exact .two rfl (by simp) ((Below.refl _ _).alloc (Nat.le_refl _) _)

/-- Whatever kind a term is of: a call of its method 'parts' comes to a function that answers what it is made of. -/
theorem parts_invoke (t : Tm) (h : t.kind = 0 ∨ t.kind = 1 ∨ t.kind = 2 ∨ t.kind = 3 ∨ t.kind = 4 ∨ t.kind = 5 ∨ t.kind = 6) :
    ∃ T v F, tv t = .iface T v ∧ (∀ n w, (method (n + 1) T v "loop.example/g00642/impl.parts").run Try.prog w = .ok (F, v) w) ∧ (∀ args w, (callFunc F args).run Try.prog w = .ok (.enter F args) w) ∧
      ∀ w, Calls Try.prog F #[v] w (NewInts (partsV t) w) := by
  rcases h with h | h | h | h | h | h | h
  · exact ⟨_, _, 123, by simp [tv, h]; exact ⟨rfl, rfl⟩, fun _ _ => by kernel_rfl, fun _ _ => by kernel_rfl, fun w => by rw [show partsV t = [] by simp [partsV, h]]; exact partsNonce_any t.a w⟩
  · exact ⟨_, _, 122, by simp [tv, h]; exact ⟨rfl, rfl⟩, fun _ _ => by kernel_rfl, fun _ _ => by kernel_rfl, fun w => by rw [show partsV t = [] by simp [partsV, h]]; exact partsKey_any t.a w⟩
  · exact ⟨_, _, 124, by simp [tv, h]; exact ⟨rfl, rfl⟩, fun _ _ => by kernel_rfl, fun _ _ => by kernel_rfl, fun w => by rw [show partsV t = [] by simp [partsV, h]]; exact partsText_any _ w⟩
  · exact ⟨_, _, 119, by simp [tv, h]; exact ⟨rfl, rfl⟩, fun _ _ => by kernel_rfl, fun _ _ => by kernel_rfl, fun w => by rw [show partsV t = [t.a, t.b] by simp [partsV, h]]; exact partsPair_any t.a t.b w⟩
  · exact ⟨_, _, 125, by simp [tv, h]; exact ⟨rfl, rfl⟩, fun _ _ => by kernel_rfl, fun _ _ => by kernel_rfl, fun w => by rw [show partsV t = [t.a] by simp [partsV, h]]; exact partsHash_any t.a w⟩
  · exact ⟨_, _, 121, by simp [tv, h]; exact ⟨rfl, rfl⟩, fun _ _ => by kernel_rfl, fun _ _ => by kernel_rfl, fun w => by rw [show partsV t = [t.a, t.b] by simp [partsV, h]]; exact partsSeal_any t.a t.b w⟩
  · exact ⟨_, _, 120, by simp [tv, h]; exact ⟨rfl, rfl⟩, fun _ _ => by kernel_rfl, fun _ _ => by kernel_rfl, fun w => by rw [show partsV t = [t.a, t.b] by simp [partsV, h]]; exact partsSign_any t.a t.b w⟩

end Go.Proofs.Ytjplmmbncjahiaa
