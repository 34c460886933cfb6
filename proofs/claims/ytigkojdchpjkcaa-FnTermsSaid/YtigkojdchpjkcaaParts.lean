/-
  What a term is made of: the model's list and the program's, from whatever kind.
-/
import Derived.Test.YtigkojdchpjkcaaOpen
import Derived.Test.YtigkojdchpjkcaaInt
import Derived.Handy
namespace Go.Proofs.Ytigkojdchpjkcaa
open Go.RowKit Go.Maps

/-- What a term is made of. -/
def partsV (t : Tm) : List Int :=
  if t.kind = 4 then [t.a] else if t.kind = 3 ∨ t.kind = 5 ∨ t.kind = 6 then [t.a, t.b] else []

set_option maxHeartbeats 1000000 in
theorem partsNonce_any (a : Int) (w : World) : Calls Try.prog 132 #[.agg #[.int .i64 a]] w (NewInts [] w) := by
  go_enter Try.func132, Try.ntmps132
  go_wp2
  go_ret
  exact .nil ((Below.refl _ _).alloc (Nat.le_refl _) _)

set_option maxHeartbeats 1000000 in
theorem partsKey_any (a : Int) (w : World) : Calls Try.prog 131 #[.agg #[.int .i64 a]] w (NewInts [] w) := by
  go_enter Try.func131, Try.ntmps131
  go_wp2
  go_ret
  exact .nil ((Below.refl _ _).alloc (Nat.le_refl _) _)

set_option maxHeartbeats 1000000 in
theorem partsText_any (s : ByteArray) (w : World) : Calls Try.prog 133 #[.agg #[.string s]] w (NewInts [] w) := by
  go_enter Try.func133, Try.ntmps133
  go_wp2
  go_ret
  exact .nil ((Below.refl _ _).alloc (Nat.le_refl _) _)

set_option maxHeartbeats 1000000 in
theorem partsHash_any (a : Int) (w : World) : Calls Try.prog 134 #[.agg #[.int .i64 a]] w (NewInts [a] w) := by
  go_enter Try.func134, Try.ntmps134
  go_wp2
  go_ret
  exact .one rfl (by simp) ((Below.refl _ _).alloc (Nat.le_refl _) _)

set_option maxHeartbeats 1000000 in
theorem partsPair_any (a b : Int) (w : World) : Calls Try.prog 130 #[.agg #[.int .i64 a, .int .i64 b]] w (NewInts [a, b] w) := by
  go_enter Try.func130, Try.ntmps130
  go_wp2
  go_ret
  exact .two rfl (by simp) ((Below.refl _ _).alloc (Nat.le_refl _) _)

set_option maxHeartbeats 1000000 in
theorem partsSeal_any (a b : Int) (w : World) : Calls Try.prog 128 #[.agg #[.int .i64 a, .int .i64 b]] w (NewInts [a, b] w) := by
  go_enter Try.func128, Try.ntmps128
  go_wp2
  go_ret
  exact .two rfl (by simp) ((Below.refl _ _).alloc (Nat.le_refl _) _)

set_option maxHeartbeats 1000000 in
theorem partsSign_any (a b : Int) (w : World) : Calls Try.prog 129 #[.agg #[.int .i64 a, .int .i64 b]] w (NewInts [a, b] w) := by
  go_enter Try.func129, Try.ntmps129
  go_wp2
  go_ret
  exact .two rfl (by simp) ((Below.refl _ _).alloc (Nat.le_refl _) _)

/-- Whatever kind a term is of: a call of its method 'parts' comes to a function that answers what it is made of. -/
theorem parts_invoke (t : Tm) (h : t.kind = 0 ∨ t.kind = 1 ∨ t.kind = 2 ∨ t.kind = 3 ∨ t.kind = 4 ∨ t.kind = 5 ∨ t.kind = 6) :
    ∃ T v F, tv t = .iface T v ∧ (∀ n w, (method (n + 1) T v "loop.example/g00642/impl.parts").run Try.prog w = .ok (F, v) w) ∧ (∀ args w, (callFunc F args).run Try.prog w = .ok (.enter F args) w) ∧
      ∀ w, Calls Try.prog F #[v] w (NewInts (partsV t) w) := by
  rcases h with h | h | h | h | h | h | h
  · exact ⟨_, _, 132, by simp [tv, h]; exact ⟨rfl, rfl⟩, fun _ _ => by kernel_rfl, fun _ _ => by kernel_rfl, fun w => by rw [show partsV t = [] by simp [partsV, h]]; exact partsNonce_any t.a w⟩
  · exact ⟨_, _, 131, by simp [tv, h]; exact ⟨rfl, rfl⟩, fun _ _ => by kernel_rfl, fun _ _ => by kernel_rfl, fun w => by rw [show partsV t = [] by simp [partsV, h]]; exact partsKey_any t.a w⟩
  · exact ⟨_, _, 133, by simp [tv, h]; exact ⟨rfl, rfl⟩, fun _ _ => by kernel_rfl, fun _ _ => by kernel_rfl, fun w => by rw [show partsV t = [] by simp [partsV, h]]; exact partsText_any _ w⟩
  · exact ⟨_, _, 130, by simp [tv, h]; exact ⟨rfl, rfl⟩, fun _ _ => by kernel_rfl, fun _ _ => by kernel_rfl, fun w => by rw [show partsV t = [t.a, t.b] by simp [partsV, h]]; exact partsPair_any t.a t.b w⟩
  · exact ⟨_, _, 134, by simp [tv, h]; exact ⟨rfl, rfl⟩, fun _ _ => by kernel_rfl, fun _ _ => by kernel_rfl, fun w => by rw [show partsV t = [t.a] by simp [partsV, h]]; exact partsHash_any t.a w⟩
  · exact ⟨_, _, 128, by simp [tv, h]; exact ⟨rfl, rfl⟩, fun _ _ => by kernel_rfl, fun _ _ => by kernel_rfl, fun w => by rw [show partsV t = [t.a, t.b] by simp [partsV, h]]; exact partsSeal_any t.a t.b w⟩
  · exact ⟨_, _, 129, by simp [tv, h]; exact ⟨rfl, rfl⟩, fun _ _ => by kernel_rfl, fun _ _ => by kernel_rfl, fun w => by rw [show partsV t = [t.a, t.b] by simp [partsV, h]]; exact partsSign_any t.a t.b w⟩

end Go.Proofs.Ytigkojdchpjkcaa
