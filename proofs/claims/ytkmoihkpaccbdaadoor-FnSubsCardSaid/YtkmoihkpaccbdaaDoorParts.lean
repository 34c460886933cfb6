/-
  What a term is made of: the model's list and the program's, from whatever kind.
-/
import Derived.Test.YtkmoihkpaccbdaaDoorOpen
import Derived.Test.YtkmoihkpaccbdaaDoorInt
import Derived.Handy
namespace Go.Proofs.YtkmoihkpaccbdaaDoor
open Go.RowKit Go.Maps

/-- What a term is made of. -/
def partsV (t : Tm) : List Int :=
  if t.kind = 4 then [t.a] else if t.kind = 3 ∨ t.kind = 5 ∨ t.kind = 6 then [t.a, t.b] else []

set_option maxHeartbeats 1000000 in
theorem partsNonce_any (a : Int) (w : World) : Calls Tryd.prog 101 #[.agg #[.int .i64 a]] w (NewInts [] w) := by
  go_enter Tryd.func101, Tryd.ntmps101
  go_wp2
  go_ret
  exact .nil ((Below.refl _ _).alloc (Nat.le_refl _) _)

set_option maxHeartbeats 1000000 in
theorem partsKey_any (a : Int) (w : World) : Calls Tryd.prog 102 #[.agg #[.int .i64 a]] w (NewInts [] w) := by
  go_enter Tryd.func102, Tryd.ntmps102
  go_wp2
  go_ret
  exact .nil ((Below.refl _ _).alloc (Nat.le_refl _) _)

set_option maxHeartbeats 1000000 in
theorem partsText_any (s : ByteArray) (w : World) : Calls Tryd.prog 103 #[.agg #[.string s]] w (NewInts [] w) := by
  go_enter Tryd.func103, Tryd.ntmps103
  go_wp2
  go_ret
  exact .nil ((Below.refl _ _).alloc (Nat.le_refl _) _)

set_option maxHeartbeats 1000000 in
theorem partsHash_any (a : Int) (w : World) : Calls Tryd.prog 105 #[.agg #[.int .i64 a]] w (NewInts [a] w) := by
  go_enter Tryd.func105, Tryd.ntmps105
  go_wp2
  go_ret
  exact .one rfl (by simp) ((Below.refl _ _).alloc (Nat.le_refl _) _)

set_option maxHeartbeats 1000000 in
theorem partsPair_any (a b : Int) (w : World) : Calls Tryd.prog 104 #[.agg #[.int .i64 a, .int .i64 b]] w (NewInts [a, b] w) := by
  go_enter Tryd.func104, Tryd.ntmps104
  go_wp2
  go_ret
  exact .two rfl (by simp) ((Below.refl _ _).alloc (Nat.le_refl _) _)

set_option maxHeartbeats 1000000 in
theorem partsSeal_any (a b : Int) (w : World) : Calls Tryd.prog 106 #[.agg #[.int .i64 a, .int .i64 b]] w (NewInts [a, b] w) := by
  go_enter Tryd.func106, Tryd.ntmps106
  go_wp2
  go_ret
  exact .two rfl (by simp) ((Below.refl _ _).alloc (Nat.le_refl _) _)

set_option maxHeartbeats 1000000 in
theorem partsSign_any (a b : Int) (w : World) : Calls Tryd.prog 107 #[.agg #[.int .i64 a, .int .i64 b]] w (NewInts [a, b] w) := by
  go_enter Tryd.func107, Tryd.ntmps107
  go_wp2
  go_ret
  exact .two rfl (by simp) ((Below.refl _ _).alloc (Nat.le_refl _) _)

/-- Whatever kind a term is of: a call of its method 'parts' comes to a function that answers what it is made of. -/
theorem parts_invoke (t : Tm) (h : t.kind = 0 ∨ t.kind = 1 ∨ t.kind = 2 ∨ t.kind = 3 ∨ t.kind = 4 ∨ t.kind = 5 ∨ t.kind = 6) :
    ∃ T v F, tv t = .iface T v ∧ (∀ n w, (method (n + 1) T v "loop.example/g00642/impl.parts").run Tryd.prog w = .ok (F, v) w) ∧ (∀ args w, (callFunc F args).run Tryd.prog w = .ok (.enter F args) w) ∧
      ∀ w, Calls Tryd.prog F #[v] w (NewInts (partsV t) w) := by
  rcases h with h | h | h | h | h | h | h
  · exact ⟨_, _, 101, by simp [tv, h]; exact ⟨rfl, rfl⟩, fun _ _ => by kernel_rfl, fun _ _ => by kernel_rfl, fun w => by rw [show partsV t = [] by simp [partsV, h]]; exact partsNonce_any t.a w⟩
  · exact ⟨_, _, 102, by simp [tv, h]; exact ⟨rfl, rfl⟩, fun _ _ => by kernel_rfl, fun _ _ => by kernel_rfl, fun w => by rw [show partsV t = [] by simp [partsV, h]]; exact partsKey_any t.a w⟩
  · exact ⟨_, _, 103, by simp [tv, h]; exact ⟨rfl, rfl⟩, fun _ _ => by kernel_rfl, fun _ _ => by kernel_rfl, fun w => by rw [show partsV t = [] by simp [partsV, h]]; exact partsText_any _ w⟩
  · exact ⟨_, _, 104, by simp [tv, h]; exact ⟨rfl, rfl⟩, fun _ _ => by kernel_rfl, fun _ _ => by kernel_rfl, fun w => by rw [show partsV t = [t.a, t.b] by simp [partsV, h]]; exact partsPair_any t.a t.b w⟩
  · exact ⟨_, _, 105, by simp [tv, h]; exact ⟨rfl, rfl⟩, fun _ _ => by kernel_rfl, fun _ _ => by kernel_rfl, fun w => by rw [show partsV t = [t.a] by simp [partsV, h]]; exact partsHash_any t.a w⟩
  · exact ⟨_, _, 106, by simp [tv, h]; exact ⟨rfl, rfl⟩, fun _ _ => by kernel_rfl, fun _ _ => by kernel_rfl, fun w => by rw [show partsV t = [t.a, t.b] by simp [partsV, h]]; exact partsSeal_any t.a t.b w⟩
  · exact ⟨_, _, 107, by simp [tv, h]; exact ⟨rfl, rfl⟩, fun _ _ => by kernel_rfl, fun _ _ => by kernel_rfl, fun w => by rw [show partsV t = [t.a, t.b] by simp [partsV, h]]; exact partsSign_any t.a t.b w⟩

end Go.Proofs.YtkmoihkpaccbdaaDoor
