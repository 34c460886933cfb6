/-
  What the program's type tests answer: a value of that very type, or any other.
-/
import Derived.Test.YtgogapgkgbffpaaRows
import Derived.WalkKit
namespace Go.Proofs.Ytgogapgkgbffpaa
open Go.RowKit

theorem zero_sealTerm (W : World) : (do pure (Value.tuple #[← zeroValue 82, .bool false]) : Sem Value).run Try.prog W = .ok (.tuple #[.agg #[.int .i64 0, .int .i64 0], .bool false]) W := by kernel_rfl
@[go_sem] theorem as_sealTerm_yes (W : World) (v : Value) (x : TypeId) : (Instr.typeAssert (.iface 82 v) x 82 true).run Try.prog W = .ok (.tuple #[v, .bool true]) W := by kernel_rfl
@[go_sem] theorem as_sealTerm_no (W : World) (u x : TypeId) (v : Value) (h : u ≠ 82) : (Instr.typeAssert (.iface u v) x 82 true).run Try.prog W = .ok (.tuple #[.agg #[.int .i64 0, .int .i64 0], .bool false]) W := by
  have e : (Instr.typeAssert (.iface u v) x 82 true).run Try.prog W = (if u = 82 then (pure (Value.tuple #[v, .bool true]) : Sem Value) else (do pure (Value.tuple #[← zeroValue 82, .bool false]))).run Try.prog W := by kernel_rfl
  rw [e, if_neg h]
  exact zero_sealTerm W
theorem zero_signTerm (W : World) : (do pure (Value.tuple #[← zeroValue 86, .bool false]) : Sem Value).run Try.prog W = .ok (.tuple #[.agg #[.int .i64 0, .int .i64 0], .bool false]) W := by kernel_rfl
@[go_sem] theorem as_signTerm_yes (W : World) (v : Value) (x : TypeId) : (Instr.typeAssert (.iface 86 v) x 86 true).run Try.prog W = .ok (.tuple #[v, .bool true]) W := by kernel_rfl
@[go_sem] theorem as_signTerm_no (W : World) (u x : TypeId) (v : Value) (h : u ≠ 86) : (Instr.typeAssert (.iface u v) x 86 true).run Try.prog W = .ok (.tuple #[.agg #[.int .i64 0, .int .i64 0], .bool false]) W := by
  have e : (Instr.typeAssert (.iface u v) x 86 true).run Try.prog W = (if u = 86 then (pure (Value.tuple #[v, .bool true]) : Sem Value) else (do pure (Value.tuple #[← zeroValue 86, .bool false]))).run Try.prog W := by kernel_rfl
  rw [e, if_neg h]
  exact zero_signTerm W
theorem zero_keyTerm (W : World) : (do pure (Value.tuple #[← zeroValue 99, .bool false]) : Sem Value).run Try.prog W = .ok (.tuple #[.agg #[.int .i64 0], .bool false]) W := by kernel_rfl
@[go_sem] theorem as_keyTerm_yes (W : World) (v : Value) (x : TypeId) : (Instr.typeAssert (.iface 99 v) x 99 true).run Try.prog W = .ok (.tuple #[v, .bool true]) W := by kernel_rfl
@[go_sem] theorem as_keyTerm_no (W : World) (u x : TypeId) (v : Value) (h : u ≠ 99) : (Instr.typeAssert (.iface u v) x 99 true).run Try.prog W = .ok (.tuple #[.agg #[.int .i64 0], .bool false]) W := by
  have e : (Instr.typeAssert (.iface u v) x 99 true).run Try.prog W = (if u = 99 then (pure (Value.tuple #[v, .bool true]) : Sem Value) else (do pure (Value.tuple #[← zeroValue 99, .bool false]))).run Try.prog W := by kernel_rfl
  rw [e, if_neg h]
  exact zero_keyTerm W
theorem zero_nonceTerm (W : World) : (do pure (Value.tuple #[← zeroValue 104, .bool false]) : Sem Value).run Try.prog W = .ok (.tuple #[.agg #[.int .i64 0], .bool false]) W := by kernel_rfl
@[go_sem] theorem as_nonceTerm_yes (W : World) (v : Value) (x : TypeId) : (Instr.typeAssert (.iface 104 v) x 104 true).run Try.prog W = .ok (.tuple #[v, .bool true]) W := by kernel_rfl
@[go_sem] theorem as_nonceTerm_no (W : World) (u x : TypeId) (v : Value) (h : u ≠ 104) : (Instr.typeAssert (.iface u v) x 104 true).run Try.prog W = .ok (.tuple #[.agg #[.int .i64 0], .bool false]) W := by
  have e : (Instr.typeAssert (.iface u v) x 104 true).run Try.prog W = (if u = 104 then (pure (Value.tuple #[v, .bool true]) : Sem Value) else (do pure (Value.tuple #[← zeroValue 104, .bool false]))).run Try.prog W := by kernel_rfl
  rw [e, if_neg h]
  exact zero_nonceTerm W
theorem zero_textTerm (W : World) : (do pure (Value.tuple #[← zeroValue 106, .bool false]) : Sem Value).run Try.prog W = .ok (.tuple #[.agg #[.string ⟨#[]⟩], .bool false]) W := by kernel_rfl
@[go_sem] theorem as_textTerm_yes (W : World) (v : Value) (x : TypeId) : (Instr.typeAssert (.iface 106 v) x 106 true).run Try.prog W = .ok (.tuple #[v, .bool true]) W := by kernel_rfl
@[go_sem] theorem as_textTerm_no (W : World) (u x : TypeId) (v : Value) (h : u ≠ 106) : (Instr.typeAssert (.iface u v) x 106 true).run Try.prog W = .ok (.tuple #[.agg #[.string ⟨#[]⟩], .bool false]) W := by
  have e : (Instr.typeAssert (.iface u v) x 106 true).run Try.prog W = (if u = 106 then (pure (Value.tuple #[v, .bool true]) : Sem Value) else (do pure (Value.tuple #[← zeroValue 106, .bool false]))).run Try.prog W := by kernel_rfl
  rw [e, if_neg h]
  exact zero_textTerm W
theorem zero_pairTerm (W : World) : (do pure (Value.tuple #[← zeroValue 108, .bool false]) : Sem Value).run Try.prog W = .ok (.tuple #[.agg #[.int .i64 0, .int .i64 0], .bool false]) W := by kernel_rfl
@[go_sem] theorem as_pairTerm_yes (W : World) (v : Value) (x : TypeId) : (Instr.typeAssert (.iface 108 v) x 108 true).run Try.prog W = .ok (.tuple #[v, .bool true]) W := by kernel_rfl
@[go_sem] theorem as_pairTerm_no (W : World) (u x : TypeId) (v : Value) (h : u ≠ 108) : (Instr.typeAssert (.iface u v) x 108 true).run Try.prog W = .ok (.tuple #[.agg #[.int .i64 0, .int .i64 0], .bool false]) W := by
  have e : (Instr.typeAssert (.iface u v) x 108 true).run Try.prog W = (if u = 108 then (pure (Value.tuple #[v, .bool true]) : Sem Value) else (do pure (Value.tuple #[← zeroValue 108, .bool false]))).run Try.prog W := by kernel_rfl
  rw [e, if_neg h]
  exact zero_pairTerm W
theorem zero_hashTerm (W : World) : (do pure (Value.tuple #[← zeroValue 110, .bool false]) : Sem Value).run Try.prog W = .ok (.tuple #[.agg #[.int .i64 0], .bool false]) W := by kernel_rfl
@[go_sem] theorem as_hashTerm_yes (W : World) (v : Value) (x : TypeId) : (Instr.typeAssert (.iface 110 v) x 110 true).run Try.prog W = .ok (.tuple #[v, .bool true]) W := by kernel_rfl
@[go_sem] theorem as_hashTerm_no (W : World) (u x : TypeId) (v : Value) (h : u ≠ 110) : (Instr.typeAssert (.iface u v) x 110 true).run Try.prog W = .ok (.tuple #[.agg #[.int .i64 0], .bool false]) W := by
  have e : (Instr.typeAssert (.iface u v) x 110 true).run Try.prog W = (if u = 110 then (pure (Value.tuple #[v, .bool true]) : Sem Value) else (do pure (Value.tuple #[← zeroValue 110, .bool false]))).run Try.prog W := by kernel_rfl
  rw [e, if_neg h]
  exact zero_hashTerm W

end Go.Proofs.Ytgogapgkgbffpaa
