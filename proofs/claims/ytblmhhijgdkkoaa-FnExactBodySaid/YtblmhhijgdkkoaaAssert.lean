/-
  What the program's type tests answer: a value of that very type, or any other.
-/
import Derived.Test.YtblmhhijgdkkoaaRows
import Derived.WalkKit
namespace Go.Proofs.Ytblmhhijgdkkoaa
open Go.RowKit

theorem zero_sealTerm (W : World) : (do pure (Value.tuple #[← zeroValue 193, .bool false]) : Sem Value).run Try.prog W = .ok (.tuple #[.agg #[.int .i64 0, .int .i64 0], .bool false]) W := by kernel_rfl
@[go_sem] theorem as_sealTerm_yes (W : World) (v : Value) (x : TypeId) : (Instr.typeAssert (.iface 193 v) x 193 true).run Try.prog W = .ok (.tuple #[v, .bool true]) W := by kernel_rfl
@[go_sem] theorem as_sealTerm_no (W : World) (u x : TypeId) (v : Value) (h : u ≠ 193) : (Instr.typeAssert (.iface u v) x 193 true).run Try.prog W = .ok (.tuple #[.agg #[.int .i64 0, .int .i64 0], .bool false]) W := by
  have e : (Instr.typeAssert (.iface u v) x 193 true).run Try.prog W = (if u = 193 then (pure (Value.tuple #[v, .bool true]) : Sem Value) else (do pure (Value.tuple #[← zeroValue 193, .bool false]))).run Try.prog W := by kernel_rfl
  rw [e, if_neg h]
  exact zero_sealTerm W
theorem zero_signTerm (W : World) : (do pure (Value.tuple #[← zeroValue 194, .bool false]) : Sem Value).run Try.prog W = .ok (.tuple #[.agg #[.int .i64 0, .int .i64 0], .bool false]) W := by kernel_rfl
@[go_sem] theorem as_signTerm_yes (W : World) (v : Value) (x : TypeId) : (Instr.typeAssert (.iface 194 v) x 194 true).run Try.prog W = .ok (.tuple #[v, .bool true]) W := by kernel_rfl
@[go_sem] theorem as_signTerm_no (W : World) (u x : TypeId) (v : Value) (h : u ≠ 194) : (Instr.typeAssert (.iface u v) x 194 true).run Try.prog W = .ok (.tuple #[.agg #[.int .i64 0, .int .i64 0], .bool false]) W := by
  have e : (Instr.typeAssert (.iface u v) x 194 true).run Try.prog W = (if u = 194 then (pure (Value.tuple #[v, .bool true]) : Sem Value) else (do pure (Value.tuple #[← zeroValue 194, .bool false]))).run Try.prog W := by kernel_rfl
  rw [e, if_neg h]
  exact zero_signTerm W
theorem zero_keyTerm (W : World) : (do pure (Value.tuple #[← zeroValue 185, .bool false]) : Sem Value).run Try.prog W = .ok (.tuple #[.agg #[.int .i64 0], .bool false]) W := by kernel_rfl
@[go_sem] theorem as_keyTerm_yes (W : World) (v : Value) (x : TypeId) : (Instr.typeAssert (.iface 185 v) x 185 true).run Try.prog W = .ok (.tuple #[v, .bool true]) W := by kernel_rfl
@[go_sem] theorem as_keyTerm_no (W : World) (u x : TypeId) (v : Value) (h : u ≠ 185) : (Instr.typeAssert (.iface u v) x 185 true).run Try.prog W = .ok (.tuple #[.agg #[.int .i64 0], .bool false]) W := by
  have e : (Instr.typeAssert (.iface u v) x 185 true).run Try.prog W = (if u = 185 then (pure (Value.tuple #[v, .bool true]) : Sem Value) else (do pure (Value.tuple #[← zeroValue 185, .bool false]))).run Try.prog W := by kernel_rfl
  rw [e, if_neg h]
  exact zero_keyTerm W
theorem zero_nonceTerm (W : World) : (do pure (Value.tuple #[← zeroValue 184, .bool false]) : Sem Value).run Try.prog W = .ok (.tuple #[.agg #[.int .i64 0], .bool false]) W := by kernel_rfl
@[go_sem] theorem as_nonceTerm_yes (W : World) (v : Value) (x : TypeId) : (Instr.typeAssert (.iface 184 v) x 184 true).run Try.prog W = .ok (.tuple #[v, .bool true]) W := by kernel_rfl
@[go_sem] theorem as_nonceTerm_no (W : World) (u x : TypeId) (v : Value) (h : u ≠ 184) : (Instr.typeAssert (.iface u v) x 184 true).run Try.prog W = .ok (.tuple #[.agg #[.int .i64 0], .bool false]) W := by
  have e : (Instr.typeAssert (.iface u v) x 184 true).run Try.prog W = (if u = 184 then (pure (Value.tuple #[v, .bool true]) : Sem Value) else (do pure (Value.tuple #[← zeroValue 184, .bool false]))).run Try.prog W := by kernel_rfl
  rw [e, if_neg h]
  exact zero_nonceTerm W
theorem zero_textTerm (W : World) : (do pure (Value.tuple #[← zeroValue 187, .bool false]) : Sem Value).run Try.prog W = .ok (.tuple #[.agg #[.string ⟨#[]⟩], .bool false]) W := by kernel_rfl
@[go_sem] theorem as_textTerm_yes (W : World) (v : Value) (x : TypeId) : (Instr.typeAssert (.iface 187 v) x 187 true).run Try.prog W = .ok (.tuple #[v, .bool true]) W := by kernel_rfl
@[go_sem] theorem as_textTerm_no (W : World) (u x : TypeId) (v : Value) (h : u ≠ 187) : (Instr.typeAssert (.iface u v) x 187 true).run Try.prog W = .ok (.tuple #[.agg #[.string ⟨#[]⟩], .bool false]) W := by
  have e : (Instr.typeAssert (.iface u v) x 187 true).run Try.prog W = (if u = 187 then (pure (Value.tuple #[v, .bool true]) : Sem Value) else (do pure (Value.tuple #[← zeroValue 187, .bool false]))).run Try.prog W := by kernel_rfl
  rw [e, if_neg h]
  exact zero_textTerm W
theorem zero_pairTerm (W : World) : (do pure (Value.tuple #[← zeroValue 189, .bool false]) : Sem Value).run Try.prog W = .ok (.tuple #[.agg #[.int .i64 0, .int .i64 0], .bool false]) W := by kernel_rfl
@[go_sem] theorem as_pairTerm_yes (W : World) (v : Value) (x : TypeId) : (Instr.typeAssert (.iface 189 v) x 189 true).run Try.prog W = .ok (.tuple #[v, .bool true]) W := by kernel_rfl
@[go_sem] theorem as_pairTerm_no (W : World) (u x : TypeId) (v : Value) (h : u ≠ 189) : (Instr.typeAssert (.iface u v) x 189 true).run Try.prog W = .ok (.tuple #[.agg #[.int .i64 0, .int .i64 0], .bool false]) W := by
  have e : (Instr.typeAssert (.iface u v) x 189 true).run Try.prog W = (if u = 189 then (pure (Value.tuple #[v, .bool true]) : Sem Value) else (do pure (Value.tuple #[← zeroValue 189, .bool false]))).run Try.prog W := by kernel_rfl
  rw [e, if_neg h]
  exact zero_pairTerm W
theorem zero_hashTerm (W : World) : (do pure (Value.tuple #[← zeroValue 191, .bool false]) : Sem Value).run Try.prog W = .ok (.tuple #[.agg #[.int .i64 0], .bool false]) W := by kernel_rfl
@[go_sem] theorem as_hashTerm_yes (W : World) (v : Value) (x : TypeId) : (Instr.typeAssert (.iface 191 v) x 191 true).run Try.prog W = .ok (.tuple #[v, .bool true]) W := by kernel_rfl
@[go_sem] theorem as_hashTerm_no (W : World) (u x : TypeId) (v : Value) (h : u ≠ 191) : (Instr.typeAssert (.iface u v) x 191 true).run Try.prog W = .ok (.tuple #[.agg #[.int .i64 0], .bool false]) W := by
  have e : (Instr.typeAssert (.iface u v) x 191 true).run Try.prog W = (if u = 191 then (pure (Value.tuple #[v, .bool true]) : Sem Value) else (do pure (Value.tuple #[← zeroValue 191, .bool false]))).run Try.prog W := by kernel_rfl
  rw [e, if_neg h]
  exact zero_hashTerm W

end Go.Proofs.Ytblmhhijgdkkoaa
