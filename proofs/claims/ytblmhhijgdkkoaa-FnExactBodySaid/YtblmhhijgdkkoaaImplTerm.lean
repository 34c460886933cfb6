/-
  The program's reading of one term: what can be told without a ledger, and the value that it is read as.
-/
import Derived.Test.YtblmhhijgdkkoaaLok
namespace Go.Proofs.Ytblmhhijgdkkoaa
open Go.RowKit

/-- What can be told of a term without a ledger. -/
def fieldsB (t : Tm) : Bool :=
  if t.kind = 0 ∨ t.kind = 1 then decide (0 ≤ t.a) && decide (t.a ≤ 999) && (t.b == 0) && ((t.text.length : Int) == 0)
  else if t.kind = 2 then (t.a == 0) && (t.b == 0) && decide (t.text.length ≤ 300)
  else if t.kind = 4 then (t.b == 0) && ((t.text.length : Int) == 0)
  else if t.kind = 3 ∨ t.kind = 5 ∨ t.kind = 6 then ((t.text.length : Int) == 0)
  else false

set_option maxHeartbeats 4000000 in
theorem fieldsOk_any (t : Tm) (A : Option Addr) (c : Nat) (w : World) (hn : t.text.length ≤ 1048576) :
    Calls Try.prog 135 #[.agg #[.int .i64 t.kind, .int .i64 t.a, .int .i64 t.b, .slice A t.text.length c]] w fun e w' => e = .returned (.bool (fieldsB t)) ∧ Below w.heap.size w w' := by
  obtain ⟨k, a, b, l⟩ := t
  simp only at *
  go_enter Try.func135, Try.ntmps135
  go_wp2
  all_goals go_ret
  all_goals refine ⟨ret_bool ?_, (Below.refl _ _).alloc (Nat.le_refl _) _⟩
  all_goals first | (simp_all [fieldsB]; done) | (simp_all [fieldsB]; omega)

/-- The value that a term is read as. -/
def tv (t : Tm) : Value :=
  if t.kind = 0 then .iface 184 (.agg #[.int .i64 t.a])
  else if t.kind = 1 then .iface 185 (.agg #[.int .i64 t.a])
  else if t.kind = 2 then .iface 187 (.agg #[.string ⟨t.text.toArray⟩])
  else if t.kind = 3 then .iface 189 (.agg #[.int .i64 t.a, .int .i64 t.b])
  else if t.kind = 4 then .iface 191 (.agg #[.int .i64 t.a])
  else if t.kind = 5 then .iface 193 (.agg #[.int .i64 t.a, .int .i64 t.b])
  else .iface 194 (.agg #[.int .i64 t.a, .int .i64 t.b])

theorem ret_val {a b : Value} (h : a = b) : Ending.returned a = Ending.returned b := by rw [h]

set_option maxHeartbeats 1000000 in
theorem readTerm_any (t : Tm) (A : Option Addr) (c L B : Nat) (w : World) (hA : BytesIn w L B A t.text) (hB : B ≤ w.heap.size) :
    Calls Try.prog 136 #[.agg #[.int .i64 t.kind, .int .i64 t.a, .int .i64 t.b, .slice A t.text.length c]] w fun e w' => e = .returned (tv t) ∧ Below w.heap.size w w' := by
  obtain ⟨k, a, b, l⟩ := t
  simp only at *
  have s1 : ∀ o1, (convert 26 9 (.slice A l.length c)).run Try.prog (w.alloc o1) = .ok (.string ⟨l.toArray⟩) (w.alloc o1) := fun o1 =>
    run_str (hA.keep fun p _ hp => ((Below.refl w.heap.size w).alloc (Nat.le_refl _) o1).cell (by omega)) c
  clear hA
  go_enter Try.func136, Try.ntmps136
  go_wp2
  all_goals go_ret
  all_goals refine ⟨ret_val ?_, (Below.refl _ _).alloc (Nat.le_refl _) _⟩
  all_goals (simp_all [tv]; done)

/-- A term as a map's key. -/
def tk (t : Tm) : Value := .agg #[.int .i64 t.kind, .int .i64 t.a, .int .i64 t.b, .string ⟨t.text.toArray⟩]

set_option maxHeartbeats 1000000 in
theorem termKeyOf_any (t : Tm) (A : Option Addr) (c L B : Nat) (w : World) (hA : BytesIn w L B A t.text) (hB : B ≤ w.heap.size) :
    Calls Try.prog 115 #[.agg #[.int .i64 t.kind, .int .i64 t.a, .int .i64 t.b, .slice A t.text.length c]] w fun e w' => e = .returned (.agg #[.int .i64 t.kind, .int .i64 t.a, .int .i64 t.b, .string ⟨t.text.toArray⟩]) ∧ Below w.heap.size w w' := by
  obtain ⟨k, a, b, l⟩ := t
  simp only at *
  have s1 : ∀ o1 o2, (convert 26 9 (.slice A l.length c)).run Try.prog ((w.alloc o1).alloc o2) = .ok (.string ⟨l.toArray⟩) ((w.alloc o1).alloc o2) := fun o1 o2 =>
    run_str (hA.keep fun p _ hp => (((Below.refl w.heap.size w).alloc (Nat.le_refl _) o1).alloc (by simp) o2).cell (by omega)) c
  clear hA
  go_enter Try.func115, Try.ntmps115
  go_wp2
  refine bodyPost_ret (v := .agg #[.int .i64 k, .int .i64 a, .int .i64 b, .string ⟨l.toArray⟩]) (by simp [results, Try.results115, go_sem]) rfl ⟨rfl, ((Below.refl _ _).alloc (Nat.le_refl _) _).alloc (by simp) _⟩

end Go.Proofs.Ytblmhhijgdkkoaa
