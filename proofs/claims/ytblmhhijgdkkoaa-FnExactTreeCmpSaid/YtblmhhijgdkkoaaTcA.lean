/-
  Trees in order: what is answered, and the program.
-/
import Derived.Test.YtblmhhijgdkkoaaGFol
namespace Go.Proofs.Ytblmhhijgdkkoaa
open Go.RowKit Go.Maps

/-- How two trees lie in order. -/
def tcI (vec : List Int) (es : List En) (vec2 : List Int) (es2 : List En) : Int := if treeB vec es && treeB vec2 es2 then Lib.compareBytes (tbV vec es) (tbV vec2 es2) else 0

theorem run_bytes_at {P : Program} {w : World} : ∀ (l : List UInt8) (a : Addr) (acc : ByteArray), (∀ j (hj : j < l.length), w.cell? (a.add j) = some (.int .u8 (l[j].toNat : Int))) → (Extern.Bytes.loadBytes a l.length acc).run P w = .ok ⟨acc.data ++ l.toArray⟩ w
  | [], a, acc, _ => by simp [Extern.Bytes.loadBytes]
  | x :: l, a, acc, h => by
    have h0 := h 0 (by simp)
    have ha : a.add 0 = a := by simp [Addr.add]
    rw [ha] at h0
    simp only [List.getElem_cons_zero] at h0
    have ih := run_bytes_at (P := P) (w := w) l (a.add 1) (acc.push x) (fun j hj => by
      have := h (j + 1) (by simpa using hj)
      simp only [List.getElem_cons_succ] at this
      have e : (a.add 1).add j = a.add (j + 1) := by
        unfold Addr.add
        by_cases hj : j = 0
        · subst hj; simp
        · simp [hj]; omega
      rw [e]; exact this)
    simp only [List.length_cons, Extern.Bytes.loadBytes, Sem.run_bind, run_load, h0, Result.andThen]
    have hx : ((x.toNat : Int).toNat.toUInt8) = x := by simp
    rw [hx, ih]
    congr 1
    apply ByteArray.ext
    simp [ByteArray.push]

theorem run_bytes_of {P : Program} {w : World} {L B : Nat} {A : Option Addr} {l : List UInt8} (h : BytesIn w L B A l) (c : Nat) : (Extern.Bytes.bytesOf (.slice A l.length c)).run P w = .ok ⟨l.toArray⟩ w := by
  cases A with
  | none =>
    obtain rfl : l = [] := by
      cases l with
      | nil => rfl
      | cons x xs => obtain ⟨b, o, e, _⟩ := h (by simp); cases e
    rfl
  | some a =>
    unfold Extern.Bytes.bytesOf
    rw [run_bytes_at l a .empty (fun j hj => by
      obtain ⟨b, o, e, _, _, hc⟩ := h (by omega)
      obtain rfl : a = ⟨b, o, none⟩ := by simpa using e
      have e2 : (⟨b, o, none⟩ : Addr).add j = ⟨b, o + j, none⟩ := by
        unfold Addr.add
        by_cases h : j = 0
        · subst h; simp
        · simp [h]
      rw [e2]
      exact hc j hj)]
    simp

theorem run_cmp_bytes {P : Program} {w : World} {L B L2 B2 : Nat} {A A2 : Option Addr} {l m : List UInt8} (h : BytesIn w L B A l) (h2 : BytesIn w L2 B2 A2 m) (c d : Nat) :
    (Extern.BytealgCompare.compare #[.slice A l.length c, .slice A2 m.length d]).run P w = .ok (.int .i64 (Lib.compareBytes l m)) w := by
  change Sem.run P (do pure (goInt (Extern.BytealgCompare.cmp (← Extern.Bytes.bytesOf (.slice A l.length c)) (← Extern.Bytes.bytesOf (.slice A2 m.length d))))) w = _
  simp only [Sem.run_bind, run_bytes_of h c, run_bytes_of h2 d, Sem.run_pure, Result.andThen]
  rw [Lib.cmp_eq]
  rfl

set_option maxRecDepth 100000 in
set_option maxHeartbeats 1000000 in
theorem bytesCompare_any (A B : Option Addr) (l m : List UInt8) (c d : Nat) (w : World) (hA : BytesIn w 0 w.heap.size A l) (hB : BytesIn w 0 w.heap.size B m) :
    Calls Try.prog 71 #[.slice A l.length c, .slice B m.length d] w fun e w' => e = .returned (.int .i64 (Lib.compareBytes l m)) ∧ Below w.heap.size w w' := by
  have HR := Lib.hid (run_cmp_bytes (P := Try.prog) hA hB c d)
  clear hA hB
  go_enter Try.func71, Try.ntmps71
  go_wp2
  rw [run_callFunc_extern Try.func106 (by kernel_rfl) (by kernel_rfl) (by kernel_rfl) (e := Extern.BytealgCompare.compare) (by kernel_rfl), HR.out]
  simp only [Result.andThen]
  rw [Oper.upon_value]
  go_wp2
  go_ret
  exact ⟨rfl, Below.refl _ _⟩

/-- Two trees, read. -/
def RdTrs (vec : List Int) (es : List En) (vec2 : List Int) (es2 : List En) (w : World) (e : Ending) (w' : World) : Prop :=
  ∃ (x0 x1 x2 x3 : Int) (E1 : Option Addr) (n1 k1 : Nat) (y0 y1 y2 y3 : Int) (E2 : Option Addr) (n2 k2 : Nat),
    e = .returned (.tuple #[.agg #[.int .i64 x0, .int .i64 x1, .int .i64 x2, .int .i64 x3, .slice E1 n1 k1], .agg #[.int .i64 y0, .int .i64 y1, .int .i64 y2, .int .i64 y3, .slice E2 n2 k2], .bool (treeB vec es && treeB vec2 es2)]) ∧
    (treeB vec es = true → vec = [x0, x1, x2, x3] ∧ n1 = es.length ∧ EvsIn w' w.heap.size w'.heap.size E1 es) ∧ (treeB vec2 es2 = true → vec2 = [y0, y1, y2, y3] ∧ n2 = es2.length ∧ EvsIn w' w.heap.size w'.heap.size E2 es2) ∧ Below w.heap.size w w'


end Go.Proofs.Ytblmhhijgdkkoaa
