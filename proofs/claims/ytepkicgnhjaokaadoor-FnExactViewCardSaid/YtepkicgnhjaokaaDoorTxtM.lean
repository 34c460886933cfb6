/-
  The model's digits.
-/
import Derived.Test.YtepkicgnhjaokaaDoorApp
import Derived.Test.YtepkicgnhjaokaaDoorFresh2
import Derived.Lib.ItoaNum
namespace Go.Proofs.YtepkicgnhjaokaaDoor
open Go.RowKit Go.Maps

/-- A new row of bytes is handed back. -/
def NewByt (l : List UInt8) (w : World) (e : Ending) (w' : World) : Prop :=
  ∃ v, e = .returned v ∧ Byt w' w.heap.size 5 v l.length (Lib.byteCells l) ∧ Below w.heap.size w w'

theorem byt_one {W : World} {T : TypeId} {k : Value} (B : Nat) (hB : B ≤ W.heap.size) : Byt (W.alloc (.cells #[k] T)) B T (.slice (some ⟨W.heap.size, 0, none⟩) 1 1) 1 [k] :=
  ⟨rfl, W.heap.size, 1, #[k], (0, 0), rfl, hB, heap_alloc_new W _, .inl rfl, Nat.le_refl _, by unfold maxLen; omega, rfl, rfl⟩

theorem digit_val (n : Nat) (h : n < 10) : (Value.int .u8 ((UInt8.ofNat (48 + n)).toNat : Int)) = Value.int .u8 (48 + (n : Int)) := by
  have : (UInt8.ofNat (48 + n)).toNat = 48 + n := by simp; omega
  rw [this]
  simp

set_option maxRecDepth 100000 in
set_option maxHeartbeats 1000000 in
theorem l1digits_any : ∀ (n : Nat) (_ : n < 9223372036854775808) (w : World), Calls Tryd.prog 59 #[.int .i64 (n : Int)] w (NewByt (Lib.decDigits n) w) := by
  intro n
  induction n using Nat.strongRecOn with
  | ind n ih =>
  intro hn w
  have IH := Lib.hid ih
  clear ih
  obtain ⟨i0, hi, hz0, hz1, hz2⟩ := info_parts (show (Tryd.prog.info? 5).map (fun i => (i.zero, i.size, i.bytes)) = some (some (.int .u8 0), 1, 1) by kernel_rfl)
  by_cases h10 : n < 10
  · have hd := Lib.hid (show Lib.decDigits n = [UInt8.ofNat (48 + n)] by rw [Lib.decDigits, dif_pos h10])
    have hI : (n : Int) < 10 := by omega
    go_enter Tryd.func59, Tryd.ntmps59
    go_wp2_with fail
    go_ret
    refine ⟨.slice (some ⟨w.heap.size, 0, none⟩) 1 1, rfl, ?_, (Below.refl _ _).alloc (Nat.le_refl _) _⟩
    have hv := digit_val n h10
    rw [hd.out]
    have := byt_one (W := w) (T := 5) (k := .int .u8 (48 + (n : Int))) w.heap.size (Nat.le_refl _)
    rw [← hv] at this ⊢
    exact this
  · have hI : ¬ (n : Int) < 10 := by omega
    have hd := Lib.hid (show Lib.decDigits n = Lib.decDigits (n / 10) ++ [UInt8.ofNat (48 + n % 10)] by rw [Lib.decDigits, dif_neg h10])
    clear h10
    go_enter Tryd.func59, Tryd.ntmps59
    go_wp2_with fail
    have hc := IH.out (n / 10) (by omega) (by omega) w
    rw [show ((n / 10 : Nat) : Int) = (n : Int) / 10 by omega] at hc
    refine hc.mono ?_
    rintro e w1 ⟨v1, rfl, hb1, hbel1⟩
    have HB1 := Lib.hid hb1
    have hs1 := hbel1.size
    clear hb1
    have hl20 := digits20 (n / 10) (by omega)
    go_wp2_with (at_builtin; refine wpList_append_byt _ rfl _ _ 22 22 rfl w.heap.size 5 i0 Tryd.underlying22 hi hz0 hz1 hz2 v1 _ _ rfl (HB1.out.alloc _) _ 1 [.int .u8 (48 + (n : Int) % 10)] rfl (Src.ofSlice _ Tryd.underlying22 ⟨w1.heap.size, 0, none⟩ 1 1 _ rfl ?c1 ?c2) ?c3 ?c4 ?_)
    case c1 => intro j u hj; match j, hj with | 0, hj => simp at hj; subst hj; simp [Addr.add]
    case c2 => intro u hu; simp at hu; subst hu; rfl
    case c3 => omega
    case c4 => simp; omega
    intro v2 w2 hb2 hg2
    go_wp2
    go_ret
    have hv := digit_val (n % 10) (by omega)
    rw [show ((n % 10 : Nat) : Int) = (n : Int) % 10 by omega] at hv
    refine ⟨v2, rfl, ?_, (hbel1.alloc hs1 _).grown hg2 (by simp; omega) (fun k hk => (HB1.out.lt k hk).1)⟩
    have hcat : Lib.byteCells (Lib.decDigits (n / 10) ++ [UInt8.ofNat (48 + n % 10)]) = Lib.byteCells (Lib.decDigits (n / 10)) ++ [.int .u8 (48 + (n : Int) % 10)] := by
      rw [← hv]
      simp only [Lib.byteCells, List.map_append, List.map_cons, List.map_nil]
    rw [hd.out, hcat, List.length_append]
    exact hb2

end Go.Proofs.YtepkicgnhjaokaaDoor
