/-
  The places that are true, ascending, in a new list.
-/
import Derived.Test.YtkmoihkpaccbdaaDoorMark
import Derived.Test.YtkmoihkpaccbdaaDoorDepthV
namespace Go.Proofs.YtkmoihkpaccbdaaDoor
open Go.RowKit Go.Maps

/-- The numbers below n of which f is true, ascending. -/
def pick (f : Nat → Bool) : Nat → List Int
  | 0 => []
  | n + 1 => if f n = true then pick f n ++ [(n : Int)] else pick f n

theorem pick_length (f : Nat → Bool) (n : Nat) : (pick f n).length ≤ n := by
  induction n with
  | zero => exact Nat.le_refl _
  | succ n ih =>
    unfold pick
    split
    · simp; omega
    · omega
theorem pick_true {f : Nat → Bool} {n : Nat} (h : f n = true) : pick f (n + 1) = pick f n ++ [(n : Int)] := by simp [pick, h]
theorem pick_false {f : Nat → Bool} {n : Nat} (h : f n = false) : pick f (n + 1) = pick f n := by simp [pick, h]
theorem pick_congr {f g : Nat → Bool} {n : Nat} (h : ∀ j, j < n → f j = g j) : pick f n = pick g n := by
  induction n with
  | zero => rfl
  | succ n ih => simp only [pick, ih (fun j hj => h j (by omega)), h n (by omega)]

theorem Tryd.infoBool : (Tryd.prog.info? 4).map (fun i => (i.zero, i.size, i.bytes)) = some (some (.bool false), 1, 1) := by kernel_rfl

/-- 'make([]bool, n)'. -/
theorem run_make_bools (n : Nat) (hn : n ≤ 1048576) (w : World) :
    (Instr.makeSlice 51 (.int .i64 (n : Int)) (.int .i64 (n : Int))).run Tryd.prog w = .ok (.slice (some ⟨w.heap.size, 0, none⟩) n n) (w.alloc (.cells (madeCells #[.bool false] n) 4)) :=
  run_make_row' (P := Tryd.prog) 51 4 (.bool false) 1 Tryd.underlying51 Tryd.infoBool rfl .i64 .i64 n (by omega) (by omega) w

set_option maxRecDepth 100000 in
set_option maxHeartbeats 1000000 in
theorem marked_any (R n : Nat) (f : Nat → Bool) (w : World) (hrow : w.rowIs R 4 n (fun j => .bool (f j))) (hn : n ≤ 1048576) :
    Calls Tryd.prog 22 #[.slice (some ⟨R, 0, none⟩) n n] w (NewIntsFr (pick f n) w) := by
  have HRow := Lib.hid hrow
  have hRlt := hrow.lt
  clear hrow
  go_enter Tryd.func22, Tryd.ntmps22
  go_wp2_with fail
  go_loopw [3, 8] (fun x i wr => ∃ (k : Nat) (A : Option Addr) (c : Nat), k ≤ n ∧ i = .int .i64 k ∧ x = .slice A (pick f k).length c ∧ wr.ownsRow w.heap.size 3 1 (.slice A (pick f k).length c) (pick f k).length ((pick f k).map vint) ∧ Below w.heap.size w wr) (fun _ i _ => n - (intOf i).toNat)
  case atStart => exact ⟨0, none, 0, Nat.zero_le _, rfl, rfl, World.ownsRow_nil _ _ _ _, Below.refl _ _⟩
  case round =>
    obtain ⟨k, A, c, hk, rfl, rfl, hown, hbel⟩ := hrel
    have HOwn := Lib.hid hown
    have HBel := Lib.hid hbel
    have hlen := pick_length f k
    clear hown
    by_cases hlt : k < n
    · have hc := (rowIs_below HRow.out hbel hRlt).cell hlt
      cases hf : f k with
      | false =>
        have HP := Lib.hid (pick_false hf)
        rw [hf] at hc
        clear hbel
        go_wp2_with fail
        go_roundw
        case rel => exact ⟨k + 1, A, c, by omega, by go_num, by rw [HP.out], by rw [HP.out]; exact HOwn.out, HBel.out⟩
        case measure => simp [intOf]; omega
      | true =>
        have HP := Lib.hid (pick_true hf)
        rw [hf] at hc
        have hsz := hbel.size
        obtain ⟨i0, hi, hz0, hz1', hz2'⟩ := info_parts Tryd.infoInt
        clear hbel
        go_wp2_with (at_builtin; refine wpList_append_own _ rfl _ _ 28 rfl w.heap.size 3 i0 (.int .i64 0) 1 8 Tryd.underlying28 hi hz0 hz1' hz2' rfl (by decide) _ _ _ rfl (HOwn.out.alloc _) ⟨wr.heap.size, 0, none⟩ 1 1 [.int .i64 k] rfl rfl ?c1 ?c2 ?c3 ?c4 ?c5 ?_)
        case c1 => exact cell_one_new _ _ _
        case c2 => intro u hu; simp at hu; subst hu; rfl
        case c3 => unfold maxLen; omega
        case c4 => omega
        case c5 => simp; omega
        intro v' w5 hrow5 hgr5 _
        obtain ⟨A5, c5, rfl⟩ := row_shape hrow5
        have HRow5 := Lib.hid hrow5
        have HB5 := Lib.hid ((HBel.out.alloc hsz (.cells #[.int .i64 k] 3)).grown hgr5 (by simp; omega) (fun g hg => (HOwn.out.lt g hg).1))
        clear hrow5 hgr5
        go_wp2_with fail
        go_roundw
        case rel =>
          refine ⟨k + 1, A5, c5, by omega, by go_num, by rw [HP.out]; simp, ?_, HB5.out⟩
          have := HRow5.out
          rw [HP.out]
          simpa [vint] using this
        case measure => simp [intOf]; omega
    · have hke : k = n := by omega
      have HR := Lib.hid (show NewIntsFr (pick f n) w (.returned (.slice A (pick f k).length c)) wr from by
        subst hke
        exact ⟨A, c, rfl, ints_of_row HOwn.out, hbel⟩)
      clear hbel
      go_wp2_with fail
      go_ret
      exact HR.out

end Go.Proofs.YtkmoihkpaccbdaaDoor
