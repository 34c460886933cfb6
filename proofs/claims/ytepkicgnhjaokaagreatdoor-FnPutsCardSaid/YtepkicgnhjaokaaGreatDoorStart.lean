/-
  The program's startsName, and how many names NamesOf gives; Copies.
-/
import Derived.Test.YtepkicgnhjaokaaGreatDoorTreeOkI
import Derived.Lib.ConvBytes
namespace Go.Proofs.YtepkicgnhjaokaaGreatDoor
open Go.RowKit Go.Maps

/-- Is the i-th entry the first by its name? -/
def stB (es : List En) (i : Nat) : Bool := decide (i = 0) || !((es.getD (i - 1) default).name == (es.getD i default).name)
/-- How many of the first k are. -/
def nmC (es : List En) (k : Nat) : Nat := ((List.range k).filter (stB es)).length
theorem nmC_succ (es : List En) (k : Nat) : nmC es (k + 1) = nmC es k + (if stB es k then 1 else 0) := by
  unfold nmC
  rw [List.range_succ, List.filter_append, List.length_append]
  congr 1
  by_cases h : stB es k <;> simp [h]
theorem nmC_le (es : List En) (k : Nat) : nmC es k ≤ k := by
  have := List.length_filter_le (stB es) (List.range k)
  simpa [nmC] using this
/-- How many are not. -/
def cpV (vec : List Int) (es : List En) : Int := if treeB vec es then (es.length : Int) - (nmC es es.length : Nat) else -1
theorem treeB_len' {vec : List Int} {es : List En} (h : treeB vec es = true) : es.length ≤ 12 := by
  unfold treeB at h
  simp only [Bool.and_eq_true, decide_eq_true_eq] at h
  exact h.1.1.2

set_option maxRecDepth 100000 in
set_option maxHeartbeats 2000000 in
theorem startsName_any (a b c d : Int) (A : Option Addr) (es : List En) (cap k : Nat) (w : World) (hA : EvsIn w 0 w.heap.size A es) (hk : k < es.length) (hn : es.length ≤ 12) :
    Calls Tryz.prog 59 #[.agg #[.int .i64 a, .int .i64 b, .int .i64 c, .int .i64 d, .slice A es.length cap], .int .i64 k] w fun r w' => r = .returned (.bool (stB es k)) ∧ Below w.heap.size w w' := by
  have HA := Lib.hid hA
  clear hA
  go_enter Tryz.func59, Tryz.ntmps59
  go_wp2_with fail
  obtain ⟨W, hW⟩ : ∃ W, W = w.alloc (.cells #[.int .i64 a, .int .i64 b, .int .i64 c, .int .i64 d, .slice A es.length cap] 66) := ⟨_, rfl⟩
  have HX := Lib.hid (show Bx W w.heap.size [.int .i64 a, .int .i64 b, .int .i64 c, .int .i64 d, .slice A es.length cap] by rw [hW]; exact Bx.new' _ _ _ _ rfl)
  have HBel := Lib.hid (show Below w.heap.size w W by rw [hW]; exact (Below.refl _ _).alloc (Nat.le_refl _) _)
  have hzW : w.heap.size < W.heap.size := by rw [hW]; simp
  rw [← hW]
  clear hW
  by_cases hk0 : k = 0
  · subst hk0
    have HS := Lib.hid (show stB es 0 = true by simp [stB])
    refine wp_region_kept (by kernel_rfl) (by kernel_rfl) ?_
    repeat (go_big_quiet_step (fail))
    refine wpQuiet_nil ?_
    rintro _ ⟨x, rfl⟩
    have HB := Lib.hid (HBel.out.trans (x.ok.mono (by omega)))
    go_wp2_with fail
    go_ret
    exact ⟨ret_bool (a := true) HS.out.symm, HB.out⟩
  · obtain ⟨k', rfl⟩ : ∃ k', k = k' + 1 := ⟨k - 1, by omega⟩
    obtain ⟨bA, oA, rfl, _, hbA, hcA⟩ := HA.out (by omega)
    have c0 := ((hcA k' (by omega)).keep (w' := W) fun o => HBel.out.cell hbA).1
    have c1 := ((hcA (k' + 1) hk).keep (w' := W) fun o => HBel.out.cell hbA).1
    obtain ⟨e, he⟩ : ∃ e, e = es[k'] := ⟨_, rfl⟩
    obtain ⟨f, hf⟩ : ∃ f, f = es[k' + 1] := ⟨_, rfl⟩
    rw [← he] at c0
    rw [← hf] at c1
    have HS := Lib.hid (show stB es (k' + 1) = !(e.name == f.name) by
      unfold stB
      rw [he, hf]
      simp [hk, show k' < es.length by omega])
    obtain ⟨n1, v1, d1, m1⟩ := e
    obtain ⟨n2, v2, d2, m2⟩ := f
    simp only at c0 c1 HS
    have g0 := fun x : Kp W => x.cell c0
    have g1 := fun x : Kp W => x.cell c1
    have g2 := fun x : Kp W => x.cell (HX.out 4 (by simp))
    simp only [List.getElem_cons_succ, List.getElem_cons_zero] at g2
    have hk1 : (0 : Int) < (k' : Int) + 1 := by omega
    have hk2 : (k' : Int) < (es.length : Int) := by omega
    have hk3 : (k' : Int) ≤ 1000 := by omega
    have hk4 : (k' : Int) + 1 < (es.length : Int) := by omega
    have hk5 : (((k' : Int) + 1) == 0) = false := by rw [beq_eq_false_iff_ne]; omega
    clear hcA he hf c0 c1 hk0
    refine wp_region_kept (by kernel_rfl) (by kernel_rfl) ?_
    repeat (go_big_quiet_step (fail))
    refine wpQuiet_nil ?_
    rintro _ ⟨x, rfl⟩
    clear g0 g1 g2
    have HB := Lib.hid (HBel.out.trans (x.ok.mono (by omega)))
    go_wp2_with fail
    go_ret
    exact ⟨ret_bool HS.out.symm, HB.out⟩

end Go.Proofs.YtepkicgnhjaokaaGreatDoor
