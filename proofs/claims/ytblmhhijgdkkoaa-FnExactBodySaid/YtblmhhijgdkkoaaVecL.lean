/-
  The program's vectors: as a new list.
-/
import Derived.Test.YtblmhhijgdkkoaaVecB
namespace Go.Proofs.Ytblmhhijgdkkoaa
open Go.RowKit Go.Maps

/-- '[]T{}': no element, in a block of its own. -/
theorem ownsRow_empty (w : World) (t : TypeId) (size base : Nat) (hb : base ≤ w.heap.size) : (w.alloc (.cells #[] t)).ownsRow base t size (.slice (some ⟨w.heap.size, 0, none⟩) 0 0) 0 [] :=
  ⟨by simp, .inr ⟨w.heap.size, 0, #[], rfl, hb, heap_alloc_new w _, Nat.le_refl _, by unfold maxLen; omega, by simp, by simp⟩⟩

set_option maxRecDepth 100000 in
set_option maxHeartbeats 2000000 in
theorem clone4_any (g : Nat) (a b c d : Int) (w : World) (hg : g < w.heap.size) (hr : Row4 w g a b c d) :
    Calls Try.prog 132 #[.slice (some ⟨g, 0, none⟩) 4 4] w (NewIntsFr [a, b, c, d] w) := by
  have hnil := @Lib.run_eql_slice_nil Try.prog
  go_enter Try.func132, Try.ntmps132
  obtain ⟨i0, hi, hz0, hz1, hz2⟩ := info_parts Try.infoInt
  have HR := Lib.hid hr
  clear hr
  go_wp2_with (at_builtin; refine wpList_append_own _ rfl _ _ 22 rfl w.heap.size 3 i0 (.int .i64 0) 1 8 Try.underlying22 hi hz0 hz1 hz2 rfl (by decide) _ _ _ rfl (ownsRow_empty w _ 1 _ (Nat.le_refl _)) ⟨g, 0, none⟩ 4 4 ([a, b, c, d].map vint) rfl rfl ?c1 ?c2 ?c3 ?c4 ?c5 ?_)
  case c1 =>
    intro j u hu
    have hj : j = 0 ∨ j = 1 ∨ j = 2 ∨ j = 3 := by
      have := (List.getElem?_eq_some_iff.1 hu).1
      simp at this
      omega
    have h := HR.out.alloc hg (.cells #[] 3)
    rw [Addr.add_lit]
    rcases hj with rfl | rfl | rfl | rfl <;> simp [vint] at hu <;> subst hu
    · exact h.c0
    · exact h.c1
    · exact h.c2
    · exact h.c3
  case c2 => intro u hu; simp [vint] at hu; rcases hu with rfl | rfl | rfl | rfl <;> rfl
  case c3 => unfold maxLen; omega
  case c4 => omega
  case c5 => simp
  intro v' w5 hrow5 hgr5 _
  obtain ⟨A5, c5, rfl⟩ := row_shape hrow5
  have HRow5 := Lib.hid hrow5
  have HB5 := Lib.hid (((Below.refl w.heap.size w).alloc (Nat.le_refl _) (.cells #[] 3)).grown hgr5 (by simp) (fun k hk => by cases hk; exact Nat.le_refl _))
  clear hrow5 hgr5
  go_wp2_with fail
  go_ret
  exact ⟨A5, c5, rfl, ints_of_row (by simpa using HRow5.out), HB5.out⟩

set_option maxRecDepth 100000 in
set_option maxHeartbeats 2000000 in
theorem vlist_any (a b c d : Int) (w : World) :
    Calls Try.prog 104 #[v4 a b c d] w (NewIntsFr [a, b, c, d] w) := by
  have hcl := fun w1 hg hr => clone4_any w.heap.size a b c d w1 hg hr
  have HCl := Lib.hid hcl
  clear hcl
  unfold v4
  go_enter Try.func104, Try.ntmps104
  go_wp2_with fail
  refine (HCl.out _ (by simp) (Row4.new w _)).mono ?_
  rintro e w5 ⟨A5, c5, rfl, hfr, hb⟩
  have HF := Lib.hid hfr
  have HB := Lib.hid (((Below.refl w.heap.size w).alloc (Nat.le_refl _) (.cells #[.int .i64 a, .int .i64 b, .int .i64 c, .int .i64 d] 81)).trans (hb.mono (by simp)))
  clear hfr hb
  go_wp2_with fail
  go_ret
  exact ⟨A5, c5, rfl, HF.out.low (by simp), HB.out⟩

end Go.Proofs.Ytblmhhijgdkkoaa
