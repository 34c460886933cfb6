/-
  Several texts in one: VecI, VecU, VecB, VecL, VecX, VecS.
-/
import Derived.Test.YtgomdjhfdnbmdaaInt
import Derived.Test.YtgomdjhfdnbmdaaBx
import Derived.Outline
import Derived.Laws.Cover3
import Derived.Deep.RegionWith
import Derived.Deep.RegionHeld3
import Derived.Laws.StructEq
namespace Go.Proofs.Ytgomdjhfdnbmdaa
open Go.RowKit Go.Maps

/-- A vector is VecOk. -/
def vecB (l : List Int) : Bool := decide (l.length = 4) && l.all fun x => decide (0 ≤ x) && decide (x ≤ 1000)

/-- Four numbers, as a value. -/
def v4 (a b c d : Int) : Value := .agg #[.int .i64 a, .int .i64 b, .int .i64 c, .int .i64 d]

theorem Try.index40 (a b c d : Int) (w : World) : (Instr.index 60 (.agg #[.int .i64 a, .int .i64 b, .int .i64 c, .int .i64 d]) (.int .i64 0)).run Try.prog w = .ok (.int .i64 a) w := by kernel_rfl
theorem Try.index41 (a b c d : Int) (w : World) : (Instr.index 60 (.agg #[.int .i64 a, .int .i64 b, .int .i64 c, .int .i64 d]) (.int .i64 1)).run Try.prog w = .ok (.int .i64 b) w := by kernel_rfl
theorem Try.index42 (a b c d : Int) (w : World) : (Instr.index 60 (.agg #[.int .i64 a, .int .i64 b, .int .i64 c, .int .i64 d]) (.int .i64 2)).run Try.prog w = .ok (.int .i64 c) w := by kernel_rfl
theorem Try.index43 (a b c d : Int) (w : World) : (Instr.index 60 (.agg #[.int .i64 a, .int .i64 b, .int .i64 c, .int .i64 d]) (.int .i64 3)).run Try.prog w = .ok (.int .i64 d) w := by kernel_rfl
/-- The k-th of four. -/
def nth4 (a b c d : Int) (k : Nat) : Int := if k = 0 then a else if k = 1 then b else if k = 2 then c else d
theorem Try.index4 (a b c d : Int) (k : Nat) (hk : k < 4) (w : World) :
    (Instr.index 60 (.agg #[.int .i64 a, .int .i64 b, .int .i64 c, .int .i64 d]) (.int .i64 (k : Int))).run Try.prog w = .ok (.int .i64 (nth4 a b c d k)) w := by
  have : k = 0 ∨ k = 1 ∨ k = 2 ∨ k = 3 := by omega
  rcases this with rfl | rfl | rfl | rfl
  · exact Try.index40 a b c d w
  · exact Try.index41 a b c d w
  · exact Try.index42 a b c d w
  · exact Try.index43 a b c d w

/-- Block b holds four numbers, and may be written into. -/
structure Row4 (w : World) (b : Nat) (x0 x1 x2 x3 : Int) : Prop where
  c0 : w.cell? ⟨b, 0, none⟩ = some (.int .i64 x0)
  c1 : w.cell? ⟨b, 1, none⟩ = some (.int .i64 x1)
  c2 : w.cell? ⟨b, 2, none⟩ = some (.int .i64 x2)
  c3 : w.cell? ⟨b, 3, none⟩ = some (.int .i64 x3)
  fr : ∀ o, w.frozen? ⟨b, o, none⟩ = false

section
variable {w w' : World} {b B : Nat} {x0 x1 x2 x3 : Int}
theorem Row4.below (h : Row4 w b x0 x1 x2 x3) (hb : Below B w w') (hlt : b < B) : Row4 w' b x0 x1 x2 x3 :=
  ⟨(hb.cell (p := ⟨b, 0, none⟩) hlt).trans h.c0, (hb.cell (p := ⟨b, 1, none⟩) hlt).trans h.c1, (hb.cell (p := ⟨b, 2, none⟩) hlt).trans h.c2, (hb.cell (p := ⟨b, 3, none⟩) hlt).trans h.c3, fun o => (hb.frozen (p := ⟨b, o, none⟩) hlt).trans (h.fr o)⟩
theorem Row4.new (w : World) (t : TypeId) : Row4 (w.alloc (.cells #[.int .i64 x0, .int .i64 x1, .int .i64 x2, .int .i64 x3] t)) w.heap.size x0 x1 x2 x3 :=
  ⟨by simp, by simp, by simp, by simp, fun o => by simp⟩
theorem Row4.alloc (h : Row4 w b x0 x1 x2 x3) (hlt : b < w.heap.size) (o : Obj) : Row4 (w.alloc o) b x0 x1 x2 x3 := h.below ((Below.refl _ _).alloc (Nat.le_refl _) _) hlt
end

theorem cell_set4 {w : World} {b b' o : Nat} {v0 v1 v2 v3 : Value} (hb : b' ≠ b) :
    ((((w.setCell ⟨b, 0, none⟩ v0).setCell ⟨b, 1, none⟩ v1).setCell ⟨b, 2, none⟩ v2).setCell ⟨b, 3, none⟩ v3).cell? ⟨b', o, none⟩ = w.cell? ⟨b', o, none⟩ :=
  (((cell_other hb).trans (cell_other hb)).trans (cell_other hb)).trans (cell_other hb)
theorem below_set4 {B : Nat} {a w : World} (h : Below B a w) {b : Nat} (hB : B ≤ b) (v0 v1 v2 v3 : Value) :
    Below B a ((((w.setCell ⟨b, 0, none⟩ v0).setCell ⟨b, 1, none⟩ v1).setCell ⟨b, 2, none⟩ v2).setCell ⟨b, 3, none⟩ v3) :=
  (((h.setCell hB _).setCell hB _).setCell hB _).setCell hB _

/-- One number of a vector. -/
def numB (x : Int) : Bool := decide (0 ≤ x) && decide (x ≤ 1000)
theorem numB_true {x : Int} (h : numB x = true) : 0 ≤ x ∧ x ≤ 1000 := by simpa [numB] using h
theorem numB_false {x : Int} (h : numB x = false) : x < 0 ∨ 1000 < x := by simp [numB] at h; omega
theorem vecB4 (a b c d : Int) : vecB [a, b, c, d] = (numB a && numB b && numB c && numB d) := by
  simp [vecB, numB, Bool.and_assoc]
theorem vecB4_false {a b c d : Int} {k : Nat} (hk : k < 4) (h : numB (nth4 a b c d k) = false) : vecB [a, b, c, d] = false := by
  rw [vecB4]
  have : k = 0 ∨ k = 1 ∨ k = 2 ∨ k = 3 := by omega
  rcases this with rfl | rfl | rfl | rfl <;> simp [nth4] at h <;> simp [h]
theorem vecB4_true {a b c d : Int} (h : ∀ k, k < 4 → numB (nth4 a b c d k) = true) : vecB [a, b, c, d] = true := by
  rw [vecB4]
  have h0 := h 0 (by omega)
  have h1 := h 1 (by omega)
  have h2 := h 2 (by omega)
  have h3 := h 3 (by omega)
  simp [nth4] at h0 h1 h2 h3
  simp [h0, h1, h2, h3]

set_option maxRecDepth 100000 in
theorem cell_dr (w : World) (a : Addr) : w.drew.cell? a = w.cell? a := rfl

end Go.Proofs.Ytgomdjhfdnbmdaa

namespace Go.Proofs.Ytgomdjhfdnbmdaa
open Go.RowKit Go.Maps

/-- The greater one. -/
def mx (x y : Int) : Int := if x < y then y else x
/-- Four numbers, the first k of them the greater ones. -/
def upK (x y : Int) (j k : Nat) : Int := if j < k then mx x y else x

theorem upK_zero (x y : Int) (j : Nat) : upK x y j 0 = x := by simp [upK]

theorem Row4.set0 {w : World} {b : Nat} {x0 x1 x2 x3 : Int} (h : Row4 w b x0 x1 x2 x3) (v : Int) : Row4 (w.setCell ⟨b, 0, none⟩ (.int .i64 v)) b v x1 x2 x3 :=
  ⟨World.cell?_setCell_same _ _ _ h.c0, (World.cell?_setCell_other _ _ _ _ (by simp)).trans h.c1, (World.cell?_setCell_other _ _ _ _ (by simp)).trans h.c2, (World.cell?_setCell_other _ _ _ _ (by simp)).trans h.c3, fun o => by rw [World.frozen?_setCell]; exact h.fr o⟩
theorem Row4.set1 {w : World} {b : Nat} {x0 x1 x2 x3 : Int} (h : Row4 w b x0 x1 x2 x3) (v : Int) : Row4 (w.setCell ⟨b, 1, none⟩ (.int .i64 v)) b x0 v x2 x3 :=
  ⟨(World.cell?_setCell_other _ _ _ _ (by simp)).trans h.c0, World.cell?_setCell_same _ _ _ h.c1, (World.cell?_setCell_other _ _ _ _ (by simp)).trans h.c2, (World.cell?_setCell_other _ _ _ _ (by simp)).trans h.c3, fun o => by rw [World.frozen?_setCell]; exact h.fr o⟩
theorem Row4.set2 {w : World} {b : Nat} {x0 x1 x2 x3 : Int} (h : Row4 w b x0 x1 x2 x3) (v : Int) : Row4 (w.setCell ⟨b, 2, none⟩ (.int .i64 v)) b x0 x1 v x3 :=
  ⟨(World.cell?_setCell_other _ _ _ _ (by simp)).trans h.c0, (World.cell?_setCell_other _ _ _ _ (by simp)).trans h.c1, World.cell?_setCell_same _ _ _ h.c2, (World.cell?_setCell_other _ _ _ _ (by simp)).trans h.c3, fun o => by rw [World.frozen?_setCell]; exact h.fr o⟩
theorem Row4.set3 {w : World} {b : Nat} {x0 x1 x2 x3 : Int} (h : Row4 w b x0 x1 x2 x3) (v : Int) : Row4 (w.setCell ⟨b, 3, none⟩ (.int .i64 v)) b x0 x1 x2 v :=
  ⟨(World.cell?_setCell_other _ _ _ _ (by simp)).trans h.c0, (World.cell?_setCell_other _ _ _ _ (by simp)).trans h.c1, (World.cell?_setCell_other _ _ _ _ (by simp)).trans h.c2, World.cell?_setCell_same _ _ _ h.c3, fun o => by rw [World.frozen?_setCell]; exact h.fr o⟩
theorem Row4.other {w : World} {b b' o : Nat} {x0 x1 x2 x3 : Int} (h : Row4 w b x0 x1 x2 x3) (hb : b ≠ b') (v : Value) : Row4 (w.setCell ⟨b', o, none⟩ v) b x0 x1 x2 x3 :=
  ⟨(cell_other hb).trans h.c0, (cell_other hb).trans h.c1, (cell_other hb).trans h.c2, (cell_other hb).trans h.c3, fun o => by rw [World.frozen?_setCell]; exact h.fr o⟩

end Go.Proofs.Ytgomdjhfdnbmdaa

namespace Go.Proofs.Ytgomdjhfdnbmdaa
open Go.RowKit Go.Maps

theorem Try.vecEq (a b c d a' b' c' d' : Int) (w : World) : (binOp .eql 60 (v4 a b c d) (v4 a' b' c' d')).run Try.prog w = .ok (.bool (a == a' && b == b' && c == c' && d == d')) w := by
  unfold v4
  rw [run_eql_struct, show (10000 : Nat) = 9998 + 1 + 1 from rfl]
  have hz := Try.sizeOf3
  have ha := Try.isAgg3
  have hu := Try.underlying60
  have hi := Try.underlying3
  unfold Op.equalIn
  simp only [Sem.run_bind, run_underlying hu, Result.andThen_ok]
  simp only [hz, Result.andThen_ok, Std.Legacy.Range.forIn_eq_forIn_range', Std.Legacy.Range.size]
  simp [List.range']
  go_simp
  by_cases h1 : a = a' <;> by_cases h2 : b = b' <;> by_cases h3 : c = c' <;> by_cases h4 : d = d' <;> simp [h1, h2, h3, h4]

/-- None of the first four is above the other's. -/
def belB (a b c d a' b' c' d' : Int) : Bool := mx a a' == a' && mx b b' == b' && mx c c' == c' && mx d d' == d'
theorem mx_beq (x y : Int) : (mx x y == y) = decide (x ≤ y) := by
  unfold mx
  by_cases h : x < y
  · simp [h]; omega
  · rw [if_neg h, Bool.eq_iff_iff]; simp; omega

end Go.Proofs.Ytgomdjhfdnbmdaa

namespace Go.Proofs.Ytgomdjhfdnbmdaa
open Go.RowKit Go.Maps

/-- '[]T{}': no element, in a block of its own. -/
theorem ownsRow_empty (w : World) (t : TypeId) (size base : Nat) (hb : base ≤ w.heap.size) : (w.alloc (.cells #[] t)).ownsRow base t size (.slice (some ⟨w.heap.size, 0, none⟩) 0 0) 0 [] :=
  ⟨by simp, .inr ⟨w.heap.size, 0, #[], rfl, hb, heap_alloc_new w _, Nat.le_refl _, by unfold maxLen; omega, by simp, by simp⟩⟩

set_option maxRecDepth 100000 in
set_option maxHeartbeats 2000000 in
theorem clone4_any (g : Nat) (a b c d : Int) (w : World) (hg : g < w.heap.size) (hr : Row4 w g a b c d) :
    Calls Try.prog 66 #[.slice (some ⟨g, 0, none⟩) 4 4] w (NewIntsFr [a, b, c, d] w) := by
  have hnil := @Lib.run_eql_slice_nil Try.prog
  go_enter Try.func66, Try.ntmps66
  obtain ⟨i0, hi, hz0, hz1, hz2⟩ := info_parts Try.infoInt
  have HR := Lib.hid hr
  clear hr
  go_wp2_with (at_builtin; refine wpList_append_own _ rfl _ _ 22 rfl w.heap.size 3 i0 (.int .i64 0) 1 8 Try.underlying22 hi hz0 hz1 hz2 rfl (by decide) _ _ _ rfl (ownsRow_empty w _ 1 _ (Nat.le_refl _)) ⟨g, 0, none⟩ 4 4 ([a, b, c, d].map vint) rfl rfl ?c1 ?c2 ?c3 ?c4 ?c5 ?_)
  case c1 =>
    intro j u hu
    have hj : j = 0 ∨ j = 1 ∨ j = 2 ∨ j = 3 := by
      have := (List.getElem?_eq_some_iff.1 hu).1
      simp at this
      omega
    have h := HR.out.alloc hg (.cells #[] 3)
    rw [Addr.add_lit]
    rcases hj with rfl | rfl | rfl | rfl <;> simp [vint] at hu <;> subst hu
    · exact h.c0
    · exact h.c1
    · exact h.c2
    · exact h.c3
  case c2 => intro u hu; simp [vint] at hu; rcases hu with rfl | rfl | rfl | rfl <;> rfl
  case c3 => unfold maxLen; omega
  case c4 => omega
  case c5 => simp
  intro v' w5 hrow5 hgr5 _
  obtain ⟨A5, c5, rfl⟩ := row_shape hrow5
  have HRow5 := Lib.hid hrow5
  have HB5 := Lib.hid (((Below.refl w.heap.size w).alloc (Nat.le_refl _) (.cells #[] 3)).grown hgr5 (by simp) (fun k hk => by cases hk; exact Nat.le_refl _))
  clear hrow5 hgr5
  go_wp2_with fail
  go_ret
  exact ⟨A5, c5, rfl, ints_of_row (by simpa using HRow5.out), HB5.out⟩

set_option maxRecDepth 100000 in
set_option maxHeartbeats 2000000 in
theorem vlist_any (a b c d : Int) (w : World) :
    Calls Try.prog 62 #[v4 a b c d] w (NewIntsFr [a, b, c, d] w) := by
  have hcl := fun w1 hg hr => clone4_any w.heap.size a b c d w1 hg hr
  have HCl := Lib.hid hcl
  clear hcl
  unfold v4
  go_enter Try.func62, Try.ntmps62
  go_wp2_with fail
  refine (HCl.out _ (by simp) (Row4.new w _)).mono ?_
  rintro e w5 ⟨A5, c5, rfl, hfr, hb⟩
  have HF := Lib.hid hfr
  have HB := Lib.hid (((Below.refl w.heap.size w).alloc (Nat.le_refl _) (.cells #[.int .i64 a, .int .i64 b, .int .i64 c, .int .i64 d] 60)).trans (hb.mono (by simp)))
  clear hfr hb
  go_wp2_with fail
  go_ret
  exact ⟨A5, c5, rfl, HF.out.low (by simp), HB.out⟩

end Go.Proofs.Ytgomdjhfdnbmdaa

namespace Go.Proofs.Ytgomdjhfdnbmdaa
open Go.RowKit Go.Maps

theorem vecB_len {l : List Int} (h : l.length ≠ 4) : vecB l = false := by simp [vecB, h]
theorem four_of {l : List Int} (h : l.length = 4) : ∃ a b c d, l = [a, b, c, d] := by
  match l, h with
  | [a, b, c, d], _ => exact ⟨a, b, c, d, rfl⟩

/-- Four numbers out of a list. -/
def v4l (l : List Int) : Value := v4 (l.getD 0 0) (l.getD 1 0) (l.getD 2 0) (l.getD 3 0)

/-- readVec's answer, of whatever list. -/
def vecVal (l : List Int) : Value := if l.length = 4 then v4l l else v4 0 0 0 0
theorem vecVal_shape (l : List Int) : ∃ a b c d, vecVal l = v4 a b c d := by
  unfold vecVal v4l
  split <;> exact ⟨_, _, _, _, rfl⟩

/-- A new list, or none. -/
def upV (l m : List Int) : List Int := if vecB l && vecB m then [mx (l.getD 0 0) (m.getD 0 0), mx (l.getD 1 0) (m.getD 1 0), mx (l.getD 2 0) (m.getD 2 0), mx (l.getD 3 0) (m.getD 3 0)] else []

theorem NewIntsFr.nil {w w' : World} (hb : Below w.heap.size w w') : NewIntsFr [] w (.returned (.slice none 0 0)) w' :=
  ⟨none, 0, rfl, fun h => absurd h (by simp), hb⟩
theorem vecB_four {l : List Int} (h : vecB l = true) : ∃ a b c d, l = [a, b, c, d] := by
  refine four_of ?_
  simp [vecB] at h
  exact h.1

/-- Is none above the other's? -/
def belowV (l m : List Int) : Bool := vecB l && vecB m && belB (l.getD 0 0) (l.getD 1 0) (l.getD 2 0) (l.getD 3 0) (m.getD 0 0) (m.getD 1 0) (m.getD 2 0) (m.getD 3 0)

end Go.Proofs.Ytgomdjhfdnbmdaa

namespace Go.Proofs.Ytgomdjhfdnbmdaa
open Go.RowKit Go.Maps

theorem vecB_all {l : List Int} (h : ∀ j (hj : j < l.length), numB l[j] = true) : vecB l = decide (l.length = 4) := by
  unfold vecB
  rw [Bool.and_eq_left_iff_imp]
  intro _
  rw [List.all_eq_true]
  intro x hx
  obtain ⟨j, hj, rfl⟩ := List.getElem_of_mem hx
  exact h j hj
theorem vecB_bad {l : List Int} {j : Nat} (hj : j < l.length) (h : numB l[j] = false) : vecB l = false := by
  unfold vecB
  rw [Bool.and_eq_false_iff]
  refine .inr ?_
  rw [List.all_eq_false]
  exact ⟨l[j], List.getElem_mem hj, by simpa [numB] using h⟩

/-- The greater ones of the first k. -/
def mxs (l m : List Int) (k : Nat) : List Int := (List.range k).map fun j => mx (l.getD j 0) (m.getD j 0)
theorem mxs_length (l m : List Int) (k : Nat) : (mxs l m k).length = k := by simp [mxs]
theorem mxs_succ (l m : List Int) (k : Nat) : mxs l m (k + 1) = mxs l m k ++ [mx (l.getD k 0) (m.getD k 0)] := by
  simp [mxs, List.range_succ]
theorem mxs_four {l m : List Int} (hl : vecB l = true) (hm : vecB m = true) : mxs l m 4 = upV l m := by
  simp [mxs, upV, hl, hm, List.range_succ]

theorem upV_length (l m : List Int) : (upV l m).length ≤ 4 := by
  unfold upV
  split <;> simp

end Go.Proofs.Ytgomdjhfdnbmdaa
