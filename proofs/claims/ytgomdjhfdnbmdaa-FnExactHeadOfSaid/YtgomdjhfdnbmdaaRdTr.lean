/-
  The program reads a tree.
-/
import Derived.Test.YtgomdjhfdnbmdaaTokI
import Derived.Test.YtgomdjhfdnbmdaaGVec
import Derived.Test.YtgomdjhfdnbmdaaNameS
namespace Go.Proofs.Ytgomdjhfdnbmdaa
open Go.RowKit Go.Maps

/-- A tree is TreeOk. -/
def treeB (vec : List Int) (es : List En) : Bool := vecB vec && decide (es.length ≤ 12) && es.all (fun e => nameB e.name) && tokB (vec.getD 0 0) (vec.getD 1 0) (vec.getD 2 0) (vec.getD 3 0) es

/-- What readTree hands back. -/
def RdTree (vec : List Int) (es : List En) (w : World) (e : Ending) (w' : World) : Prop :=
  ∃ (a b c d : Int) (A : Option Addr) (n cap : Nat), e = .returned (.tuple #[.agg #[.int .i64 a, .int .i64 b, .int .i64 c, .int .i64 d, .slice A n cap], .bool (treeB vec es)]) ∧
    (treeB vec es = true → vec = [a, b, c, d] ∧ n = es.length ∧ EvsIn w' w.heap.size w'.heap.size A es) ∧ Below w.heap.size w w'

/-- An entry's cells, as the program reads it. -/
def encE (e : En) : List Value := [.string ⟨e.name.toArray⟩, .int .i64 e.val, .int .i64 e.dev, .int .i64 e.num]

theorem Try.infoEnt : (Try.prog.info? 101).map (fun i => (i.zero, i.size, i.bytes)) = some (some (.agg #[.string ⟨#[]⟩, .int .i64 0, .int .i64 0, .int .i64 0]), 4, 40) := by kernel_rfl

theorem encE_get (es : List En) (i : Nat) (hi : i < es.length) : (es.flatMap encE)[i * 4]? = some (.string ⟨es[i].name.toArray⟩) ∧ (es.flatMap encE)[i * 4 + 1]? = some (.int .i64 es[i].val) ∧ (es.flatMap encE)[i * 4 + 2]? = some (.int .i64 es[i].dev) ∧ (es.flatMap encE)[i * 4 + 3]? = some (.int .i64 es[i].num) := by
  induction es generalizing i with
  | nil => simp at hi
  | cons e es ih =>
    rw [List.flatMap_cons]
    cases i with
    | zero => simp [encE]
    | succ i =>
      obtain ⟨h0, h1, h2, h3⟩ := ih i (by simpa using hi)
      have hl : (encE e).length = 4 := rfl
      simp only [List.getElem_cons_succ]
      refine ⟨?_, ?_, ?_, ?_⟩
      · rw [List.getElem?_append_right (by omega), show (i + 1) * 4 - (encE e).length = i * 4 by omega]; exact h0
      · rw [List.getElem?_append_right (by omega), show (i + 1) * 4 + 1 - (encE e).length = i * 4 + 1 by omega]; exact h1
      · rw [List.getElem?_append_right (by omega), show (i + 1) * 4 + 2 - (encE e).length = i * 4 + 2 by omega]; exact h2
      · rw [List.getElem?_append_right (by omega), show (i + 1) * 4 + 3 - (encE e).length = i * 4 + 3 by omega]; exact h3

theorem evs_of_row {w : World} {base : Nat} {e : TypeId} {A : Option Addr} {c : Nat} {es : List En} (h : w.ownsRow base e 4 (.slice A es.length c) es.length (es.flatMap encE)) : EvsIn w base w.heap.size A es := fun hl => by
  obtain ⟨_, hh | ⟨g, cap, cur, hv, hg, hb, _, _, _, htk⟩⟩ := h
  · omega
  · injection hv with h1 _ _
    subst h1
    refine ⟨g, 0, rfl, hg, (Array.getElem?_eq_some_iff.1 hb).1, fun i hi => ?_⟩
    obtain ⟨h0, h1, h2, h3⟩ := encE_get es i hi
    rw [← htk, List.getElem?_take, if_pos (by omega)] at h0 h1 h2 h3
    rw [Nat.zero_add]
    exact ⟨by rw [World.cell?, hb]; simpa using h0, by rw [World.cell?, hb]; simpa using h1, by rw [World.cell?, hb]; simpa using h2, by rw [World.cell?, hb]; simpa using h3⟩

/-- Five cells of block b, stored. -/
theorem set5_get {w : World} {b : Nat} {o0 o1 o2 o3 o4 v0 v1 v2 v3 v4' : Value} (h0 : w.cell? ⟨b, 0, none⟩ = some o0) (h1 : w.cell? ⟨b, 1, none⟩ = some o1) (h2 : w.cell? ⟨b, 2, none⟩ = some o2) (h3 : w.cell? ⟨b, 3, none⟩ = some o3) (h4 : w.cell? ⟨b, 4, none⟩ = some o4) :
    Bx (((((w.setCell ⟨b, 0, none⟩ v0).setCell ⟨b, 1, none⟩ v1).setCell ⟨b, 2, none⟩ v2).setCell ⟨b, 3, none⟩ v3).setCell ⟨b, 4, none⟩ v4') b [v0, v1, v2, v3, v4'] := by
  intro j hj
  have : j = 0 ∨ j = 1 ∨ j = 2 ∨ j = 3 ∨ j = 4 := by simp at hj; omega
  rcases this with rfl | rfl | rfl | rfl | rfl
  · rw [World.cell?_setCell_other _ _ _ _ (by simp), World.cell?_setCell_other _ _ _ _ (by simp), World.cell?_setCell_other _ _ _ _ (by simp), World.cell?_setCell_other _ _ _ _ (by simp)]
    exact World.cell?_setCell_same _ _ _ h0
  · rw [World.cell?_setCell_other _ _ _ _ (by simp), World.cell?_setCell_other _ _ _ _ (by simp), World.cell?_setCell_other _ _ _ _ (by simp)]
    exact World.cell?_setCell_same _ _ _ ((World.cell?_setCell_other _ _ _ _ (by simp)).trans h1)
  · rw [World.cell?_setCell_other _ _ _ _ (by simp), World.cell?_setCell_other _ _ _ _ (by simp)]
    exact World.cell?_setCell_same _ _ _ ((World.cell?_setCell_other _ _ _ _ (by simp)).trans ((World.cell?_setCell_other _ _ _ _ (by simp)).trans h2))
  · rw [World.cell?_setCell_other _ _ _ _ (by simp)]
    exact World.cell?_setCell_same _ _ _ ((World.cell?_setCell_other _ _ _ _ (by simp)).trans ((World.cell?_setCell_other _ _ _ _ (by simp)).trans ((World.cell?_setCell_other _ _ _ _ (by simp)).trans h3)))
  · exact World.cell?_setCell_same _ _ _ ((World.cell?_setCell_other _ _ _ _ (by simp)).trans ((World.cell?_setCell_other _ _ _ _ (by simp)).trans ((World.cell?_setCell_other _ _ _ _ (by simp)).trans ((World.cell?_setCell_other _ _ _ _ (by simp)).trans h4))))
theorem cell_drew (w : World) (a : Addr) : w.drew.cell? a = w.cell? a := rfl

theorem other5 {w : World} {b b' o : Nat} {v0 v1 v2 v3 v4' : Value} (hb : b' ≠ b) :
    (((((w.setCell ⟨b, 0, none⟩ v0).setCell ⟨b, 1, none⟩ v1).setCell ⟨b, 2, none⟩ v2).setCell ⟨b, 3, none⟩ v3).setCell ⟨b, 4, none⟩ v4').cell? ⟨b', o, none⟩ = w.cell? ⟨b', o, none⟩ :=
  ((((cell_other hb).trans (cell_other hb)).trans (cell_other hb)).trans (cell_other hb)).trans (cell_other hb)
theorem cell_other' {w : World} {b : Nat} {p : Addr} {v0 v1 v2 v3 v4' : Value} (hb : p.block ≠ b) :
    (((((w.setCell ⟨b, 0, none⟩ v0).setCell ⟨b, 1, none⟩ v1).setCell ⟨b, 2, none⟩ v2).setCell ⟨b, 3, none⟩ v3).setCell ⟨b, 4, none⟩ v4').cell? p = w.cell? p := by
  have h : ∀ (W : World) (o : Nat) (v : Value), (W.setCell ⟨b, o, none⟩ v).cell? p = W.cell? p := fun W o v => World.cell?_setCell_other _ _ _ _ (fun e => hb (by rw [← e]))
  rw [h, h, h, h, h]
theorem below_set5 {B : Nat} {a w : World} (h : Below B a w) {b : Nat} (hB : B ≤ b) (v0 v1 v2 v3 v4' : Value) :
    Below B a (((((w.setCell ⟨b, 0, none⟩ v0).setCell ⟨b, 1, none⟩ v1).setCell ⟨b, 2, none⟩ v2).setCell ⟨b, 3, none⟩ v3).setCell ⟨b, 4, none⟩ v4') :=
  ((((h.setCell hB _).setCell hB _).setCell hB _).setCell hB _).setCell hB _

theorem new4 (w : World) (v0 v1 v2 v3 : Value) (t : TypeId) : ∀ j u, [v0, v1, v2, v3][j]? = some u → (w.alloc (.cells #[v0, v1, v2, v3] t)).cell? ((⟨w.heap.size, 0, none⟩ : Addr).add j) = some u := by
  intro j u hu
  have hj := (List.getElem?_eq_some_iff.1 hu).1
  have : j = 0 ∨ j = 1 ∨ j = 2 ∨ j = 3 := by simp at hj; omega
  rw [Addr.add_lit]
  rcases this with rfl | rfl | rfl | rfl <;> simp at hu <;> subst hu <;> simp

theorem treeB_name {vec : List Int} {es : List En} {k : Nat} (hk : k < es.length) (h : nameB es[k].name = false) : treeB vec es = false := by
  unfold treeB
  rw [Bool.and_eq_false_iff]
  refine .inl ?_
  rw [Bool.and_eq_false_iff]
  refine .inr ?_
  rw [List.all_eq_false]
  exact ⟨es[k], List.getElem_mem hk, by simp [h]⟩

theorem vecVal_four {vec : List Int} {a b c d : Int} (h : vecVal vec = v4 a b c d) (hv : vecB vec = true) : vec = [a, b, c, d] := by
  obtain ⟨x0, x1, x2, x3, rfl⟩ := vecB_four hv
  simp [vecVal, v4l, v4] at h
  obtain ⟨rfl, rfl, rfl, rfl⟩ := h
  rfl

end Go.Proofs.Ytgomdjhfdnbmdaa
