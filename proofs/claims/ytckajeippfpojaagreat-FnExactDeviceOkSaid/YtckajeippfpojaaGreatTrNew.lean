/-
  TreeNew: the model's and the program's.
-/
import Derived.Test.YtckajeippfpojaaGreatGB
import Derived.Test.YtckajeippfpojaaGreatGVec
import Derived.Outline
namespace Go.Proofs.YtckajeippfpojaaGreat
open Go.RowKit Go.Maps

/-- A new tree is handed back. -/
def NewTr (vec : List Int) (es : List En) (w : World) (e : Ending) (w' : World) : Prop :=
  ∃ AV cv A c, e = .returned (.agg #[.slice AV vec.length cv, .slice A es.length c]) ∧ TrOwn w' w.heap.size w'.heap.size AV vec A es ∧ w.heap.size < w'.heap.size ∧ Below w.heap.size w w'

/-- Two cells of block b, stored. -/
theorem two_other {w : World} {b : Nat} {v0 v1 : Value} {p : Addr} (hp : p.block ≠ b) : ((w.setCell ⟨b, 0, none⟩ v0).setCell ⟨b, 1, none⟩ v1).cell? p = w.cell? p ∧ ((w.setCell ⟨b, 0, none⟩ v0).setCell ⟨b, 1, none⟩ v1).frozen? p = w.frozen? p :=
  ⟨by rw [World.cell?_setCell_other _ _ _ _ (by rintro rfl; exact hp rfl), World.cell?_setCell_other _ _ _ _ (by rintro rfl; exact hp rfl)], by rw [World.frozen?_setCell, World.frozen?_setCell]⟩

set_option maxRecDepth 100000 in
set_option maxHeartbeats 1000000 in
theorem outNil_any (a b c d : Int) (w : World) :
    Calls Tryz.prog 125 #[.agg #[.int .i64 a, .int .i64 b, .int .i64 c, .int .i64 d, .slice none 0 0]] w (NewTr [a, b, c, d] [] w) := by
  have hli := fun W => vlist_any a b c d W
  unfold v4 at hli
  have HLi := Lib.hid hli
  clear hli
  go_enter Tryz.func125, Tryz.ntmps125
  go_wp2_with fail
  go_loopw [3, 9] (fun l i wr => l = .slice none 0 0 ∧ i = .int .i64 0 ∧ wr = (w.alloc (.cells #[.int .i64 a, .int .i64 b, .int .i64 c, .int .i64 d, .slice none 0 0] 101)).alloc (.cells #[.slice none 0 0, .slice none 0 0] 38)) (fun _ _ _ => 0)
  case atStart => exact ⟨rfl, rfl, rfl⟩
  case round =>
    obtain ⟨rfl, rfl, rfl⟩ := hrel
    go_wp2_with fail
    obtain ⟨W0, hW0⟩ : ∃ W0, W0 = w.alloc (.cells #[.int .i64 a, .int .i64 b, .int .i64 c, .int .i64 d, .slice none 0 0] 101) := ⟨_, rfl⟩
    obtain ⟨W, hW⟩ : ∃ W, W = W0.alloc (.cells #[.slice none 0 0, .slice none 0 0] 38) := ⟨_, rfl⟩
    have hz0 : W0.heap.size = w.heap.size + 1 := by rw [hW0]; simp
    have hz : w.heap.size + 1 < W.heap.size := by rw [hW]; simp [hz0]
    have HX := Lib.hid (show Bx W (w.heap.size + 1) [.slice none 0 0, .slice none 0 0] by rw [hW, ← hz0]; exact Bx.new' _ _ _ _ rfl)
    have HF := Lib.hid (show ∀ o, W.frozen? ⟨w.heap.size + 1, o, none⟩ = false from fun o => by rw [hW, hW0]; exact (((Fresh.refl w).alloc _ _).alloc _ _) ⟨w.heap.size + 1, o, none⟩ (by show w.heap.size ≤ w.heap.size + 1; omega))
    have HBel := Lib.hid (show Below w.heap.size w W by rw [hW, hW0]; exact ((Below.refl _ _).alloc (Nat.le_refl _) _).alloc (by simp) _)
    rw [← hW0, ← hW]
    clear hW hW0 hz0
    refine (HLi.out W).mono ?_
    rintro e w1 ⟨AV, cv, rfl, hfr, hb⟩
    have HV := Lib.hid hfr
    have hz1 := hb.size
    have r0 := (HX.out.below hb (by omega)) 0 (by simp)
    have r1 := (HX.out.below hb (by omega)) 1 (by simp)
    simp only [List.getElem_cons_succ, List.getElem_cons_zero] at r0 r1
    have f0 := (hb.frozen (p := ⟨w.heap.size + 1, 0, none⟩) (by show w.heap.size + 1 < _; omega)).trans (HF.out 0)
    have f1 := (hb.frozen (p := ⟨w.heap.size + 1, 1, none⟩) (by show w.heap.size + 1 < _; omega)).trans (HF.out 1)
    have HB1 := Lib.hid (HBel.out.trans (hb.mono (by omega)))
    clear hb hfr HX HF
    go_wp2_with fail
    refine bodyPost_ret (v := .agg #[.slice AV 4 cv, .slice none 0 0]) (by simp [results, Tryz.results125, r0, r1, go_sem]) rfl ?_
    refine ⟨AV, cv, none, 0, rfl, ⟨W.heap.size, w1.heap.size, W.heap.size, W.heap.size, by omega, by simp, by omega, by simp; omega, .inr (Nat.le_refl _), ?_, .nil⟩, by simp; omega, ?_⟩
    · exact HV.out.keep fun p hp _ => two_other (by omega)
    · exact (HB1.out.setCell (by simp) _).setCell (by simp) _

/-- The new tree's numbers, and its entries. -/
def newVec : List Int := [0, 0, 0, 0]
def newEns : List En := []
theorem newVec_length : newVec.length ≤ 1048576 := by unfold newVec; simp
theorem newEns_length : newEns.length ≤ 1048576 := by unfold newEns; simp
theorem newEns_bulk : ebulk newEns ≤ 1048576 := by unfold newEns; simp [ebulk]
end Go.Proofs.YtckajeippfpojaaGreat
