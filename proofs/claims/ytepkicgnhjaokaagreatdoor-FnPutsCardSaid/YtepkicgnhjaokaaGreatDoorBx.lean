/-
  The cells of a variable, told together.
-/
import Derived.Test.YtepkicgnhjaokaaGreatDoorMark
namespace Go.Proofs.YtepkicgnhjaokaaGreatDoor
open Go.RowKit Go.Maps

/-- The block b begins with the values vs. -/
def Bx (w : World) (b : Nat) (vs : List Value) : Prop := ∀ j (hj : j < vs.length), w.cell? ⟨b, j, none⟩ = some vs[j]

section
variable {w w' : World} {b B L : Nat} {vs : List Value}
theorem Bx.below (h : Bx w b vs) (hb : Below B w w') (hlt : b < B) : Bx w' b vs := fun j hj => (hb.cell (p := ⟨b, j, none⟩) hlt).trans (h j hj)
theorem Bx.inside (h : Bx w b vs) (hi : Inside L B w w') (hlt : b < L ∨ (B ≤ b ∧ b < w.heap.size)) : Bx w' b vs := fun j hj => (hi.cell (p := ⟨b, j, none⟩) hlt).trans (h j hj)
theorem Bx.alloc (h : Bx w b vs) (hlt : b < w.heap.size) (o : Obj) : Bx (w.alloc o) b vs := fun j hj => (World.cell?_alloc_lt w o ⟨b, j, none⟩ hlt).trans (h j hj)
theorem Bx.new (w : World) (cs : Array Value) (t : TypeId) : Bx (w.alloc (.cells cs t)) w.heap.size cs.toList := fun j hj => by
  rw [World.cell?, heap_alloc_new]
  have hj' : j < cs.size := by simpa using hj
  simp [hj']
theorem Bx.new' (w : World) (cs : Array Value) (t : TypeId) (l : List Value) (hl : cs.toList = l) : Bx (w.alloc (.cells cs t)) w.heap.size l := hl ▸ Bx.new w cs t
theorem Bx.one {v : Value} (h : Bx w b [v]) : w.cell? ⟨b, 0, none⟩ = some v := h 0 (by simp)
theorem Bx.four {v0 v1 v2 v3 : Value} (h : Bx w b [v0, v1, v2, v3]) : w.cell? ⟨b, 0, none⟩ = some v0 ∧ w.cell? ⟨b, 1, none⟩ = some v1 ∧ w.cell? ⟨b, 2, none⟩ = some v2 ∧ w.cell? ⟨b, 3, none⟩ = some v3 :=
  ⟨h 0 (by simp), h 1 (by simp), h 2 (by simp), h 3 (by simp)⟩
end

theorem cell_other {w : World} {b b' o o' : Nat} {v : Value} (hb : b' ≠ b) : (w.setCell ⟨b, o, none⟩ v).cell? ⟨b', o', none⟩ = w.cell? ⟨b', o', none⟩ :=
  World.cell?_setCell_other _ _ _ _ (fun h => by first | exact hb (congrArg Addr.block h) | exact hb (congrArg Addr.block h).symm)

end Go.Proofs.YtepkicgnhjaokaaGreatDoor
