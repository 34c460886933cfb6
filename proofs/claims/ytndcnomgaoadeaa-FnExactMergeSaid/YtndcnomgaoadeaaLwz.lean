/-
  Worlds in a law's region whose order is open: what stays; a zero box that was made early.
-/
import Derived.Test.YtndcnomgaoadeaaTrM
import Derived.Test.YtndcnomgaoadeaaDropI
import Derived.Deep.CutRange
namespace Go.Proofs.Ytndcnomgaoadeaa
open Go.RowKit Go.Maps

def Sw (W X : World) : Prop := Below W.heap.size W X
theorem Sw.refl (W : World) : Sw W W := Below.refl _ _
theorem Sw.drew {W X : World} (h : Sw W X) : Sw W X.drew := Below.drew h
theorem Sw.alloc {W X : World} (h : Sw W X) (o : Obj) : Sw W (X.alloc o) := Below.alloc h (Below.size h) o
theorem Sw.below {W X Y : World} (h : Sw W X) (hb : Below X.heap.size X Y) : Sw W Y := Below.trans h (hb.mono (Below.size h))
theorem Sw.set {W X : World} (h : Sw W X) {b o : Nat} (hb : W.heap.size ≤ b) (v : Value) : Sw W (X.setCell ⟨b, o, none⟩ v) := Below.setCell h (show W.heap.size ≤ b from hb) v
structure Zbx (b : Nat) (v0 v1 : Value) (X : World) : Prop where
  c0 : X.cell? ⟨b, 0, none⟩ = some v0
  c1 : X.cell? ⟨b, 1, none⟩ = some v1
  f0 : X.frozen? ⟨b, 0, none⟩ = false
  f1 : X.frozen? ⟨b, 1, none⟩ = false
  lt : b < X.heap.size
theorem Zbx.below {b : Nat} {v0 v1 : Value} {X Y : World} (h : Zbx b v0 v1 X) (hb : Below X.heap.size X Y) : Zbx b v0 v1 Y :=
  ⟨(hb.cell (p := ⟨b, 0, none⟩) h.lt).trans h.c0, (hb.cell (p := ⟨b, 1, none⟩) h.lt).trans h.c1, (hb.frozen (p := ⟨b, 0, none⟩) h.lt).trans h.f0, (hb.frozen (p := ⟨b, 1, none⟩) h.lt).trans h.f1, Nat.lt_of_lt_of_le h.lt hb.size⟩
theorem Zbx.sw {b : Nat} {v0 v1 : Value} {X Y : World} (h : Zbx b v0 v1 X) (hb : Sw X Y) : Zbx b v0 v1 Y := h.below hb
theorem Zbx.new (X : World) (v0 v1 : Value) (t : TypeId) : Zbx X.heap.size v0 v1 (X.alloc (.cells #[v0, v1] t)) := by
  have h := heap_alloc_new X (.cells #[v0, v1] t)
  exact ⟨by rw [World.cell?, h]; rfl, by rw [World.cell?, h]; rfl, by rw [World.frozen?, h]; rfl, by rw [World.frozen?, h]; rfl, by simp⟩
theorem Zbx.at {v0 v1 : Value} {t : TypeId} {X Y : World} (hb : Below (X.alloc (.cells #[v0, v1] t)).heap.size (X.alloc (.cells #[v0, v1] t)) Y) : Zbx X.heap.size v0 v1 Y := (Zbx.new X v0 v1 t).below hb
theorem Zbx.at' {v0 v1 : Value} {t : TypeId} {X Y : World} (hb : Below (X.alloc (.cells #[v0, v1] t)).drew.heap.size (X.alloc (.cells #[v0, v1] t)).drew Y) : Zbx X.heap.size v0 v1 Y := (Zbx.new X v0 v1 t).below ((Below.refl _ _).drew.trans hb)
theorem Zbx.at2 {v0 v1 : Value} {t : TypeId} {X Y : World} (hb : Below (X.drew.alloc (.cells #[v0, v1] t)).heap.size (X.drew.alloc (.cells #[v0, v1] t)) Y) : Zbx X.heap.size v0 v1 Y := (Zbx.new X.drew v0 v1 t).below hb
theorem bx_of2 {w : World} {b : Nat} {v0 v1 : Value} (h0 : w.cell? ⟨b, 0, none⟩ = some v0) (h1 : w.cell? ⟨b, 1, none⟩ = some v1) : Bx w b [v0, v1] := by
  intro j hj
  have : j = 0 ∨ j = 1 := by simp at hj; omega
  rcases this with rfl | rfl
  · exact h0
  · exact h1
/-- A tree's own memory beside a box that is written. -/
theorem trOwn_beside {w : World} {L B b : Nat} {AV A : Option Addr} {vec : List Int} {es : List En} (h : TrOwn w L B AV vec A es) (hb : b < L) (v0 v1 : Value) : TrOwn ((w.setCell ⟨b, 0, none⟩ v0).setCell ⟨b, 1, none⟩ v1) L B AV vec A es :=
  h.keep fun p hp _ => two_other (by omega)

end Go.Proofs.Ytndcnomgaoadeaa
