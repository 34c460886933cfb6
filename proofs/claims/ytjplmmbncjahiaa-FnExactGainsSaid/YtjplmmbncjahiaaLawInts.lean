/-
  For laws on a ledger and a list of numbers: what stays all along.
-/
import Derived.Test.YtjplmmbncjahiaaSz
import Derived.Test.YtjplmmbncjahiaaTo
import Derived.Test.YtjplmmbncjahiaaEq
import Derived.Test.YtjplmmbncjahiaaLx
import Derived.Test.YtjplmmbncjahiaaToInts
import Derived.Test.YtjplmmbncjahiaaDedH
import Derived.Deep.RegionHeld3
namespace Go.Proofs.Ytjplmmbncjahiaa
open Go.RowKit Go.Maps

theorem IntsIn.keep' {w w' : World} {L B : Nat} {A : Option Addr} {l : List Int} (h : IntsIn w L B A l) (hb : Below B w w') : IntsIn w' L B A l := h.keep fun _ _ hp => hb.cell hp

/-- The law's two arguments stay. -/
structure Mx (A : Option Addr) (ts : List Tm) (c : Nat) (A2 : Option Addr) (hv : List Int) (w W : World) : Prop where
  bx : Bx W w.heap.size [.slice A ts.length c]
  tm : TmsIn W 0 w.heap.size A ts
  ti : IntsIn W 0 w.heap.size A2 hv
  bel : Below w.heap.size w W
  sz : w.heap.size + 1 ≤ W.heap.size

section
variable {A : Option Addr} {ts : List Tm} {c : Nat} {A2 : Option Addr} {hv : List Int} {w W W' : World} {B : Nat}
theorem Mx.below (h : Mx A ts c A2 hv w W) (hb : Below B W W') (hB : w.heap.size + 1 ≤ B) : Mx A ts c A2 hv w W' :=
  ⟨h.bx.below hb (by omega), h.tm.keep fun p _ hp => hb.cell (by omega), h.ti.keep fun p _ hp => hb.cell (by omega), h.bel.trans (hb.mono (by omega)), by have := hb.size; have := h.sz; omega⟩
theorem Mx.tms (h : Mx A ts c A2 hv w W) : TmsIn W 0 W.heap.size A ts := h.tm.mono (by have := h.sz; omega)
theorem Mx.tis (h : Mx A ts c A2 hv w W) : IntsIn W 0 W.heap.size A2 hv := h.ti.mono (by have := h.sz; omega)
theorem Mx.start (hA : TmsIn w 0 w.heap.size A ts) (hA2 : IntsIn w 0 w.heap.size A2 hv) (t : TypeId) : Mx A ts c A2 hv w (w.alloc (.cells #[.slice A ts.length c] t)) :=
  have hb : Below w.heap.size w (w.alloc (.cells #[.slice A ts.length c] t)) := (Below.refl _ _).alloc (Nat.le_refl _) _
  ⟨Bx.new' _ _ _ _ rfl, hA.keep fun p _ hp => hb.cell hp, hA2.keep fun p _ hp => hb.cell hp, hb, by simp⟩
end

theorem openedV_length (ts : List Tm) (hv : List Int) : (openedV ts hv).length ≤ ts.length := by
  unfold openedV
  split
  · exact pick_length _ _
  · simp
theorem leaksV_length (ts : List Tm) (hv : List Int) : (leaksV ts hv).length ≤ ts.length := Nat.le_trans (List.length_filter_le _ _) (allV_length ts hv)
theorem missV_length (ts : List Tm) (hv : List Int) (id : Int) : (missV ts hv id).length ≤ ts.length := by
  unfold missV
  split
  · exact Nat.le_trans (List.length_filter_le _ _) (subsV_length ts id)
  · simp
theorem gainsV_length (ts : List Tm) (hv : List Int) (id : Int) : (gainsV ts hv id).length ≤ ts.length := by
  unfold gainsV
  split
  · exact Nat.le_trans (List.length_filter_le _ _) (allV_length ts _)
  · simp

end Go.Proofs.Ytjplmmbncjahiaa
