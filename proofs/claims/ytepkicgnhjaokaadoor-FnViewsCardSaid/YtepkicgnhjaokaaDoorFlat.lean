/-
  For laws over lists of numbers and of bytes: the law's copies, in one form.
-/
import Derived.Test.YtepkicgnhjaokaaDoorInt
import Derived.Test.YtepkicgnhjaokaaDoorFresh2
import Derived.Test.YtepkicgnhjaokaaDoorMark2
import Derived.Test.YtepkicgnhjaokaaDoorEq
namespace Go.Proofs.YtepkicgnhjaokaaDoor
open Go.RowKit Go.Maps

theorem toByteS_nf (A : Option Addr) (l : List UInt8) (c : Nat) (w : World) (hA : BytesIn w 0 w.heap.size A l) (hn : l.length ≤ 1048576) :
    Calls Tryd.prog 110 #[.slice A l.length c] w fun e w' => ∃ g, e = .returned (.slice (some ⟨g, 0, none⟩) l.length l.length) ∧ w.heap.size ≤ g ∧ g < w'.heap.size ∧ BytesFr w' w.heap.size w'.heap.size (some ⟨g, 0, none⟩) l ∧ Below w.heap.size w w' :=
  (toByteS_fr A l c w hA hn).mono fun _ _ ⟨he, hby, hlt, hf, hb⟩ => ⟨_, he, Nat.le_refl _, hlt, fun hl => by
    obtain ⟨b, o, e, hL, hb', hc⟩ := hby hl
    exact ⟨b, o, e, hL, by omega, fun j hj => ⟨hc j hj, hf _ hL⟩⟩, hb⟩

theorem eqByteS_fr (A A' : Option Addr) (l : List UInt8) (c c' L L' B B' : Nat) (w : World) (hA : BytesFr w L B A l) (hA' : BytesFr w L' B' A' l) (hn : l.length ≤ 1048576) :
    Calls Tryd.prog 94 #[.slice A l.length c, .slice A' l.length c'] w fun e w' => e = .returned (.bool true) ∧ Below w.heap.size w w' :=
  eqByteS_same A A' l c c' L L' B B' w hA.bytes hA'.bytes hn

end Go.Proofs.YtepkicgnhjaokaaDoor
