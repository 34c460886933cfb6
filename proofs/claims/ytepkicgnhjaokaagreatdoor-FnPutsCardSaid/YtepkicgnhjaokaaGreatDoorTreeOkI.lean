/-
  The program's TreeOk.
-/
import Derived.Test.YtepkicgnhjaokaaGreatDoorRdTr
namespace Go.Proofs.YtepkicgnhjaokaaGreatDoor
open Go.RowKit Go.Maps

set_option maxRecDepth 100000 in
set_option maxHeartbeats 2000000 in
theorem implTreeOk_any (AV : Option Addr) (vec : List Int) (cv : Nat) (A : Option Addr) (es : List En) (c : Nat) (w : World) (hV : IntsIn w 0 w.heap.size AV vec) (hA : EnsIn w 0 w.heap.size A es) (_hv : vec.length ≤ 1048576) (hn : es.length ≤ 1048576) (hbk : ebulk es ≤ 1048576) :
    Calls Tryz.prog 13 #[.agg #[.slice AV vec.length cv, .slice A es.length c]] w fun e w' => e = .returned (.bool (treeB vec es)) ∧ Below w.heap.size w w' := by
  have HV := Lib.hid hV
  have HA := Lib.hid hA
  clear hV hA
  go_enter Tryz.func13, Tryz.ntmps13
  go_wp2_with fail
  obtain ⟨W, hW⟩ : ∃ W, W = w.alloc (.cells #[.slice AV vec.length cv, .slice A es.length c] 26) := ⟨_, rfl⟩
  have HBel := Lib.hid (show Below w.heap.size w W by rw [hW]; exact (Below.refl _ _).alloc (Nat.le_refl _) _)
  have hzW : w.heap.size < W.heap.size := by rw [hW]; simp
  rw [← hW]
  clear hW
  refine (readTree_any AV vec cv A es c W ((HV.out.keep fun p _ hp => HBel.out.cell hp).mono (by omega)) ((HA.out.below HBel.out).mono (by omega)) hn hbk).mono ?_
  rintro e w1 ⟨x0, x1, x2, x3, A', n, c', rfl, _, hb1⟩
  have HB1 := Lib.hid (HBel.out.trans (hb1.mono (by omega)))
  have hz1 := hb1.size
  clear hb1
  obtain ⟨tb, htb⟩ : ∃ tb, tb = treeB vec es := ⟨_, rfl⟩
  rw [← htb]
  have HTb := Lib.hid htb
  clear htb
  go_wp2_with fail
  go_ret
  exact ⟨ret_bool (a := tb) HTb.out, HB1.out.alloc (by omega) _⟩

end Go.Proofs.YtepkicgnhjaokaaGreatDoor
