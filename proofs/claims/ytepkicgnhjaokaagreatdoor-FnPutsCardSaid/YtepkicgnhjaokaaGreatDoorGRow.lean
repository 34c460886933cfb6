/-
  Several texts in one: Args2, ArgsZ, Laid, Tre.
-/
import Derived.Test.YtepkicgnhjaokaaGreatDoorArgs
import Derived.Test.YtepkicgnhjaokaaGreatDoorInt
import Derived.SizedLaws
import Derived.Test.YtepkicgnhjaokaaGreatDoorRows
import Derived.LaidMore
import Derived.OpenShut
import Derived.Stop.Joined
import Derived.Lib.LaidTab
import Derived.Lib.AppendIntMem
import Derived.Lib.SlBytesConst
import Derived.Test.YtepkicgnhjaokaaGreatDoorGMgC
import Derived.Test.YtepkicgnhjaokaaGreatDoorGVwA
import Derived.Test.YtepkicgnhjaokaaGreatDoorTrNew
import Derived.Test.YtepkicgnhjaokaaGreatDoorTreeOkI
namespace Go.Proofs.YtepkicgnhjaokaaGreatDoor
open Go.ChangeShapes Go.WideShapes Go.ChangeAt Go.RowKit Go.Deep

section
variable {H : Type} {enc : TypeId × Value → H} {W : World} {base : Nat} {sp : Nat → Bool} {held : Bool}

set_option maxRecDepth 100000 in
/-- A list of numbers. -/
theorem open_nums {v : Value} {d : DataW H} {p : List MemPlace} (hv : Value.okWide Tryz.prog W .any base 23 v) (h : DataW.Trod enc Tryz.prog W 0 sp held 23 v d p) :
    ∃ (A : Option Addr) (l : List Int) (c : Nat), v = .slice A l.length c ∧ l.length ≤ 9223372036854775807 ∧ IntsIn W 0 W.heap.size A l := by
  obtain ⟨A, n, c, rfl⟩ := okWide_slice Tryz.underlying23 hv
  obtain ⟨fuel, hf⟩ := h
  rcases open_ints Tryz.underlying23 Tryz.underlying3 Tryz.cellsInt hf with ⟨hcs, _⟩ | ⟨a, len, cap, zs, hcs, _, hl, hm, hz, _, hcell, _⟩
  · simp [Value.cells] at hcs
    obtain ⟨rfl, rfl, rfl⟩ := hcs
    exact ⟨none, [], 0, rfl, by simp, fun h => absurd h (by simp)⟩
  · simp [Value.cells] at hcs
    obtain ⟨rfl, rfl, rfl⟩ := hcs
    have hlz : n ≤ zs.length := by rw [hz]; split <;> omega
    have hlen : (zs.take n).length = n := by simp; omega
    refine ⟨some a, zs.take n, c, by rw [hlen], by rw [hlen]; unfold maxLen at hm; omega, fun hpos => ?_⟩
    rw [hlen] at hpos
    have h0 := hcell 0 (by omega)
    obtain ⟨b, off, spot⟩ := a
    have hspot : spot = none := by simpa [Addr.add] using World.cell?_spot h0
    subst hspot
    have hblk := World.block_lt_of_cell? W _ h0
    refine ⟨b, off, rfl, Nat.zero_le _, by simpa [Addr.add] using hblk, fun j hj => ?_⟩
    rw [hlen] at hj
    have hc := hcell j (by omega)
    rw [Addr.add_lit] at hc
    rw [hc]
    have hj' : j < zs.length := by omega
    simp [List.getD_eq_getElem?_getD, List.getElem?_eq_getElem hj']

set_option maxRecDepth 100000 in
/-- A list of bytes. -/
theorem open_byteS {v : Value} {d : DataW H} {p : List MemPlace} (hv : Value.okWide Tryz.prog W .any base 22 v) (h : DataW.Trod enc Tryz.prog W 0 sp held 22 v d p) :
    ∃ (A : Option Addr) (l : List UInt8) (c : Nat), v = .slice A l.length c ∧ l.length ≤ 9223372036854775807 ∧ BytesIn W 0 W.heap.size A l := by
  obtain ⟨A0, n0, c0, rfl⟩ := okWide_slice Tryz.underlying22 hv
  obtain ⟨fuel, hf⟩ := h
  obtain ⟨A, c, l, e, hl, hm, hb⟩ := open_bytes hf
  simp [Value.cells] at e
  obtain ⟨rfl, rfl, rfl⟩ := e
  exact ⟨A0, l, c0, rfl, by unfold maxLen at hm; omega, hb⟩
end

end Go.Proofs.YtepkicgnhjaokaaGreatDoor

namespace Go.Proofs.YtepkicgnhjaokaaGreatDoor
open Go.ChangeShapes Go.WideShapes Go.ChangeAt Go.RowKit

theorem Tryz.bytesU8 : Tryz.prog.bytesOf 5 = 1 := by kernel_rfl

section
variable {H : Type} {enc : TypeId × Value → H} {W : World} {base : Nat} {sp : Nat → Bool} {held : Bool}
set_option maxRecDepth 100000 in
theorem open_byteZ {v : Value} {d : DataW H} {p : List MemPlace} {ts : List TypeId} {ds : List (DataW H)} (hv : Value.okWide Tryz.prog W .any base 22 v) (h : DataW.Trod enc Tryz.prog W 0 sp held 22 v d p)
    (hsz : (DataW.weightsEach Tryz.prog (22 :: ts) (d :: ds)).all (· ≤ reachBytes) = true) :
    ∃ (A : Option Addr) (l : List UInt8) (c : Nat), v = .slice A l.length c ∧ l.length ≤ 140737488351232 ∧ BytesIn W 0 W.heap.size A l := by
  obtain ⟨A, l, c, rfl, _, hb⟩ := open_byteS hv h
  refine ⟨A, l, c, rfl, ?_, hb⟩
  obtain ⟨fuel, hf⟩ := h
  rcases open_ints Tryz.underlying22 Tryz.underlying5 Tryz.cellsB hf with ⟨hcs, _⟩ | ⟨a, len, cap, zs, hcs, _, hl, hm, hz, hx, _, _⟩
  · simp [Value.cells] at hcs
    rw [hcs.2.1]
    simp
  · simp [Value.cells] at hcs
    have hd : d = .slice (lits .u8 (zs.take len)) (lits .u8 (zs.drop len)) := congrArg Prod.fst hx
    have hs := sized_slice hsz (j := 0) rfl (congrArg some hd) Tryz.underlying22
    rw [Tryz.bytesU8] at hs
    have hlz : len ≤ zs.length := by rw [hz]; split <;> omega
    have h1 : (lits (H := H) .u8 (zs.take len)).length = len := by simp [lits]; omega
    rw [h1] at hs
    rw [hcs.2.1]
    unfold reachBytes at hs
    omega
end

end Go.Proofs.YtepkicgnhjaokaaGreatDoor

namespace Go.Proofs.YtepkicgnhjaokaaGreatDoor
open Go.ChangeShapes Go.WideShapes Go.ChangeAt Go.RowKit

/-- The three tables. -/
def laid3 : List (String × DataW Unit) := [("math/bits.deBruijn32tab", Rows.laid_math_bits_deBruijn32tab), ("math/bits.deBruijn64tab", Rows.laid_math_bits_deBruijn64tab), ("internal/strconv.uint64pow10", Rows.laid_internal_strconv_uint64pow10)]

theorem pow10_data : (Rows.laid_internal_strconv_uint64pow10 : DataW Unit) = Lib.tabData .u64 Lib.pow10Tab := by rfl

theorem door_met (os : Os) (args : Array Value) : laidMetH Tryz.prog laid3 ((World.doorLaid Tryz.prog 24 os).forCall (fun _ _ => 0) ⟨#[], args, []⟩).memory :=
  laidMetH_of_parts3 (fuel := 8) (laidMet_of_run' 8 (by kernel_rfl) (by kernel_rfl)) (by kernel_rfl) (by kernel_rfl)

theorem pow10_of_laid {W : World} (h : laidMetH Tryz.prog laid3 W) : Lib.TabIs Tryz.prog W "internal/strconv.uint64pow10" .u64 Lib.pow10Tab := by
  rw [MakeChecks.laidMetH_plain _ _ _ (by kernel_rfl)] at h
  obtain ⟨ps, ⟨g0, t0, cs0, f0, p0, q0, hg0, ht0, hv0, hd0, ⟨g1, t1, cs1, f1, p1, q1, hg1, ht1, hv1, hd1, ⟨g2, t2, cs2, f2, p2, q2, hg2, ht2, hv2, hd2, _, _⟩, _⟩, _⟩, _⟩ := h
  have hg : Tryz.prog.globalNamed "internal/strconv.uint64pow10" = some 1 := by kernel_rfl
  have hty : (Tryz.prog.globals[1]?).map (·.type) = some 158 := by kernel_rfl
  obtain rfl := Option.some.inj (hg.symm.trans hg2)
  obtain rfl := Option.some.inj (hty.symm.trans ht2)
  rw [pow10_data] at hd2
  unfold Lib.TabIs
  rw [hv2, ← Lib.cells_of_tab (e := 129) (n := 20) (by kernel_rfl) (by kernel_rfl) (by kernel_rfl) (by kernel_rfl) hd2]

end Go.Proofs.YtepkicgnhjaokaaGreatDoor

namespace Go.Proofs.YtepkicgnhjaokaaGreatDoor
open Go.RowKit Go.Maps

def trA : List En := [⟨[120], 1, 0, 1⟩]
def trB : List En := [⟨[120], 2, 1, 1⟩]
def trM : List En := [⟨[120], 1, 0, 1⟩, ⟨[120], 2, 1, 1⟩]
theorem cell_row1 (w : World) (v : Value) (t : TypeId) : (w.alloc (.cells #[v] t (1, 2))).cell? ⟨w.heap.size, 0, none⟩ = some v := by
  unfold World.cell? World.alloc
  simp
theorem tr_a : puVec newVec newEns 0 [120] 1 = [1, 0, 0, 0] ∧ puEs newVec newEns 0 [120] 1 = trA ∧ puOk newVec newEns 0 [120] 1 = true := ⟨by kernel_rfl, by kernel_rfl, by kernel_rfl⟩
theorem tr_b : puVec newVec newEns 1 [120] 2 = [0, 1, 0, 0] ∧ puEs newVec newEns 1 [120] 2 = trB ∧ puOk newVec newEns 1 [120] 2 = true := ⟨by kernel_rfl, by kernel_rfl, by kernel_rfl⟩
theorem tr_m : mgVec [1, 0, 0, 0] trA [0, 1, 0, 0] trB = [1, 1, 0, 0] ∧ mgEs [1, 0, 0, 0] trA [0, 1, 0, 0] trB = trM ∧ mgOk [1, 0, 0, 0] trA [0, 1, 0, 0] trB = true := ⟨by kernel_rfl, by kernel_rfl, by kernel_rfl⟩
theorem tr_v : (vwL [1, 1, 0, 0] trM).length = 2 := by kernel_rfl
theorem tr_t : treeB [1, 1, 0, 0] trM = true := by kernel_rfl

set_option maxRecDepth 100000 in
set_option maxHeartbeats 4000000 in
theorem trees_any (w : World) (htab : Lib.TabIs Tryz.prog w "internal/strconv.uint64pow10" .u64 Lib.pow10Tab) :
    Calls Tryz.prog 10 #[] w fun e w' => e = .returned (.bool true) ∧ Below w.heap.size w w' := by
  have HTab := Lib.hid (Lib.tabBelow_of_tabIs htab)
  clear htab
  have kc := fun (w : World) (C : Array Value) (n c : Nat) => Lib.run_convert_bytes_const (P := Tryz.prog) w 22 5 C n c Tryz.underlying22 Tryz.underlying5
  go_enter Tryz.func10, Tryz.ntmps10
  go_wp2_with fail
  have HB_w := Lib.hid (Below.refl w.heap.size w)
  refine (implTreeNew_any w).mono ?_
  rintro r w11 ⟨AV11, cv11, A11, c11, rfl, ho, hl, hb⟩
  have HO11 := Lib.hid ho
  have HB_w11 := Lib.hid (show Below w.heap.size w w11 from HB_w.out.trans (hb.mono (by have := HB_w.out.size; omega)))
  have hz11 := hb.size
  clear ho hl hb
  go_wp2_with fail
  obtain ⟨W12, hW⟩ : ∃ X, X = w11.alloc (.cells #[.int .u8 120] 5 (1, 2)) := ⟨_, rfl⟩
  have hb : Below w11.heap.size w11 W12 := by rw [hW]; exact (Below.refl _ _).alloc (Nat.le_refl _) _
  have hz12 : w11.heap.size < W12.heap.size := by rw [hW]; simp
  have HN := Lib.hid (show BytesIn W12 0 W12.heap.size (some ⟨w11.heap.size, 0, none⟩) [120] from fun _ => ⟨w11.heap.size, 0, rfl, Nat.zero_le _, hz12, fun j hj => by
    have : j = 0 := by simp at hj; omega
    subst this
    rw [hW]
    exact cell_row1 _ _ _⟩)
  have HB_W12 := Lib.hid (show Below w.heap.size w W12 from HB_w11.out.trans (hb.mono (by have := HB_w11.out.size; omega)))
  have HO12 := Lib.hid (HO11.out.keep fun p _ hp => ⟨hb.cell hp, hb.frozen hp⟩)
  rw [← hW]
  clear hW hb
  have hp := implPut_any AV11 newVec cv11 A11 newEns c11 0 (some ⟨w11.heap.size, 0, none⟩) [120] 1 1 W12 ((HO12.out.vecIn.ints.low (Nat.zero_le _)).mono (by omega)) ((HO12.out.ensIn.ens.low (Nat.zero_le _)).mono (by omega)) newVec_length newEns_length newEns_bulk HN.out (by simp)
  unfold NewTrB at hp
  rw [tr_a.1, tr_a.2.1, tr_a.2.2] at hp
  refine hp.mono ?_
  clear hp
  rintro r w13 ⟨AV13, cv13, A13, c13, rfl, ho, hl, hb⟩
  have hz13 := hb.size
  have HB_w13 := Lib.hid (show Below w.heap.size w w13 from HB_W12.out.trans (hb.mono (by have := HB_W12.out.size; omega)))
  obtain ⟨W14, hW⟩ : ∃ X, X = w13.alloc (.cells #[.slice AV13 4 cv13, .slice A13 trA.length c13] 26) := ⟨_, rfl⟩
  have hb4 : Below w13.heap.size w13 W14 := by rw [hW]; exact (Below.refl _ _).alloc (Nat.le_refl _) _
  have hz14 : w13.heap.size < W14.heap.size := by rw [hW]; simp
  have HTa_W14 := Lib.hid (show TrOwn W14 W12.heap.size w13.heap.size AV13 [1, 0, 0, 0] A13 trA from ho.keep fun p _ hp => ⟨hb4.cell hp, hb4.frozen hp⟩)
  have HXa_W14 := Lib.hid (show Bx W14 w13.heap.size [.slice AV13 4 cv13, .slice A13 trA.length c13] by rw [hW]; exact Bx.new' _ _ _ _ rfl)
  have HB_W14 := Lib.hid (show Below w.heap.size w W14 from HB_w13.out.trans (hb4.mono (by have := HB_w13.out.size; omega)))
  clear ho hl hb hb4
  go_upto_region 2 with fail
  rw [← hW]
  clear hW
  go_wp2_with fail
  refine (implTreeNew_any W14).mono ?_
  rintro r w21 ⟨AV21, cv21, A21, c21, rfl, ho, hl, hb⟩
  have HO21 := Lib.hid ho
  have HB_w21 := Lib.hid (show Below w.heap.size w w21 from HB_W14.out.trans (hb.mono (by have := HB_W14.out.size; omega)))
  have hz21 := hb.size
  have HXa_w21 := Lib.hid (HXa_W14.out.below hb (by omega))
  have HTa_w21 := Lib.hid (HTa_W14.out.keep fun p _ hp => ⟨hb.cell (by omega), hb.frozen (by omega)⟩)
  clear ho hl hb
  go_wp2_with fail
  obtain ⟨W22, hW⟩ : ∃ X, X = w21.alloc (.cells #[.int .u8 120] 5 (1, 2)) := ⟨_, rfl⟩
  have hb : Below w21.heap.size w21 W22 := by rw [hW]; exact (Below.refl _ _).alloc (Nat.le_refl _) _
  have hz22 : w21.heap.size < W22.heap.size := by rw [hW]; simp
  have HN := Lib.hid (show BytesIn W22 0 W22.heap.size (some ⟨w21.heap.size, 0, none⟩) [120] from fun _ => ⟨w21.heap.size, 0, rfl, Nat.zero_le _, hz22, fun j hj => by
    have : j = 0 := by simp at hj; omega
    subst this
    rw [hW]
    exact cell_row1 _ _ _⟩)
  have HB_W22 := Lib.hid (show Below w.heap.size w W22 from HB_w21.out.trans (hb.mono (by have := HB_w21.out.size; omega)))
  have HO22 := Lib.hid (HO21.out.keep fun p _ hp => ⟨hb.cell hp, hb.frozen hp⟩)
  have HXa_W22 := Lib.hid (HXa_w21.out.below hb (by omega))
  have HTa_W22 := Lib.hid (HTa_w21.out.keep fun p _ hp => ⟨hb.cell (by omega), hb.frozen (by omega)⟩)
  rw [← hW]
  clear hW hb
  have hp := implPut_any AV21 newVec cv21 A21 newEns c21 1 (some ⟨w21.heap.size, 0, none⟩) [120] 1 2 W22 ((HO22.out.vecIn.ints.low (Nat.zero_le _)).mono (by omega)) ((HO22.out.ensIn.ens.low (Nat.zero_le _)).mono (by omega)) newVec_length newEns_length newEns_bulk HN.out (by simp)
  unfold NewTrB at hp
  rw [tr_b.1, tr_b.2.1, tr_b.2.2] at hp
  refine hp.mono ?_
  clear hp
  rintro r w23 ⟨AV23, cv23, A23, c23, rfl, ho, hl, hb⟩
  have hz23 := hb.size
  have HB_w23 := Lib.hid (show Below w.heap.size w w23 from HB_W22.out.trans (hb.mono (by have := HB_W22.out.size; omega)))
  have HXa_w23 := Lib.hid (HXa_W22.out.below hb (by omega))
  have HTa_w23 := Lib.hid (HTa_W22.out.keep fun p _ hp => ⟨hb.cell (by omega), hb.frozen (by omega)⟩)
  obtain ⟨W24, hW⟩ : ∃ X, X = w23.alloc (.cells #[.slice AV23 4 cv23, .slice A23 trB.length c23] 26) := ⟨_, rfl⟩
  have hb4 : Below w23.heap.size w23 W24 := by rw [hW]; exact (Below.refl _ _).alloc (Nat.le_refl _) _
  have hz24 : w23.heap.size < W24.heap.size := by rw [hW]; simp
  have HTb_W24 := Lib.hid (show TrOwn W24 W22.heap.size w23.heap.size AV23 [0, 1, 0, 0] A23 trB from ho.keep fun p _ hp => ⟨hb4.cell hp, hb4.frozen hp⟩)
  have HXb_W24 := Lib.hid (show Bx W24 w23.heap.size [.slice AV23 4 cv23, .slice A23 trB.length c23] by rw [hW]; exact Bx.new' _ _ _ _ rfl)
  have HB_W24 := Lib.hid (show Below w.heap.size w W24 from HB_w23.out.trans (hb4.mono (by have := HB_w23.out.size; omega)))
  have HXa_W24 := Lib.hid (HXa_w23.out.below hb4 (by omega))
  have HTa_W24 := Lib.hid (HTa_w23.out.keep fun p _ hp => ⟨hb4.cell (by omega), hb4.frozen (by omega)⟩)
  clear ho hl hb hb4
  go_upto_region 3 with fail
  rw [← hW]
  clear hW
  have x0 := HXa_W24.out 0 (by simp)
  have x1 := HXa_W24.out 1 (by simp)
  have y0 := HXb_W24.out 0 (by simp)
  have y1 := HXb_W24.out 1 (by simp)
  simp only [List.getElem_cons_succ, List.getElem_cons_zero] at x0 x1 y0 y1
  have lx : w13.heap.size < W24.heap.size := by omega
  go_wp2_with fail
  have hp := implMerge_any AV13 [1, 0, 0, 0] cv13 A13 trA c13 AV23 [0, 1, 0, 0] cv23 A23 trB c23 W24 ((HTa_W24.out.vecIn.ints.low (Nat.zero_le _)).mono (by omega)) ((HTa_W24.out.ensIn.ens.low (Nat.zero_le _)).mono (by omega)) (by decide) (by decide) (by decide) ((HTb_W24.out.vecIn.ints.low (Nat.zero_le _)).mono (by omega)) ((HTb_W24.out.ensIn.ens.low (Nat.zero_le _)).mono (by omega)) (by decide) (by decide) (by decide)
  unfold NewTrB at hp
  rw [tr_m.1, tr_m.2.1, tr_m.2.2] at hp
  refine hp.mono ?_
  clear hp x0 x1 y0 y1
  rintro r w5 ⟨AV5, cv5, A5, c5, rfl, ho, hl, hb⟩
  have hz5 := hb.size
  have HB_w5 := Lib.hid (show Below w.heap.size w w5 from HB_W24.out.trans (hb.mono (by have := HB_W24.out.size; omega)))
  obtain ⟨W6, hW⟩ : ∃ X, X = w5.alloc (.cells #[.slice AV5 4 cv5, .slice A5 2 c5] 26) := ⟨_, rfl⟩
  have hb6 : Below w5.heap.size w5 W6 := by rw [hW]; exact (Below.refl _ _).alloc (Nat.le_refl _) _
  have hz6 : w5.heap.size < W6.heap.size := by rw [hW]; simp
  have HT6 := Lib.hid (show TrOwn W6 W24.heap.size w5.heap.size AV5 [1, 1, 0, 0] A5 trM from ho.keep fun p _ hp => ⟨hb6.cell hp, hb6.frozen hp⟩)
  have HX6 := Lib.hid (show Bx W6 w5.heap.size [.slice AV5 4 cv5, .slice A5 2 c5] by rw [hW]; exact Bx.new' _ _ _ _ rfl)
  have HB6 := Lib.hid (show Below w.heap.size w W6 from HB_w5.out.trans (hb6.mono (by have := HB_w5.out.size; omega)))
  have hl2 : trM.length = 2 := rfl
  rw [hl2]
  clear ho hl hb hb6 hl2
  go_upto_region 4 with fail
  rw [← hW]
  clear hW
  have x0 := HX6.out 0 (by simp)
  have x1 := HX6.out 1 (by simp)
  simp only [List.getElem_cons_succ, List.getElem_cons_zero] at x0 x1
  go_wp2_with fail
  have hp := implView_any AV5 [1, 1, 0, 0] cv5 A5 trM c5 W6 ((HT6.out.vecIn.ints.low (Nat.zero_le _)).mono (by omega)) ((HT6.out.ensIn.ens.low (Nat.zero_le _)).mono (by omega)) (by decide) (by decide) (by decide) (HTab.out _ HB6.out)
  unfold NewFs at hp
  rw [tr_v] at hp
  refine hp.mono ?_
  clear hp
  rintro r w7 ⟨A7, c7, rfl, _, hb⟩
  have hz7 := hb.size
  have HB7 := Lib.hid (show Below w.heap.size w w7 from HB6.out.trans (hb.mono (by have := HB6.out.size; omega)))
  have HT7 := Lib.hid (HT6.out.keep fun p _ hp => ⟨hb.cell (by omega), hb.frozen (by omega)⟩)
  have HX7 := Lib.hid (HX6.out.below hb hz6)
  clear hb x0 x1
  have x0 := HX7.out 0 (by simp)
  have x1 := HX7.out 1 (by simp)
  simp only [List.getElem_cons_succ, List.getElem_cons_zero] at x0 x1
  go_wp2_with fail
  have hp := implTreeOk_any AV5 [1, 1, 0, 0] cv5 A5 trM c5 w7 ((HT7.out.vecIn.ints.low (Nat.zero_le _)).mono (by omega)) ((HT7.out.ensIn.ens.low (Nat.zero_le _)).mono (by omega)) (by decide) (by decide) (by decide)
  rw [tr_t] at hp
  refine hp.mono ?_
  clear hp x0 x1
  rintro r w8 ⟨rfl, hb⟩
  have HB8 := Lib.hid (show Below w.heap.size w w8 from HB7.out.trans (hb.mono (by have := HB7.out.size; omega)))
  clear hb
  go_wp2_with fail
  go_ret
  exact ⟨rfl, HB8.out⟩

end Go.Proofs.YtepkicgnhjaokaaGreatDoor
