/-
  Several texts in one: Args2, ArgsZ, Laid, Tre, Vf, RowFnVecs.
-/
import Derived.Test.YtepkicgnhjaokaaDoorArgs
import Derived.Test.YtepkicgnhjaokaaDoorInt
import Derived.SizedLaws
import Derived.Test.YtepkicgnhjaokaaDoorRows
import Derived.LaidMore
import Derived.OpenShut
import Derived.Stop.Joined
import Derived.Lib.LaidTab
import Derived.Lib.AppendIntMem
import Derived.Lib.SlBytesConst
import Derived.Test.YtepkicgnhjaokaaDoorPutI
import Derived.Test.YtepkicgnhjaokaaDoorGMgC
import Derived.Test.YtepkicgnhjaokaaDoorGVwA
import Derived.Test.YtepkicgnhjaokaaDoorTrNew
import Derived.Test.YtepkicgnhjaokaaDoorTreeOkI
import Derived.Test.YtepkicgnhjaokaaDoorGVd
import Derived.Test.YtepkicgnhjaokaaDoorGVec
namespace Go.Proofs.YtepkicgnhjaokaaDoor
open Go.ChangeShapes Go.WideShapes Go.ChangeAt Go.RowKit Go.Deep

section
variable {H : Type} {enc : TypeId × Value → H} {W : World} {base : Nat} {sp : Nat → Bool} {held : Bool}

set_option maxRecDepth 100000 in
/-- A list of numbers. -/
theorem open_nums {v : Value} {d : DataW H} {p : List MemPlace} (hv : Value.okWide Tryd.prog W .any base 23 v) (h : DataW.Trod enc Tryd.prog W 0 sp held 23 v d p) :
    ∃ (A : Option Addr) (l : List Int) (c : Nat), v = .slice A l.length c ∧ l.length ≤ 9223372036854775807 ∧ IntsIn W 0 W.heap.size A l := by
  obtain ⟨A, n, c, rfl⟩ := okWide_slice Tryd.underlying23 hv
  obtain ⟨fuel, hf⟩ := h
  rcases open_ints Tryd.underlying23 Tryd.underlying3 Tryd.cellsInt hf with ⟨hcs, _⟩ | ⟨a, len, cap, zs, hcs, _, hl, hm, hz, _, hcell, _⟩
  · simp [Value.cells] at hcs
    obtain ⟨rfl, rfl, rfl⟩ := hcs
    exact ⟨none, [], 0, rfl, by simp, fun h => absurd h (by simp)⟩
  · simp [Value.cells] at hcs
    obtain ⟨rfl, rfl, rfl⟩ := hcs
    have hlz : n ≤ zs.length := by rw [hz]; split <;> omega
    have hlen : (zs.take n).length = n := by simp; omega
    refine ⟨some a, zs.take n, c, by rw [hlen], by rw [hlen]; unfold maxLen at hm; omega, fun hpos => ?_⟩
    rw [hlen] at hpos
    have h0 := hcell 0 (by omega)
    obtain ⟨b, off, spot⟩ := a
    have hspot : spot = none := by simpa [Addr.add] using World.cell?_spot h0
    subst hspot
    have hblk := World.block_lt_of_cell? W _ h0
    refine ⟨b, off, rfl, Nat.zero_le _, by simpa [Addr.add] using hblk, fun j hj => ?_⟩
    rw [hlen] at hj
    have hc := hcell j (by omega)
    rw [Addr.add_lit] at hc
    rw [hc]
    have hj' : j < zs.length := by omega
    simp [List.getD_eq_getElem?_getD, List.getElem?_eq_getElem hj']

set_option maxRecDepth 100000 in
/-- A list of bytes. -/
theorem open_byteS {v : Value} {d : DataW H} {p : List MemPlace} (hv : Value.okWide Tryd.prog W .any base 22 v) (h : DataW.Trod enc Tryd.prog W 0 sp held 22 v d p) :
    ∃ (A : Option Addr) (l : List UInt8) (c : Nat), v = .slice A l.length c ∧ l.length ≤ 9223372036854775807 ∧ BytesIn W 0 W.heap.size A l := by
  obtain ⟨A0, n0, c0, rfl⟩ := okWide_slice Tryd.underlying22 hv
  obtain ⟨fuel, hf⟩ := h
  obtain ⟨A, c, l, e, hl, hm, hb⟩ := open_bytes hf
  simp [Value.cells] at e
  obtain ⟨rfl, rfl, rfl⟩ := e
  exact ⟨A0, l, c0, rfl, by unfold maxLen at hm; omega, hb⟩
end

end Go.Proofs.YtepkicgnhjaokaaDoor

namespace Go.Proofs.YtepkicgnhjaokaaDoor
open Go.ChangeShapes Go.WideShapes Go.ChangeAt Go.RowKit

theorem Tryd.bytesU8 : Tryd.prog.bytesOf 5 = 1 := by kernel_rfl

section
variable {H : Type} {enc : TypeId × Value → H} {W : World} {base : Nat} {sp : Nat → Bool} {held : Bool}
set_option maxRecDepth 100000 in
theorem open_byteZ {v : Value} {d : DataW H} {p : List MemPlace} {ts : List TypeId} {ds : List (DataW H)} (hv : Value.okWide Tryd.prog W .any base 22 v) (h : DataW.Trod enc Tryd.prog W 0 sp held 22 v d p)
    (hsz : (DataW.weightsEach Tryd.prog (22 :: ts) (d :: ds)).all (· ≤ reachBytes) = true) :
    ∃ (A : Option Addr) (l : List UInt8) (c : Nat), v = .slice A l.length c ∧ l.length ≤ 140737488351232 ∧ BytesIn W 0 W.heap.size A l := by
  obtain ⟨A, l, c, rfl, _, hb⟩ := open_byteS hv h
  refine ⟨A, l, c, rfl, ?_, hb⟩
  obtain ⟨fuel, hf⟩ := h
  rcases open_ints Tryd.underlying22 Tryd.underlying5 Tryd.cellsB hf with ⟨hcs, _⟩ | ⟨a, len, cap, zs, hcs, _, hl, hm, hz, hx, _, _⟩
  · simp [Value.cells] at hcs
    rw [hcs.2.1]
    simp
  · simp [Value.cells] at hcs
    have hd : d = .slice (lits .u8 (zs.take len)) (lits .u8 (zs.drop len)) := congrArg Prod.fst hx
    have hs := sized_slice hsz (j := 0) rfl (congrArg some hd) Tryd.underlying22
    rw [Tryd.bytesU8] at hs
    have hlz : len ≤ zs.length := by rw [hz]; split <;> omega
    have h1 : (lits (H := H) .u8 (zs.take len)).length = len := by simp [lits]; omega
    rw [h1] at hs
    rw [hcs.2.1]
    unfold reachBytes at hs
    omega
end

end Go.Proofs.YtepkicgnhjaokaaDoor

namespace Go.Proofs.YtepkicgnhjaokaaDoor
open Go.ChangeShapes Go.WideShapes Go.ChangeAt Go.RowKit

/-- The three tables. -/
def laid3 : List (String × DataW Unit) := [("math/bits.deBruijn32tab", Rows.laid_math_bits_deBruijn32tab), ("math/bits.deBruijn64tab", Rows.laid_math_bits_deBruijn64tab), ("internal/strconv.uint64pow10", Rows.laid_internal_strconv_uint64pow10)]

theorem pow10_data : (Rows.laid_internal_strconv_uint64pow10 : DataW Unit) = Lib.tabData .u64 Lib.pow10Tab := by rfl

theorem door_met (os : Os) (args : Array Value) : laidMetH Tryd.prog laid3 ((World.doorLaid Tryd.prog 24 os).forCall (fun _ _ => 0) ⟨#[], args, []⟩).memory :=
  laidMetH_of_parts3 (fuel := 8) (laidMet_of_run' 8 (by kernel_rfl) (by kernel_rfl)) (by kernel_rfl) (by kernel_rfl)

theorem pow10_of_laid {W : World} (h : laidMetH Tryd.prog laid3 W) : Lib.TabIs Tryd.prog W "internal/strconv.uint64pow10" .u64 Lib.pow10Tab := by
  rw [MakeChecks.laidMetH_plain _ _ _ (by kernel_rfl)] at h
  obtain ⟨ps, ⟨g0, t0, cs0, f0, p0, q0, hg0, ht0, hv0, hd0, ⟨g1, t1, cs1, f1, p1, q1, hg1, ht1, hv1, hd1, ⟨g2, t2, cs2, f2, p2, q2, hg2, ht2, hv2, hd2, _, _⟩, _⟩, _⟩, _⟩ := h
  have hg : Tryd.prog.globalNamed "internal/strconv.uint64pow10" = some 1 := by kernel_rfl
  have hty : (Tryd.prog.globals[1]?).map (·.type) = some 170 := by kernel_rfl
  obtain rfl := Option.some.inj (hg.symm.trans hg2)
  obtain rfl := Option.some.inj (hty.symm.trans ht2)
  rw [pow10_data] at hd2
  unfold Lib.TabIs
  rw [hv2, ← Lib.cells_of_tab (e := 139) (n := 20) (by kernel_rfl) (by kernel_rfl) (by kernel_rfl) (by kernel_rfl) hd2]

end Go.Proofs.YtepkicgnhjaokaaDoor

namespace Go.Proofs.YtepkicgnhjaokaaDoor
open Go.RowKit Go.Maps

def trA : List En := [⟨[120], 1, 0, 1⟩]
def trB : List En := [⟨[120], 2, 1, 1⟩]
def trM : List En := [⟨[120], 1, 0, 1⟩, ⟨[120], 2, 1, 1⟩]
theorem cell_row1 (w : World) (v : Value) (t : TypeId) : (w.alloc (.cells #[v] t (1, 2))).cell? ⟨w.heap.size, 0, none⟩ = some v := by
  unfold World.cell? World.alloc
  simp
theorem tr_a : puVec newVec newEns 0 [120] 1 = [1, 0, 0, 0] ∧ puEs newVec newEns 0 [120] 1 = trA ∧ puOk newVec newEns 0 [120] 1 = true := ⟨by kernel_rfl, by kernel_rfl, by kernel_rfl⟩
theorem tr_b : puVec newVec newEns 1 [120] 2 = [0, 1, 0, 0] ∧ puEs newVec newEns 1 [120] 2 = trB ∧ puOk newVec newEns 1 [120] 2 = true := ⟨by kernel_rfl, by kernel_rfl, by kernel_rfl⟩
theorem tr_m : mgVec [1, 0, 0, 0] trA [0, 1, 0, 0] trB = [1, 1, 0, 0] ∧ mgEs [1, 0, 0, 0] trA [0, 1, 0, 0] trB = trM ∧ mgOk [1, 0, 0, 0] trA [0, 1, 0, 0] trB = true := ⟨by kernel_rfl, by kernel_rfl, by kernel_rfl⟩
theorem tr_v : (vwL [1, 1, 0, 0] trM).length = 2 := by kernel_rfl
theorem tr_t : treeB [1, 1, 0, 0] trM = true := by kernel_rfl

set_option maxRecDepth 100000 in
set_option maxHeartbeats 4000000 in
theorem trees_any (w : World) (htab : Lib.TabIs Tryd.prog w "internal/strconv.uint64pow10" .u64 Lib.pow10Tab) :
    Calls Tryd.prog 11 #[] w fun e w' => e = .returned (.bool true) ∧ Below w.heap.size w w' := by
  have HTab := Lib.hid (Lib.tabBelow_of_tabIs htab)
  clear htab
  have kc := fun (w : World) (C : Array Value) (n c : Nat) => Lib.run_convert_bytes_const (P := Tryd.prog) w 22 5 C n c Tryd.underlying22 Tryd.underlying5
  go_enter Tryd.func11, Tryd.ntmps11
  go_wp2_with fail
  have HB_w := Lib.hid (Below.refl w.heap.size w)
  refine (implTreeNew_any w).mono ?_
  rintro r w11 ⟨AV11, cv11, A11, c11, rfl, ho, hl, hb⟩
  have HO11 := Lib.hid ho
  have HB_w11 := Lib.hid (show Below w.heap.size w w11 from HB_w.out.trans (hb.mono (by have := HB_w.out.size; omega)))
  have hz11 := hb.size
  clear ho hl hb
  go_wp2_with fail
  obtain ⟨W12, hW⟩ : ∃ X, X = w11.alloc (.cells #[.int .u8 120] 5 (1, 2)) := ⟨_, rfl⟩
  have hb : Below w11.heap.size w11 W12 := by rw [hW]; exact (Below.refl _ _).alloc (Nat.le_refl _) _
  have hz12 : w11.heap.size < W12.heap.size := by rw [hW]; simp
  have HN := Lib.hid (show BytesIn W12 0 W12.heap.size (some ⟨w11.heap.size, 0, none⟩) [120] from fun _ => ⟨w11.heap.size, 0, rfl, Nat.zero_le _, hz12, fun j hj => by
    have : j = 0 := by simp at hj; omega
    subst this
    rw [hW]
    exact cell_row1 _ _ _⟩)
  have HB_W12 := Lib.hid (show Below w.heap.size w W12 from HB_w11.out.trans (hb.mono (by have := HB_w11.out.size; omega)))
  have HO12 := Lib.hid (HO11.out.keep fun p _ hp => ⟨hb.cell hp, hb.frozen hp⟩)
  rw [← hW]
  clear hW hb
  have hp := implPut_any AV11 newVec cv11 A11 newEns c11 0 (some ⟨w11.heap.size, 0, none⟩) [120] 1 1 W12 ((HO12.out.vecIn.ints.low (Nat.zero_le _)).mono (by omega)) ((HO12.out.ensIn.ens.low (Nat.zero_le _)).mono (by omega)) newVec_length newEns_length newEns_bulk HN.out (by simp)
  unfold NewTrB at hp
  rw [tr_a.1, tr_a.2.1, tr_a.2.2] at hp
  refine hp.mono ?_
  clear hp
  rintro r w13 ⟨AV13, cv13, A13, c13, rfl, ho, hl, hb⟩
  have hz13 := hb.size
  have HB_w13 := Lib.hid (show Below w.heap.size w w13 from HB_W12.out.trans (hb.mono (by have := HB_W12.out.size; omega)))
  obtain ⟨W14, hW⟩ : ∃ X, X = w13.alloc (.cells #[.slice AV13 4 cv13, .slice A13 trA.length c13] 34) := ⟨_, rfl⟩
  have hb4 : Below w13.heap.size w13 W14 := by rw [hW]; exact (Below.refl _ _).alloc (Nat.le_refl _) _
  have hz14 : w13.heap.size < W14.heap.size := by rw [hW]; simp
  have HTa_W14 := Lib.hid (show TrOwn W14 W12.heap.size w13.heap.size AV13 [1, 0, 0, 0] A13 trA from ho.keep fun p _ hp => ⟨hb4.cell hp, hb4.frozen hp⟩)
  have HXa_W14 := Lib.hid (show Bx W14 w13.heap.size [.slice AV13 4 cv13, .slice A13 trA.length c13] by rw [hW]; exact Bx.new' _ _ _ _ rfl)
  have HB_W14 := Lib.hid (show Below w.heap.size w W14 from HB_w13.out.trans (hb4.mono (by have := HB_w13.out.size; omega)))
  clear ho hl hb hb4
  go_upto_region 2 with fail
  rw [← hW]
  clear hW
  go_wp2_with fail
  refine (implTreeNew_any W14).mono ?_
  rintro r w21 ⟨AV21, cv21, A21, c21, rfl, ho, hl, hb⟩
  have HO21 := Lib.hid ho
  have HB_w21 := Lib.hid (show Below w.heap.size w w21 from HB_W14.out.trans (hb.mono (by have := HB_W14.out.size; omega)))
  have hz21 := hb.size
  have HXa_w21 := Lib.hid (HXa_W14.out.below hb (by omega))
  have HTa_w21 := Lib.hid (HTa_W14.out.keep fun p _ hp => ⟨hb.cell (by omega), hb.frozen (by omega)⟩)
  clear ho hl hb
  go_wp2_with fail
  obtain ⟨W22, hW⟩ : ∃ X, X = w21.alloc (.cells #[.int .u8 120] 5 (1, 2)) := ⟨_, rfl⟩
  have hb : Below w21.heap.size w21 W22 := by rw [hW]; exact (Below.refl _ _).alloc (Nat.le_refl _) _
  have hz22 : w21.heap.size < W22.heap.size := by rw [hW]; simp
  have HN := Lib.hid (show BytesIn W22 0 W22.heap.size (some ⟨w21.heap.size, 0, none⟩) [120] from fun _ => ⟨w21.heap.size, 0, rfl, Nat.zero_le _, hz22, fun j hj => by
    have : j = 0 := by simp at hj; omega
    subst this
    rw [hW]
    exact cell_row1 _ _ _⟩)
  have HB_W22 := Lib.hid (show Below w.heap.size w W22 from HB_w21.out.trans (hb.mono (by have := HB_w21.out.size; omega)))
  have HO22 := Lib.hid (HO21.out.keep fun p _ hp => ⟨hb.cell hp, hb.frozen hp⟩)
  have HXa_W22 := Lib.hid (HXa_w21.out.below hb (by omega))
  have HTa_W22 := Lib.hid (HTa_w21.out.keep fun p _ hp => ⟨hb.cell (by omega), hb.frozen (by omega)⟩)
  rw [← hW]
  clear hW hb
  have hp := implPut_any AV21 newVec cv21 A21 newEns c21 1 (some ⟨w21.heap.size, 0, none⟩) [120] 1 2 W22 ((HO22.out.vecIn.ints.low (Nat.zero_le _)).mono (by omega)) ((HO22.out.ensIn.ens.low (Nat.zero_le _)).mono (by omega)) newVec_length newEns_length newEns_bulk HN.out (by simp)
  unfold NewTrB at hp
  rw [tr_b.1, tr_b.2.1, tr_b.2.2] at hp
  refine hp.mono ?_
  clear hp
  rintro r w23 ⟨AV23, cv23, A23, c23, rfl, ho, hl, hb⟩
  have hz23 := hb.size
  have HB_w23 := Lib.hid (show Below w.heap.size w w23 from HB_W22.out.trans (hb.mono (by have := HB_W22.out.size; omega)))
  have HXa_w23 := Lib.hid (HXa_W22.out.below hb (by omega))
  have HTa_w23 := Lib.hid (HTa_W22.out.keep fun p _ hp => ⟨hb.cell (by omega), hb.frozen (by omega)⟩)
  obtain ⟨W24, hW⟩ : ∃ X, X = w23.alloc (.cells #[.slice AV23 4 cv23, .slice A23 trB.length c23] 34) := ⟨_, rfl⟩
  have hb4 : Below w23.heap.size w23 W24 := by rw [hW]; exact (Below.refl _ _).alloc (Nat.le_refl _) _
  have hz24 : w23.heap.size < W24.heap.size := by rw [hW]; simp
  have HTb_W24 := Lib.hid (show TrOwn W24 W22.heap.size w23.heap.size AV23 [0, 1, 0, 0] A23 trB from ho.keep fun p _ hp => ⟨hb4.cell hp, hb4.frozen hp⟩)
  have HXb_W24 := Lib.hid (show Bx W24 w23.heap.size [.slice AV23 4 cv23, .slice A23 trB.length c23] by rw [hW]; exact Bx.new' _ _ _ _ rfl)
  have HB_W24 := Lib.hid (show Below w.heap.size w W24 from HB_w23.out.trans (hb4.mono (by have := HB_w23.out.size; omega)))
  have HXa_W24 := Lib.hid (HXa_w23.out.below hb4 (by omega))
  have HTa_W24 := Lib.hid (HTa_w23.out.keep fun p _ hp => ⟨hb4.cell (by omega), hb4.frozen (by omega)⟩)
  clear ho hl hb hb4
  go_upto_region 3 with fail
  rw [← hW]
  clear hW
  have x0 := HXa_W24.out 0 (by simp)
  have x1 := HXa_W24.out 1 (by simp)
  have y0 := HXb_W24.out 0 (by simp)
  have y1 := HXb_W24.out 1 (by simp)
  simp only [List.getElem_cons_succ, List.getElem_cons_zero] at x0 x1 y0 y1
  have lx : w13.heap.size < W24.heap.size := by omega
  go_wp2_with fail
  have hp := implMerge_any AV13 [1, 0, 0, 0] cv13 A13 trA c13 AV23 [0, 1, 0, 0] cv23 A23 trB c23 W24 ((HTa_W24.out.vecIn.ints.low (Nat.zero_le _)).mono (by omega)) ((HTa_W24.out.ensIn.ens.low (Nat.zero_le _)).mono (by omega)) (by decide) (by decide) (by decide) ((HTb_W24.out.vecIn.ints.low (Nat.zero_le _)).mono (by omega)) ((HTb_W24.out.ensIn.ens.low (Nat.zero_le _)).mono (by omega)) (by decide) (by decide) (by decide)
  unfold NewTrB at hp
  rw [tr_m.1, tr_m.2.1, tr_m.2.2] at hp
  refine hp.mono ?_
  clear hp x0 x1 y0 y1
  rintro r w5 ⟨AV5, cv5, A5, c5, rfl, ho, hl, hb⟩
  have hz5 := hb.size
  have HB_w5 := Lib.hid (show Below w.heap.size w w5 from HB_W24.out.trans (hb.mono (by have := HB_W24.out.size; omega)))
  obtain ⟨W6, hW⟩ : ∃ X, X = w5.alloc (.cells #[.slice AV5 4 cv5, .slice A5 2 c5] 34) := ⟨_, rfl⟩
  have hb6 : Below w5.heap.size w5 W6 := by rw [hW]; exact (Below.refl _ _).alloc (Nat.le_refl _) _
  have hz6 : w5.heap.size < W6.heap.size := by rw [hW]; simp
  have HT6 := Lib.hid (show TrOwn W6 W24.heap.size w5.heap.size AV5 [1, 1, 0, 0] A5 trM from ho.keep fun p _ hp => ⟨hb6.cell hp, hb6.frozen hp⟩)
  have HX6 := Lib.hid (show Bx W6 w5.heap.size [.slice AV5 4 cv5, .slice A5 2 c5] by rw [hW]; exact Bx.new' _ _ _ _ rfl)
  have HB6 := Lib.hid (show Below w.heap.size w W6 from HB_w5.out.trans (hb6.mono (by have := HB_w5.out.size; omega)))
  have hl2 : trM.length = 2 := rfl
  rw [hl2]
  clear ho hl hb hb6 hl2
  go_upto_region 4 with fail
  rw [← hW]
  clear hW
  have x0 := HX6.out 0 (by simp)
  have x1 := HX6.out 1 (by simp)
  simp only [List.getElem_cons_succ, List.getElem_cons_zero] at x0 x1
  go_wp2_with fail
  have hp := implView_any AV5 [1, 1, 0, 0] cv5 A5 trM c5 W6 ((HT6.out.vecIn.ints.low (Nat.zero_le _)).mono (by omega)) ((HT6.out.ensIn.ens.low (Nat.zero_le _)).mono (by omega)) (by decide) (by decide) (by decide) (HTab.out _ HB6.out)
  unfold NewFs at hp
  rw [tr_v] at hp
  refine hp.mono ?_
  clear hp
  rintro r w7 ⟨A7, c7, rfl, _, hb⟩
  have hz7 := hb.size
  have HB7 := Lib.hid (show Below w.heap.size w w7 from HB6.out.trans (hb.mono (by have := HB6.out.size; omega)))
  have HT7 := Lib.hid (HT6.out.keep fun p _ hp => ⟨hb.cell (by omega), hb.frozen (by omega)⟩)
  have HX7 := Lib.hid (HX6.out.below hb hz6)
  clear hb x0 x1
  have x0 := HX7.out 0 (by simp)
  have x1 := HX7.out 1 (by simp)
  simp only [List.getElem_cons_succ, List.getElem_cons_zero] at x0 x1
  go_wp2_with fail
  have hp := implTreeOk_any AV5 [1, 1, 0, 0] cv5 A5 trM c5 w7 ((HT7.out.vecIn.ints.low (Nat.zero_le _)).mono (by omega)) ((HT7.out.ensIn.ens.low (Nat.zero_le _)).mono (by omega)) (by decide) (by decide) (by decide)
  rw [tr_t] at hp
  refine hp.mono ?_
  clear hp x0 x1
  rintro r w8 ⟨rfl, hb⟩
  have HB8 := Lib.hid (show Below w.heap.size w w8 from HB7.out.trans (hb.mono (by have := HB7.out.size; omega)))
  clear hb
  go_wp2_with fail
  go_ret
  exact ⟨rfl, HB8.out⟩

end Go.Proofs.YtepkicgnhjaokaaDoor

namespace Go.Proofs.YtepkicgnhjaokaaDoor
open Go.RowKit Go.Maps

theorem up_noL {a b : List Int} (h : vecB a = false) : upV a b = [] := by simp [upV, h]
theorem up_noR {a b : List Int} (h : vecB b = false) : upV a b = [] := by simp [upV, h]
theorem be_noL {a b : List Int} (h : vecB a = false) : belowV a b = false := by simp [belowV, h]
theorem be_noR {a b : List Int} (h : vecB b = false) : belowV a b = false := by simp [belowV, h]
theorem vecB_iff4 (a b c d : Int) : vecB [a, b, c, d] = true ↔ (0 ≤ a ∧ a ≤ 1000) ∧ (0 ≤ b ∧ b ≤ 1000) ∧ (0 ≤ c ∧ c ≤ 1000) ∧ (0 ≤ d ∧ d ≤ 1000) := by
  simp [vecB]
theorem belB_iff (a b c d a' b' c' d' : Int) : belB a b c d a' b' c' d' = true ↔ a ≤ a' ∧ b ≤ b' ∧ c ≤ c' ∧ d ≤ d' := by
  simp only [belB, mx_beq, Bool.and_eq_true, decide_eq_true_eq]
  omega
theorem mx_le1 (x y : Int) : x ≤ mx x y := by unfold mx; split <;> omega
theorem mx_le2 (x y : Int) : y ≤ mx x y := by unfold mx; split <;> omega
theorem mx_lub {x y z : Int} (h : x ≤ z) (k : y ≤ z) : mx x y ≤ z := by unfold mx; split <;> omega
theorem mx_self (x : Int) : mx x x = x := by unfold mx; split <;> rfl
theorem mx_comm (x y : Int) : mx x y = mx y x := by unfold mx; split <;> split <;> omega

theorem up_four {a b : List Int} (ha : vecB a = true) (hb : vecB b = true) : upV a b = [mx (a.getD 0 0) (b.getD 0 0), mx (a.getD 1 0) (b.getD 1 0), mx (a.getD 2 0) (b.getD 2 0), mx (a.getD 3 0) (b.getD 3 0)] := by simp [upV, ha, hb]
theorem up_comm (a b : List Int) : upV a b = upV b a := by
  unfold upV
  rw [mx_comm (a.getD 0 0), mx_comm (a.getD 1 0), mx_comm (a.getD 2 0), mx_comm (a.getD 3 0), Bool.and_comm]
theorem up_self {a : List Int} (ha : vecB a = true) : upV a a = a := by
  obtain ⟨x, y, z, u, rfl⟩ := vecB_four ha
  simp [upV, ha, mx_self]
theorem up_vec {a b : List Int} (ha : vecB a = true) (hb : vecB b = true) : vecB (upV a b) = true := by
  rw [up_four ha hb]
  obtain ⟨x, y, z, u, rfl⟩ := vecB_four ha
  obtain ⟨x', y', z', u', rfl⟩ := vecB_four hb
  rw [vecB_iff4] at ha hb ⊢
  simp only [List.getD_cons_zero, List.getD_cons_succ]
  exact ⟨⟨Int.le_trans ha.1.1 (mx_le1 _ _), mx_lub ha.1.2 hb.1.2⟩, ⟨Int.le_trans ha.2.1.1 (mx_le1 _ _), mx_lub ha.2.1.2 hb.2.1.2⟩, ⟨Int.le_trans ha.2.2.1.1 (mx_le1 _ _), mx_lub ha.2.2.1.2 hb.2.2.1.2⟩, ⟨Int.le_trans ha.2.2.2.1 (mx_le1 _ _), mx_lub ha.2.2.2.2 hb.2.2.2.2⟩⟩
theorem up_aboveL {a b : List Int} (ha : vecB a = true) (hb : vecB b = true) : belowV a (upV a b) = true := by
  have hu := up_vec ha hb
  unfold belowV
  rw [ha, hu, up_four ha hb]
  simp only [Bool.true_and, List.getD_cons_zero, List.getD_cons_succ]
  rw [belB_iff]
  exact ⟨mx_le1 _ _, mx_le1 _ _, mx_le1 _ _, mx_le1 _ _⟩
theorem up_aboveR {a b : List Int} (ha : vecB a = true) (hb : vecB b = true) : belowV b (upV a b) = true := by
  rw [up_comm]
  exact up_aboveL hb ha
theorem up_least {a b c : List Int} (h : belowV a c = true) (k : belowV b c = true) : belowV (upV a b) c = true := by
  unfold belowV at h k
  simp only [Bool.and_eq_true] at h k
  obtain ⟨⟨ha, hc⟩, h⟩ := h
  obtain ⟨⟨hb, _⟩, k⟩ := k
  have hu := up_vec ha hb
  unfold belowV
  rw [hu, hc, up_four ha hb]
  rw [belB_iff] at h k
  simp only [Bool.true_and, List.getD_cons_zero, List.getD_cons_succ]
  rw [belB_iff]
  exact ⟨mx_lub h.1 k.1, mx_lub h.2.1 k.2.1, mx_lub h.2.2.1 k.2.2.1, mx_lub h.2.2.2 k.2.2.2⟩
theorem up_len (a b : List Int) : (upV a b).length ≤ 4 := by unfold upV; split <;> simp

theorem owns_two {w : World} {base g : Nat} {e : TypeId} {v0 v1 : Value} (hg : base ≤ g) (hb : w.heap[g]? = some (.cells #[v0, v1] e (0, 0))) : w.ownsRow base e 1 (.slice (some ⟨g, 0, none⟩) 2 2) 2 [v0, v1] :=
  ⟨by simp, .inr ⟨g, 2, _, rfl, hg, hb, Nat.le_refl _, by unfold maxLen; omega, by simp, by simp⟩⟩

set_option maxRecDepth 100000 in
set_option maxHeartbeats 1000000 in
theorem more3_any (A : Option Addr) (c : Nat) (code : List UInt8) (w : World) (hA : BytesIn w 0 w.heap.size A code) (hn : code.length ≤ 140737488351232) :
    Calls Tryd.prog 12 #[.slice A code.length c, .int .i64 3] w fun e w' => ∃ A' m c', e = .returned (.slice A' m.length c') ∧ m.length ≤ 140737488351234 ∧ BytesIn w' 0 w'.heap.size A' m ∧ Below w.heap.size w w' := by
  have HA := Lib.hid hA
  clear hA
  go_enter Tryd.func12, Tryd.ntmps12
  have hb : Below w.heap.size w (w.alloc (.cells #[.int .u8 3, .int .u8 21] 5)) := (Below.refl _ _).alloc (Nat.le_refl _) _
  have HR := Lib.hid (show (w.alloc (.cells #[.int .u8 3, .int .u8 21] 5)).ownsRow w.heap.size 5 1 (.slice (some ⟨w.heap.size, 0, none⟩) 2 2) 2 [.int .u8 3, .int .u8 21] from owns_two (Nat.le_refl _) (heap_alloc_new _ _))
  have HS := Lib.hid ((HA.out.keep fun _ _ h2 => hb.cell h2).mono hb.size)
  have HB := Lib.hid hb
  have hz := hb.size
  clear hb
  obtain ⟨i0, hi0, hq0, hq1, hq2⟩ := info_parts Tryd.info5
  go_wp2_with (at_builtin; refine wpList_append_any _ rfl _ _ 22 rfl w.heap.size 5 i0 (.int .u8 0) 1 1 Tryd.underlying22 hi0 hq0 hq1 hq2 rfl (by decide) _ 2 [.int .u8 3, .int .u8 21] rfl HR.out A code.length c (vbytes code) rfl ?c0 (bytes_src HS.out) ?c2 ?c3 ?c4 ?c5 ?_)
  case c0 => simp [vbytes]
  case c2 =>
    intro u hu
    simp [vbytes] at hu
    obtain ⟨y, _, rfl⟩ := hu
    rfl
  case c3 => unfold maxLen; omega
  case c4 => omega
  case c5 => omega
  intro A7 c7 w7 hown hg
  have hb7 : Below w.heap.size (w.alloc (.cells #[.int .u8 3, .int .u8 21] 5)) w7 := (Below.refl _ _).grown hg hz (fun g e => by simp [Value.ownBlock] at e; omega)
  have hl : 2 + code.length = ((3 : UInt8) :: 21 :: code).length := by simp; omega
  have hown' : w7.ownsRow w.heap.size 5 1 (.slice A7 ((3 : UInt8) :: 21 :: code).length c7) ((3 : UInt8) :: 21 :: code).length (vbytes ((3 : UInt8) :: 21 :: code)) := by rw [← hl]; exact hown
  have HI7 := Lib.hid ((bytes_of_row hown').bytes.low (Nat.zero_le _))
  have HB7 := Lib.hid (HB.out.trans hb7)
  rw [hl]
  clear hown hown' hg hb7 HR HS hl
  go_wp2_with fail
  go_ret
  exact ⟨A7, _, c7, rfl, by simp; omega, HI7.out, HB7.out⟩


set_option maxRecDepth 100000 in
set_option maxHeartbeats 4000000 in
theorem fnVecs_any (A : Option Addr) (c : Nat) (code : List UInt8) (w : World) (hA : BytesIn w 0 w.heap.size A code) (hn : code.length ≤ 140737488351232) (htab : Lib.TabIs Tryd.prog w "internal/strconv.uint64pow10" .u64 Lib.pow10Tab) :
    Calls Tryd.prog 3 #[.slice A code.length c] w fun e w' => e = .returned (.bool true) ∧ Below w.heap.size w w' := by
  have HTab := Lib.hid (Lib.tabBelow_of_tabIs htab)
  have HC_w := Lib.hid hA
  have HW_w := Lib.hid (Below.refl w.heap.size w)
  clear hA htab
  go_enter Tryd.func3, Tryd.ntmps3
  go_wp2_with fail
  refine (drawVecUp_any A c code w HC_w.out (by omega)).mono ?_
  rintro e w0 ⟨A1, a, c1, A2, b, c2, rfl, hla, hlb, hi1, hi2, hb⟩
  have HW_w0 := Lib.hid (HW_w.out.trans (hb.mono HW_w.out.size))
  have HC_w0 := Lib.hid ((HC_w.out.keep fun _ _ h2 => hb.cell h2).mono hb.size)
  clear hb HC_w
  have Ha_w0 := Lib.hid (hi1.low (Nat.zero_le _))
  have Hb_w0 := Lib.hid (hi2.low (Nat.zero_le _))
  clear hi1 hi2
  cases hva : vecB a with
  | false =>
    go_wp2_with fail
    have hC := implVecUp_any A1 A2 a b c1 c2 w0 Ha_w0.out Hb_w0.out
    rw [up_noL hva] at hC
    refine hC.mono ?_
    clear hC
    rintro e w1 ⟨A3, c3, rfl, _, hb⟩
    have HW_w1 := Lib.hid (HW_w0.out.trans (hb.mono HW_w0.out.size))
    have HC_w1 := Lib.hid ((HC_w0.out.keep fun _ _ h2 => hb.cell h2).mono hb.size)
    have Ha_w1 := Lib.hid ((Ha_w0.out.keep fun _ _ h2 => hb.cell h2).mono hb.size)
    have Hb_w1 := Lib.hid ((Hb_w0.out.keep fun _ _ h2 => hb.cell h2).mono hb.size)
    clear hb HC_w0 Ha_w0 Hb_w0
    go_wp2_with fail
    have hC := specVecOk_any A1 a c1 w1 Ha_w1.out (by omega)
    rw [hva] at hC
    refine hC.mono ?_
    clear hC
    rintro e w2 ⟨rfl, hb⟩
    have HW_w2 := Lib.hid (HW_w1.out.trans (hb.mono HW_w1.out.size))
    have HC_w2 := Lib.hid ((HC_w1.out.keep fun _ _ h2 => hb.cell h2).mono hb.size)
    have Ha_w2 := Lib.hid ((Ha_w1.out.keep fun _ _ h2 => hb.cell h2).mono hb.size)
    have Hb_w2 := Lib.hid ((Hb_w1.out.keep fun _ _ h2 => hb.cell h2).mono hb.size)
    clear hb HC_w1 Ha_w1 Hb_w1
    go_wp2_with fail
    have hC := implVecBelow_any A1 A2 a b c1 c2 w2 Ha_w2.out Hb_w2.out
    rw [be_noL hva] at hC
    refine hC.mono ?_
    clear hC
    rintro e w3 ⟨rfl, hb⟩
    have HW_w3 := Lib.hid (HW_w2.out.trans (hb.mono HW_w2.out.size))
    have HC_w3 := Lib.hid ((HC_w2.out.keep fun _ _ h2 => hb.cell h2).mono hb.size)
    have Ha_w3 := Lib.hid ((Ha_w2.out.keep fun _ _ h2 => hb.cell h2).mono hb.size)
    have Hb_w3 := Lib.hid ((Hb_w2.out.keep fun _ _ h2 => hb.cell h2).mono hb.size)
    clear hb HC_w2 Ha_w2 Hb_w2
    go_wp2_with fail
    have hC := trees_any w3 (HTab.out _ HW_w3.out)
    refine hC.mono ?_
    clear hC
    rintro e w4 ⟨rfl, hb⟩
    have HW_w4 := Lib.hid (HW_w3.out.trans (hb.mono HW_w3.out.size))
    have HC_w4 := Lib.hid ((HC_w3.out.keep fun _ _ h2 => hb.cell h2).mono hb.size)
    have Ha_w4 := Lib.hid ((Ha_w3.out.keep fun _ _ h2 => hb.cell h2).mono hb.size)
    have Hb_w4 := Lib.hid ((Hb_w3.out.keep fun _ _ h2 => hb.cell h2).mono hb.size)
    clear hb HC_w3 Ha_w3 Hb_w3
    go_wp2_with fail
    go_ret
    exact ⟨rfl, HW_w4.out⟩
  | true =>
    cases hvb : vecB b with
    | false =>
      go_wp2_with fail
      have hC := implVecUp_any A1 A2 a b c1 c2 w0 Ha_w0.out Hb_w0.out
      rw [up_noR hvb] at hC
      refine hC.mono ?_
      clear hC
      rintro e w5 ⟨A3, c3, rfl, _, hb⟩
      have HW_w5 := Lib.hid (HW_w0.out.trans (hb.mono HW_w0.out.size))
      have HC_w5 := Lib.hid ((HC_w0.out.keep fun _ _ h2 => hb.cell h2).mono hb.size)
      have Ha_w5 := Lib.hid ((Ha_w0.out.keep fun _ _ h2 => hb.cell h2).mono hb.size)
      have Hb_w5 := Lib.hid ((Hb_w0.out.keep fun _ _ h2 => hb.cell h2).mono hb.size)
      clear hb HC_w0 Ha_w0 Hb_w0
      go_wp2_with fail
      have hC := specVecOk_any A1 a c1 w5 Ha_w5.out (by omega)
      rw [hva] at hC
      refine hC.mono ?_
      clear hC
      rintro e w6 ⟨rfl, hb⟩
      have HW_w6 := Lib.hid (HW_w5.out.trans (hb.mono HW_w5.out.size))
      have HC_w6 := Lib.hid ((HC_w5.out.keep fun _ _ h2 => hb.cell h2).mono hb.size)
      have Ha_w6 := Lib.hid ((Ha_w5.out.keep fun _ _ h2 => hb.cell h2).mono hb.size)
      have Hb_w6 := Lib.hid ((Hb_w5.out.keep fun _ _ h2 => hb.cell h2).mono hb.size)
      clear hb HC_w5 Ha_w5 Hb_w5
      go_wp2_with fail
      have hC := specVecOk_any A2 b c2 w6 Hb_w6.out (by omega)
      rw [hvb] at hC
      refine hC.mono ?_
      clear hC
      rintro e w7 ⟨rfl, hb⟩
      have HW_w7 := Lib.hid (HW_w6.out.trans (hb.mono HW_w6.out.size))
      have HC_w7 := Lib.hid ((HC_w6.out.keep fun _ _ h2 => hb.cell h2).mono hb.size)
      have Ha_w7 := Lib.hid ((Ha_w6.out.keep fun _ _ h2 => hb.cell h2).mono hb.size)
      have Hb_w7 := Lib.hid ((Hb_w6.out.keep fun _ _ h2 => hb.cell h2).mono hb.size)
      clear hb HC_w6 Ha_w6 Hb_w6
      go_wp2_with fail
      have hC := implVecBelow_any A1 A2 a b c1 c2 w7 Ha_w7.out Hb_w7.out
      rw [be_noR hvb] at hC
      refine hC.mono ?_
      clear hC
      rintro e w8 ⟨rfl, hb⟩
      have HW_w8 := Lib.hid (HW_w7.out.trans (hb.mono HW_w7.out.size))
      have HC_w8 := Lib.hid ((HC_w7.out.keep fun _ _ h2 => hb.cell h2).mono hb.size)
      have Ha_w8 := Lib.hid ((Ha_w7.out.keep fun _ _ h2 => hb.cell h2).mono hb.size)
      have Hb_w8 := Lib.hid ((Hb_w7.out.keep fun _ _ h2 => hb.cell h2).mono hb.size)
      clear hb HC_w7 Ha_w7 Hb_w7
      go_wp2_with fail
      have hC := trees_any w8 (HTab.out _ HW_w8.out)
      refine hC.mono ?_
      clear hC
      rintro e w9 ⟨rfl, hb⟩
      have HW_w9 := Lib.hid (HW_w8.out.trans (hb.mono HW_w8.out.size))
      have HC_w9 := Lib.hid ((HC_w8.out.keep fun _ _ h2 => hb.cell h2).mono hb.size)
      have Ha_w9 := Lib.hid ((Ha_w8.out.keep fun _ _ h2 => hb.cell h2).mono hb.size)
      have Hb_w9 := Lib.hid ((Hb_w8.out.keep fun _ _ h2 => hb.cell h2).mono hb.size)
      clear hb HC_w8 Ha_w8 Hb_w8
      go_wp2_with fail
      go_ret
      exact ⟨rfl, HW_w9.out⟩
    | true =>
      go_wp2_with fail
      have hC := implVecUp_any A1 A2 a b c1 c2 w0 Ha_w0.out Hb_w0.out
      refine hC.mono ?_
      clear hC
      rintro e w10 ⟨A3, c3, rfl, hi, hb⟩
      have HW_w10 := Lib.hid (HW_w0.out.trans (hb.mono HW_w0.out.size))
      have HC_w10 := Lib.hid ((HC_w0.out.keep fun _ _ h2 => hb.cell h2).mono hb.size)
      have Ha_w10 := Lib.hid ((Ha_w0.out.keep fun _ _ h2 => hb.cell h2).mono hb.size)
      have Hb_w10 := Lib.hid ((Hb_w0.out.keep fun _ _ h2 => hb.cell h2).mono hb.size)
      clear hb HC_w0 Ha_w0 Hb_w0
      have Hu_w10 := Lib.hid (hi.ints.low (Nat.zero_le _))
      clear hi
      go_wp2_with fail
      have hC := specVecOk_any A1 a c1 w10 Ha_w10.out (by omega)
      rw [hva] at hC
      refine hC.mono ?_
      clear hC
      rintro e w11 ⟨rfl, hb⟩
      have HW_w11 := Lib.hid (HW_w10.out.trans (hb.mono HW_w10.out.size))
      have HC_w11 := Lib.hid ((HC_w10.out.keep fun _ _ h2 => hb.cell h2).mono hb.size)
      have Ha_w11 := Lib.hid ((Ha_w10.out.keep fun _ _ h2 => hb.cell h2).mono hb.size)
      have Hb_w11 := Lib.hid ((Hb_w10.out.keep fun _ _ h2 => hb.cell h2).mono hb.size)
      have Hu_w11 := Lib.hid ((Hu_w10.out.keep fun _ _ h2 => hb.cell h2).mono hb.size)
      clear hb HC_w10 Ha_w10 Hb_w10 Hu_w10
      go_wp2_with fail
      have hC := specVecOk_any A2 b c2 w11 Hb_w11.out (by omega)
      rw [hvb] at hC
      refine hC.mono ?_
      clear hC
      rintro e w12 ⟨rfl, hb⟩
      have HW_w12 := Lib.hid (HW_w11.out.trans (hb.mono HW_w11.out.size))
      have HC_w12 := Lib.hid ((HC_w11.out.keep fun _ _ h2 => hb.cell h2).mono hb.size)
      have Ha_w12 := Lib.hid ((Ha_w11.out.keep fun _ _ h2 => hb.cell h2).mono hb.size)
      have Hb_w12 := Lib.hid ((Hb_w11.out.keep fun _ _ h2 => hb.cell h2).mono hb.size)
      have Hu_w12 := Lib.hid ((Hu_w11.out.keep fun _ _ h2 => hb.cell h2).mono hb.size)
      clear hb HC_w11 Ha_w11 Hb_w11 Hu_w11
      go_wp2_with fail
      refine (more3_any A c code w12 HC_w12.out hn).mono ?_
      rintro e w13 ⟨A8, cd, c8, rfl, hcd, hi, hb⟩
      have HW_w13 := Lib.hid (HW_w12.out.trans (hb.mono HW_w12.out.size))
      have HC_w13 := Lib.hid ((HC_w12.out.keep fun _ _ h2 => hb.cell h2).mono hb.size)
      have Ha_w13 := Lib.hid ((Ha_w12.out.keep fun _ _ h2 => hb.cell h2).mono hb.size)
      have Hb_w13 := Lib.hid ((Hb_w12.out.keep fun _ _ h2 => hb.cell h2).mono hb.size)
      have Hu_w13 := Lib.hid ((Hu_w12.out.keep fun _ _ h2 => hb.cell h2).mono hb.size)
      clear hb HC_w12 Ha_w12 Hb_w12 Hu_w12
      have HD := Lib.hid hi
      clear hi
      go_wp2_with fail
      refine (drawVecUp_any A8 c8 cd w13 HD.out (by omega)).mono ?_
      rintro e w14 ⟨A4, k, c4, A9, k2, c9, rfl, hlk, _, hi, _, hb⟩
      clear HD
      have HW_w14 := Lib.hid (HW_w13.out.trans (hb.mono HW_w13.out.size))
      have HC_w14 := Lib.hid ((HC_w13.out.keep fun _ _ h2 => hb.cell h2).mono hb.size)
      have Ha_w14 := Lib.hid ((Ha_w13.out.keep fun _ _ h2 => hb.cell h2).mono hb.size)
      have Hb_w14 := Lib.hid ((Hb_w13.out.keep fun _ _ h2 => hb.cell h2).mono hb.size)
      have Hu_w14 := Lib.hid ((Hu_w13.out.keep fun _ _ h2 => hb.cell h2).mono hb.size)
      clear hb HC_w13 Ha_w13 Hb_w13 Hu_w13
      have Hk_w14 := Lib.hid (hi.low (Nat.zero_le _))
      clear hi
      go_wp2_with fail
      cases hbk : belowV a k with
      | false =>
        have hC := implVecBelow_any A1 A4 a k c1 c4 w14 Ha_w14.out Hk_w14.out
        rw [hbk] at hC
        refine hC.mono ?_
        clear hC
        rintro e w15 ⟨rfl, hb⟩
        have HW_w15 := Lib.hid (HW_w14.out.trans (hb.mono HW_w14.out.size))
        have HC_w15 := Lib.hid ((HC_w14.out.keep fun _ _ h2 => hb.cell h2).mono hb.size)
        have Ha_w15 := Lib.hid ((Ha_w14.out.keep fun _ _ h2 => hb.cell h2).mono hb.size)
        have Hb_w15 := Lib.hid ((Hb_w14.out.keep fun _ _ h2 => hb.cell h2).mono hb.size)
        have Hu_w15 := Lib.hid ((Hu_w14.out.keep fun _ _ h2 => hb.cell h2).mono hb.size)
        have Hk_w15 := Lib.hid ((Hk_w14.out.keep fun _ _ h2 => hb.cell h2).mono hb.size)
        clear hb HC_w14 Ha_w14 Hb_w14 Hu_w14 Hk_w14
        go_wp2_with fail
        have hC := implVecBelow_any A1 A3 a (upV a b) c1 c3 w15 Ha_w15.out Hu_w15.out
        rw [up_aboveL hva hvb] at hC
        refine hC.mono ?_
        clear hC
        rintro e w16 ⟨rfl, hb⟩
        have HW_w16 := Lib.hid (HW_w15.out.trans (hb.mono HW_w15.out.size))
        have HC_w16 := Lib.hid ((HC_w15.out.keep fun _ _ h2 => hb.cell h2).mono hb.size)
        have Ha_w16 := Lib.hid ((Ha_w15.out.keep fun _ _ h2 => hb.cell h2).mono hb.size)
        have Hb_w16 := Lib.hid ((Hb_w15.out.keep fun _ _ h2 => hb.cell h2).mono hb.size)
        have Hu_w16 := Lib.hid ((Hu_w15.out.keep fun _ _ h2 => hb.cell h2).mono hb.size)
        have Hk_w16 := Lib.hid ((Hk_w15.out.keep fun _ _ h2 => hb.cell h2).mono hb.size)
        clear hb HC_w15 Ha_w15 Hb_w15 Hu_w15 Hk_w15
        go_wp2_with fail
        have hC := implVecBelow_any A2 A3 b (upV a b) c2 c3 w16 Hb_w16.out Hu_w16.out
        rw [up_aboveR hva hvb] at hC
        refine hC.mono ?_
        clear hC
        rintro e w17 ⟨rfl, hb⟩
        have HW_w17 := Lib.hid (HW_w16.out.trans (hb.mono HW_w16.out.size))
        have HC_w17 := Lib.hid ((HC_w16.out.keep fun _ _ h2 => hb.cell h2).mono hb.size)
        have Ha_w17 := Lib.hid ((Ha_w16.out.keep fun _ _ h2 => hb.cell h2).mono hb.size)
        have Hb_w17 := Lib.hid ((Hb_w16.out.keep fun _ _ h2 => hb.cell h2).mono hb.size)
        have Hu_w17 := Lib.hid ((Hu_w16.out.keep fun _ _ h2 => hb.cell h2).mono hb.size)
        have Hk_w17 := Lib.hid ((Hk_w16.out.keep fun _ _ h2 => hb.cell h2).mono hb.size)
        clear hb HC_w16 Ha_w16 Hb_w16 Hu_w16 Hk_w16
        go_wp2_with fail
        have hC := implVecUp_any A2 A1 b a c2 c1 w17 Hb_w17.out Ha_w17.out
        refine hC.mono ?_
        clear hC
        rintro e w18 ⟨A5, c5, rfl, hi, hb⟩
        have HW_w18 := Lib.hid (HW_w17.out.trans (hb.mono HW_w17.out.size))
        have HC_w18 := Lib.hid ((HC_w17.out.keep fun _ _ h2 => hb.cell h2).mono hb.size)
        have Ha_w18 := Lib.hid ((Ha_w17.out.keep fun _ _ h2 => hb.cell h2).mono hb.size)
        have Hb_w18 := Lib.hid ((Hb_w17.out.keep fun _ _ h2 => hb.cell h2).mono hb.size)
        have Hu_w18 := Lib.hid ((Hu_w17.out.keep fun _ _ h2 => hb.cell h2).mono hb.size)
        have Hk_w18 := Lib.hid ((Hk_w17.out.keep fun _ _ h2 => hb.cell h2).mono hb.size)
        clear hb HC_w17 Ha_w17 Hb_w17 Hu_w17 Hk_w17
        have Hv_w18 := Lib.hid (hi.ints.low (Nat.zero_le _))
        clear hi
        go_wp2_with fail
        have hC := sameI_any A3 A5 (upV a b) (upV b a) c3 c5 w18 Hu_w18.out Hv_w18.out (by have := up_len a b; have := up_len b a; have := up_len a a; omega) (by have := up_len a b; have := up_len b a; have := up_len a a; omega)
        rw [decide_eq_true (up_comm a b)] at hC
        refine hC.mono ?_
        clear hC
        rintro e w19 ⟨rfl, hb⟩
        have HW_w19 := Lib.hid (HW_w18.out.trans (hb.mono HW_w18.out.size))
        have HC_w19 := Lib.hid ((HC_w18.out.keep fun _ _ h2 => hb.cell h2).mono hb.size)
        have Ha_w19 := Lib.hid ((Ha_w18.out.keep fun _ _ h2 => hb.cell h2).mono hb.size)
        have Hb_w19 := Lib.hid ((Hb_w18.out.keep fun _ _ h2 => hb.cell h2).mono hb.size)
        have Hu_w19 := Lib.hid ((Hu_w18.out.keep fun _ _ h2 => hb.cell h2).mono hb.size)
        have Hk_w19 := Lib.hid ((Hk_w18.out.keep fun _ _ h2 => hb.cell h2).mono hb.size)
        have Hv_w19 := Lib.hid ((Hv_w18.out.keep fun _ _ h2 => hb.cell h2).mono hb.size)
        clear hb HC_w18 Ha_w18 Hb_w18 Hu_w18 Hk_w18 Hv_w18
        go_wp2_with fail
        have hC := implVecUp_any A1 A1 a a c1 c1 w19 Ha_w19.out Ha_w19.out
        refine hC.mono ?_
        clear hC
        rintro e w20 ⟨A6, c6, rfl, hi, hb⟩
        have HW_w20 := Lib.hid (HW_w19.out.trans (hb.mono HW_w19.out.size))
        have HC_w20 := Lib.hid ((HC_w19.out.keep fun _ _ h2 => hb.cell h2).mono hb.size)
        have Ha_w20 := Lib.hid ((Ha_w19.out.keep fun _ _ h2 => hb.cell h2).mono hb.size)
        have Hb_w20 := Lib.hid ((Hb_w19.out.keep fun _ _ h2 => hb.cell h2).mono hb.size)
        have Hu_w20 := Lib.hid ((Hu_w19.out.keep fun _ _ h2 => hb.cell h2).mono hb.size)
        have Hk_w20 := Lib.hid ((Hk_w19.out.keep fun _ _ h2 => hb.cell h2).mono hb.size)
        have Hv_w20 := Lib.hid ((Hv_w19.out.keep fun _ _ h2 => hb.cell h2).mono hb.size)
        clear hb HC_w19 Ha_w19 Hb_w19 Hu_w19 Hk_w19 Hv_w19
        have Hs_w20 := Lib.hid (hi.ints.low (Nat.zero_le _))
        clear hi
        go_wp2_with fail
        have hC := sameI_any A6 A1 (upV a a) a c6 c1 w20 Hs_w20.out Ha_w20.out (by have := up_len a b; have := up_len b a; have := up_len a a; omega) (by have := up_len a b; have := up_len b a; have := up_len a a; omega)
        rw [decide_eq_true (up_self hva)] at hC
        refine hC.mono ?_
        clear hC
        rintro e w21 ⟨rfl, hb⟩
        have HW_w21 := Lib.hid (HW_w20.out.trans (hb.mono HW_w20.out.size))
        have HC_w21 := Lib.hid ((HC_w20.out.keep fun _ _ h2 => hb.cell h2).mono hb.size)
        have Ha_w21 := Lib.hid ((Ha_w20.out.keep fun _ _ h2 => hb.cell h2).mono hb.size)
        have Hb_w21 := Lib.hid ((Hb_w20.out.keep fun _ _ h2 => hb.cell h2).mono hb.size)
        have Hu_w21 := Lib.hid ((Hu_w20.out.keep fun _ _ h2 => hb.cell h2).mono hb.size)
        have Hk_w21 := Lib.hid ((Hk_w20.out.keep fun _ _ h2 => hb.cell h2).mono hb.size)
        have Hv_w21 := Lib.hid ((Hv_w20.out.keep fun _ _ h2 => hb.cell h2).mono hb.size)
        have Hs_w21 := Lib.hid ((Hs_w20.out.keep fun _ _ h2 => hb.cell h2).mono hb.size)
        clear hb HC_w20 Ha_w20 Hb_w20 Hu_w20 Hk_w20 Hv_w20 Hs_w20
        go_wp2_with fail
        have hC := implVecOk_any A3 (upV a b) c3 w21 Hu_w21.out
        rw [up_vec hva hvb] at hC
        refine hC.mono ?_
        clear hC
        rintro e w22 ⟨rfl, hb⟩
        have HW_w22 := Lib.hid (HW_w21.out.trans (hb.mono HW_w21.out.size))
        have HC_w22 := Lib.hid ((HC_w21.out.keep fun _ _ h2 => hb.cell h2).mono hb.size)
        have Ha_w22 := Lib.hid ((Ha_w21.out.keep fun _ _ h2 => hb.cell h2).mono hb.size)
        have Hb_w22 := Lib.hid ((Hb_w21.out.keep fun _ _ h2 => hb.cell h2).mono hb.size)
        have Hu_w22 := Lib.hid ((Hu_w21.out.keep fun _ _ h2 => hb.cell h2).mono hb.size)
        have Hk_w22 := Lib.hid ((Hk_w21.out.keep fun _ _ h2 => hb.cell h2).mono hb.size)
        have Hv_w22 := Lib.hid ((Hv_w21.out.keep fun _ _ h2 => hb.cell h2).mono hb.size)
        have Hs_w22 := Lib.hid ((Hs_w21.out.keep fun _ _ h2 => hb.cell h2).mono hb.size)
        clear hb HC_w21 Ha_w21 Hb_w21 Hu_w21 Hk_w21 Hv_w21 Hs_w21
        go_wp2_with fail
        have hC := trees_any w22 (HTab.out _ HW_w22.out)
        refine hC.mono ?_
        clear hC
        rintro e w23 ⟨rfl, hb⟩
        have HW_w23 := Lib.hid (HW_w22.out.trans (hb.mono HW_w22.out.size))
        have HC_w23 := Lib.hid ((HC_w22.out.keep fun _ _ h2 => hb.cell h2).mono hb.size)
        have Ha_w23 := Lib.hid ((Ha_w22.out.keep fun _ _ h2 => hb.cell h2).mono hb.size)
        have Hb_w23 := Lib.hid ((Hb_w22.out.keep fun _ _ h2 => hb.cell h2).mono hb.size)
        have Hu_w23 := Lib.hid ((Hu_w22.out.keep fun _ _ h2 => hb.cell h2).mono hb.size)
        have Hk_w23 := Lib.hid ((Hk_w22.out.keep fun _ _ h2 => hb.cell h2).mono hb.size)
        have Hv_w23 := Lib.hid ((Hv_w22.out.keep fun _ _ h2 => hb.cell h2).mono hb.size)
        have Hs_w23 := Lib.hid ((Hs_w22.out.keep fun _ _ h2 => hb.cell h2).mono hb.size)
        clear hb HC_w22 Ha_w22 Hb_w22 Hu_w22 Hk_w22 Hv_w22 Hs_w22
        go_wp2_with fail
        go_ret
        exact ⟨rfl, HW_w23.out⟩
      | true =>
        have hC := implVecBelow_any A1 A4 a k c1 c4 w14 Ha_w14.out Hk_w14.out
        rw [hbk] at hC
        refine hC.mono ?_
        clear hC
        rintro e w24 ⟨rfl, hb⟩
        have HW_w24 := Lib.hid (HW_w14.out.trans (hb.mono HW_w14.out.size))
        have HC_w24 := Lib.hid ((HC_w14.out.keep fun _ _ h2 => hb.cell h2).mono hb.size)
        have Ha_w24 := Lib.hid ((Ha_w14.out.keep fun _ _ h2 => hb.cell h2).mono hb.size)
        have Hb_w24 := Lib.hid ((Hb_w14.out.keep fun _ _ h2 => hb.cell h2).mono hb.size)
        have Hu_w24 := Lib.hid ((Hu_w14.out.keep fun _ _ h2 => hb.cell h2).mono hb.size)
        have Hk_w24 := Lib.hid ((Hk_w14.out.keep fun _ _ h2 => hb.cell h2).mono hb.size)
        clear hb HC_w14 Ha_w14 Hb_w14 Hu_w14 Hk_w14
        go_wp2_with fail
        cases hbk2 : belowV b k with
        | false =>
          have hC := implVecBelow_any A2 A4 b k c2 c4 w24 Hb_w24.out Hk_w24.out
          rw [hbk2] at hC
          refine hC.mono ?_
          clear hC
          rintro e w25 ⟨rfl, hb⟩
          have HW_w25 := Lib.hid (HW_w24.out.trans (hb.mono HW_w24.out.size))
          have HC_w25 := Lib.hid ((HC_w24.out.keep fun _ _ h2 => hb.cell h2).mono hb.size)
          have Ha_w25 := Lib.hid ((Ha_w24.out.keep fun _ _ h2 => hb.cell h2).mono hb.size)
          have Hb_w25 := Lib.hid ((Hb_w24.out.keep fun _ _ h2 => hb.cell h2).mono hb.size)
          have Hu_w25 := Lib.hid ((Hu_w24.out.keep fun _ _ h2 => hb.cell h2).mono hb.size)
          have Hk_w25 := Lib.hid ((Hk_w24.out.keep fun _ _ h2 => hb.cell h2).mono hb.size)
          clear hb HC_w24 Ha_w24 Hb_w24 Hu_w24 Hk_w24
          go_wp2_with fail
          have hC := implVecBelow_any A1 A3 a (upV a b) c1 c3 w25 Ha_w25.out Hu_w25.out
          rw [up_aboveL hva hvb] at hC
          refine hC.mono ?_
          clear hC
          rintro e w26 ⟨rfl, hb⟩
          have HW_w26 := Lib.hid (HW_w25.out.trans (hb.mono HW_w25.out.size))
          have HC_w26 := Lib.hid ((HC_w25.out.keep fun _ _ h2 => hb.cell h2).mono hb.size)
          have Ha_w26 := Lib.hid ((Ha_w25.out.keep fun _ _ h2 => hb.cell h2).mono hb.size)
          have Hb_w26 := Lib.hid ((Hb_w25.out.keep fun _ _ h2 => hb.cell h2).mono hb.size)
          have Hu_w26 := Lib.hid ((Hu_w25.out.keep fun _ _ h2 => hb.cell h2).mono hb.size)
          have Hk_w26 := Lib.hid ((Hk_w25.out.keep fun _ _ h2 => hb.cell h2).mono hb.size)
          clear hb HC_w25 Ha_w25 Hb_w25 Hu_w25 Hk_w25
          go_wp2_with fail
          have hC := implVecBelow_any A2 A3 b (upV a b) c2 c3 w26 Hb_w26.out Hu_w26.out
          rw [up_aboveR hva hvb] at hC
          refine hC.mono ?_
          clear hC
          rintro e w27 ⟨rfl, hb⟩
          have HW_w27 := Lib.hid (HW_w26.out.trans (hb.mono HW_w26.out.size))
          have HC_w27 := Lib.hid ((HC_w26.out.keep fun _ _ h2 => hb.cell h2).mono hb.size)
          have Ha_w27 := Lib.hid ((Ha_w26.out.keep fun _ _ h2 => hb.cell h2).mono hb.size)
          have Hb_w27 := Lib.hid ((Hb_w26.out.keep fun _ _ h2 => hb.cell h2).mono hb.size)
          have Hu_w27 := Lib.hid ((Hu_w26.out.keep fun _ _ h2 => hb.cell h2).mono hb.size)
          have Hk_w27 := Lib.hid ((Hk_w26.out.keep fun _ _ h2 => hb.cell h2).mono hb.size)
          clear hb HC_w26 Ha_w26 Hb_w26 Hu_w26 Hk_w26
          go_wp2_with fail
          have hC := implVecUp_any A2 A1 b a c2 c1 w27 Hb_w27.out Ha_w27.out
          refine hC.mono ?_
          clear hC
          rintro e w28 ⟨A5, c5, rfl, hi, hb⟩
          have HW_w28 := Lib.hid (HW_w27.out.trans (hb.mono HW_w27.out.size))
          have HC_w28 := Lib.hid ((HC_w27.out.keep fun _ _ h2 => hb.cell h2).mono hb.size)
          have Ha_w28 := Lib.hid ((Ha_w27.out.keep fun _ _ h2 => hb.cell h2).mono hb.size)
          have Hb_w28 := Lib.hid ((Hb_w27.out.keep fun _ _ h2 => hb.cell h2).mono hb.size)
          have Hu_w28 := Lib.hid ((Hu_w27.out.keep fun _ _ h2 => hb.cell h2).mono hb.size)
          have Hk_w28 := Lib.hid ((Hk_w27.out.keep fun _ _ h2 => hb.cell h2).mono hb.size)
          clear hb HC_w27 Ha_w27 Hb_w27 Hu_w27 Hk_w27
          have Hv_w28 := Lib.hid (hi.ints.low (Nat.zero_le _))
          clear hi
          go_wp2_with fail
          have hC := sameI_any A3 A5 (upV a b) (upV b a) c3 c5 w28 Hu_w28.out Hv_w28.out (by have := up_len a b; have := up_len b a; have := up_len a a; omega) (by have := up_len a b; have := up_len b a; have := up_len a a; omega)
          rw [decide_eq_true (up_comm a b)] at hC
          refine hC.mono ?_
          clear hC
          rintro e w29 ⟨rfl, hb⟩
          have HW_w29 := Lib.hid (HW_w28.out.trans (hb.mono HW_w28.out.size))
          have HC_w29 := Lib.hid ((HC_w28.out.keep fun _ _ h2 => hb.cell h2).mono hb.size)
          have Ha_w29 := Lib.hid ((Ha_w28.out.keep fun _ _ h2 => hb.cell h2).mono hb.size)
          have Hb_w29 := Lib.hid ((Hb_w28.out.keep fun _ _ h2 => hb.cell h2).mono hb.size)
          have Hu_w29 := Lib.hid ((Hu_w28.out.keep fun _ _ h2 => hb.cell h2).mono hb.size)
          have Hk_w29 := Lib.hid ((Hk_w28.out.keep fun _ _ h2 => hb.cell h2).mono hb.size)
          have Hv_w29 := Lib.hid ((Hv_w28.out.keep fun _ _ h2 => hb.cell h2).mono hb.size)
          clear hb HC_w28 Ha_w28 Hb_w28 Hu_w28 Hk_w28 Hv_w28
          go_wp2_with fail
          have hC := implVecUp_any A1 A1 a a c1 c1 w29 Ha_w29.out Ha_w29.out
          refine hC.mono ?_
          clear hC
          rintro e w30 ⟨A6, c6, rfl, hi, hb⟩
          have HW_w30 := Lib.hid (HW_w29.out.trans (hb.mono HW_w29.out.size))
          have HC_w30 := Lib.hid ((HC_w29.out.keep fun _ _ h2 => hb.cell h2).mono hb.size)
          have Ha_w30 := Lib.hid ((Ha_w29.out.keep fun _ _ h2 => hb.cell h2).mono hb.size)
          have Hb_w30 := Lib.hid ((Hb_w29.out.keep fun _ _ h2 => hb.cell h2).mono hb.size)
          have Hu_w30 := Lib.hid ((Hu_w29.out.keep fun _ _ h2 => hb.cell h2).mono hb.size)
          have Hk_w30 := Lib.hid ((Hk_w29.out.keep fun _ _ h2 => hb.cell h2).mono hb.size)
          have Hv_w30 := Lib.hid ((Hv_w29.out.keep fun _ _ h2 => hb.cell h2).mono hb.size)
          clear hb HC_w29 Ha_w29 Hb_w29 Hu_w29 Hk_w29 Hv_w29
          have Hs_w30 := Lib.hid (hi.ints.low (Nat.zero_le _))
          clear hi
          go_wp2_with fail
          have hC := sameI_any A6 A1 (upV a a) a c6 c1 w30 Hs_w30.out Ha_w30.out (by have := up_len a b; have := up_len b a; have := up_len a a; omega) (by have := up_len a b; have := up_len b a; have := up_len a a; omega)
          rw [decide_eq_true (up_self hva)] at hC
          refine hC.mono ?_
          clear hC
          rintro e w31 ⟨rfl, hb⟩
          have HW_w31 := Lib.hid (HW_w30.out.trans (hb.mono HW_w30.out.size))
          have HC_w31 := Lib.hid ((HC_w30.out.keep fun _ _ h2 => hb.cell h2).mono hb.size)
          have Ha_w31 := Lib.hid ((Ha_w30.out.keep fun _ _ h2 => hb.cell h2).mono hb.size)
          have Hb_w31 := Lib.hid ((Hb_w30.out.keep fun _ _ h2 => hb.cell h2).mono hb.size)
          have Hu_w31 := Lib.hid ((Hu_w30.out.keep fun _ _ h2 => hb.cell h2).mono hb.size)
          have Hk_w31 := Lib.hid ((Hk_w30.out.keep fun _ _ h2 => hb.cell h2).mono hb.size)
          have Hv_w31 := Lib.hid ((Hv_w30.out.keep fun _ _ h2 => hb.cell h2).mono hb.size)
          have Hs_w31 := Lib.hid ((Hs_w30.out.keep fun _ _ h2 => hb.cell h2).mono hb.size)
          clear hb HC_w30 Ha_w30 Hb_w30 Hu_w30 Hk_w30 Hv_w30 Hs_w30
          go_wp2_with fail
          have hC := implVecOk_any A3 (upV a b) c3 w31 Hu_w31.out
          rw [up_vec hva hvb] at hC
          refine hC.mono ?_
          clear hC
          rintro e w32 ⟨rfl, hb⟩
          have HW_w32 := Lib.hid (HW_w31.out.trans (hb.mono HW_w31.out.size))
          have HC_w32 := Lib.hid ((HC_w31.out.keep fun _ _ h2 => hb.cell h2).mono hb.size)
          have Ha_w32 := Lib.hid ((Ha_w31.out.keep fun _ _ h2 => hb.cell h2).mono hb.size)
          have Hb_w32 := Lib.hid ((Hb_w31.out.keep fun _ _ h2 => hb.cell h2).mono hb.size)
          have Hu_w32 := Lib.hid ((Hu_w31.out.keep fun _ _ h2 => hb.cell h2).mono hb.size)
          have Hk_w32 := Lib.hid ((Hk_w31.out.keep fun _ _ h2 => hb.cell h2).mono hb.size)
          have Hv_w32 := Lib.hid ((Hv_w31.out.keep fun _ _ h2 => hb.cell h2).mono hb.size)
          have Hs_w32 := Lib.hid ((Hs_w31.out.keep fun _ _ h2 => hb.cell h2).mono hb.size)
          clear hb HC_w31 Ha_w31 Hb_w31 Hu_w31 Hk_w31 Hv_w31 Hs_w31
          go_wp2_with fail
          have hC := trees_any w32 (HTab.out _ HW_w32.out)
          refine hC.mono ?_
          clear hC
          rintro e w33 ⟨rfl, hb⟩
          have HW_w33 := Lib.hid (HW_w32.out.trans (hb.mono HW_w32.out.size))
          have HC_w33 := Lib.hid ((HC_w32.out.keep fun _ _ h2 => hb.cell h2).mono hb.size)
          have Ha_w33 := Lib.hid ((Ha_w32.out.keep fun _ _ h2 => hb.cell h2).mono hb.size)
          have Hb_w33 := Lib.hid ((Hb_w32.out.keep fun _ _ h2 => hb.cell h2).mono hb.size)
          have Hu_w33 := Lib.hid ((Hu_w32.out.keep fun _ _ h2 => hb.cell h2).mono hb.size)
          have Hk_w33 := Lib.hid ((Hk_w32.out.keep fun _ _ h2 => hb.cell h2).mono hb.size)
          have Hv_w33 := Lib.hid ((Hv_w32.out.keep fun _ _ h2 => hb.cell h2).mono hb.size)
          have Hs_w33 := Lib.hid ((Hs_w32.out.keep fun _ _ h2 => hb.cell h2).mono hb.size)
          clear hb HC_w32 Ha_w32 Hb_w32 Hu_w32 Hk_w32 Hv_w32 Hs_w32
          go_wp2_with fail
          go_ret
          exact ⟨rfl, HW_w33.out⟩
        | true =>
          have hC := implVecBelow_any A2 A4 b k c2 c4 w24 Hb_w24.out Hk_w24.out
          rw [hbk2] at hC
          refine hC.mono ?_
          clear hC
          rintro e w34 ⟨rfl, hb⟩
          have HW_w34 := Lib.hid (HW_w24.out.trans (hb.mono HW_w24.out.size))
          have HC_w34 := Lib.hid ((HC_w24.out.keep fun _ _ h2 => hb.cell h2).mono hb.size)
          have Ha_w34 := Lib.hid ((Ha_w24.out.keep fun _ _ h2 => hb.cell h2).mono hb.size)
          have Hb_w34 := Lib.hid ((Hb_w24.out.keep fun _ _ h2 => hb.cell h2).mono hb.size)
          have Hu_w34 := Lib.hid ((Hu_w24.out.keep fun _ _ h2 => hb.cell h2).mono hb.size)
          have Hk_w34 := Lib.hid ((Hk_w24.out.keep fun _ _ h2 => hb.cell h2).mono hb.size)
          clear hb HC_w24 Ha_w24 Hb_w24 Hu_w24 Hk_w24
          go_wp2_with fail
          have hC := implVecBelow_any A3 A4 (upV a b) k c3 c4 w34 Hu_w34.out Hk_w34.out
          rw [up_least hbk hbk2] at hC
          refine hC.mono ?_
          clear hC
          rintro e w35 ⟨rfl, hb⟩
          have HW_w35 := Lib.hid (HW_w34.out.trans (hb.mono HW_w34.out.size))
          have HC_w35 := Lib.hid ((HC_w34.out.keep fun _ _ h2 => hb.cell h2).mono hb.size)
          have Ha_w35 := Lib.hid ((Ha_w34.out.keep fun _ _ h2 => hb.cell h2).mono hb.size)
          have Hb_w35 := Lib.hid ((Hb_w34.out.keep fun _ _ h2 => hb.cell h2).mono hb.size)
          have Hu_w35 := Lib.hid ((Hu_w34.out.keep fun _ _ h2 => hb.cell h2).mono hb.size)
          have Hk_w35 := Lib.hid ((Hk_w34.out.keep fun _ _ h2 => hb.cell h2).mono hb.size)
          clear hb HC_w34 Ha_w34 Hb_w34 Hu_w34 Hk_w34
          go_wp2_with fail
          have hC := implVecBelow_any A1 A3 a (upV a b) c1 c3 w35 Ha_w35.out Hu_w35.out
          rw [up_aboveL hva hvb] at hC
          refine hC.mono ?_
          clear hC
          rintro e w36 ⟨rfl, hb⟩
          have HW_w36 := Lib.hid (HW_w35.out.trans (hb.mono HW_w35.out.size))
          have HC_w36 := Lib.hid ((HC_w35.out.keep fun _ _ h2 => hb.cell h2).mono hb.size)
          have Ha_w36 := Lib.hid ((Ha_w35.out.keep fun _ _ h2 => hb.cell h2).mono hb.size)
          have Hb_w36 := Lib.hid ((Hb_w35.out.keep fun _ _ h2 => hb.cell h2).mono hb.size)
          have Hu_w36 := Lib.hid ((Hu_w35.out.keep fun _ _ h2 => hb.cell h2).mono hb.size)
          have Hk_w36 := Lib.hid ((Hk_w35.out.keep fun _ _ h2 => hb.cell h2).mono hb.size)
          clear hb HC_w35 Ha_w35 Hb_w35 Hu_w35 Hk_w35
          go_wp2_with fail
          have hC := implVecBelow_any A2 A3 b (upV a b) c2 c3 w36 Hb_w36.out Hu_w36.out
          rw [up_aboveR hva hvb] at hC
          refine hC.mono ?_
          clear hC
          rintro e w37 ⟨rfl, hb⟩
          have HW_w37 := Lib.hid (HW_w36.out.trans (hb.mono HW_w36.out.size))
          have HC_w37 := Lib.hid ((HC_w36.out.keep fun _ _ h2 => hb.cell h2).mono hb.size)
          have Ha_w37 := Lib.hid ((Ha_w36.out.keep fun _ _ h2 => hb.cell h2).mono hb.size)
          have Hb_w37 := Lib.hid ((Hb_w36.out.keep fun _ _ h2 => hb.cell h2).mono hb.size)
          have Hu_w37 := Lib.hid ((Hu_w36.out.keep fun _ _ h2 => hb.cell h2).mono hb.size)
          have Hk_w37 := Lib.hid ((Hk_w36.out.keep fun _ _ h2 => hb.cell h2).mono hb.size)
          clear hb HC_w36 Ha_w36 Hb_w36 Hu_w36 Hk_w36
          go_wp2_with fail
          have hC := implVecUp_any A2 A1 b a c2 c1 w37 Hb_w37.out Ha_w37.out
          refine hC.mono ?_
          clear hC
          rintro e w38 ⟨A5, c5, rfl, hi, hb⟩
          have HW_w38 := Lib.hid (HW_w37.out.trans (hb.mono HW_w37.out.size))
          have HC_w38 := Lib.hid ((HC_w37.out.keep fun _ _ h2 => hb.cell h2).mono hb.size)
          have Ha_w38 := Lib.hid ((Ha_w37.out.keep fun _ _ h2 => hb.cell h2).mono hb.size)
          have Hb_w38 := Lib.hid ((Hb_w37.out.keep fun _ _ h2 => hb.cell h2).mono hb.size)
          have Hu_w38 := Lib.hid ((Hu_w37.out.keep fun _ _ h2 => hb.cell h2).mono hb.size)
          have Hk_w38 := Lib.hid ((Hk_w37.out.keep fun _ _ h2 => hb.cell h2).mono hb.size)
          clear hb HC_w37 Ha_w37 Hb_w37 Hu_w37 Hk_w37
          have Hv_w38 := Lib.hid (hi.ints.low (Nat.zero_le _))
          clear hi
          go_wp2_with fail
          have hC := sameI_any A3 A5 (upV a b) (upV b a) c3 c5 w38 Hu_w38.out Hv_w38.out (by have := up_len a b; have := up_len b a; have := up_len a a; omega) (by have := up_len a b; have := up_len b a; have := up_len a a; omega)
          rw [decide_eq_true (up_comm a b)] at hC
          refine hC.mono ?_
          clear hC
          rintro e w39 ⟨rfl, hb⟩
          have HW_w39 := Lib.hid (HW_w38.out.trans (hb.mono HW_w38.out.size))
          have HC_w39 := Lib.hid ((HC_w38.out.keep fun _ _ h2 => hb.cell h2).mono hb.size)
          have Ha_w39 := Lib.hid ((Ha_w38.out.keep fun _ _ h2 => hb.cell h2).mono hb.size)
          have Hb_w39 := Lib.hid ((Hb_w38.out.keep fun _ _ h2 => hb.cell h2).mono hb.size)
          have Hu_w39 := Lib.hid ((Hu_w38.out.keep fun _ _ h2 => hb.cell h2).mono hb.size)
          have Hk_w39 := Lib.hid ((Hk_w38.out.keep fun _ _ h2 => hb.cell h2).mono hb.size)
          have Hv_w39 := Lib.hid ((Hv_w38.out.keep fun _ _ h2 => hb.cell h2).mono hb.size)
          clear hb HC_w38 Ha_w38 Hb_w38 Hu_w38 Hk_w38 Hv_w38
          go_wp2_with fail
          have hC := implVecUp_any A1 A1 a a c1 c1 w39 Ha_w39.out Ha_w39.out
          refine hC.mono ?_
          clear hC
          rintro e w40 ⟨A6, c6, rfl, hi, hb⟩
          have HW_w40 := Lib.hid (HW_w39.out.trans (hb.mono HW_w39.out.size))
          have HC_w40 := Lib.hid ((HC_w39.out.keep fun _ _ h2 => hb.cell h2).mono hb.size)
          have Ha_w40 := Lib.hid ((Ha_w39.out.keep fun _ _ h2 => hb.cell h2).mono hb.size)
          have Hb_w40 := Lib.hid ((Hb_w39.out.keep fun _ _ h2 => hb.cell h2).mono hb.size)
          have Hu_w40 := Lib.hid ((Hu_w39.out.keep fun _ _ h2 => hb.cell h2).mono hb.size)
          have Hk_w40 := Lib.hid ((Hk_w39.out.keep fun _ _ h2 => hb.cell h2).mono hb.size)
          have Hv_w40 := Lib.hid ((Hv_w39.out.keep fun _ _ h2 => hb.cell h2).mono hb.size)
          clear hb HC_w39 Ha_w39 Hb_w39 Hu_w39 Hk_w39 Hv_w39
          have Hs_w40 := Lib.hid (hi.ints.low (Nat.zero_le _))
          clear hi
          go_wp2_with fail
          have hC := sameI_any A6 A1 (upV a a) a c6 c1 w40 Hs_w40.out Ha_w40.out (by have := up_len a b; have := up_len b a; have := up_len a a; omega) (by have := up_len a b; have := up_len b a; have := up_len a a; omega)
          rw [decide_eq_true (up_self hva)] at hC
          refine hC.mono ?_
          clear hC
          rintro e w41 ⟨rfl, hb⟩
          have HW_w41 := Lib.hid (HW_w40.out.trans (hb.mono HW_w40.out.size))
          have HC_w41 := Lib.hid ((HC_w40.out.keep fun _ _ h2 => hb.cell h2).mono hb.size)
          have Ha_w41 := Lib.hid ((Ha_w40.out.keep fun _ _ h2 => hb.cell h2).mono hb.size)
          have Hb_w41 := Lib.hid ((Hb_w40.out.keep fun _ _ h2 => hb.cell h2).mono hb.size)
          have Hu_w41 := Lib.hid ((Hu_w40.out.keep fun _ _ h2 => hb.cell h2).mono hb.size)
          have Hk_w41 := Lib.hid ((Hk_w40.out.keep fun _ _ h2 => hb.cell h2).mono hb.size)
          have Hv_w41 := Lib.hid ((Hv_w40.out.keep fun _ _ h2 => hb.cell h2).mono hb.size)
          have Hs_w41 := Lib.hid ((Hs_w40.out.keep fun _ _ h2 => hb.cell h2).mono hb.size)
          clear hb HC_w40 Ha_w40 Hb_w40 Hu_w40 Hk_w40 Hv_w40 Hs_w40
          go_wp2_with fail
          have hC := implVecOk_any A3 (upV a b) c3 w41 Hu_w41.out
          rw [up_vec hva hvb] at hC
          refine hC.mono ?_
          clear hC
          rintro e w42 ⟨rfl, hb⟩
          have HW_w42 := Lib.hid (HW_w41.out.trans (hb.mono HW_w41.out.size))
          have HC_w42 := Lib.hid ((HC_w41.out.keep fun _ _ h2 => hb.cell h2).mono hb.size)
          have Ha_w42 := Lib.hid ((Ha_w41.out.keep fun _ _ h2 => hb.cell h2).mono hb.size)
          have Hb_w42 := Lib.hid ((Hb_w41.out.keep fun _ _ h2 => hb.cell h2).mono hb.size)
          have Hu_w42 := Lib.hid ((Hu_w41.out.keep fun _ _ h2 => hb.cell h2).mono hb.size)
          have Hk_w42 := Lib.hid ((Hk_w41.out.keep fun _ _ h2 => hb.cell h2).mono hb.size)
          have Hv_w42 := Lib.hid ((Hv_w41.out.keep fun _ _ h2 => hb.cell h2).mono hb.size)
          have Hs_w42 := Lib.hid ((Hs_w41.out.keep fun _ _ h2 => hb.cell h2).mono hb.size)
          clear hb HC_w41 Ha_w41 Hb_w41 Hu_w41 Hk_w41 Hv_w41 Hs_w41
          go_wp2_with fail
          have hC := trees_any w42 (HTab.out _ HW_w42.out)
          refine hC.mono ?_
          clear hC
          rintro e w43 ⟨rfl, hb⟩
          have HW_w43 := Lib.hid (HW_w42.out.trans (hb.mono HW_w42.out.size))
          have HC_w43 := Lib.hid ((HC_w42.out.keep fun _ _ h2 => hb.cell h2).mono hb.size)
          have Ha_w43 := Lib.hid ((Ha_w42.out.keep fun _ _ h2 => hb.cell h2).mono hb.size)
          have Hb_w43 := Lib.hid ((Hb_w42.out.keep fun _ _ h2 => hb.cell h2).mono hb.size)
          have Hu_w43 := Lib.hid ((Hu_w42.out.keep fun _ _ h2 => hb.cell h2).mono hb.size)
          have Hk_w43 := Lib.hid ((Hk_w42.out.keep fun _ _ h2 => hb.cell h2).mono hb.size)
          have Hv_w43 := Lib.hid ((Hv_w42.out.keep fun _ _ h2 => hb.cell h2).mono hb.size)
          have Hs_w43 := Lib.hid ((Hs_w42.out.keep fun _ _ h2 => hb.cell h2).mono hb.size)
          clear hb HC_w42 Ha_w42 Hb_w42 Hu_w42 Hk_w42 Hv_w42 Hs_w42
          go_wp2_with fail
          go_ret
          exact ⟨rfl, HW_w43.out⟩

end Go.Proofs.YtepkicgnhjaokaaDoor

namespace Go.Proofs.YtepkicgnhjaokaaDoor
open Go.ChangeShapes Go.WideShapes Go.ChangeAt Go.RowKit

theorem Tryd.ownFnVecs : ownKnob Tryd.prog.godebug = none := by kernel_rfl

set_option maxRecDepth 100000 in
theorem fnVecs_lifted (os : Os) (started : os.Started) (H : Type) (enc : TypeId × Value → H) :
    ReturnsInHanded {} Tryd.checked os 3 .any (fun w args => (Rows.fnVecsSpec.pre enc Tryd.prog Tryd.f3 [] false w args ∧ laidMetH Tryd.prog laid3 w) ∧ sizedMet enc Tryd.prog Tryd.f3 (OpenSpec.ofChange Rows.fnVecsSpec) false w args)
      (Rows.fnVecsSpec.post enc Tryd.prog Tryd.f3 false true false false) := by
  refine returnsInHanded_of_change_and (C := Tryd.checked) (X := fun w _ => laidMetH Tryd.prog laid3 w) (fun _ _ _ hh h => h.of_heap hh) Tryd.ownFnVecs started (by kernel_rfl) Tryd.func3
    (ChangeSpec.witness_shaped (enc := enc) (C := Tryd.checked) (os := os) (X := fun w _ => laidMetH Tryd.prog laid3 w) false (World.doorLaid Tryd.prog 24 os) #[.slice none 0 0] 8 rfl (World.shaped_of_RefB (by kernel_rfl) (by kernel_rfl)) (by kernel_rfl) (by kernel_rfl) (by kernel_rfl) (door_met os _)) ?_
  intro W base args ds gs before hval0 hW _ hWt hL _
  have hval : ∀ (j : Nat) t v, Tryd.f3.params[j]? = some t → args[j]? = some v → Value.okWide Tryd.prog W .any base t v := hval0
  have hW' := hW
  obtain ⟨p, q, hA0, hV, rfl, _, _⟩ := hW
  have hA : DataW.TrodAll enc Tryd.prog W 0 (fun _ => true) true Tryd.f3.params.toList args.toList ds p := hA0
  rw [Tryd.params3] at hA hval
  obtain ⟨v0, d0, rfl, rfl, h0⟩ := trodAll_one hA
  obtain ⟨rfl, rfl⟩ := trodVars_none hV
  have h0k := h0
  have hZ : (DataW.weightsEach Tryd.prog [22] [d0]).all (· ≤ reachBytes) = true := by
    have hq := hWt
    rw [Tryd.params3] at hq
    exact hq
  obtain ⟨A, l, c, rfl, hlen, hts⟩ := open_byteZ (hval 0 22 v0 rfl rfl) h0 hZ
  clear hA0 hval0
  have htab := pow10_of_laid hL
  simp only [List.append_nil] at hW'
  have hlt : ∀ x ∈ p, x.block < W.heap.size := fun x hx => by simpa using hW'.lt x (by simp [hx])
  refine (fnVecs_any A c l W hts hlen htab).mono fun e W' ⟨he, hb⟩ => ?_
  subst he
  exact ⟨_, rfl, _, _, _, [], p, [], hW', trodAll_mk1 (shut_bool Tryd.underlying4 _), trodAll_mk1 (Below.trod Tryd.laidOut (by kernel_rfl) (of_decide_eq_true (by kernel_rfl)) h0k hb hlt), rfl, hb.frame _, fun h => by cases h⟩

theorem fnVecs_holds : Rows.FnVecsSaid :=
  OpenClaim.holds_of_wide 3 Tryd.f3 rfl rfl rfl rfl rfl rfl rfl ⟨rfl, rfl, rfl, rfl, rfl⟩ rfl rfl rfl rfl rfl (by kernel_rfl) Tryd.func3 (by kernel_rfl)
    (of_decide_eq_true (by kernel_rfl)) (by unfold Func.isWrapper; first | (rw [if_pos (by decide +kernel)]; kernel_rfl) | (rw [if_neg (by decide +kernel)]; exact ⟨rfl, rfl⟩))
    (fun os started H enc _ => fnVecs_lifted os started H enc)

end Go.Proofs.YtepkicgnhjaokaaDoor
