/-
  The bytes of a tree, as the program lays them.
-/
import Derived.Test.YtblmhhijgdkkoaaTwo
import Derived.Test.YtblmhhijgdkkoaaRdTr
namespace Go.Proofs.Ytblmhhijgdkkoaa
open Go.RowKit Go.Maps

/-- The bytes of an entry. -/
def ebV (e : En) : List UInt8 := [lo8 e.name.length] ++ (e.name ++ (b2 e.val ++ ([lo8 e.dev] ++ b2 e.num)))
/-- The bytes of a tree. -/
def tbV (vec : List Int) (es : List En) : List UInt8 := vec.flatMap b2 ++ ([lo8 es.length] ++ es.flatMap ebV)
theorem ebV_length (e : En) : (ebV e).length = e.name.length + 6 := by
  simp [ebV, b2]
theorem ebs_length (es : List En) : (es.flatMap ebV).length = ebulk es + 6 * es.length := by
  induction es with
  | nil => simp [ebulk]
  | cons e es ih =>
    rw [List.flatMap_cons, List.length_append, ih, ebV_length]
    simp [ebulk]
    omega
theorem b2s_length (vec : List Int) : (vec.flatMap b2).length = 2 * vec.length := by
  induction vec with
  | nil => simp
  | cons v vs ih =>
    rw [List.flatMap_cons, List.length_append, ih]
    simp [b2]
    omega
theorem tbV_length (vec : List Int) (es : List En) : (tbV vec es).length = 2 * vec.length + 1 + (ebulk es + 6 * es.length) := by
  unfold tbV
  rw [List.length_append, List.length_append, b2s_length, ebs_length]
  simp
  omega
theorem ebs_take_succ (es : List En) (k : Nat) (h : k < es.length) : (es.take (k + 1)).flatMap ebV = (es.take k).flatMap ebV ++ ebV es[k] := by
  rw [List.take_succ_eq_append_getElem h, List.flatMap_append]
  simp
theorem b2s_take_succ (a b c d : Int) (k : Nat) (h : k < 4) : ([a, b, c, d].take (k + 1)).flatMap b2 = ([a, b, c, d].take k).flatMap b2 ++ b2 (nth4 a b c d k) := by
  match k, h with
  | 0, _ => simp [nth4]
  | 1, _ => simp [nth4]
  | 2, _ => simp [nth4]
  | 3, _ => simp [nth4]

/-- New bytes are handed back. -/
def NewRw (l : List UInt8) (w : World) (e : Ending) (w' : World) : Prop := ∃ v, e = .returned v ∧ Rw w' w.heap.size v l ∧ Below w.heap.size w w'

theorem below_grownRw {B : Nat} {a w w' : World} {v : Value} {l : List UInt8} (h : Below B a w) (hr : Rw w B v l) (hg : w.grownBy w' v.ownBlock) (hB : B ≤ w.heap.size) : Below B a w' := h.grown hg hB fun k hk => (hr.lt k hk).1

set_option maxRecDepth 100000 in
set_option maxHeartbeats 4000000 in
theorem encoded_any (a b c d : Int) (A : Option Addr) (es : List En) (cap : Nat) (w : World) (hA : EvsIn w 0 w.heap.size A es) (hn : es.length ≤ 1000) (hbk : ebulk es ≤ 1048576) :
    Calls Try.prog 72 #[.agg #[.int .i64 a, .int .i64 b, .int .i64 c, .int .i64 d, .slice A es.length cap]] w (NewRw (tbV [a, b, c, d] es) w) := by
  have HA := Lib.hid hA
  clear hA
  go_enter Try.func72, Try.ntmps72
  go_wp2_with fail
  obtain ⟨W, hW⟩ : ∃ W, W = w.alloc (.cells #[.int .i64 a, .int .i64 b, .int .i64 c, .int .i64 d, .slice A es.length cap] 84) := ⟨_, rfl⟩
  have HX := Lib.hid (show Bx W w.heap.size [.int .i64 a, .int .i64 b, .int .i64 c, .int .i64 d, .slice A es.length cap] by rw [hW]; exact Bx.new' _ _ _ _ rfl)
  have HBel := Lib.hid (show Below w.heap.size w W by rw [hW]; exact (Below.refl _ _).alloc (Nat.le_refl _) _)
  have hz : w.heap.size < W.heap.size := by rw [hW]; simp
  rw [← hW]
  clear hW
  go_loopw [3, 10] (fun x i wr => ∃ k : Nat, k ≤ 4 ∧ i = .int .i64 k ∧ Rw wr W.heap.size x (([a, b, c, d].take k).flatMap b2) ∧ Below W.heap.size W wr) (fun _ i _ => 4 - (intOf i).toNat)
  case atStart => exact ⟨0, by omega, rfl, Rw.nil _ _, Below.refl _ _⟩
  case round =>
    obtain ⟨k, hk, rfl, hrw, hbel⟩ := hrel
    have HRw := Lib.hid hrw
    have HBr := Lib.hid hbel
    have hzr := hbel.size
    clear hrw hbel
    by_cases hlt : k < 4
    · have hix := Try.index4 a b c d k hlt
      have HS := Lib.hid (b2s_take_succ a b c d k hlt)
      have hl := b2s_length ([a, b, c, d].take k)
      have hl2 : ([a, b, c, d].take k).length ≤ 4 := by simp; omega
      obtain ⟨x, hx⟩ : ∃ x, x = nth4 a b c d k := ⟨_, rfl⟩
      rw [← hx] at hix HS
      obtain ⟨F, hF⟩ : ∃ F, F = ([a, b, c, d].take k).flatMap b2 := ⟨_, rfl⟩
      rw [← hF] at HRw HS hl
      have HS2 := Lib.hid hF
      clear hx hF
      go_wp2_with fail
      refine (appendTwo_any _ F x W.heap.size wr HRw.out (by omega) hzr).mono ?_
      rintro e w1 ⟨v1, rfl, hr1, hg1⟩
      have HR1 := Lib.hid hr1
      have HB1 := Lib.hid (below_grownRw HBr.out HRw.out hg1 hzr)
      clear hr1 hg1
      go_wp2_with fail
      go_roundw
      case rel => exact ⟨k + 1, by omega, by go_num, by rw [HS.out]; exact HR1.out, HB1.out⟩
      case measure => simp [intOf]; omega
    · have hke : k = 4 := by omega
      subst hke
      have HF := Lib.hid (show ([a, b, c, d].take 4).flatMap b2 = [a, b, c, d].flatMap b2 from rfl)
      rw [HF.out] at HRw
      have hl := b2s_length [a, b, c, d]
      obtain ⟨F, hF⟩ : ∃ F, F = [a, b, c, d].flatMap b2 := ⟨_, rfl⟩
      rw [← hF] at HRw hl
      have HFe := Lib.hid hF
      clear hF HF
      have hl8 : F.length = 8 := by simpa using hl
      have x4 := (HBr.out.cell (p := ⟨w.heap.size, 4, none⟩) hz).trans (HX.out 4 (by simp))
      simp only [List.getElem_cons_succ, List.getElem_cons_zero] at x4
      have lw : w.heap.size < wr.heap.size := by omega
      go_wp2_with (at_builtin; refine wpList_append_rw _ rfl _ _ 26 rfl W.heap.size _ F rfl (HRw.out.alloc _) _ [lo8 es.length] rfl (src_built wr [lo8 es.length] _ (by rw [cells_one])) ?c1 ?c2 ?c3 ?_)
      case c1 => simp; omega
      case c2 => exact .inl (by simp)
      case c3 => simp; omega
      intro v1 w1 hr1 hg1
      have HR1 := Lib.hid hr1
      have HB1 := Lib.hid (below_grownRw (HBr.out.alloc hzr (.cells #[.int .u8 ((es.length : Int) % 256)] 5)) (HRw.out.alloc _) hg1 (by simp; omega))
      have x4 := (HB1.out.cell (p := ⟨w.heap.size, 4, none⟩) hz).trans (HX.out 4 (by simp))
      simp only [List.getElem_cons_succ, List.getElem_cons_zero] at x4
      have hz1 := HB1.out.size
      have lw : w.heap.size < w1.heap.size := by omega
      obtain ⟨P0, hP0⟩ : ∃ P0, P0 = F ++ [lo8 es.length] := ⟨_, rfl⟩
      have hPl : P0.length = 9 := by rw [hP0]; simp [hl8]
      rw [← hP0] at HR1
      have HP0 := Lib.hid hP0
      clear hr1 hg1 hP0 hl hl8 HRw
      go_wp2_with fail
      go_loopw [3, 27] (fun x i ww => ∃ k : Nat, k ≤ es.length ∧ i = .int .i64 k ∧ Rw ww W.heap.size x (P0 ++ (es.take k).flatMap ebV) ∧ Below W.heap.size W ww) (fun _ i _ => es.length - (intOf i).toNat)
      case atStart => exact ⟨0, Nat.zero_le _, rfl, by simpa using HR1.out, HB1.out⟩
      case round =>
        rename World => wq
        obtain ⟨k, hk, rfl, hrw, hbel⟩ := hrel
        have HRq := Lib.hid hrw
        have HBq := Lib.hid hbel
        have hzq := hbel.size
        clear hrw hbel
        by_cases hlt : k < es.length
        · obtain ⟨bA, oA, hAe, _, hbA, hcA⟩ := HA.out (by omega)
          have HO := Lib.hid (HBel.out.trans (HBq.out.mono (by omega)))
          obtain ⟨c0, c1, c2, c3⟩ := (hcA k hlt).keep (w' := wq) fun o => HO.out.cell hbA
          have HS := Lib.hid (ebs_take_succ es k hlt)
          have hql := ebs_length (es.take k)
          have hqb := ebulk_take_succ es k hlt
          have hqe := ebulk_take_le es (k + 1)
          obtain ⟨e, he⟩ : ∃ e, e = es[k] := ⟨_, rfl⟩
          rw [← he] at c0 c1 c2 c3 HS hqb
          have htl : (es.take k).length ≤ 1000 := by simp; omega
          obtain ⟨F, hF⟩ : ∃ F, F = (es.take k).flatMap ebV := ⟨_, rfl⟩
          rw [← hF] at HRq HS hql
          have hnl : e.name.length ≤ 1048576 := by omega
          have hFl : F.length ≤ 2000000 := by omega
          clear hcA he hF hql hqb hqe
          subst hAe
          obtain ⟨n1, v1', d1, m1⟩ := e
          simp only at c0 c1 c2 c3 hnl
          have hlt' : (k : Int) < (es.length : Int) := by omega
          obtain ⟨L1, hL1⟩ : ∃ L1, L1 = P0 ++ F := ⟨_, rfl⟩
          have hl1 : L1.length ≤ 2000100 := by rw [hL1, List.length_append]; omega
          rw [← hL1] at HRq
          have HL1 := Lib.hid hL1
          clear hL1
          have HZ0 := Lib.hid (show (wq.alloc (.cells #[.string ⟨n1.toArray⟩, .int .i64 v1', .int .i64 d1, .int .i64 m1] 97)).heap[wq.heap.size]? = some (.cells #[.string ⟨n1.toArray⟩, .int .i64 v1', .int .i64 d1, .int .i64 m1] 97 (0, 0)) from heap_alloc_new _ _)
          have HZ1 := Lib.hid (show ((wq.alloc (.cells #[.string ⟨n1.toArray⟩, .int .i64 v1', .int .i64 d1, .int .i64 m1] 97)).alloc (.cells #[.int .u8 ((n1.length : Int) % 256)] 5)).heap[wq.heap.size]? = some (.cells #[.string ⟨n1.toArray⟩, .int .i64 v1', .int .i64 d1, .int .i64 m1] 97 (0, 0)) from (heap_alloc_old _ _ (by simp)).trans HZ0.out)
          go_wp2_with (at_builtin; refine wpList_append_rw _ rfl _ _ 26 rfl W.heap.size _ L1 rfl ((HRq.out.alloc _).alloc _) _ [lo8 n1.length] rfl (src_built' _ (wq.heap.size + 1) (by simp) [lo8 n1.length] _ (by rw [cells_one])) ?c1 ?c2 ?c3 ?_)
          case c1 => simp; omega
          case c2 => exact .inl (by simp)
          case c3 => simp; omega
          intro v2 w2 hr2 hg2
          have HR2 := Lib.hid hr2
          have HZ2 := Lib.hid (((HRq.out.alloc _).alloc _).box HZ1.out (by decide) hg2)
          have HB2 := Lib.hid (below_grownRw ((HBq.out.alloc hzq (.cells #[.string ⟨n1.toArray⟩, .int .i64 v1', .int .i64 d1, .int .i64 m1] 97)).alloc (by simp; omega) (.cells #[.int .u8 ((n1.length : Int) % 256)] 5)) ((HRq.out.alloc _).alloc _) hg2 (by simp; omega))
          have hz2 := HB2.out.size
          clear hr2 hg2 c0 c1 c2 c3 HZ0 HZ1
          obtain ⟨L2, hL2⟩ : ∃ L2, L2 = L1 ++ [lo8 n1.length] := ⟨_, rfl⟩
          have hl2 : L2.length = L1.length + 1 := by rw [hL2, List.length_append]; rfl
          have hl2p : 0 < L2.length := by omega
          rw [← hL2] at HR2
          have HL2 := Lib.hid hL2
          clear hL2
          have z0 : w2.cell? ⟨wq.heap.size, 0, none⟩ = some (.string ⟨n1.toArray⟩) := by have hh := HZ2.out; simp [World.cell?, hh]
          have z1 : w2.cell? ⟨wq.heap.size, 1, none⟩ = some (.int .i64 v1') := by have hh := HZ2.out; simp [World.cell?, hh]
          have z2 : w2.cell? ⟨wq.heap.size, 2, none⟩ = some (.int .i64 d1) := by have hh := HZ2.out; simp [World.cell?, hh]
          have z3 : w2.cell? ⟨wq.heap.size, 3, none⟩ = some (.int .i64 m1) := by have hh := HZ2.out; simp [World.cell?, hh]
          have lb2 : wq.heap.size < w2.heap.size := World.block_lt_of_cell? w2 _ z0
          go_wp2_with (at_builtin; refine wpList_append_rw _ rfl _ _ 9 rfl W.heap.size _ L2 rfl HR2.out _ n1 rfl (src_str _ n1) ?c1 ?c2 ?c3 ?_)
          case c1 => omega
          case c2 => exact .inr hl2p
          case c3 => exact hz2
          intro v3 w3 hr3 hg3
          have HR3 := Lib.hid hr3
          have HZ3 := Lib.hid (HR2.out.box HZ2.out (by decide) hg3)
          have HB3 := Lib.hid (below_grownRw HB2.out HR2.out hg3 hz2)
          have hz3 := HB3.out.size
          clear hr3 hg3 z0 z1 z2 z3
          obtain ⟨L3, hL3⟩ : ∃ L3, L3 = L2 ++ n1 := ⟨_, rfl⟩
          have hl3 : L3.length = L2.length + n1.length := by rw [hL3, List.length_append]
          rw [← hL3] at HR3
          have HL3 := Lib.hid hL3
          clear hL3
          have z0 : w3.cell? ⟨wq.heap.size, 0, none⟩ = some (.string ⟨n1.toArray⟩) := by have hh := HZ3.out; simp [World.cell?, hh]
          have z1 : w3.cell? ⟨wq.heap.size, 1, none⟩ = some (.int .i64 v1') := by have hh := HZ3.out; simp [World.cell?, hh]
          have z2 : w3.cell? ⟨wq.heap.size, 2, none⟩ = some (.int .i64 d1) := by have hh := HZ3.out; simp [World.cell?, hh]
          have z3 : w3.cell? ⟨wq.heap.size, 3, none⟩ = some (.int .i64 m1) := by have hh := HZ3.out; simp [World.cell?, hh]
          have lb3 : wq.heap.size < w3.heap.size := World.block_lt_of_cell? w3 _ z0
          go_wp2_with fail
          refine (appendTwo_any v3 L3 v1' W.heap.size w3 HR3.out (by omega) hz3).mono ?_
          rintro e w4 ⟨v4, rfl, hr4, hg4⟩
          have HR4 := Lib.hid hr4
          have HZ4 := Lib.hid (HR3.out.box HZ3.out (by decide) hg4)
          have HB4 := Lib.hid (below_grownRw HB3.out HR3.out hg4 hz3)
          have hz4 := HB4.out.size
          clear hr4 hg4 z0 z1 z2 z3
          obtain ⟨L4, hL4⟩ : ∃ L4, L4 = L3 ++ b2 v1' := ⟨_, rfl⟩
          have hl4 : L4.length = L3.length + 2 := by rw [hL4, List.length_append]; rfl
          rw [← hL4] at HR4
          have HL4 := Lib.hid hL4
          clear hL4
          have z0 : w4.cell? ⟨wq.heap.size, 0, none⟩ = some (.string ⟨n1.toArray⟩) := by have hh := HZ4.out; simp [World.cell?, hh]
          have z1 : w4.cell? ⟨wq.heap.size, 1, none⟩ = some (.int .i64 v1') := by have hh := HZ4.out; simp [World.cell?, hh]
          have z2 : w4.cell? ⟨wq.heap.size, 2, none⟩ = some (.int .i64 d1) := by have hh := HZ4.out; simp [World.cell?, hh]
          have z3 : w4.cell? ⟨wq.heap.size, 3, none⟩ = some (.int .i64 m1) := by have hh := HZ4.out; simp [World.cell?, hh]
          have lb4 : wq.heap.size < w4.heap.size := World.block_lt_of_cell? w4 _ z0
          have HZ4a := Lib.hid (show (w4.alloc (.cells #[.int .u8 (d1 % 256)] 5)).heap[wq.heap.size]? = some (.cells #[.string ⟨n1.toArray⟩, .int .i64 v1', .int .i64 d1, .int .i64 m1] 97 (0, 0)) from (heap_alloc_old _ _ lb4).trans HZ4.out)
          go_wp2_with (at_builtin; refine wpList_append_rw _ rfl _ _ 26 rfl W.heap.size _ L4 rfl (HR4.out.alloc _) _ [lo8 d1] rfl (src_built w4 [lo8 d1] _ (by rw [cells_one])) ?c1 ?c2 ?c3 ?_)
          case c1 => simp; omega
          case c2 => exact .inl (by simp)
          case c3 => simp; omega
          intro v5 w5 hr5 hg5
          have HR5 := Lib.hid hr5
          have HZ5 := Lib.hid ((HR4.out.alloc _).box HZ4a.out (by decide) hg5)
          have HB5 := Lib.hid (below_grownRw (HB4.out.alloc hz4 (.cells #[.int .u8 (d1 % 256)] 5)) (HR4.out.alloc _) hg5 (by simp; omega))
          have hz5 := HB5.out.size
          clear hr5 hg5 z0 z1 z2 z3
          obtain ⟨L5, hL5⟩ : ∃ L5, L5 = L4 ++ [lo8 d1] := ⟨_, rfl⟩
          have hl5 : L5.length = L4.length + 1 := by rw [hL5, List.length_append]; rfl
          rw [← hL5] at HR5
          have HL5 := Lib.hid hL5
          clear hL5
          have z0 : w5.cell? ⟨wq.heap.size, 0, none⟩ = some (.string ⟨n1.toArray⟩) := by have hh := HZ5.out; simp [World.cell?, hh]
          have z1 : w5.cell? ⟨wq.heap.size, 1, none⟩ = some (.int .i64 v1') := by have hh := HZ5.out; simp [World.cell?, hh]
          have z2 : w5.cell? ⟨wq.heap.size, 2, none⟩ = some (.int .i64 d1) := by have hh := HZ5.out; simp [World.cell?, hh]
          have z3 : w5.cell? ⟨wq.heap.size, 3, none⟩ = some (.int .i64 m1) := by have hh := HZ5.out; simp [World.cell?, hh]
          have lb5 : wq.heap.size < w5.heap.size := World.block_lt_of_cell? w5 _ z0
          go_wp2_with fail
          refine (appendTwo_any v5 L5 m1 W.heap.size w5 HR5.out (by omega) hz5).mono ?_
          rintro e w6 ⟨v6, rfl, hr6, hg6⟩
          have HR6 := Lib.hid hr6
          have HB6 := Lib.hid (below_grownRw HB5.out HR5.out hg6 hz5)
          clear hr6 hg6 z0 z1 z2 z3
          go_wp2_with fail
          go_roundw
          case rel =>
            refine ⟨k + 1, by omega, by go_num, ?_, HB6.out⟩
            rw [HS.out]
            have h6 := HR6.out
            rw [HL5.out, HL4.out, HL3.out, HL2.out, HL1.out] at h6
            simpa [ebV, List.append_assoc] using h6
          case measure => simp [intOf]; omega
        · have hke : k = es.length := by omega
          have HFin := Lib.hid (show Rw wq W.heap.size _ (tbV [a, b, c, d] es) from by
            have h6 := HRq.out
            rw [hke, List.take_length, HP0.out, HFe.out] at h6
            simpa [tbV, List.append_assoc] using h6)
          have HO := Lib.hid (HBel.out.trans (HBq.out.mono (by omega)))
          have hWw : w.heap.size ≤ W.heap.size := by omega
          clear hke
          go_wp2_with fail
          go_ret
          exact ⟨_, rfl, HFin.out.low hWw, HO.out⟩

end Go.Proofs.Ytblmhhijgdkkoaa
