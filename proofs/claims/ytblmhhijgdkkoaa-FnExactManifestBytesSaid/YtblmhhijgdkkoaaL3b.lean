/-
  The bytes of a tree, as the model lays them.
-/
import Derived.Test.YtblmhhijgdkkoaaEnc
import Derived.StillTailTactics
import Derived.Deep.RegionHeld3
namespace Go.Proofs.Ytblmhhijgdkkoaa
open Go.RowKit Go.Maps

theorem src_bytes (w : World) {L B g o : Nat} {l : List UInt8} (c : Nat) (h : BytesIn w L B (some ⟨g, o, none⟩) l) : Src Try.prog 1 26 (.slice (some ⟨g, o, none⟩) l.length c) l.length (Lib.byteCells l) w := by
  refine Src.ofSlice _ Try.underlying26 ⟨g, o, none⟩ l.length c _ (by simp [cells_length]) (fun j u hj => ?_) (fun u hu => ?_)
  · have hl : j < l.length := by
      have := (List.getElem?_eq_some_iff.1 hj).1
      rwa [cells_length] at this
    obtain ⟨b, o', e, _, _, hc⟩ := h (by omega)
    cases e
    rw [Addr.add_lit, hc j hl, ← hj]
    simp [Lib.byteCells, hl]
  · simp only [Lib.byteCells, List.mem_map] at hu
    obtain ⟨b, _, rfl⟩ := hu
    rfl

theorem b2s_succ (vec : List Int) (k : Nat) (h : k < vec.length) : (vec.take (k + 1)).flatMap b2 = (vec.take k).flatMap b2 ++ b2 vec[k] := by
  rw [List.take_succ_eq_append_getElem h, List.flatMap_append]
  simp
theorem cells_five (v d m : Int) : Lib.byteCells (b2 v ++ ([lo8 d] ++ b2 m)) = [.int .u8 (v / 256 % 256), .int .u8 (v % 256), .int .u8 (d % 256), .int .u8 (m / 256 % 256), .int .u8 (m % 256)] := by
  rw [cells_append, cells_append, cells_two, cells_two, cells_one]
  rfl

set_option maxRecDepth 100000 in
set_option maxHeartbeats 4000000 in
theorem l3bytes_any (AV : Option Addr) (vec : List Int) (cv : Nat) (A : Option Addr) (es : List En) (c : Nat) (w : World) (hV : IntsIn w 0 w.heap.size AV vec) (hA : EnsIn w 0 w.heap.size A es) (hv : vec.length ≤ 1000) (hn : es.length ≤ 1000) (hbk : ebulk es ≤ 1048576) (hnp : ∀ i (hi : i < es.length), 0 < es[i].name.length) :
    Calls Try.prog 69 #[.agg #[.slice AV vec.length cv, .slice A es.length c]] w (NewRw (tbV vec es) w) := by
  have HV := Lib.hid hV
  have HA := Lib.hid hA
  have HNp := Lib.hid hnp
  clear hV hA hnp
  go_enter Try.func69, Try.ntmps69
  go_wp2_with fail
  obtain ⟨W, hW⟩ : ∃ W, W = w.alloc (.cells #[.slice AV vec.length cv, .slice A es.length c] 30) := ⟨_, rfl⟩
  have HX := Lib.hid (show Bx W w.heap.size [.slice AV vec.length cv, .slice A es.length c] by rw [hW]; exact Bx.new' _ _ _ _ rfl)
  have HBel := Lib.hid (show Below w.heap.size w W by rw [hW]; exact (Below.refl _ _).alloc (Nat.le_refl _) _)
  have hz : w.heap.size < W.heap.size := by rw [hW]; simp
  rw [← hW]
  clear hW
  go_loopw [3, 4] (fun x i wr => ∃ k : Nat, k ≤ vec.length ∧ i = .int .i64 k ∧ Rw wr W.heap.size x ((vec.take k).flatMap b2) ∧ Below W.heap.size W wr) (fun _ i _ => vec.length - (intOf i).toNat)
  case atStart => exact ⟨0, by omega, rfl, by simpa using Rw.nil _ _, Below.refl _ _⟩
  case round =>
    obtain ⟨k, hk, rfl, hrw, hbel⟩ := hrel
    have HRw := Lib.hid hrw
    have HBr := Lib.hid hbel
    have hzr := hbel.size
    have x0 := (hbel.cell (p := ⟨w.heap.size, 0, none⟩) hz).trans (HX.out 0 (by simp))
    have x1 := (hbel.cell (p := ⟨w.heap.size, 1, none⟩) hz).trans (HX.out 1 (by simp))
    simp only [List.getElem_cons_succ, List.getElem_cons_zero] at x0 x1
    have lw : w.heap.size < wr.heap.size := by omega
    clear hrw hbel
    by_cases hlt : k < vec.length
    · obtain ⟨bV, oV, hAe, _, hbV, hcV⟩ := HV.out (by omega)
      have hcell := (HBr.out.cell (p := ⟨bV, oV + k, none⟩) (by show bV < _; omega)).trans ((HBel.out.cell (p := ⟨bV, oV + k, none⟩) hbV).trans (hcV k hlt))
      have HS := Lib.hid (b2s_succ vec k hlt)
      have hl := b2s_length (vec.take k)
      have hl2 : (vec.take k).length ≤ 1000 := by simp; omega
      obtain ⟨x, hx⟩ : ∃ x, x = vec[k] := ⟨_, rfl⟩
      rw [← hx] at hcell HS
      obtain ⟨F, hF⟩ : ∃ F, F = (vec.take k).flatMap b2 := ⟨_, rfl⟩
      rw [← hF] at HRw HS hl
      subst hAe
      have lb : bV < wr.heap.size := by omega
      clear hx hF hcV
      have hlt' : (k : Int) < (vec.length : Int) := by omega
      go_wp2_with fail
      have HCell := Lib.hid (show ∀ X, Below W.heap.size W X → X.cell? ⟨w.heap.size, 0, none⟩ = some (.slice (some ⟨bV, oV, none⟩) vec.length cv) ∧ X.cell? ⟨bV, oV + k, none⟩ = some (.int .i64 x) from fun X hX => ⟨(hX.cell (p := ⟨w.heap.size, 0, none⟩) hz).trans ((HBr.out.cell (p := ⟨w.heap.size, 0, none⟩) hz).symm.trans x0), (hX.cell (p := ⟨bV, oV + k, none⟩) (by show bV < _; omega)).trans ((HBr.out.cell (p := ⟨bV, oV + k, none⟩) (by show bV < _; omega)).symm.trans hcell)⟩)
      have hpos2 : 0 < (b2 x).length := by simp [b2]
      have hlim2 : F.length + (b2 x).length ≤ 100000000 := by have : (b2 x).length = 2 := rfl; omega
      go_region_held3 (fun X => X.cell? ⟨w.heap.size, 0, none⟩ = some (.slice (some ⟨bV, oV, none⟩) vec.length cv) ∧ X.cell? ⟨bV, oV + k, none⟩ = some (.int .i64 x))
        (first | (refine HCell.out _ ?_; repeat first | with_reducible exact HBr.out | with_reducible exact hb5 | with_reducible apply Below.drew | with_reducible refine Below.alloc ?_ (by first | omega | (simp; done) | (simp; omega)) _))
        (first
          | (refine step_append_rw _ (by rfl) _ _ 26 (by rfl) W.heap.size _ F (by rfl) (HRw.out.alloc _).drew (.slice (some ⟨wr.heap.size, 0, none⟩) 2 2) (b2 x) (by rfl) (src_built_drew _ wr.heap.size rfl (b2 x) _ (by rw [cells_two, ← wrap8, ← wrap8])) hlim2 (Or.inl hpos2) (by simp; omega) ?_
             intro v1 w1 hr1 hg1
             have HR1 := Lib.hid hr1
             have hb5 : Below W.heap.size W w1 := below_grownRw (HBr.out.alloc hzr _).drew (HRw.out.alloc _).drew hg1 (by simp; omega)
             have HB1 := Lib.hid hb5
             clear hr1 hg1))
      go_wp2_with fail
      go_roundw
      case rel => exact ⟨k + 1, by omega, by go_num, by rw [HS.out]; exact HR1.out, HB1.out⟩
      case measure => simp [intOf]; omega
    · have hke : k = vec.length := by omega
      subst hke
      rw [List.take_length] at HRw
      have hl := b2s_length vec
      obtain ⟨F, hF⟩ : ∃ F, F = vec.flatMap b2 := ⟨_, rfl⟩
      rw [← hF] at HRw hl
      have HFe := Lib.hid hF
      clear hF
      have hge : ¬ (vec.length : Int) < (vec.length : Int) := by omega
      go_wp2_with (at_builtin; refine wpList_append_rw _ rfl _ _ 26 rfl W.heap.size _ F rfl (HRw.out.alloc _) _ [lo8 es.length] rfl (src_built wr [lo8 es.length] _ (by rw [cells_one])) ?c1 ?c2 ?c3 ?_)
      try case c1 => first | omega | (simp; omega)
      try case c2 => exact .inl (by simp)
      try case c3 => first | omega | (simp; omega)
      intro v1 w1 hr1 hg1
      have HR1 := Lib.hid hr1
      have HB1 := Lib.hid (below_grownRw (HBr.out.alloc hzr (.cells #[.int .u8 ((es.length : Int) % 256)] 5)) (HRw.out.alloc _) hg1 (by simp; omega))
      have hz1 := HB1.out.size
      obtain ⟨P0, hP0⟩ : ∃ P0, P0 = F ++ [lo8 es.length] := ⟨_, rfl⟩
      have hPl : P0.length = F.length + 1 := by rw [hP0, List.length_append]; rfl
      rw [← hP0] at HR1
      have HP0 := Lib.hid hP0
      clear hr1 hg1 hP0 HRw x0 x1
      go_wp2_with fail
      go_loopw [3, 5] (fun x i ww => ∃ k : Nat, k ≤ es.length ∧ i = .int .i64 k ∧ Rw ww W.heap.size x (P0 ++ (es.take k).flatMap ebV) ∧ Below W.heap.size W ww) (fun _ i _ => es.length - (intOf i).toNat)
      case atStart => exact ⟨0, Nat.zero_le _, rfl, by simpa using HR1.out, HB1.out⟩
      case round =>
        rename World => wq
        obtain ⟨k, hk, rfl, hrw, hbel⟩ := hrel
        have HRq := Lib.hid hrw
        have HBq := Lib.hid hbel
        have hzq := hbel.size
        have x1 := (hbel.cell (p := ⟨w.heap.size, 1, none⟩) hz).trans (HX.out 1 (by simp))
        simp only [List.getElem_cons_succ, List.getElem_cons_zero] at x1
        have lq : w.heap.size < wq.heap.size := by omega
        clear hrw hbel
        by_cases hlt : k < es.length
        · obtain ⟨bA, oA, hAe, _, hbA, hcA⟩ := HA.out (by omega)
          have HO := Lib.hid (HBel.out.trans (HBq.out.mono (by omega)))
          obtain ⟨An, cn, c0, c1, c2, c3, hby⟩ := (hcA k hlt).keep (Nat.zero_le _) hbA (fun p _ hp => HO.out.cell hp)
          have HS := Lib.hid (ebs_take_succ es k hlt)
          have hql := ebs_length (es.take k)
          have hqb := ebulk_take_succ es k hlt
          have hqe := ebulk_take_le es (k + 1)
          have hnp := HNp.out k hlt
          obtain ⟨e, he⟩ : ∃ e, e = es[k] := ⟨_, rfl⟩
          rw [← he] at c0 c1 c2 c3 HS hqb hby hnp
          have htl : (es.take k).length ≤ 1000 := by simp; omega
          obtain ⟨F2, hF2⟩ : ∃ F2, F2 = (es.take k).flatMap ebV := ⟨_, rfl⟩
          rw [← hF2] at HRq HS hql
          have hnl : e.name.length ≤ 1048576 := by omega
          have hFl : F2.length ≤ 2000000 := by omega
          clear hcA he hF2 hql hqb hqe
          subst hAe
          obtain ⟨n1, v1', d1, m1⟩ := e
          simp only at c0 c1 c2 c3 hnl hby hnp
          obtain ⟨gN, oN, hgN, _, hgb, _⟩ := hby hnp
          subst hgN
          have HBy := Lib.hid hby
          clear hby
          have hlt' : (k : Int) < (es.length : Int) := by omega
          have lA : bA < wq.heap.size := by omega
          obtain ⟨L1, hL1⟩ : ∃ L1, L1 = P0 ++ F2 := ⟨_, rfl⟩
          have hl1 : L1.length ≤ 2100000 := by rw [hL1, List.length_append]; omega
          rw [← hL1] at HRq
          have HL1 := Lib.hid hL1
          clear hL1
          go_wp2_with fail
          obtain ⟨Wb, hWb⟩ : ∃ Wb, Wb = wq.alloc (.cells #[.slice (some ⟨gN, oN, none⟩) n1.length cn, .int .i64 v1', .int .i64 d1, .int .i64 m1] 93) := ⟨_, rfl⟩
          have HRb := Lib.hid (show Rw Wb W.heap.size _ L1 by rw [hWb]; exact HRq.out.alloc _)
          have HZb := Lib.hid (show Wb.heap[wq.heap.size]? = some (.cells #[.slice (some ⟨gN, oN, none⟩) n1.length cn, .int .i64 v1', .int .i64 d1, .int .i64 m1] 93 (0, 0)) by rw [hWb]; exact heap_alloc_new _ _)
          have HBb := Lib.hid (show Below W.heap.size W Wb by rw [hWb]; exact HBq.out.alloc hzq _)
          have HByb := Lib.hid (show BytesIn Wb 0 w.heap.size (some ⟨gN, oN, none⟩) n1 from HBy.out.keep fun p _ hp => by rw [hWb]; exact World.cell?_alloc_lt _ _ _ (by omega))
          have hzb := HBb.out.size
          have hlb : wq.heap.size < Wb.heap.size := by rw [hWb]; simp
          rw [← hWb]
          clear hWb c0 c1 c2 c3 x1 HRq HBq HBy
          have q0 : Wb.cell? ⟨wq.heap.size, 0, none⟩ = some (.slice (some ⟨gN, oN, none⟩) n1.length cn) := by have hh := HZb.out; simp [World.cell?, hh]
          have hpos : 0 < ([lo8 n1.length] : List UInt8).length := by simp
          have hlim : L1.length + ([lo8 n1.length] : List UInt8).length ≤ 100000000 := by simp; omega
          have HZc := Lib.hid (show (Wb.alloc (.cells #[.int .u8 (IntKind.u8.wrap (n1.length : Int))] 5)).drew.heap[wq.heap.size]? = some (.cells #[.slice (some ⟨gN, oN, none⟩) n1.length cn, .int .i64 v1', .int .i64 d1, .int .i64 m1] 93 (0, 0)) from (heap_alloc_old Wb _ hlb).trans HZb.out)
          go_region_held3 (fun X => X.cell? ⟨wq.heap.size, 0, none⟩ = some (.slice (some ⟨gN, oN, none⟩) n1.length cn))
            (first | with_reducible exact q0 | with_reducible exact q5 | with_reducible exact q6 | exact q0 | exact (World.cell?_alloc_lt Wb _ ⟨wq.heap.size, 0, none⟩ hlb).trans q0)
            (first
              | (refine step_append_rw _ (by rfl) _ _ 26 (by rfl) W.heap.size _ L1 (by rfl) (HRb.out.alloc _).drew (.slice (some ⟨Wb.heap.size, 0, none⟩) 1 1) [lo8 n1.length] (by rfl) (src_built_drew _ Wb.heap.size rfl [lo8 n1.length] _ (by rw [cells_one, ← wrap8])) hlim (Or.inl hpos) (by simp; omega) ?_
                 intro v5 w5 hr5 hg5
                 have HR5 := Lib.hid hr5
                 have HZ5 := Lib.hid ((HRb.out.alloc _).drew.box HZc.out (by decide) hg5)
                 have HB5 := Lib.hid (below_grownRw (HBb.out.alloc hzb _).drew (HRb.out.alloc _).drew hg5 (by simp; omega))
                 have hz5 := HB5.out.size
                 have q5 : w5.cell? ⟨wq.heap.size, 0, none⟩ = some (.slice (some ⟨gN, oN, none⟩) n1.length cn) := by have hh := HZ5.out; simp [World.cell?, hh]
                 have HBy5 := Lib.hid (show BytesIn w5 0 w.heap.size (some ⟨gN, oN, none⟩) n1 from HByb.out.keep fun p _ hp => (HB5.out.cell (by omega)).trans (HBb.out.cell (by omega)).symm)
                 have hl5 : (L1 ++ [lo8 n1.length]).length = L1.length + 1 := by rw [List.length_append]; rfl
                 clear hr5 hg5)
              | (refine step_append_rw _ (by rfl) _ _ 26 (by rfl) W.heap.size v5 (L1 ++ [lo8 n1.length]) (by rfl) HR5.out (.slice (some ⟨gN, oN, none⟩) n1.length cn) n1 (by rfl) (src_bytes _ cn HBy5.out) (by omega) (Or.inl hnp) hz5 ?_
                 intro v6 w6 hr6 hg6
                 have HR6 := Lib.hid hr6
                 have HZ6 := Lib.hid (HR5.out.box HZ5.out (by decide) hg6)
                 have HB6 := Lib.hid (below_grownRw HB5.out HR5.out hg6 hz5)
                 have hz6 := HB6.out.size
                 have q6 : w6.cell? ⟨wq.heap.size, 0, none⟩ = some (.slice (some ⟨gN, oN, none⟩) n1.length cn) := by have hh := HZ6.out; simp [World.cell?, hh]
                 clear hr6 hg6))
          obtain ⟨L3, hL3⟩ : ∃ L3, L3 = L1 ++ [lo8 n1.length] ++ n1 := ⟨_, rfl⟩
          have hl3 : L3.length = L1.length + 1 + n1.length := by rw [hL3, List.length_append, hl5]
          rw [← hL3] at HR6
          have HL3 := Lib.hid hL3
          clear hL3 q0 q5
          have z1 : w6.cell? ⟨wq.heap.size, 1, none⟩ = some (.int .i64 v1') := by have hh := HZ6.out; simp [World.cell?, hh]
          have z2 : w6.cell? ⟨wq.heap.size, 2, none⟩ = some (.int .i64 d1) := by have hh := HZ6.out; simp [World.cell?, hh]
          have z3 : w6.cell? ⟨wq.heap.size, 3, none⟩ = some (.int .i64 m1) := by have hh := HZ6.out; simp [World.cell?, hh]
          have lb6 : wq.heap.size < w6.heap.size := World.block_lt_of_cell? w6 _ z1
          obtain ⟨L4, hL4⟩ : ∃ L4, L4 = b2 v1' ++ ([lo8 d1] ++ b2 m1) := ⟨_, rfl⟩
          have hl4 : L4.length = 5 := by rw [hL4]; rfl
          have hc4 : Lib.byteCells L4 = [.int .u8 (v1' / 256 % 256), .int .u8 (v1' % 256), .int .u8 (d1 % 256), .int .u8 (m1 / 256 % 256), .int .u8 (m1 % 256)] := by rw [hL4]; exact cells_five v1' d1 m1
          have HL4 := Lib.hid hL4
          have HC4 := Lib.hid hc4
          have hs4 : Src Try.prog 1 26 (.slice (some ⟨w6.heap.size, 0, none⟩) 5 5) L4.length (Lib.byteCells L4) (w6.alloc (.cells #[.int .u8 (v1' / 256 % 256), .int .u8 (v1' % 256), .int .u8 (d1 % 256), .int .u8 (m1 / 256 % 256), .int .u8 (m1 % 256)] 5)) := by
            have h := src_built w6 L4 #[.int .u8 (v1' / 256 % 256), .int .u8 (v1' % 256), .int .u8 (d1 % 256), .int .u8 (m1 / 256 % 256), .int .u8 (m1 % 256)] (by rw [HC4.out])
            rw [hl4] at h ⊢
            exact h
          have HS4 := Lib.hid hs4
          clear hL4 hc4 hs4 q6
          go_wp2_with (at_builtin; refine wpList_append_rw _ rfl _ _ 26 rfl W.heap.size _ L3 rfl (HR6.out.alloc _) _ L4 rfl HS4.out ?d1 ?d2 ?d3 ?_)
          try case d1 => first | omega | (simp; omega)
          try case d2 => exact .inl (by omega)
          try case d3 => first | omega | (simp; omega)
          intro v7 w7 hr7 hg7
          have HR7 := Lib.hid hr7
          have HB7 := Lib.hid (below_grownRw (HB6.out.alloc hz6 _) (HR6.out.alloc _) hg7 (by simp; omega))
          clear hr7 hg7 z1 z2 z3
          go_wp2_with fail
          go_roundw
          case rel =>
            refine ⟨k + 1, by omega, by go_num, ?_, HB7.out⟩
            rw [HS.out]
            have h6 := HR7.out
            rw [HL4.out, HL3.out, HL1.out] at h6
            simpa [ebV, List.append_assoc] using h6
          case measure => simp [intOf]; omega
        · have hke : k = es.length := by omega
          have HFin := Lib.hid (show Rw wq W.heap.size _ (tbV vec es) from by
            have h6 := HRq.out
            rw [hke, List.take_length, HP0.out, HFe.out] at h6
            simpa [tbV, List.append_assoc] using h6)
          have HO := Lib.hid (HBel.out.trans (HBq.out.mono (by omega)))
          have hWw : w.heap.size ≤ W.heap.size := by omega
          clear hke
          go_wp2_with fail
          go_ret
          exact ⟨_, rfl, HFin.out.low hWw, HO.out⟩

end Go.Proofs.Ytblmhhijgdkkoaa
