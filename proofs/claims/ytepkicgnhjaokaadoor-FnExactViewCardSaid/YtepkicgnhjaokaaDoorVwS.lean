/-
  The model's View.
-/
import Derived.Test.YtepkicgnhjaokaaDoorGVwA
import Derived.Test.YtepkicgnhjaokaaDoorTxtT
import Derived.Test.YtepkicgnhjaokaaDoorKept
import Derived.Test.YtepkicgnhjaokaaDoorGOw
import Derived.Test.YtepkicgnhjaokaaDoorGCmp
namespace Go.Proofs.YtepkicgnhjaokaaDoor
open Go.RowKit Go.Maps

/-- One byte in a block of its own. -/
def OneH (u : Int) (q : Nat) (W : World) : Prop := W.heap[q]? = some (.cells #[.int .u8 u] 5 (0, 0))
section
variable {u : Int} {q : Nat} {W W' : World}
theorem OneH.fresh (h : W.heap.size = q) : OneH u q (W.alloc (.cells #[.int .u8 u] 5)) := by
  subst h
  exact heap_alloc_new W _
theorem OneH.lt (h : OneH u q W) : q < W.heap.size := (Array.getElem?_eq_some_iff.1 h).1
theorem OneH.drew (h : OneH u q W) : OneH u q W.drew := h
theorem OneH.alloc (h : OneH u q W) (o : Obj) : OneH u q (W.alloc o) := (heap_alloc_old W o h.lt).trans h
theorem OneH.below (h : OneH u q W) (hb : Below W.heap.size W W') : OneH u q W' := (hb.block q h.lt).trans h
theorem OneH.grownB (h : OneH u q W) {B n : Nat} {v : Value} {xs : List Value} (hr : Byt W B 5 v n xs) (h2 : 2 ≤ n) (hg : W.grownBy W' v.ownBlock) : OneH u q W' := by
  refine (hg.block q h.lt (fun e => ?_)).trans h
  obtain ⟨_, g, cap, cur, fz, rfl, _, hb, _, hle, _, hsz, _⟩ := hr
  simp [Value.ownBlock] at e
  subst e
  unfold OneH at h
  rw [hb] at h
  simp at h
  obtain ⟨rfl, _⟩ := h
  simp at hsz
  omega
theorem OneH.grownL (h : OneH u q W) {L : Nat} {row : Option Nat} (hq : L ≤ q) (hr : ∀ k, row = some k → k < L) (hg : W.grownBy W' row) : OneH u q W' :=
  (hg.block q h.lt (fun e => by have := hr q e.symm; omega)).trans h
theorem OneH.src (h : OneH u q W) : Src Tryd.prog 1 22 (.slice (some ⟨q, 0, none⟩) 1 1) 1 [.int .u8 u] W :=
  Src.ofSlice _ Tryd.underlying22 ⟨q, 0, none⟩ 1 1 _ rfl (fun j x hj => by
    match j, hj with
    | 0, hj =>
      simp at hj
      subst hj
      unfold OneH at h
      simp [Addr.add, World.cell?, h]) (fun x hx => by simp at hx; subst hx; rfl)
end

theorem vw_np {vec : List Int} {es : List En} (h : treeB vec es = true) : ∀ e ∈ es, 1 ≤ e.name.length := by
  intro e he
  unfold treeB at h
  simp only [Bool.and_eq_true, List.all_eq_true] at h
  have hn := h.1.2 e he
  cases hl : e.name with
  | nil =>
    rw [hl] at hn
    exact absurd hn (by decide)
  | cons x l => simp

set_option maxRecDepth 100000 in
set_option maxHeartbeats 4000000 in
theorem specView_any (AV : Option Addr) (vec : List Int) (cv : Nat) (A : Option Addr) (es : List En) (c : Nat) (w : World) (hV : IntsIn w 0 w.heap.size AV vec) (hA : EnsIn w 0 w.heap.size A es) (hv : vec.length ≤ 1048576) (hn : es.length ≤ 1048576) (hbk : ebulk es ≤ 1048576) (hc : es.length ≤ c := by omega) :
    Calls Tryd.prog 24 #[.agg #[.slice AV vec.length cv, .slice A es.length c]] w (NewFs (vwL vec es) w) := by
  have HV := Lib.hid hV
  have HA := Lib.hid hA
  have HNum := Lib.hid (@vw_nums vec es)
  have HL12 := Lib.hid (@treeB_len' vec es)
  have HNp := Lib.hid (@vw_np vec es)
  have HVl := Lib.hid (show vwL vec es = (if treeB vec es then vwE es else []) from rfl)
  clear hV hA
  go_enter Tryd.func24, Tryd.ntmps24
  go_wp2_with fail
  obtain ⟨W0, hW0⟩ : ∃ W0, W0 = w.alloc (.cells #[.slice AV vec.length cv, .slice A es.length c] 34) := ⟨_, rfl⟩
  have hb0 : Below w.heap.size w W0 := by rw [hW0]; exact (Below.refl _ _).alloc (Nat.le_refl _) _
  have hz0 : w.heap.size < W0.heap.size := by rw [hW0]; simp
  have HX0 := Lib.hid (show Bx W0 w.heap.size [.slice AV vec.length cv, .slice A es.length c] by rw [hW0]; exact Bx.new' _ _ _ _ rfl)
  have HB0 := Lib.hid hb0
  rw [← hW0]
  clear hW0 hb0
  refine (specTreeOk_any AV vec cv A es c W0 ((HV.out.keep fun p _ hp => HB0.out.cell hp).mono (by omega)) ((HA.out.below HB0.out).mono (by omega)) hv hn hbk hc).mono ?_
  rintro r W ⟨rfl, hbW⟩
  have HB := Lib.hid (show Below w.heap.size w W from HB0.out.trans (hbW.mono (by omega)))
  have HX := Lib.hid (HX0.out.below hbW hz0)
  have hzW : w.heap.size < W.heap.size := by have := hbW.size; omega
  have HE := Lib.hid (show EnsIn W 0 W.heap.size A es from (HA.out.below HB.out).mono (by omega))
  clear hbW
  obtain ⟨tb, htb⟩ : ∃ tb, tb = treeB vec es := ⟨_, rfl⟩
  rw [← htb] at HNum HVl HL12 HNp ⊢
  clear htb
  cases tb with
  | false =>
    go_wp2_with fail
    go_ret
    rw [HVl.out]
    exact ⟨none, 0, rfl, FsOwn.nil, HB.out⟩
  | true =>
  have hnum := HNum.out rfl
  have HN := Lib.hid hnum
  have hl12 := HL12.out rfl
  have HP1 := Lib.hid (HNp.out rfl)
  have HVl2 := Lib.hid (show vwL vec es = vwE es from by rw [HVl.out]; rfl)
  clear hnum HNum HVl
  obtain ⟨i0, hi, hq0, hq1, hq2⟩ := info_parts (show (Tryd.prog.info? 5).map (fun i => (i.zero, i.size, i.bytes)) = some (some (.int .u8 0), 1, 1) by kernel_rfl)
  go_wp2_with fail
  go_loopw [3, 4] (fun x i wr => ∃ (k : Nat) (A' : Option Addr) (c' : Nat) (vs : List Value) (G : List Nat), k ≤ es.length ∧ i = .int .i64 k ∧ x = .slice A' k c' ∧ wr.ownsRow W.heap.size 47 2 (.slice A' k c') k vs ∧ FRel wr W.heap.size (vwE es) k vs G ∧ Below W.heap.size W wr ∧ W.heap.size ≤ wr.heap.size) (fun _ i _ => es.length - (intOf i).toNat)
  case atStart => exact ⟨0, none, 0, [], [], Nat.zero_le _, rfl, rfl, World.ownsRow_nil _ _ _ _, FRel.nil _ _ _, Below.refl _ _, Nat.le_refl _⟩
  case round =>
    obtain ⟨k, A', c', vs, G, hk, rfl, rfl, hown, hout, hbel, hzr⟩ := hrel
    have HOwn := Lib.hid hown
    have HOut := Lib.hid hout
    have HBr := Lib.hid hbel
    have HO := Lib.hid (HB.out.trans (hbel.mono (by omega)))
    have y1 := (HX.out.below hbel hzW) 1 (by simp)
    simp only [List.getElem_cons_succ, List.getElem_cons_zero] at y1
    clear hown hout hbel
    by_cases hlt : k < es.length
    · obtain ⟨bA, oA, hAe, _, hbA, hcA⟩ := HE.out (by omega)
      have HCA := Lib.hid hcA
      obtain ⟨An, cn, c0, c1, c2, c3, hby⟩ := (hcA k hlt).keep (Nat.zero_le _) hbA (fun p _ hp => HBr.out.cell hp)
      obtain ⟨e, he⟩ : ∃ e, e = es[k] := ⟨_, rfl⟩
      rw [← he] at c0 c1 c2 c3 hby
      have HEe := Lib.hid (show es.getD k default = e by rw [he]; simp [hlt])
      have hnu := HN.out es[k] (List.getElem_mem hlt)
      have hnp := HP1.out es[k] (List.getElem_mem hlt)
      rw [← he] at hnu hnp
      subst hAe
      clear hcA he
      obtain ⟨n1, v1, d1, m1⟩ := e
      simp only at c0 c1 c2 c3 hnu hnp hby
      have HBy := Lib.hid hby
      obtain ⟨hd0, hd4, hm0, hm1⟩ := hnu
      obtain ⟨du, rfl⟩ := Int.eq_ofNat_of_zero_le hd0
      obtain ⟨mu, rfl⟩ := Int.eq_ofNat_of_zero_le hm0
      have hlt' : (k : Int) < (es.length : Int) := by omega
      have hnl : n1.length ≤ 1048576 := by
        have := name_le_ebulk es k hlt
        have h2 := HEe.out
        rw [show es[k] = es.getD k default by simp [hlt], h2] at this
        exact Nat.le_trans this hbk
      clear hby
      obtain ⟨W7, hW7⟩ : ∃ W7, W7 = wr.alloc (.cells #[.slice An n1.length cn, .int .i64 v1, .int .i64 (du : Int), .int .i64 (mu : Int)] 49) := ⟨_, rfl⟩
      have hb7 : Below wr.heap.size wr W7 := by rw [hW7]; exact (Below.refl _ _).alloc (Nat.le_refl _) _
      have hz7 : wr.heap.size < W7.heap.size := by rw [hW7]; simp
      have hz7e : W7.heap.size = wr.heap.size + 1 := by rw [hW7]; simp
      have HZ7e := Lib.hid hz7e
      have HZ7 := Lib.hid (show Bx W7 wr.heap.size [.slice An n1.length cn, .int .i64 v1, .int .i64 (du : Int), .int .i64 (mu : Int)] by rw [hW7]; exact Bx.new' _ _ _ _ rfl)
      have HB7 := Lib.hid hb7
      clear hz7e
      go_upto_region 8 with fail
      rw [← hW7]
      clear hW7 hb7 c0 c1 c2 c3 y1
      have z0 := HZ7.out 0 (by simp)
      simp only [List.getElem_cons_zero] at z0
      obtain ⟨W8, hW8⟩ : ∃ X, X = W7.alloc (.cells #[] 5) := ⟨_, rfl⟩
      have hE8 : W8.heap[W7.heap.size]? = some (.cells #[] 5 (0, 0)) := by rw [hW8]; exact heap_alloc_new W7 _
      have HE8 := Lib.hid (owns_empty (base := W7.heap.size) (Nat.le_refl _) hE8)
      have hb8 : Below W7.heap.size W7 W8 := by rw [hW8]; exact (Below.refl _ _).alloc (Nat.le_refl _) _
      have hz8 : W7.heap.size < W8.heap.size := by rw [hW8]; simp
      have HB8 := Lib.hid hb8
      have HSrc := Lib.hid (show BytesIn W8 0 W.heap.size An n1 from HBy.out.keep fun p _ hp => (hb8.cell (by omega)).trans (HB7.out.cell (by omega)))
      have hvb : (vbytes n1).length = n1.length * 1 := by rw [vb_length]; omega
      clear hE8 hb8
      subst hW8
      go_wp2_with (at_builtin; refine wpList_append_any _ rfl _ _ 22 rfl W7.heap.size 5 i0 (.int .u8 0) 1 1 Tryd.underlying22 hi hq0 hq1 hq2 rfl (by decide) _ _ _ rfl HE8.out An n1.length cn (vbytes n1) rfl hvb (bytes_src HSrc.out) (vb_one _) ?c3 ?c4 ?c5 ?_)
      case c3 => unfold maxLen; omega
      case c4 => omega
      case c5 => first | omega | (simp; done) | (simp; omega)
      intro A9 c9 w9 hrow9 hgr9 hne9
      have hby9 : Byt w9 W7.heap.size 5 (.slice A9 n1.length c9) n1.length (Lib.byteCells n1) := by
        try simp only [Nat.zero_add, List.nil_append] at hrow9
        exact Byt.of hrow9 (by intro e; injection e with _ h2 _; omega)
      have HBy9 := Lib.hid hby9
      have HB9 := Lib.hid (show Below W7.heap.size W7 w9 from HB8.out.grown hgr9 (by omega) (fun g hg => by cases hg; exact Nat.le_refl _))
      have hz9 := HB9.out.size
      clear hrow9 hgr9 hne9 hby9 z0 HE8 HSrc
      have hkc : k = 0 ∨ ∃ p, k = p + 1 := by cases k with | zero => exact .inl rfl | succ p => exact .inr ⟨p, rfl⟩
      rcases hkc with rfl | ⟨p, rfl⟩
      · have HSb := Lib.hid (show stB es 0 = true from by simp [stB])
        have HO9 := Lib.hid (show Below W.heap.size W w9 from HBr.out.trans ((HB7.out.trans (HB9.out.mono (by omega))).mono hzr))
        have a0 := (HZ7.out.below HB9.out hz7) 0 (by simp)
        simp only [List.getElem_cons_zero] at a0
        have t1 := (HX.out.below HO9.out hzW) 1 (by simp)
        simp only [List.getElem_cons_succ, List.getElem_cons_zero] at t1
        have q0 : ∀ x : Kp w9, x.val.cell? ⟨w.heap.size, 1, none⟩ = some (.slice (some ⟨bA, oA, none⟩) es.length c) := fun x => x.cell t1
        have q1 : ∀ x : Kp w9, x.val.cell? ⟨wr.heap.size, 0, none⟩ = some (.slice An n1.length cn) := fun x => x.cell a0
        have k1 := fun x : Kp w9 => run_str (w := x.val) (HBy.out.keep fun p _ hp => (x.ok.cell (by omega)).trans (((HB9.out.cell (by omega)).trans (HB7.out.cell (by omega))))) cn
        clear a0 t1
        go_upto_region 9 with fail
        have hk0 : ¬ ((0 : Int) < 0) := by omega
        refine wp_region_kept (by kernel_rfl) (by kernel_rfl) ?_
        repeat (go_big_quiet_step (fail))
        refine wpQuiet_nil ?_
        rintro w10 ⟨⟨_, hb10⟩, rfl⟩
        have HB10 := Lib.hid (show Below W7.heap.size W7 w10 from HB9.out.trans (hb10.mono (by omega)))
        have HBy10 := Lib.hid (HBy9.out.same fun g hg => hb10.block g hg)
        have hz10 := HB10.out.size
        clear hb10 q0 q1 k1
        have HNmE := Lib.hid (show vwName es 0 = n1 by rw [vwName_true HSb.out, HEe.out])
        have HByE := Lib.hid (show Byt w10 W7.heap.size 5 _ (vwName es 0).length (Lib.byteCells (vwName es 0)) by rw [HNmE.out]; exact HBy10.out)
        have HBE := Lib.hid HB10.out
        have HZe := Lib.hid (HZ7.out.below HBE.out hz7)
        have e1 := HZe.out 1 (by simp)
        simp only [List.getElem_cons_succ, List.getElem_cons_zero] at e1
        obtain ⟨nm, hnm0⟩ : ∃ y, y = vwName es 0 := ⟨_, rfl⟩
        rw [← hnm0] at HByE
        have HNm0 := Lib.hid hnm0
        obtain ⟨g, cg, hve, hgB, hnm⟩ := nameAt_byt HByE.out
        have HNm := Lib.hid hnm
        have hzE := HBE.out.size
        have HBrE := Lib.hid (show Below wr.heap.size wr w10 from HB7.out.trans (HBE.out.mono (by omega)))
        have HOwnE := Lib.hid (ownsRow_below HOwn.out HBrE.out fun g hg => (HOwn.out.lt g hg).2)
        have HOutE := Lib.hid (show FRel w10 W.heap.size (vwE es) 0 vs G from HOut.out.keep fun i hi => HBrE.out.block _ (HOut.out.nm i hi).2.lt)
        obtain ⟨i1, hi1, hy0, hy1, hy2⟩ := info_parts Tryd.infoFile
        clear hnm0 hnm
        injection hve with hA hl hC
        subst hA
        have hC2 := hC.symm
        subst hC2
        have hn1 : nm = n1 := by rw [HNm0.out, HNmE.out]
        subst hn1
        go_wp2_with (at_builtin; refine wpList_append_own _ rfl _ _ 42 rfl W.heap.size 47 i1 (.agg #[.slice none 0 0, .int .i64 0]) 2 32 Tryd.underlying42 hi1 hy0 hy1 hy2 rfl (by decide) _ _ _ rfl (HOwnE.out.alloc _) ⟨w10.heap.size, 0, none⟩ 1 1 [.slice (some ⟨g, 0, none⟩) nm.length cg, .int .i64 v1] rfl rfl ?za1 ?za2 ?za3 ?za4 ?za5 ?_)
        try case za1 => exact new2F _ _ _ _
        case za2 => first | (intro u hu; simp at hu; rcases hu with rfl | rfl <;> rfl) | exact ⟨rfl, rfl⟩
        case za3 => unfold maxLen; omega
        try case za4 => omega
        case za5 => first | omega | (simp; omega)
        intro v' w5 hrow5 hgr5 _
        obtain ⟨A5, c5, rfl⟩ := row_shapeN hrow5
        have HRow5 := Lib.hid hrow5
        have hz9a : w10.heap.size + 1 ≤ w5.heap.size := by simpa using hgr5.size
        have HOut5 := Lib.hid (show FRel w5 W.heap.size (vwE es) 0 vs G from HOutE.out.keep fun i hi => by
          have hlt9 := (HOutE.out.nm i hi).2.lt
          have hne := (HOutE.out.nm i hi).2.neF HOwnE.out
          rw [hgr5.block _ (by rw [World.size_alloc]; omega) (fun e => hne e.symm), heap_alloc_old _ _ hlt9])
        have HNm5 := Lib.hid (show NameAt w5 g nm from HNm.out.keep (by
          have hne := HNm.out.neF HOwnE.out
          rw [hgr5.block _ (by rw [World.size_alloc]; have := HNm.out.lt; omega) (fun e => hne e.symm), heap_alloc_old _ _ HNm.out.lt]))
        have HB5 := Lib.hid (((HBr.out.trans (HBrE.out.mono hzr)).alloc (by omega) (.cells #[.slice (some ⟨g, 0, none⟩) nm.length cg, .int .i64 v1] 47)).grown hgr5 (by simp; omega) (fun g hg => (HOwnE.out.lt g hg).1))
        clear hrow5 hgr5 e1
        go_wp2_with fail
        go_roundw
        case rel =>
          exact ⟨0 + 1, A5, c5, _, _, by omega, by go_num, rfl, HRow5.out, HOut5.out.add (f := (nm, v1)) (c := cg) (by rw [vwE_getD es 0 hlt]; unfold vwF; rw [HEe.out, HNm0.out]) (by omega) HNm5.out fun i hi => by have := (HOut.out.nm i hi).2.lt; omega, HB5.out, by omega⟩
        case measure => simp [intOf]; omega
      · skip
        have hpl : p < es.length := by omega
        obtain ⟨Ap, cp, d0, _, _, _, hbyp⟩ := (HCA.out p hpl).keep (Nat.zero_le _) hbA (fun q _ hq => HBr.out.cell hq)
        obtain ⟨pn, hpn⟩ : ∃ y, y = es[p].name := ⟨_, rfl⟩
        rw [← hpn] at d0 hbyp
        have HByp := Lib.hid hbyp
        have HSe := Lib.hid (show stB es (p + 1) = !(pn == n1) from by
          unfold stB
          rw [HEe.out, show es.getD (p + 1 - 1) default = es[p] by simp [hpl], ← hpn]
          simp)
        clear hbyp hpn
        have HO9 := Lib.hid (show Below W.heap.size W w9 from HBr.out.trans ((HB7.out.trans (HB9.out.mono (by omega))).mono hzr))
        have a0 := (HZ7.out.below HB9.out hz7) 0 (by simp)
        simp only [List.getElem_cons_zero] at a0
        have t1 := (HX.out.below HO9.out hzW) 1 (by simp)
        simp only [List.getElem_cons_succ, List.getElem_cons_zero] at t1
        have q0 : ∀ x : Kp w9, x.val.cell? ⟨w.heap.size, 1, none⟩ = some (.slice (some ⟨bA, oA, none⟩) es.length c) := fun x => x.cell t1
        have q1 : ∀ x : Kp w9, x.val.cell? ⟨wr.heap.size, 0, none⟩ = some (.slice An n1.length cn) := fun x => x.cell a0
        have k1 := fun x : Kp w9 => run_str (w := x.val) (HBy.out.keep fun p _ hp => (x.ok.cell (by omega)).trans (((HB9.out.cell (by omega)).trans (HB7.out.cell (by omega))))) cn
        clear a0 t1
        have q2 : ∀ x : Kp w9, x.val.cell? ⟨bA, oA + p * 4, none⟩ = some (.slice Ap pn.length cp) := fun x => x.cell (((HB7.out.trans (HB9.out.mono (by omega))).cell (p := ⟨bA, oA + p * 4, none⟩) (by show bA < _; omega)).trans d0)
        have k2 := fun x : Kp w9 => run_str (w := x.val) (HByp.out.keep fun p _ hp => (x.ok.cell (by omega)).trans (((HB9.out.cell (by omega)).trans (HB7.out.cell (by omega))))) cp
        have hp1 : (0 : Int) < (p : Int) + 1 := by omega
        have hp2 : (p : Int) < (es.length : Int) := by omega
        clear d0
        cases hq : (pn == n1) with
        | false =>
          have HSb := Lib.hid (show stB es (p + 1) = true from by rw [HSe.out, hq]; rfl)
          go_upto_region 9 with fail
          skip
          refine wp_region_kept (by kernel_rfl) (by kernel_rfl) ?_
          repeat (go_big_quiet_step (fail))
          refine wpQuiet_nil ?_
          rintro w10 ⟨⟨_, hb10⟩, rfl⟩
          have HB10 := Lib.hid (show Below W7.heap.size W7 w10 from HB9.out.trans (hb10.mono (by omega)))
          have HBy10 := Lib.hid (HBy9.out.same fun g hg => hb10.block g hg)
          have hz10 := HB10.out.size
          clear hb10 q0 q1 k1 q2 k2 hq
          have HNmE := Lib.hid (show vwName es (p + 1) = n1 by rw [vwName_true HSb.out, HEe.out])
          have HByE := Lib.hid (show Byt w10 W7.heap.size 5 _ (vwName es (p + 1)).length (Lib.byteCells (vwName es (p + 1))) by rw [HNmE.out]; exact HBy10.out)
          have HBE := Lib.hid HB10.out
          have HZe := Lib.hid (HZ7.out.below HBE.out hz7)
          have e1 := HZe.out 1 (by simp)
          simp only [List.getElem_cons_succ, List.getElem_cons_zero] at e1
          obtain ⟨nm, hnm0⟩ : ∃ y, y = vwName es (p + 1) := ⟨_, rfl⟩
          rw [← hnm0] at HByE
          have HNm0 := Lib.hid hnm0
          obtain ⟨g, cg, hve, hgB, hnm⟩ := nameAt_byt HByE.out
          have HNm := Lib.hid hnm
          have hzE := HBE.out.size
          have HBrE := Lib.hid (show Below wr.heap.size wr w10 from HB7.out.trans (HBE.out.mono (by omega)))
          have HOwnE := Lib.hid (ownsRow_below HOwn.out HBrE.out fun g hg => (HOwn.out.lt g hg).2)
          have HOutE := Lib.hid (show FRel w10 W.heap.size (vwE es) (p + 1) vs G from HOut.out.keep fun i hi => HBrE.out.block _ (HOut.out.nm i hi).2.lt)
          obtain ⟨i1, hi1, hy0, hy1, hy2⟩ := info_parts Tryd.infoFile
          clear hnm0 hnm
          injection hve with hA hl hC
          subst hA
          have hC2 := hC.symm
          subst hC2
          have hn1 : nm = n1 := by rw [HNm0.out, HNmE.out]
          subst hn1
          go_wp2_with (at_builtin; refine wpList_append_own _ rfl _ _ 42 rfl W.heap.size 47 i1 (.agg #[.slice none 0 0, .int .i64 0]) 2 32 Tryd.underlying42 hi1 hy0 hy1 hy2 rfl (by decide) _ _ _ rfl (HOwnE.out.alloc _) ⟨w10.heap.size, 0, none⟩ 1 1 [.slice (some ⟨g, 0, none⟩) nm.length cg, .int .i64 v1] rfl rfl ?zb1 ?zb2 ?zb3 ?zb4 ?zb5 ?_)
          try case zb1 => exact new2F _ _ _ _
          case zb2 => first | (intro u hu; simp at hu; rcases hu with rfl | rfl <;> rfl) | exact ⟨rfl, rfl⟩
          case zb3 => unfold maxLen; omega
          try case zb4 => omega
          case zb5 => first | omega | (simp; omega)
          intro v' w5 hrow5 hgr5 _
          obtain ⟨A5, c5, rfl⟩ := row_shapeN hrow5
          have HRow5 := Lib.hid hrow5
          have hz9a : w10.heap.size + 1 ≤ w5.heap.size := by simpa using hgr5.size
          have HOut5 := Lib.hid (show FRel w5 W.heap.size (vwE es) (p + 1) vs G from HOutE.out.keep fun i hi => by
            have hlt9 := (HOutE.out.nm i hi).2.lt
            have hne := (HOutE.out.nm i hi).2.neF HOwnE.out
            rw [hgr5.block _ (by rw [World.size_alloc]; omega) (fun e => hne e.symm), heap_alloc_old _ _ hlt9])
          have HNm5 := Lib.hid (show NameAt w5 g nm from HNm.out.keep (by
            have hne := HNm.out.neF HOwnE.out
            rw [hgr5.block _ (by rw [World.size_alloc]; have := HNm.out.lt; omega) (fun e => hne e.symm), heap_alloc_old _ _ HNm.out.lt]))
          have HB5 := Lib.hid (((HBr.out.trans (HBrE.out.mono hzr)).alloc (by omega) (.cells #[.slice (some ⟨g, 0, none⟩) nm.length cg, .int .i64 v1] 47)).grown hgr5 (by simp; omega) (fun g hg => (HOwnE.out.lt g hg).1))
          clear hrow5 hgr5 e1
          go_wp2_with fail
          go_roundw
          case rel =>
            exact ⟨(p + 1) + 1, A5, c5, _, _, by omega, by go_num, rfl, HRow5.out, HOut5.out.add (f := (nm, v1)) (c := cg) (by rw [vwE_getD es (p + 1) hlt]; unfold vwF; rw [HEe.out, HNm0.out]) (by omega) HNm5.out fun i hi => by have := (HOut.out.nm i hi).2.lt; omega, HB5.out, by omega⟩
          case measure => simp [intOf]; omega
        | true =>
          have HSb := Lib.hid (show stB es (p + 1) = false from by rw [HSe.out, hq]; rfl)
          go_upto_region 9 with fail
          skip
          refine wp_region_kept (by kernel_rfl) (by kernel_rfl) ?_
          repeat (go_big_quiet_step (fail))
          refine wpQuiet_nil ?_
          rintro w10 ⟨⟨_, hb10⟩, rfl⟩
          have HB10 := Lib.hid (show Below W7.heap.size W7 w10 from HB9.out.trans (hb10.mono (by omega)))
          have HBy10 := Lib.hid (HBy9.out.same fun g hg => hb10.block g hg)
          have hz10 := HB10.out.size
          clear hb10 q0 q1 k1 q2 k2 hq
          have HNmE := Lib.hid (show vwName es (p + 1) = n1 ++ sufx du mu by rw [vwName_false HSb.out, HEe.out])
          have hdd := digits20 du (by omega)
          have hmd := digits20 mu (by omega)
          have hbW7 : w10.heap.size = w10.heap.size := rfl
          have HP := Lib.hid (show Yx wr wr.heap.size (.slice An n1.length cn) (.int .i64 v1) (.int .i64 (du : Int)) (.int .i64 (mu : Int)) (.slice A9 n1.length c9) n1.length (Lib.byteCells n1) w10 from by
            have hbx := HZ7.out.below HB10.out hz7
            have e0 := hbx 0 (by simp)
            have e1 := hbx 1 (by simp)
            have e2 := hbx 2 (by simp)
            have e3 := hbx 3 (by simp)
            refine ⟨e0, e1, e2, e3, ?_, HB7.out.trans (HB10.out.mono (by omega)), Nat.le_refl _⟩
            rw [← HZ7e.out]
            exact HBy10.out)
          have HRl := Lib.hid (HBy10.out.lt)
          go_upto_region 10 with fail
          go_region_held3 (fun X => X.cell? ⟨wr.heap.size, 2, none⟩ = some (.int .i64 (du : Int)))
            (first | exact Yx.t2 (w := wr) (by repeat first | with_reducible exact P9.out | with_reducible exact P8.out | with_reducible exact P7.out | with_reducible exact P5.out | with_reducible exact HP.out | with_reducible apply Yx.drew | with_reducible apply Yx.alloc))
            (first
              | (refine step_append_byt (by rfl) _ _ _ _ (by rfl) (wr.heap.size + 1) 5 i0 Tryd.underlying22 hi hq0 hq1 hq2 s8 (n1.length + 1 + (Lib.decDigits du).length) (Lib.byteCells n1 ++ [.int .u8 126] ++ Lib.byteCells (Lib.decDigits du)) (by rfl) ?_ (.slice (some ⟨_, 0, none⟩) 1 1) 1 [.int .u8 46] (by rfl) (OneH.src ?_) (by omega) ?_ ?_
                 · exact Yx.row (w := wr) (b := wr.heap.size) (by repeat first | with_reducible exact P8.out | with_reducible apply Yx.drew | with_reducible apply Yx.alloc)
                 · repeat first
                     | with_reducible exact OneH.fresh (by first | rfl | (simp; done))
                     | with_reducible apply OneH.drew
                     | with_reducible apply OneH.alloc
                     | with_reducible exact P7.out
                     | with_reducible apply Yx.drew
                     | with_reducible apply Yx.alloc
                     | with_reducible refine OneH.grownB ?_ (show Yx wr wr.heap.size (.slice An n1.length cn) (.int .i64 v1) (.int .i64 (du : Int)) (.int .i64 (mu : Int)) s5 (n1.length + 1) (Lib.byteCells n1 ++ [.int .u8 126]) _ from ?_).row (by omega) HG8.out
                     | with_reducible refine OneH.below ?_ HB7d.out
                     | with_reducible refine OneH.grownL ?_ (L := w10.heap.size) (by first | exact Nat.le_refl _ | (simp; done) | (simp; omega)) (fun g hg => (HRl.out g hg).2) HG5.out
                 · exact Yx.le (w := wr) (b := wr.heap.size) (by repeat first | with_reducible exact P8.out | with_reducible apply Yx.drew | with_reducible apply Yx.alloc)
                 intro s9 w9b hb9x hg9x
                 have P9 := Lib.hid (show Yx wr wr.heap.size (.slice An n1.length cn) (.int .i64 v1) (.int .i64 (du : Int)) (.int .i64 (mu : Int)) s9 (n1.length + 1 + (Lib.decDigits du).length + 1) (Lib.byteCells n1 ++ [.int .u8 126] ++ Lib.byteCells (Lib.decDigits du) ++ [.int .u8 46]) w9b from Yx.put (by repeat first | with_reducible exact P8.out | with_reducible apply Yx.drew | with_reducible apply Yx.alloc) hb9x hg9x)
                 clear hb9x hg9x)
              | (refine step_append_byt (by rfl) _ _ _ _ (by rfl) (wr.heap.size + 1) 5 i0 Tryd.underlying22 hi hq0 hq1 hq2 s5 (n1.length + 1) (Lib.byteCells n1 ++ [.int .u8 126]) (by rfl) ?_ (.slice (some ⟨gd, 0, none⟩) (Lib.decDigits du).length cd) (Lib.decDigits du).length (Lib.byteCells (Lib.decDigits du)) (by rfl) (Dg.src ?_) (by omega) ?_ ?_
                 · exact Yx.row (w := wr) (b := wr.heap.size) (by repeat first | with_reducible exact P7.out | with_reducible apply Yx.drew | with_reducible apply Yx.alloc)
                 · repeat first | with_reducible exact D7.out | with_reducible apply Dg.drew | with_reducible apply Dg.alloc
                 · exact Yx.le (w := wr) (b := wr.heap.size) (by repeat first | with_reducible exact P7.out | with_reducible apply Yx.drew | with_reducible apply Yx.alloc)
                 intro s8 w8b hb8x hg8x
                 have P8 := Lib.hid (show Yx wr wr.heap.size (.slice An n1.length cn) (.int .i64 v1) (.int .i64 (du : Int)) (.int .i64 (mu : Int)) s8 (n1.length + 1 + (Lib.decDigits du).length) (Lib.byteCells n1 ++ [.int .u8 126] ++ Lib.byteCells (Lib.decDigits du)) w8b from Yx.put (by repeat first | with_reducible exact P7.out | with_reducible apply Yx.drew | with_reducible apply Yx.alloc) hb8x hg8x)
                 have HG8 := Lib.hid hg8x
                 clear hb8x hg8x)
              | (refine step_append_byt (by rfl) _ _ _ _ (by rfl) (wr.heap.size + 1) 5 i0 Tryd.underlying22 hi hq0 hq1 hq2 (.slice A9 n1.length c9) n1.length (Lib.byteCells n1) (by rfl) ?_ (.slice (some ⟨_, 0, none⟩) 1 1) 1 [.int .u8 126] (by rfl) (OneH.src ?_) (by omega) ?_ ?_
                 · exact Yx.row (w := wr) (b := wr.heap.size) (by repeat first | with_reducible exact HP.out | with_reducible apply Yx.drew | with_reducible apply Yx.alloc)
                 · repeat first | with_reducible exact OneH.fresh (by first | rfl | (simp; done)) | with_reducible apply OneH.drew | with_reducible apply OneH.alloc
                 · exact Yx.le (w := wr) (b := wr.heap.size) (by repeat first | with_reducible exact HP.out | with_reducible apply Yx.drew | with_reducible apply Yx.alloc)
                 intro s5 w5b hb5x hg5x
                 have P5 := Lib.hid (show Yx wr wr.heap.size (.slice An n1.length cn) (.int .i64 v1) (.int .i64 (du : Int)) (.int .i64 (mu : Int)) s5 (n1.length + 1) (Lib.byteCells n1 ++ [.int .u8 126]) w5b from Yx.put (by repeat first | with_reducible exact HP.out | with_reducible apply Yx.drew | with_reducible apply Yx.alloc) hb5x hg5x)
                 have HG5 := Lib.hid hg5x
                 clear hb5x hg5x)
              | (go_at_call 59
                 refine (l1digits_dg du (by omega) _).mono ?_
                 rintro e w7d ⟨gd, cd, rfl, D7x, hgd, hb7d⟩
                 have P7 := Lib.hid (show Yx wr wr.heap.size (.slice An n1.length cn) (.int .i64 v1) (.int .i64 (du : Int)) (.int .i64 (mu : Int)) s5 (n1.length + 1) (Lib.byteCells n1 ++ [.int .u8 126]) w7d from Yx.below (by repeat first | with_reducible exact P5.out | with_reducible apply Yx.drew | with_reducible apply Yx.alloc) hb7d)
                 have D7 := Lib.hid D7x
                 have HB7d := Lib.hid hb7d
                 clear D7x hgd hb7d))
          all_goals
            clear HRl
            have a3 := P9.out.t3
            go_wp2_with fail
            refine (l1digits_dg mu (by omega) w9b).mono ?_
            rintro e w11 ⟨gm, cm, rfl, D11x, hgm, hb11⟩
            have P11 := Lib.hid (P9.out.below hb11)
            have D11 := Lib.hid D11x
            clear D11x hb11 a3
            go_wp2_with (at_builtin; refine wpList_append_byt _ rfl _ _ 22 22 rfl (wr.heap.size + 1) 5 i0 Tryd.underlying22 hi hq0 hq1 hq2 _ _ _ rfl P11.out.row _ (Lib.decDigits mu).length (Lib.byteCells (Lib.decDigits mu)) rfl D11.out.src ?zd3 ?zd4 ?_)
            case zd3 => omega
            case zd4 => exact P11.out.le
            intro s12 w12 hb12x hg12x
            have P12 := Lib.hid (P11.out.put hb12x hg12x)
            clear hb12x hg12x
            have HByE := Lib.hid (show Byt w12 W7.heap.size 5 s12 (vwName es (p + 1)).length (Lib.byteCells (vwName es (p + 1))) by
              have h := P12.out.row
              rw [HNmE.out, HZ7e.out]
              have hsx : n1 ++ sufx du mu = n1 ++ [126] ++ Lib.decDigits du ++ [46] ++ Lib.decDigits mu := by simp [sufx]
              have hL : (n1 ++ [126] ++ Lib.decDigits du ++ [46] ++ Lib.decDigits mu).length = n1.length + 1 + (Lib.decDigits du).length + 1 + (Lib.decDigits mu).length := by simp; omega
              have hX : Lib.byteCells (n1 ++ [126] ++ Lib.decDigits du ++ [46] ++ Lib.decDigits mu) = Lib.byteCells n1 ++ [.int .u8 126] ++ Lib.byteCells (Lib.decDigits du) ++ [.int .u8 46] ++ Lib.byteCells (Lib.decDigits mu) := by
                rw [bcells_append, bcells_append, bcells_append, bcells_append]
                rfl
              rw [hsx, hL, hX]
              simpa only [List.append_assoc, List.cons_append, List.nil_append, cells_of_digits] using h)
            have e1 := P12.out.t1
            obtain ⟨nm, hnm0⟩ : ∃ y, y = vwName es (p + 1) := ⟨_, rfl⟩
            rw [← hnm0] at HByE
            have HNm0 := Lib.hid hnm0
            obtain ⟨g, cg, hve, hgB, hnm⟩ := nameAt_byt HByE.out
            have HNm := Lib.hid hnm
            have HBrE := Lib.hid P12.out.bel
            have hzE := HBrE.out.size
            have HOwnE := Lib.hid (ownsRow_below HOwn.out HBrE.out fun g hg => (HOwn.out.lt g hg).2)
            have HOutE := Lib.hid (show FRel w12 W.heap.size (vwE es) (p + 1) vs G from HOut.out.keep fun i hi => HBrE.out.block _ (HOut.out.nm i hi).2.lt)
            obtain ⟨i1, hi1, hy0, hy1, hy2⟩ := info_parts Tryd.infoFile
            clear hnm0 hnm
            subst hve
            go_wp2_with (at_builtin; refine wpList_append_own _ rfl _ _ 42 rfl W.heap.size 47 i1 (.agg #[.slice none 0 0, .int .i64 0]) 2 32 Tryd.underlying42 hi1 hy0 hy1 hy2 rfl (by decide) _ _ _ rfl (HOwnE.out.alloc _) ⟨w12.heap.size, 0, none⟩ 1 1 [.slice (some ⟨g, 0, none⟩) nm.length cg, .int .i64 v1] rfl rfl ?zc1 ?zc2 ?zc3 ?zc4 ?zc5 ?_)
            try case zc1 => exact new2F _ _ _ _
            case zc2 => first | (intro u hu; simp at hu; rcases hu with rfl | rfl <;> rfl) | exact ⟨rfl, rfl⟩
            case zc3 => unfold maxLen; omega
            try case zc4 => omega
            case zc5 => first | omega | (simp; omega)
            intro v' w5 hrow5 hgr5 _
            obtain ⟨A5, c5, rfl⟩ := row_shapeN hrow5
            have HRow5 := Lib.hid hrow5
            have hz9a : w12.heap.size + 1 ≤ w5.heap.size := by simpa using hgr5.size
            have HOut5 := Lib.hid (show FRel w5 W.heap.size (vwE es) (p + 1) vs G from HOutE.out.keep fun i hi => by
              have hlt9 := (HOutE.out.nm i hi).2.lt
              have hne := (HOutE.out.nm i hi).2.neF HOwnE.out
              rw [hgr5.block _ (by rw [World.size_alloc]; omega) (fun e => hne e.symm), heap_alloc_old _ _ hlt9])
            have HNm5 := Lib.hid (show NameAt w5 g nm from HNm.out.keep (by
              have hne := HNm.out.neF HOwnE.out
              rw [hgr5.block _ (by rw [World.size_alloc]; have := HNm.out.lt; omega) (fun e => hne e.symm), heap_alloc_old _ _ HNm.out.lt]))
            have HB5 := Lib.hid (((HBr.out.trans (HBrE.out.mono hzr)).alloc (by omega) (.cells #[.slice (some ⟨g, 0, none⟩) nm.length cg, .int .i64 v1] 47)).grown hgr5 (by simp; omega) (fun g hg => (HOwnE.out.lt g hg).1))
            clear hrow5 hgr5 e1
            go_wp2_with fail
            go_roundw
            case rel =>
              exact ⟨(p + 1) + 1, A5, c5, _, _, by omega, by go_num, rfl, HRow5.out, HOut5.out.add (f := (nm, v1)) (c := cg) (by rw [vwE_getD es (p + 1) hlt]; unfold vwF; rw [HEe.out, HNm0.out]) (by omega) HNm5.out fun i hi => by have := (HOut.out.nm i hi).2.lt; omega, HB5.out, by omega⟩
            case measure => simp [intOf]; omega
    · have hke : k = es.length := by omega
      have HFs := Lib.hid (show FsOwn wr W.heap.size wr.heap.size A' (vwE es) by
        have h := HOut.out
        have ho := HOwn.out
        rw [hke] at h ho
        have hl := vwE_len es
        rw [← hl] at h ho
        exact h.own ho)
      have HK := Lib.hid (show (vwE es).length = k by rw [vwE_len, hke])
      have hlt' : ¬ ((k : Int) < (es.length : Int)) := by omega
      clear hke
      go_wp2_with fail
      go_ret
      rw [HVl2.out]
      exact ⟨A', c', by rw [HK.out]; rfl, HFs.out.mono (by have := HB.out.size; omega) (Nat.le_refl _), HO.out⟩

end Go.Proofs.YtepkicgnhjaokaaDoor
