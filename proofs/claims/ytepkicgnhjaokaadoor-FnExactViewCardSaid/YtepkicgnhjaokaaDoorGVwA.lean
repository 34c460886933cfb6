/-
  Several texts in one: VwP, VwI.
-/
import Derived.Test.YtepkicgnhjaokaaDoorOut
import Derived.Test.YtepkicgnhjaokaaDoorStart
import Derived.Test.YtepkicgnhjaokaaDoorByt
import Derived.Test.YtepkicgnhjaokaaDoorTxtM
import Derived.Test.YtepkicgnhjaokaaDoorTxtI
import Derived.Test.YtepkicgnhjaokaaDoorRdTr
import Derived.Deep.CutRange
namespace Go.Proofs.YtepkicgnhjaokaaDoor
open Go.RowKit Go.Maps

/-- A file: its name, its value. -/
abbrev Fl := List UInt8 × Int
def sufx (d m : Int) : List UInt8 := 126 :: (Lib.decDigits d.toNat ++ 46 :: Lib.decDigits m.toNat)
def vwName (es : List En) (i : Nat) : List UInt8 := (es.getD i default).name ++ (if stB es i then [] else sufx (es.getD i default).dev (es.getD i default).num)
def vwF (es : List En) (i : Nat) : Fl := (vwName es i, (es.getD i default).val)
def vwE (es : List En) : List Fl := (List.range es.length).map (vwF es)
def vwL (vec : List Int) (es : List En) : List Fl := if treeB vec es then vwE es else []
theorem vwE_len (es : List En) : (vwE es).length = es.length := by simp [vwE]
theorem vwE_getD (es : List En) (i : Nat) (hi : i < es.length) : (vwE es).getD i ([], 0) = vwF es i := by
  simp [vwE, hi]

theorem Tryd.infoFile : (Tryd.prog.info? 47).map (fun i => (i.zero, i.size, i.bytes)) = some (some (.agg #[.slice none 0 0, .int .i64 0]), 2, 32) := by kernel_rfl

theorem NameAt.neF {w : World} {g base : Nat} {l : List UInt8} {v : Value} {n : Nat} {vs : List Value} (h : NameAt w g l) (ho : w.ownsRow base 47 2 v n vs) : v.ownBlock ≠ some g := by
  intro he
  obtain ⟨cur, fz, h1, _⟩ := h
  obtain ⟨_, ⟨rfl, _⟩ | ⟨R, cap, cur', rfl, _, hb, _⟩⟩ := ho
  · simp [Value.ownBlock] at he
  · simp [Value.ownBlock] at he
    subst he
    rw [hb] at h1
    simp at h1
theorem nameAt_byt {w : World} {B : Nat} {v : Value} {l : List UInt8} (h : Byt w B 5 v l.length (Lib.byteCells l)) : ∃ g c, v = .slice (some ⟨g, 0, none⟩) l.length c ∧ B ≤ g ∧ NameAt w g l := by
  obtain ⟨hl, g, cap, cur, fz, rfl, hB, hb, hf, hle, _, hsz, htk⟩ := h
  refine ⟨g, cap, rfl, hB, cur, fz, hb, ?_, fun j hj => ?_⟩
  · rcases hf with h | h
    · exact .inl h
    · exact .inr (by omega)
  · have hx : (cur.toList.take l.length)[j]? = (Lib.byteCells l)[j]? := by rw [htk]
    rw [List.getElem?_take, if_pos hj] at hx
    rw [← Array.getElem?_toList, hx]
    simp [Lib.byteCells, hj]

/-- What has been laid of the row of files. -/
structure FRel (w : World) (base : Nat) (fs : List Fl) (k : Nat) (vs : List Value) (G : List Nat) : Prop where
  gl : G.length = k
  vl : vs.length = k * 2
  cs : ∀ i, i < k → ∃ c, vs[i * 2]? = some (.slice (some ⟨G.getD i 0, 0, none⟩) (fs.getD i ([], 0)).1.length c) ∧ vs[i * 2 + 1]? = some (.int .i64 (fs.getD i ([], 0)).2)
  nm : ∀ i, i < k → base ≤ G.getD i 0 ∧ NameAt w (G.getD i 0) (fs.getD i ([], 0)).1
  inc : ∀ i j, i < j → j < k → G.getD i 0 < G.getD j 0

theorem FRel.nil (w : World) (base : Nat) (fs : List Fl) : FRel w base fs 0 [] [] :=
  ⟨rfl, rfl, fun i h => absurd h (by omega), fun i h => absurd h (by omega), fun i j _ h => absurd h (by omega)⟩
theorem FRel.keep {w w' : World} {base : Nat} {fs : List Fl} {k : Nat} {vs : List Value} {G : List Nat} (h : FRel w base fs k vs G) (hk : ∀ i, i < k → w'.heap[G.getD i 0]? = w.heap[G.getD i 0]?) : FRel w' base fs k vs G :=
  ⟨h.gl, h.vl, h.cs, fun i hi => ⟨(h.nm i hi).1, (h.nm i hi).2.keep (hk i hi)⟩, h.inc⟩
theorem FRel.add {w : World} {base : Nat} {fs : List Fl} {k : Nat} {vs : List Value} {G : List Nat} (h : FRel w base fs k vs G) {g c : Nat} {f : Fl} (he : fs.getD k ([], 0) = f) (hg : base ≤ g) (hn : NameAt w g f.1) (hlt : ∀ i, i < k → G.getD i 0 < g) :
    FRel w base fs (k + 1) (vs ++ [.slice (some ⟨g, 0, none⟩) f.1.length c, .int .i64 f.2]) (G ++ [g]) where
  gl := by simp [h.gl]
  vl := by simp [h.vl]; omega
  cs i hi := by
    have hv := h.vl
    by_cases hik : i < k
    · obtain ⟨c', h0, h1⟩ := h.cs i hik
      have hG : (G ++ [g]).getD i 0 = G.getD i 0 := by simp [List.getD, List.getElem?_append_left (show i < G.length by rw [h.gl]; exact hik)]
      rw [hG]
      exact ⟨c', by rw [List.getElem?_append_left (by omega)]; exact h0, by rw [List.getElem?_append_left (by omega)]; exact h1⟩
    · obtain rfl : i = k := by omega
      have hG : (G ++ [g]).getD i 0 = g := by simp [List.getD, h.gl]
      rw [hG, he]
      refine ⟨c, ?_, ?_⟩
      · rw [List.getElem?_append_right (by omega), hv, show i * 2 - i * 2 = 0 by omega]; rfl
      · rw [List.getElem?_append_right (by omega), hv, show i * 2 + 1 - i * 2 = 1 by omega]; rfl
  nm i hi := by
    by_cases hik : i < k
    · have hG : (G ++ [g]).getD i 0 = G.getD i 0 := by simp [List.getD, List.getElem?_append_left (show i < G.length by rw [h.gl]; exact hik)]
      rw [hG]
      exact h.nm i hik
    · obtain rfl : i = k := by omega
      have hG : (G ++ [g]).getD i 0 = g := by simp [List.getD, h.gl]
      rw [hG, he]
      exact ⟨hg, hn⟩
  inc i j hij hj := by
    have hG : (G ++ [g]).getD i 0 = G.getD i 0 := by simp [List.getD, List.getElem?_append_left (show i < G.length by rw [h.gl]; omega)]
    rw [hG]
    by_cases hjk : j < k
    · have hG2 : (G ++ [g]).getD j 0 = G.getD j 0 := by simp [List.getD, List.getElem?_append_left (show j < G.length by rw [h.gl]; exact hjk)]
      rw [hG2]
      exact h.inc i j hij hjk
    · obtain rfl : j = k := by omega
      have hG2 : (G ++ [g]).getD j 0 = g := by simp [List.getD, h.gl]
      rw [hG2]
      exact hlt i hij

/-- The i-th file of the row in block R; its name at N, within the blocks from lo to up. -/
structure FlCell (w : World) (R i : Nat) (N : Option Addr) (lo up c : Nat) (f : Fl) : Prop where
  c0 : w.cell? ⟨R, i * 2, none⟩ = some (.slice N f.1.length c)
  c1 : w.cell? ⟨R, i * 2 + 1, none⟩ = some (.int .i64 f.2)
  fr : ∀ o, o < 2 → w.frozen? ⟨R, i * 2 + o, none⟩ = false
  nm : BytesFr w lo up N f.1
theorem FlCell.keep {w w' : World} {R i lo up c : Nat} {N : Option Addr} {f : Fl} (h : FlCell w R i N lo up c f) (hR : ∀ o, w'.cell? ⟨R, o, none⟩ = w.cell? ⟨R, o, none⟩ ∧ w'.frozen? ⟨R, o, none⟩ = w.frozen? ⟨R, o, none⟩) (hg : ∀ p : Addr, lo ≤ p.block → p.block < up → w'.cell? p = w.cell? p ∧ w'.frozen? p = w.frozen? p) : FlCell w' R i N lo up c f where
  c0 := (hR _).1.trans h.c0
  c1 := (hR _).1.trans h.c1
  fr o ho := (hR _).2.trans (h.fr o ho)
  nm := h.nm.keep hg
/-- A list of files that was made. -/
def FsOwn (w : World) (L B : Nat) (A : Option Addr) (fs : List Fl) : Prop :=
  0 < fs.length → ∃ (R : Nat) (N : Nat → Option Addr) (lo up c : Nat → Nat), A = some ⟨R, 0, none⟩ ∧ ELay L B R fs.length lo up ∧ ∀ i (hi : i < fs.length), FlCell w R i (N i) (lo i) (up i) (c i) fs[i]
theorem FsOwn.keep {w w' : World} {L B : Nat} {A : Option Addr} {fs : List Fl} (h : FsOwn w L B A fs) (hk : ∀ p : Addr, L ≤ p.block → p.block < B → w'.cell? p = w.cell? p ∧ w'.frozen? p = w.frozen? p) : FsOwn w' L B A fs := fun hl => by
  obtain ⟨R, N, lo, up, c, e, hlay, hc⟩ := h hl
  exact ⟨R, N, lo, up, c, e, hlay, fun i hi => (hc i hi).keep (fun o => hk _ hlay.low hlay.up) (fun p hp hq => hk p (Nat.le_trans (hlay.at_ i hi).1 hp) (Nat.lt_of_lt_of_le hq (hlay.at_ i hi).2.1))⟩
theorem FsOwn.mono {w : World} {L L' B B' : Nat} {A : Option Addr} {fs : List Fl} (h : FsOwn w L B A fs) (hL : L' ≤ L) (hB : B ≤ B') : FsOwn w L' B' A fs := fun hl => by
  obtain ⟨R, N, lo, up, c, e, hlay, hc⟩ := h hl
  exact ⟨R, N, lo, up, c, e, hlay.mono hL hB, hc⟩
theorem FsOwn.nil {w : World} {L B : Nat} {A : Option Addr} : FsOwn w L B A [] := fun h => absurd h (by simp)

theorem FRel.own {w : World} {base : Nat} {fs : List Fl} {vs : List Value} {G : List Nat} {A : Option Addr} {c : Nat} (h : FRel w base fs fs.length vs G) (ho : w.ownsRow base 47 2 (.slice A fs.length c) fs.length vs) : FsOwn w base w.heap.size A fs := fun hl => by
  have ho' := ho
  obtain ⟨_, hh | ⟨R, cap, cur, hv, hR, hb, _, _, _, htk⟩⟩ := ho
  · omega
  injection hv with h1 _ _
  subst h1
  have hch := h.cs
  obtain ⟨C, hC⟩ : ∃ C : Nat → Nat, ∀ i, i < fs.length → (vs[i * 2]? = some (.slice (some ⟨G.getD i 0, 0, none⟩) (fs.getD i ([], 0)).1.length (C i)) ∧ vs[i * 2 + 1]? = some (.int .i64 (fs.getD i ([], 0)).2)) :=
    ⟨fun i => if h : i < fs.length then Classical.choose (hch i h) else 0, fun i hi => by simp only [hi, dif_pos]; exact Classical.choose_spec (hch i hi)⟩
  have hne : ∀ i, i < fs.length → G.getD i 0 ≠ R := fun i hi e => (h.nm i hi).2.neF ho' (show some R = some (G.getD i 0) from congrArg some e.symm)
  refine ⟨R, fun i => some ⟨G.getD i 0, 0, none⟩, fun i => G.getD i 0, fun i => G.getD i 0 + 1, C, rfl, ⟨hR, (Array.getElem?_eq_some_iff.1 hb).1, fun i hi => ⟨(h.nm i hi).1, (h.nm i hi).2.lt, show R < G.getD i 0 ∨ G.getD i 0 + 1 ≤ R by have := hne i hi; omega⟩, fun i j hij hj => .inl (show G.getD i 0 + 1 ≤ G.getD j 0 from h.inc i j hij hj)⟩, fun i hi => ?_⟩
  obtain ⟨c0, c1⟩ := hC i hi
  have hgd : fs.getD i ([], 0) = fs[i] := by simp [hi]
  rw [hgd] at c0 c1
  have hnm := (h.nm i hi).2
  rw [hgd] at hnm
  have hcell : ∀ o u, o < 2 → vs[i * 2 + o]? = some u → w.cell? ⟨R, i * 2 + o, none⟩ = some u := fun o u ho hu => by
    rw [← htk, List.getElem?_take, if_pos (by omega)] at hu
    rw [World.cell?, hb]
    simpa using hu
  exact ⟨hcell 0 _ (by omega) c0, hcell 1 _ (by omega) c1, fun o _ => by simp [World.frozen?, hb], hnm.fr⟩

/-- Files are handed back. -/
def NewFs (fs : List Fl) (w : World) (e : Ending) (w' : World) : Prop :=
  ∃ A c, e = .returned (.slice A fs.length c) ∧ FsOwn w' w.heap.size w'.heap.size A fs ∧ Below w.heap.size w w'

end Go.Proofs.YtepkicgnhjaokaaDoor

namespace Go.Proofs.YtepkicgnhjaokaaDoor
open Go.RowKit Go.Maps

theorem new2F (w : World) (v0 v1 : Value) (t : TypeId) : ∀ j u, [v0, v1][j]? = some u → (w.alloc (.cells #[v0, v1] t)).cell? ((⟨w.heap.size, 0, none⟩ : Addr).add j) = some u := by
  intro j u hu
  have h := heap_alloc_new w (.cells #[v0, v1] t)
  rw [Addr.add_lit, Nat.zero_add, World.cell?, h]
  simpa using hu
theorem vw_nums {vec : List Int} {es : List En} (h : treeB vec es = true) : ∀ e ∈ es, 0 ≤ e.dev ∧ e.dev < 4 ∧ 0 ≤ e.num ∧ e.num ≤ 1000 := by
  intro e he
  unfold treeB at h
  simp only [Bool.and_eq_true, decide_eq_true_eq] at h
  obtain ⟨⟨⟨hv, _⟩, _⟩, ht⟩ := h
  obtain ⟨a, b, c, d, rfl⟩ := vecB_four hv
  obtain ⟨i, hi, rfl⟩ := List.getElem_of_mem he
  unfold tokB at ht
  simp only [Bool.and_eq_true, List.all_eq_true, List.mem_range] at ht
  have h1 := ht.2 i hi
  unfold goodB at h1
  simp only [Bool.and_eq_true] at h1
  have h2 := h1.1.1
  rw [show es.getD i default = es[i] by simp [hi]] at h2
  unfold fitB devB knowB at h2
  simp only [Bool.and_eq_true, decide_eq_true_eq] at h2
  have h3 := h2.2
  have hall : ∀ x ∈ [a, b, c, d], x ≤ 1000 := fun x hx => by
    unfold vecB at hv
    simp only [Bool.and_eq_true, List.all_eq_true, decide_eq_true_eq] at hv
    exact (hv.2 x hx).2
  have ha := hall a (by simp)
  have hb := hall b (by simp)
  have hc := hall c (by simp)
  have hd := hall d (by simp)
  refine ⟨h2.1.1.2.1, h2.1.1.2.2, by omega, ?_⟩
  unfold nth4 at h3
  simp only [List.getD_cons_zero, List.getD_cons_succ] at h3
  split at h3
  · omega
  · split at h3
    · omega
    · split at h3 <;> omega
theorem vwName_true {es : List En} {k : Nat} (h : stB es k = true) : vwName es k = (es.getD k default).name := by simp [vwName, h]
theorem vwName_false {es : List En} {k : Nat} (h : stB es k = false) : vwName es k = (es.getD k default).name ++ sufx (es.getD k default).dev (es.getD k default).num := by simp [vwName, h]

set_option maxRecDepth 100000 in
set_option maxHeartbeats 4000000 in
theorem implView_any (AV : Option Addr) (vec : List Int) (cv : Nat) (A : Option Addr) (es : List En) (c : Nat) (w : World) (hV : IntsIn w 0 w.heap.size AV vec) (hA : EnsIn w 0 w.heap.size A es) (_hv : vec.length ≤ 1048576) (hn : es.length ≤ 1048576) (hbk : ebulk es ≤ 1048576) (htab : Lib.TabIs Tryd.prog w "internal/strconv.uint64pow10" .u64 Lib.pow10Tab) :
    Calls Tryd.prog 20 #[.agg #[.slice AV vec.length cv, .slice A es.length c]] w (NewFs (vwL vec es) w) := by
  have HV := Lib.hid hV
  have HA := Lib.hid hA
  have HTab := Lib.hid (Lib.tabBelow_of_tabIs htab)
  have HNum := Lib.hid (@vw_nums vec es)
  have HL12 := Lib.hid (@treeB_len' vec es)
  have HVl := Lib.hid (show vwL vec es = (if treeB vec es then vwE es else []) from rfl)
  clear hV hA htab
  go_enter Tryd.func20, Tryd.ntmps20
  go_wp2_with fail
  obtain ⟨W0, hW0⟩ : ∃ W0, W0 = w.alloc (.cells #[.slice AV vec.length cv, .slice A es.length c] 34) := ⟨_, rfl⟩
  have hb0 : Below w.heap.size w W0 := by rw [hW0]; exact (Below.refl _ _).alloc (Nat.le_refl _) _
  have hz0 : w.heap.size < W0.heap.size := by rw [hW0]; simp
  have HB0 := Lib.hid hb0
  rw [← hW0]
  clear hW0 hb0
  refine (readTree_any AV vec cv A es c W0 ((HV.out.keep fun p _ hp => HB0.out.cell hp).mono (by omega)) ((HA.out.below HB0.out).mono (by omega)) hn hbk).mono ?_
  rintro r w1 ⟨x0, x1, x2, x3, E1, n1, k1, rfl, ht1, hb1⟩
  have HT1 := Lib.hid ht1
  have HB1 := Lib.hid (show Below w.heap.size w w1 from HB0.out.trans (hb1.mono (by omega)))
  have hz1 := hb1.size
  clear ht1 hb1
  obtain ⟨tb, htb⟩ : ∃ tb, tb = treeB vec es := ⟨_, rfl⟩
  rw [← htb] at HT1 HNum HVl HL12 ⊢
  clear htb
  cases tb with
  | false =>
    have HB2 := Lib.hid (show Below w.heap.size w (w1.alloc (.cells #[.int .i64 x0, .int .i64 x1, .int .i64 x2, .int .i64 x3, .slice E1 n1 k1] 77)) from HB1.out.alloc (by omega) _)
    go_wp2_with fail
    go_ret
    rw [HVl.out]
    exact ⟨none, 0, rfl, FsOwn.nil, HB2.out⟩
  | true =>
  obtain ⟨rfl, rfl, hev⟩ := HT1.out rfl
  have hnum := HNum.out rfl
  have HN := Lib.hid hnum
  have hl12 := HL12.out rfl
  obtain ⟨W, hW⟩ : ∃ W, W = w1.alloc (.cells #[.int .i64 x0, .int .i64 x1, .int .i64 x2, .int .i64 x3, .slice E1 es.length k1] 77) := ⟨_, rfl⟩
  have hbW : Below w1.heap.size w1 W := by rw [hW]; exact (Below.refl _ _).alloc (Nat.le_refl _) _
  have hzW : w1.heap.size < W.heap.size := by rw [hW]; simp
  have HX := Lib.hid (show Bx W w1.heap.size [.int .i64 x0, .int .i64 x1, .int .i64 x2, .int .i64 x3, .slice E1 es.length k1] by rw [hW]; exact Bx.new' _ _ _ _ rfl)
  have HE := Lib.hid (show EvsIn W 0 W.heap.size E1 es from ((hev.keep fun p _ hp => hbW.cell hp).low (Nat.zero_le _)).mono (by omega))
  have HB := Lib.hid (show Below w.heap.size w W from HB1.out.trans (hbW.mono (by omega)))
  have i4 : W.cell? ⟨w1.heap.size, 4, none⟩ = some (.slice E1 es.length k1) := HX.out 4 (by simp)
  have h12 := HVl.out
  have HVl2 := Lib.hid (show vwL [x0, x1, x2, x3] es = vwE es from by rw [HVl.out]; rfl)
  clear hev hbW hnum HT1 HNum h12 HVl
  go_upto_region 4 with fail
  rw [← hW]
  clear hW
  obtain ⟨i0, hi, hq0, hq1, hq2⟩ := info_parts (show (Tryd.prog.info? 5).map (fun i => (i.zero, i.size, i.bytes)) = some (some (.int .u8 0), 1, 1) by kernel_rfl)
  go_wp2_with fail
  clear i4
  go_loopw [5, 19] (fun x i wr => ∃ (k : Nat) (A' : Option Addr) (c' : Nat) (vs : List Value) (G : List Nat), k ≤ es.length ∧ i = .int .i64 k ∧ x = .slice A' k c' ∧ wr.ownsRow W.heap.size 47 2 (.slice A' k c') k vs ∧ FRel wr W.heap.size (vwE es) k vs G ∧ Below W.heap.size W wr ∧ W.heap.size ≤ wr.heap.size) (fun _ i _ => es.length - (intOf i).toNat)
  case atStart => exact ⟨0, none, 0, [], [], Nat.zero_le _, rfl, rfl, World.ownsRow_nil _ _ _ _, FRel.nil _ _ _, Below.refl _ _, Nat.le_refl _⟩
  case round =>
    obtain ⟨k, A', c', vs, G, hk, rfl, rfl, hown, hout, hbel, hzr⟩ := hrel
    have HOwn := Lib.hid hown
    have HOut := Lib.hid hout
    have HBr := Lib.hid hbel
    have HO := Lib.hid (HB.out.trans (hbel.mono (by omega)))
    clear hown hout hbel
    by_cases hlt : k < es.length
    · obtain ⟨bA, oA, hAe, _, hbA, hcA⟩ := HE.out (by omega)
      obtain ⟨c0, c1, c2, c3⟩ := (hcA k hlt).keep (w' := wr) fun o => HBr.out.cell hbA
      obtain ⟨e, he⟩ : ∃ e, e = es[k] := ⟨_, rfl⟩
      rw [← he] at c0 c1 c2 c3
      have HEe := Lib.hid (show es.getD k default = e by rw [he]; simp [hlt])
      have hnu := HN.out es[k] (List.getElem_mem hlt)
      rw [← he] at hnu
      subst hAe
      clear hcA he
      obtain ⟨n1, v1, d1, m1⟩ := e
      simp only at c0 c1 c2 c3 hnu
      obtain ⟨hd0, hd4, hm0, hm1⟩ := hnu
      obtain ⟨du, rfl⟩ := Int.eq_ofNat_of_zero_le hd0
      obtain ⟨mu, rfl⟩ := Int.eq_ofNat_of_zero_le hm0
      have hlt' : (k : Int) < (es.length : Int) := by omega
      obtain ⟨W7, hW7⟩ : ∃ W7, W7 = wr.alloc (.cells #[.string ⟨n1.toArray⟩, .int .i64 v1, .int .i64 (du : Int), .int .i64 (mu : Int)] 85) := ⟨_, rfl⟩
      have hb7 : Below wr.heap.size wr W7 := by rw [hW7]; exact (Below.refl _ _).alloc (Nat.le_refl _) _
      have hz7 : wr.heap.size < W7.heap.size := by rw [hW7]; simp
      have HZ7 := Lib.hid (show Bx W7 wr.heap.size [.string ⟨n1.toArray⟩, .int .i64 v1, .int .i64 (du : Int), .int .i64 (mu : Int)] by rw [hW7]; exact Bx.new' _ _ _ _ rfl)
      have HB7 := Lib.hid hb7
      go_upto_region 8 with fail
      rw [← hW7]
      clear hW7 hb7 c0 c1 c2 c3
      have hcv := run_bytes_of_string (P := Tryd.prog) W7 9 22 5 ⟨n1.toArray⟩ Tryd.underlying9 Tryd.underlying22 Tryd.underlying5
      have hnl : n1.length ≤ 1048576 := by
        have := name_le_ebulk es k hlt
        have h2 := HEe.out
        rw [show es[k] = es.getD k default by simp [hlt], h2] at this
        exact Nat.le_trans this hbk
      have hss : ByteArray.size ⟨n1.toArray⟩ = n1.length := by simp [ByteArray.size]
      have hby := Byt.ofString W7 5 ⟨n1.toArray⟩ (Nat.le_refl W7.heap.size) (by rw [hss]; unfold maxLen; omega)
      have hb9 : Below W7.heap.size W7 (W7.drew.alloc (.cells (bytesRow ⟨n1.toArray⟩ (grownCap W7 (ByteArray.size ⟨n1.toArray⟩) 0 5)) 5 ((bytesRow ⟨n1.toArray⟩ (grownCap W7 (ByteArray.size ⟨n1.toArray⟩) 0 5)).size, (bytesRow ⟨n1.toArray⟩ (grownCap W7 (ByteArray.size ⟨n1.toArray⟩) 0 5)).size + 1))) := (Below.refl _ W7).drew.alloc (Nat.le_refl _) _
      obtain ⟨W9, hW9⟩ : ∃ X, X = W7.drew.alloc (.cells (bytesRow ⟨n1.toArray⟩ (grownCap W7 (ByteArray.size ⟨n1.toArray⟩) 0 5)) 5 ((bytesRow ⟨n1.toArray⟩ (grownCap W7 (ByteArray.size ⟨n1.toArray⟩) 0 5)).size, (bytesRow ⟨n1.toArray⟩ (grownCap W7 (ByteArray.size ⟨n1.toArray⟩) 0 5)).size + 1)) := ⟨_, rfl⟩
      rw [← hW9] at hcv hby hb9
      rw [hss] at hcv hby
      have HBy9 := Lib.hid hby
      have HB9 := Lib.hid hb9
      have z0 := HZ7.out 0 (by simp)
      have x0' := (HBr.out.trans (HB7.out.mono hzr)).cell (p := ⟨w1.heap.size, 0, none⟩) hzW
      simp only [List.getElem_cons_zero] at z0
      clear hW9 hby hb9 hss x0'
      have HXr := Lib.hid ((HX.out.below HBr.out hzW).below HB7.out (by omega))
      have HX9 := Lib.hid (HXr.out.below HB9.out (by omega))
      have HZ9 := Lib.hid (HZ7.out.below HB9.out hz7)
      have hz9 := HB9.out.size
      have p0 := HX9.out 0 (by simp)
      have p1 := HX9.out 1 (by simp)
      have p2 := HX9.out 2 (by simp)
      have p3 := HX9.out 3 (by simp)
      have p4 := HX9.out 4 (by simp)
      simp only [List.getElem_cons_succ, List.getElem_cons_zero] at p0 p1 p2 p3 p4
      go_wp2_with fail
      clear hcv z0
      refine (startsName_any x0 x1 x2 x3 (some ⟨bA, oA, none⟩) es k1 k W9 ((HE.out.keep fun p _ hp => ((HBr.out.trans (HB7.out.mono hzr)).trans (HB9.out.mono (by omega))).cell hp).mono (by omega)) hlt hl12).mono ?_
      rintro r w10 ⟨rfl, hb10⟩
      have HB10 := Lib.hid (show Below W7.heap.size W7 w10 from HB9.out.trans (hb10.mono (by omega)))
      have HBy10 := Lib.hid (HBy9.out.same fun g hg => hb10.block g hg)
      have hz10 := HB10.out.size
      clear hb10 p0 p1 p2 p3 p4
      obtain ⟨sb, hsb⟩ : ∃ b, b = stB es k := ⟨_, rfl⟩
      rw [← hsb]
      have HSb := Lib.hid hsb
      clear hsb
      cases sb with
      | true =>
        have HNmE := Lib.hid (show vwName es k = n1 by rw [vwName_true HSb.out.symm, HEe.out])
        have HByE := Lib.hid (show Byt w10 W7.heap.size 5 _ (vwName es k).length (Lib.byteCells (vwName es k)) by rw [HNmE.out]; exact HBy10.out)
        have HBE := Lib.hid HB10.out
        have HZe := Lib.hid (HZ7.out.below HBE.out hz7)
        have e1 := HZe.out 1 (by simp)
        simp only [List.getElem_cons_succ, List.getElem_cons_zero] at e1
        obtain ⟨nm, hnm0⟩ : ∃ y, y = vwName es k := ⟨_, rfl⟩
        rw [← hnm0] at HByE
        have HNm0 := Lib.hid hnm0
        obtain ⟨g, cg, hve, hgB, hnm⟩ := nameAt_byt HByE.out
        have HNm := Lib.hid hnm
        have hzE := HBE.out.size
        have HBrE := Lib.hid (show Below wr.heap.size wr w10 from HB7.out.trans (HBE.out.mono (by omega)))
        have HOwnE := Lib.hid (ownsRow_below HOwn.out HBrE.out fun g hg => (HOwn.out.lt g hg).2)
        have HOutE := Lib.hid (show FRel w10 W.heap.size (vwE es) k vs G from HOut.out.keep fun i hi => HBrE.out.block _ (HOut.out.nm i hi).2.lt)
        obtain ⟨i1, hi1, hy0, hy1, hy2⟩ := info_parts Tryd.infoFile
        clear hnm0 hnm
        injection hve with hve1 _ hve3
        injection hve1 with hve1
        injection hve1 with hve1 _ _
        subst hve1
        subst hve3
        have hn1 : nm = n1 := by rw [HNm0.out, HNmE.out]
        subst hn1
        go_wp2_with (at_builtin; refine wpList_append_own _ rfl _ _ 42 rfl W.heap.size 47 i1 (.agg #[.slice none 0 0, .int .i64 0]) 2 32 Tryd.underlying42 hi1 hy0 hy1 hy2 rfl (by decide) _ _ _ rfl (HOwnE.out.alloc _) ⟨w10.heap.size, 0, none⟩ 1 1 [.slice (some ⟨W7.heap.size, 0, none⟩) nm.length (grownCap W7 nm.length 0 5), .int .i64 v1] rfl rfl ?c1 ?c2 ?c3 ?c4 ?c5 ?_)
        case c1 => exact new2F _ _ _ _
        case c2 => intro u hu; simp at hu; rcases hu with rfl | rfl <;> rfl
        case c3 => unfold maxLen; omega
        case c4 => omega
        case c5 => first | omega | (simp; omega)
        intro v' w5 hrow5 hgr5 _
        obtain ⟨A5, c5, rfl⟩ := row_shapeN hrow5
        have HRow5 := Lib.hid hrow5
        have hz9a : w10.heap.size + 1 ≤ w5.heap.size := by simpa using hgr5.size
        have HOut5 := Lib.hid (show FRel w5 W.heap.size (vwE es) k vs G from HOutE.out.keep fun i hi => by
          have hlt9 := (HOutE.out.nm i hi).2.lt
          have hne := (HOutE.out.nm i hi).2.neF HOwnE.out
          rw [hgr5.block _ (by rw [World.size_alloc]; omega) (fun e => hne e.symm), heap_alloc_old _ _ hlt9])
        have HNm5 := Lib.hid (show NameAt w5 W7.heap.size nm from HNm.out.keep (by
          have hne := HNm.out.neF HOwnE.out
          rw [hgr5.block _ (by rw [World.size_alloc]; have := HNm.out.lt; omega) (fun e => hne e.symm), heap_alloc_old _ _ HNm.out.lt]))
        have HB5 := Lib.hid (((HBr.out.trans (HBrE.out.mono hzr)).alloc (by omega) (.cells #[.slice (some ⟨W7.heap.size, 0, none⟩) nm.length (grownCap W7 nm.length 0 5), .int .i64 v1] 47)).grown hgr5 (by simp; omega) (fun g hg => (HOwnE.out.lt g hg).1))
        clear hrow5 hgr5 e1
        go_wp2_with fail
        go_roundw
        case rel =>
          exact ⟨k + 1, A5, c5, _, _, by omega, by go_num, rfl, HRow5.out, HOut5.out.add (f := (nm, v1)) (c := (grownCap W7 nm.length 0 5)) (by rw [vwE_getD es k hlt]; unfold vwF; rw [HEe.out, HNm0.out]) (by omega) HNm5.out fun i hi => by have := (HOut.out.nm i hi).2.lt; omega, HB5.out, by omega⟩
        case measure => simp [intOf]; omega
      | false =>
        have HNmE := Lib.hid (show vwName es k = n1 ++ sufx du mu by rw [vwName_false HSb.out.symm, HEe.out])
        have hdd := digits20 du (by omega)
        have hmd := digits20 mu (by omega)
        go_wp2_with (at_builtin; refine wpList_append_byt _ rfl _ _ 22 22 rfl W7.heap.size 5 i0 Tryd.underlying22 hi hq0 hq1 hq2 _ _ _ rfl (HBy10.out.alloc _) _ 1 [.int .u8 126] rfl (Src.ofSlice _ Tryd.underlying22 ⟨w10.heap.size, 0, none⟩ 1 1 _ rfl ?c1 ?c2) ?c3 ?c4 ?_)
        case c1 => intro j u hj; match j, hj with | 0, hj => simp at hj; subst hj; simp [Addr.add]
        case c2 => intro u hu; simp at hu; subst hu; rfl
        case c3 => omega
        case c4 => simp; omega
        intro s11 w11 hbx hgx
        have HBy11 := Lib.hid hbx
        have HB11 := Lib.hid ((HB10.out.alloc (by omega) _).grown hgx (by simp; omega) (fun g hg => (HBy10.out.lt g hg).1))
        have hz11 := HB11.out.size
        clear hbx hgx
        have HZ12 := Lib.hid (HZ7.out.below HB11.out hz7)
        have a2 := HZ12.out 2 (by simp)
        simp only [List.getElem_cons_succ, List.getElem_cons_zero] at a2
        go_wp2_with fail
        refine (appInt_here W7.heap.size _ du (by omega) s11 _ w11 HBy11.out HB11.out.size ?d1 (HTab.out _ (HO.out.trans ((HB7.out.trans (HB11.out.mono (by omega))).mono (by omega))))).mono ?_
        case d1 => omega
        rintro e w12 ⟨s12, rfl, hbx, hbelx⟩
        have HBy12 := Lib.hid hbx
        have HB12 := Lib.hid (HB11.out.trans hbelx)
        have hz12 := HB12.out.size
        clear hbx hbelx a2
        go_wp2_with (at_builtin; refine wpList_append_byt _ rfl _ _ 22 22 rfl W7.heap.size 5 i0 Tryd.underlying22 hi hq0 hq1 hq2 _ _ _ rfl (HBy12.out.alloc _) _ 1 [.int .u8 46] rfl (Src.ofSlice _ Tryd.underlying22 ⟨w12.heap.size, 0, none⟩ 1 1 _ rfl ?c1 ?c2) ?c3 ?c4 ?_)
        case c1 => intro j u hj; match j, hj with | 0, hj => simp at hj; subst hj; simp [Addr.add]
        case c2 => intro u hu; simp at hu; subst hu; rfl
        case c3 => omega
        case c4 => simp; omega
        intro s13 w13 hbx hgx
        have HBy13 := Lib.hid hbx
        have HB13 := Lib.hid ((HB12.out.alloc (by omega) _).grown hgx (by simp; omega) (fun g hg => (HBy12.out.lt g hg).1))
        have hz13 := HB13.out.size
        clear hbx hgx
        have HZ14 := Lib.hid (HZ7.out.below HB13.out hz7)
        have a2 := HZ14.out 3 (by simp)
        simp only [List.getElem_cons_succ, List.getElem_cons_zero] at a2
        go_wp2_with fail
        refine (appInt_here W7.heap.size _ mu (by omega) s13 _ w13 HBy13.out HB13.out.size ?d1 (HTab.out _ (HO.out.trans ((HB7.out.trans (HB13.out.mono (by omega))).mono (by omega))))).mono ?_
        case d1 => omega
        rintro e w14 ⟨s14, rfl, hbx, hbelx⟩
        have HBy14 := Lib.hid hbx
        have HB14 := Lib.hid (HB13.out.trans hbelx)
        have hz14 := HB14.out.size
        clear hbx hbelx a2
        have HByE := Lib.hid (show Byt w14 W7.heap.size 5 s14 (vwName es k).length (Lib.byteCells (vwName es k)) by
          have h := HBy14.out
          rw [HNmE.out]
          have hsx : n1 ++ sufx du mu = n1 ++ [126] ++ Lib.decDigits du ++ [46] ++ Lib.decDigits mu := by simp [sufx]
          have hL : (n1 ++ [126] ++ Lib.decDigits du ++ [46] ++ Lib.decDigits mu).length = n1.length + 1 + (Lib.decDigits du).length + 1 + (Lib.decDigits mu).length := by simp; omega
          have hX : Lib.byteCells (n1 ++ [126] ++ Lib.decDigits du ++ [46] ++ Lib.decDigits mu) = Lib.byteCells n1 ++ [.int .u8 126] ++ Lib.byteCells (Lib.decDigits du) ++ [.int .u8 46] ++ Lib.byteCells (Lib.decDigits mu) := by
            rw [bcells_append, bcells_append, bcells_append, bcells_append]
            rfl
          rw [hsx, hL, hX]
          simpa only [List.append_assoc, List.cons_append, List.nil_append, cells_of_digits] using h)
        have HBE := Lib.hid HB14.out
        have HZe := Lib.hid (HZ7.out.below HBE.out hz7)
        have e1 := HZe.out 1 (by simp)
        simp only [List.getElem_cons_succ, List.getElem_cons_zero] at e1
        obtain ⟨nm, hnm0⟩ : ∃ y, y = vwName es k := ⟨_, rfl⟩
        rw [← hnm0] at HByE
        have HNm0 := Lib.hid hnm0
        obtain ⟨g, cg, hve, hgB, hnm⟩ := nameAt_byt HByE.out
        have HNm := Lib.hid hnm
        have hzE := HBE.out.size
        have HBrE := Lib.hid (show Below wr.heap.size wr w14 from HB7.out.trans (HBE.out.mono (by omega)))
        have HOwnE := Lib.hid (ownsRow_below HOwn.out HBrE.out fun g hg => (HOwn.out.lt g hg).2)
        have HOutE := Lib.hid (show FRel w14 W.heap.size (vwE es) k vs G from HOut.out.keep fun i hi => HBrE.out.block _ (HOut.out.nm i hi).2.lt)
        obtain ⟨i1, hi1, hy0, hy1, hy2⟩ := info_parts Tryd.infoFile
        clear hnm0 hnm
        subst hve
        go_wp2_with (at_builtin; refine wpList_append_own _ rfl _ _ 42 rfl W.heap.size 47 i1 (.agg #[.slice none 0 0, .int .i64 0]) 2 32 Tryd.underlying42 hi1 hy0 hy1 hy2 rfl (by decide) _ _ _ rfl (HOwnE.out.alloc _) ⟨w14.heap.size, 0, none⟩ 1 1 [.slice (some ⟨g, 0, none⟩) nm.length cg, .int .i64 v1] rfl rfl ?c1 ?c2 ?c3 ?c4 ?c5 ?_)
        case c1 => exact new2F _ _ _ _
        case c2 => intro u hu; simp at hu; rcases hu with rfl | rfl <;> rfl
        case c3 => unfold maxLen; omega
        case c4 => omega
        case c5 => first | omega | (simp; omega)
        intro v' w5 hrow5 hgr5 _
        obtain ⟨A5, c5, rfl⟩ := row_shapeN hrow5
        have HRow5 := Lib.hid hrow5
        have hz9a : w14.heap.size + 1 ≤ w5.heap.size := by simpa using hgr5.size
        have HOut5 := Lib.hid (show FRel w5 W.heap.size (vwE es) k vs G from HOutE.out.keep fun i hi => by
          have hlt9 := (HOutE.out.nm i hi).2.lt
          have hne := (HOutE.out.nm i hi).2.neF HOwnE.out
          rw [hgr5.block _ (by rw [World.size_alloc]; omega) (fun e => hne e.symm), heap_alloc_old _ _ hlt9])
        have HNm5 := Lib.hid (show NameAt w5 g nm from HNm.out.keep (by
          have hne := HNm.out.neF HOwnE.out
          rw [hgr5.block _ (by rw [World.size_alloc]; have := HNm.out.lt; omega) (fun e => hne e.symm), heap_alloc_old _ _ HNm.out.lt]))
        have HB5 := Lib.hid (((HBr.out.trans (HBrE.out.mono hzr)).alloc (by omega) (.cells #[.slice (some ⟨g, 0, none⟩) nm.length cg, .int .i64 v1] 47)).grown hgr5 (by simp; omega) (fun g hg => (HOwnE.out.lt g hg).1))
        clear hrow5 hgr5 e1
        go_wp2_with fail
        go_roundw
        case rel =>
          exact ⟨k + 1, A5, c5, _, _, by omega, by go_num, rfl, HRow5.out, HOut5.out.add (f := (nm, v1)) (c := cg) (by rw [vwE_getD es k hlt]; unfold vwF; rw [HEe.out, HNm0.out]) (by omega) HNm5.out fun i hi => by have := (HOut.out.nm i hi).2.lt; omega, HB5.out, by omega⟩
        case measure => simp [intOf]; omega
    · have hke : k = es.length := by omega
      have HFs := Lib.hid (show FsOwn wr W.heap.size wr.heap.size A' (vwE es) by
        have h := HOut.out
        have ho := HOwn.out
        rw [hke] at h ho
        have hl := vwE_len es
        rw [← hl] at h ho
        exact h.own ho)
      have HK := Lib.hid (show (vwE es).length = k by rw [vwE_len, hke])
      have hlt' : ¬ ((k : Int) < (es.length : Int)) := by omega
      clear hke
      go_wp2_with fail
      go_ret
      rw [HVl2.out]
      exact ⟨A', c', by rw [HK.out]; rfl, HFs.out.mono (by have := HB.out.size; omega) (Nat.le_refl _), HO.out⟩

end Go.Proofs.YtepkicgnhjaokaaDoor
