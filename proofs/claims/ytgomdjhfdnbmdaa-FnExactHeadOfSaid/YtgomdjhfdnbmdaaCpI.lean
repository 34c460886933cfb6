/-
  The program copies any tree: a row of its own, each name into a block of its own (an empty one is none).
-/
import Derived.Test.YtgomdjhfdnbmdaaCpT
import Derived.Test.YtgomdjhfdnbmdaaDv
import Derived.Deep.RegionLaw
import Derived.Deep.CutRange
namespace Go.Proofs.Ytgomdjhfdnbmdaa
open Go.RowKit Go.Maps

/-- The i-th entry of the row in block R as it was copied: its name yet that of the first row. -/
structure RawCell (w : World) (R i : Nat) (N : Option Addr) (c : Nat) (e : En) : Prop where
  c0 : w.cell? ⟨R, i * 4, none⟩ = some (.slice N e.name.length c)
  c1 : w.cell? ⟨R, i * 4 + 1, none⟩ = some (.int .i64 e.val)
  c2 : w.cell? ⟨R, i * 4 + 2, none⟩ = some (.int .i64 e.dev)
  c3 : w.cell? ⟨R, i * 4 + 3, none⟩ = some (.int .i64 e.num)
  fr : ∀ o, w.frozen? ⟨R, o, none⟩ = false
theorem RawCell.keep {w w' : World} {R i c : Nat} {N : Option Addr} {e : En} (h : RawCell w R i N c e) (hR : ∀ o, i * 4 ≤ o → o < i * 4 + 4 → w'.cell? ⟨R, o, none⟩ = w.cell? ⟨R, o, none⟩) (hf : ∀ o, w'.frozen? ⟨R, o, none⟩ = w.frozen? ⟨R, o, none⟩) : RawCell w' R i N c e :=
  ⟨(hR _ (by omega) (by omega)).trans h.c0, (hR _ (by omega) (by omega)).trans h.c1, (hR _ (by omega) (by omega)).trans h.c2, (hR _ (by omega) (by omega)).trans h.c3, fun o => (hf o).trans (h.fr o)⟩
/-- The row that was copied. -/
theorem raw_of_row {w : World} {base : Nat} {A : Option Addr} {c : Nat} {es : List En} {ys : List Value} {N : Nat → Option Addr} {C : Nat → Nat} (h : w.ownsRow base 94 4 (.slice A es.length c) es.length ys)
    (hys : ∀ i (hi : i < es.length), ys[i * 4]? = some (.slice (N i) es[i].name.length (C i)) ∧ ys[i * 4 + 1]? = some (.int .i64 es[i].val) ∧ ys[i * 4 + 2]? = some (.int .i64 es[i].dev) ∧ ys[i * 4 + 3]? = some (.int .i64 es[i].num)) (hp : 0 < es.length) :
    ∃ R, A = some ⟨R, 0, none⟩ ∧ base ≤ R ∧ R < w.heap.size ∧ ∀ i (hi : i < es.length), RawCell w R i (N i) (C i) es[i] := by
  obtain ⟨_, hh | ⟨R, cap, cur, hv, hR, hb, _, _, _, htk⟩⟩ := h
  · omega
  injection hv with h1 _ _
  subst h1
  have hcell : ∀ i o u, i < es.length → o < 4 → ys[i * 4 + o]? = some u → w.cell? ⟨R, i * 4 + o, none⟩ = some u := fun i o u hi ho hu => by
    rw [← htk, List.getElem?_take, if_pos (by omega)] at hu
    rw [World.cell?, hb]
    simpa using hu
  refine ⟨R, rfl, hR, (Array.getElem?_eq_some_iff.1 hb).1, fun i hi => ?_⟩
  obtain ⟨c0, c1, c2, c3⟩ := hys i hi
  exact ⟨hcell i 0 _ hi (by omega) c0, hcell i 1 _ hi (by omega) c1, hcell i 2 _ hi (by omega) c2, hcell i 3 _ hi (by omega) c3, fun o => by simp [World.frozen?, hb]⟩

/-- The first k names are copied. -/
structure CpRel (w9 wr : World) (es : List En) (R : Nat) (N : Nat → Option Addr) (C : Nat → Nat) (k : Nat) (N' : Nat → Option Addr) (lo up C' : Nat → Nat) : Prop where
  at_ : ∀ i, i < k → w9.heap.size ≤ lo i ∧ up i ≤ wr.heap.size
  apart : ∀ i j, i < j → j < k → up i ≤ lo j
  done : ∀ i (hi : i < es.length), i < k → EnCell wr R i (N' i) (lo i) (up i) (C' i) es[i]
  rest : ∀ i (hi : i < es.length), k ≤ i → RawCell wr R i (N i) (C i) es[i]
  old : ∀ p : Addr, p.block < w9.heap.size → p.block ≠ R → wr.cell? p = w9.cell? p ∧ wr.frozen? p = w9.frozen? p
  size : w9.heap.size ≤ wr.heap.size
theorem CpRel.start {w9 : World} {es : List En} {R : Nat} {N : Nat → Option Addr} {C : Nat → Nat} (h : ∀ i (hi : i < es.length), RawCell w9 R i (N i) (C i) es[i]) : CpRel w9 w9 es R N C 0 (fun _ => none) (fun _ => 0) (fun _ => 0) (fun _ => 0) :=
  ⟨fun i h => absurd h (by omega), fun i j _ h => absurd h (by omega), fun i _ h => absurd h (by omega), fun i hi _ => h i hi, fun p _ _ => ⟨rfl, rfl⟩, Nat.le_refl _⟩
/-- One name more: its bytes in the new blocks, its slice in the row. -/
theorem CpRel.step {w9 wr w5 : World} {es : List En} {R k : Nat} {N N' : Nat → Option Addr} {C lo up C' : Nat → Nat} {A5 : Option Addr} {c5 : Nat} (h : CpRel w9 wr es R N C k N' lo up C') (hk : k < es.length) (hR : R < w9.heap.size)
    (hb : Below wr.heap.size wr w5) (hn : BytesFr w5 wr.heap.size w5.heap.size A5 es[k].name) :
    CpRel w9 (w5.setCell ⟨R, k * 4, none⟩ (.slice A5 es[k].name.length c5)) es R N C (k + 1) (fun i => if i = k then A5 else N' i) (fun i => if i = k then wr.heap.size else lo i) (fun i => if i = k then w5.heap.size else up i) (fun i => if i = k then c5 else C' i) := by
  have hz := hb.size
  have hsz := h.size
  have hoth : ∀ p : Addr, p ≠ ⟨R, k * 4, none⟩ → (w5.setCell ⟨R, k * 4, none⟩ (.slice A5 es[k].name.length c5)).cell? p = w5.cell? p := fun p hp => World.cell?_setCell_other _ _ _ _ (fun e => hp e.symm)
  have hfz : ∀ p : Addr, (w5.setCell ⟨R, k * 4, none⟩ (.slice A5 es[k].name.length c5)).frozen? p = w5.frozen? p := fun p => World.frozen?_setCell _ _ _ _
  refine ⟨fun i hi => ?_, fun i j hij hj => ?_, fun i hi hik => ?_, fun i hi hik => ?_, fun p hp hne => ?_, ?_⟩
  · simp only [World.size_setCell]
    by_cases e : i = k
    · simp only [if_pos e]; omega
    · simp only [if_neg e]
      have := h.at_ i (by omega)
      omega
  · by_cases e : j = k
    · simp only [if_neg (show i ≠ k by omega), if_pos e]
      exact (h.at_ i (by omega)).2
    · simp only [if_neg (show i ≠ k by omega), if_neg e]
      exact h.apart i j hij (by omega)
  · by_cases e : i = k
    · subst e
      simp only [if_true]
      have hr := h.rest i hi (Nat.le_refl _)
      have hcell : ∀ o, w5.cell? ⟨R, o, none⟩ = wr.cell? ⟨R, o, none⟩ := fun o => hb.cell (by show R < _; omega)
      refine ⟨World.cell?_setCell_same _ _ _ ((hcell _).trans hr.c0), (hoth _ (by simp)).trans ((hcell _).trans hr.c1), (hoth _ (by simp)).trans ((hcell _).trans hr.c2), (hoth _ (by simp)).trans ((hcell _).trans hr.c3), fun o _ => (hfz _).trans ((hb.frozen (by show R < _; omega)).trans (hr.fr _)), hn.keep fun p hp hq => ⟨hoth p (fun e' => by rw [e'] at hp; have : wr.heap.size ≤ R := hp; omega), hfz p⟩⟩
    · simp only [if_neg e]
      have hr := h.done i hi (by omega)
      have ha := h.at_ i (by omega)
      have hcell : ∀ o, w5.cell? ⟨R, o, none⟩ = wr.cell? ⟨R, o, none⟩ := fun o => hb.cell (by show R < _; omega)
      refine ⟨(hoth _ (by first | (simp; done) | (simp; omega))).trans ((hcell _).trans hr.c0), (hoth _ (by first | (simp; done) | (simp; omega))).trans ((hcell _).trans hr.c1), (hoth _ (by first | (simp; done) | (simp; omega))).trans ((hcell _).trans hr.c2), (hoth _ (by first | (simp; done) | (simp; omega))).trans ((hcell _).trans hr.c3), fun o ho => (hfz _).trans ((hb.frozen (by show R < _; omega)).trans (hr.fr o ho)), hr.nm.keep fun p hp hq => ⟨(hoth p (fun e' => by rw [e'] at hp hq; have h1 : lo i ≤ R := hp; omega)).trans (hb.cell (by omega)), (hfz p).trans (hb.frozen (by omega))⟩⟩
  · have hr := h.rest i hi (by omega)
    exact hr.keep (fun o h1 h2 => (hoth _ (by first | (simp; done) | (simp; omega))).trans (hb.cell (by show R < _; omega))) (fun o => (hfz _).trans (hb.frozen (by show R < _; omega)))
  · have ho := h.old p hp hne
    exact ⟨(hoth p (fun e => hne (by rw [e]))).trans ((hb.cell (by omega)).trans ho.1), (hfz p).trans ((hb.frozen (by omega)).trans ho.2)⟩
  · simp only [World.size_setCell]; omega
theorem CpRel.own {w9 wr : World} {es : List En} {R L : Nat} {N N' : Nat → Option Addr} {C lo up C' : Nat → Nat} (h : CpRel w9 wr es R N C es.length N' lo up C') (hL : L ≤ R) (hR : R < w9.heap.size) : EnsOwn wr L wr.heap.size (some ⟨R, 0, none⟩) es := fun _ => by
  have hz := h.size
  exact ⟨R, N', lo, up, C', rfl, ⟨hL, by omega, fun i hi => by have := h.at_ i hi; omega, fun i j hij hj => .inl (h.apart i j hij hj)⟩, fun i hi => h.done i hi hi⟩

section
variable {P : Program} (w : World)
theorem step_append_any {ops : Array Oper} {o : Oper} {a : Act} {K : Act → World → Prop} {Q : Exit → Act → World → Prop} {E : Prop} (hgd : o.guard = none) (s x : Operand) (t : TypeId)
    (ho : o.op = .call { callee := .builtin .append, args := #[s, x], argTypes := #[t, t] })
    (base : Nat) (e : TypeId) (i : TypeInfo) (z : Value) (size bytes : Nat) (ht : P.underlying t = some (.slice e)) (hi : P.info? e = some i) (hz : i.zero = some z)
    (hsize : i.size = size) (hby : i.bytes = bytes) (hzs : z.cells.size = size) (hsz : 0 < size)
    (v : Value) (n : Nat) (xs : List Value) (hs : a.eval s = v) (hown : w.ownsRow base e size v n xs)
    (A : Option Addr) (m c : Nat) (ys : List Value) (hx : a.eval x = .slice A m c) (hl : ys.length = m * size) (hsrc : SrcAt w A m ys) (h1 : ∀ u ∈ ys, u.oneCell' = true)
    (h63 : n + m ≤ maxLen) (hbytes : (n + m) * bytes ≤ 140737488355328) (hbase : base ≤ w.heap.size)
    (h : ∀ A' cap w', w'.ownsRow base e size (.slice A' (n + m) cap) (n + m) (xs ++ ys) → w.grownBy w' v.ownBlock → K (a.put o.dst (.slice A' (n + m) cap)) w') :
    if Region.wanted o (yielded ops a.tmps) = true then Oper.wp P o a w K Q else E := by
  have hw : Region.wanted o (yielded ops a.tmps) = true := by simp [Region.wanted, hgd]
  rw [if_pos hw]
  obtain ⟨A', cap, w', hr, h2, h3, _⟩ := run_append_any (P := P) w base t o.type e i z size bytes ht hi hz hsize hby hzs hsz v n xs hown A m c ys hl hsrc h1 h63 hbytes hbase
  unfold Oper.wp execOp
  simp only [ho, resolve, invoke, builtin, Sem.run_bind, Sem.run_pure, Result.andThen_ok, List.map_toArray, List.map_cons, List.map_nil, hs, hx, hr]
  exact h A' cap w' h2 h3
end

set_option maxRecDepth 100000 in
set_option maxHeartbeats 1000000 in
theorem copyTree_any (AV : Option Addr) (vec : List Int) (cv : Nat) (A : Option Addr) (es : List En) (c : Nat) (w : World) (hV : IntsIn w 0 w.heap.size AV vec) (hA : EnsIn w 0 w.heap.size A es) (hvl : vec.length ≤ 1048576) (hn : es.length ≤ 1048576) (hbk : ebulk es ≤ 1048576) :
    Calls Try.prog 48 #[.agg #[.slice AV vec.length cv, .slice A es.length c]] w (NewTr vec es w) := by
  have HV := Lib.hid hV
  have HA := Lib.hid hA
  clear hV hA
  go_enter Try.func48, Try.ntmps48
  go_upto_region 1 with fail
  obtain ⟨W1_0, hW1_0⟩ : ∃ x, x = w.alloc (.cells #[.slice AV vec.length cv, .slice A es.length c] 33) := ⟨_, rfl⟩
  obtain ⟨W1_1, hW1_1⟩ : ∃ x, x = W1_0.alloc (.cells #[.slice none 0 0, .slice none 0 0] 33) := ⟨_, rfl⟩
  have hZ1_0 : W1_0.heap.size = w.heap.size + 1 := by rw [hW1_0]; simp
  have hZ1_1 : W1_1.heap.size = w.heap.size + 2 := by rw [hW1_1]; simp [hZ1_0]
  have hx0 : Bx W1_0 (w.heap.size) [.slice AV vec.length cv, .slice A es.length c] := by rw [hW1_0]; exact Bx.new' _ _ _ _ rfl
  replace hx0 : Bx W1_1 (w.heap.size) [.slice AV vec.length cv, .slice A es.length c] := by rw [hW1_1]; exact hx0.alloc (by omega) _
  have hx1 : Bx W1_1 (w.heap.size + 1) [.slice none 0 0, .slice none 0 0] := by rw [hW1_1, ← hZ1_0]; exact Bx.new' _ _ _ _ rfl
  have hb0 : Below w.heap.size w W1_1 := by rw [hW1_1, hW1_0]; exact (((Below.refl _ _).alloc (by first | exact Nat.le_refl _ | (simp; done) | (simp; omega)) _).alloc (by first | exact Nat.le_refl _ | (simp; done) | (simp; omega)) _)
  have hf0 : ∀ o, W1_1.frozen? ⟨w.heap.size, o, none⟩ = false := fun o => by rw [hW1_1, hW1_0]; exact (((Fresh.refl w).alloc _ _).alloc _ _) ⟨w.heap.size, o, none⟩ (by show w.heap.size ≤ w.heap.size; omega)
  have hf1 : ∀ o, W1_1.frozen? ⟨w.heap.size + 1, o, none⟩ = false := fun o => by rw [hW1_1, hW1_0]; exact (((Fresh.refl w).alloc _ _).alloc _ _) ⟨w.heap.size + 1, o, none⟩ (by show w.heap.size ≤ w.heap.size + 1; omega)
  have hlt : w.heap.size + 1 < W1_1.heap.size := by omega
  rw [← hW1_0, ← hW1_1]
  clear hW1_0 hZ1_0 hW1_1 hZ1_1
  have z_2 := hb0.size
  have Hbel_3 := Lib.hid (hb0)
  have HT_4 := Lib.hid (hx0)
  have HTF_5 := Lib.hid (hf0)
  clear hf0
  have HR_6 := Lib.hid (hx1)
  have HRF_7 := Lib.hid (hf1)
  clear hf1
  clear hb0 hx0 hx1
  have hl_8 := hlt
  clear hlt
  have HSrc := Lib.hid (show IntsIn W1_1 0 w.heap.size AV vec from HV.out.keep fun p _ hp => Hbel_3.out.cell hp)
  obtain ⟨i0, hi, hq0, hq1, hq2⟩ := info_parts Try.infoInt
  have qT_0 := HT_4.out 0 (by simp)
  have qT_1 := HT_4.out 1 (by simp)
  have lT : w.heap.size < W1_1.heap.size := by omega
  have fTF_0 := HTF_5.out 0
  have fTF_1 := HTF_5.out 1
  simp only [List.getElem_cons_succ, List.getElem_cons_zero] at qT_0 qT_1
  go_wp2_with (at_builtin; refine wpList_append_any _ rfl _ _ 22 rfl W1_1.heap.size 3 i0 (.int .i64 0) 1 8 Try.underlying22 hi hq0 hq1 hq2 rfl (by decide) (.slice none 0 0) 0 [] rfl (World.ownsRow_nil _ _ _ _) AV vec.length cv (vec.map vint) rfl ?c0 (ints_src HSrc.out) ?c2 ?c3 ?c4 ?c5 ?_)
  case c0 => simp
  case c2 => intro u hu; simp only [List.mem_map] at hu; obtain ⟨x, _, rfl⟩ := hu; rfl
  case c3 => unfold maxLen; omega
  case c4 => omega
  case c5 => first | exact Nat.le_refl _ | (simp; done) | (simp; omega)
  intro AV6 c6 w6 hrow6 hgr6
  try simp only [Nat.zero_add, List.nil_append] at hrow6
  try simp only [Nat.zero_add]
  have hb6 : Below W1_1.heap.size W1_1 w6 := (Below.refl _ _).grown hgr6 (Nat.le_refl _) (fun k hk => by cases hk)
  have hv6 : IntsFr w6 W1_1.heap.size w6.heap.size AV6 vec := ints_of_row hrow6
  clear hrow6 hgr6 hi hq0 hq1 hq2 i0 HSrc HV
  clear qT_0 qT_1 lT fTF_0 fTF_1
  have z_9 := hb6.size
  have Hbel_10 := Lib.hid (Hbel_3.out.trans (hb6.mono (by omega)))
  have HT_11 := Lib.hid (HT_4.out.below hb6 (by omega))
  have HTF_12 := Lib.hid (show ∀ o, w6.frozen? ⟨w.heap.size, o, none⟩ = false from fun o => (hb6.frozen (p := ⟨w.heap.size, o, none⟩) (by show w.heap.size < _; omega)).trans (HTF_5.out o))
  have HR_13 := Lib.hid (HR_6.out.below hb6 (by omega))
  have HRF_14 := Lib.hid (show ∀ o, w6.frozen? ⟨w.heap.size + 1, o, none⟩ = false from fun o => (hb6.frozen (p := ⟨w.heap.size + 1, o, none⟩) (by show w.heap.size + 1 < _; omega)).trans (HRF_7.out o))
  clear Hbel_3 HT_4 HTF_5 HR_6 HRF_7
  have HV_15 := Lib.hid (hv6)
  clear hb6 hv6
  have qT_0 := HT_11.out 0 (by simp)
  have qT_1 := HT_11.out 1 (by simp)
  have lT : w.heap.size < w6.heap.size := by omega
  have fTF_0 := HTF_12.out 0
  have fTF_1 := HTF_12.out 1
  simp only [List.getElem_cons_succ, List.getElem_cons_zero] at qT_0 qT_1
  go_upto_region 2 with fail
  clear qT_0 qT_1 lT fTF_0 fTF_1
  obtain ⟨w7, hW16⟩ : ∃ x, x = putAll (w.heap.size) 0 [.slice AV6 vec.length c6] w6 := ⟨_, rfl⟩
  have hs16 : w7.heap.size = w6.heap.size := by rw [hW16]; exact putAll_size
  have Hbel_17 := Lib.hid (show Below w.heap.size w w7 by rw [hW16]; exact putAll_below Hbel_10.out (by omega))
  have HT_18 := Lib.hid (show Bx w7 (w.heap.size) [.slice AV6 vec.length c6, .slice A es.length c] by rw [hW16]; have hq := HT_11.out.put 0 [.slice AV6 vec.length c6] (by simp); simpa using hq)
  have HTF_19 := Lib.hid (show ∀ o, w7.frozen? ⟨w.heap.size, o, none⟩ = false from fun o => by rw [hW16]; exact (putAll_frozen _).trans (HTF_12.out o))
  have HR_20 := Lib.hid (show Bx w7 (w.heap.size + 1) [.slice none 0 0, .slice none 0 0] by rw [hW16]; exact HR_13.out.put_else (by omega))
  have HRF_21 := Lib.hid (show ∀ o, w7.frozen? ⟨w.heap.size + 1, o, none⟩ = false from fun o => by rw [hW16]; exact (putAll_frozen _).trans (HRF_14.out o))
  have HV_22 := Lib.hid (show IntsFr w7 W1_1.heap.size w6.heap.size AV6 vec by rw [hW16]; exact HV_15.out.keep fun p hp hq => ⟨putAll_other (by omega), putAll_frozen _⟩)
  simp only [putAll] at hW16
  rw [← hW16]
  have z_23 : w6.heap.size ≤ w7.heap.size := Nat.le_of_eq hs16.symm
  clear hW16 hs16 Hbel_10 HT_11 HTF_12 HR_13 HRF_14 HV_15
  have hEn : EnsIn w7 0 w.heap.size A es := HA.out.keep fun p _ hp => Hbel_17.out.cell hp
  obtain ⟨ys, hyl, hsrc, hone, N, C, hys⟩ := ens_src hEn
  clear hEn HA
  
  have qT_0 := HT_18.out 0 (by simp)
  have qT_1 := HT_18.out 1 (by simp)
  have lT : w.heap.size < w7.heap.size := by omega
  have fTF_0 := HTF_19.out 0
  have fTF_1 := HTF_19.out 1
  simp only [List.getElem_cons_succ, List.getElem_cons_zero] at qT_0 qT_1
  obtain ⟨i0, hi, hq0, hq1, hq2⟩ := info_parts Try.infoEntry
  go_wp2_with (at_builtin; refine wpList_append_any _ rfl _ _ 31 rfl w7.heap.size 94 i0 (.agg #[.slice none 0 0, .int .i64 0, .int .i64 0, .int .i64 0]) 4 48 Try.underlying31 hi hq0 hq1 hq2 rfl (by decide) (.slice none 0 0) 0 [] rfl (World.ownsRow_nil _ _ _ _) A es.length c ys rfl hyl hsrc hone ?c3 ?c4 ?c5 ?_)
  case c3 => unfold maxLen; omega
  case c4 => omega
  case c5 => exact Nat.le_refl _
  intro A8 c8 w8 hrow8 hgr8
  try simp only [Nat.zero_add, List.nil_append] at hrow8
  try simp only [Nat.zero_add]
  have hb8 : Below w7.heap.size w7 w8 := (Below.refl _ _).grown hgr8 (Nat.le_refl _) (fun k hk => by cases hk)
  have HRow := Lib.hid (fun hp => raw_of_row hrow8 (fun i hi => ⟨(hys i hi).1, (hys i hi).2.1, (hys i hi).2.2.1, (hys i hi).2.2.2.1⟩) hp)
  have HNm := Lib.hid (show ∀ i (hi : i < es.length), BytesIn w7 0 w.heap.size (N i) es[i].name from fun i hi => (hys i hi).2.2.2.2)
  clear hrow8 hgr8 hi hq0 hq1 hq2 i0 hys hsrc hone hyl
  have HB7 := Lib.hid Hbel_17.out
  clear qT_0 qT_1 lT fTF_0 fTF_1
  have z_24 := hb8.size
  have Hbel_25 := Lib.hid (Hbel_17.out.trans (hb8.mono (by omega)))
  have HT_26 := Lib.hid (HT_18.out.below hb8 (by omega))
  have HTF_27 := Lib.hid (show ∀ o, w8.frozen? ⟨w.heap.size, o, none⟩ = false from fun o => (hb8.frozen (p := ⟨w.heap.size, o, none⟩) (by show w.heap.size < _; omega)).trans (HTF_19.out o))
  have HR_28 := Lib.hid (HR_20.out.below hb8 (by omega))
  have HRF_29 := Lib.hid (show ∀ o, w8.frozen? ⟨w.heap.size + 1, o, none⟩ = false from fun o => (hb8.frozen (p := ⟨w.heap.size + 1, o, none⟩) (by show w.heap.size + 1 < _; omega)).trans (HRF_21.out o))
  have HV_30 := Lib.hid (show IntsFr w8 W1_1.heap.size w6.heap.size AV6 vec from HV_22.out.keep fun p hp hq => ⟨hb8.cell (by omega), hb8.frozen (by omega)⟩)
  clear Hbel_17 HT_18 HTF_19 HR_20 HRF_21 HV_22
  have HB78 := Lib.hid hb8
  clear hb8
  have qT_0 := HT_26.out 0 (by simp)
  have qT_1 := HT_26.out 1 (by simp)
  have lT : w.heap.size < w8.heap.size := by omega
  have fTF_0 := HTF_27.out 0
  have fTF_1 := HTF_27.out 1
  simp only [List.getElem_cons_succ, List.getElem_cons_zero] at qT_0 qT_1
  go_wp2_with fail
  clear qT_0 qT_1 lT fTF_0 fTF_1
  obtain ⟨w9, hW31⟩ : ∃ x, x = putAll (w.heap.size) 1 [.slice A8 es.length c8] w8 := ⟨_, rfl⟩
  have hs31 : w9.heap.size = w8.heap.size := by rw [hW31]; exact putAll_size
  have Hbel_32 := Lib.hid (show Below w.heap.size w w9 by rw [hW31]; exact putAll_below Hbel_25.out (by omega))
  have HT_33 := Lib.hid (show Bx w9 (w.heap.size) [.slice AV6 vec.length c6, .slice A8 es.length c8] by rw [hW31]; have hq := HT_26.out.put 1 [.slice A8 es.length c8] (by simp); simpa using hq)
  have HTF_34 := Lib.hid (show ∀ o, w9.frozen? ⟨w.heap.size, o, none⟩ = false from fun o => by rw [hW31]; exact (putAll_frozen _).trans (HTF_27.out o))
  have HR_35 := Lib.hid (show Bx w9 (w.heap.size + 1) [.slice none 0 0, .slice none 0 0] by rw [hW31]; exact HR_28.out.put_else (by omega))
  have HRF_36 := Lib.hid (show ∀ o, w9.frozen? ⟨w.heap.size + 1, o, none⟩ = false from fun o => by rw [hW31]; exact (putAll_frozen _).trans (HRF_29.out o))
  have HV_37 := Lib.hid (show IntsFr w9 W1_1.heap.size w6.heap.size AV6 vec by rw [hW31]; exact HV_30.out.keep fun p hp hq => ⟨putAll_other (by omega), putAll_frozen _⟩)
  have hz9 : w9.heap.size = w8.heap.size := by rw [hW31]; exact putAll_size
  have HNm9 := Lib.hid (show ∀ i (hi : i < es.length), BytesIn w9 0 w.heap.size (N i) es[i].name from fun i hi => (HNm.out i hi).keep fun p _ hp => by rw [hW31]; exact (putAll_other (by omega)).trans (HB78.out.cell (by omega)))
  obtain ⟨Rb, hRn, hR7, hRaw⟩ : ∃ Rb, (0 < es.length → A8 = some ⟨Rb, 0, none⟩ ∧ Rb < w9.heap.size) ∧ w7.heap.size ≤ Rb ∧ ∀ i (hi : i < es.length), RawCell w9 Rb i (N i) (C i) es[i] := by
    rcases Nat.eq_zero_or_pos es.length with hz | hp
    · exact ⟨w9.heap.size, fun h => by omega, by omega, fun i hi => by omega⟩
    · obtain ⟨R, e, h1, h2, h3⟩ := HRow.out hp
      exact ⟨R, fun _ => ⟨e, by omega⟩, h1, fun i hi => (h3 i hi).keep (fun o _ _ => by rw [hW31]; exact putAll_other (by show R ≠ w.heap.size; omega)) (fun o => by rw [hW31]; exact putAll_frozen _)⟩
  simp only [putAll] at hW31
  rw [← hW31]
  have z_38 : w8.heap.size ≤ w9.heap.size := Nat.le_of_eq hs31.symm
  clear hW31 hs31 Hbel_25 HT_26 HTF_27 HR_28 HRF_29 HV_30
  have HRn := Lib.hid hRn
  have HRaw := Lib.hid (CpRel.start (N := N) (C := C) hRaw)
  clear hRn hRaw HRow HNm HB78 HB7
  go_loopw [3, 15] (fun _ i wr => ∃ (k : Nat) (N' : Nat → Option Addr) (lo up C' : Nat → Nat), k ≤ es.length ∧ i = .int .i64 k ∧ CpRel w9 wr es Rb N C k N' lo up C' ∧ Below w7.heap.size w9 wr) (fun _ i _ => es.length - (intOf i).toNat)
  case atStart => exact ⟨0, _, _, _, _, Nat.zero_le _, rfl, HRaw.out, Below.refl _ _⟩
  case round =>
    obtain ⟨k, N', lo, up, C', hk, rfl, hcp, hbel⟩ := hrel
    have HCp := Lib.hid hcp
    have hzr := hcp.size
    clear hcp
    by_cases hlt : k < es.length
    · obtain ⟨rfl, hRl⟩ := HRn.out (by omega)
      have hraw := HCp.out.rest k hlt (Nat.le_refl _)
      have HBr := Lib.hid hbel
      have hnl := name_le_ebulk es k hlt
      have HNk := Lib.hid ((HNm9.out k hlt).keep fun p _ hp => hbel.cell (by omega))
      have HSrcD := Lib.hid (show SrcAt wr.drew (N k) es[k].name.length (vbytes es[k].name) from bytes_src HNk.out.drew)
      have c0 := hraw.c0
      have cf := hraw.fr (k * 4)
      have x1 := (hbel.cell (p := ⟨w.heap.size, 1, none⟩) (by show w.heap.size < _; omega)).trans (HT_33.out 1 (by simp))
      simp only [List.getElem_cons_succ, List.getElem_cons_zero] at x1
      have hlt' : (k : Int) < (es.length : Int) := by omega
      have lw : w.heap.size < wr.heap.size := by omega
      have lR : Rb < wr.heap.size := by omega
      have hl0 : (vbytes es[k].name).length = es[k].name.length * 1 := by rw [vb_length]; omega
      have hl1 : 0 + es[k].name.length ≤ maxLen := by unfold maxLen; omega
      have hl2 : (0 + es[k].name.length) * 1 ≤ 140737488355328 := by omega
      obtain ⟨i0, hi, hq0, hq1, hq2⟩ := info_parts Try.info5
      clear hbel hraw
      go_wp2_with fail
      go_region_law
        (first
          | (refine step_append_any _ (by rfl) _ _ _ (by rfl) wr.heap.size 5 i0 (.int .u8 0) 1 1 Try.underlying91 hi hq0 hq1 hq2 rfl (by decide) (.slice none 0 0) 0 [] (by rfl) (World.ownsRow_nil _ _ _ _) (N k) es[k].name.length (C k) (vbytes es[k].name) (by rfl) hl0 HSrcD.out (vb_one _) hl1 hl2 ?_ ?_
             · (simp; done)
             intro A5 c5 w5 hown5 hgr5
             have hb5 : Below wr.heap.size wr w5 := ((Below.refl _ _).drew).grown hgr5 (Nat.le_refl _) (fun g hg => by cases hg)
             have cb5 := (hb5.cell (p := ⟨Rb, k * 4, none⟩) lR).trans c0
             have cf5 := (hb5.frozen (p := ⟨Rb, k * 4, none⟩) lR).trans cf
             have cx5 := (hb5.cell (p := ⟨w.heap.size, 1, none⟩) lw).trans x1
             have lR5 : Rb < w5.heap.size := Nat.lt_of_lt_of_le lR hb5.size
             have lw5 : w.heap.size < w5.heap.size := Nat.lt_of_lt_of_le lw hb5.size
             have HB5 := Lib.hid hb5
             have HN5 := Lib.hid (show BytesFr w5 wr.heap.size w5.heap.size A5 es[k].name from bytes_of_row (by simpa only [Nat.zero_add, List.nil_append] using hown5))
             clear hown5 hgr5 hb5))
      all_goals clear cb5 cf5 cx5 c0 cf x1
      all_goals
        go_wp2_with fail
        go_roundw
        case rel => exact ⟨k + 1, _, _, _, _, by omega, by go_num, HCp.out.step hlt hRl HB5.out HN5.out, (HBr.out.trans (HB5.out.mono (by omega))).setCell hR7 _⟩
        case measure => simp [intOf]; omega
    · have hke : k = es.length := by omega
      have z_39 := hbel.size
      have Hbel_40 := Lib.hid (Hbel_32.out.trans (hbel.mono (by omega)))
      have HT_41 := Lib.hid (HT_33.out.below hbel (by omega))
      have HTF_42 := Lib.hid (show ∀ o, wr.frozen? ⟨w.heap.size, o, none⟩ = false from fun o => (hbel.frozen (p := ⟨w.heap.size, o, none⟩) (by show w.heap.size < _; omega)).trans (HTF_34.out o))
      have HR_43 := Lib.hid (HR_35.out.below hbel (by omega))
      have HRF_44 := Lib.hid (show ∀ o, wr.frozen? ⟨w.heap.size + 1, o, none⟩ = false from fun o => (hbel.frozen (p := ⟨w.heap.size + 1, o, none⟩) (by show w.heap.size + 1 < _; omega)).trans (HRF_36.out o))
      have HV_45 := Lib.hid (show IntsFr wr W1_1.heap.size w6.heap.size AV6 vec from HV_37.out.keep fun p hp hq => ⟨hbel.cell (by omega), hbel.frozen (by omega)⟩)
      clear Hbel_32 HT_33 HTF_34 HR_35 HRF_36 HV_37
      clear hbel
      have HE := Lib.hid (show EnsOwn wr w7.heap.size wr.heap.size A8 es from fun hp => by
        obtain ⟨e, hRl⟩ := HRn.out hp
        subst e
        subst hke
        exact HCp.out.own hR7 hRl hp)
      have hkn : ¬ (k : Int) < (es.length : Int) := by omega
      clear hke HCp
      have qT_0 := HT_41.out 0 (by simp)
      have qT_1 := HT_41.out 1 (by simp)
      have lT : w.heap.size < wr.heap.size := by omega
      have qR_0 := HR_43.out 0 (by simp)
      have qR_1 := HR_43.out 1 (by simp)
      have lR : w.heap.size + 1 < wr.heap.size := by omega
      have fRF_0 := HRF_44.out 0
      have fRF_1 := HRF_44.out 1
      simp only [List.getElem_cons_succ, List.getElem_cons_zero] at qT_0 qT_1 qR_0 qR_1
      go_wp2_with fail
      clear qT_0 qT_1 lT qR_0 qR_1 lR fRF_0 fRF_1
      obtain ⟨w10, hW46⟩ : ∃ x, x = putAll (w.heap.size + 1) 0 [.slice AV6 vec.length c6, .slice A8 es.length c8] wr := ⟨_, rfl⟩
      have hs46 : w10.heap.size = wr.heap.size := by rw [hW46]; exact putAll_size
      have Hbel_47 := Lib.hid (show Below w.heap.size w w10 by rw [hW46]; exact putAll_below Hbel_40.out (by omega))
      have HT_48 := Lib.hid (show Bx w10 (w.heap.size) [.slice AV6 vec.length c6, .slice A8 es.length c8] by rw [hW46]; exact HT_41.out.put_else (by omega))
      have HTF_49 := Lib.hid (show ∀ o, w10.frozen? ⟨w.heap.size, o, none⟩ = false from fun o => by rw [hW46]; exact (putAll_frozen _).trans (HTF_42.out o))
      have HR_50 := Lib.hid (show Bx w10 (w.heap.size + 1) [.slice AV6 vec.length c6, .slice A8 es.length c8] by rw [hW46]; have hq := HR_43.out.put 0 [.slice AV6 vec.length c6, .slice A8 es.length c8] (by simp); simpa using hq)
      have HRF_51 := Lib.hid (show ∀ o, w10.frozen? ⟨w.heap.size + 1, o, none⟩ = false from fun o => by rw [hW46]; exact (putAll_frozen _).trans (HRF_44.out o))
      have HV_52 := Lib.hid (show IntsFr w10 W1_1.heap.size w6.heap.size AV6 vec by rw [hW46]; exact HV_45.out.keep fun p hp hq => ⟨putAll_other (by omega), putAll_frozen _⟩)
      have HE_53 := Lib.hid (show EnsOwn w10 w7.heap.size wr.heap.size A8 es by rw [hW46]; exact HE.out.keep fun p hp hq => ⟨putAll_other (by omega), putAll_frozen _⟩)
      simp only [putAll] at hW46
      rw [← hW46]
      have z_54 : wr.heap.size ≤ w10.heap.size := Nat.le_of_eq hs46.symm
      clear hW46 hs46 Hbel_40 HT_41 HTF_42 HR_43 HRF_44 HV_45 HE
      have qR_0 := HR_50.out 0 (by simp)
      have qR_1 := HR_50.out 1 (by simp)
      have lR : w.heap.size + 1 < w10.heap.size := by omega
      simp only [List.getElem_cons_succ, List.getElem_cons_zero] at qR_0 qR_1
      have HT10 := Lib.hid (show TrOwn w10 w.heap.size w10.heap.size AV6 vec A8 es from ⟨W1_1.heap.size, w6.heap.size, w7.heap.size, wr.heap.size, by omega, by omega, by omega, by omega, .inl (by omega), HV_52.out, HE_53.out⟩)
      refine bodyPost_ret (v := .agg #[.slice AV6 vec.length c6, .slice A8 es.length c8]) (by simp [results, Try.results48, qR_0, qR_1, go_sem]) rfl ⟨AV6, c6, A8, c8, rfl, HT10.out, by omega, Hbel_47.out⟩


end Go.Proofs.Ytgomdjhfdnbmdaa
