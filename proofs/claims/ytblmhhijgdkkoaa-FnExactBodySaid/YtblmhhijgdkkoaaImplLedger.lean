/-
  The program's readLedger.
-/
import Derived.Test.YtblmhhijgdkkoaaKey
import Derived.Test.YtblmhhijgdkkoaaInt
namespace Go.Proofs.Ytblmhhijgdkkoaa
open Go.RowKit Go.Maps

theorem run_makeMap_hint {P : Program} (t k e : TypeId) (kd : IntKind) (n : Int) (ht : P.underlying t = some (.map k e)) (w : World) :
    (Instr.makeMap t (some (.int kd n))).run P w = .ok (.map (some w.heap.size)) (w.alloc (.map #[] 0)) := by
  simp [Instr.makeMap, run_underlying ht]; rfl

theorem Try.info85 : (Try.prog.info? 153).map (fun i => (i.zero, i.size, i.bytes)) = some (some .nilIface, 1, 16) := by kernel_rfl
theorem zeroInt (w : World) : (zeroValue 3).run Try.prog w = .ok (.int .i64 0) w := by kernel_rfl

/-- What readLedger hands back. -/
def RdPost (ts : List Tm) (w : World) (e : Ending) (w' : World) : Prop :=
  (LOk ts ∧ ∃ A c M, e = .returned (.tuple #[.agg #[.slice A ts.length c, .map (some M)], .bool true]) ∧ w.heap.size ≤ M ∧ BkIn w' w.heap.size w'.heap.size A ts ∧ w'.ownsMap (H := Unit) Try.prog 157 (plainElem Try.prog 3) M ts.length (mapOf ts) ∧ Below w.heap.size w w') ∨
  (¬ LOk ts ∧ e = .returned (.tuple #[.agg #[.slice none 0 0, .map none], .bool false]) ∧ Below w.heap.size w w')

/-- What holds at a round's head: M the map's block, K the book's. -/
structure RdRel (W0 : World) (M K : Nat) (ts : List Tm) (k : Nat) (v : Value) (wr : World) : Prop where
  good : ∀ j, j < k → Good ts j
  row : wr.ownsRow (K + 1) 153 1 v k ((ts.take k).map tv)
  map : wr.ownsMap (H := Unit) Try.prog 157 (plainElem Try.prog 3) M k (mapOf (ts.take k))
  book : wr.heap[K]? = some (.cells #[v, .map (some M)] 122 (0, 0))
  old : Below M W0 wr
  size : K < wr.heap.size

theorem grown_of_below {w w' : World} (hb : Below w.heap.size w w') : w.grownBy w' none := ⟨hb.os, hb.tape, hb.output, hb.size, fun i hi _ => hb.block i hi⟩

theorem RdRel.keep {W0 wr w' : World} {M K : Nat} {ts : List Tm} {k : Nat} {v : Value} (h : RdRel W0 M K ts k v wr) (hb : Below wr.heap.size wr w') (hM : M < wr.heap.size) : RdRel W0 M K ts k v w' where
  good := h.good
  row := h.row.kept (grown_of_below hb) (by cases h : v.ownBlock <;> simp)
  map := h.map.kept (grown_of_below hb) (by simp)
  book := (hb.block _ h.size).trans h.book
  old := h.old.trans (hb.mono (by omega))
  size := Nat.lt_of_lt_of_le h.size hb.size

theorem good_wf {ts : List Tm} {j : Nat} (hn : ts.length ≤ 1048576) (hg : Good ts j) : ∃ h : j < ts.length, WfT ts[j] := by
  obtain ⟨h, h1, h2, _⟩ := hg
  exact ⟨h, readB_wf (ts.take j) _ (by simp; omega) (by rw [readB_eq ts j h, h1, h2]; rfl)⟩

theorem take_wf {ts : List Tm} {k : Nat} (hn : ts.length ≤ 1048576) (hg : ∀ j, j < k → Good ts j) : ∀ u ∈ ts.take k, WfT u := by
  intro u hu
  obtain ⟨j, hj, rfl⟩ := List.mem_iff_getElem.1 hu
  have hj1 : j < k := by rw [List.length_take] at hj; omega
  obtain ⟨_, hw⟩ := good_wf hn (hg j hj1)
  simpa using hw

theorem mem_take {ts : List Tm} {k : Nat} (hk : k < ts.length) : ts[k] ∈ ts.take k ↔ ∃ j, ∃ h : j < k, ts[j] = ts[k] := by
  rw [List.mem_iff_getElem]
  constructor
  · rintro ⟨j, hj, e⟩
    have hj1 : j < k := by rw [List.length_take] at hj; omega
    exact ⟨j, hj1, by simpa using e⟩
  · rintro ⟨j, hj, e⟩
    exact ⟨j, by simp; omega, by simpa using e⟩

theorem bk_of_row {w : World} {base : Nat} {e : TypeId} {A : Option Addr} {c : Nat} {us : List Tm} (h : w.ownsRow base e 1 (.slice A us.length c) us.length (us.map tv)) : BkIn w base w.heap.size A us := fun hl => by
  obtain ⟨_, hh | ⟨g, cap, cur, hv, hg, hb, _, _, _, htk⟩⟩ := h
  · omega
  · injection hv with h1 _ _
    subst h1
    refine ⟨g, 0, rfl, hg, ?_, fun i hi => ?_⟩
    · exact (Array.getElem?_eq_some_iff.1 hb).1
    · rw [Nat.zero_add]
      have h2 : (us.map tv)[i]? = some (tv us[i]) := by simp [hi]
      rw [← htk, Nat.mul_one, List.getElem?_take, if_pos hi] at h2
      rw [World.cell?, hb]
      simpa using h2

theorem own_ne {w : World} {base : Nat} {e : TypeId} {size : Nat} {v : Value} {n : Nat} {xs : List Value} (h : w.ownsRow base e size v n xs) {g : Nat} (hg : g < base) : some g ≠ v.ownBlock := fun e => by
  have := (h.lt g e.symm).1
  omega

theorem RdRel.step {W0 w3 w4 w5 : World} {M K : Nat} {ts : List Tm} {k : Nat} {v v' : Value} {o : Obj} (h : RdRel W0 M K ts k v w3) (hMK : M + 1 = K) (hk : k < ts.length)
    (hmap4 : w4.ownsMap (H := Unit) Try.prog 157 (plainElem Try.prog 3) M (k + 1) ((mapOf (ts.take k)).put (klOf ts[k]) (.lit (.int .i64 k)))) (hg4 : w3.grownBy w4 (some M))
    (hrow5 : w5.ownsRow (K + 1) 153 1 v' (k + 1) ((ts.take k).map tv ++ [tv ts[k]])) (hg5 : (w4.alloc o).grownBy w5 v.ownBlock) (hgood : Good ts k) :
    RdRel W0 M K ts (k + 1) v' (w5.setCell ⟨K, 0, none⟩ v') := by
  have hz3 := h.size
  have hz4 := hg4.size
  have hz5 : w4.heap.size + 1 ≤ w5.heap.size := by simpa using hg5.size
  have hbook : w5.heap[K]? = some (.cells #[v, .map (some M)] 122 (0, 0)) := by
    rw [hg5.block K (by simp; omega) (own_ne h.row (by omega)), Below.heap_alloc _ _ _ (by omega), hg4.block K hz3 (by simp; omega)]
    exact h.book
  refine ⟨fun j hj => ?_, ?_, ?_, ?_, ?_, ?_⟩
  · by_cases e : j = k
    · subst e; exact hgood
    · exact h.good j (by omega)
  · rw [List.take_succ_eq_append_getElem hk, List.map_append]
    exact ownsRow_setCell_below hrow5 (by show K < K + 1; omega) _
  · rw [List.take_succ_eq_append_getElem hk, mapOf_snoc, show (ts.take k).length = k by simp; omega]
    exact ((hmap4.alloc o).kept hg5 (own_ne h.row (by omega))).setCell (by show M ≠ K; omega) _
  · have := heap_setCell_same w5 K 0 _ _ v' hbook
    simpa using this
  · exact ((((h.old.grown hg4 (by omega) (fun g hg => by cases hg; omega)).alloc (by omega) o).grown hg5 (by simp; omega) (fun g hg => by have := (h.row.lt g hg).1; omega)).setCell (by show M ≤ K; omega) _)
  · simp; omega

set_option maxRecDepth 100000 in
set_option maxHeartbeats 1000000 in
theorem readLedger_any (A : Option Addr) (ts : List Tm) (c L B : Nat) (w : World) (hA : TmsIn w L B A ts) (hB : B ≤ w.heap.size) (hn : ts.length ≤ 1048576) (hbk : bulk ts ≤ 1048576) :
    Calls Try.prog 83 #[.agg #[.slice A ts.length c]] w (RdPost ts w) := by
  have hmk := fun W => run_makeMap_hint (P := Try.prog) 120 157 3 .i64 ts.length Try.underlying120 W
  by_cases h4 : ts.length ≤ 400
  · go_enter Try.func83, Try.ntmps83
    go_wp2_with fail
    clear hmk
    obtain ⟨W0, hW0⟩ : ∃ W0, W0 = (w.alloc (.cells #[.slice A ts.length c] 66)).alloc (.cells #[.slice none 0 0, .map none] 122) := ⟨_, rfl⟩
    have hold : Below w.heap.size w W0 := by subst hW0; exact ((Below.refl _ _).alloc (Nat.le_refl _) _).alloc (by simp) _
    have hsz : W0.heap.size = w.heap.size + 1 + 1 := by subst hW0; simp
    have hA0 : TmsIn W0 L B A ts := hA.keep fun p _ hp => hold.cell (by omega)
    have hres0 : W0.cell? ⟨w.heap.size + 1, 0, none⟩ = some (.slice none 0 0) := by subst hW0; simp
    have hres1 : W0.cell? ⟨w.heap.size + 1, 1, none⟩ = some (.map none) := by subst hW0; simp
    have hfr0 : ∀ j, W0.frozen? ⟨w.heap.size + 1, j, none⟩ = false := by subst hW0; intro j; simp
    have HOld := Lib.hid hold
    rw [← hW0]
    clear hA hold hW0
    go_loopw [25] (fun i wr => ∃ (k : Nat) (v : Value), k ≤ ts.length ∧ i = .int .i64 k ∧ RdRel W0 (w.heap.size + 1 + 1) (w.heap.size + 1 + 1 + 1) ts k v wr) (fun i _ => ts.length - (intOf i).toNat)
    case atStart =>
      refine ⟨0, .slice none 0 0, Nat.zero_le _, rfl, ⟨fun j h => absurd h (by omega), ?_, ?_, ?_, ?_, ?_⟩⟩
      · simpa using World.ownsRow_nil _ _ _ _
      · rw [List.take_zero, mapOf_nil, ← hsz]
        exact (World.ownsMap_made W0 _ _ _).alloc _
      · rw [← hsz]
        have := heap_alloc_new (W0.alloc (.map #[] 0)) (.cells #[.slice none 0 0, .map (some W0.heap.size)] 122 (0, 0))
        simpa using this
      · rw [← hsz]
        exact ((Below.refl _ _).alloc (Nat.le_refl _) _).alloc (by simp) _
      · simp; omega
    case round =>
      obtain ⟨k, v, hk, rfl, hrel⟩ := hrel
      have HR := Lib.hid hrel
      obtain ⟨A', c', rfl⟩ := row_shape hrel.row
      have b0 : wr.cell? ⟨w.heap.size + 1 + 1 + 1, 0, none⟩ = some (.slice A' k c') := by simp [World.cell?, hrel.book]
      have b1 : wr.cell? ⟨w.heap.size + 1 + 1 + 1, 1, none⟩ = some (.map (some (w.heap.size + 1 + 1))) := by simp [World.cell?, hrel.book]
      have r0 := (hrel.old.cell (p := ⟨w.heap.size + 1, 0, none⟩) (by show w.heap.size + 1 < _; omega)).trans hres0
      have r1 := (hrel.old.cell (p := ⟨w.heap.size + 1, 1, none⟩) (by show w.heap.size + 1 < _; omega)).trans hres1
      have r2 : wr.frozen? ⟨w.heap.size + 1, 0, none⟩ = false := (hrel.old.frozen (p := ⟨w.heap.size + 1, 0, none⟩) (by show w.heap.size + 1 < _; omega)).trans (hfr0 0)
      have r3 : wr.frozen? ⟨w.heap.size + 1, 1, none⟩ = false := (hrel.old.frozen (p := ⟨w.heap.size + 1, 1, none⟩) (by show w.heap.size + 1 < _; omega)).trans (hfr0 1)
      by_cases hlt : k < ts.length
      · obtain ⟨b, o, rfl, hL, hb, hc⟩ := hA0 (by omega)
        obtain ⟨A1, c1, x0, x1, x2, x3, _, _, hby⟩ := (hc k hlt).keep hL hb (fun p _ hp => hrel.old.cell (by omega))
        have hle := text_le_bulk ts k hlt
        have HY := Lib.hid hby
        have hz := hrel.size
        have hkl : (ts.take k).length = k := by simp; omega
        have HK := Lib.hid hkl
        have hbk' : wr.ownsRow (w.heap.size + 1 + 1 + 1 + 1) 153 1 (.slice A' (ts.take k).length c') (ts.take k).length ((ts.take k).map tv) := by rw [hkl]; exact hrel.row
        have HBK := Lib.hid (bk_of_row hbk')
        clear hc hby hrel hkl hbk'
        cases hread : readB (ts.take k) ts[k] with
        | false =>
          have H1 := Lib.hid (show readV (ts.take k) ts[k] = .tuple #[.nilIface, .bool false] by simp [readV, hread])
          have hno : ¬ LOk ts := fun h => by
            obtain ⟨_, g1, g2, _⟩ := h.2 k hlt
            rw [readB_eq ts k hlt, g1, g2] at hread
            cases hread
          have HNo := Lib.hid hno
          clear hread hno
          go_wp2_with fail
          have hread' := read_any A' A1 (ts.take k) ts[k] c' c1 (w.heap.size + 1 + 1 + 1 + 1) wr.heap.size L B (some (w.heap.size + 1 + 1)) (wr.alloc (.cells #[.int .i64 ts[k].kind, .int .i64 ts[k].a, .int .i64 ts[k].b, .slice A1 ts[k].text.length c1] 116))
            (HBK.out.keep fun p _ hp => World.cell?_alloc_lt _ _ _ (by omega)) (by simp) (HY.out.keep fun p _ hp => World.cell?_alloc_lt _ _ _ (by omega)) (by simp; omega) (by have := HK.out; omega) (by omega)
          rw [HK.out, H1.out] at hread'
          refine hread'.mono ?_
          clear hread'
          rintro e w1 ⟨rfl, hb1⟩
          have hb2 : Below wr.heap.size wr w1 := ((Below.refl _ _).alloc (Nat.le_refl _) _).trans (hb1.mono (by simp))
          have hz1 : wr.heap.size + 1 ≤ w1.heap.size := by simpa using hb1.size
          have p0 := (hb2.cell (p := ⟨w.heap.size + 1, 0, none⟩) (by show w.heap.size + 1 < _; omega)).trans r0
          have p1 := (hb2.cell (p := ⟨w.heap.size + 1, 1, none⟩) (by show w.heap.size + 1 < _; omega)).trans r1
          have p2 := (hb2.frozen (p := ⟨w.heap.size + 1, 0, none⟩) (by show w.heap.size + 1 < _; omega)).trans r2
          have p3 := (hb2.frozen (p := ⟨w.heap.size + 1, 1, none⟩) (by show w.heap.size + 1 < _; omega)).trans r3
          have HB2 := Lib.hid hb2
          clear hb1 hb2 b0 b1 r0 r1 r2 r3 x0 x1 x2 x3
          go_wp2_with fail
          refine bodyPost_ret (v := .tuple #[.agg #[.slice none 0 0, .map none], .bool false]) (by simp [results, Try.results83, p0, p1, go_sem]) rfl (.inr ⟨HNo.out, rfl, ?_⟩)
          refine ((HOld.out.trans ((HR.out.old.mono (by omega)).trans (HB2.out.mono (by omega)))).setCell ?_ _).setCell ?_ _
          all_goals (show w.heap.size ≤ w.heap.size + 1; omega)
        | true =>
          obtain ⟨T, tvv, htv, _⟩ := tv_cases ts[k]
          have H1 := Lib.hid (show readV (ts.take k) ts[k] = .tuple #[.iface T tvv, .bool true] by simp [readV, hread, htv])
          have HTv := Lib.hid htv
          clear htv
          have hwf := readB_wf _ _ (by have := HK.out; omega) hread
          have HWf := Lib.hid hwf
          have HRd := Lib.hid hread
          clear hread hwf
          go_wp2_with fail
          have hread' := read_any A' A1 (ts.take k) ts[k] c' c1 (w.heap.size + 1 + 1 + 1 + 1) wr.heap.size L B (some (w.heap.size + 1 + 1)) (wr.alloc (.cells #[.int .i64 ts[k].kind, .int .i64 ts[k].a, .int .i64 ts[k].b, .slice A1 ts[k].text.length c1] 116))
            (HBK.out.keep fun p _ hp => World.cell?_alloc_lt _ _ _ (by omega)) (by simp) (HY.out.keep fun p _ hp => World.cell?_alloc_lt _ _ _ (by omega)) (by simp; omega) (by have := HK.out; omega) (by omega)
          rw [HK.out, H1.out] at hread'
          refine hread'.mono ?_
          clear hread'
          rintro e w1 ⟨rfl, hb1⟩
          have hb2 : Below wr.heap.size wr w1 := ((Below.refl _ _).alloc (Nat.le_refl _) _).trans (hb1.mono (by simp))
          have hz1 : wr.heap.size + 1 ≤ w1.heap.size := by simpa using hb1.size
          have p0 := (hb2.cell (p := ⟨w.heap.size + 1, 0, none⟩) (by show w.heap.size + 1 < _; omega)).trans r0
          have p1 := (hb2.cell (p := ⟨w.heap.size + 1, 1, none⟩) (by show w.heap.size + 1 < _; omega)).trans r1
          have p2 := (hb2.frozen (p := ⟨w.heap.size + 1, 0, none⟩) (by show w.heap.size + 1 < _; omega)).trans r2
          have p3 := (hb2.frozen (p := ⟨w.heap.size + 1, 1, none⟩) (by show w.heap.size + 1 < _; omega)).trans r3
          have q0 := (hb2.cell (p := ⟨w.heap.size + 1 + 1 + 1, 0, none⟩) hz).trans b0
          have q1 := (hb2.cell (p := ⟨w.heap.size + 1 + 1 + 1, 1, none⟩) hz).trans b1
          have t0 : w1.cell? ⟨wr.heap.size, 0, none⟩ = some (.int .i64 ts[k].kind) := (hb1.cell (p := ⟨wr.heap.size, 0, none⟩) (by simp)).trans (by simp)
          have t1 : w1.cell? ⟨wr.heap.size, 1, none⟩ = some (.int .i64 ts[k].a) := (hb1.cell (p := ⟨wr.heap.size, 1, none⟩) (by simp)).trans (by simp)
          have t2 : w1.cell? ⟨wr.heap.size, 2, none⟩ = some (.int .i64 ts[k].b) := (hb1.cell (p := ⟨wr.heap.size, 2, none⟩) (by simp)).trans (by simp)
          have t3 : w1.cell? ⟨wr.heap.size, 3, none⟩ = some (.slice A1 ts[k].text.length c1) := (hb1.cell (p := ⟨wr.heap.size, 3, none⟩) (by simp)).trans (by simp)
          have HB2 := Lib.hid hb2
          clear hb1 hb2 b0 b1 r0 r1 r2 r3 x0 x1 x2 x3
          go_wp2_with fail
          refine (termKeyOf_any ts[k] A1 c1 L B _ (HY.out.keep fun p _ hp => HB2.out.cell (by omega)) (by omega)).mono ?_
          rintro e w2 ⟨rfl, hb3⟩
          have hz2 : w1.heap.size ≤ w2.heap.size := hb3.size
          have HR2 := Lib.hid (HR.out.keep (HB2.out.trans (hb3.mono HB2.out.size)) (by omega))
          have p0' := (hb3.cell (p := ⟨w.heap.size + 1, 0, none⟩) (by show w.heap.size + 1 < _; omega)).trans p0
          have p1' := (hb3.cell (p := ⟨w.heap.size + 1, 1, none⟩) (by show w.heap.size + 1 < _; omega)).trans p1
          have p2' := (hb3.frozen (p := ⟨w.heap.size + 1, 0, none⟩) (by show w.heap.size + 1 < _; omega)).trans p2
          have p3' := (hb3.frozen (p := ⟨w.heap.size + 1, 1, none⟩) (by show w.heap.size + 1 < _; omega)).trans p3
          have q0' := (hb3.cell (p := ⟨w.heap.size + 1 + 1 + 1, 0, none⟩) (by show w.heap.size + 1 + 1 + 1 < _; omega)).trans q0
          have q1' := (hb3.cell (p := ⟨w.heap.size + 1 + 1 + 1, 1, none⟩) (by show w.heap.size + 1 + 1 + 1 < _; omega)).trans q1
          have hz3 : w.heap.size + 1 + 1 + 1 < w2.heap.size := by omega
          have hz4 : w.heap.size + 1 < w2.heap.size := by omega
          have HB3 := Lib.hid (HB2.out.trans (hb3.mono HB2.out.size))
          clear hb3 p0 p1 p2 p3 q0 q1 t0 t1 t2 t3
          obtain ⟨nv, nps, hlook, hnv⟩ := (HR2.out.map.alloc (.cells #[.int .i64 ts[k].kind, .int .i64 ts[k].a, .int .i64 ts[k].b, .string ⟨ts[k].text.toArray⟩] 157)).look_ok Try.keyed Try.underlying120 (zeroInt _) (plainElem_int Try.underlying3 (by decide))
            (key := .agg #[.int .i64 ts[k].kind, .int .i64 ts[k].a, .int .i64 ts[k].b, .string ⟨ts[k].text.toArray⟩]) (keyOf_tk ts[k] HWf.out)
          obtain ⟨n, rfl, _, _⟩ := plainElem_int_inv Try.underlying3 hnv
          rw [has_mapOf _ _ (take_wf hn HR.out.good) HWf.out] at hlook
          clear hnv
          by_cases hmem : ts[k] ∈ ts.take k
          · rw [decide_eq_true hmem] at hlook
            have hno : ¬ LOk ts := fun h => by
              obtain ⟨_, _, _, h3⟩ := h.2 k hlt
              obtain ⟨j, hj, e⟩ := (mem_take hlt).1 hmem
              exact h3 j hj e
            have HNo := Lib.hid hno
            clear hno hmem
            go_wp2_with fail
            refine bodyPost_ret (v := .tuple #[.agg #[.slice none 0 0, .map none], .bool false]) (by simp [results, Try.results83, hz4, p0', p1', go_sem]) rfl (.inr ⟨HNo.out, rfl, ?_⟩)
            exact (((HOld.out.trans ((HR.out.old.mono (by omega)).trans (HB3.out.mono (by omega)))).setCell (by show w.heap.size ≤ w.heap.size + 1; omega) _).setCell (by show w.heap.size ≤ w.heap.size + 1; omega) _).alloc (by simp; omega) _
          · rw [decide_eq_false hmem] at hlook
            have HMem := Lib.hid hmem
            clear hmem
            obtain ⟨W3, hW3⟩ : ∃ W3, W3 = w2.alloc (.cells #[.int .i64 ts[k].kind, .int .i64 ts[k].a, .int .i64 ts[k].b, .string ⟨ts[k].text.toArray⟩] 157) := ⟨_, rfl⟩
            have hb4 : Below w2.heap.size w2 W3 := by subst hW3; exact (Below.refl _ _).alloc (Nat.le_refl _) _
            have hz5 : w2.heap.size + 1 = W3.heap.size := by subst hW3; simp
            have HR3 := Lib.hid (HR2.out.keep hb4 (by omega))
            obtain ⟨w4, hupd, hmap4, hgr4⟩ := HR3.out.map.update Try.keyed Try.underlying120 (by unfold maxLen; omega) (key := .agg #[.int .i64 ts[k].kind, .int .i64 ts[k].a, .int .i64 ts[k].b, .string ⟨ts[k].text.toArray⟩]) (val := .int .i64 k) (keyOf_tk ts[k] HWf.out) (plainElem_int Try.underlying3 (WalkArith.wf_i64 (by omega)))
            rw [hW3] at hupd
            have s0 : w4.cell? ⟨w.heap.size + 1 + 1 + 1, 0, none⟩ = some (.slice A' k c') := hgr4.cell ((hb4.cell (p := ⟨w.heap.size + 1 + 1 + 1, 0, none⟩) hz3).trans q0') (by simp)
            have s1 : w4.cell? ⟨w.heap.size + 1 + 1 + 1, 1, none⟩ = some (.map (some (w.heap.size + 1 + 1))) := hgr4.cell ((hb4.cell (p := ⟨w.heap.size + 1 + 1 + 1, 1, none⟩) hz3).trans q1') (by simp)
            have hz6 : w2.heap.size + 1 ≤ w4.heap.size := by have := hgr4.size; omega
            have hz7 : w.heap.size + 1 + 1 + 1 < w4.heap.size := by omega
            have hrow4 : w4.ownsRow (w.heap.size + 1 + 1 + 1 + 1) 153 1 (.slice A' k c') k ((ts.take k).map tv) := HR3.out.row.kept hgr4 (.inr fun e => by have := (HR3.out.row.lt _ e).1; omega)
            have HM4 := Lib.hid hmap4
            have HG4 := Lib.hid hgr4
            have HB4 := Lib.hid hb4
            have HRow4 := Lib.hid hrow4
            obtain ⟨i0, hi, hz0, hz1', hz2'⟩ := info_parts Try.info85
            clear hmap4 hgr4 hb4 hW3 p0' p1' p2' p3' hrow4
            go_wp2_with (at_builtin; refine wpList_append_own _ rfl _ _ 119 rfl (w.heap.size + 1 + 1 + 1 + 1) 153 i0 .nilIface 1 16 Try.underlying119 hi hz0 hz1' hz2' rfl (by decide) _ _ _ rfl (HRow4.out.alloc _) ⟨w4.heap.size, 0, none⟩ 1 1 [.iface T tvv] rfl rfl ?c1 ?c2 ?c3 ?c4 ?c5 ?_)
            case c1 => exact cell_one_new _ _ _
            case c2 => intro u hu; simp at hu; subst hu; rfl
            case c3 => unfold maxLen; omega
            case c4 => omega
            case c5 => simp; omega
            intro v' w5 hrow5 hgr5 _
            have HRow5 := Lib.hid hrow5
            have HG5 := Lib.hid hgr5
            obtain ⟨A5, c5, rfl⟩ := row_shape hrow5
            have u0 : w5.cell? ⟨w.heap.size + 1 + 1 + 1, 0, none⟩ = some (.slice A' k c') := hgr5.cell ((World.cell?_alloc_lt _ _ _ hz7).trans s0) (own_ne HRow4.out (by show w.heap.size + 1 + 1 + 1 < _; omega))
            have u1 : w5.frozen? ⟨w.heap.size + 1 + 1 + 1, 0, none⟩ = false := by
              rw [World.frozen?_of_block (w := w4.alloc _) (hgr5.block _ (by simp; omega) (own_ne HRow4.out (by show w.heap.size + 1 + 1 + 1 < _; omega)))]
              rw [World.frozen?_of_block (w := w4) (Below.heap_alloc _ _ _ hz7), World.frozen?_of_block (w := W3) (HG4.out.block (w.heap.size + 1 + 1 + 1) (by omega) (by simp))]
              simp [World.frozen?, HR3.out.book]
            clear hrow5 hgr5
            go_wp2_with fail
            go_roundw
            case rel =>
              refine ⟨k + 1, _, by omega, by go_num, HR3.out.step (o := .cells #[.iface T tvv] 153) rfl hlt HM4.out HG4.out ?_ HG5.out ?_⟩
              · have := HRow5.out
                rw [← List.map_take, ← HTv.out] at this
                exact this
              · have hr := HRd.out
                rw [readB_eq ts k hlt, Bool.and_eq_true] at hr
                exact ⟨hlt, hr.1, hr.2, fun j hj e => HMem.out ((mem_take hlt).2 ⟨j, hj, e⟩)⟩
            case measure => simp [intOf]; omega
      · have hke : k = ts.length := by omega
        have hrow := hrel.row
        have hgood : LOk ts := ⟨h4, fun j hj => hrel.good j (by omega)⟩
        have hmap := hrel.map
        rw [hke, List.take_length] at hrow hmap
        have hbkn := bk_of_row (us := ts) (A := A') (c := c') (by rw [← hke]; rw [← hke] at hrow; exact hrow)
        have HGd := Lib.hid hgood
        have HMap := Lib.hid hmap
        have HBk := Lib.hid hbkn
        have HKe := Lib.hid hke
        have hz := hrel.size
        clear hrow hgood hmap hbkn hke hrel
        go_wp2_with fail
        refine bodyPost_ret (v := .tuple #[.agg #[.slice A' k c', .map (some (w.heap.size + 1 + 1))], .bool true]) (by simp [results, Try.results83, r0, r1, go_sem]) rfl (.inl ⟨HGd.out, A', c', w.heap.size + 1 + 1, by rw [HKe.out], by omega, ?_, ?_, ?_⟩)
        · refine BkIn.low (BkIn.mono (HBk.out.keep fun p hp _ => ?_) (by simp)) (by omega)
          rw [World.cell?_setCell_other _ _ _ _ (by rintro rfl; simp at hp; omega), World.cell?_setCell_other _ _ _ _ (by rintro rfl; simp at hp; omega)]
        · exact (HMap.out.setCell (by show w.heap.size + 1 + 1 ≠ w.heap.size + 1; omega) _).setCell (by show w.heap.size + 1 + 1 ≠ w.heap.size + 1; omega) _
        · exact ((HOld.out.trans (HR.out.old.mono (by omega))).setCell (by show w.heap.size ≤ w.heap.size + 1; omega) _).setCell (by show w.heap.size ≤ w.heap.size + 1; omega) _
  · go_enter Try.func83, Try.ntmps83
    go_wp2_with fail
    refine bodyPost_ret (v := .tuple #[.agg #[.slice none 0 0, .map none], .bool false]) (by simp [results, Try.results83, go_sem]) rfl (.inr ⟨fun h => h4 h.1, rfl, ((Below.refl _ _).alloc (Nat.le_refl _) _).alloc (by simp) _⟩)

end Go.Proofs.Ytblmhhijgdkkoaa
