/-
  What the law writes into a ledger that it was handed back, and what it finds there.
-/
import Derived.Test.YtkmoihkpaccbdaaDoorCopyL
namespace Go.Proofs.YtkmoihkpaccbdaaDoor
open Go.RowKit Go.Maps

/-- As MkFr, in a block of bytes. -/
def MkTx (w : World) (L B : Nat) (A : Option Addr) (k : Int) (n : Nat) : Prop :=
  0 < n → ∃ b cur, A = some ⟨b, 0, none⟩ ∧ L ≤ b ∧ b < B ∧ w.heap[b]? = some (.cells cur 5 (0, 0)) ∧ ∀ j, j < n → cur[j]? = some (.int .u8 ((k + j) % 256))
theorem MkTx.keep {w w' : World} {L B n : Nat} {k : Int} {A : Option Addr} (h : MkTx w L B A k n) (hk : ∀ b, L ≤ b → b < B → w'.heap[b]? = w.heap[b]?) : MkTx w' L B A k n := fun hl => by
  obtain ⟨b, cur, e, hL, hb, hh, hc⟩ := h hl
  exact ⟨b, cur, e, hL, hb, (hk b hL hb).trans hh, hc⟩
theorem MkTx.keepT {w w' : World} {L B n : Nat} {k : Int} {A : Option Addr} (h : MkTx w L B A k n) (hk : ∀ b cur, L ≤ b → b < B → w.heap[b]? = some (.cells cur 5 (0, 0)) → w'.heap[b]? = w.heap[b]?) : MkTx w' L B A k n := fun hl => by
  obtain ⟨b, cur, e, hL, hb, hh, hc⟩ := h hl
  exact ⟨b, cur, e, hL, hb, (hk b cur hL hb hh).trans hh, hc⟩
theorem MkTx.low {w : World} {L L' B n : Nat} {k : Int} {A : Option Addr} (h : MkTx w L B A k n) (hL' : L' ≤ L) : MkTx w L' B A k n := fun hl => by
  obtain ⟨b, cur, e, hL, hb, hh, hc⟩ := h hl
  exact ⟨b, cur, e, by omega, hb, hh, hc⟩
theorem MkTx.fr {w : World} {L B n : Nat} {k : Int} {A : Option Addr} (h : MkTx w L B A k n) : MkFr w L B A k n := fun hl => by
  obtain ⟨b, cur, e, hL, hb, hh, hc⟩ := h hl
  refine ⟨b, 0, e, hL, hb, fun j hj => ⟨?_, ?_⟩⟩
  · rw [Nat.zero_add, World.cell?, hh]
    simpa using hc j hj
  · simp [World.frozen?, hh]

/-- What is no block of bytes is as it was. -/
def NB (w w' : World) : Prop := ∀ (i : Nat) (cur : Array Value) (t : TypeId) (fr : Nat × Nat), w.heap[i]? = some (Obj.cells cur t fr) → t ≠ 5 → w'.heap[i]? = w.heap[i]?

set_option maxHeartbeats 400000 in
theorem markByteS_tx (A : Option Addr) (l : List UInt8) (c L B : Nat) (k : Int) (w : World) (hA : TxFr w L B A l) (hn : l.length ≤ 4194304) (hk : 0 ≤ k) (hk' : k ≤ 1000000000) :
    Calls Tryd.prog 17 #[.slice A l.length c, .int .i64 k] w fun e w' => e = .returned (.int .i64 (k + l.length)) ∧ MkTx w' L B A k l.length ∧ Inside L B w w' ∧ NB w w' := by
  go_enter Tryd.func17, Tryd.ntmps17
  go_wp2
  go_loopw [1, 5] (fun x i wr => ∃ j : Nat, j ≤ l.length ∧ i = .int .i64 j ∧ x = .int .i64 (k + j) ∧ Inside L B w wr ∧ NB w wr ∧
    (0 < l.length → ∃ b m f, A = some ⟨b, 0, none⟩ ∧ L ≤ b ∧ b < B ∧ (∃ cur, w.heap[b]? = some (.cells cur 5 (0, 0))) ∧ l.length ≤ m ∧ wr.rowIs b 5 m f ∧ ∀ i, i < j → f i = .int .u8 ((k + i) % 256))) (fun _ i _ => l.length - (intOf i).toNat)
  case atStart =>
    refine ⟨0, Nat.zero_le _, rfl, by simp, Inside.refl _ _ _, fun _ _ _ _ _ _ => rfl, fun hl => ?_⟩
    obtain ⟨b, cur, e, hL, hb, hh, hc⟩ := hA hl
    refine ⟨b, cur.size, fun i => cur[i]?.getD .nilIface, e, hL, hb, ⟨cur, hh⟩, ?_, ⟨cur, hh, rfl, fun i hi => by simp [hi]⟩, fun i hi => absurd hi (by omega)⟩
    have := hc (l.length - 1) (by omega)
    have := (Array.getElem?_eq_some_iff.1 this).1
    omega
  case round =>
    obtain ⟨j, hj, rfl, rfl, hin, hnb, hc⟩ := hrel
    have HI := Lib.hid hin
    have HNb := Lib.hid hnb
    clear hin hnb
    by_cases hlt : j < l.length
    · obtain ⟨b, m, f, rfl, hL, hb, hty, hm, hrow, hf⟩ := hc (by omega)
      have h0 := hrow.cell (i := j) (by omega)
      have hfz := hrow.frozen j
      have HRow := Lib.hid hrow
      have HF := Lib.hid hf
      have HTy := Lib.hid hty
      clear hc hrow hf hty
      go_wp2
      go_roundw
      case rel =>
        refine ⟨j + 1, by omega, by go_num, by go_num, HI.out.setCell hL hb _, fun i cur t fr hh ht => ?_, fun _ => ⟨b, m, _, rfl, hL, hb, HTy.out, hm, HRow.out.set j _, fun i hi => ?_⟩⟩
        · have hne : i ≠ b := fun e => by
            subst e
            obtain ⟨cur', hh'⟩ := HTy.out
            rw [hh] at hh'
            cases hh'
            exact ht rfl
          rw [Below.heap_setCell _ _ _ _ hne]
          exact HNb.out i cur t fr hh ht
        · by_cases e : i = j
          · subst e; simp
          · rw [if_neg e]
            exact HF.out i (by omega)
      case measure => simp [intOf]; omega
    · have HC := Lib.hid hc
      clear hc
      go_wp2
      go_ret
      refine ⟨ret_int (by omega), fun hl => ?_, HI.out, HNb.out⟩
      obtain ⟨b, m, f, rfl, hL, hb, _, hm, ⟨cur, hh, hsz, hcur⟩, hf⟩ := HC.out hl
      exact ⟨b, cur, rfl, hL, hb, hh, fun i hi => (hcur i (by omega)).trans (congrArg some (hf i (by omega)))⟩

/-- The texts, written into from k on. -/
def MkChain (w : World) : Nat → List Tx → Nat → Int → Prop
  | L, [], B, _ => L ≤ B
  | L, x :: xs, B, k => ∃ M, L ≤ M ∧ MkTx w L M x.A (k + 3) x.t.text.length ∧ MkChain w M xs B (k + 3 + x.t.text.length)

theorem MkChain.le {w : World} {L B : Nat} {us : List Tx} {k : Int} (h : MkChain w L us B k) : L ≤ B := by
  induction us generalizing L k with
  | nil => exact h
  | cons x xs ih =>
    obtain ⟨M, hM, _, hr⟩ := h
    have := ih hr
    omega
theorem MkChain.keepT {w w' : World} {L B : Nat} {us : List Tx} {k : Int} (h : MkChain w L us B k) (hk : ∀ b cur, L ≤ b → b < B → w.heap[b]? = some (.cells cur 5 (0, 0)) → w'.heap[b]? = w.heap[b]?) : MkChain w' L us B k := by
  induction us generalizing L k with
  | nil => exact h
  | cons x xs ih =>
    obtain ⟨M, hM, ht, hr⟩ := h
    have hle := hr.le
    exact ⟨M, hM, ht.keepT fun b cur h1 h2 => hk b cur h1 (by omega), ih hr fun b cur h1 h2 => hk b cur (by omega) h2⟩
theorem MkChain.mono {w : World} {L B B' : Nat} {us : List Tx} {k : Int} (h : MkChain w L us B k) (hB : B ≤ B') : MkChain w L us B' k := by
  induction us generalizing L k with
  | nil => exact Nat.le_trans h hB
  | cons x xs ih =>
    obtain ⟨M, hM, ht, hr⟩ := h
    exact ⟨M, hM, ht, ih hr⟩
theorem MkChain.snoc {w : World} {L M B : Nat} {us : List Tx} {x : Tx} {k : Int} (h : MkChain w L us M k) (ht : MkTx w M B x.A (k + marksOf (us.map fun x => x.t.text.length) + 3) x.t.text.length) (hB : M ≤ B) : MkChain w L (us ++ [x]) B k := by
  induction us generalizing L k with
  | nil => exact ⟨B, Nat.le_trans h hB, by have := ht.low h; simpa [marksOf] using this, Nat.le_refl _⟩
  | cons y ys ih =>
    obtain ⟨N, hN, hy, hr⟩ := h
    refine ⟨N, hN, hy, ih hr ?_⟩
    have e : k + 3 + (y.t.text.length : Int) + (marksOf (ys.map fun x => x.t.text.length) : Int) + 3 = k + (marksOf ((y :: ys).map fun x => x.t.text.length) : Int) + 3 := by
      simp [marksOf]
      omega
    rw [e]
    exact ht

/-- How many numbers are written into the first j. -/
def mk (us : List Tx) (j : Nat) : Nat := marksOf ((us.take j).map fun x => x.t.text.length)
theorem mk_succ (us : List Tx) (j : Nat) (h : j < us.length) : mk us (j + 1) = mk us j + 3 + us[j].t.text.length := by
  unfold mk
  rw [List.map_take, List.map_take, marksOf_succ _ _ (by simpa using h)]
  simp
theorem mk_le (us : List Tx) (j : Nat) : mk us j ≤ marksOf (us.map fun x => x.t.text.length) := by
  unfold mk
  rw [List.map_take]
  exact marksOf_le _ _
theorem mk_all (us : List Tx) : mk us us.length = marksOf (us.map fun x => x.t.text.length) := by
  unfold mk
  rw [List.take_length]
theorem mk_zero (us : List Tx) : mk us 0 = 0 := by simp [mk, marksOf]

/-- The row of a ledger, the first j terms of it written into from k on. -/
def RowMk (w : World) (R m : Nat) (us : List Tx) (j : Nat) (k : Int) : Prop :=
  ∃ f, w.rowIs R 71 m f ∧ us.length * 4 ≤ m ∧ (∀ i (hi : i < us.length), f (i * 4 + 3) = .slice us[i].A us[i].t.text.length us[i].c) ∧
    ∀ i, i < j → f (i * 4) = .int .i64 (k + mk us i) ∧ f (i * 4 + 1) = .int .i64 (k + mk us i + 1) ∧ f (i * 4 + 2) = .int .i64 (k + mk us i + 2)

theorem RowMk.keep {w w' : World} {R m j : Nat} {us : List Tx} {k : Int} (h : RowMk w R m us j k) (e : w'.heap[R]? = w.heap[R]?) : RowMk w' R m us j k := by
  obtain ⟨f, hrow, h⟩ := h
  exact ⟨f, hrow.of_block e, h⟩

theorem other_type {w : World} {R b m : Nat} {f : Nat → Value} {cur : Array Value} (hrow : w.rowIs R 71 m f) (hb : w.heap[b]? = some (.cells cur 5 (0, 0))) : b ≠ R := fun e => by
  subst e
  obtain ⟨c, hh, _⟩ := hrow
  rw [hb] at hh
  cases hh

set_option maxRecDepth 100000 in
set_option maxHeartbeats 2000000 in
theorem markTermS_ex (R m : Nat) (us : List Tx) (c L B S E : Nat) (k : Int) (w : World) (hrow : RowMk w R m us 0 k) (hch : TxChain w L us B) (hS1 : S ≤ R) (hS2 : S ≤ L) (hE1 : R < E) (hE2 : B ≤ E) (hE : E ≤ w.heap.size) (hn : marksOf (us.map fun x => x.t.text.length) ≤ 4194304) (hk : 0 ≤ k) (hk' : k ≤ 1000000) :
    Calls Tryd.prog 33 #[.slice (some ⟨R, 0, none⟩) us.length c, .int .i64 k] w fun e w' => e = .returned (.int .i64 (k + marksOf (us.map fun x => x.t.text.length))) ∧ RowMk w' R m us us.length k ∧ MkChain w' L us B k ∧ Inside S E w w' := by
  have HRow := Lib.hid hrow
  have HCh := Lib.hid hch
  have hnl : us.length ≤ marksOf (us.map fun x => x.t.text.length) := by unfold marksOf; rw [List.length_map]; omega
  have HAll := Lib.hid (mk_all us)
  have HLe := Lib.hid (mk_le us)
  generalize marksOf (us.map fun x => x.t.text.length) = tot at *
  clear hrow hch
  go_enter Tryd.func33, Tryd.ntmps33
  go_wp2
  go_loopw [1, 5] (fun x i wr => ∃ j M : Nat, j ≤ us.length ∧ i = .int .i64 j ∧ x = .int .i64 (k + mk us j) ∧ mk us j ≤ tot ∧ RowMk wr R m us j k ∧ MkChain wr L (us.take j) M k ∧ TxChain wr M (us.drop j) B ∧ Inside S E w wr) (fun _ i _ => us.length - (intOf i).toNat)
  case atStart => exact ⟨0, L, Nat.zero_le _, rfl, by simp [mk_zero], by simp [mk_zero], HRow.out, by simp [MkChain], HCh.out, Inside.refl _ _ _⟩
  case round =>
    obtain ⟨j, M, hj, rfl, rfl, hle, ⟨f, hrw, hm, hhd, hmarks⟩, hmc, htc, hin⟩ := hrel
    have HRw := Lib.hid hrw
    have HHd := Lib.hid hhd
    have HMarks := Lib.hid hmarks
    have HMc := Lib.hid hmc
    have HTc := Lib.hid htc
    have HIn := Lib.hid hin
    clear hmc htc hmarks
    by_cases hlt : j < us.length
    · have c0 := hrw.cell (i := j * 4) (by omega)
      have c1 := hrw.cell (i := j * 4 + 1) (by omega)
      have c2 := hrw.cell (i := j * 4 + 2) (by omega)
      have c3 := (hrw.cell (i := j * 4 + 3) (by omega)).trans (congrArg some (hhd j hlt))
      have f0 := hrw.frozen (j * 4)
      have f1 := hrw.frozen (j * 4 + 1)
      have f2 := hrw.frozen (j * 4 + 2)
      have HSucc := Lib.hid (mk_succ us j hlt)
      have hle2 : mk us (j + 1) ≤ tot := HLe.out (j + 1)
      rw [HSucc.out] at hle2
      have HMk := Lib.hid (show mk us j = marksOf ((us.take j).map fun x => x.t.text.length) from rfl)
      generalize hx : us[j] = x at *
      have hdrop : us.drop j = x :: us.drop (j + 1) := by rw [List.drop_eq_getElem_cons hlt, hx]
      have htc' := HTc.out
      rw [hdrop] at htc'
      obtain ⟨M', hMM, htx, hrest⟩ := htc'
      have hLM := HMc.out.le
      have hMB := hrest.le
      have HX := Lib.hid hx
      have HSt := Lib.hid (show NB wr wr from fun _ _ _ _ _ _ => rfl)
      have HI3 := Lib.hid (((HIn.out.setCell (p := ⟨R, j * 4, none⟩) hS1 hE1 (.int .i64 (k + mk us j))).setCell (p := ⟨R, j * 4 + 1, none⟩) hS1 hE1 (.int .i64 (k + mk us j + 1))).setCell (p := ⟨R, j * 4 + 2, none⟩) hS1 hE1 (.int .i64 (k + mk us j + 1 + 1)))
      have HRow3 := Lib.hid (((HRw.out.set (j * 4) (.int .i64 (k + mk us j))).set (j * 4 + 1) (.int .i64 (k + mk us j + 1))).set (j * 4 + 2) (.int .i64 (k + mk us j + 1 + 1)))
      have hoth : ∀ b, b ≠ R → (((wr.setCell ⟨R, j * 4, none⟩ (.int .i64 (k + mk us j))).setCell ⟨R, j * 4 + 1, none⟩ (.int .i64 (k + mk us j + 1))).setCell ⟨R, j * 4 + 2, none⟩ (.int .i64 (k + mk us j + 1 + 1))).heap[b]? = wr.heap[b]? := fun b hb => by
        rw [Below.heap_setCell _ _ _ _ hb, Below.heap_setCell _ _ _ _ hb, Below.heap_setCell _ _ _ _ hb]
      have HOth := Lib.hid hoth
      have HTx3 := Lib.hid (htx.keepT (w' := ((wr.setCell ⟨R, j * 4, none⟩ (.int .i64 (k + mk us j))).setCell ⟨R, j * 4 + 1, none⟩ (.int .i64 (k + mk us j + 1))).setCell ⟨R, j * 4 + 2, none⟩ (.int .i64 (k + mk us j + 1 + 1))) fun b cur _ _ hb => hoth b (other_type HRw.out hb))
      have HRest := Lib.hid hrest
      generalize mk us j = mj at *
      clear hx hdrop htx hrest hoth hrw hhd hin
      go_wp2_with fail
      refine (markByteS_tx x.A x.t.text x.c M M' _ _ HTx3.out (by omega) (by omega) (by omega)).mono ?_
      rintro e w4 ⟨rfl, hmk4, hin4, hnb4⟩
      have e3 : k + (mj : Int) + 1 + 1 + 1 = k + (marksOf ((us.take j).map fun x => x.t.text.length) : Int) + 3 := by rw [← HMk.out]; omega
      have hmk4' := hmk4
      rw [e3] at hmk4'
      have HMc4 := Lib.hid ((HMc.out.keepT (w' := w4) fun b cur _ hb hbt => (hin4.below.block b hb).trans (HOth.out b (other_type HRw.out hbt))).snoc (x := x) hmk4' hMM)
      have HTc4 := Lib.hid (HRest.out.keepT (w' := w4) fun b cur hb hb2 hbt => (hin4.above b hb (by have := HI3.out.below.size; omega)).trans (HOth.out b (other_type HRw.out hbt)))
      have HIn4 := Lib.hid (HI3.out.trans (hin4.wider (by omega) (by omega)))
      have HRow4 := Lib.hid (HRow3.out.of_block (w' := w4) (by
        obtain ⟨cc, hh, _⟩ := HRow3.out
        exact hnb4 R cc _ _ hh (by decide)))
      clear e3 hmk4 hmk4' hin4 hnb4 c0 c1 c2 c3 f0 f1 f2
      go_wp2_with fail
      go_roundw
      case rel =>
        refine ⟨j + 1, M', by omega, by go_num, ?_, by rw [HSucc.out]; omega, ⟨_, HRow4.out, hm, fun i hi => ?_, fun i hi => ?_⟩, ?_, HTc4.out, HIn4.out⟩
        · have hm' := HMk.out
          rw [HSucc.out]
          congr 1
          omega
        · show (if i * 4 + 3 = j * 4 + 2 then _ else if i * 4 + 3 = j * 4 + 1 then _ else if i * 4 + 3 = j * 4 then _ else f (i * 4 + 3)) = _
          rw [if_neg (by omega), if_neg (by omega), if_neg (by omega)]
          exact HHd.out i hi
        · by_cases e : i = j
          · subst e
            refine ⟨?_, ?_, ?_⟩
            · show (if i * 4 = i * 4 + 2 then _ else if i * 4 = i * 4 + 1 then _ else if i * 4 = i * 4 then _ else f (i * 4)) = _
              rw [if_neg (by omega), if_neg (by omega), if_pos rfl, HMk.out]
              rfl
            · show (if i * 4 + 1 = i * 4 + 2 then _ else if i * 4 + 1 = i * 4 + 1 then _ else if i * 4 + 1 = i * 4 then _ else f (i * 4 + 1)) = _
              rw [if_neg (by omega), if_pos rfl, HMk.out]
              rfl
            · show (if i * 4 + 2 = i * 4 + 2 then _ else if i * 4 + 2 = i * 4 + 1 then _ else if i * 4 + 2 = i * 4 then _ else f (i * 4 + 2)) = _
              rw [if_pos rfl, HMk.out]
              show Value.int .i64 (k + (mk us i : Int) + 1 + 1) = Value.int .i64 (k + (mk us i : Int) + 2)
              congr 1
              omega
          · obtain ⟨g0, g1, g2⟩ := HMarks.out i (by omega)
            refine ⟨?_, ?_, ?_⟩
            · show (if i * 4 = j * 4 + 2 then _ else if i * 4 = j * 4 + 1 then _ else if i * 4 = j * 4 then _ else f (i * 4)) = _
              rw [if_neg (by omega), if_neg (by omega), if_neg (by omega)]
              exact g0
            · show (if i * 4 + 1 = j * 4 + 2 then _ else if i * 4 + 1 = j * 4 + 1 then _ else if i * 4 + 1 = j * 4 then _ else f (i * 4 + 1)) = _
              rw [if_neg (by omega), if_neg (by omega), if_neg (by omega)]
              exact g1
            · show (if i * 4 + 2 = j * 4 + 2 then _ else if i * 4 + 2 = j * 4 + 1 then _ else if i * 4 + 2 = j * 4 then _ else f (i * 4 + 2)) = _
              rw [if_neg (by omega), if_neg (by omega), if_neg (by omega)]
              exact g2
        · rw [List.take_succ_eq_append_getElem hlt, HX.out]
          exact HMc4.out
      case measure => simp [intOf]; omega
    · have hje : j = us.length := by omega
      have HFin := Lib.hid (show mk us j = tot by rw [hje, HAll.out])
      have HRm := Lib.hid (show RowMk wr R m us us.length k by rw [← hje]; exact ⟨f, HRw.out, hm, HHd.out, HMarks.out⟩)
      have HMf := Lib.hid (show MkChain wr L us B k by
        have h1 := HMc.out
        have h2 := HTc.out
        rw [hje, List.take_length] at h1
        rw [hje, List.drop_length] at h2
        have h3 : M ≤ B := h2
        exact h1.mono h3)
      clear hje hrw hhd hin
      generalize mk us j = mj at *
      go_wp2
      go_ret
      exact ⟨ret_int (by rw [HFin.out]), HRm.out, HMf.out, HIn.out⟩

end Go.Proofs.YtkmoihkpaccbdaaDoor
