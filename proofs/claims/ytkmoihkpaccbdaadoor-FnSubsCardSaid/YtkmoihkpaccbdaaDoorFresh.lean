/-
  The law's own copies: new memory that may be written into; a ledger's copy, each text in a block of its own kind.
-/
import Derived.Test.YtkmoihkpaccbdaaDoorTo
namespace Go.Proofs.YtkmoihkpaccbdaaDoor
open Go.RowKit

/-- What is new in w' may be written into. -/
def Fresh (w w' : World) : Prop := ∀ p : Addr, w.heap.size ≤ p.block → w'.frozen? p = false

theorem Fresh.refl (w : World) : Fresh w w := fun p hp => by
  have h : w.heap[p.block]? = none := Array.getElem?_eq_none hp
  simp [World.frozen?, h]
theorem Fresh.alloc {w w' : World} (h : Fresh w w') (c : Array Value) (t : TypeId) : Fresh w (w'.alloc (.cells c t)) := fun p hp => (frozen?_alloc_cells w' c t p).trans (h p hp)
theorem Fresh.setCell {w w' : World} (h : Fresh w w') (a : Addr) (v : Value) : Fresh w (w'.setCell a v) := fun p hp => by
  rw [World.frozen?_setCell]
  exact h p hp
theorem Fresh.drew {w w' : World} (h : Fresh w w') : Fresh w w'.drew := h
theorem Fresh.trans {a b c : World} (h : Fresh a b) (h' : Fresh b c) (hb : Below b.heap.size b c) : Fresh a c := fun p hp => by
  by_cases e : p.block < b.heap.size
  · exact (hb.frozen e).trans (h p hp)
  · exact h' p (by omega)

theorem BytesIn.raise {w : World} {L L' B g o : Nat} {l : List UInt8} (h : BytesIn w L B (some ⟨g, o, none⟩) l) (hg : L' ≤ g) : BytesIn w L' B (some ⟨g, o, none⟩) l := fun hl => by
  obtain ⟨b, o', e, hL, hb, hc⟩ := h hl
  simp only [Option.some.injEq, Addr.mk.injEq] at e
  obtain ⟨rfl, rfl, _⟩ := e
  exact ⟨_, _, rfl, hg, hb, hc⟩

/-- Block R holds the terms ts, their texts behind it. -/
def CopyIn (w : World) (R B : Nat) (ts : List Tm) : Prop := ∀ i (hi : i < ts.length), TmIn w (R + 1) B R (i * 4) ts[i]

theorem CopyIn.keep {w w' : World} {R B : Nat} {ts : List Tm} (h : CopyIn w R B ts) (hk : ∀ p : Addr, R ≤ p.block → p.block < B → w'.cell? p = w.cell? p) (hR : R < B) : CopyIn w' R B ts := fun i hi => by
  obtain ⟨A, c, h0, h1, h2, h3, h4, h5, h6⟩ := h i hi
  exact ⟨A, c, (hk _ (Nat.le_refl _) hR).trans h0, (hk _ (Nat.le_refl _) hR).trans h1, (hk _ (Nat.le_refl _) hR).trans h2, (hk _ (Nat.le_refl _) hR).trans h3, h4, h5, h6.keep fun p hp => hk p (by omega)⟩
theorem CopyIn.mono {w : World} {R B B' : Nat} {ts : List Tm} (h : CopyIn w R B ts) (hB : B ≤ B') : CopyIn w R B' ts := fun i hi => (h i hi).mono hB
theorem CopyIn.tms {w : World} {R B : Nat} {ts : List Tm} (h : CopyIn w R B ts) (hR : R < B) : TmsIn w R B (some ⟨R, 0, none⟩) ts := fun _ =>
  ⟨R, 0, rfl, Nat.le_refl _, hR, fun i hi => by rw [Nat.zero_add]; exact (h i hi).low (by omega)⟩

set_option maxHeartbeats 400000 in
theorem toByteS_fr (A : Option Addr) (l : List UInt8) (c : Nat) (w : World) (hA : BytesIn w 0 w.heap.size A l) (hn : l.length ≤ 1048576) :
    Calls Tryd.prog 65 #[.slice A l.length c] w fun e w' => e = .returned (.slice (some ⟨w.heap.size, 0, none⟩) l.length l.length) ∧ BytesIn w' w.heap.size (w.heap.size + 1) (some ⟨w.heap.size, 0, none⟩) l ∧ w.heap.size < w'.heap.size ∧ Fresh w w' ∧ Below w.heap.size w w' := by
  have hmk := run_make_row' (P := Tryd.prog) 22 5 (.int .u8 0) 1 Tryd.underlying22 Tryd.info5 rfl .i64 .i64 l.length (by omega) (by omega)
  go_enter Tryd.func65, Tryd.ntmps65
  go_wp2
  clear hmk
  go_loopw [4] (fun i wr => ∃ k : Nat, k ≤ l.length ∧ i = .int .i64 k ∧ wr.rowIs w.heap.size 5 l.length (upTo l k) ∧ Fresh w wr ∧ Below w.heap.size w wr) (fun i _ => l.length - (intOf i).toNat)
  case atStart => exact ⟨0, Nat.zero_le _, rfl, (World.rowIs_made w _ _ _).congr (fun i _ => by simp [upTo]), (Fresh.refl w).alloc _ _, (Below.refl _ _).alloc (Nat.le_refl _) _⟩
  case round =>
    obtain ⟨k, hk, rfl, hrow, hfresh, hbel⟩ := hrel
    have HR := Lib.hid hrow
    have HF := Lib.hid hfresh
    clear hfresh
    by_cases hlt : k < l.length
    · obtain ⟨b, o, rfl, hL, hb, hc⟩ := hA (by omega)
      have hsrc := (hbel.cell (p := ⟨b, o + k, none⟩) hb).trans (hc k hlt)
      have hdst := hrow.cell hlt
      have hfr := hrow.frozen k
      clear hc hrow
      go_wp2
      go_roundw
      case rel => exact ⟨k + 1, by omega, by go_num, (HR.out.set k _).congr (fun j _ => upTo_succ l k j hlt), HF.out.setCell _ _, hbel.setCell (Nat.le_refl _) _⟩
      case measure => simp [intOf]; omega
    · clear hrow
      go_wp2
      go_ret
      refine ⟨rfl, fun hl => ⟨w.heap.size, 0, rfl, Nat.le_refl _, by omega, fun j hj => ?_⟩, HR.out.lt, HF.out, hbel⟩
      rw [Nat.zero_add, HR.out.cell hj]
      simp [upTo, show j < k by omega, hj]

set_option maxHeartbeats 400000 in
theorem toTerm_fr (k a b : Int) (A : Option Addr) (l : List UInt8) (c : Nat) (w : World) (hA : BytesIn w 0 w.heap.size A l) (hn : l.length ≤ 1048576) :
    Calls Tryd.prog 51 #[.agg #[.int .i64 k, .int .i64 a, .int .i64 b, .slice A l.length c]] w fun e w' => ∃ g, e = .returned (.agg #[.int .i64 k, .int .i64 a, .int .i64 b, .slice (some ⟨g, 0, none⟩) l.length l.length]) ∧ w.heap.size ≤ g ∧ g < w'.heap.size ∧ BytesIn w' w.heap.size w'.heap.size (some ⟨g, 0, none⟩) l ∧ Fresh w w' ∧ Below w.heap.size w w' := by
  have HA := Lib.hid hA
  clear hA
  go_enter Tryd.func51, Tryd.ntmps51
  go_wp2_with fail
  refine (toByteS_fr _ _ _ _ ?h1 hn).mono ?_
  case h1 => exact (HA.out.below ((((Below.refl _ _).alloc (Nat.le_refl _) _).alloc (by simp) _).alloc (by simp; omega) _)).mono (by simp; omega)
  rintro e w' ⟨rfl, hby, hz, hfr, hb⟩
  have HB := Lib.hid hby
  have HFr := Lib.hid (((((Fresh.refl w).alloc _ _).alloc _ _).alloc _ _).trans hfr hb)
  have hbel : Below w.heap.size w w' := ((((Below.refl _ _).alloc (Nat.le_refl _) _).alloc (by simp) _).alloc (by simp; omega) _).trans (hb.mono (by simp; omega))
  obtain ⟨hc, hf⟩ := bcell hb
  have HBel := Lib.hid hbel
  clear hby hb hbel hfr
  simp at hz
  go_wp2
  refine bodyPost_ret (v := .agg #[.int .i64 k, .int .i64 a, .int .i64 b, .slice (some ⟨w.heap.size + 1 + 1 + 1, 0, none⟩) l.length l.length]) (by simp [results, Tryd.results51, hc, go_sem]) rfl ⟨_, rfl, by omega, by simp; omega, ?_, ?_, ?_⟩
  · have HB' := HB.out
    simp only [World.size_alloc] at HB'
    refine (((((((HB'.set ?_ _).set ?_ _).set ?_ _).set ?_ _).set ?_ _).low ?_).mono ?_)
    all_goals first | omega | (simp; done) | (simp; omega)
  · exact ((((HFr.out.setCell _ _).setCell _ _).setCell _ _).setCell _ _).setCell _ _
  · refine ((((HBel.out.setCell ?_ _).setCell ?_ _).setCell ?_ _).setCell ?_ _).setCell ?_ _
    all_goals first | omega | (simp; done) | (simp; omega)

set_option maxHeartbeats 400000 in
theorem toTermS_fr (A : Option Addr) (ts : List Tm) (c : Nat) (w : World) (hA : TmsIn w 0 w.heap.size A ts) (hn : ts.length ≤ 1048576) (hbk : bulk ts ≤ 1048576) :
    Calls Tryd.prog 31 #[.slice A ts.length c] w fun e w' => e = .returned (.slice (some ⟨w.heap.size, 0, none⟩) ts.length ts.length) ∧ CopyIn w' w.heap.size w'.heap.size ts ∧ w.heap.size < w'.heap.size ∧ Fresh w w' ∧ Below w.heap.size w w' := by
  have hmk := run_make_terms ts.length hn
  go_enter Tryd.func31, Tryd.ntmps31
  go_wp2
  clear hmk
  go_loopw [4] (fun i wr => ∃ (k : Nat) (f : Nat → Value), k ≤ ts.length ∧ i = .int .i64 k ∧ wr.rowIs w.heap.size 71 (ts.length * 4) f ∧ TmRow wr wr.heap.size w.heap.size ts k f ∧ Fresh w wr ∧ Below w.heap.size w wr) (fun i _ => ts.length - (intOf i).toNat)
  case atStart =>
    refine ⟨0, fun j => (#[Value.int .i64 0, .int .i64 0, .int .i64 0, .slice none 0 0] : Array Value)[j % 4]!, Nat.zero_le _, rfl, ⟨_, heap_alloc_new w _, size_madeCells _ _, fun i hi => ?_⟩, fun i _ h => absurd h (by omega), (Fresh.refl w).alloc _ _, (Below.refl _ _).alloc (Nat.le_refl _) _⟩
    simp [madeCells, hi]
  case round =>
    obtain ⟨k, f, hk, rfl, hrow, htm, hfresh, hbel⟩ := hrel
    have HR := Lib.hid hrow
    have HT := Lib.hid htm
    have HF := Lib.hid hfresh
    clear htm hfresh
    by_cases hlt : k < ts.length
    · obtain ⟨b, o, rfl, hL, hb, hc⟩ := hA (by omega)
      obtain ⟨A', c', c0, c1, c2, c3, hcap, hmax, hby⟩ := (hc k hlt).below hL hb hbel
      have hle := text_le_bulk ts k hlt
      have HB := Lib.hid (hby.mono hbel.size)
      clear hc hrow hby
      go_wp2_with fail
      refine (toTerm_fr _ _ _ _ _ _ _ HB.out (by omega)).mono ?_
      rintro e w1 ⟨g, rfl, hg, hg1, hby, hfr1, hb1⟩
      have HF1 := Lib.hid (HF.out.trans hfr1 hb1)
      clear hfr1
      have HY := Lib.hid (hby.low hbel.size)
      have hR := HR.out.lt
      have hrow := HR.out.of_block (hb1.block _ hR)
      have d0 := hrow.cell (i := k * 4) (by omega)
      have d1 := hrow.cell (i := k * 4 + 1) (by omega)
      have d2 := hrow.cell (i := k * 4 + 2) (by omega)
      have d3 := hrow.cell (i := k * 4 + 3) (by omega)
      have e0 := hrow.frozen (k * 4)
      have e1 := hrow.frozen (k * 4 + 1)
      have e2 := hrow.frozen (k * 4 + 2)
      have e3 := hrow.frozen (k * 4 + 3)
      have HW := Lib.hid hrow
      have HB1 := Lib.hid hb1
      have HBel := Lib.hid hbel
      clear hby hrow hb1 hbel c0 c1 c2 c3
      go_wp2
      go_roundw
      case rel => exact ⟨k + 1, _, by omega, by go_num, rowIs_put4 HW.out k _ _ _ _, by simpa using HT.out.step hlt HB1.out hR hg hg1 HY.out, (((HF1.out.setCell _ _).setCell _ _).setCell _ _).setCell _ _, below_put4 (HBel.out.trans (HB1.out.mono HBel.out.size)) (Nat.le_refl _) _ _ _ _⟩
      case measure => simp [intOf]; omega
    · clear hrow
      go_wp2
      go_ret
      refine ⟨rfl, fun i hi => ?_, HR.out.lt, HF.out, hbel⟩
      obtain ⟨g, hg, hg2, f0, f1, f2, f3, hb'⟩ := HT.out i hi (by omega)
      exact ⟨_, _, (HR.out.cell (by omega)).trans (by rw [f0]), (HR.out.cell (by omega)).trans (by rw [f1]), (HR.out.cell (by omega)).trans (by rw [f2]), (HR.out.cell (by omega)).trans (by rw [f3]), Nat.le_refl _, by have := text_le_bulk ts i hi; unfold maxLen; omega, hb'.raise (by omega)⟩

set_option maxHeartbeats 400000 in
theorem toLedger_fr (A : Option Addr) (ts : List Tm) (c : Nat) (w : World) (hA : TmsIn w 0 w.heap.size A ts) (hn : ts.length ≤ 1048576) (hbk : bulk ts ≤ 1048576) :
    Calls Tryd.prog 13 #[.agg #[.slice A ts.length c]] w fun e w' => ∃ g, e = .returned (.agg #[.slice (some ⟨g, 0, none⟩) ts.length ts.length]) ∧ w.heap.size ≤ g ∧ g < w'.heap.size ∧ CopyIn w' g w'.heap.size ts ∧ Fresh w w' ∧ Below w.heap.size w w' := by
  have HA := Lib.hid hA
  clear hA
  go_enter Tryd.func13, Tryd.ntmps13
  go_wp2_with fail
  refine (toTermS_fr _ _ _ _ ?h1 hn hbk).mono ?_
  case h1 => exact (HA.out.below ((((Below.refl _ _).alloc (Nat.le_refl _) _).alloc (by simp) _).alloc (by simp; omega) _)).mono (by simp; omega)
  rintro e w' ⟨rfl, hts, hz, hfr, hb⟩
  have HFr := Lib.hid (((((Fresh.refl w).alloc _ _).alloc _ _).alloc _ _).trans hfr hb)
  have HT := Lib.hid hts
  have hbel : Below w.heap.size w w' := ((((Below.refl _ _).alloc (Nat.le_refl _) _).alloc (by simp) _).alloc (by simp; omega) _).trans (hb.mono (by simp; omega))
  obtain ⟨hc, hf⟩ := bcell hb
  have HBel := Lib.hid hbel
  clear hts hb hbel hfr
  simp at hz
  go_wp2
  refine bodyPost_ret (v := .agg #[.slice (some ⟨w.heap.size + 1 + 1 + 1, 0, none⟩) ts.length ts.length]) (by simp [results, Tryd.results13, hc, go_sem]) rfl ⟨_, rfl, by omega, by simp; omega, ?_, ?_, ?_⟩
  · have HT' := HT.out
    simp only [World.size_alloc] at HT'
    refine (HT'.keep (fun p hp _ => ?_) (by omega)).mono (by simp)
    rw [World.cell?_setCell_other _ _ _ _ (by rintro rfl; simp at hp; omega), World.cell?_setCell_other _ _ _ _ (by rintro rfl; simp at hp; omega)]
  · exact (HFr.out.setCell _ _).setCell _ _
  · exact (HBel.out.setCell (by simp; omega) _).setCell (by simp) _

end Go.Proofs.YtkmoihkpaccbdaaDoor
