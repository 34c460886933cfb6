/-
  The law's own copies of its arguments: new memory that reads as the old.
-/
import Derived.Test.YtkmoihkpaccbdaaDoorRows
import Derived.Test.YtkmoihkpaccbdaaDoorMem
import Derived.Deep.OwnRows
import Derived.Deep.Heap
namespace Go.Proofs.YtkmoihkpaccbdaaDoor
open Go.RowKit

theorem Tryd.info5 : (Tryd.prog.info? 5).map (fun i => (i.zero, i.size, i.bytes)) = some (some (.int .u8 0), 1, 1) := by kernel_rfl
theorem Tryd.info35 : (Tryd.prog.info? 71).map (fun i => (i.zero, i.size, i.bytes)) = some (some (.agg #[.int .i64 0, .int .i64 0, .int .i64 0, .slice none 0 0]), 4, 48) := by kernel_rfl

/-- The first k bytes of l, zero behind them. -/
def upTo (l : List UInt8) (k j : Nat) : Value := if j < k then .int .u8 ((l[j]?.getD 0).toNat : Int) else .int .u8 0

theorem upTo_succ (l : List UInt8) (k j : Nat) (h : k < l.length) : (if j = k then Value.int .u8 (l[k].toNat : Int) else upTo l k j) = upTo l (k + 1) j := by
  unfold upTo
  by_cases h1 : j = k
  · subst h1; simp [h]
  · by_cases h2 : j < k
    · simp [h1, h2, show j < k + 1 by omega]
    · simp [h1, h2, show ¬ j < k + 1 by omega]

set_option maxHeartbeats 400000 in
theorem toByteS_any (A : Option Addr) (l : List UInt8) (c : Nat) (w : World) (hA : BytesIn w 0 w.heap.size A l) (hn : l.length ≤ 1048576) :
    Calls Tryd.prog 65 #[.slice A l.length c] w fun e w' => e = .returned (.slice (some ⟨w.heap.size, 0, none⟩) l.length l.length) ∧ BytesIn w' w.heap.size (w.heap.size + 1) (some ⟨w.heap.size, 0, none⟩) l ∧ w.heap.size < w'.heap.size ∧ Below w.heap.size w w' := by
  have hmk := run_make_row' (P := Tryd.prog) 22 5 (.int .u8 0) 1 Tryd.underlying22 Tryd.info5 rfl .i64 .i64 l.length (by omega) (by omega)
  go_enter Tryd.func65, Tryd.ntmps65
  go_wp2
  clear hmk
  go_loopw [4] (fun i wr => ∃ k : Nat, k ≤ l.length ∧ i = .int .i64 k ∧ wr.rowIs w.heap.size 5 l.length (upTo l k) ∧ Below w.heap.size w wr) (fun i _ => l.length - (intOf i).toNat)
  case atStart => exact ⟨0, Nat.zero_le _, rfl, (World.rowIs_made w _ _ _).congr (fun i _ => by simp [upTo]), (Below.refl _ _).alloc (Nat.le_refl _) _⟩
  case round =>
    obtain ⟨k, hk, rfl, hrow, hbel⟩ := hrel
    have HR := Lib.hid hrow
    by_cases hlt : k < l.length
    · obtain ⟨b, o, rfl, hL, hb, hc⟩ := hA (by omega)
      have hsrc := (hbel.cell (p := ⟨b, o + k, none⟩) hb).trans (hc k hlt)
      have hdst := hrow.cell hlt
      have hfr := hrow.frozen k
      clear hc hrow
      go_wp2
      go_roundw
      case rel => exact ⟨k + 1, by omega, by go_num, (HR.out.set k _).congr (fun j _ => upTo_succ l k j hlt), hbel.setCell (Nat.le_refl _) _⟩
      case measure => simp [intOf]; omega
    · clear hrow
      go_wp2
      go_ret
      refine ⟨rfl, fun hl => ⟨w.heap.size, 0, rfl, Nat.le_refl _, by omega, fun j hj => ?_⟩, HR.out.lt, hbel⟩
      rw [Nat.zero_add, HR.out.cell hj]
      simp [upTo, show j < k by omega, hj]

set_option maxHeartbeats 400000 in
theorem toTerm_any (k a b : Int) (A : Option Addr) (l : List UInt8) (c : Nat) (w : World) (hA : BytesIn w 0 w.heap.size A l) (hn : l.length ≤ 1048576) :
    Calls Tryd.prog 51 #[.agg #[.int .i64 k, .int .i64 a, .int .i64 b, .slice A l.length c]] w fun e w' => ∃ g, e = .returned (.agg #[.int .i64 k, .int .i64 a, .int .i64 b, .slice (some ⟨g, 0, none⟩) l.length l.length]) ∧ w.heap.size ≤ g ∧ g < w'.heap.size ∧ BytesIn w' w.heap.size w'.heap.size (some ⟨g, 0, none⟩) l ∧ Below w.heap.size w w' := by
  have HA := Lib.hid hA
  clear hA
  go_enter Tryd.func51, Tryd.ntmps51
  go_wp2_with fail
  refine (toByteS_any _ _ _ _ ?h1 hn).mono ?_
  case h1 => exact (HA.out.below ((((Below.refl _ _).alloc (Nat.le_refl _) _).alloc (by simp) _).alloc (by simp; omega) _)).mono (by simp; omega)
  rintro e w' ⟨rfl, hby, hz, hb⟩
  have HB := Lib.hid hby
  have hbel : Below w.heap.size w w' := ((((Below.refl _ _).alloc (Nat.le_refl _) _).alloc (by simp) _).alloc (by simp; omega) _).trans (hb.mono (by simp; omega))
  obtain ⟨hc, hf⟩ := bcell hb
  have HBel := Lib.hid hbel
  clear hby hb hbel
  simp at hz
  go_wp2
  refine bodyPost_ret (v := .agg #[.int .i64 k, .int .i64 a, .int .i64 b, .slice (some ⟨w.heap.size + 1 + 1 + 1, 0, none⟩) l.length l.length]) (by simp [results, Tryd.results51, hc, go_sem]) rfl ⟨_, rfl, by omega, by simp; omega, ?_, ?_⟩
  · have HB' := HB.out
    simp only [World.size_alloc] at HB'
    refine (((((((HB'.set ?_ _).set ?_ _).set ?_ _).set ?_ _).set ?_ _).low ?_).mono ?_)
    all_goals first | omega | (simp; done) | (simp; omega)
  · exact (((((HBel.out.setCell (by simp; omega) _).setCell (by simp) _).setCell (by simp) _).setCell (by simp) _).setCell (by simp) _)

/-- 'make([]impl.Term, n)': n zero terms. -/
theorem run_make_terms (n : Nat) (hn : n ≤ 1048576) (w : World) :
    (Instr.makeSlice 23 (.int .i64 (n : Int)) (.int .i64 (n : Int))).run Tryd.prog w = .ok (.slice (some ⟨w.heap.size, 0, none⟩) n n) (w.alloc (.cells (madeCells #[.int .i64 0, .int .i64 0, .int .i64 0, .slice none 0 0] (n * 4)) 71)) := by
  obtain ⟨i0, hi, hz0, hz1, hz2⟩ := info_parts Tryd.info35
  have hr := run_make (P := Tryd.prog) w 23 71 i0 _ Tryd.underlying23 hi hz0 .i64 .i64 n n (by omega) (by omega) (by rw [hz2]; omega) (by omega)
  simp only [Int.toNat_natCast, hz1] at hr
  exact hr

/-- The cells of the first k terms, as 'f' of a row in block R; each text in a block of its own behind R. -/
def TmRow (w : World) (B R : Nat) (ts : List Tm) (k : Nat) (f : Nat → Value) : Prop :=
  ∀ i (hi : i < ts.length), i < k → ∃ g, R < g ∧ g < B ∧ f (i * 4) = .int .i64 ts[i].kind ∧ f (i * 4 + 1) = .int .i64 ts[i].a ∧ f (i * 4 + 2) = .int .i64 ts[i].b ∧ f (i * 4 + 3) = .slice (some ⟨g, 0, none⟩) ts[i].text.length ts[i].text.length ∧ BytesIn w R B (some ⟨g, 0, none⟩) ts[i].text

/-- Four cells stored from 4 * k on. -/
def put4 (f : Nat → Value) (k : Nat) (v0 v1 v2 v3 : Value) : Nat → Value :=
  fun j => if j = k * 4 + 3 then v3 else (fun j => if j = k * 4 + 2 then v2 else (fun j => if j = k * 4 + 1 then v1 else (fun j => if j = k * 4 then v0 else f j) j) j) j

theorem rowIs_put4 {w : World} {b : Nat} {t : TypeId} {n : Nat} {f : Nat → Value} (h : w.rowIs b t n f) (k : Nat) (v0 v1 v2 v3 : Value) :
    ((((w.setCell ⟨b, k * 4, none⟩ v0).setCell ⟨b, k * 4 + 1, none⟩ v1).setCell ⟨b, k * 4 + 2, none⟩ v2).setCell ⟨b, k * 4 + 3, none⟩ v3).rowIs b t n (put4 f k v0 v1 v2 v3) :=
  (((h.set _ v0).set _ v1).set _ v2).set _ v3

theorem cell_put4 {w : World} {b k : Nat} {v0 v1 v2 v3 : Value} {p : Addr} (hp : p.block ≠ b) :
    ((((w.setCell ⟨b, k * 4, none⟩ v0).setCell ⟨b, k * 4 + 1, none⟩ v1).setCell ⟨b, k * 4 + 2, none⟩ v2).setCell ⟨b, k * 4 + 3, none⟩ v3).cell? p = w.cell? p := by
  rw [World.cell?_setCell_other _ _ _ _ (by rintro rfl; exact hp rfl), World.cell?_setCell_other _ _ _ _ (by rintro rfl; exact hp rfl), World.cell?_setCell_other _ _ _ _ (by rintro rfl; exact hp rfl), World.cell?_setCell_other _ _ _ _ (by rintro rfl; exact hp rfl)]

theorem below_put4 {B : Nat} {a w : World} (h : Below B a w) {b k : Nat} (hB : B ≤ b) (v0 v1 v2 v3 : Value) :
    Below B a ((((w.setCell ⟨b, k * 4, none⟩ v0).setCell ⟨b, k * 4 + 1, none⟩ v1).setCell ⟨b, k * 4 + 2, none⟩ v2).setCell ⟨b, k * 4 + 3, none⟩ v3) :=
  (((h.setCell hB _).setCell hB _).setCell hB _).setCell hB _

/-- One round of the copying loop. -/
theorem TmRow.step {w w1 : World} {R : Nat} {ts : List Tm} {k : Nat} {f : Nat → Value} {g : Nat} (hk : k < ts.length) (h : TmRow w w.heap.size R ts k f) (hb : Below w.heap.size w w1) (hR : R < w.heap.size) (hg : w.heap.size ≤ g) (hg1 : g < w1.heap.size)
    (hby : BytesIn w1 R w1.heap.size (some ⟨g, 0, none⟩) ts[k].text) :
    TmRow ((((w1.setCell ⟨R, k * 4, none⟩ (.int .i64 ts[k].kind)).setCell ⟨R, k * 4 + 1, none⟩ (.int .i64 ts[k].a)).setCell ⟨R, k * 4 + 2, none⟩ (.int .i64 ts[k].b)).setCell ⟨R, k * 4 + 3, none⟩ (.slice (some ⟨g, 0, none⟩) ts[k].text.length ts[k].text.length)) w1.heap.size R ts (k + 1)
      (put4 f k (.int .i64 ts[k].kind) (.int .i64 ts[k].a) (.int .i64 ts[k].b) (.slice (some ⟨g, 0, none⟩) ts[k].text.length ts[k].text.length)) := by
  intro i hi hik
  by_cases e : i = k
  · subst e
    refine ⟨g, by omega, hg1, by simp [put4], by simp [put4], by simp [put4], by simp [put4], hby.block (fun j => cell_put4 (by show g ≠ R; omega)) (Nat.le_refl _)⟩
  · obtain ⟨g', hg', hg2, f0, f1, f2, f3, hb'⟩ := h i hi (by omega)
    have hz := hb.size
    refine ⟨g', hg', by omega, ?_, ?_, ?_, ?_, hb'.block (fun j => (cell_put4 (by show g' ≠ R; omega)).trans (hb.cell hg2)) hz⟩
    all_goals unfold put4
    all_goals simp only []
    all_goals rw [if_neg (by omega), if_neg (by omega), if_neg (by omega), if_neg (by omega)]
    all_goals assumption

set_option maxHeartbeats 400000 in
theorem toTermS_any (A : Option Addr) (ts : List Tm) (c : Nat) (w : World) (hA : TmsIn w 0 w.heap.size A ts) (hn : ts.length ≤ 1048576) (hbk : bulk ts ≤ 1048576) :
    Calls Tryd.prog 31 #[.slice A ts.length c] w fun e w' => e = .returned (.slice (some ⟨w.heap.size, 0, none⟩) ts.length ts.length) ∧ TmsIn w' w.heap.size w'.heap.size (some ⟨w.heap.size, 0, none⟩) ts ∧ w.heap.size < w'.heap.size ∧ Below w.heap.size w w' := by
  have hmk := run_make_terms ts.length hn
  go_enter Tryd.func31, Tryd.ntmps31
  go_wp2
  clear hmk
  go_loopw [4] (fun i wr => ∃ (k : Nat) (f : Nat → Value), k ≤ ts.length ∧ i = .int .i64 k ∧ wr.rowIs w.heap.size 71 (ts.length * 4) f ∧ TmRow wr wr.heap.size w.heap.size ts k f ∧ Below w.heap.size w wr) (fun i _ => ts.length - (intOf i).toNat)
  case atStart =>
    refine ⟨0, fun j => (#[Value.int .i64 0, .int .i64 0, .int .i64 0, .slice none 0 0] : Array Value)[j % 4]!, Nat.zero_le _, rfl, ⟨_, heap_alloc_new w _, size_madeCells _ _, fun i hi => ?_⟩, fun i _ h => absurd h (by omega), (Below.refl _ _).alloc (Nat.le_refl _) _⟩
    simp [madeCells, hi]
  case round =>
    obtain ⟨k, f, hk, rfl, hrow, htm, hbel⟩ := hrel
    have HR := Lib.hid hrow
    have HT := Lib.hid htm
    clear htm
    by_cases hlt : k < ts.length
    · obtain ⟨b, o, rfl, hL, hb, hc⟩ := hA (by omega)
      obtain ⟨A', c', c0, c1, c2, c3, hcap, hmax, hby⟩ := (hc k hlt).below hL hb hbel
      have hle := text_le_bulk ts k hlt
      have HB := Lib.hid (hby.mono hbel.size)
      clear hc hrow hby
      go_wp2_with fail
      refine (toTerm_any _ _ _ _ _ _ _ HB.out (by omega)).mono ?_
      rintro e w1 ⟨g, rfl, hg, hg1, hby, hb1⟩
      have HY := Lib.hid (hby.low hbel.size)
      have hR := HR.out.lt
      have hrow := HR.out.of_block (hb1.block _ hR)
      have d0 := hrow.cell (i := k * 4) (by omega)
      have d1 := hrow.cell (i := k * 4 + 1) (by omega)
      have d2 := hrow.cell (i := k * 4 + 2) (by omega)
      have d3 := hrow.cell (i := k * 4 + 3) (by omega)
      have e0 := hrow.frozen (k * 4)
      have e1 := hrow.frozen (k * 4 + 1)
      have e2 := hrow.frozen (k * 4 + 2)
      have e3 := hrow.frozen (k * 4 + 3)
      have HW := Lib.hid hrow
      have HB1 := Lib.hid hb1
      have HBel := Lib.hid hbel
      clear hby hrow hb1 hbel c0 c1 c2 c3
      go_wp2
      go_roundw
      case rel => exact ⟨k + 1, _, by omega, by go_num, rowIs_put4 HW.out k _ _ _ _, by simpa using HT.out.step hlt HB1.out hR hg hg1 HY.out, below_put4 (HBel.out.trans (HB1.out.mono HBel.out.size)) (Nat.le_refl _) _ _ _ _⟩
      case measure => simp [intOf]; omega
    · clear hrow
      go_wp2
      go_ret
      refine ⟨rfl, fun hl => ⟨w.heap.size, 0, rfl, Nat.le_refl _, HR.out.lt, fun i hi => ?_⟩, HR.out.lt, hbel⟩
      obtain ⟨g, hg, hg2, f0, f1, f2, f3, hb'⟩ := HT.out i hi (by omega)
      rw [Nat.zero_add]
      exact ⟨_, _, (HR.out.cell (by omega)).trans (by rw [f0]), (HR.out.cell (by omega)).trans (by rw [f1]), (HR.out.cell (by omega)).trans (by rw [f2]), (HR.out.cell (by omega)).trans (by rw [f3]), Nat.le_refl _, by have := text_le_bulk ts i hi; unfold maxLen; omega, hb'⟩

set_option maxHeartbeats 400000 in
theorem toLedger_any (A : Option Addr) (ts : List Tm) (c : Nat) (w : World) (hA : TmsIn w 0 w.heap.size A ts) (hn : ts.length ≤ 1048576) (hbk : bulk ts ≤ 1048576) :
    Calls Tryd.prog 13 #[.agg #[.slice A ts.length c]] w fun e w' => ∃ g, e = .returned (.agg #[.slice (some ⟨g, 0, none⟩) ts.length ts.length]) ∧ w.heap.size ≤ g ∧ TmsIn w' w.heap.size w'.heap.size (some ⟨g, 0, none⟩) ts ∧ Below w.heap.size w w' := by
  have HA := Lib.hid hA
  clear hA
  go_enter Tryd.func13, Tryd.ntmps13
  go_wp2_with fail
  refine (toTermS_any _ _ _ _ ?h1 hn hbk).mono ?_
  case h1 => exact (HA.out.below ((((Below.refl _ _).alloc (Nat.le_refl _) _).alloc (by simp) _).alloc (by simp; omega) _)).mono (by simp; omega)
  rintro e w' ⟨rfl, hts, hz, hb⟩
  have HT := Lib.hid hts
  have hbel : Below w.heap.size w w' := ((((Below.refl _ _).alloc (Nat.le_refl _) _).alloc (by simp) _).alloc (by simp; omega) _).trans (hb.mono (by simp; omega))
  obtain ⟨hc, hf⟩ := bcell hb
  have HBel := Lib.hid hbel
  clear hts hb hbel
  simp at hz
  go_wp2
  refine bodyPost_ret (v := .agg #[.slice (some ⟨w.heap.size + 1 + 1 + 1, 0, none⟩) ts.length ts.length]) (by simp [results, Tryd.results13, hc, go_sem]) rfl ⟨_, rfl, by omega, ?_, ?_⟩
  · have HT' := HT.out
    simp only [World.size_alloc] at HT'
    refine (((HT'.set ?_ _).set ?_ _).low ?_).mono ?_
    all_goals first | omega | (simp; done) | (simp; omega)
  · exact (HBel.out.setCell (by simp; omega) _).setCell (by simp) _

end Go.Proofs.YtkmoihkpaccbdaaDoor
