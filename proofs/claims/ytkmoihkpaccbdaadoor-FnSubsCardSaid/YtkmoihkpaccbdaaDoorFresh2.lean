/-
  The law's own copy of a ledger: no text of it is nil.
-/
import Derived.Test.YtkmoihkpaccbdaaDoorFresh
namespace Go.Proofs.YtkmoihkpaccbdaaDoor
open Go.RowKit

/-- No text among the terms in block R is nil. -/
def NoNil (w : World) (R : Nat) (ts : List Tm) : Prop := ∀ i (hi : i < ts.length), ∃ g, w.cell? ⟨R, i * 4 + 3, none⟩ = some (.slice (some ⟨g, 0, none⟩) ts[i].text.length ts[i].text.length)
theorem NoNil.keep {w w' : World} {R : Nat} {ts : List Tm} (h : NoNil w R ts) (hk : ∀ p : Addr, p.block = R → w'.cell? p = w.cell? p) : NoNil w' R ts := fun i hi => by
  obtain ⟨g, hg⟩ := h i hi
  exact ⟨g, (hk _ rfl).trans hg⟩

set_option maxHeartbeats 400000 in
theorem toTermS_nn (A : Option Addr) (ts : List Tm) (c : Nat) (w : World) (hA : TmsIn w 0 w.heap.size A ts) (hn : ts.length ≤ 1048576) (hbk : bulk ts ≤ 1048576) :
    Calls Tryd.prog 31 #[.slice A ts.length c] w fun e w' => e = .returned (.slice (some ⟨w.heap.size, 0, none⟩) ts.length ts.length) ∧ CopyIn w' w.heap.size w'.heap.size ts ∧ NoNil w' w.heap.size ts ∧ w.heap.size < w'.heap.size ∧ Fresh w w' ∧ Below w.heap.size w w' := by
  have hmk := run_make_terms ts.length hn
  go_enter Tryd.func31, Tryd.ntmps31
  go_wp2
  clear hmk
  go_loopw [4] (fun i wr => ∃ (k : Nat) (f : Nat → Value), k ≤ ts.length ∧ i = .int .i64 k ∧ wr.rowIs w.heap.size 71 (ts.length * 4) f ∧ TmRow wr wr.heap.size w.heap.size ts k f ∧ Fresh w wr ∧ Below w.heap.size w wr) (fun i _ => ts.length - (intOf i).toNat)
  case atStart =>
    refine ⟨0, fun j => (#[Value.int .i64 0, .int .i64 0, .int .i64 0, .slice none 0 0] : Array Value)[j % 4]!, Nat.zero_le _, rfl, ⟨_, heap_alloc_new w _, size_madeCells _ _, fun i hi => ?_⟩, fun i _ h => absurd h (by omega), (Fresh.refl w).alloc _ _, (Below.refl _ _).alloc (Nat.le_refl _) _⟩
    simp [madeCells, hi]
  case round =>
    obtain ⟨k, f, hk, rfl, hrow, htm, hfresh, hbel⟩ := hrel
    have HR := Lib.hid hrow
    have HT := Lib.hid htm
    have HF := Lib.hid hfresh
    clear htm hfresh
    by_cases hlt : k < ts.length
    · obtain ⟨b, o, rfl, hL, hb, hc⟩ := hA (by omega)
      obtain ⟨A', c', c0, c1, c2, c3, hcap, hmax, hby⟩ := (hc k hlt).below hL hb hbel
      have hle := text_le_bulk ts k hlt
      have HB := Lib.hid (hby.mono hbel.size)
      clear hc hrow hby
      go_wp2_with fail
      refine (toTerm_fr _ _ _ _ _ _ _ HB.out (by omega)).mono ?_
      rintro e w1 ⟨g, rfl, hg, hg1, hby, hfr1, hb1⟩
      have HF1 := Lib.hid (HF.out.trans hfr1 hb1)
      clear hfr1
      have HY := Lib.hid (hby.low hbel.size)
      have hR := HR.out.lt
      have hrow := HR.out.of_block (hb1.block _ hR)
      have d0 := hrow.cell (i := k * 4) (by omega)
      have d1 := hrow.cell (i := k * 4 + 1) (by omega)
      have d2 := hrow.cell (i := k * 4 + 2) (by omega)
      have d3 := hrow.cell (i := k * 4 + 3) (by omega)
      have e0 := hrow.frozen (k * 4)
      have e1 := hrow.frozen (k * 4 + 1)
      have e2 := hrow.frozen (k * 4 + 2)
      have e3 := hrow.frozen (k * 4 + 3)
      have HW := Lib.hid hrow
      have HB1 := Lib.hid hb1
      have HBel := Lib.hid hbel
      clear hby hrow hb1 hbel c0 c1 c2 c3
      go_wp2
      go_roundw
      case rel => exact ⟨k + 1, _, by omega, by go_num, rowIs_put4 HW.out k _ _ _ _, by simpa using HT.out.step hlt HB1.out hR hg hg1 HY.out, (((HF1.out.setCell _ _).setCell _ _).setCell _ _).setCell _ _, below_put4 (HBel.out.trans (HB1.out.mono HBel.out.size)) (Nat.le_refl _) _ _ _ _⟩
      case measure => simp [intOf]; omega
    · clear hrow
      go_wp2
      go_ret
      refine ⟨rfl, fun i hi => ?_, fun i hi => ?_, HR.out.lt, HF.out, hbel⟩
      · obtain ⟨g, hg, hg2, f0, f1, f2, f3, hb'⟩ := HT.out i hi (by omega)
        exact ⟨_, _, (HR.out.cell (by omega)).trans (by rw [f0]), (HR.out.cell (by omega)).trans (by rw [f1]), (HR.out.cell (by omega)).trans (by rw [f2]), (HR.out.cell (by omega)).trans (by rw [f3]), Nat.le_refl _, by have := text_le_bulk ts i hi; unfold maxLen; omega, hb'.raise (by omega)⟩
      · obtain ⟨g, hg, hg2, f0, f1, f2, f3, hb'⟩ := HT.out i hi (by omega)
        exact ⟨g, (HR.out.cell (by omega)).trans (by rw [f3])⟩

set_option maxHeartbeats 400000 in
theorem toLedger_nn (A : Option Addr) (ts : List Tm) (c : Nat) (w : World) (hA : TmsIn w 0 w.heap.size A ts) (hn : ts.length ≤ 1048576) (hbk : bulk ts ≤ 1048576) :
    Calls Tryd.prog 13 #[.agg #[.slice A ts.length c]] w fun e w' => ∃ g, e = .returned (.agg #[.slice (some ⟨g, 0, none⟩) ts.length ts.length]) ∧ w.heap.size ≤ g ∧ g < w'.heap.size ∧ CopyIn w' g w'.heap.size ts ∧ NoNil w' g ts ∧ Fresh w w' ∧ Below w.heap.size w w' := by
  have HA := Lib.hid hA
  clear hA
  go_enter Tryd.func13, Tryd.ntmps13
  go_wp2_with fail
  refine (toTermS_nn _ _ _ _ ?h1 hn hbk).mono ?_
  case h1 => exact (HA.out.below ((((Below.refl _ _).alloc (Nat.le_refl _) _).alloc (by simp) _).alloc (by simp; omega) _)).mono (by simp; omega)
  rintro e w' ⟨rfl, hts, hnn, hz, hfr, hb⟩
  have HN := Lib.hid hnn
  have HFr := Lib.hid (((((Fresh.refl w).alloc _ _).alloc _ _).alloc _ _).trans hfr hb)
  have HT := Lib.hid hts
  have hbel : Below w.heap.size w w' := ((((Below.refl _ _).alloc (Nat.le_refl _) _).alloc (by simp) _).alloc (by simp; omega) _).trans (hb.mono (by simp; omega))
  obtain ⟨hc, hf⟩ := bcell hb
  have HBel := Lib.hid hbel
  clear hts hb hbel hfr hnn
  simp at hz
  go_wp2
  refine bodyPost_ret (v := .agg #[.slice (some ⟨w.heap.size + 1 + 1 + 1, 0, none⟩) ts.length ts.length]) (by simp [results, Tryd.results13, hc, go_sem]) rfl ⟨_, rfl, by omega, by simp; omega, ?_, ?_, ?_, ?_⟩
  · have HT' := HT.out
    simp only [World.size_alloc] at HT'
    refine (HT'.keep (fun p hp _ => ?_) (by omega)).mono (by simp)
    rw [World.cell?_setCell_other _ _ _ _ (by rintro rfl; simp at hp; omega), World.cell?_setCell_other _ _ _ _ (by rintro rfl; simp at hp; omega)]
  · have HN' := HN.out
    simp only [World.size_alloc] at HN'
    intro i hi
    obtain ⟨g, hg⟩ := HN' i hi
    refine ⟨g, ?_⟩
    rw [World.cell?_setCell_other _ _ _ _ (by simp), World.cell?_setCell_other _ _ _ _ (by simp)]
    exact hg
  · exact (HFr.out.setCell _ _).setCell _ _
  · exact (HBel.out.setCell (by simp; omega) _).setCell (by simp) _

/-- The bytes of a slice, in cells that may be written into. -/
def BytesFr (w : World) (L B : Nat) (A : Option Addr) (l : List UInt8) : Prop :=
  0 < l.length → ∃ b o, A = some ⟨b, o, none⟩ ∧ L ≤ b ∧ b < B ∧ ∀ j (hj : j < l.length), w.cell? ⟨b, o + j, none⟩ = some (.int .u8 (l[j].toNat : Int)) ∧ w.frozen? ⟨b, o + j, none⟩ = false

section
variable {w w' : World} {L L' B B' : Nat} {A : Option Addr} {l : List UInt8}
theorem BytesFr.keep (h : BytesFr w L B A l) (hk : ∀ p : Addr, L ≤ p.block → p.block < B → w'.cell? p = w.cell? p ∧ w'.frozen? p = w.frozen? p) : BytesFr w' L B A l := fun hl => by
  obtain ⟨b, o, e, hL, hb, hc⟩ := h hl
  exact ⟨b, o, e, hL, hb, fun j hj => ⟨(hk _ hL hb).1.trans (hc j hj).1, (hk _ hL hb).2.trans (hc j hj).2⟩⟩
theorem BytesFr.mono (h : BytesFr w L B A l) (hB : B ≤ B') : BytesFr w L B' A l := fun hl => by
  obtain ⟨b, o, e, hL, hb, hc⟩ := h hl
  exact ⟨b, o, e, hL, by omega, hc⟩
theorem BytesFr.low (h : BytesFr w L B A l) (hL' : L' ≤ L) : BytesFr w L' B A l := fun hl => by
  obtain ⟨b, o, e, hL, hb, hc⟩ := h hl
  exact ⟨b, o, e, by omega, hb, hc⟩
theorem BytesFr.below (h : BytesFr w L B A l) (hb : Below B w w') : BytesFr w' L B A l := h.keep fun _ _ hp => ⟨hb.cell hp, hb.frozen hp⟩
theorem BytesFr.bytes (h : BytesFr w L B A l) : BytesIn w L B A l := fun hl => by
  obtain ⟨b, o, e, hL, hb, hc⟩ := h hl
  exact ⟨b, o, e, hL, hb, fun j hj => (hc j hj).1⟩
theorem BytesFr.nil : BytesFr w L B A [] := fun h => absurd h (by simp)
end

/-- Bytes as values. -/
def vbytes (l : List UInt8) : List Value := l.map fun (b : UInt8) => .int .u8 (b.toNat : Int)

theorem bytes_of_row {w : World} {base : Nat} {A : Option Addr} {c : Nat} {e : TypeId} {l : List UInt8} (h : w.ownsRow base e 1 (.slice A l.length c) l.length (vbytes l)) : BytesFr w base w.heap.size A l := fun hl => by
  obtain ⟨_, hh | ⟨g, cap, cur, hv, hg, hb, _, _, _, htk⟩⟩ := h
  · omega
  · injection hv with h1 _ _
    subst h1
    refine ⟨g, 0, rfl, hg, (Array.getElem?_eq_some_iff.1 hb).1, fun i hi => ⟨?_, ?_⟩⟩
    · rw [Nat.zero_add]
      have h2 : (vbytes l)[i]? = some (.int .u8 (l[i].toNat : Int)) := by simp [vbytes, hi]
      rw [← htk, Nat.mul_one, List.getElem?_take, if_pos hi] at h2
      rw [World.cell?, hb]
      simpa using h2
    · simp [World.frozen?, hb]

theorem owns_empty {w : World} {base g : Nat} {e : TypeId} (hg : base ≤ g) (hb : w.heap[g]? = some (.cells #[] e (0, 0))) : w.ownsRow base e 1 (.slice (some ⟨g, 0, none⟩) 0 0) 0 [] :=
  ⟨rfl, .inr ⟨g, 0, #[], rfl, hg, hb, Nat.le_refl _, by unfold maxLen; omega, rfl, rfl⟩⟩

end Go.Proofs.YtkmoihkpaccbdaaDoor
