/-
  The program's copy of a term.
-/
import Derived.Test.YtkmoihkpaccbdaaDoorFresh2
import Derived.Test.YtkmoihkpaccbdaaDoorPick
namespace Go.Proofs.YtkmoihkpaccbdaaDoor
open Go.RowKit Go.Maps

theorem vbytes_length (l : List UInt8) : (vbytes l).length = l.length := by simp [vbytes]
theorem vbytes_one (l : List UInt8) : ∀ u ∈ vbytes l, u.oneCell' = true := by
  intro u hu
  simp only [vbytes, List.mem_map] at hu
  obtain ⟨b, _, rfl⟩ := hu
  rfl
theorem vbytes_at {w : World} {L B g : Nat} {l : List UInt8} (h : BytesIn w L B (some ⟨g, 0, none⟩) l) : ∀ j u, (vbytes l)[j]? = some u → w.cell? ((⟨g, 0, none⟩ : Addr).add j) = some u := by
  intro j u hu
  have hj : j < l.length := by
    have := (List.getElem?_eq_some_iff.1 hu).1
    rwa [vbytes_length] at this
  obtain ⟨b, o, e, _, _, hc⟩ := h (by omega)
  simp only [Option.some.injEq, Addr.mk.injEq] at e
  obtain ⟨rfl, rfl, _⟩ := e
  have h2 : (vbytes l)[j]? = some (.int .u8 (l[j].toNat : Int)) := by simp [vbytes, hj]
  rw [h2] at hu
  cases hu
  rw [Addr.add_lit]
  exact hc j hj

/-- A new term is handed back. -/
def NewTm (t : Tm) (w : World) (e : Ending) (w' : World) : Prop :=
  ∃ A c, e = .returned (.agg #[.int .i64 t.kind, .int .i64 t.a, .int .i64 t.b, .slice A t.text.length c]) ∧ BytesFr w' w.heap.size w'.heap.size A t.text ∧ Below w.heap.size w w'

set_option maxRecDepth 100000 in
set_option maxHeartbeats 1000000 in
theorem copyTerm_any (t : Tm) (g c L B : Nat) (w : World) (hA : BytesIn w L B (some ⟨g, 0, none⟩) t.text) (hB : B ≤ w.heap.size) (hn : t.text.length ≤ 1048576) :
    Calls Tryd.prog 43 #[.agg #[.int .i64 t.kind, .int .i64 t.a, .int .i64 t.b, .slice (some ⟨g, 0, none⟩) t.text.length c]] w (NewTm t w) := by
  obtain ⟨i0, hi, hz0, hz1, hz2⟩ := info_parts Tryd.info5
  have HA := Lib.hid hA
  clear hA
  go_enter Tryd.func43, Tryd.ntmps43
  obtain ⟨W0, hW0⟩ : ∃ W0, W0 = ((w.alloc (.cells #[.int .i64 t.kind, .int .i64 t.a, .int .i64 t.b, .slice (some ⟨g, 0, none⟩) t.text.length c] 71)).alloc (.cells #[.int .i64 0, .int .i64 0, .int .i64 0, .slice none 0 0] 71)) := ⟨_, rfl⟩
  have hb0 : Below w.heap.size w W0 := by subst hW0; exact ((Below.refl _ _).alloc (Nat.le_refl _) _).alloc (by simp) _
  have hb := Lib.hid (HA.out.keep fun p _ hp => hb0.cell (by omega))
  have hs0 : W0.heap.size = w.heap.size + 1 + 1 := by subst hW0; simp
  have HB0 := Lib.hid hb0
  clear hb0
  subst hW0
  go_wp2_with (at_builtin; refine wpList_append_own _ rfl _ _ 22 rfl (w.heap.size + 1 + 1) 5 i0 (.int .u8 0) 1 1 Tryd.underlying22 hi hz0 hz1 hz2 rfl (by decide) _ _ _ rfl (World.ownsRow_nil _ _ _ _) ⟨g, 0, none⟩ t.text.length c (vbytes t.text) rfl ?c0 ?c1 ?c2 ?c3 ?c4 ?c5 ?_)
  case c0 => rw [vbytes_length]; omega
  case c1 => exact vbytes_at hb.out
  case c2 => exact vbytes_one _
  case c3 => unfold maxLen; omega
  case c4 => omega
  case c5 => simp
  intro v' w5 hrow5 hgr5 _
  obtain ⟨A5, c5, rfl⟩ := row_shape hrow5
  have hb5 := Lib.hid (show Below _ _ w5 from ⟨hgr5.os, hgr5.tape, hgr5.output, hgr5.size, fun k hk => hgr5.block k hk (fun h => by cases h)⟩)
  have HRow5 := Lib.hid hrow5
  have c0 : w5.cell? ⟨w.heap.size, 0, none⟩ = some (.int .i64 t.kind) := (hb5.out.cell (p := ⟨w.heap.size, 0, none⟩) (by simp; omega)).trans (by simp)
  have c1 : w5.cell? ⟨w.heap.size, 1, none⟩ = some (.int .i64 t.a) := (hb5.out.cell (p := ⟨w.heap.size, 1, none⟩) (by simp; omega)).trans (by simp)
  have c2 : w5.cell? ⟨w.heap.size, 2, none⟩ = some (.int .i64 t.b) := (hb5.out.cell (p := ⟨w.heap.size, 2, none⟩) (by simp; omega)).trans (by simp)
  have c3 : w5.cell? ⟨w.heap.size, 3, none⟩ = some (.slice (some ⟨g, 0, none⟩) t.text.length c) := (hb5.out.cell (p := ⟨w.heap.size, 3, none⟩) (by simp; omega)).trans (by simp)
  have r0 : w5.cell? ⟨w.heap.size + 1, 0, none⟩ = some (.int .i64 0) := (hb5.out.cell (p := ⟨w.heap.size + 1, 0, none⟩) (by simp)).trans (by simp)
  have r1 : w5.cell? ⟨w.heap.size + 1, 1, none⟩ = some (.int .i64 0) := (hb5.out.cell (p := ⟨w.heap.size + 1, 1, none⟩) (by simp)).trans (by simp)
  have r2 : w5.cell? ⟨w.heap.size + 1, 2, none⟩ = some (.int .i64 0) := (hb5.out.cell (p := ⟨w.heap.size + 1, 2, none⟩) (by simp)).trans (by simp)
  have r3 : w5.cell? ⟨w.heap.size + 1, 3, none⟩ = some (.slice none 0 0) := (hb5.out.cell (p := ⟨w.heap.size + 1, 3, none⟩) (by simp)).trans (by simp)
  have f3 : w5.frozen? ⟨w.heap.size, 3, none⟩ = false := (hb5.out.frozen (p := ⟨w.heap.size, 3, none⟩) (by simp; omega)).trans (by simp)
  have e0 : w5.frozen? ⟨w.heap.size + 1, 0, none⟩ = false := (hb5.out.frozen (p := ⟨w.heap.size + 1, 0, none⟩) (by simp)).trans (by simp)
  have e1 : w5.frozen? ⟨w.heap.size + 1, 1, none⟩ = false := (hb5.out.frozen (p := ⟨w.heap.size + 1, 1, none⟩) (by simp)).trans (by simp)
  have e2 : w5.frozen? ⟨w.heap.size + 1, 2, none⟩ = false := (hb5.out.frozen (p := ⟨w.heap.size + 1, 2, none⟩) (by simp)).trans (by simp)
  have e3 : w5.frozen? ⟨w.heap.size + 1, 3, none⟩ = false := (hb5.out.frozen (p := ⟨w.heap.size + 1, 3, none⟩) (by simp)).trans (by simp)
  have HBw := Lib.hid (HB0.out.trans (hb5.out.mono (by omega)))
  have hz5 : w.heap.size + 1 < w5.heap.size := by have := hb5.out.size; simp at this; omega
  clear hrow5 hgr5
  go_wp2_with fail
  refine bodyPost_ret (v := .agg #[.int .i64 t.kind, .int .i64 t.a, .int .i64 t.b, .slice A5 t.text.length c5]) (by simp [results, Tryd.results43, go_sem, *]) rfl ?_
  refine ⟨A5, c5, rfl, ?_, ?_⟩
  · refine BytesFr.mono (BytesFr.low ((bytes_of_row HRow5.out).keep fun p hp _ => ⟨?_, ?_⟩) (by omega)) (by simp)
    · rw [World.cell?_setCell_other _ _ _ _ (by rintro rfl; simp at hp; omega), World.cell?_setCell_other _ _ _ _ (by rintro rfl; simp at hp; omega), World.cell?_setCell_other _ _ _ _ (by rintro rfl; simp at hp; omega), World.cell?_setCell_other _ _ _ _ (by rintro rfl; simp at hp; omega), World.cell?_setCell_other _ _ _ _ (by rintro rfl; simp at hp; omega)]
    · rw [World.frozen?_setCell, World.frozen?_setCell, World.frozen?_setCell, World.frozen?_setCell, World.frozen?_setCell]
  · refine ((((HBw.out.setCell ?_ _).setCell ?_ _).setCell ?_ _).setCell ?_ _).setCell ?_ _
    all_goals first | (simp; done) | (simp; omega)

end Go.Proofs.YtkmoihkpaccbdaaDoor
