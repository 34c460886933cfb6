/-
  The law's own copies of its arguments: new memory that reads as the old.
-/
import Derived.Test.YtepkicgnhjaokaaGreatDoorRows
import Derived.Test.YtepkicgnhjaokaaGreatDoorMem
import Derived.Deep.OwnRows
import Derived.Deep.Heap
namespace Go.Proofs.YtepkicgnhjaokaaGreatDoor
open Go.RowKit

theorem Tryz.info5 : (Tryz.prog.info? 5).map (fun i => (i.zero, i.size, i.bytes)) = some (some (.int .u8 0), 1, 1) := by kernel_rfl
/-- The first k bytes of l, zero behind them. -/
def upTo (l : List UInt8) (k j : Nat) : Value := if j < k then .int .u8 ((l[j]?.getD 0).toNat : Int) else .int .u8 0

theorem upTo_succ (l : List UInt8) (k j : Nat) (h : k < l.length) : (if j = k then Value.int .u8 (l[k].toNat : Int) else upTo l k j) = upTo l (k + 1) j := by
  unfold upTo
  by_cases h1 : j = k
  · subst h1; simp [h]
  · by_cases h2 : j < k
    · simp [h1, h2, show j < k + 1 by omega]
    · simp [h1, h2, show ¬ j < k + 1 by omega]

/-- The cells of the first k terms, as 'f' of a row in block R; each text in a block of its own behind R. -/
def TmRow (w : World) (B R : Nat) (ts : List Tm) (k : Nat) (f : Nat → Value) : Prop :=
  ∀ i (hi : i < ts.length), i < k → ∃ g, R < g ∧ g < B ∧ f (i * 4) = .int .i64 ts[i].kind ∧ f (i * 4 + 1) = .int .i64 ts[i].a ∧ f (i * 4 + 2) = .int .i64 ts[i].b ∧ f (i * 4 + 3) = .slice (some ⟨g, 0, none⟩) ts[i].text.length ts[i].text.length ∧ BytesIn w R B (some ⟨g, 0, none⟩) ts[i].text

/-- Four cells stored from 4 * k on. -/
def put4 (f : Nat → Value) (k : Nat) (v0 v1 v2 v3 : Value) : Nat → Value :=
  fun j => if j = k * 4 + 3 then v3 else (fun j => if j = k * 4 + 2 then v2 else (fun j => if j = k * 4 + 1 then v1 else (fun j => if j = k * 4 then v0 else f j) j) j) j

theorem rowIs_put4 {w : World} {b : Nat} {t : TypeId} {n : Nat} {f : Nat → Value} (h : w.rowIs b t n f) (k : Nat) (v0 v1 v2 v3 : Value) :
    ((((w.setCell ⟨b, k * 4, none⟩ v0).setCell ⟨b, k * 4 + 1, none⟩ v1).setCell ⟨b, k * 4 + 2, none⟩ v2).setCell ⟨b, k * 4 + 3, none⟩ v3).rowIs b t n (put4 f k v0 v1 v2 v3) :=
  (((h.set _ v0).set _ v1).set _ v2).set _ v3

theorem cell_put4 {w : World} {b k : Nat} {v0 v1 v2 v3 : Value} {p : Addr} (hp : p.block ≠ b) :
    ((((w.setCell ⟨b, k * 4, none⟩ v0).setCell ⟨b, k * 4 + 1, none⟩ v1).setCell ⟨b, k * 4 + 2, none⟩ v2).setCell ⟨b, k * 4 + 3, none⟩ v3).cell? p = w.cell? p := by
  rw [World.cell?_setCell_other _ _ _ _ (by rintro rfl; exact hp rfl), World.cell?_setCell_other _ _ _ _ (by rintro rfl; exact hp rfl), World.cell?_setCell_other _ _ _ _ (by rintro rfl; exact hp rfl), World.cell?_setCell_other _ _ _ _ (by rintro rfl; exact hp rfl)]

theorem below_put4 {B : Nat} {a w : World} (h : Below B a w) {b k : Nat} (hB : B ≤ b) (v0 v1 v2 v3 : Value) :
    Below B a ((((w.setCell ⟨b, k * 4, none⟩ v0).setCell ⟨b, k * 4 + 1, none⟩ v1).setCell ⟨b, k * 4 + 2, none⟩ v2).setCell ⟨b, k * 4 + 3, none⟩ v3) :=
  (((h.setCell hB _).setCell hB _).setCell hB _).setCell hB _

/-- One round of the copying loop. -/
theorem TmRow.step {w w1 : World} {R : Nat} {ts : List Tm} {k : Nat} {f : Nat → Value} {g : Nat} (hk : k < ts.length) (h : TmRow w w.heap.size R ts k f) (hb : Below w.heap.size w w1) (hR : R < w.heap.size) (hg : w.heap.size ≤ g) (hg1 : g < w1.heap.size)
    (hby : BytesIn w1 R w1.heap.size (some ⟨g, 0, none⟩) ts[k].text) :
    TmRow ((((w1.setCell ⟨R, k * 4, none⟩ (.int .i64 ts[k].kind)).setCell ⟨R, k * 4 + 1, none⟩ (.int .i64 ts[k].a)).setCell ⟨R, k * 4 + 2, none⟩ (.int .i64 ts[k].b)).setCell ⟨R, k * 4 + 3, none⟩ (.slice (some ⟨g, 0, none⟩) ts[k].text.length ts[k].text.length)) w1.heap.size R ts (k + 1)
      (put4 f k (.int .i64 ts[k].kind) (.int .i64 ts[k].a) (.int .i64 ts[k].b) (.slice (some ⟨g, 0, none⟩) ts[k].text.length ts[k].text.length)) := by
  intro i hi hik
  by_cases e : i = k
  · subst e
    refine ⟨g, by omega, hg1, by simp [put4], by simp [put4], by simp [put4], by simp [put4], hby.block (fun j => cell_put4 (by show g ≠ R; omega)) (Nat.le_refl _)⟩
  · obtain ⟨g', hg', hg2, f0, f1, f2, f3, hb'⟩ := h i hi (by omega)
    have hz := hb.size
    refine ⟨g', hg', by omega, ?_, ?_, ?_, ?_, hb'.block (fun j => (cell_put4 (by show g' ≠ R; omega)).trans (hb.cell hg2)) hz⟩
    all_goals unfold put4
    all_goals simp only []
    all_goals rw [if_neg (by omega), if_neg (by omega), if_neg (by omega), if_neg (by omega)]
    all_goals assumption

end Go.Proofs.YtepkicgnhjaokaaGreatDoor
