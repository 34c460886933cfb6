/-
  The program copies any tree: a row of its own, each name into a block of its own (an empty one is none).
-/
import Derived.Test.YtgomdjhfdnbmdaaOwnG
import Derived.Test.YtgomdjhfdnbmdaaTrM
namespace Go.Proofs.Ytgomdjhfdnbmdaa
open Go.RowKit Go.Maps

/-- The cells of a list of entries, as a list. -/
theorem ens_src {w : World} {L B : Nat} {A : Option Addr} {es : List En} (h : EnsIn w L B A es) : ∃ ys : List Value, ys.length = es.length * 4 ∧ SrcAt w A es.length ys ∧ (∀ u ∈ ys, u.oneCell' = true) ∧
    ∃ (N : Nat → Option Addr) (C : Nat → Nat), ∀ i (hi : i < es.length), ys[i * 4]? = some (.slice (N i) es[i].name.length (C i)) ∧ ys[i * 4 + 1]? = some (.int .i64 es[i].val) ∧ ys[i * 4 + 2]? = some (.int .i64 es[i].dev) ∧ ys[i * 4 + 3]? = some (.int .i64 es[i].num) ∧ BytesIn w L B (N i) es[i].name := by
  rcases Nat.eq_zero_or_pos es.length with hz | hp
  · refine ⟨[], by simp [hz], ⟨fun _ => hz, fun ad _ j u hu => by simp at hu⟩, fun u hu => by simp at hu, fun _ => none, fun _ => 0, fun i hi => by omega⟩
  · obtain ⟨b, o, rfl, hL, hB, hc⟩ := h hp
    have hch : ∀ i (hi : i < es.length), ∃ (N : Option Addr) (C : Nat), w.cell? ⟨b, o + i * 4, none⟩ = some (.slice N es[i].name.length C) ∧ w.cell? ⟨b, o + i * 4 + 1, none⟩ = some (.int .i64 es[i].val) ∧ w.cell? ⟨b, o + i * 4 + 2, none⟩ = some (.int .i64 es[i].dev) ∧ w.cell? ⟨b, o + i * 4 + 3, none⟩ = some (.int .i64 es[i].num) ∧ BytesIn w L B N es[i].name := fun i hi => by
      obtain ⟨N, C, c0, c1, c2, c3, hby⟩ := hc i hi
      exact ⟨N, C, c0, c1, c2, c3, hby⟩
    obtain ⟨N, C, hNC⟩ : ∃ (N : Nat → Option Addr) (C : Nat → Nat), ∀ i (hi : i < es.length), w.cell? ⟨b, o + i * 4, none⟩ = some (.slice (N i) es[i].name.length (C i)) ∧ w.cell? ⟨b, o + i * 4 + 1, none⟩ = some (.int .i64 es[i].val) ∧ w.cell? ⟨b, o + i * 4 + 2, none⟩ = some (.int .i64 es[i].dev) ∧ w.cell? ⟨b, o + i * 4 + 3, none⟩ = some (.int .i64 es[i].num) ∧ BytesIn w L B (N i) es[i].name :=
      ⟨fun i => if h : i < es.length then Classical.choose (hch i h) else none, fun i => if h : i < es.length then Classical.choose (Classical.choose_spec (hch i h)) else 0, fun i hi => by
        simp only [hi, dif_pos]
        exact Classical.choose_spec (Classical.choose_spec (hch i hi))⟩
    obtain ⟨F, hF⟩ : ∃ F : Nat → Value, F = fun j => (w.cell? ⟨b, o + j, none⟩).getD undef := ⟨_, rfl⟩
    have hFi : ∀ i (hi : i < es.length), F (i * 4) = .slice (N i) es[i].name.length (C i) ∧ F (i * 4 + 1) = .int .i64 es[i].val ∧ F (i * 4 + 2) = .int .i64 es[i].dev ∧ F (i * 4 + 3) = .int .i64 es[i].num := fun i hi => by
      obtain ⟨c0, c1, c2, c3, _⟩ := hNC i hi
      rw [hF]
      simp only [← Nat.add_assoc, c0, c1, c2, c3, Option.getD_some]
      exact ⟨trivial, trivial, trivial, trivial⟩
    have hcell : ∀ j, j < es.length * 4 → w.cell? ⟨b, o + j, none⟩ = some (F j) ∧ (F j).oneCell' = true := fun j hj => by
      have hi : j / 4 < es.length := by omega
      obtain ⟨c0, c1, c2, c3, _⟩ := hNC (j / 4) hi
      obtain ⟨f0, f1, f2, f3⟩ := hFi (j / 4) hi
      have hr : j = j / 4 * 4 ∨ j = j / 4 * 4 + 1 ∨ j = j / 4 * 4 + 2 ∨ j = j / 4 * 4 + 3 := by omega
      rcases hr with e | e | e | e
      · rw [e, f0]; exact ⟨c0, rfl⟩
      · rw [e, f1, ← Nat.add_assoc]; exact ⟨c1, rfl⟩
      · rw [e, f2, ← Nat.add_assoc]; exact ⟨c2, rfl⟩
      · rw [e, f3, ← Nat.add_assoc]; exact ⟨c3, rfl⟩
    have hget : ∀ j, j < es.length * 4 → (List.ofFn (n := es.length * 4) fun j => F j.1)[j]? = some (F j) := fun j hj => by
      rw [List.getElem?_ofFn, dif_pos hj]
    refine ⟨List.ofFn (n := es.length * 4) fun j => F j.1, by simp, ⟨fun e => (by cases e), fun ad e j u hu => ?_⟩, fun u hu => ?_, N, C, fun i hi => ?_⟩
    · cases e
      have hj : j < es.length * 4 := by
        have := (List.getElem?_eq_some_iff.1 hu).1
        simpa using this
      rw [hget j hj] at hu
      rw [Addr.add_lit, (hcell j hj).1, hu]
    · obtain ⟨j, rfl⟩ := List.mem_ofFn.1 hu
      exact (hcell j.1 j.2).2
    · obtain ⟨f0, f1, f2, f3⟩ := hFi i hi
      rw [hget _ (by omega), hget _ (by omega), hget _ (by omega), hget _ (by omega), f0, f1, f2, f3]
      exact ⟨rfl, rfl, rfl, rfl, (hNC i hi).2.2.2.2⟩

end Go.Proofs.Ytgomdjhfdnbmdaa
