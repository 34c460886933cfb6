/-
  The model's l3without.
-/
import Derived.Test.YtgomdjhfdnbmdaaDropI
import Derived.Test.YtgomdjhfdnbmdaaGCmp
namespace Go.Proofs.Ytgomdjhfdnbmdaa
open Go.RowKit Go.Maps

/-- A row of entries whose names lie where they lay. -/
structure WoRel (w : World) (B : Nat) (fs : List En) (vs : List Value) : Prop where
  vl : vs.length = fs.length * 4
  cs : ∀ i (hi : i < fs.length), ∃ A c, vs[i * 4]? = some (.slice A fs[i].name.length c) ∧ vs[i * 4 + 1]? = some (.int .i64 fs[i].val) ∧ vs[i * 4 + 2]? = some (.int .i64 fs[i].dev) ∧ vs[i * 4 + 3]? = some (.int .i64 fs[i].num) ∧ BytesIn w 0 B A fs[i].name

theorem WoRel.nil (w : World) (B : Nat) : WoRel w B [] [] := ⟨rfl, fun i hi => absurd hi (by simp)⟩
theorem WoRel.keep {w w' : World} {B : Nat} {fs : List En} {vs : List Value} (h : WoRel w B fs vs) (hk : ∀ p : Addr, p.block < B → w'.cell? p = w.cell? p) : WoRel w' B fs vs :=
  ⟨h.vl, fun i hi => by
    obtain ⟨A, c, h0, h1, h2, h3, h4⟩ := h.cs i hi
    exact ⟨A, c, h0, h1, h2, h3, h4.keep fun p _ hp => hk p hp⟩⟩
theorem WoRel.add {w : World} {B : Nat} {fs : List En} {vs : List Value} (h : WoRel w B fs vs) {e : En} {A : Option Addr} {c : Nat} (hb : BytesIn w 0 B A e.name) :
    WoRel w B (fs ++ [e]) (vs ++ [.slice A e.name.length c, .int .i64 e.val, .int .i64 e.dev, .int .i64 e.num]) where
  vl := by simp [h.vl]; omega
  cs i hi := by
    have hv := h.vl
    by_cases hik : i < fs.length
    · obtain ⟨A', c', h0, h1, h2, h3, h4⟩ := h.cs i hik
      rw [List.getElem_append_left hik]
      exact ⟨A', c', by rw [List.getElem?_append_left (by omega)]; exact h0, by rw [List.getElem?_append_left (by omega)]; exact h1, by rw [List.getElem?_append_left (by omega)]; exact h2, by rw [List.getElem?_append_left (by omega)]; exact h3, h4⟩
    · obtain rfl : i = fs.length := by simp at hi; omega
      have hg : (fs ++ [e])[fs.length]'hi = e := by simp
      rw [hg]
      refine ⟨A, c, ?_, ?_, ?_, ?_, hb⟩
      · rw [List.getElem?_append_right (by omega), hv, show fs.length * 4 - fs.length * 4 = 0 by omega]; rfl
      · rw [List.getElem?_append_right (by omega), hv, show fs.length * 4 + 1 - fs.length * 4 = 1 by omega]; rfl
      · rw [List.getElem?_append_right (by omega), hv, show fs.length * 4 + 2 - fs.length * 4 = 2 by omega]; rfl
      · rw [List.getElem?_append_right (by omega), hv, show fs.length * 4 + 3 - fs.length * 4 = 3 by omega]; rfl
theorem WoRel.ens {w : World} {B base : Nat} {fs : List En} {vs : List Value} {A : Option Addr} {c : Nat} (h : WoRel w B fs vs) (hB : B ≤ w.heap.size) (ho : w.ownsRow base 94 4 (.slice A fs.length c) fs.length vs) : EnsIn w 0 w.heap.size A fs := fun hl => by
  obtain ⟨_, hh | ⟨R, cap, cur, hv, hR, hb, _, _, _, htk⟩⟩ := ho
  · omega
  injection hv with h1 _ _
  subst h1
  refine ⟨R, 0, rfl, Nat.zero_le _, (Array.getElem?_eq_some_iff.1 hb).1, fun i hi => ?_⟩
  obtain ⟨A', c', c0, c1, c2, c3, hby⟩ := h.cs i hi
  have hcell : ∀ o u, o < 4 → vs[i * 4 + o]? = some u → w.cell? ⟨R, i * 4 + o, none⟩ = some u := fun o u ho hu => by
    rw [← htk, List.getElem?_take, if_pos (by omega)] at hu
    rw [World.cell?, hb]
    simpa using hu
  rw [Nat.zero_add]
  exact ⟨A', c', hcell 0 _ (by omega) c0, hcell 1 _ (by omega) c1, hcell 2 _ (by omega) c2, hcell 3 _ (by omega) c3, hby.mono hB⟩

/-- A row of entries that was made at or behind block L; the names lie where they lay, below block B. -/
def WoOut (w : World) (L B : Nat) (A : Option Addr) (fs : List En) : Prop :=
  0 < fs.length → ∃ R, A = some ⟨R, 0, none⟩ ∧ L ≤ R ∧ R < w.heap.size ∧ ∀ i (hi : i < fs.length), EnIn w 0 B R (0 + i * 4) fs[i] ∧ EnIn w 0 B R (i * 4) fs[i]
theorem WoOut.ens {w : World} {L B : Nat} {A : Option Addr} {fs : List En} (h : WoOut w L B A fs) (hB : B ≤ w.heap.size) : EnsIn w 0 w.heap.size A fs := fun hl => by
  obtain ⟨R, e, _, hR, hc⟩ := h hl
  exact ⟨R, 0, e, Nat.zero_le _, hR, fun i hi => (hc i hi).1.mono hB⟩
theorem WoOut.keep {w w' : World} {L B : Nat} {A : Option Addr} {fs : List En} (h : WoOut w L B A fs) (hs : w.heap.size ≤ w'.heap.size) (hk : ∀ p : Addr, p.block < B ∨ (L ≤ p.block ∧ p.block < w.heap.size) → w'.cell? p = w.cell? p) : WoOut w' L B A fs := fun hl => by
  obtain ⟨R, e, hL, hR, hc⟩ := h hl
  refine ⟨R, e, hL, by omega, fun i hi => ?_⟩
  have hx : EnIn w' 0 B R (i * 4) fs[i] := by
    obtain ⟨A', c', h0, h1, h2, h3, h4⟩ := (hc i hi).2
    exact ⟨A', c', (hk _ (.inr ⟨hL, hR⟩)).trans h0, (hk _ (.inr ⟨hL, hR⟩)).trans h1, (hk _ (.inr ⟨hL, hR⟩)).trans h2, (hk _ (.inr ⟨hL, hR⟩)).trans h3, h4.keep fun p _ hp => hk p (.inl hp)⟩
  exact ⟨by rw [Nat.zero_add]; exact hx, hx⟩
theorem WoOut.lower {w : World} {L L' B : Nat} {A : Option Addr} {fs : List En} (h : WoOut w L B A fs) (hL : L' ≤ L) : WoOut w L' B A fs := fun hl => by
  obtain ⟨R, e, h1, h2, h3⟩ := h hl
  exact ⟨R, e, by omega, h2, h3⟩
theorem WoRel.out {w : World} {B base : Nat} {fs : List En} {vs : List Value} {A : Option Addr} {c : Nat} (h : WoRel w B fs vs) (ho : w.ownsRow base 94 4 (.slice A fs.length c) fs.length vs) : WoOut w base B A fs := fun hl => by
  obtain ⟨_, hh | ⟨R, cap, cur, hv, hR, hb, _, _, _, htk⟩⟩ := ho
  · omega
  injection hv with h1 _ _
  subst h1
  refine ⟨R, rfl, hR, (Array.getElem?_eq_some_iff.1 hb).1, fun i hi => ?_⟩
  obtain ⟨A', c', c0, c1, c2, c3, hby⟩ := h.cs i hi
  have hcell : ∀ o u, o < 4 → vs[i * 4 + o]? = some u → w.cell? ⟨R, i * 4 + o, none⟩ = some u := fun o u ho hu => by
    rw [← htk, List.getElem?_take, if_pos (by omega)] at hu
    rw [World.cell?, hb]
    simpa using hu
  have hx : EnIn w 0 B R (i * 4) fs[i] := ⟨A', c', hcell 0 _ (by omega) c0, hcell 1 _ (by omega) c1, hcell 2 _ (by omega) c2, hcell 3 _ (by omega) c3, hby⟩
  exact ⟨by rw [Nat.zero_add]; exact hx, hx⟩

end Go.Proofs.Ytgomdjhfdnbmdaa
