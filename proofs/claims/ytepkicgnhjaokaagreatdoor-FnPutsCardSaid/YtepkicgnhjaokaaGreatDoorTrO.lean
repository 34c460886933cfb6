/-
  A tree that was made: its numbers, its row, and each name in a block of its own.
-/
import Derived.Test.YtepkicgnhjaokaaGreatDoorTr
namespace Go.Proofs.YtepkicgnhjaokaaGreatDoor
open Go.RowKit Go.Maps

/-- The i-th entry of the row in block R; its name at N, within the blocks from lo to up. -/
structure EnCell (w : World) (R i : Nat) (N : Option Addr) (lo up c : Nat) (e : En) : Prop where
  c0 : w.cell? ⟨R, i * 4, none⟩ = some (.slice N e.name.length c)
  c1 : w.cell? ⟨R, i * 4 + 1, none⟩ = some (.int .i64 e.val)
  c2 : w.cell? ⟨R, i * 4 + 2, none⟩ = some (.int .i64 e.dev)
  c3 : w.cell? ⟨R, i * 4 + 3, none⟩ = some (.int .i64 e.num)
  fr : ∀ o, o < 4 → w.frozen? ⟨R, i * 4 + o, none⟩ = false
  nm : BytesFr w lo up N e.name

theorem EnCell.keep {w w' : World} {R i lo up c : Nat} {N : Option Addr} {e : En} (h : EnCell w R i N lo up c e) (hR : ∀ o, w'.cell? ⟨R, o, none⟩ = w.cell? ⟨R, o, none⟩ ∧ w'.frozen? ⟨R, o, none⟩ = w.frozen? ⟨R, o, none⟩) (hg : ∀ p : Addr, lo ≤ p.block → p.block < up → w'.cell? p = w.cell? p ∧ w'.frozen? p = w.frozen? p) : EnCell w' R i N lo up c e where
  c0 := (hR _).1.trans h.c0
  c1 := (hR _).1.trans h.c1
  c2 := (hR _).1.trans h.c2
  c3 := (hR _).1.trans h.c3
  fr o ho := (hR _).2.trans (h.fr o ho)
  nm := h.nm.keep hg

/-- Where a row and what belongs to each of its entries lie: R the row's block, each entry's blocks from lo to up (there may be none). -/
structure ELay (L B R n : Nat) (lo hi : Nat → Nat) : Prop where
  low : L ≤ R
  up : R < B
  at_ : ∀ i, i < n → L ≤ lo i ∧ hi i ≤ B ∧ (R < lo i ∨ hi i ≤ R)
  apart : ∀ i j, i < j → j < n → hi i ≤ lo j ∨ hi j ≤ lo i
theorem ELay.mono {L L' B B' R n : Nat} {lo up : Nat → Nat} (h : ELay L B R n lo up) (hL : L' ≤ L) (hB : B ≤ B') : ELay L' B' R n lo up :=
  ⟨Nat.le_trans hL h.low, Nat.lt_of_lt_of_le h.up hB, fun i hi => ⟨Nat.le_trans hL (h.at_ i hi).1, Nat.le_trans (h.at_ i hi).2.1 hB, (h.at_ i hi).2.2⟩, h.apart⟩
theorem ELay.ap {L B R n : Nat} {lo up : Nat → Nat} (h : ELay L B R n lo up) {i j : Nat} (hi : i < n) (hj : j < n) (hij : i ≠ j) : up i ≤ lo j ∨ up j ≤ lo i := by
  rcases Nat.lt_or_gt_of_ne hij with h1 | h1
  · exact h.apart i j h1 hj
  · exact (h.apart j i h1 hi).symm

/-- Where a row and its names lie: R the row's block, g the names'. -/
structure Lay (L B R n : Nat) (g : Nat → Nat) : Prop where
  low : L ≤ R
  up : R < B
  at_ : ∀ i, i < n → L ≤ g i ∧ g i < B ∧ g i ≠ R
  inc : ∀ i j, i < j → j < n → g i < g j

theorem Lay.mono {L L' B B' R n : Nat} {g : Nat → Nat} (h : Lay L B R n g) (hL : L' ≤ L) (hB : B ≤ B') : Lay L' B' R n g :=
  ⟨Nat.le_trans hL h.low, Nat.lt_of_lt_of_le h.up hB, fun i hi => ⟨Nat.le_trans hL (h.at_ i hi).1, Nat.lt_of_lt_of_le (h.at_ i hi).2.1 hB, (h.at_ i hi).2.2⟩, h.inc⟩
theorem Lay.ne {L B R n : Nat} {g : Nat → Nat} (h : Lay L B R n g) {i j : Nat} (hi : i < n) (hj : j < n) (hij : i ≠ j) : g i ≠ g j := by
  rcases Nat.lt_or_gt_of_ne hij with h1 | h1
  · have := h.inc i j h1 hj; omega
  · have := h.inc j i h1 hi; omega

/-- A list of entries that was made. -/
def EnsOwn (w : World) (L B : Nat) (A : Option Addr) (es : List En) : Prop :=
  0 < es.length → ∃ (R : Nat) (N : Nat → Option Addr) (lo up c : Nat → Nat), A = some ⟨R, 0, none⟩ ∧ ELay L B R es.length lo up ∧ ∀ i (hi : i < es.length), EnCell w R i (N i) (lo i) (up i) (c i) es[i]

section
variable {w w' : World} {L L' B B' : Nat} {A : Option Addr} {es : List En}
theorem EnsOwn.keep (h : EnsOwn w L B A es) (hk : ∀ p : Addr, L ≤ p.block → p.block < B → w'.cell? p = w.cell? p ∧ w'.frozen? p = w.frozen? p) : EnsOwn w' L B A es := fun hl => by
  obtain ⟨R, N, lo, up, c, e, hlay, hc⟩ := h hl
  exact ⟨R, N, lo, up, c, e, hlay, fun i hi => (hc i hi).keep (fun o => hk _ hlay.low hlay.up) (fun p hp hq => hk p (Nat.le_trans (hlay.at_ i hi).1 hp) (Nat.lt_of_lt_of_le hq (hlay.at_ i hi).2.1))⟩
theorem EnsOwn.mono (h : EnsOwn w L B A es) (hL : L' ≤ L) (hB : B ≤ B') : EnsOwn w L' B' A es := fun hl => by
  obtain ⟨R, N, lo, up, c, e, hlay, hc⟩ := h hl
  exact ⟨R, N, lo, up, c, e, hlay.mono hL hB, hc⟩
theorem EnsOwn.nil : EnsOwn w L B A [] := fun h => absurd h (by simp)
theorem EnsOwn.ens (h : EnsOwn w L B A es) : EnsIn w L B A es := fun hl => by
  obtain ⟨R, N, lo, up, c, e, hlay, hc⟩ := h hl
  refine ⟨R, 0, e, hlay.low, hlay.up, fun i hi => ?_⟩
  rw [Nat.zero_add]
  have hx := hc i hi
  exact ⟨_, c i, hx.c0, hx.c1, hx.c2, hx.c3, ((hx.nm.bytes.low (hlay.at_ i hi).1).mono (hlay.at_ i hi).2.1)⟩
end

/-- A tree that was made, its two parts apart. -/
def TrOwn (w : World) (L B : Nat) (AV : Option Addr) (vec : List Int) (A : Option Addr) (es : List En) : Prop :=
  ∃ L1 B1 L2 B2, L ≤ L1 ∧ B1 ≤ B ∧ L ≤ L2 ∧ B2 ≤ B ∧ (B1 ≤ L2 ∨ B2 ≤ L1) ∧ IntsFr w L1 B1 AV vec ∧ EnsOwn w L2 B2 A es

section
variable {w w' : World} {L L' B B' : Nat} {AV A : Option Addr} {vec : List Int} {es : List En}
theorem TrOwn.keep (h : TrOwn w L B AV vec A es) (hk : ∀ p : Addr, L ≤ p.block → p.block < B → w'.cell? p = w.cell? p ∧ w'.frozen? p = w.frozen? p) : TrOwn w' L B AV vec A es := by
  obtain ⟨L1, B1, L2, B2, h1, h2, h3, h4, h5, hv, he⟩ := h
  exact ⟨L1, B1, L2, B2, h1, h2, h3, h4, h5, hv.keep fun p hp hq => hk p (by omega) (by omega), he.keep fun p hp hq => hk p (by omega) (by omega)⟩
theorem TrOwn.mono (h : TrOwn w L B AV vec A es) (hL : L' ≤ L) (hB : B ≤ B') : TrOwn w L' B' AV vec A es := by
  obtain ⟨L1, B1, L2, B2, h1, h2, h3, h4, h5, hv, he⟩ := h
  exact ⟨L1, B1, L2, B2, by omega, by omega, by omega, by omega, h5, hv, he⟩
theorem TrOwn.vecIn (h : TrOwn w L B AV vec A es) : IntsFr w L B AV vec := by
  obtain ⟨L1, B1, L2, B2, h1, h2, h3, h4, h5, hv, he⟩ := h
  exact (hv.low h1).mono h2
theorem TrOwn.ensIn (h : TrOwn w L B AV vec A es) : EnsOwn w L B A es := by
  obtain ⟨L1, B1, L2, B2, h1, h2, h3, h4, h5, hv, he⟩ := h
  exact he.mono h3 h4
end

theorem Tryz.infoEntry : (Tryz.prog.info? 34).map (fun i => (i.zero, i.size, i.bytes)) = some (some (.agg #[.slice none 0 0, .int .i64 0, .int .i64 0, .int .i64 0]), 4, 48) := by kernel_rfl

/-- 'make([]impl.Entry, n)': n zero entries. -/
theorem run_make_ens (n : Nat) (hn : n ≤ 1048576) (w : World) :
    (Instr.makeSlice 24 (.int .i64 (n : Int)) (.int .i64 (n : Int))).run Tryz.prog w = .ok (.slice (some ⟨w.heap.size, 0, none⟩) n n) (w.alloc (.cells (madeCells #[.slice none 0 0, .int .i64 0, .int .i64 0, .int .i64 0] (n * 4)) 34)) := by
  obtain ⟨i0, hi, hz0, hz1, hz2⟩ := info_parts Tryz.infoEntry
  have hr := run_make (P := Tryz.prog) w 24 34 i0 _ Tryz.underlying24 hi hz0 .i64 .i64 n n (by omega) (by omega) (by rw [hz2]; omega) (by omega)
  simp only [Int.toNat_natCast, hz1] at hr
  exact hr

/-- Four cells stored from 4 * k on (an entry's). -/
def put4e (f : Nat → Value) (k : Nat) (v0 v1 v2 v3 : Value) : Nat → Value :=
  fun j => if j = k * 4 + 3 then v3 else (fun j => if j = k * 4 + 2 then v2 else (fun j => if j = k * 4 + 1 then v1 else (fun j => if j = k * 4 then v0 else f j) j) j) j
theorem rowIs_put4e {w : World} {b : Nat} {t : TypeId} {n : Nat} {f : Nat → Value} (h : w.rowIs b t n f) (k : Nat) (v0 v1 v2 v3 : Value) :
    ((((w.setCell ⟨b, k * 4, none⟩ v0).setCell ⟨b, k * 4 + 1, none⟩ v1).setCell ⟨b, k * 4 + 2, none⟩ v2).setCell ⟨b, k * 4 + 3, none⟩ v3).rowIs b t n (put4e f k v0 v1 v2 v3) :=
  (((h.set _ v0).set _ v1).set _ v2).set _ v3
theorem other_put4e {w : World} {b k : Nat} {v0 v1 v2 v3 : Value} {p : Addr} (hp : p.block ≠ b) :
    ((((w.setCell ⟨b, k * 4, none⟩ v0).setCell ⟨b, k * 4 + 1, none⟩ v1).setCell ⟨b, k * 4 + 2, none⟩ v2).setCell ⟨b, k * 4 + 3, none⟩ v3).cell? p = w.cell? p ∧
    ((((w.setCell ⟨b, k * 4, none⟩ v0).setCell ⟨b, k * 4 + 1, none⟩ v1).setCell ⟨b, k * 4 + 2, none⟩ v2).setCell ⟨b, k * 4 + 3, none⟩ v3).frozen? p = w.frozen? p := by
  refine ⟨?_, by rw [World.frozen?_setCell, World.frozen?_setCell, World.frozen?_setCell, World.frozen?_setCell]⟩
  rw [World.cell?_setCell_other _ _ _ _ (by rintro rfl; exact hp rfl), World.cell?_setCell_other _ _ _ _ (by rintro rfl; exact hp rfl), World.cell?_setCell_other _ _ _ _ (by rintro rfl; exact hp rfl), World.cell?_setCell_other _ _ _ _ (by rintro rfl; exact hp rfl)]
theorem below_put4e {B : Nat} {a w : World} (h : Below B a w) {b k : Nat} (hB : B ≤ b) (v0 v1 v2 v3 : Value) :
    Below B a ((((w.setCell ⟨b, k * 4, none⟩ v0).setCell ⟨b, k * 4 + 1, none⟩ v1).setCell ⟨b, k * 4 + 2, none⟩ v2).setCell ⟨b, k * 4 + 3, none⟩ v3) :=
  (((h.setCell hB _).setCell hB _).setCell hB _).setCell hB _

/-- The first k entries, as 'f' of a row in block R. -/
structure EnRow (w : World) (R : Nat) (es : List En) (k : Nat) (f : Nat → Value) (g : Nat → Nat) : Prop where
  at_ : ∀ i, i < k → R < g i ∧ g i < w.heap.size
  inc : ∀ i j, i < j → j < k → g i < g j
  val : ∀ i (hi : i < es.length), i < k → f (i * 4) = .slice (some ⟨g i, 0, none⟩) es[i].name.length es[i].name.length ∧ f (i * 4 + 1) = .int .i64 es[i].val ∧ f (i * 4 + 2) = .int .i64 es[i].dev ∧ f (i * 4 + 3) = .int .i64 es[i].num
  nm : ∀ i (hi : i < es.length), i < k → BytesFr w (g i) (g i + 1) (some ⟨g i, 0, none⟩) es[i].name

theorem EnRow.step {w w1 : World} {R : Nat} {es : List En} {k : Nat} {f : Nat → Value} {g : Nat → Nat} {g' : Nat} (hk : k < es.length) (h : EnRow w R es k f g) (hb : Below w.heap.size w w1) (hR : R < w.heap.size) (hg : w.heap.size ≤ g') (hg1 : g' < w1.heap.size)
    (hby : BytesFr w1 g' (g' + 1) (some ⟨g', 0, none⟩) es[k].name) :
    EnRow ((((w1.setCell ⟨R, k * 4, none⟩ (.slice (some ⟨g', 0, none⟩) es[k].name.length es[k].name.length)).setCell ⟨R, k * 4 + 1, none⟩ (.int .i64 es[k].val)).setCell ⟨R, k * 4 + 2, none⟩ (.int .i64 es[k].dev)).setCell ⟨R, k * 4 + 3, none⟩ (.int .i64 es[k].num)) R es (k + 1)
      (put4e f k (.slice (some ⟨g', 0, none⟩) es[k].name.length es[k].name.length) (.int .i64 es[k].val) (.int .i64 es[k].dev) (.int .i64 es[k].num)) (fun i => if i = k then g' else g i) where
  at_ i hi := by
    have hz := hb.size
    simp only [World.size_setCell]
    by_cases e : i = k
    · rw [if_pos e]; omega
    · rw [if_neg e]
      have := h.at_ i (by omega)
      omega
  inc i j hij hj := by
    by_cases e : j = k
    · rw [if_neg (show i ≠ k by omega), if_pos e]
      have := h.at_ i (by omega)
      omega
    · rw [if_neg (show i ≠ k by omega), if_neg e]
      exact h.inc i j hij (by omega)
  val i hi hik := by
    by_cases e : i = k
    · subst e
      simp [put4e]
    · obtain ⟨f0, f1, f2, f3⟩ := h.val i hi (by omega)
      unfold put4e
      simp only [if_neg e]
      refine ⟨?_, ?_, ?_, ?_⟩
      all_goals rw [if_neg (by omega), if_neg (by omega), if_neg (by omega), if_neg (by omega)]
      all_goals assumption
  nm i hi hik := by
    by_cases e : i = k
    · subst e
      simp only [if_true]
      exact hby.keep fun p hp hq => other_put4e (by omega)
    · simp only [if_neg e]
      have h1 := h.at_ i (by omega)
      exact ((h.nm i hi (by omega)).keep fun p hp hq => ⟨hb.cell (by omega), hb.frozen (by omega)⟩).keep fun p hp hq => other_put4e (by omega)

end Go.Proofs.YtepkicgnhjaokaaGreatDoor
