/-
  A tree that was made: its numbers, its row, and each name in a block of its own.
-/
import Derived.Test.YtepkicgnhjaokaaDoorTr
namespace Go.Proofs.YtepkicgnhjaokaaDoor
open Go.RowKit Go.Maps

/-- The i-th entry of the row in block R; its name at N, within the blocks from lo to up. -/
structure EnCell (w : World) (R i : Nat) (N : Option Addr) (lo up c : Nat) (e : En) : Prop where
  c0 : w.cell? ⟨R, i * 4, none⟩ = some (.slice N e.name.length c)
  c1 : w.cell? ⟨R, i * 4 + 1, none⟩ = some (.int .i64 e.val)
  c2 : w.cell? ⟨R, i * 4 + 2, none⟩ = some (.int .i64 e.dev)
  c3 : w.cell? ⟨R, i * 4 + 3, none⟩ = some (.int .i64 e.num)
  fr : ∀ o, o < 4 → w.frozen? ⟨R, i * 4 + o, none⟩ = false
  nm : BytesFr w lo up N e.name

theorem EnCell.keep {w w' : World} {R i lo up c : Nat} {N : Option Addr} {e : En} (h : EnCell w R i N lo up c e) (hR : ∀ o, w'.cell? ⟨R, o, none⟩ = w.cell? ⟨R, o, none⟩ ∧ w'.frozen? ⟨R, o, none⟩ = w.frozen? ⟨R, o, none⟩) (hg : ∀ p : Addr, lo ≤ p.block → p.block < up → w'.cell? p = w.cell? p ∧ w'.frozen? p = w.frozen? p) : EnCell w' R i N lo up c e where
  c0 := (hR _).1.trans h.c0
  c1 := (hR _).1.trans h.c1
  c2 := (hR _).1.trans h.c2
  c3 := (hR _).1.trans h.c3
  fr o ho := (hR _).2.trans (h.fr o ho)
  nm := h.nm.keep hg

/-- Where a row and what belongs to each of its entries lie: R the row's block, each entry's blocks from lo to up (there may be none). -/
structure ELay (L B R n : Nat) (lo hi : Nat → Nat) : Prop where
  low : L ≤ R
  up : R < B
  at_ : ∀ i, i < n → L ≤ lo i ∧ hi i ≤ B ∧ (R < lo i ∨ hi i ≤ R)
  apart : ∀ i j, i < j → j < n → hi i ≤ lo j ∨ hi j ≤ lo i
theorem ELay.mono {L L' B B' R n : Nat} {lo up : Nat → Nat} (h : ELay L B R n lo up) (hL : L' ≤ L) (hB : B ≤ B') : ELay L' B' R n lo up :=
  ⟨Nat.le_trans hL h.low, Nat.lt_of_lt_of_le h.up hB, fun i hi => ⟨Nat.le_trans hL (h.at_ i hi).1, Nat.le_trans (h.at_ i hi).2.1 hB, (h.at_ i hi).2.2⟩, h.apart⟩
theorem ELay.ap {L B R n : Nat} {lo up : Nat → Nat} (h : ELay L B R n lo up) {i j : Nat} (hi : i < n) (hj : j < n) (hij : i ≠ j) : up i ≤ lo j ∨ up j ≤ lo i := by
  rcases Nat.lt_or_gt_of_ne hij with h1 | h1
  · exact h.apart i j h1 hj
  · exact (h.apart j i h1 hi).symm

/-- Where a row and its names lie: R the row's block, g the names'. -/
structure Lay (L B R n : Nat) (g : Nat → Nat) : Prop where
  low : L ≤ R
  up : R < B
  at_ : ∀ i, i < n → L ≤ g i ∧ g i < B ∧ g i ≠ R
  inc : ∀ i j, i < j → j < n → g i < g j

theorem Lay.mono {L L' B B' R n : Nat} {g : Nat → Nat} (h : Lay L B R n g) (hL : L' ≤ L) (hB : B ≤ B') : Lay L' B' R n g :=
  ⟨Nat.le_trans hL h.low, Nat.lt_of_lt_of_le h.up hB, fun i hi => ⟨Nat.le_trans hL (h.at_ i hi).1, Nat.lt_of_lt_of_le (h.at_ i hi).2.1 hB, (h.at_ i hi).2.2⟩, h.inc⟩
theorem Lay.ne {L B R n : Nat} {g : Nat → Nat} (h : Lay L B R n g) {i j : Nat} (hi : i < n) (hj : j < n) (hij : i ≠ j) : g i ≠ g j := by
  rcases Nat.lt_or_gt_of_ne hij with h1 | h1
  · have := h.inc i j h1 hj; omega
  · have := h.inc j i h1 hi; omega

/-- A list of entries that was made. -/
def EnsOwn (w : World) (L B : Nat) (A : Option Addr) (es : List En) : Prop :=
  0 < es.length → ∃ (R : Nat) (N : Nat → Option Addr) (lo up c : Nat → Nat), A = some ⟨R, 0, none⟩ ∧ ELay L B R es.length lo up ∧ ∀ i (hi : i < es.length), EnCell w R i (N i) (lo i) (up i) (c i) es[i]

section
variable {w w' : World} {L L' B B' : Nat} {A : Option Addr} {es : List En}
theorem EnsOwn.keep (h : EnsOwn w L B A es) (hk : ∀ p : Addr, L ≤ p.block → p.block < B → w'.cell? p = w.cell? p ∧ w'.frozen? p = w.frozen? p) : EnsOwn w' L B A es := fun hl => by
  obtain ⟨R, N, lo, up, c, e, hlay, hc⟩ := h hl
  exact ⟨R, N, lo, up, c, e, hlay, fun i hi => (hc i hi).keep (fun o => hk _ hlay.low hlay.up) (fun p hp hq => hk p (Nat.le_trans (hlay.at_ i hi).1 hp) (Nat.lt_of_lt_of_le hq (hlay.at_ i hi).2.1))⟩
theorem EnsOwn.mono (h : EnsOwn w L B A es) (hL : L' ≤ L) (hB : B ≤ B') : EnsOwn w L' B' A es := fun hl => by
  obtain ⟨R, N, lo, up, c, e, hlay, hc⟩ := h hl
  exact ⟨R, N, lo, up, c, e, hlay.mono hL hB, hc⟩
theorem EnsOwn.nil : EnsOwn w L B A [] := fun h => absurd h (by simp)
theorem EnsOwn.ens (h : EnsOwn w L B A es) : EnsIn w L B A es := fun hl => by
  obtain ⟨R, N, lo, up, c, e, hlay, hc⟩ := h hl
  refine ⟨R, 0, e, hlay.low, hlay.up, fun i hi => ?_⟩
  rw [Nat.zero_add]
  have hx := hc i hi
  exact ⟨_, c i, hx.c0, hx.c1, hx.c2, hx.c3, ((hx.nm.bytes.low (hlay.at_ i hi).1).mono (hlay.at_ i hi).2.1)⟩
end

/-- A tree that was made, its two parts apart. -/
def TrOwn (w : World) (L B : Nat) (AV : Option Addr) (vec : List Int) (A : Option Addr) (es : List En) : Prop :=
  ∃ L1 B1 L2 B2, L ≤ L1 ∧ B1 ≤ B ∧ L ≤ L2 ∧ B2 ≤ B ∧ (B1 ≤ L2 ∨ B2 ≤ L1) ∧ IntsFr w L1 B1 AV vec ∧ EnsOwn w L2 B2 A es

section
variable {w w' : World} {L L' B B' : Nat} {AV A : Option Addr} {vec : List Int} {es : List En}
theorem TrOwn.keep (h : TrOwn w L B AV vec A es) (hk : ∀ p : Addr, L ≤ p.block → p.block < B → w'.cell? p = w.cell? p ∧ w'.frozen? p = w.frozen? p) : TrOwn w' L B AV vec A es := by
  obtain ⟨L1, B1, L2, B2, h1, h2, h3, h4, h5, hv, he⟩ := h
  exact ⟨L1, B1, L2, B2, h1, h2, h3, h4, h5, hv.keep fun p hp hq => hk p (by omega) (by omega), he.keep fun p hp hq => hk p (by omega) (by omega)⟩
theorem TrOwn.mono (h : TrOwn w L B AV vec A es) (hL : L' ≤ L) (hB : B ≤ B') : TrOwn w L' B' AV vec A es := by
  obtain ⟨L1, B1, L2, B2, h1, h2, h3, h4, h5, hv, he⟩ := h
  exact ⟨L1, B1, L2, B2, by omega, by omega, by omega, by omega, h5, hv, he⟩
theorem TrOwn.vecIn (h : TrOwn w L B AV vec A es) : IntsFr w L B AV vec := by
  obtain ⟨L1, B1, L2, B2, h1, h2, h3, h4, h5, hv, he⟩ := h
  exact (hv.low h1).mono h2
theorem TrOwn.ensIn (h : TrOwn w L B AV vec A es) : EnsOwn w L B A es := by
  obtain ⟨L1, B1, L2, B2, h1, h2, h3, h4, h5, hv, he⟩ := h
  exact he.mono h3 h4
end

theorem Tryd.infoEntry : (Tryd.prog.info? 49).map (fun i => (i.zero, i.size, i.bytes)) = some (some (.agg #[.slice none 0 0, .int .i64 0, .int .i64 0, .int .i64 0]), 4, 48) := by kernel_rfl

set_option maxHeartbeats 1000000 in
theorem toEntry_own (v d m : Int) (A : Option Addr) (l : List UInt8) (c : Nat) (w : World) (hA : BytesIn w 0 w.heap.size A l) (hn : l.length ≤ 1048576) :
    Calls Tryd.prog 93 #[.agg #[.slice A l.length c, .int .i64 v, .int .i64 d, .int .i64 m]] w fun e w' => ∃ g, e = .returned (.agg #[.slice (some ⟨g, 0, none⟩) l.length l.length, .int .i64 v, .int .i64 d, .int .i64 m]) ∧ w.heap.size ≤ g ∧ g < w'.heap.size ∧ BytesFr w' g (g + 1) (some ⟨g, 0, none⟩) l ∧ Below w.heap.size w w' := by
  have HA := Lib.hid hA
  clear hA
  go_enter Tryd.func93, Tryd.ntmps93
  go_wp2_with fail
  refine (toByteS_fr _ _ _ _ ?h1 hn).mono ?_
  case h1 => exact (HA.out.below ((((Below.refl _ _).alloc (Nat.le_refl _) _).alloc (by simp) _).alloc (by simp; omega) _)).mono (by simp; omega)
  rintro e w' ⟨rfl, hby, hz, hfr, hb⟩
  have HB := Lib.hid hby
  have HFr := Lib.hid hfr
  have hbel : Below w.heap.size w w' := ((((Below.refl _ _).alloc (Nat.le_refl _) _).alloc (by simp) _).alloc (by simp; omega) _).trans (hb.mono (by simp; omega))
  obtain ⟨hc, hf⟩ := bcell hb
  have HBel := Lib.hid hbel
  clear hby hb hbel hfr
  simp at hz
  go_wp2
  refine bodyPost_ret (v := .agg #[.slice (some ⟨w.heap.size + 1 + 1 + 1, 0, none⟩) l.length l.length, .int .i64 v, .int .i64 d, .int .i64 m]) (by simp [results, Tryd.results93, hc, go_sem]) rfl ⟨_, rfl, by omega, by simp; omega, ?_, ?_⟩
  · intro hl
    obtain ⟨b, o, e, hL, hb, hcc⟩ := HB.out hl
    simp at e hL hb
    obtain ⟨rfl, rfl⟩ := e
    refine ⟨_, _, rfl, by omega, by omega, fun j hj => ⟨?_, ?_⟩⟩
    · rw [← hcc j hj]
      repeat rw [World.cell?_setCell_other _ _ _ _ (by simp)]
    · have h := HFr.out ⟨w.heap.size + 1 + 1 + 1, 0 + j, none⟩ (by simp)
      repeat rw [World.frozen?_setCell]
      exact h
  · refine (((((((HBel.out.setCell ?_ _).setCell ?_ _).setCell ?_ _).setCell ?_ _).setCell ?_ _).setCell ?_ _).setCell ?_ _).setCell ?_ _
    all_goals first | omega | (simp; done) | (simp; omega)

/-- 'make([]impl.Entry, n)': n zero entries. -/
theorem run_make_ens (n : Nat) (hn : n ≤ 1048576) (w : World) :
    (Instr.makeSlice 32 (.int .i64 (n : Int)) (.int .i64 (n : Int))).run Tryd.prog w = .ok (.slice (some ⟨w.heap.size, 0, none⟩) n n) (w.alloc (.cells (madeCells #[.slice none 0 0, .int .i64 0, .int .i64 0, .int .i64 0] (n * 4)) 49)) := by
  obtain ⟨i0, hi, hz0, hz1, hz2⟩ := info_parts Tryd.infoEntry
  have hr := run_make (P := Tryd.prog) w 32 49 i0 _ Tryd.underlying32 hi hz0 .i64 .i64 n n (by omega) (by omega) (by rw [hz2]; omega) (by omega)
  simp only [Int.toNat_natCast, hz1] at hr
  exact hr

/-- Four cells stored from 4 * k on (an entry's). -/
def put4e (f : Nat → Value) (k : Nat) (v0 v1 v2 v3 : Value) : Nat → Value :=
  fun j => if j = k * 4 + 3 then v3 else (fun j => if j = k * 4 + 2 then v2 else (fun j => if j = k * 4 + 1 then v1 else (fun j => if j = k * 4 then v0 else f j) j) j) j
theorem rowIs_put4e {w : World} {b : Nat} {t : TypeId} {n : Nat} {f : Nat → Value} (h : w.rowIs b t n f) (k : Nat) (v0 v1 v2 v3 : Value) :
    ((((w.setCell ⟨b, k * 4, none⟩ v0).setCell ⟨b, k * 4 + 1, none⟩ v1).setCell ⟨b, k * 4 + 2, none⟩ v2).setCell ⟨b, k * 4 + 3, none⟩ v3).rowIs b t n (put4e f k v0 v1 v2 v3) :=
  (((h.set _ v0).set _ v1).set _ v2).set _ v3
theorem other_put4e {w : World} {b k : Nat} {v0 v1 v2 v3 : Value} {p : Addr} (hp : p.block ≠ b) :
    ((((w.setCell ⟨b, k * 4, none⟩ v0).setCell ⟨b, k * 4 + 1, none⟩ v1).setCell ⟨b, k * 4 + 2, none⟩ v2).setCell ⟨b, k * 4 + 3, none⟩ v3).cell? p = w.cell? p ∧
    ((((w.setCell ⟨b, k * 4, none⟩ v0).setCell ⟨b, k * 4 + 1, none⟩ v1).setCell ⟨b, k * 4 + 2, none⟩ v2).setCell ⟨b, k * 4 + 3, none⟩ v3).frozen? p = w.frozen? p := by
  refine ⟨?_, by rw [World.frozen?_setCell, World.frozen?_setCell, World.frozen?_setCell, World.frozen?_setCell]⟩
  rw [World.cell?_setCell_other _ _ _ _ (by rintro rfl; exact hp rfl), World.cell?_setCell_other _ _ _ _ (by rintro rfl; exact hp rfl), World.cell?_setCell_other _ _ _ _ (by rintro rfl; exact hp rfl), World.cell?_setCell_other _ _ _ _ (by rintro rfl; exact hp rfl)]
theorem below_put4e {B : Nat} {a w : World} (h : Below B a w) {b k : Nat} (hB : B ≤ b) (v0 v1 v2 v3 : Value) :
    Below B a ((((w.setCell ⟨b, k * 4, none⟩ v0).setCell ⟨b, k * 4 + 1, none⟩ v1).setCell ⟨b, k * 4 + 2, none⟩ v2).setCell ⟨b, k * 4 + 3, none⟩ v3) :=
  (((h.setCell hB _).setCell hB _).setCell hB _).setCell hB _

/-- The first k entries, as 'f' of a row in block R. -/
structure EnRow (w : World) (R : Nat) (es : List En) (k : Nat) (f : Nat → Value) (g : Nat → Nat) : Prop where
  at_ : ∀ i, i < k → R < g i ∧ g i < w.heap.size
  inc : ∀ i j, i < j → j < k → g i < g j
  val : ∀ i (hi : i < es.length), i < k → f (i * 4) = .slice (some ⟨g i, 0, none⟩) es[i].name.length es[i].name.length ∧ f (i * 4 + 1) = .int .i64 es[i].val ∧ f (i * 4 + 2) = .int .i64 es[i].dev ∧ f (i * 4 + 3) = .int .i64 es[i].num
  nm : ∀ i (hi : i < es.length), i < k → BytesFr w (g i) (g i + 1) (some ⟨g i, 0, none⟩) es[i].name

theorem EnRow.step {w w1 : World} {R : Nat} {es : List En} {k : Nat} {f : Nat → Value} {g : Nat → Nat} {g' : Nat} (hk : k < es.length) (h : EnRow w R es k f g) (hb : Below w.heap.size w w1) (hR : R < w.heap.size) (hg : w.heap.size ≤ g') (hg1 : g' < w1.heap.size)
    (hby : BytesFr w1 g' (g' + 1) (some ⟨g', 0, none⟩) es[k].name) :
    EnRow ((((w1.setCell ⟨R, k * 4, none⟩ (.slice (some ⟨g', 0, none⟩) es[k].name.length es[k].name.length)).setCell ⟨R, k * 4 + 1, none⟩ (.int .i64 es[k].val)).setCell ⟨R, k * 4 + 2, none⟩ (.int .i64 es[k].dev)).setCell ⟨R, k * 4 + 3, none⟩ (.int .i64 es[k].num)) R es (k + 1)
      (put4e f k (.slice (some ⟨g', 0, none⟩) es[k].name.length es[k].name.length) (.int .i64 es[k].val) (.int .i64 es[k].dev) (.int .i64 es[k].num)) (fun i => if i = k then g' else g i) where
  at_ i hi := by
    have hz := hb.size
    simp only [World.size_setCell]
    by_cases e : i = k
    · rw [if_pos e]; omega
    · rw [if_neg e]
      have := h.at_ i (by omega)
      omega
  inc i j hij hj := by
    by_cases e : j = k
    · rw [if_neg (show i ≠ k by omega), if_pos e]
      have := h.at_ i (by omega)
      omega
    · rw [if_neg (show i ≠ k by omega), if_neg e]
      exact h.inc i j hij (by omega)
  val i hi hik := by
    by_cases e : i = k
    · subst e
      simp [put4e]
    · obtain ⟨f0, f1, f2, f3⟩ := h.val i hi (by omega)
      unfold put4e
      simp only [if_neg e]
      refine ⟨?_, ?_, ?_, ?_⟩
      all_goals rw [if_neg (by omega), if_neg (by omega), if_neg (by omega), if_neg (by omega)]
      all_goals assumption
  nm i hi hik := by
    by_cases e : i = k
    · subst e
      simp only [if_true]
      exact hby.keep fun p hp hq => other_put4e (by omega)
    · simp only [if_neg e]
      have h1 := h.at_ i (by omega)
      exact ((h.nm i hi (by omega)).keep fun p hp hq => ⟨hb.cell (by omega), hb.frozen (by omega)⟩).keep fun p hp hq => other_put4e (by omega)

set_option maxHeartbeats 1000000 in
theorem toEntryS_own (A : Option Addr) (es : List En) (c : Nat) (w : World) (hA : EnsIn w 0 w.heap.size A es) (hn : es.length ≤ 1048576) (hbk : ebulk es ≤ 1048576) :
    Calls Tryd.prog 61 #[.slice A es.length c] w fun e w' => ∃ R, e = .returned (.slice (some ⟨R, 0, none⟩) es.length es.length) ∧ w.heap.size ≤ R ∧ EnsOwn w' w.heap.size w'.heap.size (some ⟨R, 0, none⟩) es ∧ Below w.heap.size w w' := by
  have hmk := run_make_ens es.length hn
  go_enter Tryd.func61, Tryd.ntmps61
  go_wp2
  clear hmk
  go_loopw [4] (fun i wr => ∃ (k : Nat) (f : Nat → Value) (g : Nat → Nat), k ≤ es.length ∧ i = .int .i64 k ∧ wr.rowIs w.heap.size 49 (es.length * 4) f ∧ EnRow wr w.heap.size es k f g ∧ Below w.heap.size w wr) (fun i _ => es.length - (intOf i).toNat)
  case atStart =>
    refine ⟨0, fun j => (#[Value.slice none 0 0, .int .i64 0, .int .i64 0, .int .i64 0] : Array Value)[j % 4]!, fun _ => 0, Nat.zero_le _, rfl, ⟨_, heap_alloc_new w _, size_madeCells _ _, fun i hi => ?_⟩, ⟨fun i h => absurd h (by omega), fun i j _ h => absurd h (by omega), fun i _ h => absurd h (by omega), fun i _ h => absurd h (by omega)⟩, (Below.refl _ _).alloc (Nat.le_refl _) _⟩
    simp [madeCells, hi]
  case round =>
    obtain ⟨k, f, g, hk, rfl, hrow, hen, hbel⟩ := hrel
    have HR := Lib.hid hrow
    have HE := Lib.hid hen
    clear hen
    by_cases hlt : k < es.length
    · obtain ⟨b, o, rfl, hL, hb, hc⟩ := hA (by omega)
      obtain ⟨A', c', c0, c1, c2, c3, hby⟩ := (hc k hlt).keep hL hb (fun p _ hp => hbel.cell hp)
      have hle := name_le_ebulk es k hlt
      have HB := Lib.hid (hby.mono hbel.size)
      clear hc hrow hby
      go_wp2_with fail
      refine (toEntry_own _ _ _ _ _ _ _ HB.out (by omega)).mono ?_
      rintro e w1 ⟨g', rfl, hg, hg1, hby, hb1⟩
      have HY := Lib.hid hby
      have hR := HR.out.lt
      have hrow := HR.out.of_block (hb1.block _ hR)
      have d0 := hrow.cell (i := k * 4) (by omega)
      have d1 := hrow.cell (i := k * 4 + 1) (by omega)
      have d2 := hrow.cell (i := k * 4 + 2) (by omega)
      have d3 := hrow.cell (i := k * 4 + 3) (by omega)
      have e0 := hrow.frozen (k * 4)
      have e1 := hrow.frozen (k * 4 + 1)
      have e2 := hrow.frozen (k * 4 + 2)
      have e3 := hrow.frozen (k * 4 + 3)
      have HW := Lib.hid hrow
      have HB1 := Lib.hid hb1
      have HBel := Lib.hid hbel
      clear hby hrow hb1 hbel c0 c1 c2 c3
      go_wp2
      go_roundw
      case rel => exact ⟨k + 1, _, _, by omega, by go_num, rowIs_put4e HW.out k _ _ _ _, HE.out.step hlt HB1.out hR hg hg1 HY.out, below_put4e (HBel.out.trans (HB1.out.mono HBel.out.size)) (Nat.le_refl _) _ _ _ _⟩
      case measure => simp [intOf]; omega
    · clear hrow
      go_wp2
      go_ret
      refine ⟨w.heap.size, rfl, Nat.le_refl _, fun hl => ⟨w.heap.size, fun i => some ⟨g i, 0, none⟩, g, fun i => g i + 1, fun i => (es.getD i default).name.length, rfl, ⟨Nat.le_refl _, HR.out.lt, fun i hi => ?_, fun i j hij hj => .inl (show g i + 1 ≤ g j from HE.out.inc i j hij (by omega))⟩, fun i hi => ?_⟩, hbel⟩
      · have := HE.out.at_ i (by omega)
        show w.heap.size ≤ g i ∧ g i + 1 ≤ wr.heap.size ∧ (w.heap.size < g i ∨ g i + 1 ≤ w.heap.size)
        omega
      · obtain ⟨f0, f1, f2, f3⟩ := HE.out.val i hi (by omega)
        have hgd : (es.getD i default).name.length = es[i].name.length := by simp [hi]
        show EnCell wr w.heap.size i (some ⟨g i, 0, none⟩) (g i) (g i + 1) (es.getD i default).name.length es[i]
        rw [hgd]
        exact ⟨(HR.out.cell (by omega)).trans (by rw [f0]), (HR.out.cell (by omega)).trans (by rw [f1]), (HR.out.cell (by omega)).trans (by rw [f2]), (HR.out.cell (by omega)).trans (by rw [f3]), fun o _ => HR.out.frozen _, HE.out.nm i hi (by omega)⟩

set_option maxHeartbeats 1000000 in
theorem toTree_own (AV : Option Addr) (vec : List Int) (cv : Nat) (A : Option Addr) (es : List En) (c : Nat) (w : World) (hV : IntsIn w 0 w.heap.size AV vec) (hA : EnsIn w 0 w.heap.size A es) (hv : vec.length ≤ 1048576) (hn : es.length ≤ 1048576) (hbk : ebulk es ≤ 1048576) :
    Calls Tryd.prog 25 #[.agg #[.slice AV vec.length cv, .slice A es.length c]] w fun e w' => ∃ gv ge, e = .returned (.agg #[.slice (some ⟨gv, 0, none⟩) vec.length vec.length, .slice (some ⟨ge, 0, none⟩) es.length es.length]) ∧ w.heap.size < w'.heap.size ∧ TrOwn w' w.heap.size w'.heap.size (some ⟨gv, 0, none⟩) vec (some ⟨ge, 0, none⟩) es ∧ Below w.heap.size w w' := by
  have HV := Lib.hid hV
  have HA := Lib.hid hA
  clear hV hA
  go_enter Tryd.func25, Tryd.ntmps25
  go_wp2_with fail
  obtain ⟨W0, hW0⟩ : ∃ W0, W0 = w.alloc (.cells #[.slice AV vec.length cv, .slice A es.length c] 52) := ⟨_, rfl⟩
  obtain ⟨W1, hW1⟩ : ∃ W1, W1 = W0.alloc (.cells #[.slice none 0 0, .slice none 0 0] 34) := ⟨_, rfl⟩
  obtain ⟨W, hW⟩ : ∃ W, W = W1.alloc (.cells #[.slice none 0 0, .slice none 0 0] 34) := ⟨_, rfl⟩
  have hz0 : W0.heap.size = w.heap.size + 1 := by rw [hW0]; simp
  have hz1 : W1.heap.size = w.heap.size + 2 := by rw [hW1]; simp [hz0]
  have hz : W.heap.size = w.heap.size + 3 := by rw [hW]; simp [hz1]
  have HX := Lib.hid (show Bx W w.heap.size [.slice AV vec.length cv, .slice A es.length c] by rw [hW, hW1, hW0]; exact Bx.alloc (Bx.alloc (Bx.new' _ _ _ _ rfl) (by simp) _) (by simp; omega) _)
  have HY := Lib.hid (show Bx W (w.heap.size + 1) [.slice none 0 0, .slice none 0 0] by rw [hW, ← hz0, hW1]; exact Bx.alloc (Bx.new' _ _ _ _ rfl) (by simp) _)
  have HZ := Lib.hid (show Bx W (w.heap.size + 2) [.slice none 0 0, .slice none 0 0] by rw [hW, ← hz1]; exact Bx.new' _ _ _ _ rfl)
  have HFy := Lib.hid (show ∀ o, W.frozen? ⟨w.heap.size + 1, o, none⟩ = false ∧ W.frozen? ⟨w.heap.size + 2, o, none⟩ = false from fun o => by rw [hW, hW1, hW0]; exact ⟨((((Fresh.refl w).alloc _ _).alloc _ _).alloc _ _) ⟨w.heap.size + 1, o, none⟩ (by show w.heap.size ≤ w.heap.size + 1; omega), ((((Fresh.refl w).alloc _ _).alloc _ _).alloc _ _) ⟨w.heap.size + 2, o, none⟩ (by show w.heap.size ≤ w.heap.size + 2; omega)⟩)
  have HBel := Lib.hid (show Below w.heap.size w W by rw [hW, hW1, hW0]; exact (((Below.refl _ _).alloc (Nat.le_refl _) _).alloc (by simp) _).alloc (by simp; omega) _)
  rw [← hW0, ← hW1, ← hW]
  have hzW : w.heap.size + 2 < W.heap.size := by omega
  clear hW hW1 hW0 hz0 hz1 hz
  refine (toIntS_fr AV vec cv W ((HV.out.keep fun p _ hp => HBel.out.cell hp).mono (by omega)) hv).mono ?_
  rintro e w1 ⟨gv, rfl, _, _, hfr, hb1⟩
  have HF1 := Lib.hid hfr
  have HX1 := Lib.hid (HX.out.below hb1 (by omega))
  have HY1 := Lib.hid (HY.out.below hb1 (by omega))
  have HZ1 := Lib.hid (HZ.out.below hb1 (by omega))
  have HFy1 := Lib.hid (show ∀ o, w1.frozen? ⟨w.heap.size + 1, o, none⟩ = false ∧ w1.frozen? ⟨w.heap.size + 2, o, none⟩ = false from fun o => ⟨(hb1.frozen (by show w.heap.size + 1 < _; omega)).trans (HFy.out o).1, (hb1.frozen (by show w.heap.size + 2 < _; omega)).trans (HFy.out o).2⟩)
  have HB1 := Lib.hid (HBel.out.trans (hb1.mono (by omega)))
  have hz1 := hb1.size
  have x1 := HX1.out 1 (by simp)
  have z0 := HZ1.out 0 (by simp)
  have z1 := HZ1.out 1 (by simp)
  have f0 := (HFy1.out 0).2
  simp only [List.getElem_cons_succ, List.getElem_cons_zero] at x1 z0 z1
  clear hfr hb1 HX HY HZ HFy
  go_wp2_with fail
  obtain ⟨w2, hw2⟩ : ∃ w2, w2 = w1.setCell ⟨w.heap.size + 2, 0, none⟩ (.slice (some ⟨gv, 0, none⟩) vec.length vec.length) := ⟨_, rfl⟩
  have hs2 : w2.heap.size = w1.heap.size := by rw [hw2]; simp
  have hz2 : w.heap.size + 2 < w2.heap.size := by omega
  have hz12 : w1.heap.size ≤ w2.heap.size := by omega
  have HB2 := Lib.hid (show Below w.heap.size w w2 by rw [hw2]; exact HB1.out.setCell (by simp) _)
  have HF2 := Lib.hid (show IntsFr w2 W.heap.size w1.heap.size (some ⟨gv, 0, none⟩) vec by
    rw [hw2]
    exact HF1.out.keep fun p hp _ => ⟨World.cell?_setCell_other _ _ _ _ (by rintro rfl; simp at hp; omega), by rw [World.frozen?_setCell]⟩)
  have y0 : w2.cell? ⟨w.heap.size + 1, 0, none⟩ = some (.slice none 0 0) := by rw [hw2]; exact (cell_other (by omega)).trans (HY1.out 0 (by simp))
  have y1 : w2.cell? ⟨w.heap.size + 1, 1, none⟩ = some (.slice none 0 0) := by rw [hw2]; exact (cell_other (by omega)).trans (HY1.out 1 (by simp))
  have t0 : w2.cell? ⟨w.heap.size + 2, 0, none⟩ = some (.slice (some ⟨gv, 0, none⟩) vec.length vec.length) := by rw [hw2]; exact World.cell?_setCell_same _ _ _ z0
  have t1 : w2.cell? ⟨w.heap.size + 2, 1, none⟩ = some (.slice none 0 0) := by rw [hw2]; exact (World.cell?_setCell_other _ _ _ _ (by simp)).trans z1
  have HFy2 := Lib.hid (show ∀ o, w2.frozen? ⟨w.heap.size + 1, o, none⟩ = false ∧ w2.frozen? ⟨w.heap.size + 2, o, none⟩ = false from fun o => by rw [hw2, World.frozen?_setCell, World.frozen?_setCell]; exact HFy1.out o)
  have HX2 := Lib.hid (show w2.cell? ⟨w.heap.size, 1, none⟩ = some (.slice A es.length c) by rw [hw2]; exact (cell_other (by omega)).trans x1)
  rw [← hw2]
  clear hw2 hs2 x1 z0 z1 f0 HX1 HY1 HZ1 HFy1 HF1
  have x1 := HX2.out
  have f1 := (HFy2.out 1).2
  go_wp2_with fail
  refine (toEntryS_own A es c w2 ((HA.out.keep fun p _ hp => HB2.out.cell hp).mono (by omega)) hn hbk).mono ?_
  rintro e w3 ⟨ge, rfl, _, hens, hb3⟩
  have hz3 := hb3.size
  have HE3 := Lib.hid hens
  have HF3 := Lib.hid (HF2.out.keep fun p _ hp => ⟨hb3.cell (by omega), hb3.frozen (by omega)⟩)
  have HB3 := Lib.hid (HB2.out.trans (hb3.mono (by omega)))
  have u0 := (hb3.cell (p := ⟨w.heap.size + 1, 0, none⟩) (by show w.heap.size + 1 < _; omega)).trans y0
  have u1 := (hb3.cell (p := ⟨w.heap.size + 1, 1, none⟩) (by show w.heap.size + 1 < _; omega)).trans y1
  have v0 := (hb3.cell (p := ⟨w.heap.size + 2, 0, none⟩) (by show w.heap.size + 2 < _; omega)).trans t0
  have v1 := (hb3.cell (p := ⟨w.heap.size + 2, 1, none⟩) (by show w.heap.size + 2 < _; omega)).trans t1
  have g0 := (hb3.frozen (p := ⟨w.heap.size + 1, 0, none⟩) (by show w.heap.size + 1 < _; omega)).trans (HFy2.out 0).1
  have g1 := (hb3.frozen (p := ⟨w.heap.size + 1, 1, none⟩) (by show w.heap.size + 1 < _; omega)).trans (HFy2.out 1).1
  have f1 := (hb3.frozen (p := ⟨w.heap.size + 2, 1, none⟩) (by show w.heap.size + 2 < _; omega)).trans (HFy2.out 1).2
  clear hens hb3 y0 y1 t0 t1 x1 HFy2 HX2
  go_wp2_with fail
  have hkeep : ∀ p : Addr, w.heap.size + 2 < p.block → ∀ v1 v2 v3 : Value, (((w3.setCell ⟨w.heap.size + 1 + 1, 1, none⟩ v1).setCell ⟨w.heap.size + 1, 0, none⟩ v2).setCell ⟨w.heap.size + 1, 1, none⟩ v3).cell? p = w3.cell? p ∧ (((w3.setCell ⟨w.heap.size + 1 + 1, 1, none⟩ v1).setCell ⟨w.heap.size + 1, 0, none⟩ v2).setCell ⟨w.heap.size + 1, 1, none⟩ v3).frozen? p = w3.frozen? p := fun p hp v1 v2 v3 => by
    refine ⟨?_, by rw [World.frozen?_setCell, World.frozen?_setCell, World.frozen?_setCell]⟩
    rw [World.cell?_setCell_other _ _ _ _ (by rintro rfl; have hp' : w.heap.size + 2 < w.heap.size + 1 := hp; omega), World.cell?_setCell_other _ _ _ _ (by rintro rfl; have hp' : w.heap.size + 2 < w.heap.size + 1 := hp; omega), World.cell?_setCell_other _ _ _ _ (by rintro rfl; have hp' : w.heap.size + 2 < w.heap.size + 1 + 1 := hp; omega)]
  refine bodyPost_ret (v := .agg #[.slice (some ⟨gv, 0, none⟩) vec.length vec.length, .slice (some ⟨ge, 0, none⟩) es.length es.length]) (by simp [results, Tryd.results25, u0, u1, go_sem]) rfl ⟨gv, ge, rfl, by simp; omega, ⟨W.heap.size, w1.heap.size, w2.heap.size, w3.heap.size, by omega, by simp; omega, by omega, by simp, .inl (by omega), ?_, ?_⟩, ?_⟩
  · exact HF3.out.keep fun p hp _ => hkeep p (by omega) _ _ _
  · exact HE3.out.keep fun p hp _ => hkeep p (by omega) _ _ _
  · refine ((HB3.out.setCell ?_ _).setCell ?_ _).setCell ?_ _
    all_goals first | omega | (simp; done) | (simp; omega)

set_option maxHeartbeats 1000000 in
theorem eqTree_same (AV AV' A A' : Option Addr) (vec : List Int) (es : List En) (cv cv' c c' L L' B B' : Nat) (w : World) (h : TrOwn w L B AV vec A es) (h' : TrOwn w L' B' AV' vec A' es) (hB : B ≤ w.heap.size) (hB' : B' ≤ w.heap.size) (hv : vec.length ≤ 1048576) (hn : es.length ≤ 1048576) (hbk : ebulk es ≤ 1048576) :
    Calls Tryd.prog 27 #[.agg #[.slice AV vec.length cv, .slice A es.length c], .agg #[.slice AV' vec.length cv', .slice A' es.length c']] w fun e w' => e = .returned (.bool true) ∧ Below w.heap.size w w' := by
  have HT := Lib.hid h
  have HT' := Lib.hid h'
  clear h h'
  go_enter Tryd.func27, Tryd.ntmps27
  go_wp2_with fail
  obtain ⟨W0, hW0⟩ : ∃ W0, W0 = w.alloc (.cells #[.slice AV vec.length cv, .slice A es.length c] 34) := ⟨_, rfl⟩
  obtain ⟨W, hW⟩ : ∃ W, W = W0.alloc (.cells #[.slice AV' vec.length cv', .slice A' es.length c'] 34) := ⟨_, rfl⟩
  have hz0 : W0.heap.size = w.heap.size + 1 := by rw [hW0]; simp
  have hz : W.heap.size = w.heap.size + 2 := by rw [hW]; simp [hz0]
  have HX := Lib.hid (show Bx W w.heap.size [.slice AV vec.length cv, .slice A es.length c] by rw [hW, hW0]; exact Bx.alloc (Bx.new' _ _ _ _ rfl) (by simp) _)
  have HY := Lib.hid (show Bx W (w.heap.size + 1) [.slice AV' vec.length cv', .slice A' es.length c'] by rw [hW, ← hz0]; exact Bx.new' _ _ _ _ rfl)
  have HBel := Lib.hid (show Below w.heap.size w W by rw [hW, hW0]; exact ((Below.refl _ _).alloc (Nat.le_refl _) _).alloc (by simp) _)
  rw [← hW0, ← hW]
  have hzW : w.heap.size + 1 < W.heap.size := by omega
  clear hW hW0 hz0 hz
  have HT1 := Lib.hid (HT.out.keep fun p _ hp => ⟨HBel.out.cell (by omega), HBel.out.frozen (by omega)⟩)
  have HT1' := Lib.hid (HT'.out.keep fun p _ hp => ⟨HBel.out.cell (by omega), HBel.out.frozen (by omega)⟩)
  refine (eqIntS_same AV AV' vec cv cv' L L' B B' W HT1.out.vecIn HT1'.out.vecIn hv).mono ?_
  rintro e w1 ⟨rfl, hb⟩
  have x1 := (HX.out.below hb (by omega)) 1 (by simp)
  have y1 := (HY.out.below hb (by omega)) 1 (by simp)
  simp only [List.getElem_cons_succ, List.getElem_cons_zero] at x1 y1
  have hz1 := hb.size
  have HB1 := Lib.hid (HBel.out.trans (hb.mono (by omega)))
  have HT2 := Lib.hid (HT1.out.keep fun p _ hp => ⟨hb.cell (by omega), hb.frozen (by omega)⟩)
  have HT2' := Lib.hid (HT1'.out.keep fun p _ hp => ⟨hb.cell (by omega), hb.frozen (by omega)⟩)
  clear hb HX HY
  go_wp2_with fail
  refine (eqEntryS_same A A' es c c' L L' B B' w1 HT2.out.ensIn.ens HT2'.out.ensIn.ens (by omega) (by omega) hn hbk).mono ?_
  rintro e w2 ⟨rfl, hb⟩
  have HB2 := Lib.hid (HB1.out.trans (hb.mono (by omega)))
  clear hb x1 y1
  go_wp2_with fail
  go_ret
  exact ⟨rfl, HB2.out⟩

end Go.Proofs.YtepkicgnhjaokaaDoor
