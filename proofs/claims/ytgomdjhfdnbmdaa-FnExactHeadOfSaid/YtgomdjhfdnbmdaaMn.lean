/-
  A list of manifests: read, made; the law's reckoning of its size, its copy, its comparison.
-/
import Derived.Test.YtgomdjhfdnbmdaaMan
namespace Go.Proofs.Ytgomdjhfdnbmdaa
open Go.RowKit Go.Maps

/-- A manifest as plain data. -/
structure Mn where
  au : Int
  sq : Int
  pv : Int
  vec : List Int
  es : List En
  sg : Int
deriving DecidableEq, Inhabited

/-- Six cells from o on in block b hold the manifest m. -/
def MnIn (w : World) (L B : Nat) (b o : Nat) (m : Mn) : Prop :=
  ∃ AV cv A c, w.cell? ⟨b, o, none⟩ = some (.int .i64 m.au) ∧ w.cell? ⟨b, o + 1, none⟩ = some (.int .i64 m.sq) ∧ w.cell? ⟨b, o + 2, none⟩ = some (.int .i64 m.pv) ∧ w.cell? ⟨b, o + 3, none⟩ = some (.slice AV m.vec.length cv) ∧
    w.cell? ⟨b, o + 4, none⟩ = some (.slice A m.es.length c) ∧ w.cell? ⟨b, o + 5, none⟩ = some (.int .i64 m.sg) ∧ IntsIn w L B AV m.vec ∧ EnsIn w L B A m.es

/-- The slice address A (of ms.length manifests) holds the manifests ms. -/
def MnsIn (w : World) (L B : Nat) (A : Option Addr) (ms : List Mn) : Prop :=
  0 < ms.length → ∃ b o, A = some ⟨b, o, none⟩ ∧ L ≤ b ∧ b < B ∧ ∀ i (hi : i < ms.length), MnIn w L B b (o + i * 6) ms[i]

/-- The same, each with room for its entries. -/
def MnRd (w : World) (L B : Nat) (b o : Nat) (m : Mn) : Prop :=
  ∃ AV cv A c, w.cell? ⟨b, o, none⟩ = some (.int .i64 m.au) ∧ w.cell? ⟨b, o + 1, none⟩ = some (.int .i64 m.sq) ∧ w.cell? ⟨b, o + 2, none⟩ = some (.int .i64 m.pv) ∧ w.cell? ⟨b, o + 3, none⟩ = some (.slice AV m.vec.length cv) ∧
    w.cell? ⟨b, o + 4, none⟩ = some (.slice A m.es.length c) ∧ w.cell? ⟨b, o + 5, none⟩ = some (.int .i64 m.sg) ∧ IntsIn w L B AV m.vec ∧ EnsIn w L B A m.es ∧ m.es.length ≤ c
def MnsRd (w : World) (L B : Nat) (A : Option Addr) (ms : List Mn) : Prop :=
  0 < ms.length → ∃ b o, A = some ⟨b, o, none⟩ ∧ L ≤ b ∧ b < B ∧ ∀ i (hi : i < ms.length), MnRd w L B b (o + i * 6) ms[i]

section
variable {w w' : World} {L L' B B' : Nat} {A : Option Addr} {ms : List Mn}
theorem MnRd.in {b o : Nat} {m : Mn} (h : MnRd w L B b o m) : MnIn w L B b o m := by
  obtain ⟨AV, cv, A, c, h0, h1, h2, h3, h4, h5, h6, h7, _⟩ := h
  exact ⟨AV, cv, A, c, h0, h1, h2, h3, h4, h5, h6, h7⟩
theorem MnsRd.in (h : MnsRd w L B A ms) : MnsIn w L B A ms := fun hl => by
  obtain ⟨b, o, e, hL, hb, hc⟩ := h hl
  exact ⟨b, o, e, hL, hb, fun i hi => (hc i hi).in⟩
theorem MnIn.keep {b o : Nat} {m : Mn} (h : MnIn w L B b o m) (hL : L ≤ b) (hb : b < B) (hk : ∀ p : Addr, L ≤ p.block → p.block < B → w'.cell? p = w.cell? p) : MnIn w' L B b o m := by
  obtain ⟨AV, cv, A, c, h0, h1, h2, h3, h4, h5, h6, h7⟩ := h
  exact ⟨AV, cv, A, c, (hk _ hL hb).trans h0, (hk _ hL hb).trans h1, (hk _ hL hb).trans h2, (hk _ hL hb).trans h3, (hk _ hL hb).trans h4, (hk _ hL hb).trans h5, h6.keep hk, h7.keep hk⟩
theorem MnRd.keep {b o : Nat} {m : Mn} (h : MnRd w L B b o m) (hL : L ≤ b) (hb : b < B) (hk : ∀ p : Addr, L ≤ p.block → p.block < B → w'.cell? p = w.cell? p) : MnRd w' L B b o m := by
  obtain ⟨AV, cv, A, c, h0, h1, h2, h3, h4, h5, h6, h7, h8⟩ := h
  exact ⟨AV, cv, A, c, (hk _ hL hb).trans h0, (hk _ hL hb).trans h1, (hk _ hL hb).trans h2, (hk _ hL hb).trans h3, (hk _ hL hb).trans h4, (hk _ hL hb).trans h5, h6.keep hk, h7.keep hk, h8⟩
theorem MnIn.mono {b o : Nat} {m : Mn} (h : MnIn w L B b o m) (hL : L' ≤ L) (hB : B ≤ B') : MnIn w L' B' b o m := by
  obtain ⟨AV, cv, A, c, h0, h1, h2, h3, h4, h5, h6, h7⟩ := h
  exact ⟨AV, cv, A, c, h0, h1, h2, h3, h4, h5, (h6.low hL).mono hB, (h7.low hL).mono hB⟩
theorem MnRd.mono {b o : Nat} {m : Mn} (h : MnRd w L B b o m) (hL : L' ≤ L) (hB : B ≤ B') : MnRd w L' B' b o m := by
  obtain ⟨AV, cv, A, c, h0, h1, h2, h3, h4, h5, h6, h7, h8⟩ := h
  exact ⟨AV, cv, A, c, h0, h1, h2, h3, h4, h5, (h6.low hL).mono hB, (h7.low hL).mono hB, h8⟩
theorem MnsIn.keep (h : MnsIn w L B A ms) (hk : ∀ p : Addr, L ≤ p.block → p.block < B → w'.cell? p = w.cell? p) : MnsIn w' L B A ms := fun hl => by
  obtain ⟨b, o, e, hL, hb, hc⟩ := h hl
  exact ⟨b, o, e, hL, hb, fun i hi => (hc i hi).keep hL hb hk⟩
theorem MnsRd.keep (h : MnsRd w L B A ms) (hk : ∀ p : Addr, L ≤ p.block → p.block < B → w'.cell? p = w.cell? p) : MnsRd w' L B A ms := fun hl => by
  obtain ⟨b, o, e, hL, hb, hc⟩ := h hl
  exact ⟨b, o, e, hL, hb, fun i hi => (hc i hi).keep hL hb hk⟩
theorem MnsIn.mono (h : MnsIn w L B A ms) (hB : B ≤ B') : MnsIn w L B' A ms := fun hl => by
  obtain ⟨b, o, e, hL, hb, hc⟩ := h hl
  exact ⟨b, o, e, hL, by omega, fun i hi => (hc i hi).mono (Nat.le_refl _) hB⟩
theorem MnsRd.mono (h : MnsRd w L B A ms) (hL' : L' ≤ L) (hB : B ≤ B') : MnsRd w L' B' A ms := fun hl => by
  obtain ⟨b, o, e, hL, hb, hc⟩ := h hl
  exact ⟨b, o, e, by omega, by omega, fun i hi => (hc i hi).mono hL' hB⟩
theorem MnsRd.up (h : MnsRd w 0 w.heap.size A ms) (hb : Below w.heap.size w w') : MnsRd w' 0 w'.heap.size A ms := (h.keep fun _ _ hp => hb.cell hp).mono (Nat.le_refl _) hb.size
end

/-- All that these manifests hold, as the law reckons it. -/
def mbulk : List Mn → Nat
  | [] => 0
  | m :: ms => m.vec.length + (m.es.length + ebulk m.es) + mbulk ms
theorem mbulk_append (xs ys : List Mn) : mbulk (xs ++ ys) = mbulk xs + mbulk ys := by
  induction xs with
  | nil => simp [mbulk]
  | cons x xs ih => simp [mbulk, ih]; omega
theorem mbulk_take_succ (ms : List Mn) (k : Nat) (h : k < ms.length) : mbulk (ms.take (k + 1)) = mbulk (ms.take k) + (ms[k].vec.length + (ms[k].es.length + ebulk ms[k].es)) := by
  rw [List.take_succ_eq_append_getElem h, mbulk_append]
  simp [mbulk]
theorem mbulk_take_le (ms : List Mn) (k : Nat) : mbulk (ms.take k) ≤ mbulk ms := by
  have h := mbulk_append (ms.take k) (ms.drop k)
  rw [List.take_append_drop] at h
  omega
theorem one_le_mbulk (ms : List Mn) (k : Nat) (h : k < ms.length) : ms[k].vec.length + (ms[k].es.length + ebulk ms[k].es) ≤ mbulk ms := by
  have := mbulk_take_succ ms k h
  have := mbulk_take_le ms (k + 1)
  omega

/-- What an argument's manifests are known to keep to. -/
def MnsSz (ms : List Mn) : Prop := ∀ i (hi : i < ms.length), ms[i].vec.length ≤ 9223372036854775807 ∧ ms[i].es.length ≤ 9223372036854775807 ∧ ∀ j (hj : j < ms[i].es.length), ms[i].es[j].name.length ≤ 9223372036854775807

set_option maxRecDepth 100000 in
set_option maxHeartbeats 1000000 in
theorem szManifestS_any (A : Option Addr) (ms : List Mn) (c : Nat) (left : Int) (w : World) (hA : MnsIn w 0 w.heap.size A ms) (hn : ms.length ≤ 9223372036854775807) (hbn : MnsSz ms) (h0 : 0 ≤ left) (h1 : left ≤ 1048576) :
    Calls Try.prog 21 #[.slice A ms.length c, .int .i64 left] w fun e w' => ∃ r : Int, e = .returned (.int .i64 r) ∧ SzOk left (ms.length + mbulk ms) r ∧ Below w.heap.size w w' := by
  go_enter Try.func21, Try.ntmps21
  by_cases hl : left - ms.length < 0
  · go_wp2
    go_ret
    exact ⟨-1, rfl, .inl rfl, Below.refl _ _⟩
  · have hl' : 0 ≤ left - ms.length := by omega
    have HBn := Lib.hid hbn
    clear hl hbn
    go_wp2
    go_loopw [1, 4, 5] (fun l _ i wr => ∃ (k : Nat) (r : Int), k ≤ ms.length ∧ i = .int .i64 k ∧ l = .int .i64 r ∧ 0 ≤ r ∧ r + ms.length + mbulk (ms.take k) = left ∧ Below w.heap.size w wr) (fun _ _ i _ => ms.length - (intOf i).toNat)
    case atStart => exact ⟨0, _, Nat.zero_le _, rfl, rfl, hl', by simp [mbulk], Below.refl _ _⟩
    case round =>
      obtain ⟨k, r, hk, rfl, rfl, hr, hsum, hbel⟩ := hrel
      have HSum := Lib.hid hsum
      have HBel := Lib.hid hbel
      have hrl : r ≤ 1048576 := by omega
      clear hsum hbel
      by_cases hlt : k < ms.length
      · obtain ⟨b, o, rfl, hL, hb, hc⟩ := hA (by omega)
        obtain ⟨AV, cv, A', c', c0, c1, c2, c3, c4, c5, _, hes⟩ := (hc k hlt).keep hL hb (fun p _ hp => HBel.out.cell hp)
        have HEs := Lib.hid (hes.mono HBel.out.size)
        obtain ⟨hv1, hv2, hv3⟩ := HBn.out k hlt
        have HV3 := Lib.hid hv3
        have HTs := Lib.hid (mbulk_take_succ ms k hlt)
        have HTl := Lib.hid (mbulk_take_le ms (k + 1))
        clear hc hes hv3
        go_wp2_with fail
        refine (szManifest_any _ _ _ _ _ _ _ _ _ _ _ _ HEs.out hv1 hv2 HV3.out hr hrl).mono ?_
        rintro e w1 ⟨r1, rfl, hsz, hb1⟩
        have HSz := Lib.hid hsz
        have HB1 := Lib.hid (HBel.out.trans (hb1.mono HBel.out.size))
        clear hsz hb1 c0 c1 c2 c3 c4 c5
        by_cases hr1 : r1 < 0
        · go_wp2_with fail
          go_ret
          refine ⟨-1, rfl, .inl rfl, HB1.out⟩
        · have hr1' : 0 ≤ r1 := by omega
          go_wp2_with fail
          go_roundw
          case rel =>
            refine ⟨k + 1, r1, by omega, by go_num, rfl, hr1', ?_, HB1.out⟩
            have := HSz.out
            have := HSum.out
            unfold SzOk at *
            rw [HTs.out]
            omega
          case measure => simp [intOf]; omega
      · have hke : k = ms.length := by omega
        have HR := Lib.hid (show SzOk left (ms.length + mbulk ms) r by
          have := HSum.out
          rw [hke, List.take_length] at this
          exact .inr ⟨hr, by omega⟩)
        go_wp2_with fail
        go_ret
        exact ⟨r, rfl, HR.out, HBel.out⟩

/-! A list of manifests that was made. -/

/-- The i-th manifest of the row in block R. -/
structure MnCell (w : World) (R i : Nat) (AV : Option Addr) (cv : Nat) (A : Option Addr) (c : Nat) (m : Mn) : Prop where
  c0 : w.cell? ⟨R, i * 6, none⟩ = some (.int .i64 m.au)
  c1 : w.cell? ⟨R, i * 6 + 1, none⟩ = some (.int .i64 m.sq)
  c2 : w.cell? ⟨R, i * 6 + 2, none⟩ = some (.int .i64 m.pv)
  c3 : w.cell? ⟨R, i * 6 + 3, none⟩ = some (.slice AV m.vec.length cv)
  c4 : w.cell? ⟨R, i * 6 + 4, none⟩ = some (.slice A m.es.length c)
  c5 : w.cell? ⟨R, i * 6 + 5, none⟩ = some (.int .i64 m.sg)
  fr : ∀ o, o < 6 → w.frozen? ⟨R, i * 6 + o, none⟩ = false
  cb : m.es.length ≤ c

theorem MnCell.keep {w w' : World} {R i cv c : Nat} {AV A : Option Addr} {m : Mn} (h : MnCell w R i AV cv A c m) (hR : ∀ o, w'.cell? ⟨R, o, none⟩ = w.cell? ⟨R, o, none⟩ ∧ w'.frozen? ⟨R, o, none⟩ = w.frozen? ⟨R, o, none⟩) : MnCell w' R i AV cv A c m where
  c0 := (hR _).1.trans h.c0
  c1 := (hR _).1.trans h.c1
  c2 := (hR _).1.trans h.c2
  c3 := (hR _).1.trans h.c3
  c4 := (hR _).1.trans h.c4
  c5 := (hR _).1.trans h.c5
  fr o ho := (hR _).2.trans (h.fr o ho)
  cb := h.cb

/-- Where a row and its parts lie: R the row's block, from lo to hi those of each. -/
structure MLay (L B R n : Nat) (lo hi : Nat → Nat) : Prop where
  low : L ≤ R
  up : R < B
  at_ : ∀ i, i < n → L ≤ lo i ∧ hi i ≤ B ∧ (R < lo i ∨ hi i ≤ R)
  apart : ∀ i j, i < j → j < n → hi i ≤ lo j ∨ hi j ≤ lo i

theorem MLay.mono {L L' B B' R n : Nat} {lo hi : Nat → Nat} (h : MLay L B R n lo hi) (hL : L' ≤ L) (hB : B ≤ B') : MLay L' B' R n lo hi :=
  ⟨Nat.le_trans hL h.low, Nat.lt_of_lt_of_le h.up hB, fun i hi => ⟨Nat.le_trans hL (h.at_ i hi).1, Nat.le_trans (h.at_ i hi).2.1 hB, (h.at_ i hi).2.2⟩, h.apart⟩

/-- A list of manifests that was made, each part apart. -/
def MnsOwn (w : World) (L B : Nat) (A : Option Addr) (ms : List Mn) : Prop :=
  0 < ms.length → ∃ (R : Nat) (lo hi : Nat → Nat) (AV : Nat → Option Addr) (cv : Nat → Nat) (AE : Nat → Option Addr) (ce : Nat → Nat), A = some ⟨R, 0, none⟩ ∧ MLay L B R ms.length lo hi ∧
    ∀ i (hi' : i < ms.length), MnCell w R i (AV i) (cv i) (AE i) (ce i) ms[i] ∧ TrOwn w (lo i) (hi i) (AV i) ms[i].vec (AE i) ms[i].es

section
variable {w w' : World} {L L' B B' : Nat} {A : Option Addr} {ms : List Mn}
theorem MnsOwn.keep (h : MnsOwn w L B A ms) (hk : ∀ p : Addr, L ≤ p.block → p.block < B → w'.cell? p = w.cell? p ∧ w'.frozen? p = w.frozen? p) : MnsOwn w' L B A ms := fun hl => by
  obtain ⟨R, lo, hi, AV, cv, AE, ce, e, hlay, hc⟩ := h hl
  refine ⟨R, lo, hi, AV, cv, AE, ce, e, hlay, fun i hi' => ⟨(hc i hi').1.keep fun o => hk _ hlay.low hlay.up, (hc i hi').2.keep fun p hp hq => hk p ?_ ?_⟩⟩
  · have := (hlay.at_ i hi').1; omega
  · have := (hlay.at_ i hi').2.1; omega
theorem MnsOwn.mono (h : MnsOwn w L B A ms) (hL : L' ≤ L) (hB : B ≤ B') : MnsOwn w L' B' A ms := fun hl => by
  obtain ⟨R, lo, hi, AV, cv, AE, ce, e, hlay, hc⟩ := h hl
  exact ⟨R, lo, hi, AV, cv, AE, ce, e, hlay.mono hL hB, hc⟩
theorem MnsOwn.nil : MnsOwn w L B A [] := fun h => absurd h (by simp)
theorem MnsOwn.rd (h : MnsOwn w L B A ms) : MnsRd w L B A ms := fun hl => by
  obtain ⟨R, lo, hi, AV, cv, AE, ce, e, hlay, hc⟩ := h hl
  refine ⟨R, 0, e, hlay.low, hlay.up, fun i hi' => ?_⟩
  obtain ⟨hx, ht⟩ := hc i hi'
  have ha := hlay.at_ i hi'
  rw [Nat.zero_add]
  exact ⟨AV i, cv i, AE i, ce i, hx.c0, hx.c1, hx.c2, hx.c3, hx.c4, hx.c5, (ht.vecIn.ints.low ha.1).mono ha.2.1, (ht.ensIn.ens.low ha.1).mono ha.2.1, hx.cb⟩
end

theorem Try.infoMan : (Try.prog.info? 41).map (fun i => (i.zero, i.size, i.bytes)) = some (some (.agg #[.int .i64 0, .int .i64 0, .int .i64 0, .slice none 0 0, .slice none 0 0, .int .i64 0]), 6, 80) := by kernel_rfl

/-- 'make([]impl.Manifest, n)': n zero manifests. -/
theorem run_make_mns (n : Nat) (hn : n ≤ 1048576) (w : World) :
    (Instr.makeSlice 34 (.int .i64 (n : Int)) (.int .i64 (n : Int))).run Try.prog w = .ok (.slice (some ⟨w.heap.size, 0, none⟩) n n) (w.alloc (.cells (madeCells #[.int .i64 0, .int .i64 0, .int .i64 0, .slice none 0 0, .slice none 0 0, .int .i64 0] (n * 6)) 41)) := by
  obtain ⟨i0, hi, hz0, hz1, hz2⟩ := info_parts Try.infoMan
  have hr := run_make (P := Try.prog) w 34 41 i0 _ Try.underlying34 hi hz0 .i64 .i64 n n (by omega) (by omega) (by rw [hz2]; omega) (by omega)
  simp only [Int.toNat_natCast, hz1] at hr
  exact hr

/-- Six cells stored from 6 * k on. -/
def put6m (f : Nat → Value) (k : Nat) (v0 v1 v2 v3 v4 v5 : Value) : Nat → Value :=
  fun j => if j = k * 6 + 5 then v5 else (fun j => if j = k * 6 + 4 then v4 else (fun j => if j = k * 6 + 3 then v3 else (fun j => if j = k * 6 + 2 then v2 else (fun j => if j = k * 6 + 1 then v1 else (fun j => if j = k * 6 then v0 else f j) j) j) j) j) j
section
variable {w a : World} {b k B : Nat} {t : TypeId} {n : Nat} {f : Nat → Value} {v0 v1 v2 v3 v4 v5 : Value}
theorem rowIs_put6m (h : w.rowIs b t n f) (k : Nat) (v0 v1 v2 v3 v4 v5 : Value) :
    ((((((w.setCell ⟨b, k * 6, none⟩ v0).setCell ⟨b, k * 6 + 1, none⟩ v1).setCell ⟨b, k * 6 + 2, none⟩ v2).setCell ⟨b, k * 6 + 3, none⟩ v3).setCell ⟨b, k * 6 + 4, none⟩ v4).setCell ⟨b, k * 6 + 5, none⟩ v5).rowIs b t n (put6m f k v0 v1 v2 v3 v4 v5) :=
  (((((h.set _ v0).set _ v1).set _ v2).set _ v3).set _ v4).set _ v5
theorem other_put6m {p : Addr} (hp : p.block ≠ b) :
    ((((((w.setCell ⟨b, k * 6, none⟩ v0).setCell ⟨b, k * 6 + 1, none⟩ v1).setCell ⟨b, k * 6 + 2, none⟩ v2).setCell ⟨b, k * 6 + 3, none⟩ v3).setCell ⟨b, k * 6 + 4, none⟩ v4).setCell ⟨b, k * 6 + 5, none⟩ v5).cell? p = w.cell? p ∧
    ((((((w.setCell ⟨b, k * 6, none⟩ v0).setCell ⟨b, k * 6 + 1, none⟩ v1).setCell ⟨b, k * 6 + 2, none⟩ v2).setCell ⟨b, k * 6 + 3, none⟩ v3).setCell ⟨b, k * 6 + 4, none⟩ v4).setCell ⟨b, k * 6 + 5, none⟩ v5).frozen? p = w.frozen? p := by
  refine ⟨?_, by rw [World.frozen?_setCell, World.frozen?_setCell, World.frozen?_setCell, World.frozen?_setCell, World.frozen?_setCell, World.frozen?_setCell]⟩
  rw [World.cell?_setCell_other _ _ _ _ (by rintro rfl; exact hp rfl), World.cell?_setCell_other _ _ _ _ (by rintro rfl; exact hp rfl), World.cell?_setCell_other _ _ _ _ (by rintro rfl; exact hp rfl), World.cell?_setCell_other _ _ _ _ (by rintro rfl; exact hp rfl), World.cell?_setCell_other _ _ _ _ (by rintro rfl; exact hp rfl), World.cell?_setCell_other _ _ _ _ (by rintro rfl; exact hp rfl)]
theorem below_put6m (h : Below B a w) (hB : B ≤ b) (k : Nat) (v0 v1 v2 v3 v4 v5 : Value) :
    Below B a ((((((w.setCell ⟨b, k * 6, none⟩ v0).setCell ⟨b, k * 6 + 1, none⟩ v1).setCell ⟨b, k * 6 + 2, none⟩ v2).setCell ⟨b, k * 6 + 3, none⟩ v3).setCell ⟨b, k * 6 + 4, none⟩ v4).setCell ⟨b, k * 6 + 5, none⟩ v5) :=
  (((((h.setCell hB _).setCell hB _).setCell hB _).setCell hB _).setCell hB _).setCell hB _
end

/-- The first k manifests, as 'f' of a row in block R. -/
structure MnRow (w : World) (R : Nat) (ms : List Mn) (k : Nat) (f : Nat → Value) (lo hi gv ge : Nat → Nat) : Prop where
  at_ : ∀ i, i < k → R < lo i ∧ hi i ≤ w.heap.size
  inc : ∀ i j, i < j → j < k → hi i ≤ lo j
  val : ∀ i (hi : i < ms.length), i < k → f (i * 6) = .int .i64 ms[i].au ∧ f (i * 6 + 1) = .int .i64 ms[i].sq ∧ f (i * 6 + 2) = .int .i64 ms[i].pv ∧ f (i * 6 + 3) = .slice (some ⟨gv i, 0, none⟩) ms[i].vec.length ms[i].vec.length ∧ f (i * 6 + 4) = .slice (some ⟨ge i, 0, none⟩) ms[i].es.length ms[i].es.length ∧ f (i * 6 + 5) = .int .i64 ms[i].sg
  tr : ∀ i (hi' : i < ms.length), i < k → TrOwn w (lo i) (hi i) (some ⟨gv i, 0, none⟩) ms[i].vec (some ⟨ge i, 0, none⟩) ms[i].es

theorem MnRow.step {w w1 : World} {R : Nat} {ms : List Mn} {k : Nat} {f : Nat → Value} {lo hi gv ge : Nat → Nat} {gv' ge' : Nat} (hk : k < ms.length) (h : MnRow w R ms k f lo hi gv ge) (hb : Below w.heap.size w w1) (hR : R < w.heap.size)
    (ht : TrOwn w1 w.heap.size w1.heap.size (some ⟨gv', 0, none⟩) ms[k].vec (some ⟨ge', 0, none⟩) ms[k].es) :
    MnRow ((((((w1.setCell ⟨R, k * 6, none⟩ (.int .i64 ms[k].au)).setCell ⟨R, k * 6 + 1, none⟩ (.int .i64 ms[k].sq)).setCell ⟨R, k * 6 + 2, none⟩ (.int .i64 ms[k].pv)).setCell ⟨R, k * 6 + 3, none⟩ (.slice (some ⟨gv', 0, none⟩) ms[k].vec.length ms[k].vec.length)).setCell ⟨R, k * 6 + 4, none⟩ (.slice (some ⟨ge', 0, none⟩) ms[k].es.length ms[k].es.length)).setCell ⟨R, k * 6 + 5, none⟩ (.int .i64 ms[k].sg)) R ms (k + 1)
      (put6m f k (.int .i64 ms[k].au) (.int .i64 ms[k].sq) (.int .i64 ms[k].pv) (.slice (some ⟨gv', 0, none⟩) ms[k].vec.length ms[k].vec.length) (.slice (some ⟨ge', 0, none⟩) ms[k].es.length ms[k].es.length) (.int .i64 ms[k].sg)) (fun i => if i = k then w.heap.size else lo i) (fun i => if i = k then w1.heap.size else hi i) (fun i => if i = k then gv' else gv i) (fun i => if i = k then ge' else ge i) where
  at_ i hi := by
    have hz := hb.size
    simp only [World.size_setCell]
    by_cases e : i = k
    · rw [if_pos e, if_pos e]; omega
    · rw [if_neg e, if_neg e]
      have := h.at_ i (by omega)
      omega
  inc i j hij hj := by
    by_cases e : j = k
    · rw [if_neg (show i ≠ k by omega), if_pos e]
      have := h.at_ i (by omega)
      omega
    · rw [if_neg (show i ≠ k by omega), if_neg e]
      exact h.inc i j hij (by omega)
  val i hi hik := by
    by_cases e : i = k
    · subst e
      simp [put6m]
    · obtain ⟨f0, f1, f2, f3, f4, f5⟩ := h.val i hi (by omega)
      unfold put6m
      simp only [if_neg e]
      refine ⟨?_, ?_, ?_, ?_, ?_, ?_⟩
      all_goals rw [if_neg (by omega), if_neg (by omega), if_neg (by omega), if_neg (by omega), if_neg (by omega), if_neg (by omega)]
      all_goals assumption
  tr i hi hik := by
    by_cases e : i = k
    · subst e
      simp only [if_true]
      exact ht.keep fun p hp hq => other_put6m (by omega)
    · simp only [if_neg e]
      have h1 := h.at_ i (by omega)
      exact ((h.tr i hi (by omega)).keep fun p hp hq => ⟨hb.cell (by omega), hb.frozen (by omega)⟩).keep fun p hp hq => other_put6m (by omega)

set_option maxRecDepth 100000 in
set_option maxHeartbeats 1000000 in
theorem toManifestS_own (A : Option Addr) (ms : List Mn) (c : Nat) (w : World) (hA : MnsIn w 0 w.heap.size A ms) (hn : ms.length ≤ 1048576) (hbk : mbulk ms ≤ 1048576) :
    Calls Try.prog 24 #[.slice A ms.length c] w fun e w' => ∃ R, e = .returned (.slice (some ⟨R, 0, none⟩) ms.length ms.length) ∧ w.heap.size ≤ R ∧ MnsOwn w' w.heap.size w'.heap.size (some ⟨R, 0, none⟩) ms ∧ Below w.heap.size w w' := by
  have hmk := run_make_mns ms.length hn
  go_enter Try.func24, Try.ntmps24
  go_wp2
  clear hmk
  go_loopw [4] (fun i wr => ∃ (k : Nat) (f : Nat → Value) (lo hi gv ge : Nat → Nat), k ≤ ms.length ∧ i = .int .i64 k ∧ wr.rowIs w.heap.size 41 (ms.length * 6) f ∧ MnRow wr w.heap.size ms k f lo hi gv ge ∧ Below w.heap.size w wr) (fun i _ => ms.length - (intOf i).toNat)
  case atStart =>
    refine ⟨0, fun j => (#[Value.int .i64 0, .int .i64 0, .int .i64 0, .slice none 0 0, .slice none 0 0, .int .i64 0] : Array Value)[j % 6]!, fun _ => 0, fun _ => 0, fun _ => 0, fun _ => 0, Nat.zero_le _, rfl, ⟨_, heap_alloc_new w _, size_madeCells _ _, fun i hi => ?_⟩, ⟨fun i h => absurd h (by omega), fun i j _ h => absurd h (by omega), fun i _ h => absurd h (by omega), fun i _ h => absurd h (by omega)⟩, (Below.refl _ _).alloc (Nat.le_refl _) _⟩
    simp [madeCells, hi]
  case round =>
    obtain ⟨k, f, lo, hi, gv, ge, hk, rfl, hrow, hen, hbel⟩ := hrel
    have HR := Lib.hid hrow
    have HE := Lib.hid hen
    clear hen
    by_cases hlt : k < ms.length
    · obtain ⟨b, o, rfl, hL, hb, hc⟩ := hA (by omega)
      obtain ⟨AV, cv, A', c', c0, c1, c2, c3, c4, c5, hvi, hei⟩ := (hc k hlt).keep hL hb (fun p _ hp => hbel.cell hp)
      have hle := one_le_mbulk ms k hlt
      have HV := Lib.hid (hvi.mono hbel.size)
      have HI := Lib.hid (hei.mono hbel.size)
      clear hc hrow hvi hei
      go_wp2_with fail
      refine (toManifest_own _ _ _ _ _ _ _ _ _ _ _ HV.out HI.out (by omega) (by omega) (by omega)).mono ?_
      rintro e w1 ⟨gv', ge', rfl, _, ht, hb1⟩
      have HY := Lib.hid ht
      have hR := HR.out.lt
      have hrow := HR.out.of_block (hb1.block _ hR)
      have d0 := hrow.cell (i := k * 6) (by omega)
      have d1 := hrow.cell (i := k * 6 + 1) (by omega)
      have d2 := hrow.cell (i := k * 6 + 2) (by omega)
      have d3 := hrow.cell (i := k * 6 + 3) (by omega)
      have d4 := hrow.cell (i := k * 6 + 4) (by omega)
      have d5 := hrow.cell (i := k * 6 + 5) (by omega)
      have e0 := hrow.frozen (k * 6)
      have e1 := hrow.frozen (k * 6 + 1)
      have e2 := hrow.frozen (k * 6 + 2)
      have e3 := hrow.frozen (k * 6 + 3)
      have e4 := hrow.frozen (k * 6 + 4)
      have e5 := hrow.frozen (k * 6 + 5)
      have HW := Lib.hid hrow
      have HB1 := Lib.hid hb1
      have HBel := Lib.hid hbel
      clear ht hrow hb1 hbel c0 c1 c2 c3 c4 c5
      go_wp2
      go_roundw
      case rel => exact ⟨k + 1, _, _, _, _, _, by omega, by go_num, rowIs_put6m HW.out k _ _ _ _ _ _, HE.out.step hlt HB1.out hR HY.out, below_put6m (HBel.out.trans (HB1.out.mono HBel.out.size)) (Nat.le_refl _) _ _ _ _ _ _ _⟩
      case measure => simp [intOf]; omega
    · clear hrow
      go_wp2
      go_ret
      refine ⟨w.heap.size, rfl, Nat.le_refl _, fun hl => ⟨w.heap.size, lo, hi, fun i => some ⟨gv i, 0, none⟩, fun i => (ms.getD i default).vec.length, fun i => some ⟨ge i, 0, none⟩, fun i => (ms.getD i default).es.length, rfl, ⟨Nat.le_refl _, HR.out.lt, fun i hi => ?_, fun i j hij hj => .inl (HE.out.inc i j hij (by omega))⟩, fun i hi => ?_⟩, hbel⟩
      · have := HE.out.at_ i (by omega)
        omega
      · obtain ⟨f0, f1, f2, f3, f4, f5⟩ := HE.out.val i hi (by omega)
        have hm : ms.getD i default = ms[i] := by simp [List.getD, List.getElem?_eq_getElem hi]
        refine ⟨⟨?_, ?_, ?_, ?_, ?_, ?_, fun o _ => HR.out.frozen _, by show ms[i].es.length ≤ (ms.getD i default).es.length; rw [hm]; exact Nat.le_refl _⟩, HE.out.tr i hi (by omega)⟩
        · rw [HR.out.cell (by omega), f0]
        · rw [HR.out.cell (by omega), f1]
        · rw [HR.out.cell (by omega), f2]
        · rw [HR.out.cell (by omega), f3]
          simp only [hm]
        · rw [HR.out.cell (by omega), f4]
          simp only [hm]
        · rw [HR.out.cell (by omega), f5]

set_option maxRecDepth 100000 in
set_option maxHeartbeats 1000000 in
theorem eqManifestS_same (A A' : Option Addr) (ms : List Mn) (c c' L L' B B' : Nat) (w : World) (hA : MnsOwn w L B A ms) (hA' : MnsOwn w L' B' A' ms) (hB : B ≤ w.heap.size) (hB' : B' ≤ w.heap.size) (hn : ms.length ≤ 1048576) (hbk : mbulk ms ≤ 1048576) :
    Calls Try.prog 27 #[.slice A ms.length c, .slice A' ms.length c'] w fun e w' => e = .returned (.bool true) ∧ Below w.heap.size w w' := by
  go_enter Try.func27, Try.ntmps27
  go_wp2
  go_loopw [5] (fun i wr => ∃ k : Nat, k ≤ ms.length ∧ i = .int .i64 k ∧ Below w.heap.size w wr) (fun i _ => ms.length - (intOf i).toNat)
  case atStart => exact ⟨0, Nat.zero_le _, rfl, Below.refl _ _⟩
  case round =>
    obtain ⟨k, hk, rfl, hbel⟩ := hrel
    have HBel := Lib.hid hbel
    by_cases hlt : k < ms.length
    · obtain ⟨R, lo, hi, AV, cv, AE, ce, rfl, hlay, hc⟩ := hA (by omega)
      obtain ⟨R', lo', hi', AV', cv', AE', ce', rfl, hlay', hc'⟩ := hA' (by omega)
      have hl1 := hlay.low
      have hl2 := hlay.up
      have hl3 := hlay'.low
      have hl4 := hlay'.up
      have hl5 := hlay.at_ k hlt
      have hl6 := hlay'.at_ k hlt
      obtain ⟨⟨x0, x1, x2, x3, x4, x5, _, _⟩, ht⟩ : MnCell wr R k (AV k) (cv k) (AE k) (ce k) ms[k] ∧ TrOwn wr (lo k) (hi k) (AV k) ms[k].vec (AE k) ms[k].es := ⟨(hc k hlt).1.keep fun o => ⟨hbel.cell (by show R < _; omega), hbel.frozen (by show R < _; omega)⟩, (hc k hlt).2.keep fun p hp hq => ⟨hbel.cell (by omega), hbel.frozen (by omega)⟩⟩
      obtain ⟨⟨y0, y1, y2, y3, y4, y5, _, _⟩, ht'⟩ : MnCell wr R' k (AV' k) (cv' k) (AE' k) (ce' k) ms[k] ∧ TrOwn wr (lo' k) (hi' k) (AV' k) ms[k].vec (AE' k) ms[k].es := ⟨(hc' k hlt).1.keep fun o => ⟨hbel.cell (by show R' < _; omega), hbel.frozen (by show R' < _; omega)⟩, (hc' k hlt).2.keep fun p hp hq => ⟨hbel.cell (by omega), hbel.frozen (by omega)⟩⟩
      have HY := Lib.hid ht
      have HY' := Lib.hid ht'
      have hle := one_le_mbulk ms k hlt
      have hz := hbel.size
      have hh1 : hi k ≤ wr.heap.size := by omega
      have hh2 : hi' k ≤ wr.heap.size := by omega
      clear hc hc' hA hA' hbel ht ht' hlay hlay' hl1 hl2 hl3 hl4 hl5 hl6
      go_wp2
      go_still_tail 8, (by kernel_rfl)
      change wpList _ _ _ _ _ wr.drew
      go_wp2_with fail
      refine (eqManifest_same _ _ _ _ _ _ _ _ _ _ _ _ _ _ (lo k) (lo' k) (hi k) (hi' k) _ (HY.out.keep (w' := wr.drew) fun _ _ _ => ⟨rfl, rfl⟩) (HY'.out.keep (w' := wr.drew) fun _ _ _ => ⟨rfl, rfl⟩) hh1 hh2 (by omega) (by omega) (by omega)).mono ?_
      rintro e w1 ⟨rfl, hb1⟩
      have HB := Lib.hid (HBel.out.drew.trans (hb1.mono hz))
      clear hb1 x0 x1 x2 x3 x4 x5 y0 y1 y2 y3 y4 y5
      go_wp2
      go_roundw
      case rel => exact ⟨k + 1, by omega, by go_num, HB.out⟩
      case measure => simp [intOf]; omega
    · go_wp2
      go_ret
      exact ⟨rfl, hbel⟩

end Go.Proofs.Ytgomdjhfdnbmdaa
