/-
  What the law writes into what it was handed back, and what it finds there.
-/
import Derived.Test.YtkmoihkpaccbdaaDoorFresh
import Derived.BigQuiet
import Derived.Deep.QuietTactic
namespace Go.Proofs.YtkmoihkpaccbdaaDoor
open Go.RowKit

/-- Written is between L and B alone, and into no cell that there was not. -/
structure Inside (L B : Nat) (w w' : World) : Prop where
  below : Below L w w'
  above : ∀ b, B ≤ b → b < w.heap.size → w'.heap[b]? = w.heap[b]?
  frozen : ∀ p : Addr, p.block < w.heap.size → w'.frozen? p = w.frozen? p
  ex : ∀ p v, w.cell? p = some v → ∃ v', w'.cell? p = some v'

section
variable {L L' B B' : Nat} {a b c : World}

theorem Inside.refl (L B : Nat) (w : World) : Inside L B w w := ⟨Below.refl _ _, fun _ _ _ => rfl, fun _ _ => rfl, fun _ v h => ⟨v, h⟩⟩
theorem Inside.trans (h : Inside L B a b) (k : Inside L B b c) : Inside L B a c :=
  ⟨h.below.trans k.below, fun x hx hs => (k.above x hx (by have := h.below.size; omega)).trans (h.above x hx hs), fun p hp => (k.frozen p (by have := h.below.size; omega)).trans (h.frozen p hp), fun p v hv => by
    obtain ⟨v', hv'⟩ := h.ex p v hv
    exact k.ex p v' hv'⟩
theorem Inside.wider (h : Inside L B a b) (hL : L' ≤ L) (hB : B ≤ B') : Inside L' B' a b :=
  ⟨h.below.mono hL, fun x hx hs => h.above x (by omega) hs, h.frozen, h.ex⟩
theorem Inside.setCell (h : Inside L B a b) {p : Addr} (hp : L ≤ p.block) (hB : p.block < B) (v : Value) : Inside L B a (b.setCell p v) :=
  ⟨h.below.setCell hp v, fun x hx hs => by rw [Below.heap_setCell _ _ _ _ (by omega)]; exact h.above x hx hs, fun q hq => by rw [World.frozen?_setCell]; exact h.frozen q hq, fun q u hu => by
    obtain ⟨u', hu'⟩ := h.ex q u hu
    by_cases e : q = p
    · subst e
      exact ⟨v, World.cell?_setCell_same _ _ _ (by rw [hu'])⟩
    · exact ⟨u', (World.cell?_setCell_other _ _ _ _ (fun h => e h.symm)).trans hu'⟩⟩
theorem Inside.grown (h : Inside L B a b) (hb : Below b.heap.size b c) (hL : L ≤ a.heap.size) : Inside L B a c :=
  ⟨h.below.trans (hb.mono (by have := h.below.size; omega)), fun x hx hs => (hb.block x (by have := h.below.size; omega)).trans (h.above x hx hs), fun p hp => (hb.frozen (by have := h.below.size; omega)).trans (h.frozen p hp), fun p v hv => by
    obtain ⟨v', hv'⟩ := h.ex p v hv
    exact ⟨v', (hb.cell (World.block_lt_of_cell? _ _ hv')).trans hv'⟩⟩
theorem Inside.cell (h : Inside L B a b) {p : Addr} (hp : p.block < L ∨ (B ≤ p.block ∧ p.block < a.heap.size)) : b.cell? p = a.cell? p := by
  rcases hp with hp | ⟨h1, h2⟩
  · exact h.below.cell hp
  · exact World.cell?_of_block (w := a) (h.above p.block h1 h2)
end

/-- n cells there are. -/
def BytesEx (w : World) (L B : Nat) (A : Option Addr) (n : Nat) : Prop :=
  0 < n → ∃ b o, A = some ⟨b, o, none⟩ ∧ L ≤ b ∧ b < B ∧ ∀ j, j < n → ∃ v, w.cell? ⟨b, o + j, none⟩ = some v

theorem BytesIn.exist {w : World} {L B : Nat} {A : Option Addr} {l : List UInt8} (h : BytesIn w L B A l) : BytesEx w L B A l.length := fun hl => by
  obtain ⟨b, o, e, hL, hb, hc⟩ := h hl
  exact ⟨b, o, e, hL, hb, fun j hj => ⟨_, hc j hj⟩⟩
theorem BytesEx.inside {w w' : World} {L B L' B' n : Nat} {A : Option Addr} (h : BytesEx w L B A n) (hi : Inside L' B' w w') : BytesEx w' L B A n := fun hl => by
  obtain ⟨b, o, e, hL, hb, hc⟩ := h hl
  refine ⟨b, o, e, hL, hb, fun j hj => ?_⟩
  obtain ⟨v, hv⟩ := hc j hj
  exact hi.ex _ v hv

set_option maxHeartbeats 400000 in
theorem markByteS_any (A : Option Addr) (n c : Nat) (k : Int) (L B : Nat) (w : World) (hA : BytesEx w L B A n) (hB : B ≤ w.heap.size) (hf : ∀ p : Addr, L ≤ p.block → p.block < B → w.frozen? p = false) (hn : n ≤ 4194304) (hk : 0 ≤ k) (hk' : k ≤ 1000000000000) :
    Calls Tryd.prog 17 #[.slice A n c, .int .i64 k] w fun e w' => e = .returned (.int .i64 (k + n)) ∧ Inside L B w w' := by
  go_enter Tryd.func17, Tryd.ntmps17
  go_wp2
  go_loopw [1, 5] (fun x i wr => ∃ j : Nat, j ≤ n ∧ i = .int .i64 j ∧ x = .int .i64 (k + j) ∧ Inside L B w wr) (fun _ i _ => n - (intOf i).toNat)
  case atStart => exact ⟨0, Nat.zero_le _, rfl, by simp, Inside.refl _ _ _⟩
  case round =>
    obtain ⟨j, hj, rfl, rfl, hin⟩ := hrel
    have HI := Lib.hid hin
    by_cases hlt : j < n
    · obtain ⟨b, o, rfl, hL, hb, hc⟩ := hA (by omega)
      obtain ⟨v0, hv0⟩ := hc j hlt
      obtain ⟨v, hv⟩ := hin.ex _ v0 hv0
      have hfr := (hin.frozen ⟨b, o + j, none⟩ (by show b < _; omega)).trans (hf _ hL hb)
      clear hc hin hv0
      go_wp2
      go_roundw
      case rel => exact ⟨j + 1, by omega, by go_num, by go_num, HI.out.setCell hL hb _⟩
      case measure => simp [intOf]; omega
    · clear hin
      go_wp2
      go_ret
      exact ⟨ret_int (by omega), HI.out⟩

/-- What is there to be written into: a ledger's cells and texts. -/
def CopyEx (w : World) (R B : Nat) (ns : List Nat) : Prop :=
  ∀ i (hi : i < ns.length), (∃ v, w.cell? ⟨R, i * 4, none⟩ = some v) ∧ (∃ v, w.cell? ⟨R, i * 4 + 1, none⟩ = some v) ∧ (∃ v, w.cell? ⟨R, i * 4 + 2, none⟩ = some v) ∧ ∃ A c, w.cell? ⟨R, i * 4 + 3, none⟩ = some (.slice A ns[i] c) ∧ BytesEx w (R + 1) B A ns[i]

theorem CopyIn.exist {w : World} {R B : Nat} {ts : List Tm} (h : CopyIn w R B ts) : CopyEx w R B (ts.map fun t => t.text.length) := fun i hi => by
  have hi' : i < ts.length := by simpa using hi
  obtain ⟨A, c, h0, h1, h2, h3, _, _, h6⟩ := h i hi'
  simp only [List.getElem_map]
  exact ⟨⟨_, h0⟩, ⟨_, h1⟩, ⟨_, h2⟩, A, c, h3, h6.exist⟩

/-- How many numbers are written into the first k terms. -/
def marksOf (ns : List Nat) : Nat := 3 * ns.length + ns.sum
theorem marksOf_succ (ns : List Nat) (k : Nat) (h : k < ns.length) : marksOf (ns.take (k + 1)) = marksOf (ns.take k) + 3 + ns[k] := by
  unfold marksOf
  rw [List.take_succ_eq_append_getElem h, List.length_append, List.sum_append]
  simp only [List.length_cons, List.length_nil, List.sum_cons, List.sum_nil]
  omega
theorem marksOf_le (ns : List Nat) (k : Nat) : marksOf (ns.take k) ≤ marksOf ns := by
  have h : marksOf (ns.take k ++ ns.drop k) = marksOf (ns.take k) + marksOf (ns.drop k) := by
    unfold marksOf
    rw [List.length_append, List.sum_append]
    omega
  rw [List.take_append_drop] at h
  omega
theorem marksOf_texts (ts : List Tm) : marksOf (ts.map fun t => t.text.length) = 3 * ts.length + bulk ts := by
  induction ts with
  | nil => rfl
  | cons t ts ih => simp [marksOf, bulk] at ih ⊢; omega

set_option maxRecDepth 100000 in
set_option maxHeartbeats 1000000 in
theorem markTermS_any (R : Nat) (ns : List Nat) (c B : Nat) (k : Int) (w : World) (hA : CopyEx w R B ns) (hR : R < B) (hB : B ≤ w.heap.size) (hf : ∀ p : Addr, R ≤ p.block → p.block < B → w.frozen? p = false) (hn : marksOf ns ≤ 4194304) (hk : 0 ≤ k) (hk' : k ≤ 1000000000) :
    Calls Tryd.prog 33 #[.slice (some ⟨R, 0, none⟩) ns.length c, .int .i64 k] w fun e w' => e = .returned (.int .i64 (k + marksOf ns)) ∧ Inside R B w w' := by
  go_enter Tryd.func33, Tryd.ntmps33
  go_wp2
  have hnl : ns.length ≤ marksOf ns := by unfold marksOf; omega
  go_loopw [1, 5] (fun x i wr => ∃ j : Nat, j ≤ ns.length ∧ i = .int .i64 j ∧ x = .int .i64 (k + marksOf (ns.take j)) ∧ Inside R B w wr ∧ ∀ m, wr.cell? ⟨R, m * 4 + 3, none⟩ = w.cell? ⟨R, m * 4 + 3, none⟩) (fun _ i _ => ns.length - (intOf i).toNat)
  case atStart => exact ⟨0, Nat.zero_le _, rfl, by simp [marksOf], Inside.refl _ _ _, fun _ => rfl⟩
  case round =>
    obtain ⟨j, hj, rfl, rfl, hin, h3⟩ := hrel
    have HI := Lib.hid hin
    have H3 := Lib.hid h3
    have hle := marksOf_le ns j
    by_cases hlt : j < ns.length
    · obtain ⟨⟨v0, hv0⟩, ⟨v1, hv1⟩, ⟨v2, hv2⟩, A, c', hh, hby⟩ := hA j hlt
      obtain ⟨u0, hu0⟩ := hin.ex _ _ hv0
      obtain ⟨u1, hu1⟩ := hin.ex _ _ hv1
      obtain ⟨u2, hu2⟩ := hin.ex _ _ hv2
      have hu3 := (h3 j).trans hh
      have hF : ∀ o, wr.frozen? ⟨R, o, none⟩ = false := fun o => (hin.frozen ⟨R, o, none⟩ (by show R < _; omega)).trans (hf _ (Nat.le_refl _) hR)
      have f0 := hF (j * 4)
      have f1 := hF (j * 4 + 1)
      have f2 := hF (j * 4 + 2)
      have HBy := Lib.hid hby
      have HS := Lib.hid (marksOf_succ ns j hlt)
      have hle2 := marksOf_le ns (j + 1)
      rw [HS.out] at hle2
      generalize marksOf (ns.take j) = mj at *
      clear hin h3 hv0 hv1 hv2 hh hby hF
      have HI3 := Lib.hid (((HI.out.setCell (p := ⟨R, j * 4, none⟩) (Nat.le_refl _) hR (.int .i64 (k + mj))).setCell (p := ⟨R, j * 4 + 1, none⟩) (Nat.le_refl _) hR (.int .i64 (k + mj + 1))).setCell (p := ⟨R, j * 4 + 2, none⟩) (Nat.le_refl _) hR (.int .i64 (k + mj + 1 + 1)))
      go_wp2_with fail
      refine (markByteS_any A ns[j] c' _ (R + 1) B _ (HBy.out.inside HI3.out) (by have := HI3.out.below.size; omega) (fun p hp hpB => (HI3.out.frozen p (by omega)).trans (hf p (by omega) hpB)) (by omega) (by omega) (by omega)).mono ?_
      rintro e w4 ⟨rfl, hin4⟩
      have HI4 := Lib.hid (HI3.out.trans (hin4.wider (by omega) (Nat.le_refl _)))
      have HC4 := Lib.hid (fun m => (hin4.cell (p := ⟨R, m * 4 + 3, none⟩) (.inl (by show R < R + 1; omega))))
      clear hin4 hu0 hu1 hu2 hu3 f0 f1 f2
      go_wp2_with fail
      go_roundw
      case rel =>
        refine ⟨j + 1, by omega, by go_num, ?_, HI4.out, fun m => (HC4.out m).trans ?_⟩
        · rw [HS.out]
          go_num
        · rw [World.cell?_setCell_other _ _ _ _ (by simp), World.cell?_setCell_other _ _ _ _ (by simp), World.cell?_setCell_other _ _ _ _ (by simp)]
          exact H3.out m
      case measure => simp [intOf]; omega
    · clear hin h3
      have hje : j = ns.length := by omega
      have HK := Lib.hid (show k + (marksOf (ns.take j) : Int) = k + marksOf ns by rw [hje, List.take_length])
      generalize marksOf (ns.take j) = mj at *
      go_wp2
      go_ret
      exact ⟨ret_int HK.out, HI.out⟩

set_option maxRecDepth 100000 in
set_option maxHeartbeats 1000000 in
theorem markLedger_any (R : Nat) (ts : List Tm) (c B : Nat) (k : Int) (w : World) (hA : CopyIn w R B ts) (hR : R < B) (hB : B ≤ w.heap.size) (hf : ∀ p : Addr, R ≤ p.block → p.block < B → w.frozen? p = false) (hn : ts.length ≤ 1048576) (hbk : bulk ts ≤ 1048576) (hk : 0 ≤ k) (hk' : k ≤ 1000000000) :
    Calls Tryd.prog 16 #[.agg #[.slice (some ⟨R, 0, none⟩) ts.length c], .int .i64 k] w fun e w' => (∃ r : Int, e = .returned (.int .i64 r) ∧ 0 ≤ r) ∧ Inside R B w w' := by
  have HA := Lib.hid hA
  have HM := Lib.hid (marksOf_texts ts)
  clear hA
  go_enter Tryd.func16, Tryd.ntmps16
  go_wp2_with fail
  have hb0 : Below w.heap.size w (w.alloc (.cells #[.slice (some ⟨R, 0, none⟩) ts.length c] 25)) := (Below.refl _ _).alloc (Nat.le_refl _) _
  have hc := markTermS_any R (ts.map fun t => t.text.length) c B k (w.alloc (.cells #[.slice (some ⟨R, 0, none⟩) ts.length c] 25)) (HA.out.keep (fun p _ hp => hb0.cell (by omega)) hR).exist hR (by simp; omega) (fun p hp hpB => (hb0.frozen (by omega)).trans (hf p hp hpB)) (by have := HM.out; omega) hk hk'
  rw [List.length_map] at hc
  refine hc.mono ?_
  rintro e w1 ⟨rfl, hin⟩
  have HI := Lib.hid (((Inside.refl R B w).grown hb0 (by omega)).trans hin)
  clear hin hb0 hc
  go_wp2_with fail
  go_ret
  exact ⟨⟨_, rfl, by omega⟩, HI.out⟩

/-- As IntsIn, in cells that may be written into. -/
def IntsFr (w : World) (L B : Nat) (A : Option Addr) (l : List Int) : Prop :=
  0 < l.length → ∃ b o, A = some ⟨b, o, none⟩ ∧ L ≤ b ∧ b < B ∧ ∀ j (hj : j < l.length), w.cell? ⟨b, o + j, none⟩ = some (.int .i64 l[j]) ∧ w.frozen? ⟨b, o + j, none⟩ = false

theorem IntsFr.keep {w w' : World} {L B : Nat} {A : Option Addr} {l : List Int} (h : IntsFr w L B A l) (hk : ∀ p : Addr, L ≤ p.block → p.block < B → w'.cell? p = w.cell? p ∧ w'.frozen? p = w.frozen? p) : IntsFr w' L B A l := fun hl => by
  obtain ⟨b, o, e, hL, hb, hc⟩ := h hl
  exact ⟨b, o, e, hL, hb, fun j hj => ⟨(hk _ hL hb).1.trans (hc j hj).1, (hk _ hL hb).2.trans (hc j hj).2⟩⟩
theorem IntsFr.mono {w : World} {L B B' : Nat} {A : Option Addr} {l : List Int} (h : IntsFr w L B A l) (hB : B ≤ B') : IntsFr w L B' A l := fun hl => by
  obtain ⟨b, o, e, hL, hb, hc⟩ := h hl
  exact ⟨b, o, e, hL, by omega, hc⟩
theorem IntsFr.low {w : World} {L L' B : Nat} {A : Option Addr} {l : List Int} (h : IntsFr w L B A l) (hL' : L' ≤ L) : IntsFr w L' B A l := fun hl => by
  obtain ⟨b, o, e, hL, hb, hc⟩ := h hl
  exact ⟨b, o, e, by omega, hb, hc⟩
theorem IntsFr.below {w w' : World} {L B : Nat} {A : Option Addr} {l : List Int} (h : IntsFr w L B A l) (hb : Below B w w') : IntsFr w' L B A l := h.keep fun _ _ hp => ⟨hb.cell hp, hb.frozen hp⟩

/-- n numbers from k on. -/
def marks (k : Int) (n : Nat) : List Int := (List.range n).map fun (j : Nat) => k + (j : Int)
theorem marks_length (k : Int) (n : Nat) : (marks k n).length = n := by simp [marks]
theorem marks_get (k : Int) (n j : Nat) (h : j < (marks k n).length) : (marks k n)[j] = k + j := by simp [marks]

end Go.Proofs.YtkmoihkpaccbdaaDoor
