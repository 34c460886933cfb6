/-
  A ledger that was handed back is written into, and looked at again.
-/
import Derived.Test.YtkmoihkpaccbdaaDoorMark3
namespace Go.Proofs.YtkmoihkpaccbdaaDoor
open Go.RowKit Go.Maps

/-- A ledger in blocks of its own, from L on, below E. -/
def LedFr (w : World) (L E : Nat) (A : Option Addr) (us : List Tx) : Prop :=
  0 < us.length → ∃ R m f, A = some ⟨R, 0, none⟩ ∧ L ≤ R ∧ R < E ∧ w.rowIs R 71 m f ∧ us.length * 4 ≤ m ∧ (∀ i (hi : i < us.length), f (i * 4) = .int .i64 us[i].t.kind ∧ f (i * 4 + 1) = .int .i64 us[i].t.a ∧ f (i * 4 + 2) = .int .i64 us[i].t.b ∧ f (i * 4 + 3) = .slice us[i].A us[i].t.text.length us[i].c) ∧ TxChain w L us E

theorem LedFr.keep {w w' : World} {L E : Nat} {A : Option Addr} {us : List Tx} (h : LedFr w L E A us) (hk : ∀ b, L ≤ b → b < E → w'.heap[b]? = w.heap[b]?) : LedFr w' L E A us := fun hl => by
  obtain ⟨R, m, f, e, hL, hE, hr, hm, hc, ht⟩ := h hl
  exact ⟨R, m, f, e, hL, hE, hr.of_block (hk R hL hE), hm, hc, ht.keep hk⟩
theorem LedFr.nil {w : World} {L E : Nat} {A : Option Addr} : LedFr w L E A [] := fun h => absurd h (by simp)

theorem LedIs.fr {w : World} {L B E : Nat} {A : Option Addr} {c : Nat} {us : List Tx} (h : LedIs w L B (.slice A us.length c) us) (hB : B ≤ E) (hE : w.heap.size ≤ E) : LedFr w L E A us := fun hl => by
  obtain ⟨g, cur, rfl, hg, hlt, hb, hcell⟩ := h.cells hl
  have hm : us.length * 4 ≤ cur.size := by
    have := (hcell (us.length - 1) (by omega)).2.2.2
    have := (Array.getElem?_eq_some_iff.1 this).1
    omega
  refine ⟨g, cur.size, fun i => cur[i]?.getD .nilIface, rfl, hg, by omega, ⟨cur, hb, rfl, fun i hi => by simp [hi]⟩, hm, fun i hi => ?_, h.2.mono hB⟩
  obtain ⟨h0, h1, h2, h3⟩ := hcell i hi
  exact ⟨by simp [h0], by simp [h1], by simp [h2], by simp [h3]⟩

theorem LedFr.tms {w : World} {L E : Nat} {A : Option Addr} {us : List Tx} {ts : List Tm} (h : LedFr w L E A us) (ht : us.map (·.t) = ts) (hc : ∀ x ∈ us, x.t.text.length ≤ x.c ∧ x.c ≤ maxLen) : TmsIn w L E A ts := fun hl => by
  subst ht
  have hpos : 0 < us.length := by simpa using hl
  obtain ⟨R, m, f, rfl, hL, hE, hr, hm, hcell, hch⟩ := h hpos
  refine ⟨R, 0, rfl, hL, hE, fun i hi => ?_⟩
  have hi' : i < us.length := by simpa using hi
  obtain ⟨h0, h1, h2, h3⟩ := hcell i hi'
  obtain ⟨e1, e2⟩ := hc us[i] (List.getElem_mem hi')
  rw [Nat.zero_add, List.getElem_map]
  exact ⟨_, _, (hr.cell (by omega)).trans (congrArg some h0), (hr.cell (by omega)).trans (congrArg some h1), (hr.cell (by omega)).trans (congrArg some h2), (hr.cell (by omega)).trans (congrArg some h3), e1, e2, (hch.at i hi').bytes.bytes⟩

/-- As LedFr, written into from k on. -/
def LedMk (w : World) (L E : Nat) (A : Option Addr) (us : List Tx) (k : Int) : Prop :=
  0 < us.length → ∃ R m, A = some ⟨R, 0, none⟩ ∧ L ≤ R ∧ R < E ∧ RowMk w R m us us.length k ∧ MkChain w L us E k
theorem LedMk.keep {w w' : World} {L E : Nat} {A : Option Addr} {us : List Tx} {k : Int} (h : LedMk w L E A us k) (hk : ∀ b, L ≤ b → b < E → w'.heap[b]? = w.heap[b]?) : LedMk w' L E A us k := fun hl => by
  obtain ⟨R, m, e, hL, hE, hr, hc⟩ := h hl
  exact ⟨R, m, e, hL, hE, hr.keep (hk R hL hE), hc.keepT fun b _ h1 h2 _ => hk b h1 h2⟩

theorem markTermS_none (A : Option Addr) (c : Nat) (k : Int) (w : World) :
    Calls Tryd.prog 33 #[.slice A 0 c, .int .i64 k] w fun e w' => e = .returned (.int .i64 k) ∧ w = w' := by
  go_enter Tryd.func33, Tryd.ntmps33
  go_wp2
  go_loop [1, 5] (fun x i => i = .int .i64 0 ∧ x = .int .i64 k) (fun _ _ => 0)
  case atStart => exact ⟨rfl, rfl⟩
  case round =>
    obtain ⟨rfl, rfl⟩ := hrel
    go_wp2
    go_ret
    exact ⟨rfl, rfl⟩
/-- How many numbers are written into a ledger. -/
def mkN (us : List Tx) : Nat := marksOf (us.map fun x => x.t.text.length)

theorem markTermS_led (A : Option Addr) (us : List Tx) (c L E : Nat) (k : Int) (w : World) (h : LedFr w L E A us) (hE : E ≤ w.heap.size) (hn : mkN us ≤ 4194304) (hk : 0 ≤ k) (hk' : k ≤ 1000000) :
    Calls Tryd.prog 33 #[.slice A us.length c, .int .i64 k] w fun e w' => e = .returned (.int .i64 (k + mkN us)) ∧ LedMk w' L E A us k ∧ Inside L E w w' := by
  rcases Nat.eq_zero_or_pos us.length with h0 | hpos
  · have h1 : us = [] := List.length_eq_zero_iff.1 h0
    subst h1
    refine (markTermS_none A c k w).mono ?_
    rintro e w' ⟨rfl, rfl⟩
    exact ⟨by simp [mkN, marksOf], fun h => absurd h (by simp), Inside.refl _ _ _⟩
  · obtain ⟨R, m, f, rfl, hL, hRE, hr, hm, hc, ht⟩ := h hpos
    refine (markTermS_ex R m us c L E L E k w ⟨f, hr, hm, fun i hi => (hc i hi).2.2.2, fun i hi => absurd hi (by omega)⟩ ht hL (Nat.le_refl _) hRE (Nat.le_refl _) hE hn hk hk').mono ?_
    rintro e w' ⟨rfl, h1, h2, h3⟩
    exact ⟨rfl, fun _ => ⟨R, m, rfl, hL, hRE, h1, h2⟩, h3⟩

set_option maxHeartbeats 400000 in
theorem markLedger_ex (A : Option Addr) (us : List Tx) (c L E : Nat) (k : Int) (w : World) (h : LedFr w L E A us) (hE : E ≤ w.heap.size) (hL : L ≤ w.heap.size) (hn : mkN us ≤ 4194304) (hk : 0 ≤ k) (hk' : k ≤ 1000000) :
    Calls Tryd.prog 16 #[.agg #[.slice A us.length c], .int .i64 k] w fun e w' => e = .returned (.int .i64 (k + mkN us)) ∧ LedMk w' L E A us k ∧ Inside L E w w' := by
  have HA := Lib.hid h
  clear h
  go_enter Tryd.func16, Tryd.ntmps16
  go_wp2_with fail
  have hb0 : Below w.heap.size w (w.alloc (.cells #[.slice A us.length c] 25)) := (Below.refl _ _).alloc (Nat.le_refl _) _
  refine (markTermS_led A us c L E k _ (HA.out.keep fun b _ hb => hb0.block b (by omega)) (by simp; omega) hn hk hk').mono ?_
  rintro e w1 ⟨rfl, hmk, hin⟩
  have HM := Lib.hid hmk
  have HI := Lib.hid (((Inside.refl L E w).grown hb0 hL).trans hin)
  clear hmk hin hb0
  go_wp2_with fail
  go_ret
  exact ⟨rfl, HM.out, HI.out⟩

end Go.Proofs.YtkmoihkpaccbdaaDoor
