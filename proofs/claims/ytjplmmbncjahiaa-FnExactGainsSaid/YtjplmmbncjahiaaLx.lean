/-
  For laws on a ledger and a term: what stays all along; a few small laws more.
-/
import Derived.Test.YtjplmmbncjahiaaInternP
import Derived.Test.YtjplmmbncjahiaaBx
import Derived.Test.YtjplmmbncjahiaaMark2
import Derived.Test.YtjplmmbncjahiaaSz
namespace Go.Proofs.Ytjplmmbncjahiaa
open Go.RowKit Go.Maps

/-- The law's two arguments, in variables of its own: they stay. -/
structure Lx (A : Option Addr) (ts : List Tm) (c : Nat) (t : Tm) (A' : Option Addr) (c' : Nat) (w W : World) : Prop where
  bx : Bx W w.heap.size [.slice A ts.length c]
  tb : Bx W (w.heap.size + 1) [.int .i64 t.kind, .int .i64 t.a, .int .i64 t.b, .slice A' t.text.length c']
  tm : TmsIn W 0 w.heap.size A ts
  tx : BytesIn W 0 w.heap.size A' t.text
  bel : Below w.heap.size w W
  sz : w.heap.size + 2 ≤ W.heap.size

section
variable {A : Option Addr} {ts : List Tm} {c : Nat} {t : Tm} {A' : Option Addr} {c' : Nat} {w W W' : World} {B : Nat}
theorem Lx.below (h : Lx A ts c t A' c' w W) (hb : Below B W W') (hB : w.heap.size + 2 ≤ B) : Lx A ts c t A' c' w W' :=
  ⟨h.bx.below hb (by omega), h.tb.below hb (by omega), h.tm.keep fun p _ hp => hb.cell (by omega), h.tx.keep fun p _ hp => hb.cell (by omega), h.bel.trans (hb.mono (by omega)), by have := hb.size; have := h.sz; omega⟩
theorem Lx.drew (h : Lx A ts c t A' c' w W) : Lx A ts c t A' c' w W.drew := h.below (Below.refl _ _).drew h.sz
theorem Lx.alloc (h : Lx A ts c t A' c' w W) (o : Obj) : Lx A ts c t A' c' w (W.alloc o) := h.below ((Below.refl _ _).alloc (Nat.le_refl _) o) h.sz
theorem Lx.set (h : Lx A ts c t A' c' w W) {p : Addr} (hp : w.heap.size + 2 ≤ p.block) (v : Value) : Lx A ts c t A' c' w (W.setCell p v) := h.below ((Below.refl p.block W).setCell (Nat.le_refl _) v) hp
theorem Lx.five (h : Lx A ts c t A' c' w W) : W.cell? ⟨w.heap.size, 0, none⟩ = some (.slice A ts.length c) ∧ W.cell? ⟨w.heap.size + 1, 0, none⟩ = some (.int .i64 t.kind) ∧ W.cell? ⟨w.heap.size + 1, 1, none⟩ = some (.int .i64 t.a) ∧ W.cell? ⟨w.heap.size + 1, 2, none⟩ = some (.int .i64 t.b) ∧ W.cell? ⟨w.heap.size + 1, 3, none⟩ = some (.slice A' t.text.length c') :=
  ⟨h.bx.one, h.tb.four⟩
theorem Lx.tms (h : Lx A ts c t A' c' w W) : TmsIn W 0 W.heap.size A ts := h.tm.mono (by have := h.sz; omega)
theorem Lx.txs (h : Lx A ts c t A' c' w W) : BytesIn W 0 W.heap.size A' t.text := h.tx.mono (by have := h.sz; omega)
end

theorem LedFr.drew {w : World} {L E : Nat} {A : Option Addr} {us : List Tx} (h : LedFr w L E A us) : LedFr w.drew L E A us := h.keep fun _ _ _ => rfl
theorem LedFr.alloc {w : World} {L E : Nat} {A : Option Addr} {us : List Tx} (h : LedFr w L E A us) (hE : E ≤ w.heap.size) (o : Obj) : LedFr (w.alloc o) L E A us := h.keep fun b _ hb => heap_alloc_old w o (by omega)
theorem LedFr.set {w : World} {L E : Nat} {A : Option Addr} {us : List Tx} (h : LedFr w L E A us) {p : Addr} (hp : p.block < L) (v : Value) : LedFr (w.setCell p v) L E A us := h.keep fun b hb _ => Below.heap_setCell _ _ _ _ (by omega)

theorem BytesIn.fr {w : World} {L B : Nat} {A : Option Addr} {l : List UInt8} (h : BytesIn w L B A l) (hf : ∀ p : Addr, L ≤ p.block → p.block < B → w.frozen? p = false) : BytesFr w L B A l := fun hl => by
  obtain ⟨b, o, e, hL, hb, hc⟩ := h hl
  exact ⟨b, o, e, hL, hb, fun j hj => ⟨hc j hj, hf _ hL hb⟩⟩

theorem mkN_texts (us : List Tx) (ls : List Tm) (h : us.map (·.t) = ls) : mkN us = 3 * ls.length + bulk ls := by
  subst h
  have h := marksOf_texts (us.map (·.t))
  rw [List.map_map] at h
  exact h

set_option maxHeartbeats 400000 in
theorem markLedger_num (R : Nat) (ts : List Tm) (c B : Nat) (k : Int) (w : World) (hA : CopyIn w R B ts) (hR : R < B) (hB : B ≤ w.heap.size) (hf : ∀ p : Addr, R ≤ p.block → p.block < B → w.frozen? p = false) (hn : ts.length ≤ 1048576) (hbk : bulk ts ≤ 1048576) (hk : 0 ≤ k) (hk' : k ≤ 1000000000) :
    Calls Try.prog 17 #[.agg #[.slice (some ⟨R, 0, none⟩) ts.length c], .int .i64 k] w fun e w' => (∃ r : Int, e = .returned (.int .i64 r) ∧ 0 ≤ r ∧ r ≤ k + 4194304) ∧ Inside R B w w' := by
  have HA := Lib.hid hA
  have HM := Lib.hid (marksOf_texts ts)
  clear hA
  go_enter Try.func17, Try.ntmps17
  go_wp2_with fail
  have hb0 : Below w.heap.size w (w.alloc (.cells #[.slice (some ⟨R, 0, none⟩) ts.length c] 30)) := (Below.refl _ _).alloc (Nat.le_refl _) _
  have hc := markTermS_any R (ts.map fun t => t.text.length) c B k (w.alloc (.cells #[.slice (some ⟨R, 0, none⟩) ts.length c] 30)) (HA.out.keep (fun p _ hp => hb0.cell (by omega)) hR).exist hR (by simp; omega) (fun p hp hpB => (hb0.frozen (by omega)).trans (hf p hp hpB)) (by have := HM.out; omega) hk hk'
  rw [List.length_map] at hc
  refine hc.mono ?_
  rintro e w1 ⟨rfl, hin⟩
  have HI := Lib.hid (((Inside.refl R B w).grown hb0 (by omega)).trans hin)
  clear hin hb0 hc
  go_wp2_with fail
  go_ret
  exact ⟨⟨_, rfl, by omega, by have := HM.out; omega⟩, HI.out⟩

end Go.Proofs.Ytjplmmbncjahiaa
