/-
  Several texts in one: Cu, Ds, Vd, Ve.
-/
import Derived.Test.YtepkicgnhjaokaaGreatDoorStep
import Derived.Laws.BitsLemmas
import Derived.Deep.CutRange
import Derived.Deep.QuietTactic
import Derived.Lib.ConvBytes
import Derived.Maps.OwnIn
import Derived.Test.YtepkicgnhjaokaaGreatDoorGOw
namespace Go.Proofs.YtepkicgnhjaokaaGreatDoor
open Go.RowKit Go.Maps

/-- Only block K has turned, and what is new. -/
def OffK (K : Nat) (w w' : World) : Prop := w.grownBy w' (some K)

section
variable {K K' : Nat} {a b c : World}
theorem OffK.refl (K : Nat) (w : World) : OffK K w w := ⟨rfl, rfl, rfl, Nat.le_refl _, fun _ _ _ => rfl⟩
theorem OffK.trans (h : OffK K a b) (k : OffK K' b c) (hK : K' = K ∨ a.heap.size ≤ K') : OffK K a c :=
  ⟨k.os.trans h.os, k.tape.trans h.tape, k.output.trans h.output, Nat.le_trans h.size k.size, fun i hi hT => (k.block i (Nat.lt_of_lt_of_le hi h.size) (fun e => by
    injection e with e
    rcases hK with h | h
    · exact hT (by rw [e, h])
    · omega)).trans (h.block i hi hT)⟩
theorem OffK.below (h : OffK K a b) (hb : Below b.heap.size b c) : OffK K a c :=
  ⟨hb.os.trans h.os, hb.tape.trans h.tape, hb.output.trans h.output, Nat.le_trans h.size hb.size, fun i hi hT => (hb.block i (Nat.lt_of_lt_of_le hi h.size)).trans (h.block i hi hT)⟩
theorem OffK.below_at (h : OffK K a b) {B : Nat} (hb : Below B b c) (hB : a.heap.size ≤ B) : OffK K a c :=
  ⟨hb.os.trans h.os, hb.tape.trans h.tape, hb.output.trans h.output, Nat.le_trans h.size hb.size, fun i hi hT => (hb.block i (by omega)).trans (h.block i hi hT)⟩
theorem OffK.of_below {B : Nat} (hb : Below B a b) (hB : a.heap.size ≤ B) : OffK K a b := (OffK.refl K a).below_at hb hB
theorem OffK.alloc (h : OffK K a b) (o : Obj) : OffK K a (b.alloc o) := h.below ((Below.refl _ _).alloc (Nat.le_refl _) _)
theorem OffK.drew (h : OffK K a b) : OffK K a b.drew := h.below (Below.refl _ _).drew
theorem OffK.setCell (h : OffK K a b) {p : Addr} (hp : p.block = K ∨ a.heap.size ≤ p.block) (v : Value) : OffK K a (b.setCell p v) :=
  ⟨h.os, h.tape, h.output, by simpa using h.size, fun i hi hT => by
    rw [Below.heap_setCell _ _ _ _ (by
      rintro rfl
      rcases hp with h | h
      · exact hT (by rw [h])
      · omega)]
    exact h.block i hi hT⟩
theorem OffK.low (h : OffK K a b) {B : Nat} (hB : B ≤ a.heap.size) (hK : B ≤ K) : Below B a b :=
  ⟨h.os, h.tape, h.output, h.size, fun i hi => h.block i (by omega) (fun e => by injection e with e; omega)⟩
theorem OffK.cell (h : OffK K a b) {p : Addr} (hp : p.block < a.heap.size) (hT : p.block ≠ K) : b.cell? p = a.cell? p := World.cell?_of_block (h.block _ hp (fun e => hT (by injection e)))
theorem OffK.frozen (h : OffK K a b) {p : Addr} (hp : p.block < a.heap.size) (hT : p.block ≠ K) : b.frozen? p = a.frozen? p := World.frozen?_of_block (h.block _ hp (fun e => hT (by injection e)))
end

/-- The bytes of a code, ahead of block K; three cells lie in that block. -/
def CodeIn (w : World) (K : Nat) (A : Option Addr) (code : List UInt8) : Prop :=
  BytesIn w 0 K A code ∧ ∀ o, 3 ≤ o → w.cell? ⟨K, o, none⟩ = none
theorem CodeIn.keep {w w' : World} {K : Nat} {A : Option Addr} {code : List UInt8} (h : CodeIn w K A code) (hk : ∀ p : Addr, p.block ≤ K → w'.cell? p = w.cell? p) : CodeIn w' K A code :=
  ⟨h.1.keep fun p _ hp => hk p (by omega), fun o ho => (hk ⟨K, o, none⟩ (Nat.le_refl _)).trans (h.2 o ho)⟩
theorem CodeIn.set {w : World} {K : Nat} {A : Option Addr} {code : List UInt8} (h : CodeIn w K A code) {j : Nat} (hj : j < 3) (v : Value) : CodeIn (w.setCell ⟨K, j, none⟩ v) K A code :=
  ⟨h.1.keep fun p _ hp => World.cell?_setCell_other _ _ _ _ (by rintro rfl; simp at hp), fun o ho => (World.cell?_setCell_other _ _ _ _ (fun e => by injection e with _ e _; omega)).trans (h.2 o ho)⟩

/-- A cursor in block K over the bytes of a code. -/
def Cur (w : World) (K : Nat) (code : List UInt8) : Prop :=
  ∃ (A : Option Addr) (c i : Nat) (h : Int), (i ≤ code.length ∧ code.length ≤ 9223372036854775807) ∧ w.cell? ⟨K, 0, none⟩ = some (.slice A code.length c) ∧ w.cell? ⟨K, 1, none⟩ = some (.int .i64 i) ∧ w.cell? ⟨K, 2, none⟩ = some (.int .i64 h) ∧
    w.frozen? ⟨K, 1, none⟩ = false ∧ w.frozen? ⟨K, 2, none⟩ = false ∧ CodeIn w K A code

theorem Cur.lt {w : World} {K : Nat} {code : List UInt8} (h : Cur w K code) : K < w.heap.size := by
  obtain ⟨A, c, i, x, _, h0, _⟩ := h
  exact World.block_lt_of_cell? w _ h0
theorem Cur.below {w w' : World} {K : Nat} {code : List UInt8} (h : Cur w K code) {B : Nat} (hb : Below B w w') (hK : K < B) : Cur w' K code := by
  obtain ⟨A, c, i, x, h1, h2, h3, h4, h5, h6, h7⟩ := h
  exact ⟨A, c, i, x, h1, (hb.cell (p := ⟨K, 0, none⟩) hK).trans h2, (hb.cell (p := ⟨K, 1, none⟩) hK).trans h3, (hb.cell (p := ⟨K, 2, none⟩) hK).trans h4, (hb.frozen (p := ⟨K, 1, none⟩) hK).trans h5, (hb.frozen (p := ⟨K, 2, none⟩) hK).trans h6, h7.keep fun p hp => hb.cell (by omega)⟩

/-- A number is drawn. -/
def Drawn (K : Nat) (code : List UInt8) (R : Int → Prop) (w : World) (e : Ending) (w' : World) : Prop :=
  ∃ x, e = .returned (.int .i64 x) ∧ R x ∧ Cur w' K code ∧ OffK K w w'

theorem and_low (x : Int) : 0 ≤ bits .and .i64 x 255 ∧ bits .and .i64 x 255 ≤ 255 := by
  have h : (BitVec.ofInt 64 x &&& BitVec.ofInt 64 255).toNat ≤ 255 := by
    rw [BitVec.toNat_and]
    exact Nat.and_le_right
  show 0 ≤ IntKind.i64.wrap ((BitVec.ofInt 64 x &&& BitVec.ofInt 64 255).toNat : Int) ∧ IntKind.i64.wrap ((BitVec.ofInt 64 x &&& BitVec.ofInt 64 255).toNat : Int) ≤ 255
  obtain ⟨n, hn⟩ : ∃ n, n = (BitVec.ofInt 64 x &&& BitVec.ofInt 64 255).toNat := ⟨_, rfl⟩
  rw [← hn] at h ⊢
  rw [IntKind.wrap_i64]
  omega

set_option maxRecDepth 100000 in
set_option maxHeartbeats 1000000 in
theorem l1New_any (A : Option Addr) (c : Nat) (code : List UInt8) (w : World) (hA : BytesIn w 0 w.heap.size A code) (hn : code.length ≤ 9223372036854775807) :
    Calls Tryz.prog 31 #[.slice A code.length c] w fun e w' => e = .returned (.pointer (some ⟨w.heap.size, 0, none⟩)) ∧ Cur w' w.heap.size code ∧ Below w.heap.size w w' := by
  have HA := Lib.hid hA
  clear hA
  go_enter Tryz.func31, Tryz.ntmps31
  go_wp2_with fail
  go_loopw [3, 4] (fun h i wr => wr = w ∧ ∃ (k : Nat) (x : Int), k ≤ code.length ∧ i = .int .i64 k ∧ h = .int .i64 x) (fun _ i _ => code.length - (intOf i).toNat)
  case atStart => exact ⟨rfl, 0, _, Nat.zero_le _, rfl, rfl⟩
  case round =>
    obtain ⟨rfl, k, x, hk, rfl, rfl⟩ := hrel
    have hfin : ∀ W : World, W = wr.alloc (.cells #[.slice A code.length c, .int .i64 0, .int .i64 x] 99) → Cur W wr.heap.size code ∧ Below wr.heap.size wr W := by
      rintro W rfl
      have hb : Below wr.heap.size wr (wr.alloc (.cells #[.slice A code.length c, .int .i64 0, .int .i64 x] 99)) := (Below.refl _ _).alloc (Nat.le_refl _) _
      exact ⟨⟨A, c, 0, x, ⟨Nat.zero_le _, hn⟩, by simp, by simp, by simp, by simp, by simp, HA.out.keep fun p _ hp => hb.cell hp, fun o ho => by
        have hh := heap_alloc_new wr (.cells #[.slice A code.length c, .int .i64 0, .int .i64 x] 99)
        simp only [World.cell?, hh]
        simp
        omega⟩, hb⟩
    have HFin := Lib.hid hfin
    clear hfin
    by_cases hlt : k < code.length
    · by_cases h4 : k < 4000
      · obtain ⟨b, o, rfl, _, hb, hc⟩ := HA.out (by omega)
        have hc0 := hc k hlt
        clear hc
        go_wp2_with fail
        go_roundw
        case rel => exact ⟨by first | rfl | trivial, k + 1, _, by omega, by go_num, rfl⟩
        case measure => simp [intOf]; omega
      · go_wp2_with fail
        go_ret
        exact ⟨rfl, HFin.out _ rfl⟩
    · go_wp2_with fail
      go_ret
      exact ⟨rfl, HFin.out _ rfl⟩

set_option maxRecDepth 100000 in
set_option maxHeartbeats 1000000 in
theorem l1Byte_any (K : Nat) (code : List UInt8) (w : World) (hC : Cur w K code) :
    Calls Tryz.prog 62 #[.pointer (some ⟨K, 0, none⟩)] w (Drawn K code (fun x => 0 ≤ x ∧ x ≤ 255) w) := by
  obtain ⟨A, c, i, h, ⟨hi, hlen⟩, h0, h1, h2, f1, f2, hby⟩ := hC
  have HB := Lib.hid hby
  have hK := World.block_lt_of_cell? w _ h0
  clear hby
  go_enter Tryz.func62, Tryz.ntmps62
  go_wp2_with fail
  go_quiet (fail)
  obtain ⟨H, hH⟩ : ∃ x, x = wrap64 (wrap64 (h * 6364136223846793005) + 1442695040888963407) := ⟨_, rfl⟩
  rw [← hH]
  obtain ⟨x, hx⟩ : ∃ x, x = bits .and .i64 (bits .xor .i64 (H / 8589934592) (H / 35184372088832)) 255 := ⟨_, rfl⟩
  rw [← hx]
  have hx0 : 0 ≤ x ∧ x ≤ 255 := by rw [hx]; exact and_low _
  have HX0 := Lib.hid hx0
  obtain ⟨W, hW⟩ : ∃ W, W = (w.setCell ⟨K, 2, none⟩ (.int .i64 H)).drewN nq := ⟨_, rfl⟩
  have k0 : W.cell? ⟨K, 0, none⟩ = some (.slice A code.length c) := by rw [hW]; exact (World.cell?_setCell_other _ _ _ _ (by simp)).trans h0
  have k1 : W.cell? ⟨K, 1, none⟩ = some (.int .i64 i) := by rw [hW]; exact (World.cell?_setCell_other _ _ _ _ (by simp)).trans h1
  have k2 : W.cell? ⟨K, 2, none⟩ = some (.int .i64 H) := by rw [hW]; exact World.cell?_setCell_same _ _ _ (by rw [h2])
  have g1 : W.frozen? ⟨K, 1, none⟩ = false := by rw [hW]; exact (World.frozen?_setCell _ _ _ _).trans f1
  have g2 : W.frozen? ⟨K, 2, none⟩ = false := by rw [hW]; exact (World.frozen?_setCell _ _ _ _).trans f2
  have HF := Lib.hid (show OffK K w W by rw [hW]; exact ((OffK.refl K w).setCell (.inl rfl) _).below (below_drewN (Below.refl _ _) nq))
  have HB2 := Lib.hid (show CodeIn W K A code by rw [hW]; exact HB.out.set (j := 2) (by omega) _)
  have hKW : K < W.heap.size := by have := HF.out.size; omega
  rw [← hW]
  clear hW hx hH h0 h1 h2 f1 f2 hx0 HB
  go_wp2_with fail
  go_quiet (fail)
  obtain ⟨W1, hW1⟩ : ∃ y, y = W.drewN nq := ⟨_, rfl⟩
  rw [← hW1]
  have m0 : W1.cell? ⟨K, 0, none⟩ = some (.slice A code.length c) := by rw [hW1]; exact k0
  have m1 : W1.cell? ⟨K, 1, none⟩ = some (.int .i64 i) := by rw [hW1]; exact k1
  have m2 : W1.cell? ⟨K, 2, none⟩ = some (.int .i64 H) := by rw [hW1]; exact k2
  have p1 : W1.frozen? ⟨K, 1, none⟩ = false := by rw [hW1]; exact g1
  have p2 : W1.frozen? ⟨K, 2, none⟩ = false := by rw [hW1]; exact g2
  have HF1 := Lib.hid (show OffK K w W1 by rw [hW1]; exact HF.out.below (below_drewN (Below.refl _ _) nq))
  have HB3 := Lib.hid (show CodeIn W1 K A code by rw [hW1]; exact HB2.out)
  have hKW1 : K < W1.heap.size := by rw [hW1]; exact hKW
  clear hW1 k0 k1 k2 g1 g2 HF HB2 hKW
  by_cases hlt : i < code.length
  · have HB3' := HB3
    obtain ⟨b, o, rfl, _, hb, hc⟩ := HB3'.out.1 (by omega)
    have hc0 := hc i hlt
    clear hc HB3'
    go_wp2_with fail
    go_quiet (fail)
    obtain ⟨y, hy⟩ : ∃ y, y = bits .and .i64 (wrap64 (x + wrap64 (code[i].toNat : Int))) 255 := ⟨_, rfl⟩
    rw [← hy]
    have HY := Lib.hid (show 0 ≤ y ∧ y ≤ 255 by rw [hy]; exact and_low _)
    obtain ⟨W3, hW3⟩ : ∃ y, y = W1.drewN nq := ⟨_, rfl⟩
    rw [← hW3]
    have q0 : W3.cell? ⟨K, 0, none⟩ = some (.slice (some ⟨b, o, none⟩) code.length c) := by rw [hW3]; exact m0
    have q1 : W3.cell? ⟨K, 1, none⟩ = some (.int .i64 i) := by rw [hW3]; exact m1
    have q2 : W3.cell? ⟨K, 2, none⟩ = some (.int .i64 H) := by rw [hW3]; exact m2
    have r1 : W3.frozen? ⟨K, 1, none⟩ = false := by rw [hW3]; exact p1
    have r2 : W3.frozen? ⟨K, 2, none⟩ = false := by rw [hW3]; exact p2
    have HF3 := Lib.hid (show OffK K w W3 by rw [hW3]; exact HF1.out.below (below_drewN (Below.refl _ _) nq))
    have HB4 := Lib.hid (show CodeIn W3 K (some ⟨b, o, none⟩) code by rw [hW3]; exact HB3.out)
    clear hW3 hy m0 m1 m2 p1 p2 HF1 HB3 hc0
    go_wp2_with fail
    go_ret
    refine ⟨y, rfl, HY.out, ⟨_, c, i + 1, H, ⟨by omega, hlen⟩, (World.cell?_setCell_other _ _ _ _ (by simp)).trans q0, by rw [World.cell?_setCell_same _ _ _ (by rw [q1])]; go_num, (World.cell?_setCell_other _ _ _ _ (by simp)).trans q2, (World.frozen?_setCell _ _ _ _).trans r1, (World.frozen?_setCell _ _ _ _).trans r2, ?_⟩, HF3.out.setCell (.inl rfl) _⟩
    exact HB4.out.set (by omega) _
  · go_wp2_with fail
    go_ret
    refine ⟨x, rfl, HX0.out, ⟨A, c, i, H, ⟨hi, hlen⟩, m0, m1, m2, p1, p2, HB3.out⟩, HF1.out⟩

set_option maxRecDepth 100000 in
set_option maxHeartbeats 1000000 in
theorem l1Below_any (K : Nat) (code : List UInt8) (n : Int) (w : World) (hC : Cur w K code) :
    Calls Tryz.prog 33 #[.pointer (some ⟨K, 0, none⟩), .int .i64 n] w (Drawn K code (fun x => 0 ≤ x ∧ (0 < n → x < n) ∧ (n ≤ 0 → x = 0)) w) := by
  have HC := Lib.hid hC
  clear hC
  go_enter Tryz.func33, Tryz.ntmps33
  by_cases h0 : n ≤ 0
  · go_wp2_with fail
    go_ret
    exact ⟨0, rfl, ⟨by omega, fun h => by omega, fun _ => rfl⟩, HC.out, OffK.refl _ _⟩
  · by_cases h1 : n ≤ 256
    · go_wp2_with fail
      refine (l1Byte_any K code _ HC.out).mono ?_
      rintro e w1 ⟨x, rfl, hx, hc1, ho1⟩
      have HC1 := Lib.hid hc1
      have HO1 := Lib.hid ho1
      clear hc1 ho1
      go_wp2_with fail
      go_ret
      refine ⟨x % n, rfl, ⟨Int.emod_nonneg _ (by omega), fun h => Int.emod_lt_of_pos _ h, fun h => by omega⟩, HC1.out, HO1.out⟩
    · go_wp2_with fail
      refine (l1Byte_any K code _ HC.out).mono ?_
      rintro e w1 ⟨x, rfl, hx, hc1, ho1⟩
      have HC1 := Lib.hid hc1
      have HO1 := Lib.hid ho1
      clear hc1 ho1
      go_wp2_with fail
      refine (l1Byte_any K code _ HC1.out).mono ?_
      rintro e w2 ⟨y, rfl, hy, hc2, ho2⟩
      have HC2 := Lib.hid hc2
      have HO2 := Lib.hid (HO1.out.trans ho2 (.inl rfl))
      clear hc2 ho2
      go_wp2_with fail
      refine (l1Byte_any K code _ HC2.out).mono ?_
      rintro e w3 ⟨z, rfl, hz, hc3, ho3⟩
      have HC3 := Lib.hid hc3
      have HO3 := Lib.hid (HO2.out.trans ho3 (.inl rfl))
      clear hc3 ho3
      go_wp2_with fail
      refine (l1Byte_any K code _ HC3.out).mono ?_
      rintro e w4 ⟨u, rfl, hu, hc4, ho4⟩
      have HC4 := Lib.hid hc4
      have HO4 := Lib.hid (HO3.out.trans ho4 (.inl rfl))
      clear hc4 ho4
      go_wp2_with fail
      go_ret
      refine ⟨(x * 16777216 + y * 65536 + z * 256 + u) % n, rfl, ⟨Int.emod_nonneg _ (by omega), fun h => Int.emod_lt_of_pos _ h, fun h => by omega⟩, HC4.out, HO4.out⟩

set_option maxRecDepth 100000 in
set_option maxHeartbeats 1000000 in
theorem l1Once_any (K : Nat) (code : List UInt8) (n : Int) (w : World) (hC : Cur w K code) :
    Calls Tryz.prog 48 #[.pointer (some ⟨K, 0, none⟩), .int .i64 n] w fun e w' => ∃ b, e = .returned (.bool b) ∧ Cur w' K code ∧ OffK K w w' := by
  have HC := Lib.hid hC
  clear hC
  go_enter Tryz.func48, Tryz.ntmps48
  go_wp2_with fail
  refine (l1Below_any K code n _ HC.out).mono ?_
  rintro e w1 ⟨x, rfl, hx, hc1, ho1⟩
  have HC1 := Lib.hid hc1
  have HO1 := Lib.hid ho1
  clear hc1 ho1
  go_wp2_with fail
  go_ret
  exact ⟨_, rfl, HC1.out, HO1.out⟩

set_option maxRecDepth 100000 in
set_option maxHeartbeats 1000000 in
theorem l1PickInt_any (K : Nat) (code : List UInt8) (A : Option Addr) (c : Nat) (l : List Int) (w : World) (hC : Cur w K code) (hA : IntsIn w (K + 1) w.heap.size A l) (hpos : 0 < l.length) (hn : l.length ≤ 1048576) :
    Calls Tryz.prog 35 #[.pointer (some ⟨K, 0, none⟩), .slice A l.length c] w (Drawn K code (fun x => x ∈ l) w) := by
  have HC := Lib.hid hC
  have HA := Lib.hid hA
  clear hC hA
  go_enter Tryz.func35, Tryz.ntmps35
  go_wp2_with fail
  refine (l1Below_any K code l.length _ HC.out).mono ?_
  rintro e w1 ⟨x, rfl, hx, hc1, ho1⟩
  obtain ⟨k, rfl⟩ := Int.eq_ofNat_of_zero_le hx.1
  have hk : k < l.length := by have := hx.2.1 (by omega); omega
  have HC1 := Lib.hid hc1
  have HO1 := Lib.hid ho1
  obtain ⟨b, o, rfl, hb, hb2, hc⟩ := HA.out hpos
  have k0 := (ho1.cell (p := ⟨b, o + k, none⟩) (by show b < _; omega) (by show b ≠ K; omega)).trans (hc k hk)
  clear hc1 ho1 hc hx
  go_wp2_with fail
  go_ret
  exact ⟨_, rfl, List.getElem_mem hk, HC1.out, HO1.out⟩

end Go.Proofs.YtepkicgnhjaokaaGreatDoor

namespace Go.Proofs.YtepkicgnhjaokaaGreatDoor
open Go.RowKit Go.Maps

theorem Cur.set {w : World} {K : Nat} {code : List UInt8} (h : Cur w K code) {p : Addr} (hp : K < p.block) (v : Value) : Cur (w.setCell p v) K code := by
  obtain ⟨A, c, i, x, h1, h2, h3, h4, h5, h6, h7⟩ := h
  have hne : ∀ j, p ≠ (⟨K, j, none⟩ : Addr) := fun j e => by rw [e] at hp; exact Nat.lt_irrefl _ hp
  exact ⟨A, c, i, x, h1, (World.cell?_setCell_other _ _ _ _ (hne 0)).trans h2, (World.cell?_setCell_other _ _ _ _ (hne 1)).trans h3, (World.cell?_setCell_other _ _ _ _ (hne 2)).trans h4, (World.frozen?_setCell _ _ _ _).trans h5, (World.frozen?_setCell _ _ _ _).trans h6,
    h7.keep fun q hq => World.cell?_setCell_other _ _ _ _ (fun e => by rw [e] at hp; omega)⟩

/-- A variable of four cells. -/
structure Bq (W : World) (g : Nat) (v0 v1 v2 v3 : Value) : Prop where
  c0 : W.cell? ⟨g, 0, none⟩ = some v0
  c1 : W.cell? ⟨g, 1, none⟩ = some v1
  c2 : W.cell? ⟨g, 2, none⟩ = some v2
  c3 : W.cell? ⟨g, 3, none⟩ = some v3
  f0 : W.frozen? ⟨g, 0, none⟩ = false
  f1 : W.frozen? ⟨g, 1, none⟩ = false
  f2 : W.frozen? ⟨g, 2, none⟩ = false
  f3 : W.frozen? ⟨g, 3, none⟩ = false

section
variable {W W' : World} {g K B : Nat} {v0 v1 v2 v3 : Value}
theorem Bq.lt (h : Bq W g v0 v1 v2 v3) : g < W.heap.size := World.block_lt_of_cell? W _ h.c0
theorem Bq.off (h : Bq W g v0 v1 v2 v3) (ho : OffK K W W') (hne : g ≠ K) : Bq W' g v0 v1 v2 v3 :=
  ⟨(ho.cell (p := ⟨g, 0, none⟩) h.lt hne).trans h.c0, (ho.cell (p := ⟨g, 1, none⟩) h.lt hne).trans h.c1, (ho.cell (p := ⟨g, 2, none⟩) h.lt hne).trans h.c2, (ho.cell (p := ⟨g, 3, none⟩) h.lt hne).trans h.c3,
   (ho.frozen (p := ⟨g, 0, none⟩) h.lt hne).trans h.f0, (ho.frozen (p := ⟨g, 1, none⟩) h.lt hne).trans h.f1, (ho.frozen (p := ⟨g, 2, none⟩) h.lt hne).trans h.f2, (ho.frozen (p := ⟨g, 3, none⟩) h.lt hne).trans h.f3⟩
theorem Bq.below (h : Bq W g v0 v1 v2 v3) (hb : Below B W W') (hB : W.heap.size ≤ B) : Bq W' g v0 v1 v2 v3 :=
  have hlt := h.lt
  ⟨(hb.cell (p := ⟨g, 0, none⟩) (by show g < B; omega)).trans h.c0, (hb.cell (p := ⟨g, 1, none⟩) (by show g < B; omega)).trans h.c1, (hb.cell (p := ⟨g, 2, none⟩) (by show g < B; omega)).trans h.c2, (hb.cell (p := ⟨g, 3, none⟩) (by show g < B; omega)).trans h.c3,
   (hb.frozen (p := ⟨g, 0, none⟩) (by show g < B; omega)).trans h.f0, (hb.frozen (p := ⟨g, 1, none⟩) (by show g < B; omega)).trans h.f1, (hb.frozen (p := ⟨g, 2, none⟩) (by show g < B; omega)).trans h.f2, (hb.frozen (p := ⟨g, 3, none⟩) (by show g < B; omega)).trans h.f3⟩
theorem Bq.other (h : Bq W g v0 v1 v2 v3) {p : Addr} (hp : p.block ≠ g) (v : Value) : Bq (W.setCell p v) g v0 v1 v2 v3 := by
  have hne : ∀ j, p ≠ (⟨g, j, none⟩ : Addr) := fun j e => hp (by rw [e])
  exact ⟨(World.cell?_setCell_other _ _ _ _ (hne 0)).trans h.c0, (World.cell?_setCell_other _ _ _ _ (hne 1)).trans h.c1, (World.cell?_setCell_other _ _ _ _ (hne 2)).trans h.c2, (World.cell?_setCell_other _ _ _ _ (hne 3)).trans h.c3,
    (World.frozen?_setCell _ _ _ _).trans h.f0, (World.frozen?_setCell _ _ _ _).trans h.f1, (World.frozen?_setCell _ _ _ _).trans h.f2, (World.frozen?_setCell _ _ _ _).trans h.f3⟩
theorem Bq.set0 (h : Bq W g v0 v1 v2 v3) (u : Value) : Bq (W.setCell ⟨g, 0, none⟩ u) g u v1 v2 v3 :=
  ⟨World.cell?_setCell_same _ _ _ (by rw [h.c0]), (World.cell?_setCell_other _ _ _ _ (by simp)).trans h.c1, (World.cell?_setCell_other _ _ _ _ (by simp)).trans h.c2, (World.cell?_setCell_other _ _ _ _ (by simp)).trans h.c3, (World.frozen?_setCell _ _ _ _).trans h.f0, (World.frozen?_setCell _ _ _ _).trans h.f1, (World.frozen?_setCell _ _ _ _).trans h.f2, (World.frozen?_setCell _ _ _ _).trans h.f3⟩
theorem Bq.set1 (h : Bq W g v0 v1 v2 v3) (u : Value) : Bq (W.setCell ⟨g, 1, none⟩ u) g v0 u v2 v3 :=
  ⟨(World.cell?_setCell_other _ _ _ _ (by simp)).trans h.c0, World.cell?_setCell_same _ _ _ (by rw [h.c1]), (World.cell?_setCell_other _ _ _ _ (by simp)).trans h.c2, (World.cell?_setCell_other _ _ _ _ (by simp)).trans h.c3, (World.frozen?_setCell _ _ _ _).trans h.f0, (World.frozen?_setCell _ _ _ _).trans h.f1, (World.frozen?_setCell _ _ _ _).trans h.f2, (World.frozen?_setCell _ _ _ _).trans h.f3⟩
theorem Bq.set2 (h : Bq W g v0 v1 v2 v3) (u : Value) : Bq (W.setCell ⟨g, 2, none⟩ u) g v0 v1 u v3 :=
  ⟨(World.cell?_setCell_other _ _ _ _ (by simp)).trans h.c0, (World.cell?_setCell_other _ _ _ _ (by simp)).trans h.c1, World.cell?_setCell_same _ _ _ (by rw [h.c2]), (World.cell?_setCell_other _ _ _ _ (by simp)).trans h.c3, (World.frozen?_setCell _ _ _ _).trans h.f0, (World.frozen?_setCell _ _ _ _).trans h.f1, (World.frozen?_setCell _ _ _ _).trans h.f2, (World.frozen?_setCell _ _ _ _).trans h.f3⟩
theorem Bq.set3 (h : Bq W g v0 v1 v2 v3) (u : Value) : Bq (W.setCell ⟨g, 3, none⟩ u) g v0 v1 v2 u :=
  ⟨(World.cell?_setCell_other _ _ _ _ (by simp)).trans h.c0, (World.cell?_setCell_other _ _ _ _ (by simp)).trans h.c1, (World.cell?_setCell_other _ _ _ _ (by simp)).trans h.c2, World.cell?_setCell_same _ _ _ (by rw [h.c3]), (World.frozen?_setCell _ _ _ _).trans h.f0, (World.frozen?_setCell _ _ _ _).trans h.f1, (World.frozen?_setCell _ _ _ _).trans h.f2, (World.frozen?_setCell _ _ _ _).trans h.f3⟩
theorem Bq.new (w : World) (v0 v1 v2 v3 : Value) (t : TypeId) : Bq (w.alloc (.cells #[v0, v1, v2, v3] t)) w.heap.size v0 v1 v2 v3 :=
  ⟨by simp, by simp, by simp, by simp, by simp, by simp, by simp, by simp⟩
end

/-- A term as it is drawn. -/
structure SomeT (n : Nat) (t : Tm) : Prop where
  text : t.text.length ≤ 2
  kind : 0 ≤ t.kind ∧ t.kind < 7
  a : 0 ≤ t.a ∧ (t.a < 4 ∨ t.a < n)
  b : 0 ≤ t.b ∧ (t.b = 0 ∨ t.b < n)
  low : t.kind ≤ 1 → t.a < 4

/-- A term is drawn. -/
def NewSome (K : Nat) (code : List UInt8) (n : Nat) (w : World) (e : Ending) (w' : World) : Prop :=
  ∃ (t : Tm) (A : Option Addr) (c : Nat), e = .returned (.agg #[.int .i64 t.kind, .int .i64 t.a, .int .i64 t.b, .slice A t.text.length c]) ∧ SomeT n t ∧ BytesIn w' w.heap.size w'.heap.size A t.text ∧ (t.text.length ≤ c ∧ c ≤ maxLen) ∧ Cur w' K code ∧ OffK K w w'

theorem some_fin {K n : Nat} {code : List UInt8} {w W : World} (t : Tm) (A : Option Addr) (c : Nat) {u0 u1 u2 u3 : Value} (hC : Cur W K code) (hO : OffK K w W) (hK : K < w.heap.size) (hS : SomeT n t) (hB : BytesIn W (w.heap.size + 2) W.heap.size A t.text) (hc : t.text.length ≤ c ∧ c ≤ maxLen) :
    NewSome K code n w (.returned (.agg #[.int .i64 t.kind, .int .i64 t.a, .int .i64 t.b, .slice A t.text.length c])) ((((W.setCell ⟨w.heap.size + 1, 0, none⟩ u0).setCell ⟨w.heap.size + 1, 1, none⟩ u1).setCell ⟨w.heap.size + 1, 2, none⟩ u2).setCell ⟨w.heap.size + 1, 3, none⟩ u3) := by
  have hne : ∀ (p : Addr) j, w.heap.size + 2 ≤ p.block → (⟨w.heap.size + 1, j, none⟩ : Addr) ≠ p := fun p j h e => by
    rw [← e] at h
    simp at h
  refine ⟨t, A, c, rfl, hS, ?_, hc, (((hC.set (by show K < w.heap.size + 1; omega) _).set (by show K < w.heap.size + 1; omega) _).set (by show K < w.heap.size + 1; omega) _).set (by show K < w.heap.size + 1; omega) _, (((hO.setCell (.inr (by show w.heap.size ≤ w.heap.size + 1; omega)) _).setCell (.inr (by show w.heap.size ≤ w.heap.size + 1; omega)) _).setCell (.inr (by show w.heap.size ≤ w.heap.size + 1; omega)) _).setCell (.inr (by show w.heap.size ≤ w.heap.size + 1; omega)) _⟩
  refine BytesIn.mono (BytesIn.low (hB.keep fun p hp _ => ?_) (by omega)) (by simp)
  rw [World.cell?_setCell_other _ _ _ _ (hne p 3 hp), World.cell?_setCell_other _ _ _ _ (hne p 2 hp), World.cell?_setCell_other _ _ _ _ (hne p 1 hp), World.cell?_setCell_other _ _ _ _ (hne p 0 hp)]

theorem conv_drawn (w : World) (e : TypeId) (s : ByteArray) (l : List UInt8) (hs : s.data.toList = l) (L : Nat) (hL : L ≤ w.heap.size) : BytesIn (Lib.bytesWorld w e s) L (Lib.bytesWorld w e s).heap.size (some ⟨w.heap.size, 0, none⟩) l := fun hl => by
  refine ⟨w.heap.size, 0, rfl, hL, by rw [Lib.bytesWorld_size]; omega, fun j hj => ?_⟩
  have hsz : s.size = l.length := by rw [← hs]; rfl
  rw [Nat.zero_add, Lib.bytesWorld_cell w e s j (by omega), hs]
  simp [hj]
theorem conv_below (w : World) (e : TypeId) (s : ByteArray) : Below w.heap.size w (Lib.bytesWorld w e s) :=
  ⟨rfl, rfl, rfl, by rw [Lib.bytesWorld_size]; omega, fun j hj => Lib.bytesWorld_at_old w e s j hj⟩

end Go.Proofs.YtepkicgnhjaokaaGreatDoor

namespace Go.Proofs.YtepkicgnhjaokaaGreatDoor
open Go.RowKit Go.Maps

def VecD (K : Nat) (code : List UInt8) (w : World) (e : Ending) (w' : World) : Prop :=
  ∃ A l c, e = .returned (.slice A l.length c) ∧ l.length ≤ 4 ∧ IntsIn w' w.heap.size w'.heap.size A l ∧ Cur w' K code ∧ OffK K w w'

theorem Bq.ints {W : World} {g B : Nat} {a b c d : Int} (h : Bq W g (.int .i64 a) (.int .i64 b) (.int .i64 c) (.int .i64 d)) (hB : B ≤ g) : IntsIn W B W.heap.size (some ⟨g, 0, none⟩) [a, b, c, d] := fun _ =>
  ⟨g, 0, rfl, hB, h.lt, fun j hj => by
    have : j = 0 ∨ j = 1 ∨ j = 2 ∨ j = 3 := by simp at hj; omega
    rcases this with rfl | rfl | rfl | rfl
    · exact h.c0
    · exact h.c1
    · exact h.c2
    · exact h.c3⟩
theorem Bq.tail {W : World} {g B : Nat} {a b c d : Int} (h : Bq W g (.int .i64 a) (.int .i64 b) (.int .i64 c) (.int .i64 d)) (hB : B ≤ g) : IntsIn W B W.heap.size (some ⟨g, 1, none⟩) [b, c, d] := fun _ =>
  ⟨g, 1, rfl, hB, h.lt, fun j hj => by
    have : j = 0 ∨ j = 1 ∨ j = 2 := by simp at hj; omega
    rcases this with rfl | rfl | rfl
    · exact h.c1
    · exact h.c2
    · exact h.c3⟩

end Go.Proofs.YtepkicgnhjaokaaGreatDoor

namespace Go.Proofs.YtepkicgnhjaokaaGreatDoor
open Go.RowKit Go.Maps

theorem ints_ne {l m : List Int} {k : Nat} (hk : k < l.length) (hk2 : k < m.length) (h : l[k] ≠ m[k]) : l ≠ m := fun e => by
  subst e
  exact h rfl
theorem take_step {l m : List Int} {k : Nat} (hk : k < l.length) (hk2 : k < m.length) (h : l.take k = m.take k) (he : l[k] = m[k]) : l.take (k + 1) = m.take (k + 1) := by
  rw [List.take_add_one, List.take_add_one, h, List.getElem?_eq_getElem hk, List.getElem?_eq_getElem hk2, he]

set_option maxRecDepth 100000 in
set_option maxHeartbeats 1000000 in
/-- Are two lists of one length the same? -/
theorem sameI_eq (A B : Option Addr) (l m : List Int) (n c c' : Nat) (w : World) (hA : IntsIn w 0 w.heap.size A l) (hB : IntsIn w 0 w.heap.size B m) (hl : l.length = n) (hm : m.length = n) (hn : n ≤ 1048576) :
    Calls Tryz.prog 15 #[.slice A n c, .slice B n c'] w fun e w' => e = .returned (.bool (decide (l = m))) ∧ Below w.heap.size w w' := by
  have HA := Lib.hid hA
  have HB := Lib.hid hB
  have HL := Lib.hid hl
  have HM := Lib.hid hm
  clear hA hB hl hm
  go_enter Tryz.func15, Tryz.ntmps15
  go_wp2_with fail
  go_loopw [5] (fun i wr => ∃ k : Nat, k ≤ n ∧ i = .int .i64 k ∧ Below w.heap.size w wr ∧ l.take k = m.take k) (fun i _ => n - (intOf i).toNat)
  case atStart => exact ⟨0, Nat.zero_le _, rfl, Below.refl _ _, by simp⟩
  case round =>
    obtain ⟨k, hk, rfl, hbr, htk⟩ := hrel
    have HBr := Lib.hid hbr
    have HTk := Lib.hid htk
    clear hbr htk
    by_cases hlt : k < n
    · obtain ⟨b, o, rfl, _, hb, hc⟩ := HA.out (by rw [HL.out]; omega)
      obtain ⟨b2, o2, rfl, _, hb2, hc2⟩ := HB.out (by rw [HM.out]; omega)
      obtain ⟨x, y, hc0, hd0, HNe, HSt⟩ : ∃ x y, wr.cell? ⟨b, o + k, none⟩ = some (.int .i64 x) ∧ wr.cell? ⟨b2, o2 + k, none⟩ = some (.int .i64 y) ∧ Hid (x ≠ y → l ≠ m) ∧ Hid (x = y → l.take (k + 1) = m.take (k + 1)) := by
        have h1 : k < l.length := by rw [HL.out]; exact hlt
        have h2 : k < m.length := by rw [HM.out]; exact hlt
        exact ⟨l[k], m[k], (HBr.out.cell (p := ⟨b, o + k, none⟩) (by show b < _; omega)).trans (hc k h1), (HBr.out.cell (p := ⟨b2, o2 + k, none⟩) (by show b2 < _; omega)).trans (hc2 k h2), Lib.hid (ints_ne h1 h2), Lib.hid (take_step h1 h2 HTk.out)⟩
      clear hc hc2
      by_cases hxy : x = y
      · have HT2 := Lib.hid (HSt.out hxy)
        subst hxy
        clear HNe HSt
        go_wp2_with fail
        go_quiet (fail)
        have HB2 := Lib.hid (show Below w.heap.size w (wr.drewN nq) from below_drewN HBr.out nq)
        go_wp2_with fail
        go_roundw
        case rel => exact ⟨k + 1, by omega, by go_num, HB2.out, HT2.out⟩
        case measure => simp [intOf]; omega
      · have HN := Lib.hid (HNe.out hxy)
        clear HNe HSt
        go_wp2_with fail
        go_quiet (fail)
        have HB2 := Lib.hid (show Below w.heap.size w (wr.drewN nq) from below_drewN HBr.out nq)
        go_wp2_with fail
        go_ret
        exact ⟨by rw [decide_eq_false HN.out]; rfl, HB2.out⟩
    · have HE := Lib.hid (show l = m from by
        have he := HTk.out
        rwa [List.take_of_length_le (by rw [HL.out]; omega), List.take_of_length_le (by rw [HM.out]; omega)] at he)
      go_wp2_with fail
      go_ret
      exact ⟨by rw [decide_eq_true HE.out]; rfl, HBr.out⟩

set_option maxRecDepth 100000 in
set_option maxHeartbeats 1000000 in
/-- Are two lists the same? -/
theorem sameI_any (A B : Option Addr) (l m : List Int) (c c' : Nat) (w : World) (hA : IntsIn w 0 w.heap.size A l) (hB : IntsIn w 0 w.heap.size B m) (hn : l.length ≤ 1048576) (_hm : m.length ≤ 1048576) :
    Calls Tryz.prog 15 #[.slice A l.length c, .slice B m.length c'] w fun e w' => e = .returned (.bool (decide (l = m))) ∧ Below w.heap.size w w' := by
  by_cases hlen : l.length = m.length
  · have h := sameI_eq A B l m l.length c c' w hA hB rfl hlen.symm hn
    rw [← hlen]
    exact h
  · go_enter Tryz.func15, Tryz.ntmps15
    have hlen' : ¬ (l.length : Int) = m.length := by omega
    have HN := Lib.hid (show l ≠ m from fun e => hlen (by rw [e]))
    go_wp2_with fail
    go_ret
    exact ⟨by rw [decide_eq_false HN.out]; rfl, Below.refl _ _⟩


/-- Two vectors, drawn. -/
def NewVv (w : World) (e : Ending) (w' : World) : Prop :=
  ∃ A l c A2 m c2, e = .returned (.tuple #[.slice A l.length c, .slice A2 m.length c2]) ∧ l.length ≤ 4 ∧ m.length ≤ 4 ∧ IntsIn w' w.heap.size w'.heap.size A l ∧ IntsIn w' w.heap.size w'.heap.size A2 m ∧ Below w.heap.size w w'

theorem OffK.keeps {K : Nat} {w w' : World} (h : OffK K w w') {L : Nat} {A : Option Addr} {l : List Int} (hi : IntsIn w L w.heap.size A l) (hL : K < L) : IntsIn w' L w'.heap.size A l :=
  (hi.keep fun _ h1 h2 => h.cell h2 (by omega)).mono h.size

end Go.Proofs.YtepkicgnhjaokaaGreatDoor
