/-
  The draw's cursor: a number out of it, below a bound; only the cursor's own block turns.
-/
import Derived.Test.YtkmoihkpaccbdaaDoorStep
import Derived.Laws.BitsLemmas
import Derived.Deep.CutRange
import Derived.Deep.QuietTactic
namespace Go.Proofs.YtkmoihkpaccbdaaDoor
open Go.RowKit Go.Maps

/-- Only block K has turned, and what is new. -/
def OffK (K : Nat) (w w' : World) : Prop := w.grownBy w' (some K)

section
variable {K K' : Nat} {a b c : World}
theorem OffK.refl (K : Nat) (w : World) : OffK K w w := ⟨rfl, rfl, rfl, Nat.le_refl _, fun _ _ _ => rfl⟩
theorem OffK.trans (h : OffK K a b) (k : OffK K' b c) (hK : K' = K ∨ a.heap.size ≤ K') : OffK K a c :=
  ⟨k.os.trans h.os, k.tape.trans h.tape, k.output.trans h.output, Nat.le_trans h.size k.size, fun i hi hT => (k.block i (Nat.lt_of_lt_of_le hi h.size) (fun e => by
    injection e with e
    rcases hK with h | h
    · exact hT (by rw [e, h])
    · omega)).trans (h.block i hi hT)⟩
theorem OffK.below (h : OffK K a b) (hb : Below b.heap.size b c) : OffK K a c :=
  ⟨hb.os.trans h.os, hb.tape.trans h.tape, hb.output.trans h.output, Nat.le_trans h.size hb.size, fun i hi hT => (hb.block i (Nat.lt_of_lt_of_le hi h.size)).trans (h.block i hi hT)⟩
theorem OffK.below_at (h : OffK K a b) {B : Nat} (hb : Below B b c) (hB : a.heap.size ≤ B) : OffK K a c :=
  ⟨hb.os.trans h.os, hb.tape.trans h.tape, hb.output.trans h.output, Nat.le_trans h.size hb.size, fun i hi hT => (hb.block i (by omega)).trans (h.block i hi hT)⟩
theorem OffK.of_below {B : Nat} (hb : Below B a b) (hB : a.heap.size ≤ B) : OffK K a b := (OffK.refl K a).below_at hb hB
theorem OffK.alloc (h : OffK K a b) (o : Obj) : OffK K a (b.alloc o) := h.below ((Below.refl _ _).alloc (Nat.le_refl _) _)
theorem OffK.drew (h : OffK K a b) : OffK K a b.drew := h.below (Below.refl _ _).drew
theorem OffK.setCell (h : OffK K a b) {p : Addr} (hp : p.block = K ∨ a.heap.size ≤ p.block) (v : Value) : OffK K a (b.setCell p v) :=
  ⟨h.os, h.tape, h.output, by simpa using h.size, fun i hi hT => by
    rw [Below.heap_setCell _ _ _ _ (by
      rintro rfl
      rcases hp with h | h
      · exact hT (by rw [h])
      · omega)]
    exact h.block i hi hT⟩
theorem OffK.low (h : OffK K a b) {B : Nat} (hB : B ≤ a.heap.size) (hK : B ≤ K) : Below B a b :=
  ⟨h.os, h.tape, h.output, h.size, fun i hi => h.block i (by omega) (fun e => by injection e with e; omega)⟩
theorem OffK.cell (h : OffK K a b) {p : Addr} (hp : p.block < a.heap.size) (hT : p.block ≠ K) : b.cell? p = a.cell? p := World.cell?_of_block (h.block _ hp (fun e => hT (by injection e)))
theorem OffK.frozen (h : OffK K a b) {p : Addr} (hp : p.block < a.heap.size) (hT : p.block ≠ K) : b.frozen? p = a.frozen? p := World.frozen?_of_block (h.block _ hp (fun e => hT (by injection e)))
end

/-- A cursor in block K over the bytes of a code. -/
def Cur (w : World) (K : Nat) (code : List UInt8) : Prop :=
  ∃ (A : Option Addr) (c i : Nat) (h : Int), (i ≤ code.length ∧ code.length ≤ 9223372036854775807) ∧ w.cell? ⟨K, 0, none⟩ = some (.slice A code.length c) ∧ w.cell? ⟨K, 1, none⟩ = some (.int .i64 i) ∧ w.cell? ⟨K, 2, none⟩ = some (.int .i64 h) ∧
    w.frozen? ⟨K, 1, none⟩ = false ∧ w.frozen? ⟨K, 2, none⟩ = false ∧ BytesIn w 0 K A code

theorem Cur.lt {w : World} {K : Nat} {code : List UInt8} (h : Cur w K code) : K < w.heap.size := by
  obtain ⟨A, c, i, x, _, h0, _⟩ := h
  exact World.block_lt_of_cell? w _ h0
theorem Cur.below {w w' : World} {K : Nat} {code : List UInt8} (h : Cur w K code) {B : Nat} (hb : Below B w w') (hK : K < B) : Cur w' K code := by
  obtain ⟨A, c, i, x, h1, h2, h3, h4, h5, h6, h7⟩ := h
  exact ⟨A, c, i, x, h1, (hb.cell (p := ⟨K, 0, none⟩) hK).trans h2, (hb.cell (p := ⟨K, 1, none⟩) hK).trans h3, (hb.cell (p := ⟨K, 2, none⟩) hK).trans h4, (hb.frozen (p := ⟨K, 1, none⟩) hK).trans h5, (hb.frozen (p := ⟨K, 2, none⟩) hK).trans h6, h7.keep fun p _ hp => hb.cell (by omega)⟩

/-- A number is drawn. -/
def Drawn (K : Nat) (code : List UInt8) (R : Int → Prop) (w : World) (e : Ending) (w' : World) : Prop :=
  ∃ x, e = .returned (.int .i64 x) ∧ R x ∧ Cur w' K code ∧ OffK K w w'

theorem and_low (x : Int) : 0 ≤ bits .and .i64 x 255 ∧ bits .and .i64 x 255 ≤ 255 := by
  have h : (BitVec.ofInt 64 x &&& BitVec.ofInt 64 255).toNat ≤ 255 := by
    rw [BitVec.toNat_and]
    exact Nat.and_le_right
  show 0 ≤ IntKind.i64.wrap ((BitVec.ofInt 64 x &&& BitVec.ofInt 64 255).toNat : Int) ∧ IntKind.i64.wrap ((BitVec.ofInt 64 x &&& BitVec.ofInt 64 255).toNat : Int) ≤ 255
  obtain ⟨n, hn⟩ : ∃ n, n = (BitVec.ofInt 64 x &&& BitVec.ofInt 64 255).toNat := ⟨_, rfl⟩
  rw [← hn] at h ⊢
  rw [IntKind.wrap_i64]
  omega

set_option maxRecDepth 100000 in
set_option maxHeartbeats 1000000 in
theorem l1New_any (A : Option Addr) (c : Nat) (code : List UInt8) (w : World) (hA : BytesIn w 0 w.heap.size A code) (hn : code.length ≤ 9223372036854775807) :
    Calls Tryd.prog 34 #[.slice A code.length c] w fun e w' => e = .returned (.pointer (some ⟨w.heap.size, 0, none⟩)) ∧ Cur w' w.heap.size code ∧ Below w.heap.size w w' := by
  have HA := Lib.hid hA
  clear hA
  go_enter Tryd.func34, Tryd.ntmps34
  go_wp2_with fail
  go_loopw [3, 4] (fun h i wr => wr = w ∧ ∃ (k : Nat) (x : Int), k ≤ code.length ∧ i = .int .i64 k ∧ h = .int .i64 x) (fun _ i _ => code.length - (intOf i).toNat)
  case atStart => exact ⟨rfl, 0, _, Nat.zero_le _, rfl, rfl⟩
  case round =>
    obtain ⟨rfl, k, x, hk, rfl, rfl⟩ := hrel
    have hfin : ∀ W : World, W = wr.alloc (.cells #[.slice A code.length c, .int .i64 0, .int .i64 x] 108) → Cur W wr.heap.size code ∧ Below wr.heap.size wr W := by
      rintro W rfl
      have hb : Below wr.heap.size wr (wr.alloc (.cells #[.slice A code.length c, .int .i64 0, .int .i64 x] 108)) := (Below.refl _ _).alloc (Nat.le_refl _) _
      exact ⟨⟨A, c, 0, x, ⟨Nat.zero_le _, hn⟩, by simp, by simp, by simp, by simp, by simp, HA.out.keep fun p _ hp => hb.cell hp⟩, hb⟩
    have HFin := Lib.hid hfin
    clear hfin
    by_cases hlt : k < code.length
    · by_cases h4 : k < 4000
      · obtain ⟨b, o, rfl, _, hb, hc⟩ := HA.out (by omega)
        have hc0 := hc k hlt
        clear hc
        go_wp2_with fail
        go_roundw
        case rel => exact ⟨by first | rfl | trivial, k + 1, _, by omega, by go_num, rfl⟩
        case measure => simp [intOf]; omega
      · go_wp2_with fail
        go_ret
        exact ⟨rfl, HFin.out _ rfl⟩
    · go_wp2_with fail
      go_ret
      exact ⟨rfl, HFin.out _ rfl⟩

set_option maxRecDepth 100000 in
set_option maxHeartbeats 1000000 in
theorem l1Byte_any (K : Nat) (code : List UInt8) (w : World) (hC : Cur w K code) :
    Calls Tryd.prog 56 #[.pointer (some ⟨K, 0, none⟩)] w (Drawn K code (fun x => 0 ≤ x ∧ x ≤ 255) w) := by
  obtain ⟨A, c, i, h, ⟨hi, hlen⟩, h0, h1, h2, f1, f2, hby⟩ := hC
  have HB := Lib.hid hby
  have hK := World.block_lt_of_cell? w _ h0
  clear hby
  go_enter Tryd.func56, Tryd.ntmps56
  go_wp2_with fail
  go_quiet (fail)
  obtain ⟨H, hH⟩ : ∃ x, x = wrap64 (wrap64 (h * 6364136223846793005) + 1442695040888963407) := ⟨_, rfl⟩
  rw [← hH]
  obtain ⟨x, hx⟩ : ∃ x, x = bits .and .i64 (bits .xor .i64 (H / 8589934592) (H / 35184372088832)) 255 := ⟨_, rfl⟩
  rw [← hx]
  have hx0 : 0 ≤ x ∧ x ≤ 255 := by rw [hx]; exact and_low _
  have HX0 := Lib.hid hx0
  obtain ⟨W, hW⟩ : ∃ W, W = (w.setCell ⟨K, 2, none⟩ (.int .i64 H)).drewN nq := ⟨_, rfl⟩
  have k0 : W.cell? ⟨K, 0, none⟩ = some (.slice A code.length c) := by rw [hW]; exact (World.cell?_setCell_other _ _ _ _ (by simp)).trans h0
  have k1 : W.cell? ⟨K, 1, none⟩ = some (.int .i64 i) := by rw [hW]; exact (World.cell?_setCell_other _ _ _ _ (by simp)).trans h1
  have k2 : W.cell? ⟨K, 2, none⟩ = some (.int .i64 H) := by rw [hW]; exact World.cell?_setCell_same _ _ _ (by rw [h2])
  have g1 : W.frozen? ⟨K, 1, none⟩ = false := by rw [hW]; exact (World.frozen?_setCell _ _ _ _).trans f1
  have g2 : W.frozen? ⟨K, 2, none⟩ = false := by rw [hW]; exact (World.frozen?_setCell _ _ _ _).trans f2
  have HF := Lib.hid (show OffK K w W by rw [hW]; exact ((OffK.refl K w).setCell (.inl rfl) _).below (below_drewN (Below.refl _ _) nq))
  have HB2 := Lib.hid (HB.out.keep fun p _ hp => HF.out.cell (by omega) (by omega))
  have hKW : K < W.heap.size := by have := HF.out.size; omega
  rw [← hW]
  clear hW hx hH h0 h1 h2 f1 f2 hx0 HB
  go_wp2_with fail
  go_quiet (fail)
  obtain ⟨W1, hW1⟩ : ∃ y, y = W.drewN nq := ⟨_, rfl⟩
  rw [← hW1]
  have m0 : W1.cell? ⟨K, 0, none⟩ = some (.slice A code.length c) := by rw [hW1]; exact k0
  have m1 : W1.cell? ⟨K, 1, none⟩ = some (.int .i64 i) := by rw [hW1]; exact k1
  have m2 : W1.cell? ⟨K, 2, none⟩ = some (.int .i64 H) := by rw [hW1]; exact k2
  have p1 : W1.frozen? ⟨K, 1, none⟩ = false := by rw [hW1]; exact g1
  have p2 : W1.frozen? ⟨K, 2, none⟩ = false := by rw [hW1]; exact g2
  have HF1 := Lib.hid (show OffK K w W1 by rw [hW1]; exact HF.out.below (below_drewN (Below.refl _ _) nq))
  have HB3 := Lib.hid (show BytesIn W1 0 K A code by rw [hW1]; exact HB2.out)
  have hKW1 : K < W1.heap.size := by rw [hW1]; exact hKW
  clear hW1 k0 k1 k2 g1 g2 HF HB2 hKW
  by_cases hlt : i < code.length
  · have HB3' := HB3
    obtain ⟨b, o, rfl, _, hb, hc⟩ := HB3'.out (by omega)
    have hc0 := hc i hlt
    clear hc HB3'
    go_wp2_with fail
    go_quiet (fail)
    obtain ⟨y, hy⟩ : ∃ y, y = bits .and .i64 (wrap64 (x + wrap64 (code[i].toNat : Int))) 255 := ⟨_, rfl⟩
    rw [← hy]
    have HY := Lib.hid (show 0 ≤ y ∧ y ≤ 255 by rw [hy]; exact and_low _)
    obtain ⟨W3, hW3⟩ : ∃ y, y = W1.drewN nq := ⟨_, rfl⟩
    rw [← hW3]
    have q0 : W3.cell? ⟨K, 0, none⟩ = some (.slice (some ⟨b, o, none⟩) code.length c) := by rw [hW3]; exact m0
    have q1 : W3.cell? ⟨K, 1, none⟩ = some (.int .i64 i) := by rw [hW3]; exact m1
    have q2 : W3.cell? ⟨K, 2, none⟩ = some (.int .i64 H) := by rw [hW3]; exact m2
    have r1 : W3.frozen? ⟨K, 1, none⟩ = false := by rw [hW3]; exact p1
    have r2 : W3.frozen? ⟨K, 2, none⟩ = false := by rw [hW3]; exact p2
    have HF3 := Lib.hid (show OffK K w W3 by rw [hW3]; exact HF1.out.below (below_drewN (Below.refl _ _) nq))
    have HB4 := Lib.hid (show BytesIn W3 0 K (some ⟨b, o, none⟩) code by rw [hW3]; exact HB3.out)
    clear hW3 hy m0 m1 m2 p1 p2 HF1 HB3 hc0
    go_wp2_with fail
    go_ret
    refine ⟨y, rfl, HY.out, ⟨_, c, i + 1, H, ⟨by omega, hlen⟩, (World.cell?_setCell_other _ _ _ _ (by simp)).trans q0, by rw [World.cell?_setCell_same _ _ _ (by rw [q1])]; go_num, (World.cell?_setCell_other _ _ _ _ (by simp)).trans q2, (World.frozen?_setCell _ _ _ _).trans r1, (World.frozen?_setCell _ _ _ _).trans r2, ?_⟩, HF3.out.setCell (.inl rfl) _⟩
    exact HB4.out.keep fun p _ hp => World.cell?_setCell_other _ _ _ _ (by rintro rfl; simp at hp)
  · go_wp2_with fail
    go_ret
    refine ⟨x, rfl, HX0.out, ⟨A, c, i, H, ⟨hi, hlen⟩, m0, m1, m2, p1, p2, HB3.out⟩, HF1.out⟩

set_option maxRecDepth 100000 in
set_option maxHeartbeats 1000000 in
theorem l1Below_any (K : Nat) (code : List UInt8) (n : Int) (w : World) (hC : Cur w K code) :
    Calls Tryd.prog 36 #[.pointer (some ⟨K, 0, none⟩), .int .i64 n] w (Drawn K code (fun x => 0 ≤ x ∧ (0 < n → x < n) ∧ (n ≤ 0 → x = 0)) w) := by
  have HC := Lib.hid hC
  clear hC
  go_enter Tryd.func36, Tryd.ntmps36
  by_cases h0 : n ≤ 0
  · go_wp2_with fail
    go_ret
    exact ⟨0, rfl, ⟨by omega, fun h => by omega, fun _ => rfl⟩, HC.out, OffK.refl _ _⟩
  · by_cases h1 : n ≤ 256
    · go_wp2_with fail
      refine (l1Byte_any K code _ HC.out).mono ?_
      rintro e w1 ⟨x, rfl, hx, hc1, ho1⟩
      have HC1 := Lib.hid hc1
      have HO1 := Lib.hid ho1
      clear hc1 ho1
      go_wp2_with fail
      go_ret
      refine ⟨x % n, rfl, ⟨Int.emod_nonneg _ (by omega), fun h => Int.emod_lt_of_pos _ h, fun h => by omega⟩, HC1.out, HO1.out⟩
    · go_wp2_with fail
      refine (l1Byte_any K code _ HC.out).mono ?_
      rintro e w1 ⟨x, rfl, hx, hc1, ho1⟩
      have HC1 := Lib.hid hc1
      have HO1 := Lib.hid ho1
      clear hc1 ho1
      go_wp2_with fail
      refine (l1Byte_any K code _ HC1.out).mono ?_
      rintro e w2 ⟨y, rfl, hy, hc2, ho2⟩
      have HC2 := Lib.hid hc2
      have HO2 := Lib.hid (HO1.out.trans ho2 (.inl rfl))
      clear hc2 ho2
      go_wp2_with fail
      refine (l1Byte_any K code _ HC2.out).mono ?_
      rintro e w3 ⟨z, rfl, hz, hc3, ho3⟩
      have HC3 := Lib.hid hc3
      have HO3 := Lib.hid (HO2.out.trans ho3 (.inl rfl))
      clear hc3 ho3
      go_wp2_with fail
      refine (l1Byte_any K code _ HC3.out).mono ?_
      rintro e w4 ⟨u, rfl, hu, hc4, ho4⟩
      have HC4 := Lib.hid hc4
      have HO4 := Lib.hid (HO3.out.trans ho4 (.inl rfl))
      clear hc4 ho4
      go_wp2_with fail
      go_ret
      refine ⟨(x * 16777216 + y * 65536 + z * 256 + u) % n, rfl, ⟨Int.emod_nonneg _ (by omega), fun h => Int.emod_lt_of_pos _ h, fun h => by omega⟩, HC4.out, HO4.out⟩

set_option maxRecDepth 100000 in
set_option maxHeartbeats 1000000 in
theorem l1Once_any (K : Nat) (code : List UInt8) (n : Int) (w : World) (hC : Cur w K code) :
    Calls Tryd.prog 54 #[.pointer (some ⟨K, 0, none⟩), .int .i64 n] w fun e w' => ∃ b, e = .returned (.bool b) ∧ Cur w' K code ∧ OffK K w w' := by
  have HC := Lib.hid hC
  clear hC
  go_enter Tryd.func54, Tryd.ntmps54
  go_wp2_with fail
  refine (l1Below_any K code n _ HC.out).mono ?_
  rintro e w1 ⟨x, rfl, hx, hc1, ho1⟩
  have HC1 := Lib.hid hc1
  have HO1 := Lib.hid ho1
  clear hc1 ho1
  go_wp2_with fail
  go_ret
  exact ⟨_, rfl, HC1.out, HO1.out⟩

set_option maxRecDepth 100000 in
set_option maxHeartbeats 1000000 in
theorem l1PickInt_any (K : Nat) (code : List UInt8) (A : Option Addr) (c : Nat) (l : List Int) (w : World) (hC : Cur w K code) (hA : IntsIn w (K + 1) w.heap.size A l) (hpos : 0 < l.length) (hn : l.length ≤ 1048576) :
    Calls Tryd.prog 55 #[.pointer (some ⟨K, 0, none⟩), .slice A l.length c] w (Drawn K code (fun x => x ∈ l) w) := by
  have HC := Lib.hid hC
  have HA := Lib.hid hA
  clear hC hA
  go_enter Tryd.func55, Tryd.ntmps55
  go_wp2_with fail
  refine (l1Below_any K code l.length _ HC.out).mono ?_
  rintro e w1 ⟨x, rfl, hx, hc1, ho1⟩
  obtain ⟨k, rfl⟩ := Int.eq_ofNat_of_zero_le hx.1
  have hk : k < l.length := by have := hx.2.1 (by omega); omega
  have HC1 := Lib.hid hc1
  have HO1 := Lib.hid ho1
  obtain ⟨b, o, rfl, hb, hb2, hc⟩ := HA.out hpos
  have k0 := (ho1.cell (p := ⟨b, o + k, none⟩) (by show b < _; omega) (by show b ≠ K; omega)).trans (hc k hk)
  clear hc1 ho1 hc hx
  go_wp2_with fail
  go_ret
  exact ⟨_, rfl, List.getElem_mem hk, HC1.out, HO1.out⟩

end Go.Proofs.YtkmoihkpaccbdaaDoor
