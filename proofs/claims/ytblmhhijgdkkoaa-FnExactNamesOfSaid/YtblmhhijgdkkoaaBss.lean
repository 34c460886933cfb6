/-
  A list of names that was made: each in a block of its own; compared, written over, looked at.
-/
import Derived.Test.YtblmhhijgdkkoaaTrM
namespace Go.Proofs.Ytblmhhijgdkkoaa
open Go.RowKit Go.Maps

/-- All bytes of these names. -/
def bsum : List (List UInt8) → Nat
  | [] => 0
  | l :: ls => l.length + bsum ls
theorem bsum_append (xs ys : List (List UInt8)) : bsum (xs ++ ys) = bsum xs + bsum ys := by
  induction xs with
  | nil => simp [bsum]
  | cons x xs ih => simp [bsum, ih]; omega
theorem bsum_succ (ls : List (List UInt8)) (k : Nat) (h : k < ls.length) : bsum (ls.take (k + 1)) = bsum (ls.take k) + ls[k].length := by
  rw [List.take_succ_eq_append_getElem h, bsum_append]
  simp [bsum]
theorem bsum_le (ls : List (List UInt8)) (k : Nat) : bsum (ls.take k) ≤ bsum ls := by
  have h := bsum_append (ls.take k) (ls.drop k)
  rw [List.take_append_drop] at h
  omega
theorem len_le_bsum (ls : List (List UInt8)) (k : Nat) (h : k < ls.length) : ls[k].length ≤ bsum ls := by
  have := bsum_succ ls k h
  have := bsum_le ls (k + 1)
  omega

/-- The i-th name of the row in block R; it lies at the head of block g. -/
structure BsCell (w : World) (R i g c : Nat) (l : List UInt8) : Prop where
  c0 : w.cell? ⟨R, i, none⟩ = some (.slice (some ⟨g, 0, none⟩) l.length c)
  nm : BytesFr w g (g + 1) (some ⟨g, 0, none⟩) l

theorem BsCell.keep {w w' : World} {R i g c : Nat} {l : List UInt8} (h : BsCell w R i g c l) (hR : ∀ o, w'.cell? ⟨R, o, none⟩ = w.cell? ⟨R, o, none⟩) (hg : ∀ o, w'.cell? ⟨g, o, none⟩ = w.cell? ⟨g, o, none⟩ ∧ w'.frozen? ⟨g, o, none⟩ = w.frozen? ⟨g, o, none⟩) : BsCell w' R i g c l where
  c0 := (hR _).trans h.c0
  nm hl := by
    obtain ⟨b, o, e, hL, hb, hc⟩ := h.nm hl
    cases e
    exact ⟨_, _, rfl, hL, hb, fun j hj => ⟨(hg _).1.trans (hc j hj).1, (hg _).2.trans (hc j hj).2⟩⟩

/-- A list of names that was made. -/
def BssOwn (w : World) (L B : Nat) (A : Option Addr) (ls : List (List UInt8)) : Prop :=
  0 < ls.length → ∃ (R : Nat) (g c : Nat → Nat), A = some ⟨R, 0, none⟩ ∧ Lay L B R ls.length g ∧ ∀ i (hi : i < ls.length), BsCell w R i (g i) (c i) ls[i]

section
variable {w w' : World} {L L' B B' : Nat} {A : Option Addr} {ls : List (List UInt8)}
theorem BssOwn.keep (h : BssOwn w L B A ls) (hk : ∀ p : Addr, L ≤ p.block → p.block < B → w'.cell? p = w.cell? p ∧ w'.frozen? p = w.frozen? p) : BssOwn w' L B A ls := fun hl => by
  obtain ⟨R, g, c, e, hlay, hc⟩ := h hl
  exact ⟨R, g, c, e, hlay, fun i hi => (hc i hi).keep (fun o => (hk _ hlay.low hlay.up).1) (fun o => hk _ (hlay.at_ i hi).1 (hlay.at_ i hi).2.1)⟩
theorem BssOwn.mono (h : BssOwn w L B A ls) (hL : L' ≤ L) (hB : B ≤ B') : BssOwn w L' B' A ls := fun hl => by
  obtain ⟨R, g, c, e, hlay, hc⟩ := h hl
  exact ⟨R, g, c, e, hlay.mono hL hB, hc⟩
theorem BssOwn.nil : BssOwn w L B A [] := fun h => absurd h (by simp)
end

set_option maxRecDepth 100000 in
set_option maxHeartbeats 1000000 in
theorem eqByteSS_same (A A' : Option Addr) (ls : List (List UInt8)) (c c' L L' B B' : Nat) (w : World) (hA : BssOwn w L B A ls) (hA' : BssOwn w L' B' A' ls) (hB : B ≤ w.heap.size) (hB' : B' ≤ w.heap.size) (hn : ls.length ≤ 1048576) (hbk : bsum ls ≤ 1048576) :
    Calls Try.prog 25 #[.slice A ls.length c, .slice A' ls.length c'] w fun e w' => e = .returned (.bool true) ∧ Below w.heap.size w w' := by
  have HA := Lib.hid hA
  have HA' := Lib.hid hA'
  clear hA hA'
  go_enter Try.func25, Try.ntmps25
  go_wp2
  go_loopw [5] (fun i wr => ∃ k : Nat, k ≤ ls.length ∧ i = .int .i64 k ∧ Below w.heap.size w wr) (fun i _ => ls.length - (intOf i).toNat)
  case atStart => exact ⟨0, Nat.zero_le _, rfl, Below.refl _ _⟩
  case round =>
    obtain ⟨k, hk, rfl, hbel⟩ := hrel
    have HBel := Lib.hid hbel
    by_cases hlt : k < ls.length
    · obtain ⟨R, g, cg, rfl, hlay, hc⟩ := HA.out (by omega)
      obtain ⟨R', g', cg', rfl, hlay', hc'⟩ := HA'.out (by omega)
      have hu := hlay.up
      have hu' := hlay'.up
      have hg := hlay.at_ k hlt
      have hg' := hlay'.at_ k hlt
      have hx := (hc k hlt).keep (fun o => hbel.cell (p := ⟨R, o, none⟩) (by show R < _; omega)) (fun o => ⟨hbel.cell (p := ⟨g k, o, none⟩) (by show g k < _; omega), hbel.frozen (p := ⟨g k, o, none⟩) (by show g k < _; omega)⟩)
      have hx' := (hc' k hlt).keep (fun o => hbel.cell (p := ⟨R', o, none⟩) (by show R' < _; omega)) (fun o => ⟨hbel.cell (p := ⟨g' k, o, none⟩) (by show g' k < _; omega), hbel.frozen (p := ⟨g' k, o, none⟩) (by show g' k < _; omega)⟩)
      have x0 := hx.c0
      have y0 := hx'.c0
      have HY := Lib.hid hx.nm
      have HY' := Lib.hid hx'.nm
      have hle := len_le_bsum ls k hlt
      have hz := hbel.size
      obtain ⟨l, hl⟩ : ∃ l, l = ls[k] := ⟨_, rfl⟩
      rw [← hl] at x0 y0 HY HY' hle
      clear hc hc' hbel hx hx' hlay hlay' hl
      go_wp2
      go_still_tail 8, (by kernel_rfl)
      change wpList _ _ _ _ _ wr.drew
      go_wp2_with fail
      refine (eqByteS_fr _ _ l _ _ (g k) (g' k) (g k + 1) (g' k + 1) wr.drew (HY.out.keep fun p _ _ => ⟨rfl, rfl⟩) (HY'.out.keep fun p _ _ => ⟨rfl, rfl⟩) (by omega)).mono ?_
      rintro e w1 ⟨rfl, hb1⟩
      have HB := Lib.hid (HBel.out.drew.trans (hb1.mono hz))
      clear hb1 x0 y0
      go_wp2
      go_roundw
      case rel => exact ⟨k + 1, by omega, by go_num, HB.out⟩
      case measure => simp [intOf]; omega
    · go_wp2
      go_ret
      exact ⟨rfl, hbel⟩

/-- The i-th name of the row in block R, written over from k on. -/
structure BmCell (w : World) (R i g c n : Nat) (k : Int) : Prop where
  c0 : w.cell? ⟨R, i, none⟩ = some (.slice (some ⟨g, 0, none⟩) n c)
  nm : MkFr w g (g + 1) (some ⟨g, 0, none⟩) k n

/-- A list of names, written over from k on. -/
def BssMk (w : World) (L B : Nat) (A : Option Addr) (ls : List (List UInt8)) (k : Int) : Prop :=
  0 < ls.length → ∃ (R : Nat) (g c : Nat → Nat), A = some ⟨R, 0, none⟩ ∧ Lay L B R ls.length g ∧ ∀ i (hi : i < ls.length), BmCell w R i (g i) (c i) ls[i].length (k + (bsum (ls.take i) : Nat))

theorem BssMk.keep {w w' : World} {L B : Nat} {A : Option Addr} {ls : List (List UInt8)} {k : Int} (h : BssMk w L B A ls k) (hk : ∀ p : Addr, L ≤ p.block → p.block < B → w'.cell? p = w.cell? p ∧ w'.frozen? p = w.frozen? p) : BssMk w' L B A ls k := fun hl => by
  obtain ⟨R, g, c, e, hlay, hc⟩ := h hl
  refine ⟨R, g, c, e, hlay, fun i hi => ?_⟩
  have hx := hc i hi
  have hg := hlay.at_ i hi
  exact ⟨(hk _ hlay.low hlay.up).1.trans hx.c0, hx.nm.keep fun p hp hq => hk p (by omega) (by omega)⟩

set_option maxRecDepth 100000 in
set_option maxHeartbeats 2000000 in
theorem markByteSS_own (A : Option Addr) (ls : List (List UInt8)) (c0 L B : Nat) (k : Int) (w : World) (h : BssOwn w L B A ls) (hB : B ≤ w.heap.size) (hn : ls.length ≤ 1048576) (hbk : bsum ls ≤ 1048576) (hk : 0 ≤ k) (hk' : k ≤ 100000000) :
    Calls Try.prog 26 #[.slice A ls.length c0, .int .i64 k] w fun e w' => e = .returned (.int .i64 (k + (bsum ls : Nat))) ∧ BssMk w' L B A ls k ∧ Inside L B w w' := by
  by_cases hz : ls.length = 0
  · have he : ls = [] := by cases ls with
      | nil => rfl
      | cons x xs => simp at hz
    subst he
    clear hz h
    go_enter Try.func26, Try.ntmps26
    go_wp2
    go_loopw [1, 5] (fun x i wr => i = .int .i64 0 ∧ x = .int .i64 k ∧ wr = w) (fun _ _ _ => 0)
    case atStart => exact ⟨rfl, rfl, rfl⟩
    case round =>
      obtain ⟨rfl, rfl, rfl⟩ := hrel
      go_wp2
      go_ret
      exact ⟨ret_int (by simp [bsum]), fun h => absurd h (by simp), Inside.refl _ _ _⟩
  obtain ⟨R, g, c, rfl, hlay, hc⟩ := h (by omega)
  have HC := Lib.hid hc
  have HLay := Lib.hid hlay
  have hRB := hlay.up
  clear hc hlay hz h
  go_enter Try.func26, Try.ntmps26
  go_wp2
  go_loopw [1, 5] (fun x i wr => ∃ j : Nat, j ≤ ls.length ∧ i = .int .i64 j ∧ x = .int .i64 (k + (bsum (ls.take j) : Nat)) ∧ Inside L B w wr ∧ (∀ i (hi : i < ls.length), i < j → BmCell wr R i (g i) (c i) ls[i].length (k + (bsum (ls.take i) : Nat))) ∧ (∀ i (hi : i < ls.length), j ≤ i → BsCell wr R i (g i) (c i) ls[i])) (fun _ i _ => ls.length - (intOf i).toNat)
  case atStart => exact ⟨0, Nat.zero_le _, rfl, by simp [bsum], Inside.refl _ _ _, fun i _ hi => absurd hi (by omega), fun i hi _ => HC.out i hi⟩
  case round =>
    obtain ⟨j, hj, rfl, rfl, hin, hmk, hen⟩ := hrel
    have HI := Lib.hid hin
    have HMk := Lib.hid hmk
    have HEn := Lib.hid hen
    have hsz := hin.below.size
    clear hin hmk hen
    by_cases hlt : j < ls.length
    · have hx := HEn.out j hlt (Nat.le_refl _)
      have HS := Lib.hid (bsum_succ ls j hlt)
      have hle2 := bsum_le ls (j + 1)
      have hnl := len_le_bsum ls j hlt
      rw [HS.out] at hle2
      have q0 := hx.c0
      have HNm := Lib.hid hx.nm
      obtain ⟨hg1, hg2, hg3⟩ := HLay.out.at_ j hlt
      obtain ⟨mj, hmj⟩ : ∃ mj, mj = bsum (ls.take j) := ⟨_, rfl⟩
      rw [← hmj] at hle2 HS ⊢
      have HMj := Lib.hid hmj
      clear hx hmj
      go_wp2_with fail
      refine (markByteS_fr (some ⟨g j, 0, none⟩) ls[j] (c j) (g j) (g j + 1) _ wr HNm.out (by omega) (by omega) (by omega)).mono ?_
      rintro e w1 ⟨rfl, hmk1, hin1⟩
      have HM1 := Lib.hid hmk1
      have hRlt : R < wr.heap.size := by omega
      have hoff := fun o => hin1.off (b := R) (o := o) (by omega) hRlt
      have p0 := (hoff j).1.trans q0
      have HOff := Lib.hid hoff
      have HIn1 := Lib.hid hin1
      have HI1 := Lib.hid (HI.out.trans (hin1.wider hg1 (by omega)))
      have hz1 := hin1.below.size
      clear hmk1 hin1 hoff q0
      have P0 := Lib.hid p0
      clear p0
      go_wp2_with fail
      go_roundw
      case rel =>
        refine ⟨j + 1, by omega, by go_num, by rw [HS.out]; go_num, HI1.out, fun i hi hij => ?_, fun i hi hij => ?_⟩
        · by_cases e : i = j
          · subst e
            rw [← HMj.out]
            exact ⟨P0.out, HM1.out⟩
          · have hx := HMk.out i hi (by omega)
            have hgi := HLay.out.at_ i hi
            have hne := HLay.out.ne hi hlt e
            have hgo := fun o => HIn1.out.off (b := g i) (o := o) hne (by omega)
            refine ⟨(HOff.out _).1.trans hx.c0, fun hl => ?_⟩
            obtain ⟨b, o, ee, hb1, hb2, hcc⟩ := hx.nm hl
            cases ee
            exact ⟨_, _, rfl, hb1, hb2, fun m hm => ⟨(hgo _).1.trans (hcc m hm).1, (hgo _).2.trans (hcc m hm).2⟩⟩
        · have hx := HEn.out i hi (by omega)
          have hgi := HLay.out.at_ i hi
          have hne := HLay.out.ne hi hlt (by omega)
          have hgo := fun o => HIn1.out.off (b := g i) (o := o) hne (by omega)
          refine ⟨(HOff.out _).1.trans hx.c0, fun hl => ?_⟩
          obtain ⟨b, o, ee, hb1, hb2, hcc⟩ := hx.nm hl
          cases ee
          exact ⟨_, _, rfl, hb1, hb2, fun m hm => ⟨(hgo _).1.trans (hcc m hm).1, (hgo _).2.trans (hcc m hm).2⟩⟩
      case measure => simp [intOf]; omega
    · have hje : j = ls.length := by omega
      have HK := Lib.hid (show k + (bsum (ls.take j) : Nat) = k + (bsum ls : Nat) by rw [hje, List.take_length])
      have HR := Lib.hid (show BssMk wr L B (some ⟨R, 0, none⟩) ls k from fun _ => ⟨R, g, c, rfl, HLay.out, fun i hi => HMk.out i hi (by omega)⟩)
      generalize bsum (ls.take j) = mj at *
      go_wp2
      go_ret
      exact ⟨ret_int HK.out, HR.out, HI.out⟩

set_option maxRecDepth 100000 in
set_option maxHeartbeats 2000000 in
theorem heldByteSS_own (A : Option Addr) (ls : List (List UInt8)) (c0 L B : Nat) (k : Int) (w : World) (h : BssMk w L B A ls k) (hn : ls.length ≤ 1048576) (hbk : bsum ls ≤ 1048576) (hk : 0 ≤ k) (hk' : k ≤ 100000000) :
    Calls Try.prog 27 #[.slice A ls.length c0, .int .i64 k] w fun e w' => e = .returned (.int .i64 (k + (bsum ls : Nat))) ∧ w = w' := by
  have HH := Lib.hid h
  clear h
  go_enter Try.func27, Try.ntmps27
  go_wp2
  go_loop [1, 5] (fun x i => ∃ j : Nat, j ≤ ls.length ∧ i = .int .i64 j ∧ x = .int .i64 (k + (bsum (ls.take j) : Nat))) (fun _ i => ls.length - (intOf i).toNat)
  case atStart => exact ⟨0, Nat.zero_le _, rfl, by simp [bsum]⟩
  case round =>
    obtain ⟨j, hj, rfl, rfl⟩ := hrel
    by_cases hlt : j < ls.length
    · obtain ⟨R, g, c, rfl, hlay, hc⟩ := HH.out (by omega)
      have hx := hc j hlt
      have HS := Lib.hid (bsum_succ ls j hlt)
      have hle2 := bsum_le ls (j + 1)
      have hnl := len_le_bsum ls j hlt
      rw [HS.out] at hle2
      obtain ⟨mj, hmj⟩ : ∃ mj, mj = bsum (ls.take j) := ⟨_, rfl⟩
      rw [← hmj] at hle2 HS hx ⊢
      have q0 := hx.c0
      have HNm := Lib.hid hx.nm
      obtain ⟨n, hnn⟩ : ∃ n, n = ls[j].length := ⟨_, rfl⟩
      rw [← hnn] at q0 HNm hle2 HS hnl
      have h0 : ¬ (k + (mj : Int) + (n : Int)) < 0 := by omega
      clear hx hmj hlay hc hnn
      go_wp2_with fail
      refine (heldByteS_any (some ⟨g j, 0, none⟩) n (c j) (g j) (g j + 1) _ w HNm.out (by omega) (by omega) (by omega)).mono ?_
      rintro e w1 ⟨rfl, rfl⟩
      go_wp2_with fail
      go_round
      case rel => exact ⟨j + 1, by omega, by go_num, by rw [HS.out]; go_num⟩
      case measure => simp [intOf]; omega
    · have hje : j = ls.length := by omega
      have HK := Lib.hid (show k + (bsum (ls.take j) : Nat) = k + (bsum ls : Nat) by rw [hje, List.take_length])
      generalize bsum (ls.take j) = mj at *
      go_wp2
      go_ret
      exact ⟨ret_int HK.out, rfl⟩

end Go.Proofs.Ytblmhhijgdkkoaa
