/-
  Several texts in one: TwoA, Frk, RdTwo, FwI.
-/
import Derived.Test.YtblmhhijgdkkoaaFolS
namespace Go.Proofs.Ytblmhhijgdkkoaa
open Go.RowKit Go.Maps

theorem BkAt.set {w : World} {V : Value} {f : Tm → Int} {p : Addr} {v : Value} (h : BkAt w V f) (hp : w.cell? p = some v) (u : Value) : BkAt (w.setCell p u) V f := by
  rcases h with ⟨ts, M, e, hl, hM, hf⟩ | h
  · refine .inl ⟨ts, M, e, hl, hM.setCell ?_ _, hf⟩
    rintro rfl
    obtain ⟨_, _, hb, _⟩ := hM
    simp [World.cell?, hb] at hp
  · exact .inr h

/-- What reading a ledger hands back, whether it is good or not. -/
theorem readLedger_bk (AL : Option Addr) (ts : List Tm) (cL : Nat) (w : World) (hT : TmsIn w 0 w.heap.size AL ts) (ht : ts.length ≤ 1048576) (htb : bulk ts ≤ 1048576) :
    Calls Try.prog 83 #[.agg #[.slice AL ts.length cL]] w fun e w' => ∃ (AB : Option Addr) (nB cB : Nat) (MB : Option Nat) (f : Tm → Int), e = .returned (.tuple #[.agg #[.slice AB nB cB, .map MB], .bool (lokB ts)]) ∧ BkAt w' (.map MB) f ∧ (∀ t, (Lit.int .i64 (f t)).wf = true) ∧ (lokB ts = true → f = lookI ts) ∧ Below w.heap.size w w' := by
  refine (readLedger_any AL ts cL 0 w.heap.size w hT (Nat.le_refl _) ht htb).mono ?_
  rintro e w1 (⟨hok, A1, c1, M, rfl, hMlo, _, hmap, hb1⟩ | ⟨hno, rfl, hb1⟩)
  · exact ⟨_, _, _, _, lookI ts, by rw [lokB_true hok], .inl ⟨ts, M, rfl, hok, hmap, rfl⟩, look_wf ht, fun _ => rfl, hb1⟩
  · exact ⟨_, _, _, _, fun _ => -1, by rw [lokB_false hno], .inr ⟨rfl, rfl⟩, fun _ => rfl, (fun h => by rw [lokB_false hno] at h; cases h), hb1⟩

set_option maxRecDepth 100000 in
set_option maxHeartbeats 1000000 in
theorem follows_any (au2 sq2 pv2 b0 b1 b2 b3 : Int) (A2 : Option Addr) (n2 c2 : Nat) (au sq pv a0 a1 a2 a3 : Int) (A : Option Addr) (n1 c1 : Nat) (n : Int) (w : World) (hs1 : 0 ≤ sq) (hs2 : sq ≤ 1000) (hn1 : -1 ≤ n) (hn2 : n ≤ 1048576) :
    Calls Try.prog 90 #[.agg #[.int .i64 au2, .int .i64 sq2, .int .i64 pv2, .int .i64 b0, .int .i64 b1, .int .i64 b2, .int .i64 b3, .slice A2 n2 c2], .agg #[.int .i64 au, .int .i64 sq, .int .i64 pv, .int .i64 a0, .int .i64 a1, .int .i64 a2, .int .i64 a3, .slice A n1 c1], .int .i64 n] w fun e w' => e = .returned (.bool (flB n au sq [a0, a1, a2, a3] au2 sq2 pv2 [b0, b1, b2, b3])) ∧ Below w.heap.size w w' := by
  have HMb := Lib.hid (show flB n au sq [a0, a1, a2, a3] au2 sq2 pv2 [b0, b1, b2, b3] = (au2 == au && sq2 == sq + 1 && pv2 == n + 1 && belB a0 a1 a2 a3 b0 b1 b2 b3) from rfl)
  obtain ⟨mb, hmb⟩ : ∃ mb, mb = flB n au sq [a0, a1, a2, a3] au2 sq2 pv2 [b0, b1, b2, b3] := ⟨_, rfl⟩
  rw [← hmb] at HMb ⊢
  clear hmb
  go_enter Try.func90, Try.ntmps90
  by_cases e_au2 : au2 = au
  case neg =>
    have e_b : (au2 == au) = false := by simp [e_au2]
    have HF := Lib.hid (show mb = false by rw [HMb.out, e_b]; simp)
    go_wp2_with fail
    go_ret
    exact ⟨ret_bool (a := false) HF.out.symm, ((Below.refl _ _).alloc (Nat.le_refl _) _).alloc (by simp) _⟩
  have e_au2b : (au2 == au) = true := by simp [e_au2]
  by_cases e_sq2 : sq2 = sq + 1
  case neg =>
    have e_b : (sq2 == sq + 1) = false := by simp [e_sq2]
    have HF := Lib.hid (show mb = false by rw [HMb.out, e_b]; simp)
    go_wp2_with fail
    go_ret
    exact ⟨ret_bool (a := false) HF.out.symm, ((Below.refl _ _).alloc (Nat.le_refl _) _).alloc (by simp) _⟩
  have e_sq2b : (sq2 == sq + 1) = true := by simp [e_sq2]
  by_cases e_pv2 : pv2 = n + 1
  case neg =>
    have e_b : (pv2 == n + 1) = false := by simp [e_pv2]
    have HF := Lib.hid (show mb = false by rw [HMb.out, e_b]; simp)
    go_wp2_with fail
    go_ret
    exact ⟨ret_bool (a := false) HF.out.symm, ((Below.refl _ _).alloc (Nat.le_refl _) _).alloc (by simp) _⟩
  have e_pv2b : (pv2 == n + 1) = true := by simp [e_pv2]
  have HF := Lib.hid (show mb = belB a0 a1 a2 a3 b0 b1 b2 b3 by rw [HMb.out, e_au2b, e_sq2b, e_pv2b]; simp)
  clear e_au2b e_sq2b e_pv2b HMb
  subst e_au2 e_sq2 e_pv2
  go_wp2_with fail
  obtain ⟨W1_0, hW1_0⟩ : ∃ x, x = w.alloc (.cells #[.int .i64 au2, .int .i64 (sq + 1), .int .i64 (n + 1), .int .i64 b0, .int .i64 b1, .int .i64 b2, .int .i64 b3, .slice A2 n2 c2] 105) := ⟨_, rfl⟩
  obtain ⟨W1_1, hW1_1⟩ : ∃ x, x = W1_0.alloc (.cells #[.int .i64 au2, .int .i64 sq, .int .i64 pv, .int .i64 a0, .int .i64 a1, .int .i64 a2, .int .i64 a3, .slice A n1 c1] 105) := ⟨_, rfl⟩
  have hZ1_0 : W1_0.heap.size = w.heap.size + 1 := by rw [hW1_0]; simp
  have hZ1_1 : W1_1.heap.size = w.heap.size + 2 := by rw [hW1_1]; simp [hZ1_0]
  have hx0 : Bx W1_0 (w.heap.size) [.int .i64 au2, .int .i64 (sq + 1), .int .i64 (n + 1), .int .i64 b0, .int .i64 b1, .int .i64 b2, .int .i64 b3, .slice A2 n2 c2] := by rw [hW1_0]; exact Bx.new' _ _ _ _ rfl
  replace hx0 : Bx W1_1 (w.heap.size) [.int .i64 au2, .int .i64 (sq + 1), .int .i64 (n + 1), .int .i64 b0, .int .i64 b1, .int .i64 b2, .int .i64 b3, .slice A2 n2 c2] := by rw [hW1_1]; exact hx0.alloc (by omega) _
  have hx1 : Bx W1_1 (w.heap.size + 1) [.int .i64 au2, .int .i64 sq, .int .i64 pv, .int .i64 a0, .int .i64 a1, .int .i64 a2, .int .i64 a3, .slice A n1 c1] := by rw [hW1_1, ← hZ1_0]; exact Bx.new' _ _ _ _ rfl
  have hb0 : Below w.heap.size w W1_1 := by rw [hW1_1, hW1_0]; exact (((Below.refl _ _).alloc (by first | exact Nat.le_refl _ | (simp; done) | (simp; omega)) _).alloc (by first | exact Nat.le_refl _ | (simp; done) | (simp; omega)) _)
  have hlt : w.heap.size + 1 < W1_1.heap.size := by omega
  rw [← hW1_0, ← hW1_1]
  clear hW1_0 hZ1_0 hW1_1 hZ1_1
  have z_2 := hb0.size
  have Hbel_3 := Lib.hid (hb0)
  have HY_4 := Lib.hid (hx0)
  have HX_5 := Lib.hid (hx1)
  clear hb0 hx0 hx1
  have hl_6 := hlt
  clear hlt
  refine (vbelow_any a0 a1 a2 a3 b0 b1 b2 b3 W1_1).mono ?_
  rintro e w1 ⟨rfl, hb⟩
  have z_7 := hb.size
  have Hbel_8 := Lib.hid (Hbel_3.out.trans (hb.mono (by omega)))
  have HY_9 := Lib.hid (HY_4.out.below hb (by omega))
  have HX_10 := Lib.hid (HX_5.out.below hb (by omega))
  clear Hbel_3 HY_4 HX_5
  clear hb
  go_wp2_with fail
  go_ret
  exact ⟨ret_bool HF.out.symm, Hbel_8.out⟩

set_option maxRecDepth 100000 in
set_option maxHeartbeats 1000000 in
theorem bytesEqual_any (A B : Option Addr) (l m : List UInt8) (c d : Nat) (w : World) (hA : BytesIn w 0 w.heap.size A l) (hB : BytesIn w 0 w.heap.size B m) :
    Calls Try.prog 124 #[.slice A l.length c, .slice B m.length d] w fun e w' => e = .returned (.bool (l == m)) ∧ Below w.heap.size w w' := by
  have h1 := run_str hA c
  have h2 := run_str hB d
  clear hA hB
  go_enter Try.func124, Try.ntmps124
  go_wp2_with fail
  go_ret
  exact ⟨rfl, Below.refl _ _⟩


end Go.Proofs.Ytblmhhijgdkkoaa

namespace Go.Proofs.Ytblmhhijgdkkoaa
open Go.RowKit Go.Maps

set_option maxRecDepth 100000 in
set_option maxHeartbeats 4000000 in
theorem forks_any (au sq pv a0 a1 a2 a3 : Int) (E1 : Option Addr) (es : List En) (k1 : Nat) (au2 sq2 pv2 b0 b1 b2 b3 : Int) (E2 : Option Addr) (es2 : List En) (k2 : Nat) (w : World) (hA : EvsIn w 0 w.heap.size E1 es) (hn : es.length ≤ 1000) (hbk : ebulk es ≤ 1048576) (hA2 : EvsIn w 0 w.heap.size E2 es2) (hn2 : es2.length ≤ 1000) (hbk2 : ebulk es2 ≤ 1048576) :
    Calls Try.prog 92 #[.agg #[.int .i64 au, .int .i64 sq, .int .i64 pv, .int .i64 a0, .int .i64 a1, .int .i64 a2, .int .i64 a3, .slice E1 es.length k1], .agg #[.int .i64 au2, .int .i64 sq2, .int .i64 pv2, .int .i64 b0, .int .i64 b1, .int .i64 b2, .int .i64 b3, .slice E2 es2.length k2]] w fun e w' => e = .returned (.bool (fkB au sq pv [a0, a1, a2, a3] es au2 sq2 pv2 [b0, b1, b2, b3] es2)) ∧ Below w.heap.size w w' := by
  obtain ⟨T, hT⟩ : ∃ T, T = bdV au sq pv [a0, a1, a2, a3] es := ⟨_, rfl⟩
  obtain ⟨U, hU⟩ : ∃ T, T = bdV au2 sq2 pv2 [b0, b1, b2, b3] es2 := ⟨_, rfl⟩
  have he1 := fun (X : World) (hX : Below w.heap.size w X) => bodyEnc_any au sq pv a0 a1 a2 a3 E1 es k1 X ((hA.below hX).mono hX.size) hn hbk
  have he2 := fun (X : World) (hX : Below w.heap.size w X) => bodyEnc_any au2 sq2 pv2 b0 b1 b2 b3 E2 es2 k2 X ((hA2.below hX).mono hX.size) hn2 hbk2
  rw [← hT] at he1
  rw [← hU] at he2
  have HMb := Lib.hid (show fkB au sq pv [a0, a1, a2, a3] es au2 sq2 pv2 [b0, b1, b2, b3] es2 = (au == au2 && sq == sq2 && !(T == U)) by rw [hT, hU]; rfl)
  obtain ⟨mb, hmb⟩ : ∃ mb, mb = fkB au sq pv [a0, a1, a2, a3] es au2 sq2 pv2 [b0, b1, b2, b3] es2 := ⟨_, rfl⟩
  rw [← hmb] at HMb ⊢
  have HE1 := Lib.hid he1
  have HE2 := Lib.hid he2
  clear hmb he1 he2 hA hA2 hT hU
  go_enter Try.func92, Try.ntmps92
  go_wp2_with fail
  obtain ⟨W1_0, hW1_0⟩ : ∃ x, x = w.alloc (.cells #[.int .i64 au, .int .i64 sq, .int .i64 pv, .int .i64 a0, .int .i64 a1, .int .i64 a2, .int .i64 a3, .slice E1 es.length k1] 105) := ⟨_, rfl⟩
  obtain ⟨W1_1, hW1_1⟩ : ∃ x, x = W1_0.alloc (.cells #[.int .i64 au2, .int .i64 sq2, .int .i64 pv2, .int .i64 b0, .int .i64 b1, .int .i64 b2, .int .i64 b3, .slice E2 es2.length k2] 105) := ⟨_, rfl⟩
  have hZ1_0 : W1_0.heap.size = w.heap.size + 1 := by rw [hW1_0]; simp
  have hZ1_1 : W1_1.heap.size = w.heap.size + 2 := by rw [hW1_1]; simp [hZ1_0]
  have hx0 : Bx W1_0 (w.heap.size) [.int .i64 au, .int .i64 sq, .int .i64 pv, .int .i64 a0, .int .i64 a1, .int .i64 a2, .int .i64 a3, .slice E1 es.length k1] := by rw [hW1_0]; exact Bx.new' _ _ _ _ rfl
  replace hx0 : Bx W1_1 (w.heap.size) [.int .i64 au, .int .i64 sq, .int .i64 pv, .int .i64 a0, .int .i64 a1, .int .i64 a2, .int .i64 a3, .slice E1 es.length k1] := by rw [hW1_1]; exact hx0.alloc (by omega) _
  have hx1 : Bx W1_1 (w.heap.size + 1) [.int .i64 au2, .int .i64 sq2, .int .i64 pv2, .int .i64 b0, .int .i64 b1, .int .i64 b2, .int .i64 b3, .slice E2 es2.length k2] := by rw [hW1_1, ← hZ1_0]; exact Bx.new' _ _ _ _ rfl
  have hb0 : Below w.heap.size w W1_1 := by rw [hW1_1, hW1_0]; exact (((Below.refl _ _).alloc (by first | exact Nat.le_refl _ | (simp; done) | (simp; omega)) _).alloc (by first | exact Nat.le_refl _ | (simp; done) | (simp; omega)) _)
  have hlt : w.heap.size + 1 < W1_1.heap.size := by omega
  rw [← hW1_0, ← hW1_1]
  clear hW1_0 hZ1_0 hW1_1 hZ1_1
  have z_2 := hb0.size
  have Hbel_3 := Lib.hid (hb0)
  have HX_4 := Lib.hid (hx0)
  have HY_5 := Lib.hid (hx1)
  clear hb0 hx0 hx1
  have hl_6 := hlt
  clear hlt
  have HCell := Lib.hid (show ∀ X, Below W1_1.heap.size W1_1 X → X.cell? ⟨w.heap.size, 0, none⟩ = some (.int .i64 au) ∧ X.cell? ⟨w.heap.size, 1, none⟩ = some (.int .i64 sq) ∧ X.cell? ⟨w.heap.size, 2, none⟩ = some (.int .i64 pv) ∧ X.cell? ⟨w.heap.size, 3, none⟩ = some (.int .i64 a0) ∧ X.cell? ⟨w.heap.size, 4, none⟩ = some (.int .i64 a1) ∧ X.cell? ⟨w.heap.size, 5, none⟩ = some (.int .i64 a2) ∧ X.cell? ⟨w.heap.size, 6, none⟩ = some (.int .i64 a3) ∧ X.cell? ⟨w.heap.size, 7, none⟩ = some (.slice E1 es.length k1) ∧ X.cell? ⟨w.heap.size + 1, 0, none⟩ = some (.int .i64 au2) ∧ X.cell? ⟨w.heap.size + 1, 1, none⟩ = some (.int .i64 sq2) ∧ X.cell? ⟨w.heap.size + 1, 2, none⟩ = some (.int .i64 pv2) ∧ X.cell? ⟨w.heap.size + 1, 3, none⟩ = some (.int .i64 b0) ∧ X.cell? ⟨w.heap.size + 1, 4, none⟩ = some (.int .i64 b1) ∧ X.cell? ⟨w.heap.size + 1, 5, none⟩ = some (.int .i64 b2) ∧ X.cell? ⟨w.heap.size + 1, 6, none⟩ = some (.int .i64 b3) ∧ X.cell? ⟨w.heap.size + 1, 7, none⟩ = some (.slice E2 es2.length k2) from fun X hX => ⟨(hX.cell (p := ⟨w.heap.size, 0, none⟩) (by show w.heap.size < _; omega)).trans (HX_4.out 0 (by simp)), (hX.cell (p := ⟨w.heap.size, 1, none⟩) (by show w.heap.size < _; omega)).trans (HX_4.out 1 (by simp)), (hX.cell (p := ⟨w.heap.size, 2, none⟩) (by show w.heap.size < _; omega)).trans (HX_4.out 2 (by simp)), (hX.cell (p := ⟨w.heap.size, 3, none⟩) (by show w.heap.size < _; omega)).trans (HX_4.out 3 (by simp)), (hX.cell (p := ⟨w.heap.size, 4, none⟩) (by show w.heap.size < _; omega)).trans (HX_4.out 4 (by simp)), (hX.cell (p := ⟨w.heap.size, 5, none⟩) (by show w.heap.size < _; omega)).trans (HX_4.out 5 (by simp)), (hX.cell (p := ⟨w.heap.size, 6, none⟩) (by show w.heap.size < _; omega)).trans (HX_4.out 6 (by simp)), (hX.cell (p := ⟨w.heap.size, 7, none⟩) (by show w.heap.size < _; omega)).trans (HX_4.out 7 (by simp)), (hX.cell (p := ⟨w.heap.size + 1, 0, none⟩) (by show w.heap.size + 1 < _; omega)).trans (HY_5.out 0 (by simp)), (hX.cell (p := ⟨w.heap.size + 1, 1, none⟩) (by show w.heap.size + 1 < _; omega)).trans (HY_5.out 1 (by simp)), (hX.cell (p := ⟨w.heap.size + 1, 2, none⟩) (by show w.heap.size + 1 < _; omega)).trans (HY_5.out 2 (by simp)), (hX.cell (p := ⟨w.heap.size + 1, 3, none⟩) (by show w.heap.size + 1 < _; omega)).trans (HY_5.out 3 (by simp)), (hX.cell (p := ⟨w.heap.size + 1, 4, none⟩) (by show w.heap.size + 1 < _; omega)).trans (HY_5.out 4 (by simp)), (hX.cell (p := ⟨w.heap.size + 1, 5, none⟩) (by show w.heap.size + 1 < _; omega)).trans (HY_5.out 5 (by simp)), (hX.cell (p := ⟨w.heap.size + 1, 6, none⟩) (by show w.heap.size + 1 < _; omega)).trans (HY_5.out 6 (by simp)), (hX.cell (p := ⟨w.heap.size + 1, 7, none⟩) (by show w.heap.size + 1 < _; omega)).trans (HY_5.out 7 (by simp))⟩)
  have lX : w.heap.size < W1_1.heap.size := by omega
  have lY : w.heap.size + 1 < W1_1.heap.size := by omega
  obtain ⟨s0, s1, s2, s3, s4, s5, s6, s7, s8, s9, s10, s11, s12, s13, s14, s15⟩ := HCell.out W1_1 (Below.refl _ _)
  by_cases e_au : au = au2
  case neg =>
    have e_b : (au == au2) = false := by simp [e_au]
    have HF := Lib.hid (show mb = false by rw [HMb.out, e_b]; simp)
    go_quiet (fail)
    go_wp2_with fail
    go_ret
    exact ⟨ret_bool (a := false) HF.out.symm, below_drewN Hbel_3.out _⟩
  subst e_au
  have e_aub : (au == au) = true := by simp
  by_cases e_sq : sq = sq2
  case neg =>
    have e_b : (sq == sq2) = false := by simp [e_sq]
    have HF := Lib.hid (show mb = false by rw [HMb.out, e_b]; simp)
    go_quiet (fail)
    go_wp2_with fail
    go_ret
    exact ⟨ret_bool (a := false) HF.out.symm, below_drewN Hbel_3.out _⟩
  subst e_sq
  have e_sqb : (sq == sq) = true := by simp
  obtain ⟨q, hq⟩ : ∃ q, q = (T == U) := ⟨_, rfl⟩
  have HF := Lib.hid (show mb = !q by rw [HMb.out, e_aub, e_sqb, hq]; simp)
  have HQ := Lib.hid (fun (A1 A2 : Option Addr) (c1 c2 : Nat) (X : World) (h1 : BytesIn X 0 X.heap.size A1 T) (h2 : BytesIn X 0 X.heap.size A2 U) => hq ▸ bytesEqual_any A1 A2 T U c1 c2 X h1 h2)
  clear hq HMb e_aub e_sqb
  go_region_held3 (fun X => X.cell? ⟨w.heap.size, 0, none⟩ = some (.int .i64 au) ∧ X.cell? ⟨w.heap.size, 1, none⟩ = some (.int .i64 sq) ∧ X.cell? ⟨w.heap.size, 2, none⟩ = some (.int .i64 pv) ∧ X.cell? ⟨w.heap.size, 3, none⟩ = some (.int .i64 a0) ∧ X.cell? ⟨w.heap.size, 4, none⟩ = some (.int .i64 a1) ∧ X.cell? ⟨w.heap.size, 5, none⟩ = some (.int .i64 a2) ∧ X.cell? ⟨w.heap.size, 6, none⟩ = some (.int .i64 a3) ∧ X.cell? ⟨w.heap.size, 7, none⟩ = some (.slice E1 es.length k1) ∧ X.cell? ⟨w.heap.size + 1, 0, none⟩ = some (.int .i64 au) ∧ X.cell? ⟨w.heap.size + 1, 1, none⟩ = some (.int .i64 sq) ∧ X.cell? ⟨w.heap.size + 1, 2, none⟩ = some (.int .i64 pv2) ∧ X.cell? ⟨w.heap.size + 1, 3, none⟩ = some (.int .i64 b0) ∧ X.cell? ⟨w.heap.size + 1, 4, none⟩ = some (.int .i64 b1) ∧ X.cell? ⟨w.heap.size + 1, 5, none⟩ = some (.int .i64 b2) ∧ X.cell? ⟨w.heap.size + 1, 6, none⟩ = some (.int .i64 b3) ∧ X.cell? ⟨w.heap.size + 1, 7, none⟩ = some (.slice E2 es2.length k2))
    (first | with_reducible exact ⟨s0, s1, s2, s3, s4, s5, s6, s7, s8, s9, s10, s11, s12, s13, s14, s15⟩ | exact ⟨s0, s1, s2, s3, s4, s5, s6, s7, s8, s9, s10, s11, s12, s13, s14, s15⟩ | with_reducible exact ⟨t0, t1, t2, t3, t4, t5, t6, t7, t8, t9, t10, t11, t12, t13, t14, t15⟩ | with_reducible exact ⟨v0, v1, v2, v3, v4, v5, v6, v7, v8, v9, v10, v11, v12, v13, v14, v15⟩ | with_reducible exact ⟨y0, y1, y2, y3, y4, y5, y6, y7, y8, y9, y10, y11, y12, y13, y14, y15⟩)
    (first
      | (go_at_call 75
         refine (HE1.out _ (Hbel_3.out.drew)).mono ?_
         clear HE1
         rintro r u1 ⟨v1, rfl, hr1, hy1⟩
         obtain ⟨A1, c1, rfl, hfr1⟩ := hr1.fr
         have HU1 := Lib.hid (show Below W1_1.heap.size W1_1 u1 from (Below.refl _ _).drew.trans hy1)
         have HF1 := Lib.hid (hfr1.bytes.low (Nat.zero_le _) : BytesIn u1 0 u1.heap.size A1 T)
         obtain ⟨t0, t1, t2, t3, t4, t5, t6, t7, t8, t9, t10, t11, t12, t13, t14, t15⟩ := HCell.out u1 HU1.out
         clear hr1 hy1 hfr1)
      | (go_at_call 75
         refine (HE2.out _ (Hbel_3.out.trans (HU1.out.mono (by omega)))).mono ?_
         clear HE2
         rintro r u2 ⟨v2, rfl, hr2, hy2⟩
         obtain ⟨A2, c2, rfl, hfr2⟩ := hr2.fr
         have HU2 := Lib.hid (show Below W1_1.heap.size W1_1 u2 from HU1.out.trans (hy2.mono HU1.out.size))
         have HF1b := Lib.hid ((HF1.out.keep fun p _ hp => hy2.cell hp).mono hy2.size : BytesIn u2 0 u2.heap.size A1 T)
         have HF2 := Lib.hid (hfr2.bytes.low (Nat.zero_le _) : BytesIn u2 0 u2.heap.size A2 U)
         obtain ⟨v0, v1, v2, v3, v4, v5, v6, v7, v8, v9, v10, v11, v12, v13, v14, v15⟩ := HCell.out u2 HU2.out
         clear hr2 hy2 hfr2)
      | (go_at_call 124
         refine (HQ.out A1 A2 c1 c2 u2 HF1b.out HF2.out).mono ?_
         rintro r u3 ⟨rfl, hy3⟩
         have HU3 := Lib.hid (show Below W1_1.heap.size W1_1 u3 from HU2.out.trans (hy3.mono HU2.out.size))
         obtain ⟨y0, y1, y2, y3, y4, y5, y6, y7, y8, y9, y10, y11, y12, y13, y14, y15⟩ := HCell.out u3 HU3.out
         clear hy3))
  have HB3 := Lib.hid (Hbel_3.out.trans (HU3.out.mono (by omega)))
  clear HCell HU1 HU2 HU3 HF1 HF1b HF2 s0 s1 s2 s3 s4 s5 s6 s7 s8 s9 s10 s11 s12 s13 s14 s15 t0 t1 t2 t3 t4 t5 t6 t7 t8 t9 t10 t11 t12 t13 t14 t15 v0 v1 v2 v3 v4 v5 v6 v7 v8 v9 v10 v11 v12 v13 v14 v15 y0 y1 y2 y3 y4 y5 y6 y7 y8 y9 y10 y11 y12 y13 y14 y15
  go_wp2_with fail
  go_ret
  exact ⟨ret_bool HF.out.symm, HB3.out⟩


end Go.Proofs.Ytblmhhijgdkkoaa

namespace Go.Proofs.Ytblmhhijgdkkoaa
open Go.RowKit Go.Maps

theorem putAll_some {b b' o o' : Nat} {vs : List Value} {w : World} {v : Value} (h : w.cell? ⟨b, o', none⟩ = some v) (hne : b ≠ b') : (putAll b' o vs w).cell? ⟨b, o', none⟩ = some v :=
  (putAll_other hne).trans h
theorem put_map {P : Program} {K : TypeId} {R : Value → Option (DataW Unit × List MemPlace)} {M n b : Nat} {D : DataW Unit} (hne : M ≠ b) : ∀ (vs : List Value) (o : Nat) (w : World), w.ownsMap P K R M n D → (putAll b o vs w).ownsMap P K R M n D
  | [], _, _, h => h
  | _ :: vs, o, w, h => put_map hne vs (o + 1) _ (h.setCell (by exact hne) _)
theorem BkAt.put {w : World} {V : Value} {f : Tm → Int} {b o o' : Nat} {vs : List Value} {v : Value} (h : BkAt w V f) (hp : w.cell? ⟨b, o', none⟩ = some v) : BkAt (putAll b o vs w) V f := by
  rcases h with ⟨ts, M, e, hl, hM, hf⟩ | h
  · refine .inl ⟨ts, M, e, hl, put_map ?_ _ _ _ hM, hf⟩
    rintro rfl
    obtain ⟨_, _, hb, _⟩ := hM
    simp [World.cell?, hb] at hp
  · exact .inr h
theorem BkAt.drew {w : World} {V : Value} {f : Tm → Int} (h : BkAt w V f) : BkAt w.drew V f := by
  rcases h with ⟨ts, M, e, hl, hM, hf⟩ | h
  · exact .inl ⟨ts, M, e, hl, hM.drew, hf⟩
  · exact .inr h
theorem Bx.put_other {w : World} {b b' o : Nat} {us vs : List Value} (h : Bx w b us) (hne : b ≠ b') : Bx (putAll b' o vs w) b us := fun j hj => (putAll_other hne).trans (h j hj)
theorem Bx.drew' {w : World} {b : Nat} {us : List Value} (h : Bx w b us) : Bx w.drew b us := h
theorem EvsIn.drew {w : World} {L B : Nat} {A : Option Addr} {es : List En} (h : EvsIn w L B A es) : EvsIn w.drew L B A es := h
theorem put3 {w : World} {b1 b2 b3 : Nat} {u1 u2 u3 v1 v2 v3 : List Value} (h1 : Bx w b1 u1) (h2 : Bx w b2 u2) (h3 : Bx w b3 u3) (l1 : v1.length = u1.length) (l2 : v2.length = u2.length) (l3 : v3.length = u3.length) (n12 : b1 ≠ b2) (n13 : b1 ≠ b3) (n23 : b2 ≠ b3) :
    Bx (putAll b3 0 v3 (putAll b2 0 v2 (putAll b1 0 v1 w))) b1 v1 ∧ Bx (putAll b3 0 v3 (putAll b2 0 v2 (putAll b1 0 v1 w))) b2 v2 ∧ Bx (putAll b3 0 v3 (putAll b2 0 v2 (putAll b1 0 v1 w))) b3 v3 :=
  ⟨((putAll_bx h1 l1).put_other n12).put_other n13, (putAll_bx (h2.put_other (Ne.symm n12)) l2).put_other n23, putAll_bx ((h3.put_other (Ne.symm n13)).put_other (Ne.symm n23)) l3⟩

/-- A ledger, and two manifests, read. -/
def RdTwo (ts : List Tm) (au sq pv : Int) (vec : List Int) (es : List En) (sg au2 sq2 pv2 : Int) (vec2 : List Int) (es2 : List En) (sg2 : Int) (w : World) (e : Ending) (w' : World) : Prop :=
  ∃ (AB : Option Addr) (nB cB : Nat) (MB : Option Nat) (f : Tm → Int) (x0 x1 x2 x3 : Int) (E1 : Option Addr) (n1 k1 : Nat) (y0 y1 y2 y3 : Int) (E2 : Option Addr) (n2 k2 : Nat),
    e = .returned (.tuple #[.agg #[.slice AB nB cB, .map MB], .agg #[.int .i64 au, .int .i64 sq, .int .i64 pv, .int .i64 x0, .int .i64 x1, .int .i64 x2, .int .i64 x3, .slice E1 n1 k1, .int .i64 sg], .agg #[.int .i64 au2, .int .i64 sq2, .int .i64 pv2, .int .i64 y0, .int .i64 y1, .int .i64 y2, .int .i64 y3, .slice E2 n2 k2, .int .i64 sg2], .bool (lokB ts && sdB f au sq pv vec es sg && sdB f au2 sq2 pv2 vec2 es2 sg2)]) ∧ BkAt w' (.map MB) f ∧ (∀ t, (Lit.int .i64 (f t)).wf = true) ∧ (lokB ts = true → f = lookI ts) ∧
    (treeB vec es = true → vec = [x0, x1, x2, x3] ∧ n1 = es.length ∧ EvsIn w' w.heap.size w'.heap.size E1 es) ∧ (treeB vec2 es2 = true → vec2 = [y0, y1, y2, y3] ∧ n2 = es2.length ∧ EvsIn w' w.heap.size w'.heap.size E2 es2) ∧ Below w.heap.size w w'

set_option maxRecDepth 100000 in
set_option maxHeartbeats 4000000 in
theorem readTwoSaid_any (AL : Option Addr) (ts : List Tm) (cL : Nat) (au sq pv : Int) (AV : Option Addr) (vec : List Int) (cv : Nat) (A : Option Addr) (es : List En) (c : Nat) (sg : Int) (au2 sq2 pv2 : Int) (AV2 : Option Addr) (vec2 : List Int) (cv2 : Nat) (A2 : Option Addr) (es2 : List En) (c2 : Nat) (sg2 : Int) (w : World) (hT : TmsIn w 0 w.heap.size AL ts) (ht : ts.length ≤ 1048576) (htb : bulk ts ≤ 1048576) (hV : IntsIn w 0 w.heap.size AV vec) (hA : EnsIn w 0 w.heap.size A es) (hn : es.length ≤ 1048576) (hbk : ebulk es ≤ 1048576) (hV2 : IntsIn w 0 w.heap.size AV2 vec2) (hA2 : EnsIn w 0 w.heap.size A2 es2) (hn2 : es2.length ≤ 1048576) (hbk2 : ebulk es2 ≤ 1048576) :
    Calls Try.prog 89 #[.agg #[.slice AL ts.length cL], .agg #[.int .i64 au, .int .i64 sq, .int .i64 pv, .slice AV vec.length cv, .slice A es.length c, .int .i64 sg], .agg #[.int .i64 au2, .int .i64 sq2, .int .i64 pv2, .slice AV2 vec2.length cv2, .slice A2 es2.length c2, .int .i64 sg2]] w (RdTwo ts au sq pv vec es sg au2 sq2 pv2 vec2 es2 sg2 w) := by
  have HLg := Lib.hid (fun W (hX : Below w.heap.size w W) => readLedger_bk AL ts cL W ((hT.keep fun p _ hp => hX.cell hp).mono hX.size) ht htb)
  have HSd1 := Lib.hid (fun V1 V2 f W (hX : Below w.heap.size w W) (hM : BkAt W V2 f) (hfw : ∀ t, (Lit.int .i64 (f t)).wf = true) => readSaid_any V1 V2 f au sq pv AV vec cv A es c sg W hM hfw ((hV.keep fun p _ hp => hX.cell hp).mono hX.size) ((hA.below hX).mono hX.size) hn hbk)
  have HSd2 := Lib.hid (fun V1 V2 f W (hX : Below w.heap.size w W) (hM : BkAt W V2 f) (hfw : ∀ t, (Lit.int .i64 (f t)).wf = true) => readSaid_any V1 V2 f au2 sq2 pv2 AV2 vec2 cv2 A2 es2 c2 sg2 W hM hfw ((hV2.keep fun p _ hp => hX.cell hp).mono hX.size) ((hA2.below hX).mono hX.size) hn2 hbk2)
  clear hT hV hA hV2 hA2
  go_enter Try.func89, Try.ntmps89
  go_wp2_with fail
  obtain ⟨W1_0, hW1_0⟩ : ∃ x, x = w.alloc (.cells #[.slice AL ts.length cL] 66) := ⟨_, rfl⟩
  obtain ⟨W1_1, hW1_1⟩ : ∃ x, x = W1_0.alloc (.cells #[.int .i64 au, .int .i64 sq, .int .i64 pv, .slice AV vec.length cv, .slice A es.length c, .int .i64 sg] 52) := ⟨_, rfl⟩
  obtain ⟨W1_2, hW1_2⟩ : ∃ x, x = W1_1.alloc (.cells #[.int .i64 au2, .int .i64 sq2, .int .i64 pv2, .slice AV2 vec2.length cv2, .slice A2 es2.length c2, .int .i64 sg2] 52) := ⟨_, rfl⟩
  obtain ⟨W1_3, hW1_3⟩ : ∃ x, x = W1_2.alloc (.cells #[.slice none 0 0, .map none] 122) := ⟨_, rfl⟩
  obtain ⟨W1_4, hW1_4⟩ : ∃ x, x = W1_3.alloc (.cells #[.int .i64 0, .int .i64 0, .int .i64 0, .int .i64 0, .int .i64 0, .int .i64 0, .int .i64 0, .slice none 0 0, .int .i64 0] 107) := ⟨_, rfl⟩
  obtain ⟨W1_5, hW1_5⟩ : ∃ x, x = W1_4.alloc (.cells #[.int .i64 0, .int .i64 0, .int .i64 0, .int .i64 0, .int .i64 0, .int .i64 0, .int .i64 0, .slice none 0 0, .int .i64 0] 107) := ⟨_, rfl⟩
  have hZ1_0 : W1_0.heap.size = w.heap.size + 1 := by rw [hW1_0]; simp
  have hZ1_1 : W1_1.heap.size = w.heap.size + 2 := by rw [hW1_1]; simp [hZ1_0]
  have hZ1_2 : W1_2.heap.size = w.heap.size + 3 := by rw [hW1_2]; simp [hZ1_1]
  have hZ1_3 : W1_3.heap.size = w.heap.size + 4 := by rw [hW1_3]; simp [hZ1_2]
  have hZ1_4 : W1_4.heap.size = w.heap.size + 5 := by rw [hW1_4]; simp [hZ1_3]
  have hZ1_5 : W1_5.heap.size = w.heap.size + 6 := by rw [hW1_5]; simp [hZ1_4]
  have hx0 : Bx W1_0 (w.heap.size) [.slice AL ts.length cL] := by rw [hW1_0]; exact Bx.new' _ _ _ _ rfl
  replace hx0 : Bx W1_1 (w.heap.size) [.slice AL ts.length cL] := by rw [hW1_1]; exact hx0.alloc (by omega) _
  replace hx0 : Bx W1_2 (w.heap.size) [.slice AL ts.length cL] := by rw [hW1_2]; exact hx0.alloc (by omega) _
  replace hx0 : Bx W1_3 (w.heap.size) [.slice AL ts.length cL] := by rw [hW1_3]; exact hx0.alloc (by omega) _
  replace hx0 : Bx W1_4 (w.heap.size) [.slice AL ts.length cL] := by rw [hW1_4]; exact hx0.alloc (by omega) _
  replace hx0 : Bx W1_5 (w.heap.size) [.slice AL ts.length cL] := by rw [hW1_5]; exact hx0.alloc (by omega) _
  have hx1 : Bx W1_1 (w.heap.size + 1) [.int .i64 au, .int .i64 sq, .int .i64 pv, .slice AV vec.length cv, .slice A es.length c, .int .i64 sg] := by rw [hW1_1, ← hZ1_0]; exact Bx.new' _ _ _ _ rfl
  replace hx1 : Bx W1_2 (w.heap.size + 1) [.int .i64 au, .int .i64 sq, .int .i64 pv, .slice AV vec.length cv, .slice A es.length c, .int .i64 sg] := by rw [hW1_2]; exact hx1.alloc (by omega) _
  replace hx1 : Bx W1_3 (w.heap.size + 1) [.int .i64 au, .int .i64 sq, .int .i64 pv, .slice AV vec.length cv, .slice A es.length c, .int .i64 sg] := by rw [hW1_3]; exact hx1.alloc (by omega) _
  replace hx1 : Bx W1_4 (w.heap.size + 1) [.int .i64 au, .int .i64 sq, .int .i64 pv, .slice AV vec.length cv, .slice A es.length c, .int .i64 sg] := by rw [hW1_4]; exact hx1.alloc (by omega) _
  replace hx1 : Bx W1_5 (w.heap.size + 1) [.int .i64 au, .int .i64 sq, .int .i64 pv, .slice AV vec.length cv, .slice A es.length c, .int .i64 sg] := by rw [hW1_5]; exact hx1.alloc (by omega) _
  have hx2 : Bx W1_2 (w.heap.size + 2) [.int .i64 au2, .int .i64 sq2, .int .i64 pv2, .slice AV2 vec2.length cv2, .slice A2 es2.length c2, .int .i64 sg2] := by rw [hW1_2, ← hZ1_1]; exact Bx.new' _ _ _ _ rfl
  replace hx2 : Bx W1_3 (w.heap.size + 2) [.int .i64 au2, .int .i64 sq2, .int .i64 pv2, .slice AV2 vec2.length cv2, .slice A2 es2.length c2, .int .i64 sg2] := by rw [hW1_3]; exact hx2.alloc (by omega) _
  replace hx2 : Bx W1_4 (w.heap.size + 2) [.int .i64 au2, .int .i64 sq2, .int .i64 pv2, .slice AV2 vec2.length cv2, .slice A2 es2.length c2, .int .i64 sg2] := by rw [hW1_4]; exact hx2.alloc (by omega) _
  replace hx2 : Bx W1_5 (w.heap.size + 2) [.int .i64 au2, .int .i64 sq2, .int .i64 pv2, .slice AV2 vec2.length cv2, .slice A2 es2.length c2, .int .i64 sg2] := by rw [hW1_5]; exact hx2.alloc (by omega) _
  have hx3 : Bx W1_3 (w.heap.size + 3) [.slice none 0 0, .map none] := by rw [hW1_3, ← hZ1_2]; exact Bx.new' _ _ _ _ rfl
  replace hx3 : Bx W1_4 (w.heap.size + 3) [.slice none 0 0, .map none] := by rw [hW1_4]; exact hx3.alloc (by omega) _
  replace hx3 : Bx W1_5 (w.heap.size + 3) [.slice none 0 0, .map none] := by rw [hW1_5]; exact hx3.alloc (by omega) _
  have hx4 : Bx W1_4 (w.heap.size + 4) [.int .i64 0, .int .i64 0, .int .i64 0, .int .i64 0, .int .i64 0, .int .i64 0, .int .i64 0, .slice none 0 0, .int .i64 0] := by rw [hW1_4, ← hZ1_3]; exact Bx.new' _ _ _ _ rfl
  replace hx4 : Bx W1_5 (w.heap.size + 4) [.int .i64 0, .int .i64 0, .int .i64 0, .int .i64 0, .int .i64 0, .int .i64 0, .int .i64 0, .slice none 0 0, .int .i64 0] := by rw [hW1_5]; exact hx4.alloc (by omega) _
  have hx5 : Bx W1_5 (w.heap.size + 5) [.int .i64 0, .int .i64 0, .int .i64 0, .int .i64 0, .int .i64 0, .int .i64 0, .int .i64 0, .slice none 0 0, .int .i64 0] := by rw [hW1_5, ← hZ1_4]; exact Bx.new' _ _ _ _ rfl
  have hb0 : Below w.heap.size w W1_5 := by rw [hW1_5, hW1_4, hW1_3, hW1_2, hW1_1, hW1_0]; exact (((((((Below.refl _ _).alloc (by first | exact Nat.le_refl _ | (simp; done) | (simp; omega)) _).alloc (by first | exact Nat.le_refl _ | (simp; done) | (simp; omega)) _).alloc (by first | exact Nat.le_refl _ | (simp; done) | (simp; omega)) _).alloc (by first | exact Nat.le_refl _ | (simp; done) | (simp; omega)) _).alloc (by first | exact Nat.le_refl _ | (simp; done) | (simp; omega)) _).alloc (by first | exact Nat.le_refl _ | (simp; done) | (simp; omega)) _)
  have hf3 : ∀ o, W1_5.frozen? ⟨w.heap.size + 3, o, none⟩ = false := fun o => by rw [hW1_5, hW1_4, hW1_3, hW1_2, hW1_1, hW1_0]; exact (((((((Fresh.refl w).alloc _ _).alloc _ _).alloc _ _).alloc _ _).alloc _ _).alloc _ _) ⟨w.heap.size + 3, o, none⟩ (by show w.heap.size ≤ w.heap.size + 3; omega)
  have hf4 : ∀ o, W1_5.frozen? ⟨w.heap.size + 4, o, none⟩ = false := fun o => by rw [hW1_5, hW1_4, hW1_3, hW1_2, hW1_1, hW1_0]; exact (((((((Fresh.refl w).alloc _ _).alloc _ _).alloc _ _).alloc _ _).alloc _ _).alloc _ _) ⟨w.heap.size + 4, o, none⟩ (by show w.heap.size ≤ w.heap.size + 4; omega)
  have hf5 : ∀ o, W1_5.frozen? ⟨w.heap.size + 5, o, none⟩ = false := fun o => by rw [hW1_5, hW1_4, hW1_3, hW1_2, hW1_1, hW1_0]; exact (((((((Fresh.refl w).alloc _ _).alloc _ _).alloc _ _).alloc _ _).alloc _ _).alloc _ _) ⟨w.heap.size + 5, o, none⟩ (by show w.heap.size ≤ w.heap.size + 5; omega)
  have hlt : w.heap.size + 5 < W1_5.heap.size := by omega
  rw [← hW1_0, ← hW1_1, ← hW1_2, ← hW1_3, ← hW1_4, ← hW1_5]
  clear hW1_0 hZ1_0 hW1_1 hZ1_1 hW1_2 hZ1_2 hW1_3 hZ1_3 hW1_4 hZ1_4 hW1_5 hZ1_5
  have z_2 := hb0.size
  have Hbel_3 := Lib.hid (hb0)
  have HL_4 := Lib.hid (hx0)
  have HP_5 := Lib.hid (hx1)
  have HQ_6 := Lib.hid (hx2)
  have HR_7 := Lib.hid (hx3)
  have HRF_8 := Lib.hid (hf3)
  clear hf3
  have HS_9 := Lib.hid (hx4)
  have HSF_10 := Lib.hid (hf4)
  clear hf4
  have HT_11 := Lib.hid (hx5)
  have HTF_12 := Lib.hid (hf5)
  clear hf5
  clear hb0 hx0 hx1 hx2 hx3 hx4 hx5
  have hl_13 := hlt
  clear hlt
  have hW0 : W1_5.heap.size ≤ W1_5.heap.size := Nat.le_refl _
  refine (HLg.out W1_5 Hbel_3.out).mono ?_
  rintro e w1 ⟨AB, nB, cB, MB, f, rfl, hbk0, hfw, hlk, hb⟩
  have z_14 := hb.size
  have Hbel_15 := Lib.hid (Hbel_3.out.trans (hb.mono (by omega)))
  have HP_16 := Lib.hid (HP_5.out.below hb (by omega))
  have HQ_17 := Lib.hid (HQ_6.out.below hb (by omega))
  have HR_18 := Lib.hid (HR_7.out.below hb (by omega))
  have HRF_19 := Lib.hid (show ∀ o, w1.frozen? ⟨w.heap.size + 3, o, none⟩ = false from fun o => (hb.frozen (p := ⟨w.heap.size + 3, o, none⟩) (by show w.heap.size + 3 < _; omega)).trans (HRF_8.out o))
  have HS_20 := Lib.hid (HS_9.out.below hb (by omega))
  have HSF_21 := Lib.hid (show ∀ o, w1.frozen? ⟨w.heap.size + 4, o, none⟩ = false from fun o => (hb.frozen (p := ⟨w.heap.size + 4, o, none⟩) (by show w.heap.size + 4 < _; omega)).trans (HSF_10.out o))
  have HT_22 := Lib.hid (HT_11.out.below hb (by omega))
  have HTF_23 := Lib.hid (show ∀ o, w1.frozen? ⟨w.heap.size + 5, o, none⟩ = false from fun o => (hb.frozen (p := ⟨w.heap.size + 5, o, none⟩) (by show w.heap.size + 5 < _; omega)).trans (HTF_12.out o))
  clear Hbel_3 HL_4 HP_5 HQ_6 HR_7 HRF_8 HS_9 HSF_10 HT_11 HTF_12
  have Hbk_24 := Lib.hid (hbk0)
  clear hb
  have HFw := Lib.hid hfw
  have HLk := Lib.hid hlk
  clear hbk0 hfw hlk HLg
  obtain ⟨b0, hb0⟩ : ∃ b, b = lokB ts := ⟨_, rfl⟩
  have HB0 := Lib.hid hb0
  rw [← hb0]
  clear hb0
  have qP_0 := HP_16.out 0 (by simp)
  have qP_1 := HP_16.out 1 (by simp)
  have qP_2 := HP_16.out 2 (by simp)
  have qP_3 := HP_16.out 3 (by simp)
  have qP_4 := HP_16.out 4 (by simp)
  have qP_5 := HP_16.out 5 (by simp)
  have lP : w.heap.size + 1 < w1.heap.size := by omega
  simp only [List.getElem_cons_succ, List.getElem_cons_zero] at qP_0 qP_1 qP_2 qP_3 qP_4 qP_5
  go_wp2_with fail
  clear qP_0 qP_1 qP_2 qP_3 qP_4 qP_5 lP
  obtain ⟨W25_0, hW25_0⟩ : ∃ x, x = w1.alloc (.cells #[.slice AB nB cB, .map MB] 122) := ⟨_, rfl⟩
  have hZ25_0 : W25_0.heap.size = w1.heap.size + 1 := by rw [hW25_0]; simp
  have hx0 : Bx W25_0 (w1.heap.size) [.slice AB nB cB, .map MB] := by rw [hW25_0]; exact Bx.new' _ _ _ _ rfl
  have hb0 : Below w1.heap.size w1 W25_0 := by rw [hW25_0]; exact ((Below.refl _ _).alloc (by first | exact Nat.le_refl _ | (simp; done) | (simp; omega)) _)
  have hlt : w1.heap.size + 0 < W25_0.heap.size := by omega
  rw [← hW25_0]
  clear hW25_0 hZ25_0
  have z_26 := hb0.size
  have Hbel_27 := Lib.hid (Hbel_15.out.trans (hb0.mono (by omega)))
  have HP_28 := Lib.hid (HP_16.out.below hb0 (by omega))
  have HQ_29 := Lib.hid (HQ_17.out.below hb0 (by omega))
  have HR_30 := Lib.hid (HR_18.out.below hb0 (by omega))
  have HRF_31 := Lib.hid (show ∀ o, W25_0.frozen? ⟨w.heap.size + 3, o, none⟩ = false from fun o => (hb0.frozen (p := ⟨w.heap.size + 3, o, none⟩) (by show w.heap.size + 3 < _; omega)).trans (HRF_19.out o))
  have HS_32 := Lib.hid (HS_20.out.below hb0 (by omega))
  have HSF_33 := Lib.hid (show ∀ o, W25_0.frozen? ⟨w.heap.size + 4, o, none⟩ = false from fun o => (hb0.frozen (p := ⟨w.heap.size + 4, o, none⟩) (by show w.heap.size + 4 < _; omega)).trans (HSF_21.out o))
  have HT_34 := Lib.hid (HT_22.out.below hb0 (by omega))
  have HTF_35 := Lib.hid (show ∀ o, W25_0.frozen? ⟨w.heap.size + 5, o, none⟩ = false from fun o => (hb0.frozen (p := ⟨w.heap.size + 5, o, none⟩) (by show w.heap.size + 5 < _; omega)).trans (HTF_23.out o))
  have Hbk_36 := Lib.hid (Hbk_24.out.below hb0)
  clear Hbel_15 HP_16 HQ_17 HR_18 HRF_19 HS_20 HSF_21 HT_22 HTF_23 Hbk_24
  have HB_37 := Lib.hid (hx0)
  clear hb0 hx0
  have hl_38 := hlt
  clear hlt
  refine (HSd1.out (.slice AB nB cB) (.map MB) f W25_0 Hbel_27.out Hbk_36.out HFw.out).mono ?_
  rintro e w2 ⟨x0, x1, x2, x3, E1, n1, k1, rfl, htr, hb⟩
  have z_39 := hb.size
  have Hbel_40 := Lib.hid (Hbel_27.out.trans (hb.mono (by omega)))
  have HQ_41 := Lib.hid (HQ_29.out.below hb (by omega))
  have HR_42 := Lib.hid (HR_30.out.below hb (by omega))
  have HRF_43 := Lib.hid (show ∀ o, w2.frozen? ⟨w.heap.size + 3, o, none⟩ = false from fun o => (hb.frozen (p := ⟨w.heap.size + 3, o, none⟩) (by show w.heap.size + 3 < _; omega)).trans (HRF_31.out o))
  have HS_44 := Lib.hid (HS_32.out.below hb (by omega))
  have HSF_45 := Lib.hid (show ∀ o, w2.frozen? ⟨w.heap.size + 4, o, none⟩ = false from fun o => (hb.frozen (p := ⟨w.heap.size + 4, o, none⟩) (by show w.heap.size + 4 < _; omega)).trans (HSF_33.out o))
  have HT_46 := Lib.hid (HT_34.out.below hb (by omega))
  have HTF_47 := Lib.hid (show ∀ o, w2.frozen? ⟨w.heap.size + 5, o, none⟩ = false from fun o => (hb.frozen (p := ⟨w.heap.size + 5, o, none⟩) (by show w.heap.size + 5 < _; omega)).trans (HTF_35.out o))
  have Hbk_48 := Lib.hid (Hbk_36.out.below hb)
  have HB_49 := Lib.hid (HB_37.out.below hb (by omega))
  clear Hbel_27 HP_28 HQ_29 HR_30 HRF_31 HS_32 HSF_33 HT_34 HTF_35 Hbk_36 HB_37
  have Htr0_50 := Lib.hid (show (treeB vec es = true → vec = [x0, x1, x2, x3] ∧ n1 = es.length ∧ EvsIn w2 W1_5.heap.size w2.heap.size E1 es) from fun h => ⟨(htr h).1, (htr h).2.1, (htr h).2.2.low (by omega)⟩)
  clear hb
  obtain ⟨b1, hb1⟩ : ∃ b, b = sdB f au sq pv vec es sg := ⟨_, rfl⟩
  have HB1 := Lib.hid hb1
  rw [← hb1]
  clear hb1 htr HSd1
  have qQ_0 := HQ_41.out 0 (by simp)
  have qQ_1 := HQ_41.out 1 (by simp)
  have qQ_2 := HQ_41.out 2 (by simp)
  have qQ_3 := HQ_41.out 3 (by simp)
  have qQ_4 := HQ_41.out 4 (by simp)
  have qQ_5 := HQ_41.out 5 (by simp)
  have lQ : w.heap.size + 2 < w2.heap.size := by omega
  have qB_0 := HB_49.out 0 (by simp)
  have qB_1 := HB_49.out 1 (by simp)
  have lB : w1.heap.size < w2.heap.size := by omega
  simp only [List.getElem_cons_succ, List.getElem_cons_zero] at qQ_0 qQ_1 qQ_2 qQ_3 qQ_4 qQ_5 qB_0 qB_1
  go_wp2_with fail
  clear qQ_0 qQ_1 qQ_2 qQ_3 qQ_4 qQ_5 lQ qB_0 qB_1 lB
  obtain ⟨W51_0, hW51_0⟩ : ∃ x, x = w2.alloc (.cells #[.int .i64 au, .int .i64 sq, .int .i64 pv, .int .i64 x0, .int .i64 x1, .int .i64 x2, .int .i64 x3, .slice E1 n1 k1, .int .i64 sg] 107) := ⟨_, rfl⟩
  have hZ51_0 : W51_0.heap.size = w2.heap.size + 1 := by rw [hW51_0]; simp
  have hx0 : Bx W51_0 (w2.heap.size) [.int .i64 au, .int .i64 sq, .int .i64 pv, .int .i64 x0, .int .i64 x1, .int .i64 x2, .int .i64 x3, .slice E1 n1 k1, .int .i64 sg] := by rw [hW51_0]; exact Bx.new' _ _ _ _ rfl
  have hb0 : Below w2.heap.size w2 W51_0 := by rw [hW51_0]; exact ((Below.refl _ _).alloc (by first | exact Nat.le_refl _ | (simp; done) | (simp; omega)) _)
  have hlt : w2.heap.size + 0 < W51_0.heap.size := by omega
  rw [← hW51_0]
  clear hW51_0 hZ51_0
  have z_52 := hb0.size
  have Hbel_53 := Lib.hid (Hbel_40.out.trans (hb0.mono (by omega)))
  have HQ_54 := Lib.hid (HQ_41.out.below hb0 (by omega))
  have HR_55 := Lib.hid (HR_42.out.below hb0 (by omega))
  have HRF_56 := Lib.hid (show ∀ o, W51_0.frozen? ⟨w.heap.size + 3, o, none⟩ = false from fun o => (hb0.frozen (p := ⟨w.heap.size + 3, o, none⟩) (by show w.heap.size + 3 < _; omega)).trans (HRF_43.out o))
  have HS_57 := Lib.hid (HS_44.out.below hb0 (by omega))
  have HSF_58 := Lib.hid (show ∀ o, W51_0.frozen? ⟨w.heap.size + 4, o, none⟩ = false from fun o => (hb0.frozen (p := ⟨w.heap.size + 4, o, none⟩) (by show w.heap.size + 4 < _; omega)).trans (HSF_45.out o))
  have HT_59 := Lib.hid (HT_46.out.below hb0 (by omega))
  have HTF_60 := Lib.hid (show ∀ o, W51_0.frozen? ⟨w.heap.size + 5, o, none⟩ = false from fun o => (hb0.frozen (p := ⟨w.heap.size + 5, o, none⟩) (by show w.heap.size + 5 < _; omega)).trans (HTF_47.out o))
  have Hbk_61 := Lib.hid (Hbk_48.out.below hb0)
  have HB_62 := Lib.hid (HB_49.out.below hb0 (by omega))
  have Htr0_63 := Lib.hid (show (treeB vec es = true → vec = [x0, x1, x2, x3] ∧ n1 = es.length ∧ EvsIn W51_0 W1_5.heap.size W51_0.heap.size E1 es) from fun h => ⟨(Htr0_50.out h).1, (Htr0_50.out h).2.1, (((Htr0_50.out h).2.2.below hb0).mono hb0.size)⟩)
  clear Hbel_40 HQ_41 HR_42 HRF_43 HS_44 HSF_45 HT_46 HTF_47 Hbk_48 HB_49 Htr0_50
  have HX_64 := Lib.hid (hx0)
  clear hb0 hx0
  have hl_65 := hlt
  clear hlt
  refine (HSd2.out (.slice AB nB cB) (.map MB) f W51_0 Hbel_53.out Hbk_61.out HFw.out).mono ?_
  rintro e w3 ⟨y0, y1, y2, y3, E2, n2, k2, rfl, htr, hb⟩
  have z_66 := hb.size
  have Hbel_67 := Lib.hid (Hbel_53.out.trans (hb.mono (by omega)))
  have HR_68 := Lib.hid (HR_55.out.below hb (by omega))
  have HRF_69 := Lib.hid (show ∀ o, w3.frozen? ⟨w.heap.size + 3, o, none⟩ = false from fun o => (hb.frozen (p := ⟨w.heap.size + 3, o, none⟩) (by show w.heap.size + 3 < _; omega)).trans (HRF_56.out o))
  have HS_70 := Lib.hid (HS_57.out.below hb (by omega))
  have HSF_71 := Lib.hid (show ∀ o, w3.frozen? ⟨w.heap.size + 4, o, none⟩ = false from fun o => (hb.frozen (p := ⟨w.heap.size + 4, o, none⟩) (by show w.heap.size + 4 < _; omega)).trans (HSF_58.out o))
  have HT_72 := Lib.hid (HT_59.out.below hb (by omega))
  have HTF_73 := Lib.hid (show ∀ o, w3.frozen? ⟨w.heap.size + 5, o, none⟩ = false from fun o => (hb.frozen (p := ⟨w.heap.size + 5, o, none⟩) (by show w.heap.size + 5 < _; omega)).trans (HTF_60.out o))
  have Hbk_74 := Lib.hid (Hbk_61.out.below hb)
  have HB_75 := Lib.hid (HB_62.out.below hb (by omega))
  have Htr0_76 := Lib.hid (show (treeB vec es = true → vec = [x0, x1, x2, x3] ∧ n1 = es.length ∧ EvsIn w3 W1_5.heap.size w3.heap.size E1 es) from fun h => ⟨(Htr0_63.out h).1, (Htr0_63.out h).2.1, (((Htr0_63.out h).2.2.below hb).mono hb.size)⟩)
  have HX_77 := Lib.hid (HX_64.out.below hb (by omega))
  clear Hbel_53 HQ_54 HR_55 HRF_56 HS_57 HSF_58 HT_59 HTF_60 Hbk_61 HB_62 Htr0_63 HX_64
  have Htr1_78 := Lib.hid (show (treeB vec2 es2 = true → vec2 = [y0, y1, y2, y3] ∧ n2 = es2.length ∧ EvsIn w3 W1_5.heap.size w3.heap.size E2 es2) from fun h => ⟨(htr h).1, (htr h).2.1, (htr h).2.2.low (by omega)⟩)
  clear hb
  obtain ⟨b2, hb2⟩ : ∃ b, b = sdB f au2 sq2 pv2 vec2 es2 sg2 := ⟨_, rfl⟩
  have HB2 := Lib.hid hb2
  rw [← hb2]
  clear hb2 htr HSd2
  go_wp2_with fail
  obtain ⟨W79_0, hW79_0⟩ : ∃ x, x = w3.alloc (.cells #[.int .i64 au2, .int .i64 sq2, .int .i64 pv2, .int .i64 y0, .int .i64 y1, .int .i64 y2, .int .i64 y3, .slice E2 n2 k2, .int .i64 sg2] 107) := ⟨_, rfl⟩
  have hZ79_0 : W79_0.heap.size = w3.heap.size + 1 := by rw [hW79_0]; simp
  have hx0 : Bx W79_0 (w3.heap.size) [.int .i64 au2, .int .i64 sq2, .int .i64 pv2, .int .i64 y0, .int .i64 y1, .int .i64 y2, .int .i64 y3, .slice E2 n2 k2, .int .i64 sg2] := by rw [hW79_0]; exact Bx.new' _ _ _ _ rfl
  have hb0 : Below w3.heap.size w3 W79_0 := by rw [hW79_0]; exact ((Below.refl _ _).alloc (by first | exact Nat.le_refl _ | (simp; done) | (simp; omega)) _)
  have hlt : w3.heap.size + 0 < W79_0.heap.size := by omega
  rw [← hW79_0]
  clear hW79_0 hZ79_0
  have z_80 := hb0.size
  have Hbel_81 := Lib.hid (Hbel_67.out.trans (hb0.mono (by omega)))
  have HR_82 := Lib.hid (HR_68.out.below hb0 (by omega))
  have HRF_83 := Lib.hid (show ∀ o, W79_0.frozen? ⟨w.heap.size + 3, o, none⟩ = false from fun o => (hb0.frozen (p := ⟨w.heap.size + 3, o, none⟩) (by show w.heap.size + 3 < _; omega)).trans (HRF_69.out o))
  have HS_84 := Lib.hid (HS_70.out.below hb0 (by omega))
  have HSF_85 := Lib.hid (show ∀ o, W79_0.frozen? ⟨w.heap.size + 4, o, none⟩ = false from fun o => (hb0.frozen (p := ⟨w.heap.size + 4, o, none⟩) (by show w.heap.size + 4 < _; omega)).trans (HSF_71.out o))
  have HT_86 := Lib.hid (HT_72.out.below hb0 (by omega))
  have HTF_87 := Lib.hid (show ∀ o, W79_0.frozen? ⟨w.heap.size + 5, o, none⟩ = false from fun o => (hb0.frozen (p := ⟨w.heap.size + 5, o, none⟩) (by show w.heap.size + 5 < _; omega)).trans (HTF_73.out o))
  have Hbk_88 := Lib.hid (Hbk_74.out.below hb0)
  have HB_89 := Lib.hid (HB_75.out.below hb0 (by omega))
  have Htr0_90 := Lib.hid (show (treeB vec es = true → vec = [x0, x1, x2, x3] ∧ n1 = es.length ∧ EvsIn W79_0 W1_5.heap.size W79_0.heap.size E1 es) from fun h => ⟨(Htr0_76.out h).1, (Htr0_76.out h).2.1, (((Htr0_76.out h).2.2.below hb0).mono hb0.size)⟩)
  have HX_91 := Lib.hid (HX_77.out.below hb0 (by omega))
  have Htr1_92 := Lib.hid (show (treeB vec2 es2 = true → vec2 = [y0, y1, y2, y3] ∧ n2 = es2.length ∧ EvsIn W79_0 W1_5.heap.size W79_0.heap.size E2 es2) from fun h => ⟨(Htr1_78.out h).1, (Htr1_78.out h).2.1, (((Htr1_78.out h).2.2.below hb0).mono hb0.size)⟩)
  clear Hbel_67 HR_68 HRF_69 HS_70 HSF_71 HT_72 HTF_73 Hbk_74 HB_75 Htr0_76 HX_77 Htr1_78
  have HY_93 := Lib.hid (hx0)
  clear hb0 hx0
  have hl_94 := hlt
  clear hlt
  have hp1 : W1_5.heap.size ≤ W79_0.heap.size := by omega
  have HFin := Lib.hid (show ∃ W9 : World, W9 = (putAll (w.heap.size + 1 + 1 + 1 + 1 + 1) 0 [.int .i64 au2, .int .i64 sq2, .int .i64 pv2, .int .i64 y0, .int .i64 y1, .int .i64 y2, .int .i64 y3, .slice E2 n2 k2, .int .i64 sg2] (putAll (w.heap.size + 1 + 1 + 1 + 1) 0 [.int .i64 au, .int .i64 sq, .int .i64 pv, .int .i64 x0, .int .i64 x1, .int .i64 x2, .int .i64 x3, .slice E1 n1 k1, .int .i64 sg] (putAll (w.heap.size + 1 + 1 + 1) 0 [.slice AB nB cB, .map MB] W79_0))).drew ∧ (W9.cell? ⟨w.heap.size + 1 + 1 + 1, 0, none⟩ = some (.slice AB nB cB) ∧ W9.cell? ⟨w.heap.size + 1 + 1 + 1, 1, none⟩ = some (.map MB) ∧ W9.cell? ⟨w.heap.size + 1 + 1 + 1 + 1, 0, none⟩ = some (.int .i64 au) ∧ W9.cell? ⟨w.heap.size + 1 + 1 + 1 + 1, 1, none⟩ = some (.int .i64 sq) ∧ W9.cell? ⟨w.heap.size + 1 + 1 + 1 + 1, 2, none⟩ = some (.int .i64 pv) ∧ W9.cell? ⟨w.heap.size + 1 + 1 + 1 + 1, 3, none⟩ = some (.int .i64 x0) ∧ W9.cell? ⟨w.heap.size + 1 + 1 + 1 + 1, 4, none⟩ = some (.int .i64 x1) ∧ W9.cell? ⟨w.heap.size + 1 + 1 + 1 + 1, 5, none⟩ = some (.int .i64 x2) ∧ W9.cell? ⟨w.heap.size + 1 + 1 + 1 + 1, 6, none⟩ = some (.int .i64 x3) ∧ W9.cell? ⟨w.heap.size + 1 + 1 + 1 + 1, 7, none⟩ = some (.slice E1 n1 k1) ∧ W9.cell? ⟨w.heap.size + 1 + 1 + 1 + 1, 8, none⟩ = some (.int .i64 sg) ∧ W9.cell? ⟨w.heap.size + 1 + 1 + 1 + 1 + 1, 0, none⟩ = some (.int .i64 au2) ∧ W9.cell? ⟨w.heap.size + 1 + 1 + 1 + 1 + 1, 1, none⟩ = some (.int .i64 sq2) ∧ W9.cell? ⟨w.heap.size + 1 + 1 + 1 + 1 + 1, 2, none⟩ = some (.int .i64 pv2) ∧ W9.cell? ⟨w.heap.size + 1 + 1 + 1 + 1 + 1, 3, none⟩ = some (.int .i64 y0) ∧ W9.cell? ⟨w.heap.size + 1 + 1 + 1 + 1 + 1, 4, none⟩ = some (.int .i64 y1) ∧ W9.cell? ⟨w.heap.size + 1 + 1 + 1 + 1 + 1, 5, none⟩ = some (.int .i64 y2) ∧ W9.cell? ⟨w.heap.size + 1 + 1 + 1 + 1 + 1, 6, none⟩ = some (.int .i64 y3) ∧ W9.cell? ⟨w.heap.size + 1 + 1 + 1 + 1 + 1, 7, none⟩ = some (.slice E2 n2 k2) ∧ W9.cell? ⟨w.heap.size + 1 + 1 + 1 + 1 + 1, 8, none⟩ = some (.int .i64 sg2)) ∧ BkAt W9 (.map MB) f ∧ (treeB vec es = true → vec = [x0, x1, x2, x3] ∧ n1 = es.length ∧ EvsIn W9 w.heap.size W9.heap.size E1 es) ∧ (treeB vec2 es2 = true → vec2 = [y0, y1, y2, y3] ∧ n2 = es2.length ∧ EvsIn W9 w.heap.size W9.heap.size E2 es2) ∧ Below w.heap.size w W9 from by
    have hp := put3 (v1 := [.slice AB nB cB, .map MB]) (v2 := [.int .i64 au, .int .i64 sq, .int .i64 pv, .int .i64 x0, .int .i64 x1, .int .i64 x2, .int .i64 x3, .slice E1 n1 k1, .int .i64 sg]) (v3 := [.int .i64 au2, .int .i64 sq2, .int .i64 pv2, .int .i64 y0, .int .i64 y1, .int .i64 y2, .int .i64 y3, .slice E2 n2 k2, .int .i64 sg2]) HR_82.out HS_84.out HT_86.out rfl rfl rfl (by omega) (by omega) (by omega)
    obtain ⟨h3, h4, h5⟩ : Bx _ _ _ ∧ Bx _ _ _ ∧ Bx _ _ _ := ⟨hp.1.drew', hp.2.1.drew', hp.2.2.drew'⟩
    refine ⟨_, rfl, ⟨h3 0 (by simp), h3 1 (by simp), h4 0 (by simp), h4 1 (by simp), h4 2 (by simp), h4 3 (by simp), h4 4 (by simp), h4 5 (by simp), h4 6 (by simp), h4 7 (by simp), h4 8 (by simp), h5 0 (by simp), h5 1 (by simp), h5 2 (by simp), h5 3 (by simp), h5 4 (by simp), h5 5 (by simp), h5 6 (by simp), h5 7 (by simp), h5 8 (by simp)⟩, ?_, fun h => ?_, fun h => ?_, ?_⟩
    · exact ((((Hbk_88.out).put (HR_82.out 0 (by simp))).put (putAll_some (HS_84.out 0 (by simp)) (by omega))).put (putAll_some (putAll_some (HT_86.out 0 (by simp)) (by omega)) (by omega))).drew
    · obtain ⟨h1, h2, h6⟩ := Htr0_90.out h
      exact ⟨h1, h2, (((h6.keep fun q hq _ => ((putAll_other (by omega)).trans (putAll_other (by omega))).trans (putAll_other (by omega))).low (by omega)).mono (by simp [putAll_size])).drew⟩
    · obtain ⟨h1, h2, h6⟩ := Htr1_92.out h
      exact ⟨h1, h2, (((h6.keep fun q hq _ => ((putAll_other (by omega)).trans (putAll_other (by omega))).trans (putAll_other (by omega))).low (by omega)).mono (by simp [putAll_size])).drew⟩
    · exact (putAll_below (putAll_below (putAll_below Hbel_81.out (by omega)) (by omega)) (by omega)).drew)
  have qB_0 := HB_89.out 0 (by simp)
  have qB_1 := HB_89.out 1 (by simp)
  have lB : w1.heap.size < W79_0.heap.size := by omega
  have qX_0 := HX_91.out 0 (by simp)
  have qX_1 := HX_91.out 1 (by simp)
  have qX_2 := HX_91.out 2 (by simp)
  have qX_3 := HX_91.out 3 (by simp)
  have qX_4 := HX_91.out 4 (by simp)
  have qX_5 := HX_91.out 5 (by simp)
  have qX_6 := HX_91.out 6 (by simp)
  have qX_7 := HX_91.out 7 (by simp)
  have qX_8 := HX_91.out 8 (by simp)
  have lX : w2.heap.size < W79_0.heap.size := by omega
  have qY_0 := HY_93.out 0 (by simp)
  have qY_1 := HY_93.out 1 (by simp)
  have qY_2 := HY_93.out 2 (by simp)
  have qY_3 := HY_93.out 3 (by simp)
  have qY_4 := HY_93.out 4 (by simp)
  have qY_5 := HY_93.out 5 (by simp)
  have qY_6 := HY_93.out 6 (by simp)
  have qY_7 := HY_93.out 7 (by simp)
  have qY_8 := HY_93.out 8 (by simp)
  have lY : w3.heap.size < W79_0.heap.size := by omega
  have qR_0 := HR_82.out 0 (by simp)
  have qR_1 := HR_82.out 1 (by simp)
  have lR : w.heap.size + 3 < W79_0.heap.size := by omega
  have qS_0 := HS_84.out 0 (by simp)
  have qS_1 := HS_84.out 1 (by simp)
  have qS_2 := HS_84.out 2 (by simp)
  have qS_3 := HS_84.out 3 (by simp)
  have qS_4 := HS_84.out 4 (by simp)
  have qS_5 := HS_84.out 5 (by simp)
  have qS_6 := HS_84.out 6 (by simp)
  have qS_7 := HS_84.out 7 (by simp)
  have qS_8 := HS_84.out 8 (by simp)
  have lS : w.heap.size + 4 < W79_0.heap.size := by omega
  have qT_0 := HT_86.out 0 (by simp)
  have qT_1 := HT_86.out 1 (by simp)
  have qT_2 := HT_86.out 2 (by simp)
  have qT_3 := HT_86.out 3 (by simp)
  have qT_4 := HT_86.out 4 (by simp)
  have qT_5 := HT_86.out 5 (by simp)
  have qT_6 := HT_86.out 6 (by simp)
  have qT_7 := HT_86.out 7 (by simp)
  have qT_8 := HT_86.out 8 (by simp)
  have lT : w.heap.size + 5 < W79_0.heap.size := by omega
  have fRF_0 := HRF_83.out 0
  have fRF_1 := HRF_83.out 1
  have fSF_0 := HSF_85.out 0
  have fSF_1 := HSF_85.out 1
  have fSF_2 := HSF_85.out 2
  have fSF_3 := HSF_85.out 3
  have fSF_4 := HSF_85.out 4
  have fSF_5 := HSF_85.out 5
  have fSF_6 := HSF_85.out 6
  have fSF_7 := HSF_85.out 7
  have fSF_8 := HSF_85.out 8
  have fTF_0 := HTF_87.out 0
  have fTF_1 := HTF_87.out 1
  have fTF_2 := HTF_87.out 2
  have fTF_3 := HTF_87.out 3
  have fTF_4 := HTF_87.out 4
  have fTF_5 := HTF_87.out 5
  have fTF_6 := HTF_87.out 6
  have fTF_7 := HTF_87.out 7
  have fTF_8 := HTF_87.out 8
  simp only [List.getElem_cons_succ, List.getElem_cons_zero] at qB_0 qB_1 qX_0 qX_1 qX_2 qX_3 qX_4 qX_5 qX_6 qX_7 qX_8 qY_0 qY_1 qY_2 qY_3 qY_4 qY_5 qY_6 qY_7 qY_8 qR_0 qR_1 qS_0 qS_1 qS_2 qS_3 qS_4 qS_5 qS_6 qS_7 qS_8 qT_0 qT_1 qT_2 qT_3 qT_4 qT_5 qT_6 qT_7 qT_8
  have hne1 : w.heap.size + 3 ≠ w.heap.size + 4 := by omega
  have hne2 : w.heap.size + 3 ≠ w.heap.size + 5 := by omega
  have hne3 : w.heap.size + 4 ≠ w.heap.size + 5 := by omega
  cases b0 with
  | false =>
    go_big_region
    go_wp2_with fail
    obtain ⟨W9, hW9, ⟨cc0, cc1, cc2, cc3, cc4, cc5, cc6, cc7, cc8, cc9, cc10, cc11, cc12, cc13, cc14, cc15, cc16, cc17, cc18, cc19⟩, hk9, ht9, hu9, hb9⟩ := HFin.out
    simp only [putAll] at hW9
    rw [← hW9]
    refine bodyPost_ret (v := .tuple #[.agg #[.slice AB nB cB, .map MB], .agg #[.int .i64 au, .int .i64 sq, .int .i64 pv, .int .i64 x0, .int .i64 x1, .int .i64 x2, .int .i64 x3, .slice E1 n1 k1, .int .i64 sg], .agg #[.int .i64 au2, .int .i64 sq2, .int .i64 pv2, .int .i64 y0, .int .i64 y1, .int .i64 y2, .int .i64 y3, .slice E2 n2 k2, .int .i64 sg2], .bool false]) (by simp [results, Try.results89, cc0, cc1, cc2, cc3, cc4, cc5, cc6, cc7, cc8, cc9, cc10, cc11, cc12, cc13, cc14, cc15, cc16, cc17, cc18, cc19, go_sem]) rfl ?_
    refine ⟨AB, nB, cB, MB, f, x0, x1, x2, x3, E1, n1, k1, y0, y1, y2, y3, E2, n2, k2, ?_, hk9, HFw.out, HLk.out, ht9, hu9, hb9⟩
    rw [← HB0.out]; rfl
  | true =>
  cases b1 with
  | false =>
    go_big_region
    go_wp2_with fail
    obtain ⟨W9, hW9, ⟨cc0, cc1, cc2, cc3, cc4, cc5, cc6, cc7, cc8, cc9, cc10, cc11, cc12, cc13, cc14, cc15, cc16, cc17, cc18, cc19⟩, hk9, ht9, hu9, hb9⟩ := HFin.out
    simp only [putAll] at hW9
    rw [← hW9]
    refine bodyPost_ret (v := .tuple #[.agg #[.slice AB nB cB, .map MB], .agg #[.int .i64 au, .int .i64 sq, .int .i64 pv, .int .i64 x0, .int .i64 x1, .int .i64 x2, .int .i64 x3, .slice E1 n1 k1, .int .i64 sg], .agg #[.int .i64 au2, .int .i64 sq2, .int .i64 pv2, .int .i64 y0, .int .i64 y1, .int .i64 y2, .int .i64 y3, .slice E2 n2 k2, .int .i64 sg2], .bool false]) (by simp [results, Try.results89, cc0, cc1, cc2, cc3, cc4, cc5, cc6, cc7, cc8, cc9, cc10, cc11, cc12, cc13, cc14, cc15, cc16, cc17, cc18, cc19, go_sem]) rfl ?_
    refine ⟨AB, nB, cB, MB, f, x0, x1, x2, x3, E1, n1, k1, y0, y1, y2, y3, E2, n2, k2, ?_, hk9, HFw.out, HLk.out, ht9, hu9, hb9⟩
    rw [← HB0.out, ← HB1.out]; rfl
  | true =>
  go_big_region
  go_wp2_with fail
  obtain ⟨W9, hW9, ⟨cc0, cc1, cc2, cc3, cc4, cc5, cc6, cc7, cc8, cc9, cc10, cc11, cc12, cc13, cc14, cc15, cc16, cc17, cc18, cc19⟩, hk9, ht9, hu9, hb9⟩ := HFin.out
  simp only [putAll] at hW9
  rw [← hW9]
  refine bodyPost_ret (v := .tuple #[.agg #[.slice AB nB cB, .map MB], .agg #[.int .i64 au, .int .i64 sq, .int .i64 pv, .int .i64 x0, .int .i64 x1, .int .i64 x2, .int .i64 x3, .slice E1 n1 k1, .int .i64 sg], .agg #[.int .i64 au2, .int .i64 sq2, .int .i64 pv2, .int .i64 y0, .int .i64 y1, .int .i64 y2, .int .i64 y3, .slice E2 n2 k2, .int .i64 sg2], .bool b2]) (by simp [results, Try.results89, cc0, cc1, cc2, cc3, cc4, cc5, cc6, cc7, cc8, cc9, cc10, cc11, cc12, cc13, cc14, cc15, cc16, cc17, cc18, cc19, go_sem]) rfl ?_
  refine ⟨AB, nB, cB, MB, f, x0, x1, x2, x3, E1, n1, k1, y0, y1, y2, y3, E2, n2, k2, ?_, hk9, HFw.out, HLk.out, ht9, hu9, hb9⟩
  rw [← HB0.out, ← HB1.out, ← HB2.out]; rfl


end Go.Proofs.Ytblmhhijgdkkoaa

namespace Go.Proofs.Ytblmhhijgdkkoaa
open Go.RowKit Go.Maps

theorem two_eq {ts : List Tm} {f : Tm → Int} (hlk : lokB ts = true → f = lookI ts) {au sq pv : Int} {vec : List Int} {es : List En} {sg au2 sq2 pv2 : Int} {vec2 : List Int} {es2 : List En} {sg2 : Int} :
    (lokB ts && sdB f au sq pv vec es sg && sdB f au2 sq2 pv2 vec2 es2 sg2) = (sigB ts au sq pv vec es sg && sigB ts au2 sq2 pv2 vec2 es2 sg2) := by
  cases hl : lokB ts with
  | true => rw [hlk hl, sig_eq (lok_of hl), sig_eq (lok_of hl)]; rfl
  | false => unfold sigB; rw [hl]; rfl

set_option maxRecDepth 100000 in
set_option maxHeartbeats 4000000 in
theorem implFollows_any (AL : Option Addr) (ts : List Tm) (cL : Nat) (au sq pv : Int) (AV : Option Addr) (vec : List Int) (cv : Nat) (A : Option Addr) (es : List En) (c : Nat) (sg : Int) (au2 sq2 pv2 : Int) (AV2 : Option Addr) (vec2 : List Int) (cv2 : Nat) (A2 : Option Addr) (es2 : List En) (c2 : Nat) (sg2 : Int) (w : World) (hT : TmsIn w 0 w.heap.size AL ts) (ht : ts.length ≤ 1048576) (htb : bulk ts ≤ 1048576) (hV : IntsIn w 0 w.heap.size AV vec) (hA : EnsIn w 0 w.heap.size A es) (_hv : vec.length ≤ 1048576) (hn : es.length ≤ 1048576) (hbk : ebulk es ≤ 1048576) (hV2 : IntsIn w 0 w.heap.size AV2 vec2) (hA2 : EnsIn w 0 w.heap.size A2 es2) (_hv2 : vec2.length ≤ 1048576) (hn2 : es2.length ≤ 1048576) (hbk2 : ebulk es2 ≤ 1048576) :
    Calls Try.prog 49 #[.agg #[.slice AL ts.length cL], .agg #[.int .i64 au, .int .i64 sq, .int .i64 pv, .slice AV vec.length cv, .slice A es.length c, .int .i64 sg], .agg #[.int .i64 au2, .int .i64 sq2, .int .i64 pv2, .slice AV2 vec2.length cv2, .slice A2 es2.length c2, .int .i64 sg2]] w fun e w' => e = .returned (.bool (folB ts au sq pv vec es sg au2 sq2 pv2 vec2 es2 sg2)) ∧ Below w.heap.size w w' := by
  have HTw := Lib.hid (fun W (hX : Below w.heap.size w W) => readTwoSaid_any AL ts cL au sq pv AV vec cv A es c sg au2 sq2 pv2 AV2 vec2 cv2 A2 es2 c2 sg2 W ((hT.keep fun p _ hp => hX.cell hp).mono hX.size) ht htb ((hV.keep fun p _ hp => hX.cell hp).mono hX.size) ((hA.below hX).mono hX.size) hn hbk ((hV2.keep fun p _ hp => hX.cell hp).mono hX.size) ((hA2.below hX).mono hX.size) hn2 hbk2)
  have HE := Lib.hid (fun (f : Tm → Int) (h : lokB ts = true → f = lookI ts) => @two_eq ts f h au sq pv vec es sg au2 sq2 pv2 vec2 es2 sg2)
  have HI := Lib.hid (show folB ts au sq pv vec es sg au2 sq2 pv2 vec2 es2 sg2 = ((sigB ts au sq pv vec es sg && sigB ts au2 sq2 pv2 vec2 es2 sg2) && flB (lookI ts (bdT au sq pv vec es)) au sq vec au2 sq2 pv2 vec2) from rfl)
  obtain ⟨I, hI⟩ : ∃ I, I = folB ts au sq pv vec es sg au2 sq2 pv2 vec2 es2 sg2 := ⟨_, rfl⟩
  rw [← hI] at HI ⊢
  clear hI hT hV hA hV2 hA2
  go_enter Try.func49, Try.ntmps49
  go_wp2_with fail
  obtain ⟨W1_0, hW1_0⟩ : ∃ x, x = w.alloc (.cells #[.slice AL ts.length cL] 66) := ⟨_, rfl⟩
  obtain ⟨W1_1, hW1_1⟩ : ∃ x, x = W1_0.alloc (.cells #[.int .i64 au, .int .i64 sq, .int .i64 pv, .slice AV vec.length cv, .slice A es.length c, .int .i64 sg] 52) := ⟨_, rfl⟩
  obtain ⟨W1_2, hW1_2⟩ : ∃ x, x = W1_1.alloc (.cells #[.int .i64 au2, .int .i64 sq2, .int .i64 pv2, .slice AV2 vec2.length cv2, .slice A2 es2.length c2, .int .i64 sg2] 52) := ⟨_, rfl⟩
  have hZ1_0 : W1_0.heap.size = w.heap.size + 1 := by rw [hW1_0]; simp
  have hZ1_1 : W1_1.heap.size = w.heap.size + 2 := by rw [hW1_1]; simp [hZ1_0]
  have hZ1_2 : W1_2.heap.size = w.heap.size + 3 := by rw [hW1_2]; simp [hZ1_1]
  have hx0 : Bx W1_0 (w.heap.size) [.slice AL ts.length cL] := by rw [hW1_0]; exact Bx.new' _ _ _ _ rfl
  replace hx0 : Bx W1_1 (w.heap.size) [.slice AL ts.length cL] := by rw [hW1_1]; exact hx0.alloc (by omega) _
  replace hx0 : Bx W1_2 (w.heap.size) [.slice AL ts.length cL] := by rw [hW1_2]; exact hx0.alloc (by omega) _
  have hx1 : Bx W1_1 (w.heap.size + 1) [.int .i64 au, .int .i64 sq, .int .i64 pv, .slice AV vec.length cv, .slice A es.length c, .int .i64 sg] := by rw [hW1_1, ← hZ1_0]; exact Bx.new' _ _ _ _ rfl
  replace hx1 : Bx W1_2 (w.heap.size + 1) [.int .i64 au, .int .i64 sq, .int .i64 pv, .slice AV vec.length cv, .slice A es.length c, .int .i64 sg] := by rw [hW1_2]; exact hx1.alloc (by omega) _
  have hx2 : Bx W1_2 (w.heap.size + 2) [.int .i64 au2, .int .i64 sq2, .int .i64 pv2, .slice AV2 vec2.length cv2, .slice A2 es2.length c2, .int .i64 sg2] := by rw [hW1_2, ← hZ1_1]; exact Bx.new' _ _ _ _ rfl
  have hb0 : Below w.heap.size w W1_2 := by rw [hW1_2, hW1_1, hW1_0]; exact ((((Below.refl _ _).alloc (by first | exact Nat.le_refl _ | (simp; done) | (simp; omega)) _).alloc (by first | exact Nat.le_refl _ | (simp; done) | (simp; omega)) _).alloc (by first | exact Nat.le_refl _ | (simp; done) | (simp; omega)) _)
  have hlt : w.heap.size + 2 < W1_2.heap.size := by omega
  rw [← hW1_0, ← hW1_1, ← hW1_2]
  clear hW1_0 hZ1_0 hW1_1 hZ1_1 hW1_2 hZ1_2
  have z_2 := hb0.size
  have Hbel_3 := Lib.hid (hb0)
  have HL_4 := Lib.hid (hx0)
  have HP_5 := Lib.hid (hx1)
  have HQ_6 := Lib.hid (hx2)
  clear hb0 hx0 hx1 hx2
  have hl_7 := hlt
  clear hlt
  refine (HTw.out W1_2 Hbel_3.out).mono ?_
  rintro e w1 ⟨AB, nB, cB, MB, f, x0, x1, x2, x3, E1, n1, k1, y0, y1, y2, y3, E2, n2, k2, rfl, hbk0, hfw, hlk, htr, hur, hb⟩
  have z_8 := hb.size
  have Hbel_9 := Lib.hid (Hbel_3.out.trans (hb.mono (by omega)))
  clear Hbel_3 HL_4 HP_5 HQ_6
  have Hbk_10 := Lib.hid (hbk0)
  have Htr0_11 := Lib.hid (show (treeB vec es = true → vec = [x0, x1, x2, x3] ∧ n1 = es.length ∧ EvsIn w1 0 w1.heap.size E1 es) from fun h => ⟨(htr h).1, (htr h).2.1, (htr h).2.2.low (Nat.zero_le _)⟩)
  have Htr1_12 := Lib.hid (show (treeB vec2 es2 = true → vec2 = [y0, y1, y2, y3] ∧ n2 = es2.length ∧ EvsIn w1 0 w1.heap.size E2 es2) from fun h => ⟨(hur h).1, (hur h).2.1, (hur h).2.2.low (Nat.zero_le _)⟩)
  clear hb
  have HEq := Lib.hid (HE.out f hlk)
  have HLk := Lib.hid hlk
  clear HE HTw hbk0 hfw hlk htr hur
  obtain ⟨b, hb⟩ : ∃ b, b = (lokB ts && sdB f au sq pv vec es sg && sdB f au2 sq2 pv2 vec2 es2 sg2) := ⟨_, rfl⟩
  have HBb := Lib.hid hb
  rw [← hb] at HEq ⊢
  clear hb
  go_wp2_with fail
  obtain ⟨W13_0, hW13_0⟩ : ∃ x, x = w1.alloc (.cells #[.slice AB nB cB, .map MB] 122) := ⟨_, rfl⟩
  obtain ⟨W13_1, hW13_1⟩ : ∃ x, x = W13_0.alloc (.cells #[.int .i64 au, .int .i64 sq, .int .i64 pv, .int .i64 x0, .int .i64 x1, .int .i64 x2, .int .i64 x3, .slice E1 n1 k1, .int .i64 sg] 107) := ⟨_, rfl⟩
  obtain ⟨W13_2, hW13_2⟩ : ∃ x, x = W13_1.alloc (.cells #[.int .i64 au2, .int .i64 sq2, .int .i64 pv2, .int .i64 y0, .int .i64 y1, .int .i64 y2, .int .i64 y3, .slice E2 n2 k2, .int .i64 sg2] 107) := ⟨_, rfl⟩
  have hZ13_0 : W13_0.heap.size = w1.heap.size + 1 := by rw [hW13_0]; simp
  have hZ13_1 : W13_1.heap.size = w1.heap.size + 2 := by rw [hW13_1]; simp [hZ13_0]
  have hZ13_2 : W13_2.heap.size = w1.heap.size + 3 := by rw [hW13_2]; simp [hZ13_1]
  have hx0 : Bx W13_0 (w1.heap.size) [.slice AB nB cB, .map MB] := by rw [hW13_0]; exact Bx.new' _ _ _ _ rfl
  replace hx0 : Bx W13_1 (w1.heap.size) [.slice AB nB cB, .map MB] := by rw [hW13_1]; exact hx0.alloc (by omega) _
  replace hx0 : Bx W13_2 (w1.heap.size) [.slice AB nB cB, .map MB] := by rw [hW13_2]; exact hx0.alloc (by omega) _
  have hx1 : Bx W13_1 (w1.heap.size + 1) [.int .i64 au, .int .i64 sq, .int .i64 pv, .int .i64 x0, .int .i64 x1, .int .i64 x2, .int .i64 x3, .slice E1 n1 k1, .int .i64 sg] := by rw [hW13_1, ← hZ13_0]; exact Bx.new' _ _ _ _ rfl
  replace hx1 : Bx W13_2 (w1.heap.size + 1) [.int .i64 au, .int .i64 sq, .int .i64 pv, .int .i64 x0, .int .i64 x1, .int .i64 x2, .int .i64 x3, .slice E1 n1 k1, .int .i64 sg] := by rw [hW13_2]; exact hx1.alloc (by omega) _
  have hx2 : Bx W13_2 (w1.heap.size + 2) [.int .i64 au2, .int .i64 sq2, .int .i64 pv2, .int .i64 y0, .int .i64 y1, .int .i64 y2, .int .i64 y3, .slice E2 n2 k2, .int .i64 sg2] := by rw [hW13_2, ← hZ13_1]; exact Bx.new' _ _ _ _ rfl
  have hb0 : Below w1.heap.size w1 W13_2 := by rw [hW13_2, hW13_1, hW13_0]; exact ((((Below.refl _ _).alloc (by first | exact Nat.le_refl _ | (simp; done) | (simp; omega)) _).alloc (by first | exact Nat.le_refl _ | (simp; done) | (simp; omega)) _).alloc (by first | exact Nat.le_refl _ | (simp; done) | (simp; omega)) _)
  have hlt : w1.heap.size + 2 < W13_2.heap.size := by omega
  rw [← hW13_0, ← hW13_1, ← hW13_2]
  clear hW13_0 hZ13_0 hW13_1 hZ13_1 hW13_2 hZ13_2
  have z_14 := hb0.size
  have Hbel_15 := Lib.hid (Hbel_9.out.trans (hb0.mono (by omega)))
  have Hbk_16 := Lib.hid (Hbk_10.out.below hb0)
  have Htr0_17 := Lib.hid (show (treeB vec es = true → vec = [x0, x1, x2, x3] ∧ n1 = es.length ∧ EvsIn W13_2 0 W13_2.heap.size E1 es) from fun h => ⟨(Htr0_11.out h).1, (Htr0_11.out h).2.1, (((Htr0_11.out h).2.2.below hb0).mono hb0.size)⟩)
  have Htr1_18 := Lib.hid (show (treeB vec2 es2 = true → vec2 = [y0, y1, y2, y3] ∧ n2 = es2.length ∧ EvsIn W13_2 0 W13_2.heap.size E2 es2) from fun h => ⟨(Htr1_12.out h).1, (Htr1_12.out h).2.1, (((Htr1_12.out h).2.2.below hb0).mono hb0.size)⟩)
  clear Hbel_9 Hbk_10 Htr0_11 Htr1_12
  have HB_19 := Lib.hid (hx0)
  have HX_20 := Lib.hid (hx1)
  have HY_21 := Lib.hid (hx2)
  clear hb0 hx0 hx1 hx2
  have hl_22 := hlt
  clear hlt
  have qB_0 := HB_19.out 0 (by simp)
  have qB_1 := HB_19.out 1 (by simp)
  have lB : w1.heap.size < W13_2.heap.size := by omega
  have qX_0 := HX_20.out 0 (by simp)
  have qX_1 := HX_20.out 1 (by simp)
  have qX_2 := HX_20.out 2 (by simp)
  have qX_3 := HX_20.out 3 (by simp)
  have qX_4 := HX_20.out 4 (by simp)
  have qX_5 := HX_20.out 5 (by simp)
  have qX_6 := HX_20.out 6 (by simp)
  have qX_7 := HX_20.out 7 (by simp)
  have qX_8 := HX_20.out 8 (by simp)
  have lX : w1.heap.size + 1 < W13_2.heap.size := by omega
  have qY_0 := HY_21.out 0 (by simp)
  have qY_1 := HY_21.out 1 (by simp)
  have qY_2 := HY_21.out 2 (by simp)
  have qY_3 := HY_21.out 3 (by simp)
  have qY_4 := HY_21.out 4 (by simp)
  have qY_5 := HY_21.out 5 (by simp)
  have qY_6 := HY_21.out 6 (by simp)
  have qY_7 := HY_21.out 7 (by simp)
  have qY_8 := HY_21.out 8 (by simp)
  have lY : w1.heap.size + 2 < W13_2.heap.size := by omega
  simp only [List.getElem_cons_succ, List.getElem_cons_zero] at qB_0 qB_1 qX_0 qX_1 qX_2 qX_3 qX_4 qX_5 qX_6 qX_7 qX_8 qY_0 qY_1 qY_2 qY_3 qY_4 qY_5 qY_6 qY_7 qY_8
  cases b with
  | false =>
    have HF := Lib.hid (show I = false by rw [HI.out, ← HEq.out]; rfl)
    go_quiet (fail)
    go_wp2_with fail
    go_ret
    exact ⟨ret_bool (a := false) HF.out.symm, below_drewN Hbel_15.out _⟩
  | true =>
  have hand : lokB ts = true ∧ manB au sq pv vec es sg = true ∧ manB au2 sq2 pv2 vec2 es2 sg2 = true := by
    have h := HBb.out.symm
    unfold sdB at h
    simp only [Bool.and_eq_true] at h
    exact ⟨h.1.1, h.1.2.1, h.2.1⟩
  obtain ⟨hl0, hm1, hm2⟩ := hand
  obtain rfl := HLk.out hl0
  have hs1 := manB_said hm1
  have hs2 := manB_said hm2
  obtain ⟨hvx, hnx, hex⟩ := Htr0_17.out (manB_tree hm1)
  obtain ⟨hvy, hny, hey⟩ := Htr1_18.out (manB_tree hm2)
  have HF := Lib.hid (show I = flB (lookI ts (bdT au sq pv vec es)) au sq vec au2 sq2 pv2 vec2 by rw [HI.out, ← HEq.out]; rfl)
  subst hvx hvy hnx hny
  have HEx := Lib.hid hex
  have HEy := Lib.hid hey
  have hrg := lookI_range ts (bdT au sq pv [x0, x1, x2, x3] es)
  clear hex hey hm1 hm2 hl0 HLk HEq HI HBb
  clear Htr0_17
  clear Htr1_18
  obtain ⟨nn, hnn⟩ : ∃ nn, nn = lookI ts (bdT au sq pv [x0, x1, x2, x3] es) := ⟨_, rfl⟩
  have HBo := Lib.hid (fun X (hX : Below W13_2.heap.size W13_2 X) => bodyOf_bk (.slice AB nB cB) (.map MB) (lookI ts) au sq pv x0 x1 x2 x3 E1 es k1 sg X (Hbk_16.out.below hX) ((HEx.out.below hX).mono hX.size) (by omega) hbk)
  rw [← hnn] at HBo HF hrg
  clear hnn
  have HCell := Lib.hid (show ∀ X, Below W13_2.heap.size W13_2 X → X.cell? ⟨w1.heap.size, 0, none⟩ = some (.slice AB nB cB) ∧ X.cell? ⟨w1.heap.size, 1, none⟩ = some (.map MB) ∧ X.cell? ⟨w1.heap.size + 1, 0, none⟩ = some (.int .i64 au) ∧ X.cell? ⟨w1.heap.size + 1, 1, none⟩ = some (.int .i64 sq) ∧ X.cell? ⟨w1.heap.size + 1, 2, none⟩ = some (.int .i64 pv) ∧ X.cell? ⟨w1.heap.size + 1, 3, none⟩ = some (.int .i64 x0) ∧ X.cell? ⟨w1.heap.size + 1, 4, none⟩ = some (.int .i64 x1) ∧ X.cell? ⟨w1.heap.size + 1, 5, none⟩ = some (.int .i64 x2) ∧ X.cell? ⟨w1.heap.size + 1, 6, none⟩ = some (.int .i64 x3) ∧ X.cell? ⟨w1.heap.size + 1, 7, none⟩ = some (.slice E1 es.length k1) ∧ X.cell? ⟨w1.heap.size + 1, 8, none⟩ = some (.int .i64 sg) ∧ X.cell? ⟨w1.heap.size + 2, 0, none⟩ = some (.int .i64 au2) ∧ X.cell? ⟨w1.heap.size + 2, 1, none⟩ = some (.int .i64 sq2) ∧ X.cell? ⟨w1.heap.size + 2, 2, none⟩ = some (.int .i64 pv2) ∧ X.cell? ⟨w1.heap.size + 2, 3, none⟩ = some (.int .i64 y0) ∧ X.cell? ⟨w1.heap.size + 2, 4, none⟩ = some (.int .i64 y1) ∧ X.cell? ⟨w1.heap.size + 2, 5, none⟩ = some (.int .i64 y2) ∧ X.cell? ⟨w1.heap.size + 2, 6, none⟩ = some (.int .i64 y3) ∧ X.cell? ⟨w1.heap.size + 2, 7, none⟩ = some (.slice E2 es2.length k2) ∧ X.cell? ⟨w1.heap.size + 2, 8, none⟩ = some (.int .i64 sg2) from fun X hX => ⟨(hX.cell (p := ⟨w1.heap.size, 0, none⟩) (by show w1.heap.size < _; omega)).trans (HB_19.out 0 (by simp)), (hX.cell (p := ⟨w1.heap.size, 1, none⟩) (by show w1.heap.size < _; omega)).trans (HB_19.out 1 (by simp)), (hX.cell (p := ⟨w1.heap.size + 1, 0, none⟩) (by show w1.heap.size + 1 < _; omega)).trans (HX_20.out 0 (by simp)), (hX.cell (p := ⟨w1.heap.size + 1, 1, none⟩) (by show w1.heap.size + 1 < _; omega)).trans (HX_20.out 1 (by simp)), (hX.cell (p := ⟨w1.heap.size + 1, 2, none⟩) (by show w1.heap.size + 1 < _; omega)).trans (HX_20.out 2 (by simp)), (hX.cell (p := ⟨w1.heap.size + 1, 3, none⟩) (by show w1.heap.size + 1 < _; omega)).trans (HX_20.out 3 (by simp)), (hX.cell (p := ⟨w1.heap.size + 1, 4, none⟩) (by show w1.heap.size + 1 < _; omega)).trans (HX_20.out 4 (by simp)), (hX.cell (p := ⟨w1.heap.size + 1, 5, none⟩) (by show w1.heap.size + 1 < _; omega)).trans (HX_20.out 5 (by simp)), (hX.cell (p := ⟨w1.heap.size + 1, 6, none⟩) (by show w1.heap.size + 1 < _; omega)).trans (HX_20.out 6 (by simp)), (hX.cell (p := ⟨w1.heap.size + 1, 7, none⟩) (by show w1.heap.size + 1 < _; omega)).trans (HX_20.out 7 (by simp)), (hX.cell (p := ⟨w1.heap.size + 1, 8, none⟩) (by show w1.heap.size + 1 < _; omega)).trans (HX_20.out 8 (by simp)), (hX.cell (p := ⟨w1.heap.size + 2, 0, none⟩) (by show w1.heap.size + 2 < _; omega)).trans (HY_21.out 0 (by simp)), (hX.cell (p := ⟨w1.heap.size + 2, 1, none⟩) (by show w1.heap.size + 2 < _; omega)).trans (HY_21.out 1 (by simp)), (hX.cell (p := ⟨w1.heap.size + 2, 2, none⟩) (by show w1.heap.size + 2 < _; omega)).trans (HY_21.out 2 (by simp)), (hX.cell (p := ⟨w1.heap.size + 2, 3, none⟩) (by show w1.heap.size + 2 < _; omega)).trans (HY_21.out 3 (by simp)), (hX.cell (p := ⟨w1.heap.size + 2, 4, none⟩) (by show w1.heap.size + 2 < _; omega)).trans (HY_21.out 4 (by simp)), (hX.cell (p := ⟨w1.heap.size + 2, 5, none⟩) (by show w1.heap.size + 2 < _; omega)).trans (HY_21.out 5 (by simp)), (hX.cell (p := ⟨w1.heap.size + 2, 6, none⟩) (by show w1.heap.size + 2 < _; omega)).trans (HY_21.out 6 (by simp)), (hX.cell (p := ⟨w1.heap.size + 2, 7, none⟩) (by show w1.heap.size + 2 < _; omega)).trans (HY_21.out 7 (by simp)), (hX.cell (p := ⟨w1.heap.size + 2, 8, none⟩) (by show w1.heap.size + 2 < _; omega)).trans (HY_21.out 8 (by simp))⟩)
  go_region_held3 (fun X => X.cell? ⟨w1.heap.size, 0, none⟩ = some (.slice AB nB cB) ∧ X.cell? ⟨w1.heap.size, 1, none⟩ = some (.map MB) ∧ X.cell? ⟨w1.heap.size + 1, 0, none⟩ = some (.int .i64 au) ∧ X.cell? ⟨w1.heap.size + 1, 1, none⟩ = some (.int .i64 sq) ∧ X.cell? ⟨w1.heap.size + 1, 2, none⟩ = some (.int .i64 pv) ∧ X.cell? ⟨w1.heap.size + 1, 3, none⟩ = some (.int .i64 x0) ∧ X.cell? ⟨w1.heap.size + 1, 4, none⟩ = some (.int .i64 x1) ∧ X.cell? ⟨w1.heap.size + 1, 5, none⟩ = some (.int .i64 x2) ∧ X.cell? ⟨w1.heap.size + 1, 6, none⟩ = some (.int .i64 x3) ∧ X.cell? ⟨w1.heap.size + 1, 7, none⟩ = some (.slice E1 es.length k1) ∧ X.cell? ⟨w1.heap.size + 1, 8, none⟩ = some (.int .i64 sg) ∧ X.cell? ⟨w1.heap.size + 2, 0, none⟩ = some (.int .i64 au2) ∧ X.cell? ⟨w1.heap.size + 2, 1, none⟩ = some (.int .i64 sq2) ∧ X.cell? ⟨w1.heap.size + 2, 2, none⟩ = some (.int .i64 pv2) ∧ X.cell? ⟨w1.heap.size + 2, 3, none⟩ = some (.int .i64 y0) ∧ X.cell? ⟨w1.heap.size + 2, 4, none⟩ = some (.int .i64 y1) ∧ X.cell? ⟨w1.heap.size + 2, 5, none⟩ = some (.int .i64 y2) ∧ X.cell? ⟨w1.heap.size + 2, 6, none⟩ = some (.int .i64 y3) ∧ X.cell? ⟨w1.heap.size + 2, 7, none⟩ = some (.slice E2 es2.length k2) ∧ X.cell? ⟨w1.heap.size + 2, 8, none⟩ = some (.int .i64 sg2))
    (first | with_reducible exact ⟨qB_0, qB_1, qX_0, qX_1, qX_2, qX_3, qX_4, qX_5, qX_6, qX_7, qX_8, qY_0, qY_1, qY_2, qY_3, qY_4, qY_5, qY_6, qY_7, qY_8⟩ | exact ⟨qB_0, qB_1, qX_0, qX_1, qX_2, qX_3, qX_4, qX_5, qX_6, qX_7, qX_8, qY_0, qY_1, qY_2, qY_3, qY_4, qY_5, qY_6, qY_7, qY_8⟩ | with_reducible exact ⟨s0, s1, s2, s3, s4, s5, s6, s7, s8, s9, s10, s11, s12, s13, s14, s15, s16, s17, s18, s19⟩ | with_reducible exact ⟨t0, t1, t2, t3, t4, t5, t6, t7, t8, t9, t10, t11, t12, t13, t14, t15, t16, t17, t18, t19⟩)
    (first
      | (go_at_call 84
         refine (HBo.out _ (Below.refl _ _).drew).mono ?_
         rintro r u1 ⟨rfl, hy1⟩
         have HU1 := Lib.hid (show Below W13_2.heap.size W13_2 u1 from (Below.refl _ _).drew.trans hy1)
         obtain ⟨s0, s1, s2, s3, s4, s5, s6, s7, s8, s9, s10, s11, s12, s13, s14, s15, s16, s17, s18, s19⟩ := HCell.out u1 HU1.out
         clear hy1)
      | (go_at_call 90
         refine (follows_any au2 sq2 pv2 y0 y1 y2 y3 E2 es2.length k2 au sq pv x0 x1 x2 x3 E1 es.length k1 nn u1 (by omega) (by omega) (by omega) (by omega)).mono ?_
         rintro r u2 ⟨rfl, hy2⟩
         have HU2 := Lib.hid (show Below W13_2.heap.size W13_2 u2 from HU1.out.trans (hy2.mono HU1.out.size))
         obtain ⟨t0, t1, t2, t3, t4, t5, t6, t7, t8, t9, t10, t11, t12, t13, t14, t15, t16, t17, t18, t19⟩ := HCell.out u2 HU2.out
         clear hy2))
  have HB9 := Lib.hid (Hbel_15.out.trans (HU2.out.mono (by omega)))
  go_wp2_with fail
  go_ret
  exact ⟨ret_bool HF.out.symm, HB9.out⟩

set_option maxRecDepth 100000 in
set_option maxHeartbeats 4000000 in
theorem implForked_any (AL : Option Addr) (ts : List Tm) (cL : Nat) (au sq pv : Int) (AV : Option Addr) (vec : List Int) (cv : Nat) (A : Option Addr) (es : List En) (c : Nat) (sg : Int) (au2 sq2 pv2 : Int) (AV2 : Option Addr) (vec2 : List Int) (cv2 : Nat) (A2 : Option Addr) (es2 : List En) (c2 : Nat) (sg2 : Int) (w : World) (hT : TmsIn w 0 w.heap.size AL ts) (ht : ts.length ≤ 1048576) (htb : bulk ts ≤ 1048576) (hV : IntsIn w 0 w.heap.size AV vec) (hA : EnsIn w 0 w.heap.size A es) (_hv : vec.length ≤ 1048576) (hn : es.length ≤ 1048576) (hbk : ebulk es ≤ 1048576) (hV2 : IntsIn w 0 w.heap.size AV2 vec2) (hA2 : EnsIn w 0 w.heap.size A2 es2) (_hv2 : vec2.length ≤ 1048576) (hn2 : es2.length ≤ 1048576) (hbk2 : ebulk es2 ≤ 1048576) :
    Calls Try.prog 51 #[.agg #[.slice AL ts.length cL], .agg #[.int .i64 au, .int .i64 sq, .int .i64 pv, .slice AV vec.length cv, .slice A es.length c, .int .i64 sg], .agg #[.int .i64 au2, .int .i64 sq2, .int .i64 pv2, .slice AV2 vec2.length cv2, .slice A2 es2.length c2, .int .i64 sg2]] w fun e w' => e = .returned (.bool (frkB ts au sq pv vec es sg au2 sq2 pv2 vec2 es2 sg2)) ∧ Below w.heap.size w w' := by
  have HTw := Lib.hid (fun W (hX : Below w.heap.size w W) => readTwoSaid_any AL ts cL au sq pv AV vec cv A es c sg au2 sq2 pv2 AV2 vec2 cv2 A2 es2 c2 sg2 W ((hT.keep fun p _ hp => hX.cell hp).mono hX.size) ht htb ((hV.keep fun p _ hp => hX.cell hp).mono hX.size) ((hA.below hX).mono hX.size) hn hbk ((hV2.keep fun p _ hp => hX.cell hp).mono hX.size) ((hA2.below hX).mono hX.size) hn2 hbk2)
  have HE := Lib.hid (fun (f : Tm → Int) (h : lokB ts = true → f = lookI ts) => @two_eq ts f h au sq pv vec es sg au2 sq2 pv2 vec2 es2 sg2)
  have HI := Lib.hid (show frkB ts au sq pv vec es sg au2 sq2 pv2 vec2 es2 sg2 = ((sigB ts au sq pv vec es sg && sigB ts au2 sq2 pv2 vec2 es2 sg2) && fkB au sq pv vec es au2 sq2 pv2 vec2 es2) from rfl)
  obtain ⟨I, hI⟩ : ∃ I, I = frkB ts au sq pv vec es sg au2 sq2 pv2 vec2 es2 sg2 := ⟨_, rfl⟩
  rw [← hI] at HI ⊢
  clear hI hT hV hA hV2 hA2
  go_enter Try.func51, Try.ntmps51
  go_wp2_with fail
  obtain ⟨W1_0, hW1_0⟩ : ∃ x, x = w.alloc (.cells #[.slice AL ts.length cL] 66) := ⟨_, rfl⟩
  obtain ⟨W1_1, hW1_1⟩ : ∃ x, x = W1_0.alloc (.cells #[.int .i64 au, .int .i64 sq, .int .i64 pv, .slice AV vec.length cv, .slice A es.length c, .int .i64 sg] 52) := ⟨_, rfl⟩
  obtain ⟨W1_2, hW1_2⟩ : ∃ x, x = W1_1.alloc (.cells #[.int .i64 au2, .int .i64 sq2, .int .i64 pv2, .slice AV2 vec2.length cv2, .slice A2 es2.length c2, .int .i64 sg2] 52) := ⟨_, rfl⟩
  have hZ1_0 : W1_0.heap.size = w.heap.size + 1 := by rw [hW1_0]; simp
  have hZ1_1 : W1_1.heap.size = w.heap.size + 2 := by rw [hW1_1]; simp [hZ1_0]
  have hZ1_2 : W1_2.heap.size = w.heap.size + 3 := by rw [hW1_2]; simp [hZ1_1]
  have hx0 : Bx W1_0 (w.heap.size) [.slice AL ts.length cL] := by rw [hW1_0]; exact Bx.new' _ _ _ _ rfl
  replace hx0 : Bx W1_1 (w.heap.size) [.slice AL ts.length cL] := by rw [hW1_1]; exact hx0.alloc (by omega) _
  replace hx0 : Bx W1_2 (w.heap.size) [.slice AL ts.length cL] := by rw [hW1_2]; exact hx0.alloc (by omega) _
  have hx1 : Bx W1_1 (w.heap.size + 1) [.int .i64 au, .int .i64 sq, .int .i64 pv, .slice AV vec.length cv, .slice A es.length c, .int .i64 sg] := by rw [hW1_1, ← hZ1_0]; exact Bx.new' _ _ _ _ rfl
  replace hx1 : Bx W1_2 (w.heap.size + 1) [.int .i64 au, .int .i64 sq, .int .i64 pv, .slice AV vec.length cv, .slice A es.length c, .int .i64 sg] := by rw [hW1_2]; exact hx1.alloc (by omega) _
  have hx2 : Bx W1_2 (w.heap.size + 2) [.int .i64 au2, .int .i64 sq2, .int .i64 pv2, .slice AV2 vec2.length cv2, .slice A2 es2.length c2, .int .i64 sg2] := by rw [hW1_2, ← hZ1_1]; exact Bx.new' _ _ _ _ rfl
  have hb0 : Below w.heap.size w W1_2 := by rw [hW1_2, hW1_1, hW1_0]; exact ((((Below.refl _ _).alloc (by first | exact Nat.le_refl _ | (simp; done) | (simp; omega)) _).alloc (by first | exact Nat.le_refl _ | (simp; done) | (simp; omega)) _).alloc (by first | exact Nat.le_refl _ | (simp; done) | (simp; omega)) _)
  have hlt : w.heap.size + 2 < W1_2.heap.size := by omega
  rw [← hW1_0, ← hW1_1, ← hW1_2]
  clear hW1_0 hZ1_0 hW1_1 hZ1_1 hW1_2 hZ1_2
  have z_2 := hb0.size
  have Hbel_3 := Lib.hid (hb0)
  have HL_4 := Lib.hid (hx0)
  have HP_5 := Lib.hid (hx1)
  have HQ_6 := Lib.hid (hx2)
  clear hb0 hx0 hx1 hx2
  have hl_7 := hlt
  clear hlt
  refine (HTw.out W1_2 Hbel_3.out).mono ?_
  rintro e w1 ⟨AB, nB, cB, MB, f, x0, x1, x2, x3, E1, n1, k1, y0, y1, y2, y3, E2, n2, k2, rfl, hbk0, hfw, hlk, htr, hur, hb⟩
  have z_8 := hb.size
  have Hbel_9 := Lib.hid (Hbel_3.out.trans (hb.mono (by omega)))
  clear Hbel_3 HL_4 HP_5 HQ_6
  have Hbk_10 := Lib.hid (hbk0)
  have Htr0_11 := Lib.hid (show (treeB vec es = true → vec = [x0, x1, x2, x3] ∧ n1 = es.length ∧ EvsIn w1 0 w1.heap.size E1 es) from fun h => ⟨(htr h).1, (htr h).2.1, (htr h).2.2.low (Nat.zero_le _)⟩)
  have Htr1_12 := Lib.hid (show (treeB vec2 es2 = true → vec2 = [y0, y1, y2, y3] ∧ n2 = es2.length ∧ EvsIn w1 0 w1.heap.size E2 es2) from fun h => ⟨(hur h).1, (hur h).2.1, (hur h).2.2.low (Nat.zero_le _)⟩)
  clear hb
  have HEq := Lib.hid (HE.out f hlk)
  have HLk := Lib.hid hlk
  clear HE HTw hbk0 hfw hlk htr hur
  obtain ⟨b, hb⟩ : ∃ b, b = (lokB ts && sdB f au sq pv vec es sg && sdB f au2 sq2 pv2 vec2 es2 sg2) := ⟨_, rfl⟩
  have HBb := Lib.hid hb
  rw [← hb] at HEq ⊢
  clear hb
  cases b with
  | false =>
    have HF := Lib.hid (show I = false by rw [HI.out, ← HEq.out]; rfl)
    go_wp2_with fail
    go_ret
    exact ⟨ret_bool (a := false) HF.out.symm, by repeat first | exact Hbel_9.out | (refine Below.alloc ?_ (by first | omega | (simp; omega)) _)⟩
  | true =>
  have hand : lokB ts = true ∧ manB au sq pv vec es sg = true ∧ manB au2 sq2 pv2 vec2 es2 sg2 = true := by
    have h := HBb.out.symm
    unfold sdB at h
    simp only [Bool.and_eq_true] at h
    exact ⟨h.1.1, h.1.2.1, h.2.1⟩
  obtain ⟨hl0, hm1, hm2⟩ := hand
  obtain rfl := HLk.out hl0
  have hs1 := manB_said hm1
  have hs2 := manB_said hm2
  obtain ⟨hvx, hnx, hex⟩ := Htr0_11.out (manB_tree hm1)
  obtain ⟨hvy, hny, hey⟩ := Htr1_12.out (manB_tree hm2)
  have HF := Lib.hid (show I = fkB au sq pv vec es au2 sq2 pv2 vec2 es2 by rw [HI.out, ← HEq.out]; rfl)
  subst hvx hvy hnx hny
  have HEx := Lib.hid hex
  have HEy := Lib.hid hey
  have hrg := lookI_range ts (bdT au sq pv [x0, x1, x2, x3] es)
  clear hex hey hm1 hm2 hl0 HLk HEq HI HBb
  clear Htr0_11
  clear Htr1_12
  go_wp2_with fail
  obtain ⟨W13_0, hW13_0⟩ : ∃ x, x = w1.alloc (.cells #[.slice AB nB cB, .map MB] 122) := ⟨_, rfl⟩
  obtain ⟨W13_1, hW13_1⟩ : ∃ x, x = W13_0.alloc (.cells #[.int .i64 au, .int .i64 sq, .int .i64 pv, .int .i64 x0, .int .i64 x1, .int .i64 x2, .int .i64 x3, .slice E1 es.length k1, .int .i64 sg] 107) := ⟨_, rfl⟩
  obtain ⟨W13_2, hW13_2⟩ : ∃ x, x = W13_1.alloc (.cells #[.int .i64 au2, .int .i64 sq2, .int .i64 pv2, .int .i64 y0, .int .i64 y1, .int .i64 y2, .int .i64 y3, .slice E2 es2.length k2, .int .i64 sg2] 107) := ⟨_, rfl⟩
  have hZ13_0 : W13_0.heap.size = w1.heap.size + 1 := by rw [hW13_0]; simp
  have hZ13_1 : W13_1.heap.size = w1.heap.size + 2 := by rw [hW13_1]; simp [hZ13_0]
  have hZ13_2 : W13_2.heap.size = w1.heap.size + 3 := by rw [hW13_2]; simp [hZ13_1]
  have hx0 : Bx W13_0 (w1.heap.size) [.slice AB nB cB, .map MB] := by rw [hW13_0]; exact Bx.new' _ _ _ _ rfl
  replace hx0 : Bx W13_1 (w1.heap.size) [.slice AB nB cB, .map MB] := by rw [hW13_1]; exact hx0.alloc (by omega) _
  replace hx0 : Bx W13_2 (w1.heap.size) [.slice AB nB cB, .map MB] := by rw [hW13_2]; exact hx0.alloc (by omega) _
  have hx1 : Bx W13_1 (w1.heap.size + 1) [.int .i64 au, .int .i64 sq, .int .i64 pv, .int .i64 x0, .int .i64 x1, .int .i64 x2, .int .i64 x3, .slice E1 es.length k1, .int .i64 sg] := by rw [hW13_1, ← hZ13_0]; exact Bx.new' _ _ _ _ rfl
  replace hx1 : Bx W13_2 (w1.heap.size + 1) [.int .i64 au, .int .i64 sq, .int .i64 pv, .int .i64 x0, .int .i64 x1, .int .i64 x2, .int .i64 x3, .slice E1 es.length k1, .int .i64 sg] := by rw [hW13_2]; exact hx1.alloc (by omega) _
  have hx2 : Bx W13_2 (w1.heap.size + 2) [.int .i64 au2, .int .i64 sq2, .int .i64 pv2, .int .i64 y0, .int .i64 y1, .int .i64 y2, .int .i64 y3, .slice E2 es2.length k2, .int .i64 sg2] := by rw [hW13_2, ← hZ13_1]; exact Bx.new' _ _ _ _ rfl
  have hb0 : Below w1.heap.size w1 W13_2 := by rw [hW13_2, hW13_1, hW13_0]; exact ((((Below.refl _ _).alloc (by first | exact Nat.le_refl _ | (simp; done) | (simp; omega)) _).alloc (by first | exact Nat.le_refl _ | (simp; done) | (simp; omega)) _).alloc (by first | exact Nat.le_refl _ | (simp; done) | (simp; omega)) _)
  have hlt : w1.heap.size + 2 < W13_2.heap.size := by omega
  rw [← hW13_0, ← hW13_1, ← hW13_2]
  clear hW13_0 hZ13_0 hW13_1 hZ13_1 hW13_2 hZ13_2
  have z_14 := hb0.size
  have Hbel_15 := Lib.hid (Hbel_9.out.trans (hb0.mono (by omega)))
  have Hbk_16 := Lib.hid (Hbk_10.out.below hb0)
  have Hex_17 := Lib.hid ((HEx.out.below hb0).mono hb0.size)
  have Hey_18 := Lib.hid ((HEy.out.below hb0).mono hb0.size)
  clear Hbel_9 Hbk_10 HEx HEy
  have HB_19 := Lib.hid (hx0)
  have HX_20 := Lib.hid (hx1)
  have HY_21 := Lib.hid (hx2)
  clear hb0 hx0 hx1 hx2
  have hl_22 := hlt
  clear hlt
  refine (forks_any au sq pv x0 x1 x2 x3 E1 es k1 au2 sq2 pv2 y0 y1 y2 y3 E2 es2 k2 W13_2 Hex_17.out (by omega) hbk Hey_18.out (by omega) hbk2).mono ?_
  rintro e w9 ⟨rfl, hb9⟩
  have HB9 := Lib.hid (Hbel_15.out.trans (hb9.mono (by omega)))
  clear hb9
  go_wp2_with fail
  go_ret
  exact ⟨ret_bool HF.out.symm, HB9.out⟩


end Go.Proofs.Ytblmhhijgdkkoaa
