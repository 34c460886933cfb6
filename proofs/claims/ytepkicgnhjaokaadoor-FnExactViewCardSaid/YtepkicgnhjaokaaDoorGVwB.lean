/-
  Several texts in one: FsM, VwB.
-/
import Derived.Test.YtepkicgnhjaokaaDoorGVwA
import Derived.Test.YtepkicgnhjaokaaDoorTrM
namespace Go.Proofs.YtepkicgnhjaokaaDoor
open Go.RowKit Go.Maps

def fbulk : List Fl → Nat
  | [] => 0
  | f :: fs => f.1.length + fbulk fs
theorem fbulk_append (xs ys : List Fl) : fbulk (xs ++ ys) = fbulk xs + fbulk ys := by
  induction xs with
  | nil => simp [fbulk]
  | cons x xs ih => simp [fbulk, ih]; omega
theorem fbulk_le (fs : List Fl) (k : Nat) : fbulk (fs.take k) ≤ fbulk fs := by
  have h := fbulk_append (fs.take k) (fs.drop k)
  rw [List.take_append_drop] at h
  omega
theorem fbulk_succ (fs : List Fl) (k : Nat) (h : k < fs.length) : fbulk (fs.take (k + 1)) = fbulk (fs.take k) + fs[k].1.length := by
  rw [List.take_succ_eq_append_getElem h, fbulk_append]
  simp [fbulk]
theorem name_le_fbulk (fs : List Fl) (k : Nat) (h : k < fs.length) : fs[k].1.length ≤ fbulk fs := by
  have h1 := fbulk_succ fs k h
  have h2 := fbulk_le fs (k + 1)
  omega
def fo (fs : List Fl) : Nat := fbulk fs + fs.length
theorem fo_succ (fs : List Fl) (k : Nat) (h : k < fs.length) : fo (fs.take (k + 1)) = fo (fs.take k) + fs[k].1.length + 1 := by
  unfold fo
  rw [fbulk_succ fs k h, List.length_take, List.length_take]
  omega
theorem fo_le (fs : List Fl) (k : Nat) : fo (fs.take k) ≤ fo fs := by
  unfold fo
  have h1 := fbulk_le fs k
  have h2 := List.length_take_le k fs
  rw [List.length_take]
  omega

/-- A file that can be read. -/
def FlIn (w : World) (L B : Nat) (b o : Nat) (f : Fl) : Prop :=
  ∃ A c, w.cell? ⟨b, o, none⟩ = some (.slice A f.1.length c) ∧ w.cell? ⟨b, o + 1, none⟩ = some (.int .i64 f.2) ∧ BytesIn w L B A f.1
theorem FlIn.keep {w w' : World} {L B b o : Nat} {f : Fl} (h : FlIn w L B b o f) (hL : L ≤ b) (hb : b < B) (hk : ∀ p : Addr, L ≤ p.block → p.block < B → w'.cell? p = w.cell? p) : FlIn w' L B b o f := by
  obtain ⟨A, c, h0, h1, h2⟩ := h
  exact ⟨A, c, (hk _ hL hb).trans h0, (hk _ hL hb).trans h1, h2.keep hk⟩
def FsIn (w : World) (L B : Nat) (A : Option Addr) (fs : List Fl) : Prop :=
  0 < fs.length → ∃ b o, A = some ⟨b, o, none⟩ ∧ L ≤ b ∧ b < B ∧ ∀ i (hi : i < fs.length), FlIn w L B b (o + i * 2) fs[i]
theorem FsOwn.fs {w : World} {L B : Nat} {A : Option Addr} {fs : List Fl} (h : FsOwn w L B A fs) : FsIn w L B A fs := fun hl => by
  obtain ⟨R, N, lo, up, c, e, hlay, hc⟩ := h hl
  refine ⟨R, 0, e, hlay.low, hlay.up, fun i hi => ?_⟩
  rw [Nat.zero_add]
  have hx := hc i hi
  exact ⟨_, c i, hx.c0, hx.c1, ((hx.nm.bytes.low (hlay.at_ i hi).1).mono (hlay.at_ i hi).2.1)⟩

set_option maxHeartbeats 1000000 in
theorem eqFile_same (v : Int) (A A' : Option Addr) (l : List UInt8) (c c' L L' B B' : Nat) (w : World) (hA : BytesIn w L B A l) (hA' : BytesIn w L' B' A' l) (hB : B ≤ w.heap.size) (hB' : B' ≤ w.heap.size) (hn : l.length ≤ 1048576) :
    Calls Tryd.prog 62 #[.agg #[.slice A l.length c, .int .i64 v], .agg #[.slice A' l.length c', .int .i64 v]] w fun e w' => e = .returned (.bool true) ∧ Below w.heap.size w w' := by
  have HA := Lib.hid hA
  have HA' := Lib.hid hA'
  clear hA hA'
  go_enter Tryd.func62, Tryd.ntmps62
  go_wp2_with fail
  obtain ⟨W0, hW0⟩ : ∃ W0, W0 = w.alloc (.cells #[.slice A l.length c, .int .i64 v] 47) := ⟨_, rfl⟩
  obtain ⟨W, hW⟩ : ∃ W, W = W0.alloc (.cells #[.slice A' l.length c', .int .i64 v] 47) := ⟨_, rfl⟩
  have hz0 : W0.heap.size = w.heap.size + 1 := by rw [hW0]; simp
  have hz : W.heap.size = w.heap.size + 2 := by rw [hW]; simp [hz0]
  have hX : Bx W w.heap.size [.slice A l.length c, .int .i64 v] := by rw [hW]; exact Bx.alloc (by rw [hW0]; exact Bx.new' _ _ _ _ rfl) (by omega) _
  have hY : Bx W (w.heap.size + 1) [.slice A' l.length c', .int .i64 v] := by rw [hW, ← hz0]; exact Bx.new' _ _ _ _ rfl
  have HBel := Lib.hid (show Below w.heap.size w W by rw [hW, hW0]; exact ((Below.refl _ _).alloc (Nat.le_refl _) _).alloc (by simp) _)
  rw [← hW0, ← hW]
  have hzW : w.heap.size + 1 < W.heap.size := by omega
  clear hW hW0 hz0 hz
  refine (eqByteS_same _ _ _ _ _ L L' B B' _ ?h1 ?h2 hn).mono ?_
  case h1 => exact HA.out.keep fun p _ hp => HBel.out.cell (by omega)
  case h2 => exact HA'.out.keep fun p _ hp => HBel.out.cell (by omega)
  rintro e w1 ⟨rfl, hb⟩
  have x1 := (hX.below hb (by omega)) 1 (by simp)
  have y1 := (hY.below hb (by omega)) 1 (by simp)
  simp only [List.getElem_cons_succ, List.getElem_cons_zero] at x1 y1
  have HB := Lib.hid (HBel.out.trans (hb.mono (by omega)))
  have e1 : (v != v) = false := by simp
  clear hb hX hY
  go_wp2_with fail
  go_ret
  exact ⟨rfl, HB.out⟩

set_option maxRecDepth 100000 in
set_option maxHeartbeats 1000000 in
theorem eqFileS_in (A A' : Option Addr) (es : List Fl) (c c' L L' B B' : Nat) (w : World) (hA : FsIn w L B A es) (hA' : FsIn w L' B' A' es) (hB : B ≤ w.heap.size) (hB' : B' ≤ w.heap.size) (hn : es.length ≤ 1048576) (hbk : fbulk es ≤ 1048576) :
    Calls Tryd.prog 26 #[.slice A es.length c, .slice A' es.length c'] w fun e w' => e = .returned (.bool true) ∧ Below w.heap.size w w' := by
  go_enter Tryd.func26, Tryd.ntmps26
  go_wp2
  go_loopw [5] (fun i wr => ∃ k : Nat, k ≤ es.length ∧ i = .int .i64 k ∧ Below w.heap.size w wr) (fun i _ => es.length - (intOf i).toNat)
  case atStart => exact ⟨0, Nat.zero_le _, rfl, Below.refl _ _⟩
  case round =>
    obtain ⟨k, hk, rfl, hbel⟩ := hrel
    have HBel := Lib.hid hbel
    by_cases hlt : k < es.length
    · obtain ⟨b, o, rfl, _, hb, hc⟩ := hA (by omega)
      obtain ⟨b', o', rfl, _, hb', hc'⟩ := hA' (by omega)
      obtain ⟨A1, c1, x0, x1, hby⟩ := (hc k hlt).keep (by assumption) hb (fun p _ hp => hbel.cell (by omega))
      obtain ⟨A2, c2, y0, y1, hby'⟩ := (hc' k hlt).keep (by assumption) hb' (fun p _ hp => hbel.cell (by omega))
      have HY := Lib.hid hby
      have HY' := Lib.hid hby'
      have hle := name_le_fbulk es k hlt
      have hz := hbel.size
      clear hc hc' hA hA' hbel hby hby'
      go_wp2
      go_still_tail 8, (by kernel_rfl)
      change wpList _ _ _ _ _ wr.drew
      go_wp2_with fail
      refine (eqFile_same _ _ _ _ _ _ L L' B B' _ HY.out.drew HY'.out.drew (Nat.le_trans hB hz) (Nat.le_trans hB' hz) (by omega)).mono ?_
      rintro e w1 ⟨rfl, hb1⟩
      have HB := Lib.hid (HBel.out.drew.trans (hb1.mono hz))
      clear hb1 x0 x1 y0 y1
      go_wp2
      go_roundw
      case rel => exact ⟨k + 1, by omega, by go_num, HB.out⟩
      case measure => simp [intOf]; omega
    · go_wp2
      go_ret
      exact ⟨rfl, hbel⟩

theorem eqFileS_same (A A' : Option Addr) (fs : List Fl) (c c' L L' B B' : Nat) (w : World) (hA : FsOwn w L B A fs) (hA' : FsOwn w L' B' A' fs) (hB : B ≤ w.heap.size) (hB' : B' ≤ w.heap.size) (hn : fs.length ≤ 1048576) (hbk : fbulk fs ≤ 1048576) :
    Calls Tryd.prog 26 #[.slice A fs.length c, .slice A' fs.length c'] w fun e w' => e = .returned (.bool true) ∧ Below w.heap.size w w' := eqFileS_in A A' fs c c' L L' B B' w hA.fs hA'.fs hB hB' hn hbk

/-- The i-th file of the row in block R, written over from k on. -/
structure FmCell (w : World) (R i : Nat) (N : Option Addr) (lo up c n : Nat) (k : Int) : Prop where
  c0 : w.cell? ⟨R, i * 2, none⟩ = some (.slice N n c)
  c1 : w.cell? ⟨R, i * 2 + 1, none⟩ = some (.int .i64 (k + n))
  nm : MkFr w lo up N k n
def FsMk (w : World) (L B : Nat) (A : Option Addr) (fs : List Fl) (k : Int) : Prop :=
  0 < fs.length → ∃ (R : Nat) (N : Nat → Option Addr) (lo up c : Nat → Nat), A = some ⟨R, 0, none⟩ ∧ ELay L B R fs.length lo up ∧ ∀ i (hi : i < fs.length), FmCell w R i (N i) (lo i) (up i) (c i) fs[i].1.length (k + (fo (fs.take i) : Nat))
theorem FsMk.keep {w w' : World} {L B : Nat} {A : Option Addr} {fs : List Fl} {k : Int} (h : FsMk w L B A fs k) (hk : ∀ p : Addr, L ≤ p.block → p.block < B → w'.cell? p = w.cell? p ∧ w'.frozen? p = w.frozen? p) : FsMk w' L B A fs k := fun hl => by
  obtain ⟨R, N, lo, up, c, e, hlay, hc⟩ := h hl
  refine ⟨R, N, lo, up, c, e, hlay, fun i hi => ?_⟩
  have hx := hc i hi
  have hg := hlay.at_ i hi
  exact ⟨(hk _ hlay.low hlay.up).1.trans hx.c0, (hk _ hlay.low hlay.up).1.trans hx.c1, hx.nm.keep fun p hp hq => hk p (by omega) (by omega)⟩
theorem one_otherF {w : World} {R j : Nat} {v1 : Value} {b o : Nat} (hp : b ≠ R ∨ o ≠ j * 2 + 1) : (w.setCell ⟨R, j * 2 + 1, none⟩ v1).cell? ⟨b, o, none⟩ = w.cell? ⟨b, o, none⟩ := by
  rw [World.cell?_setCell_other _ _ _ _ (by intro h; injection h with h1 h2; omega)]
theorem one_frozenF {w : World} {R j : Nat} {v1 : Value} {p : Addr} : (w.setCell ⟨R, j * 2 + 1, none⟩ v1).frozen? p = w.frozen? p := by
  rw [World.frozen?_setCell]

set_option maxRecDepth 100000 in
set_option maxHeartbeats 2000000 in
theorem markFileS_own (A : Option Addr) (es : List Fl) (c0 L B : Nat) (k : Int) (w : World) (h : FsOwn w L B A es) (hB : B ≤ w.heap.size) (hn : es.length ≤ 1048576) (hbk : fbulk es ≤ 1048576) (hk : 0 ≤ k) (hk' : k ≤ 100000000) :
    Calls Tryd.prog 29 #[.slice A es.length c0, .int .i64 k] w fun e w' => e = .returned (.int .i64 (k + (fo es : Nat))) ∧ FsMk w' L B A es k ∧ Inside L B w w' := by
  by_cases hz : es.length = 0
  · have he : es = [] := by cases es with
      | nil => rfl
      | cons x xs => simp at hz
    subst he
    clear hz h
    go_enter Tryd.func29, Tryd.ntmps29
    go_wp2
    go_loopw [1, 5] (fun x i wr => i = .int .i64 0 ∧ x = .int .i64 k ∧ wr = w) (fun _ _ _ => 0)
    case atStart => exact ⟨rfl, rfl, rfl⟩
    case round =>
      obtain ⟨rfl, rfl, rfl⟩ := hrel
      go_wp2
      go_ret
      exact ⟨ret_int (by simp [fo, fbulk]), fun h => absurd h (by simp), Inside.refl _ _ _⟩
  obtain ⟨R, N, lo, up, c, rfl, hlay, hc⟩ := h (by omega)
  have HC := Lib.hid hc
  have HLay := Lib.hid hlay
  have hRB := hlay.up
  have hmle : fo es ≤ 5000000 := by unfold fo; omega
  clear hc hlay hz h
  go_enter Tryd.func29, Tryd.ntmps29
  go_wp2
  go_loopw [1, 5] (fun x i wr => ∃ j : Nat, j ≤ es.length ∧ i = .int .i64 j ∧ x = .int .i64 (k + (fo (es.take j) : Nat)) ∧ Inside L B w wr ∧ (∀ i (hi : i < es.length), i < j → FmCell wr R i (N i) (lo i) (up i) (c i) es[i].1.length (k + (fo (es.take i) : Nat))) ∧ (∀ i (hi : i < es.length), j ≤ i → FlCell wr R i (N i) (lo i) (up i) (c i) es[i])) (fun _ i _ => es.length - (intOf i).toNat)
  case atStart => exact ⟨0, Nat.zero_le _, rfl, by simp [fo, fbulk], Inside.refl _ _ _, fun i _ hi => absurd hi (by omega), fun i hi _ => HC.out i hi⟩
  case round =>
    obtain ⟨j, hj, rfl, rfl, hin, hmk, hen⟩ := hrel
    have HI := Lib.hid hin
    have HMk := Lib.hid hmk
    have HEn := Lib.hid hen
    have hsz := hin.below.size
    clear hin hmk hen
    by_cases hlt : j < es.length
    · have hx := HEn.out j hlt (Nat.le_refl _)
      have HS := Lib.hid (fo_succ es j hlt)
      have hle2 := fo_le es (j + 1)
      have hnl := name_le_fbulk es j hlt
      rw [HS.out] at hle2
      have q0 := hx.c0
      have q1 := hx.c1
      have HNm := Lib.hid hx.nm
      have HFr := Lib.hid hx.fr
      obtain ⟨hg1, hg2, hg3⟩ := HLay.out.at_ j hlt
      obtain ⟨mj, hmj⟩ : ∃ mj, mj = fo (es.take j) := ⟨_, rfl⟩
      rw [← hmj] at hle2 HS ⊢
      have HMj := Lib.hid hmj
      clear hx hmj
      go_wp2_with fail
      refine (markByteS_fr (N j) es[j].1 (c j) (lo j) (up j) _ wr HNm.out (by omega) (by omega) (by omega)).mono ?_
      rintro e w1 ⟨rfl, hmk1, hin1⟩
      have HM1 := Lib.hid hmk1
      have hRlt : R < wr.heap.size := by omega
      have hoff := fun o => hin1.offR (b := R) (o := o) hg3 hRlt
      have p1 := (hoff (j * 2 + 1)).1.trans q1
      have p0 := (hoff (j * 2)).1.trans q0
      have r1 := (hoff (j * 2 + 1)).2.trans (HFr.out 1 (by omega))
      have HOff := Lib.hid hoff
      have HIn1 := Lib.hid hin1
      have HI1 := Lib.hid (HI.out.trans (hin1.wider hg1 (by omega)))
      have hz1 := hin1.below.size
      clear hmk1 hin1 hoff q0 q1
      have P0 := Lib.hid p0
      clear p0
      go_wp2_with fail
      go_roundw
      case rel =>
        refine ⟨j + 1, by omega, by go_num, by rw [HS.out]; go_num, ?_, fun i hi hij => ?_, fun i hi hij => ?_⟩
        · exact HI1.out.setCell (p := ⟨R, j * 2 + 1, none⟩) HLay.out.low hRB _
        · by_cases e : i = j
          · subst e
            rw [← HMj.out]
            refine ⟨(one_otherF (.inr (by omega))).trans P0.out, World.cell?_setCell_same _ _ _ p1, HM1.out.keep fun p hp hq => ⟨?_, one_frozenF⟩⟩
            · obtain ⟨pb, po, ps⟩ := p
              simp at hp hq
              rw [World.cell?_setCell_other _ _ _ _ (by intro h; injection h with h1; omega)]
          · have hx := HMk.out i hi (by omega)
            have hgi := HLay.out.at_ i hi
            have hne := HLay.out.ap hi hlt e
            refine ⟨(one_otherF (.inr (by omega))).trans ((HOff.out _).1.trans hx.c0), (one_otherF (.inr (by omega))).trans ((HOff.out _).1.trans hx.c1), fun hl => ?_⟩
            obtain ⟨b, o, ee, hb1, hb2, hcc⟩ := hx.nm hl
            have hgo := fun o' => HIn1.out.offR (b := b) (o := o') (by omega) (by omega)
            exact ⟨b, o, ee, hb1, hb2, fun m hm => ⟨(one_otherF (.inl (by omega))).trans ((hgo _).1.trans (hcc m hm).1), one_frozenF.trans ((hgo _).2.trans (hcc m hm).2)⟩⟩
        · have hx := HEn.out i hi (by omega)
          have hgi := HLay.out.at_ i hi
          have hne := HLay.out.ap hi hlt (by omega)
          refine ⟨(one_otherF (.inr (by omega))).trans ((HOff.out _).1.trans hx.c0), (one_otherF (.inr (by omega))).trans ((HOff.out _).1.trans hx.c1), fun o ho => one_frozenF.trans ((HOff.out _).2.trans (hx.fr o ho)), fun hl => ?_⟩
          obtain ⟨b, o, ee, hb1, hb2, hcc⟩ := hx.nm hl
          have hgo := fun o' => HIn1.out.offR (b := b) (o := o') (by omega) (by omega)
          exact ⟨b, o, ee, hb1, hb2, fun m hm => ⟨(one_otherF (.inl (by omega))).trans ((hgo _).1.trans (hcc m hm).1), one_frozenF.trans ((hgo _).2.trans (hcc m hm).2)⟩⟩
      case measure => simp [intOf]; omega
    · have hje : j = es.length := by omega
      have HK := Lib.hid (show k + (fo (es.take j) : Nat) = k + (fo es : Nat) by rw [hje, List.take_length])
      have HR := Lib.hid (show FsMk wr L B (some ⟨R, 0, none⟩) es k from fun _ => ⟨R, N, lo, up, c, rfl, HLay.out, fun i hi => HMk.out i hi (by omega)⟩)
      generalize fo (es.take j) = mj at *
      go_wp2
      go_ret
      exact ⟨ret_int HK.out, HR.out, HI.out⟩

set_option maxRecDepth 100000 in
set_option maxHeartbeats 2000000 in
theorem heldFileS_own (A : Option Addr) (es : List Fl) (c0 L B : Nat) (k : Int) (w : World) (h : FsMk w L B A es k) (hn : es.length ≤ 1048576) (hbk : fbulk es ≤ 1048576) (hk : 0 ≤ k) (hk' : k ≤ 100000000) :
    Calls Tryd.prog 30 #[.slice A es.length c0, .int .i64 k] w fun e w' => e = .returned (.int .i64 (k + (fo es : Nat))) ∧ w = w' := by
  have hmle : fo es ≤ 5000000 := by unfold fo; omega
  have HH := Lib.hid h
  clear h
  go_enter Tryd.func30, Tryd.ntmps30
  go_wp2
  go_loop [1, 5] (fun x i => ∃ j : Nat, j ≤ es.length ∧ i = .int .i64 j ∧ x = .int .i64 (k + (fo (es.take j) : Nat))) (fun _ i => es.length - (intOf i).toNat)
  case atStart => exact ⟨0, Nat.zero_le _, rfl, by simp [fo, fbulk]⟩
  case round =>
    obtain ⟨j, hj, rfl, rfl⟩ := hrel
    by_cases hlt : j < es.length
    · obtain ⟨R, N, lo, up, c, rfl, hlay, hc⟩ := HH.out (by omega)
      have hx := hc j hlt
      have HS := Lib.hid (fo_succ es j hlt)
      have hle2 := fo_le es (j + 1)
      have hnl := name_le_fbulk es j hlt
      rw [HS.out] at hle2
      obtain ⟨mj, hmj⟩ : ∃ mj, mj = fo (es.take j) := ⟨_, rfl⟩
      rw [← hmj] at hle2 HS hx ⊢
      have q0 := hx.c0
      have q1 := hx.c1
      have HNm := Lib.hid hx.nm
      obtain ⟨n, hnn⟩ : ∃ n, n = es[j].1.length := ⟨_, rfl⟩
      rw [← hnn] at q0 q1 HNm hle2 HS hnl
      have e1 : ((k + (mj : Int) + (n : Int)) != (k + (mj : Int) + (n : Int))) = false := by simp
      have h0 : ¬ (k + (mj : Int) + (n : Int)) < 0 := by omega
      clear hx hmj hlay hc hnn
      go_wp2_with fail
      refine (heldByteS_any (N j) n (c j) (lo j) (up j) _ w HNm.out (by omega) (by omega) (by omega)).mono ?_
      rintro e w1 ⟨rfl, rfl⟩
      go_wp2_with fail
      go_round
      case rel => exact ⟨j + 1, by omega, by go_num, by rw [HS.out]; go_num⟩
      case measure => simp [intOf]; omega
    · have hje : j = es.length := by omega
      have HK := Lib.hid (show k + (fo (es.take j) : Nat) = k + (fo es : Nat) by rw [hje, List.take_length])
      generalize fo (es.take j) = mj at *
      go_wp2
      go_ret
      exact ⟨ret_int HK.out, rfl⟩

end Go.Proofs.YtepkicgnhjaokaaDoor

namespace Go.Proofs.YtepkicgnhjaokaaDoor
open Go.RowKit Go.Maps

theorem vw_name24 {l : List UInt8} (h : nameB l = true) : l.length ≤ 24 := by
  unfold nameB at h
  split at h
  · cases h
  · simp only [Bool.and_eq_true, decide_eq_true_eq] at h
    exact h.2
theorem fbulk_all : ∀ {fs : List Fl}, (∀ f ∈ fs, f.1.length ≤ 100) → fbulk fs ≤ 100 * fs.length
  | [], _ => Nat.le_refl _
  | f :: fs, h => by
    have h1 := h f (by simp)
    have h2 := fbulk_all (fs := fs) (fun x hx => h x (by simp [hx]))
    simp only [fbulk, List.length_cons]
    omega
theorem vwL_len (vec : List Int) (es : List En) (_h : es.length ≤ 1048576) : (vwL vec es).length ≤ 1048576 := by
  unfold vwL
  split
  · rw [vwE_len]; exact _h
  · simp
theorem vwL_bulk (vec : List Int) (es : List En) (_h : ebulk es ≤ 1048576) : fbulk (vwL vec es) ≤ 1048576 := by
  unfold vwL
  split
  · rename_i ht
    have hn := vw_nums ht
    have h12 := treeB_len' ht
    have hnm : ∀ e ∈ es, nameB e.name = true := by
      unfold treeB at ht
      simp only [Bool.and_eq_true, List.all_eq_true] at ht
      exact fun e he => ht.1.2 e he
    have hall : ∀ f ∈ vwE es, f.1.length ≤ 100 := by
      intro f hf
      unfold vwE at hf
      obtain ⟨i, hi, rfl⟩ := List.mem_map.1 hf
      have hi' : i < es.length := by simpa using hi
      have hg : es.getD i default = es[i] := by simp [hi']
      have hm : es[i] ∈ es := List.getElem_mem hi'
      have h1 := vw_name24 (hnm _ hm)
      obtain ⟨a, b, c, d⟩ := hn _ hm
      have h2 := digits20 es[i].dev.toNat (by omega)
      have h3 := digits20 es[i].num.toNat (by omega)
      unfold vwF vwName
      rw [hg]
      simp only [List.length_append]
      split
      · simp; omega
      · unfold sufx
        simp only [List.length_cons, List.length_append]
        omega
    have h := fbulk_all hall
    rw [vwE_len] at h
    omega
  · simp [fbulk]

end Go.Proofs.YtepkicgnhjaokaaDoor
