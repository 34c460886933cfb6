/-
  What the law writes into a tree, and what it finds there.
-/
import Derived.Test.YtepkicgnhjaokaaDoorTrO
namespace Go.Proofs.YtepkicgnhjaokaaDoor
open Go.RowKit Go.Maps

/-- How many numbers are written into these entries. -/
def mo (es : List En) : Nat := ebulk es + 3 * es.length
theorem mo_succ (es : List En) (k : Nat) (h : k < es.length) : mo (es.take (k + 1)) = mo (es.take k) + es[k].name.length + 3 := by
  unfold mo
  rw [ebulk_take_succ es k h, List.length_take, List.length_take]
  omega
theorem mo_le (es : List En) (k : Nat) : mo (es.take k) ≤ mo es := by
  unfold mo
  have := ebulk_take_le es k
  rw [List.length_take]
  omega

theorem bd_mo {vec : List Int} {es : List En} (h1 : vec.length ≤ 1048576) (h2 : es.length ≤ 1048576) (h3 : ebulk es ≤ 1048576) : vec.length ≤ 1048576 ∧ mo es ≤ 4194304 := ⟨h1, by unfold mo; omega⟩

/-- The i-th entry of the row in block R, written over from k on. -/
structure MkCell (w : World) (R i : Nat) (N : Option Addr) (lo up c n : Nat) (k : Int) : Prop where
  c0 : w.cell? ⟨R, i * 4, none⟩ = some (.slice N n c)
  c1 : w.cell? ⟨R, i * 4 + 1, none⟩ = some (.int .i64 (k + n))
  c2 : w.cell? ⟨R, i * 4 + 2, none⟩ = some (.int .i64 (k + n + 1))
  c3 : w.cell? ⟨R, i * 4 + 3, none⟩ = some (.int .i64 (k + n + 1 + 1))
  nm : MkFr w lo up N k n

/-- A list of entries, written over from k on. -/
def EnsMk (w : World) (L B : Nat) (A : Option Addr) (es : List En) (k : Int) : Prop :=
  0 < es.length → ∃ (R : Nat) (N : Nat → Option Addr) (lo up c : Nat → Nat), A = some ⟨R, 0, none⟩ ∧ ELay L B R es.length lo up ∧ ∀ i (hi : i < es.length), MkCell w R i (N i) (lo i) (up i) (c i) es[i].name.length (k + (mo (es.take i) : Nat))

theorem EnsMk.keep {w w' : World} {L B : Nat} {A : Option Addr} {es : List En} {k : Int} (h : EnsMk w L B A es k) (hk : ∀ p : Addr, L ≤ p.block → p.block < B → w'.cell? p = w.cell? p ∧ w'.frozen? p = w.frozen? p) : EnsMk w' L B A es k := fun hl => by
  obtain ⟨R, N, lo, up, c, e, hlay, hc⟩ := h hl
  refine ⟨R, N, lo, up, c, e, hlay, fun i hi => ?_⟩
  have hx := hc i hi
  have hg := hlay.at_ i hi
  exact ⟨(hk _ hlay.low hlay.up).1.trans hx.c0, (hk _ hlay.low hlay.up).1.trans hx.c1, (hk _ hlay.low hlay.up).1.trans hx.c2, (hk _ hlay.low hlay.up).1.trans hx.c3, hx.nm.keep fun p hp hq => hk p (by omega) (by omega)⟩

/-- Three cells of the j-th entry, stored. -/
theorem three_other {w : World} {R j : Nat} {v1 v2 v3 : Value} {b o : Nat} (hp : b ≠ R ∨ (o ≠ j * 4 + 1 ∧ o ≠ j * 4 + 2 ∧ o ≠ j * 4 + 3)) :
    (((w.setCell ⟨R, j * 4 + 1, none⟩ v1).setCell ⟨R, j * 4 + 2, none⟩ v2).setCell ⟨R, j * 4 + 3, none⟩ v3).cell? ⟨b, o, none⟩ = w.cell? ⟨b, o, none⟩ := by
  rw [World.cell?_setCell_other _ _ _ _ (by intro h; injection h with h1 h2; omega), World.cell?_setCell_other _ _ _ _ (by intro h; injection h with h1 h2; omega), World.cell?_setCell_other _ _ _ _ (by intro h; injection h with h1 h2; omega)]
theorem three_frozen {w : World} {R j : Nat} {v1 v2 v3 : Value} {p : Addr} :
    (((w.setCell ⟨R, j * 4 + 1, none⟩ v1).setCell ⟨R, j * 4 + 2, none⟩ v2).setCell ⟨R, j * 4 + 3, none⟩ v3).frozen? p = w.frozen? p := by
  rw [World.frozen?_setCell, World.frozen?_setCell, World.frozen?_setCell]

theorem Inside.offR {w w' : World} {lo up : Nat} (h : Inside lo up w w') {b o : Nat} (hb : b < lo ∨ up ≤ b) (hlt : b < w.heap.size) : w'.cell? ⟨b, o, none⟩ = w.cell? ⟨b, o, none⟩ ∧ w'.frozen? ⟨b, o, none⟩ = w.frozen? ⟨b, o, none⟩ := by
  refine ⟨h.cell (p := ⟨b, o, none⟩) ?_, h.frozen _ (by show b < _; omega)⟩
  rcases hb with h1 | h1
  · exact .inl h1
  · exact .inr ⟨h1, hlt⟩
theorem Inside.off {w w' : World} {g : Nat} (h : Inside g (g + 1) w w') {b o : Nat} (hb : b ≠ g) (hlt : b < w.heap.size) : w'.cell? ⟨b, o, none⟩ = w.cell? ⟨b, o, none⟩ ∧ w'.frozen? ⟨b, o, none⟩ = w.frozen? ⟨b, o, none⟩ := by
  refine ⟨h.cell (p := ⟨b, o, none⟩) ?_, h.frozen _ (by show b < _; omega)⟩
  by_cases e : b < g
  · exact .inl e
  · exact .inr ⟨by show g + 1 ≤ b; omega, hlt⟩

set_option maxRecDepth 100000 in
set_option maxHeartbeats 2000000 in
theorem markEntryS_own (A : Option Addr) (es : List En) (c0 L B : Nat) (k : Int) (w : World) (h : EnsOwn w L B A es) (hB : B ≤ w.heap.size) (hn : es.length ≤ 1048576) (hbk : ebulk es ≤ 1048576) (hk : 0 ≤ k) (hk' : k ≤ 100000000) :
    Calls Tryd.prog 66 #[.slice A es.length c0, .int .i64 k] w fun e w' => e = .returned (.int .i64 (k + (mo es : Nat))) ∧ EnsMk w' L B A es k ∧ Inside L B w w' := by
  by_cases hz : es.length = 0
  · have he : es = [] := by cases es with
      | nil => rfl
      | cons x xs => simp at hz
    subst he
    clear hz h
    go_enter Tryd.func66, Tryd.ntmps66
    go_wp2
    go_loopw [1, 5] (fun x i wr => i = .int .i64 0 ∧ x = .int .i64 k ∧ wr = w) (fun _ _ _ => 0)
    case atStart => exact ⟨rfl, rfl, rfl⟩
    case round =>
      obtain ⟨rfl, rfl, rfl⟩ := hrel
      go_wp2
      go_ret
      exact ⟨ret_int (by simp [mo, ebulk]), fun h => absurd h (by simp), Inside.refl _ _ _⟩
  obtain ⟨R, N, lo, up, c, rfl, hlay, hc⟩ := h (by omega)
  have HC := Lib.hid hc
  have HLay := Lib.hid hlay
  have hRB := hlay.up
  have hmle : mo es ≤ 5000000 := by unfold mo; omega
  clear hc hlay hz h
  go_enter Tryd.func66, Tryd.ntmps66
  go_wp2
  go_loopw [1, 5] (fun x i wr => ∃ j : Nat, j ≤ es.length ∧ i = .int .i64 j ∧ x = .int .i64 (k + (mo (es.take j) : Nat)) ∧ Inside L B w wr ∧ (∀ i (hi : i < es.length), i < j → MkCell wr R i (N i) (lo i) (up i) (c i) es[i].name.length (k + (mo (es.take i) : Nat))) ∧ (∀ i (hi : i < es.length), j ≤ i → EnCell wr R i (N i) (lo i) (up i) (c i) es[i])) (fun _ i _ => es.length - (intOf i).toNat)
  case atStart => exact ⟨0, Nat.zero_le _, rfl, by simp [mo, ebulk], Inside.refl _ _ _, fun i _ hi => absurd hi (by omega), fun i hi _ => HC.out i hi⟩
  case round =>
    obtain ⟨j, hj, rfl, rfl, hin, hmk, hen⟩ := hrel
    have HI := Lib.hid hin
    have HMk := Lib.hid hmk
    have HEn := Lib.hid hen
    have hsz := hin.below.size
    clear hin hmk hen
    by_cases hlt : j < es.length
    · have hx := HEn.out j hlt (Nat.le_refl _)
      have HS := Lib.hid (mo_succ es j hlt)
      have hle2 := mo_le es (j + 1)
      have hnl := name_le_ebulk es j hlt
      rw [HS.out] at hle2
      have q0 := hx.c0
      have q1 := hx.c1
      have q2 := hx.c2
      have q3 := hx.c3
      have HNm := Lib.hid hx.nm
      have HFr := Lib.hid hx.fr
      obtain ⟨hg1, hg2, hg3⟩ := HLay.out.at_ j hlt
      obtain ⟨mj, hmj⟩ : ∃ mj, mj = mo (es.take j) := ⟨_, rfl⟩
      rw [← hmj] at hle2 HS ⊢
      have HMj := Lib.hid hmj
      clear hx hmj
      go_wp2_with fail
      refine (markByteS_fr (N j) es[j].name (c j) (lo j) (up j) _ wr HNm.out (by omega) (by omega) (by omega)).mono ?_
      rintro e w1 ⟨rfl, hmk1, hin1⟩
      have HM1 := Lib.hid hmk1
      have hRlt : R < wr.heap.size := by omega
      have hoff := fun o => hin1.offR (b := R) (o := o) hg3 hRlt
      have p1 := (hoff (j * 4 + 1)).1.trans q1
      have p2 := (hoff (j * 4 + 2)).1.trans q2
      have p3 := (hoff (j * 4 + 3)).1.trans q3
      have p0 := (hoff (j * 4)).1.trans q0
      have r1 := (hoff (j * 4 + 1)).2.trans (HFr.out 1 (by omega))
      have r2 := (hoff (j * 4 + 2)).2.trans (HFr.out 2 (by omega))
      have r3 := (hoff (j * 4 + 3)).2.trans (HFr.out 3 (by omega))
      have HOff := Lib.hid hoff
      have HIn1 := Lib.hid hin1
      have HI1 := Lib.hid (HI.out.trans (hin1.wider hg1 (by omega)))
      have hz1 := hin1.below.size
      clear hmk1 hin1 hoff q0 q1 q2 q3
      have P0 := Lib.hid p0
      clear p0
      go_wp2_with fail
      go_roundw
      case rel =>
        refine ⟨j + 1, by omega, by go_num, by rw [HS.out]; go_num, ?_, fun i hi hij => ?_, fun i hi hij => ?_⟩
        · exact ((HI1.out.setCell (p := ⟨R, j * 4 + 1, none⟩) HLay.out.low hRB _).setCell (p := ⟨R, j * 4 + 2, none⟩) HLay.out.low hRB _).setCell (p := ⟨R, j * 4 + 3, none⟩) HLay.out.low hRB _
        · by_cases e : i = j
          · subst e
            rw [← HMj.out]
            refine ⟨(three_other (.inr ⟨by omega, by omega, by omega⟩)).trans P0.out, ?_, ?_, ?_, HM1.out.keep fun p hp hq => ⟨?_, three_frozen⟩⟩
            · rw [World.cell?_setCell_other _ _ _ _ (by simp), World.cell?_setCell_other _ _ _ _ (by simp), World.cell?_setCell_same _ _ _ p1]
            · rw [World.cell?_setCell_other _ _ _ _ (by simp), World.cell?_setCell_same _ _ _ ((World.cell?_setCell_other _ _ _ _ (by simp)).trans p2)]
            · rw [World.cell?_setCell_same _ _ _ ((World.cell?_setCell_other _ _ _ _ (by simp)).trans ((World.cell?_setCell_other _ _ _ _ (by simp)).trans p3))]
            · obtain ⟨pb, po, ps⟩ := p
              simp at hp hq
              rw [World.cell?_setCell_other _ _ _ _ (by intro h; injection h with h1; omega), World.cell?_setCell_other _ _ _ _ (by intro h; injection h with h1; omega), World.cell?_setCell_other _ _ _ _ (by intro h; injection h with h1; omega)]
          · have hx := HMk.out i hi (by omega)
            have hgi := HLay.out.at_ i hi
            have hne := HLay.out.ap hi hlt e
            refine ⟨(three_other (.inr ⟨by omega, by omega, by omega⟩)).trans ((HOff.out _).1.trans hx.c0), (three_other (.inr ⟨by omega, by omega, by omega⟩)).trans ((HOff.out _).1.trans hx.c1), (three_other (.inr ⟨by omega, by omega, by omega⟩)).trans ((HOff.out _).1.trans hx.c2), (three_other (.inr ⟨by omega, by omega, by omega⟩)).trans ((HOff.out _).1.trans hx.c3), fun hl => ?_⟩
            obtain ⟨b, o, ee, hb1, hb2, hcc⟩ := hx.nm hl
            have hgo := fun o' => HIn1.out.offR (b := b) (o := o') (by omega) (by omega)
            exact ⟨b, o, ee, hb1, hb2, fun m hm => ⟨(three_other (.inl (by omega))).trans ((hgo _).1.trans (hcc m hm).1), three_frozen.trans ((hgo _).2.trans (hcc m hm).2)⟩⟩
        · have hx := HEn.out i hi (by omega)
          have hgi := HLay.out.at_ i hi
          have hne := HLay.out.ap hi hlt (by omega)
          refine ⟨(three_other (.inr ⟨by omega, by omega, by omega⟩)).trans ((HOff.out _).1.trans hx.c0), (three_other (.inr ⟨by omega, by omega, by omega⟩)).trans ((HOff.out _).1.trans hx.c1), (three_other (.inr ⟨by omega, by omega, by omega⟩)).trans ((HOff.out _).1.trans hx.c2), (three_other (.inr ⟨by omega, by omega, by omega⟩)).trans ((HOff.out _).1.trans hx.c3), fun o ho => three_frozen.trans ((HOff.out _).2.trans (hx.fr o ho)), fun hl => ?_⟩
          obtain ⟨b, o, ee, hb1, hb2, hcc⟩ := hx.nm hl
          have hgo := fun o' => HIn1.out.offR (b := b) (o := o') (by omega) (by omega)
          exact ⟨b, o, ee, hb1, hb2, fun m hm => ⟨(three_other (.inl (by omega))).trans ((hgo _).1.trans (hcc m hm).1), three_frozen.trans ((hgo _).2.trans (hcc m hm).2)⟩⟩
      case measure => simp [intOf]; omega
    · have hje : j = es.length := by omega
      have HK := Lib.hid (show k + (mo (es.take j) : Nat) = k + (mo es : Nat) by rw [hje, List.take_length])
      have HR := Lib.hid (show EnsMk wr L B (some ⟨R, 0, none⟩) es k from fun _ => ⟨R, N, lo, up, c, rfl, HLay.out, fun i hi => HMk.out i hi (by omega)⟩)
      generalize mo (es.take j) = mj at *
      go_wp2
      go_ret
      exact ⟨ret_int HK.out, HR.out, HI.out⟩

/-- A tree, written over from k on. -/
def TrMk (w : World) (L B : Nat) (AV : Option Addr) (n : Nat) (A : Option Addr) (es : List En) (k : Int) : Prop :=
  IntsFr w L B AV (marks k n) ∧ EnsMk w L B A es (k + n)

theorem TrMk.keep {w w' : World} {L B n : Nat} {AV A : Option Addr} {es : List En} {k : Int} (h : TrMk w L B AV n A es k) (hk : ∀ p : Addr, L ≤ p.block → p.block < B → w'.cell? p = w.cell? p ∧ w'.frozen? p = w.frozen? p) : TrMk w' L B AV n A es k :=
  ⟨h.1.keep hk, h.2.keep hk⟩

theorem EnsMk.mono {w : World} {L L' B B' : Nat} {A : Option Addr} {es : List En} {k : Int} (h : EnsMk w L B A es k) (hL : L' ≤ L) (hB : B ≤ B') : EnsMk w L' B' A es k := fun hl => by
  obtain ⟨R, N, lo, up, c, e, hlay, hc⟩ := h hl
  exact ⟨R, N, lo, up, c, e, hlay.mono hL hB, hc⟩

set_option maxRecDepth 100000 in
set_option maxHeartbeats 2000000 in
theorem markTree_own (AV A : Option Addr) (vec : List Int) (es : List En) (cv c L B : Nat) (k : Int) (w : World) (h : TrOwn w L B AV vec A es) (hB : B ≤ w.heap.size) (hv : vec.length ≤ 1048576) (hn : es.length ≤ 1048576) (hbk : ebulk es ≤ 1048576) (hk : 0 ≤ k) (hk' : k ≤ 50000000) (hLw : L ≤ w.heap.size) :
    Calls Tryd.prog 28 #[.agg #[.slice AV vec.length cv, .slice A es.length c], .int .i64 k] w fun e w' => e = .returned (.int .i64 (k + vec.length + (mo es : Nat))) ∧ TrMk w' L B AV vec.length A es k ∧ Inside L B w w' := by
  have HT := Lib.hid h
  clear h
  go_enter Tryd.func28, Tryd.ntmps28
  go_wp2_with fail
  obtain ⟨W, hW⟩ : ∃ W, W = w.alloc (.cells #[.slice AV vec.length cv, .slice A es.length c] 34) := ⟨_, rfl⟩
  have hX : Bx W w.heap.size [.slice AV vec.length cv, .slice A es.length c] := by rw [hW]; exact Bx.new' _ _ _ _ rfl
  have HBel := Lib.hid (show Below w.heap.size w W by rw [hW]; exact (Below.refl _ _).alloc (Nat.le_refl _) _)
  have hz : w.heap.size < W.heap.size := by rw [hW]; simp
  rw [← hW]
  clear hW
  have HX := Lib.hid hX
  clear hX
  obtain ⟨L1, B1, L2, B2, h1, h2, h3, h4, h5, hvi, hes⟩ := HT.out.keep fun p _ hp => ⟨HBel.out.cell (by omega), HBel.out.frozen (by omega)⟩
  have HV := Lib.hid hvi
  have HE := Lib.hid hes
  clear hvi hes HT
  refine (markIntS_any AV vec cv L1 B1 k W HV.out hv hk (by omega)).mono ?_
  rintro e w1 ⟨rfl, hmk, hin⟩
  have HM1 := Lib.hid hmk
  have x1 := HX.out.inside hin (.inr ⟨by omega, hz⟩) 1 (by simp)
  simp only [List.getElem_cons_succ, List.getElem_cons_zero] at x1
  have hz1 := hin.below.size
  have HI1 := Lib.hid (((Inside.refl L B w).grown HBel.out hLw).trans (hin.wider h1 h2))
  have HE1 := Lib.hid (HE.out.keep fun p hp hq => ⟨hin.cell (by omega), hin.frozen p (by omega)⟩)
  clear hmk hin HX
  go_wp2_with fail
  refine (markEntryS_own A es c L2 B2 _ w1 HE1.out (by omega) hn hbk (by omega) (by omega)).mono ?_
  rintro e w2 ⟨rfl, hmk, hin⟩
  have HM2 := Lib.hid (HM1.out.keep fun p hp hq => ⟨hin.cell (by omega), hin.frozen p (by omega)⟩)
  have HR := Lib.hid (show TrMk w2 L B AV vec.length A es k from ⟨(HM2.out.low h1).mono h2, hmk.mono h3 h4⟩)
  have HI2 := Lib.hid (HI1.out.trans (hin.wider h3 h4))
  clear hmk hin x1
  go_wp2_with fail
  go_ret
  exact ⟨rfl, HR.out, HI2.out⟩

end Go.Proofs.YtepkicgnhjaokaaDoor
