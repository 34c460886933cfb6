/-
  The draw's ledger.
-/
import Derived.Test.YtkmoihkpaccbdaaDoorDs
import Derived.Test.YtkmoihkpaccbdaaDoorGow
import Derived.Test.YtkmoihkpaccbdaaDoorInternM
import Derived.Test.YtkmoihkpaccbdaaDoorInternS
namespace Go.Proofs.YtkmoihkpaccbdaaDoor
open Go.RowKit Go.Maps

theorem SomeT.mono {n m : Nat} {t : Tm} (h : SomeT n t) (hn : n ≤ m) : SomeT m t :=
  ⟨h.text, h.kind, ⟨h.a.1, h.a.2.imp id fun h => by omega⟩, ⟨h.b.1, h.b.2.imp id fun h => by omega⟩, h.low⟩

/-- A row of one's own and texts that lie somewhere are a ledger. -/
theorem tms_of_row {w : World} {base : Nat} {A : Option Addr} {c : Nat} {us : List Tx} (h : w.ownsRow base 71 4 (.slice A us.length c) us.length (rowT us)) (hc : ∀ x ∈ us, x.t.text.length ≤ x.c ∧ x.c ≤ maxLen ∧ BytesIn w base w.heap.size x.A x.t.text) : TmsIn w base w.heap.size A (us.map (·.t)) := fun hl => by
  have hpos : 0 < us.length := by simpa using hl
  obtain ⟨_, hh | ⟨g, cap, cur, hv, hg, hb, _, _, _, htk⟩⟩ := h
  · omega
  · injection hv with h1 _ _
    subst h1
    refine ⟨g, 0, rfl, hg, (Array.getElem?_eq_some_iff.1 hb).1, fun i hi => ?_⟩
    have hi' : i < us.length := by simpa using hi
    have hq : ∀ k, k < 4 → cur[i * 4 + k]? = (rowT us)[i * 4 + k]? := fun k hk => by
      rw [← htk, List.getElem?_take, if_pos (by omega)]
      simp
    obtain ⟨h0, h1, h2, h3⟩ := rowT_get us i hi'
    obtain ⟨e1, e2, e3⟩ := hc us[i] (List.getElem_mem hi')
    have hce : ∀ k v, cur[i * 4 + k]? = some v → w.cell? ⟨g, i * 4 + k, none⟩ = some v := fun k v hv => by rw [World.cell?, hb]; simpa using hv
    rw [Nat.zero_add, List.getElem_map]
    exact ⟨_, _, hce 0 _ ((hq 0 (by omega)).trans h0), hce 1 _ ((hq 1 (by omega)).trans h1), hce 2 _ ((hq 2 (by omega)).trans h2), hce 3 _ ((hq 3 (by omega)).trans h3), e1, e2, e3⟩

/-- A ledger that is being drawn, in the variable at b. -/
structure Dl (W : World) (b base : Nat) (A : Option Addr) (c : Nat) (us : List Tx) : Prop where
  cb : W.cell? ⟨b, 0, none⟩ = some (.slice A us.length c)
  fb : W.frozen? ⟨b, 0, none⟩ = false
  lt : b < base
  row : W.ownsRow base 71 4 (.slice A us.length c) us.length (rowT us)
  txt : ∀ x ∈ us, x.t.text.length ≤ x.c ∧ x.c ≤ maxLen ∧ BytesIn W base W.heap.size x.A x.t.text
  all : ∀ x ∈ us, SomeT 16 x.t

section
variable {W W' : World} {b base K B : Nat} {A : Option Addr} {c : Nat} {us : List Tx}
theorem Dl.tms (h : Dl W b base A c us) : TmsIn W base W.heap.size A (us.map (·.t)) := tms_of_row h.row h.txt
theorem Dl.blt (h : Dl W b base A c us) : b < W.heap.size := World.block_lt_of_cell? W _ h.cb
theorem Dl.off (h : Dl W b base A c us) (ho : OffK K W W') (hK : K < base) (hKb : K ≠ b) : Dl W' b base A c us :=
  ⟨(ho.cell (p := ⟨b, 0, none⟩) h.blt (Ne.symm hKb)).trans h.cb, (ho.frozen (p := ⟨b, 0, none⟩) h.blt (Ne.symm hKb)).trans h.fb, h.lt,
   h.row.kept ho (by
     cases hq : (Value.slice A us.length c).ownBlock with
     | none => exact .inr (by simp)
     | some g => exact .inr (fun e => by
         injection e with e
         have := (h.row.lt g hq).1
         omega)),
   fun x hx => ⟨(h.txt x hx).1, (h.txt x hx).2.1, ((h.txt x hx).2.2.keep fun p hp hp2 => ho.cell hp2 (by omega)).mono ho.size⟩, h.all⟩
theorem Dl.below (h : Dl W b base A c us) (hb : Below B W W') (hB : W.heap.size ≤ B) (_hz : base ≤ W.heap.size) : Dl W' b base A c us := by
  have ho : OffK W.heap.size W W' := OffK.of_below hb hB
  have hlt := h.blt
  refine ⟨(hb.cell (p := ⟨b, 0, none⟩) (by show b < B; omega)).trans h.cb, (hb.frozen (p := ⟨b, 0, none⟩) (by show b < B; omega)).trans h.fb, h.lt,
    h.row.kept ho ?_, fun x hx => ⟨(h.txt x hx).1, (h.txt x hx).2.1, ((h.txt x hx).2.2.keep fun p hp hp2 => hb.cell (by omega)).mono hb.size⟩, h.all⟩
  cases hq : (Value.slice A us.length c).ownBlock with
  | none => exact .inr (by simp)
  | some g => exact .inr (fun e => by
      injection e with e
      have := (h.row.lt g hq).2
      omega)
end

/-- A ledger is drawn. -/
def NewDraw (K : Nat) (code : List UInt8) (w : World) (e : Ending) (w' : World) : Prop :=
  ∃ (us : List Tx) (A : Option Addr) (c : Nat), e = .returned (.agg #[.slice A us.length c]) ∧ us.length ≤ 16 ∧ (∀ x ∈ us, SomeT 16 x.t) ∧ (∀ x ∈ us, x.t.text.length ≤ x.c ∧ x.c ≤ maxLen) ∧ LedIs w' w.heap.size w'.heap.size (.slice A us.length c) us ∧ Cur w' K code ∧ OffK K w w'

theorem bulk_small {us : List Tx} (h : ∀ x ∈ us, SomeT 16 x.t) : bulk (us.map (·.t)) ≤ 2 * us.length := by
  induction us with
  | nil => simp [bulk]
  | cons x xs ih =>
    have h1 := (h x (by simp)).text
    have h2 := ih fun y hy => h y (by simp [hy])
    simp [bulk]
    omega

theorem okB_key {n : Nat} {t : Tm} (h : okB n t = true) (hk : t.kind = 5 ∨ t.kind = 6) : 0 ≤ t.a ∧ t.a < n := by
  unfold okB at h
  have e : t.kind = 3 ∨ t.kind = 5 ∨ t.kind = 6 := .inr hk
  have e0 : ¬ (t.kind = 0 ∨ t.kind = 1) := by omega
  have e1 : ¬ t.kind = 2 := by omega
  have e2 : ¬ t.kind = 4 := by omega
  rw [if_neg e0, if_neg e1, if_neg e2, if_pos e] at h
  simp at h
  omega

set_option maxRecDepth 100000 in
set_option maxHeartbeats 1000000 in
theorem l1draw_any (K : Nat) (code : List UInt8) (w : World) (hC : Cur w K code) :
    Calls Tryd.prog 53 #[.pointer (some ⟨K, 0, none⟩)] w (NewDraw K code w) := by
  have HC := Lib.hid hC
  have hK := hC.lt
  clear hC
  go_enter Tryd.func53, Tryd.ntmps53
  go_wp2_with fail
  obtain ⟨W0, hW0⟩ : ∃ y, y = (w.alloc (.cells #[.slice none 0 0] 25)).alloc (.cells #[.slice none 0 0] 25) := ⟨_, rfl⟩
  have hb0 : Below w.heap.size w W0 := by rw [hW0]; exact ((Below.refl _ _).alloc (Nat.le_refl _) _).alloc (by simp) _
  have hz0 : W0.heap.size = w.heap.size + 2 := by rw [hW0]; simp
  have HD0 := Lib.hid (show Dl W0 (w.heap.size + 1) (w.heap.size + 2) none 0 [] from ⟨by rw [hW0]; simp, by rw [hW0]; simp, by omega, World.ownsRow_nil _ _ _ _, fun x hx => absurd hx (by simp), fun x hx => absurd hx (by simp)⟩)
  have r0 : W0.cell? ⟨w.heap.size, 0, none⟩ = some (.slice none 0 0) := by rw [hW0]; simp
  have rf : W0.frozen? ⟨w.heap.size, 0, none⟩ = false := by rw [hW0]; simp
  rw [← hW0]
  have HO0 := Lib.hid (show OffK K w W0 from OffK.of_below hb0 (Nat.le_refl _))
  have HR0 := Lib.hid (And.intro r0 rf)
  refine (l1Below_any K code 16 _ (HC.out.below hb0 hK)).mono ?_
  rintro e w1 ⟨x1, rfl, hx1, hc1, ho1⟩
  obtain ⟨n, rfl⟩ := Int.eq_ofNat_of_zero_le hx1.1
  have hn : n < 16 := by have := hx1.2.1 (by omega); omega
  have hz1 : w.heap.size + 2 ≤ w1.heap.size := by have := ho1.size; omega
  have HD1 := Lib.hid (HD0.out.off ho1 (by omega) (by omega))
  have HO1 := Lib.hid (HO0.out.trans ho1 (.inl rfl))
  have HC1 := Lib.hid hc1
  have q0 := (ho1.cell (p := ⟨w.heap.size, 0, none⟩) (by show w.heap.size < _; omega) (by show w.heap.size ≠ K; omega)).trans r0
  have qf := (ho1.frozen (p := ⟨w.heap.size, 0, none⟩) (by show w.heap.size < _; omega) (by show w.heap.size ≠ K; omega)).trans rf
  clear hW0 hb0 hz0 r0 rf hc1 ho1 hx1 HC HD0 HO0 HR0
  go_wp2_with fail
  go_loopw [5] (fun i wr => ∃ (k : Nat) (us : List Tx) (A : Option Addr) (c : Nat), k ≤ n ∧ i = .int .i64 k ∧ us.length ≤ k ∧ Dl wr (w.heap.size + 1) (w.heap.size + 2) A c us ∧ (wr.cell? ⟨w.heap.size, 0, none⟩ = some (.slice none 0 0) ∧ wr.frozen? ⟨w.heap.size, 0, none⟩ = false) ∧ Cur wr K code ∧ OffK K w wr ∧ w.heap.size + 2 ≤ wr.heap.size) (fun i _ => n - (intOf i).toNat)
  case atStart => exact ⟨0, [], none, 0, Nat.zero_le _, rfl, Nat.le_refl _, HD1.out, ⟨q0, qf⟩, HC1.out, HO1.out, hz1⟩
  case round =>
    obtain ⟨k, us, A, c, hk, rfl, hus, hd, hr, hc, ho, hzr⟩ := hrel
    have HD := Lib.hid hd
    have HR := Lib.hid hr
    have HC := Lib.hid hc
    have HO := Lib.hid ho
    clear hd hr hc ho q0 qf
    by_cases hlt : k < n
    · have cb := HD.out.cb
      go_wp2_with fail
      refine (l1some_any K code A us.length c _ HC.out).mono ?_
      rintro e w2 ⟨t, A', c', rfl, hst, hby, hcc, hc2, ho2⟩
      have hz2 := ho2.size
      obtain ⟨W3, hW3⟩ : ∃ y, y = w2.alloc (.cells #[.int .i64 t.kind, .int .i64 t.a, .int .i64 t.b, .slice A' t.text.length c'] 71) := ⟨_, rfl⟩
      have hb3 : Below w2.heap.size w2 W3 := by rw [hW3]; exact (Below.refl _ _).alloc (Nat.le_refl _) _
      have hq3 : Bq W3 w2.heap.size (.int .i64 t.kind) (.int .i64 t.a) (.int .i64 t.b) (.slice A' t.text.length c') := by rw [hW3]; exact Bq.new _ _ _ _ _ _
      have HQ3 := Lib.hid hq3
      have HD3 := Lib.hid ((HD.out.off ho2 (by omega) (by omega)).below hb3 (Nat.le_refl _) (by omega))
      have HR3 := Lib.hid (show W3.cell? ⟨w.heap.size, 0, none⟩ = some (.slice none 0 0) ∧ W3.frozen? ⟨w.heap.size, 0, none⟩ = false from
        ⟨((hb3.cell (p := ⟨w.heap.size, 0, none⟩) (by show w.heap.size < _; omega)).trans (ho2.cell (p := ⟨w.heap.size, 0, none⟩) (by show w.heap.size < _; omega) (by show w.heap.size ≠ K; omega))).trans HR.out.1,
         ((hb3.frozen (p := ⟨w.heap.size, 0, none⟩) (by show w.heap.size < _; omega)).trans (ho2.frozen (p := ⟨w.heap.size, 0, none⟩) (by show w.heap.size < _; omega) (by show w.heap.size ≠ K; omega))).trans HR.out.2⟩)
      have HC3 := Lib.hid (hc2.below hb3 (by omega))
      have HO3 := Lib.hid ((HO.out.trans ho2 (.inl rfl)).below hb3)
      have HB3 := Lib.hid (show BytesIn W3 (w.heap.size + 2) W3.heap.size A' t.text from ((hby.below hb3).mono hb3.size).low (by omega))
      have HS := Lib.hid hst
      have hz3 : w2.heap.size < W3.heap.size := hq3.lt
      have hty : t.text.length ≤ 1048576 := by have := hst.text; omega
      obtain ⟨t0, t1, t2, t3, s0, s1, s2, s3⟩ := hq3
      have cb3 := HD3.out.cb
      have HCc := Lib.hid hcc
      clear hby hc2 ho2 hb3 cb hst hcc HD HR HC HO
      go_upto_region 7 with fail
      rw [← hW3]
      clear hW3
      go_wp2_with fail
      refine (l1ok_any us.length t A' c' W3 hty).mono ?_
      rintro e w4 ⟨rfl, hb4⟩
      have hz4 := hb4.size
      have HD4 := Lib.hid (HD3.out.below hb4 (Nat.le_refl _) (by omega))
      have HQ4 := Lib.hid (HQ3.out.below hb4 (Nat.le_refl _))
      have HR4 := Lib.hid (show w4.cell? ⟨w.heap.size, 0, none⟩ = some (.slice none 0 0) ∧ w4.frozen? ⟨w.heap.size, 0, none⟩ = false from
        ⟨(hb4.cell (p := ⟨w.heap.size, 0, none⟩) (by show w.heap.size < _; omega)).trans HR3.out.1, (hb4.frozen (p := ⟨w.heap.size, 0, none⟩) (by show w.heap.size < _; omega)).trans HR3.out.2⟩)
      have HC4 := Lib.hid (HC3.out.below hb4 (by omega))
      have HO4 := Lib.hid (HO3.out.below hb4)
      have HB4 := Lib.hid ((HB3.out.below hb4).mono hb4.size)
      clear t0 t1 t2 t3 s0 s1 s2 s3 cb3 hb4 HD3 HQ3 HR3 HC3 HO3 HB3
      cases hok : okB us.length t with
      | false =>
        clear hok
        go_wp2_with fail
        go_roundw
        case rel => exact ⟨k + 1, us, A, c, by omega, by go_num, by omega, HD4.out, HR4.out, HC4.out, HO4.out, by omega⟩
        case measure => simp [intOf]; omega
      | true =>
        have hkey := okB_key hok
        obtain ⟨t0, t1, t2, t3, s0, s1, s2, s3⟩ := HQ4.out
        have cb4 := HD4.out.cb
        clear hok
        have HKey := Lib.hid hkey
        clear hkey
        go_wp2_with fail
        have hkd := l1keyed_any (us.map (·.t)) t A A' c c' (w.heap.size + 2) w4.heap.size w4 HD4.out.tms (Nat.le_refl _) (fun h => by have := HKey.out h; simpa using this) (by simp; omega)
        rw [List.length_map] at hkd
        refine hkd.mono ?_
        rintro e w5 ⟨rfl, hb5⟩
        have hz5 := hb5.size
        have HD5 := Lib.hid (HD4.out.below hb5 (Nat.le_refl _) (by omega))
        have HQ5 := Lib.hid (HQ4.out.below hb5 (Nat.le_refl _))
        have HR5 := Lib.hid (show w5.cell? ⟨w.heap.size, 0, none⟩ = some (.slice none 0 0) ∧ w5.frozen? ⟨w.heap.size, 0, none⟩ = false from
          ⟨(hb5.cell (p := ⟨w.heap.size, 0, none⟩) (by show w.heap.size < _; omega)).trans HR4.out.1, (hb5.frozen (p := ⟨w.heap.size, 0, none⟩) (by show w.heap.size < _; omega)).trans HR4.out.2⟩)
        have HC5 := Lib.hid (HC4.out.below hb5 (by omega))
        have HO5 := Lib.hid (HO4.out.below hb5)
        have HB5 := Lib.hid ((HB4.out.below hb5).mono hb5.size)
        clear t0 t1 t2 t3 s0 s1 s2 s3 cb4 hb5 HD4 HQ4 HR4 HC4 HO4 HB4 hkd
        cases hkb : keyedB (us.map (·.t)) t with
        | false =>
          clear hkb
          go_wp2_with fail
          go_roundw
          case rel => exact ⟨k + 1, us, A, c, by omega, by go_num, by omega, HD5.out, HR5.out, HC5.out, HO5.out, by omega⟩
          case measure => simp [intOf]; omega
        | true =>
          clear hkb
          obtain ⟨t0, t1, t2, t3, s0, s1, s2, s3⟩ := HQ5.out
          go_wp2_with fail
          refine (l1intern_any (w.heap.size + 1) (w.heap.size + 2) (w.heap.size + 2) w5.heap.size A c us (us.map (·.t)) t A' c' (w.heap.size + 2) w5.heap.size w5 rfl HD5.out.cb HD5.out.fb HD5.out.row HD5.out.tms (Nat.le_refl _) HB5.out (Nat.le_refl _) (by omega)).mono ?_
          clear t0 t1 t2 t3 s0 s1 s2 s3
          rintro e w6 (⟨hm, rfl, hb6⟩ | ⟨hm, rfl, A6, c6, w7, rfl, hb6, hrow6⟩)
          · have hz6 := hb6.size
            have HRel := Lib.hid (show Dl w6 (w.heap.size + 1) (w.heap.size + 2) A c us ∧ (w6.cell? ⟨w.heap.size, 0, none⟩ = some (.slice none 0 0) ∧ w6.frozen? ⟨w.heap.size, 0, none⟩ = false) ∧ Cur w6 K code ∧ OffK K w w6 ∧ w.heap.size + 2 ≤ w6.heap.size from
              ⟨HD5.out.below hb6 (Nat.le_refl _) (by omega), ⟨(hb6.cell (p := ⟨w.heap.size, 0, none⟩) (by show w.heap.size < _; omega)).trans HR5.out.1, (hb6.frozen (p := ⟨w.heap.size, 0, none⟩) (by show w.heap.size < _; omega)).trans HR5.out.2⟩, HC5.out.below hb6 (by omega), HO5.out.below hb6, by omega⟩)
            clear hb6 hm
            go_wp2_with fail
            go_roundw
            case rel => exact ⟨k + 1, us, A, c, by omega, by go_num, by omega, HRel.out⟩
            case measure => simp [intOf]; omega
          · have hz6 := hb6.size
            have HRel := Lib.hid (show Dl (w7.setCell ⟨w.heap.size + 1, 0, none⟩ (.slice A6 (us.length + 1) c6)) (w.heap.size + 1) (w.heap.size + 2) A6 c6 (us ++ [⟨t, A', c'⟩]) ∧ ((w7.setCell ⟨w.heap.size + 1, 0, none⟩ (.slice A6 (us.length + 1) c6)).cell? ⟨w.heap.size, 0, none⟩ = some (.slice none 0 0) ∧ (w7.setCell ⟨w.heap.size + 1, 0, none⟩ (.slice A6 (us.length + 1) c6)).frozen? ⟨w.heap.size, 0, none⟩ = false) ∧ Cur (w7.setCell ⟨w.heap.size + 1, 0, none⟩ (.slice A6 (us.length + 1) c6)) K code ∧ OffK K w (w7.setCell ⟨w.heap.size + 1, 0, none⟩ (.slice A6 (us.length + 1) c6)) ∧ w.heap.size + 2 ≤ (w7.setCell ⟨w.heap.size + 1, 0, none⟩ (.slice A6 (us.length + 1) c6)).heap.size from by
              refine ⟨⟨?_, ?_, by omega, ?_, ?_, ?_⟩, ⟨?_, ?_⟩, (HC5.out.below hb6 (by omega)).set (by show K < w.heap.size + 1; omega) _, (HO5.out.below hb6).setCell (.inr (by show w.heap.size ≤ w.heap.size + 1; omega)) _, by simp; omega⟩
              · rw [World.cell?_setCell_same _ _ _ (by rw [(hb6.cell (p := ⟨w.heap.size + 1, 0, none⟩) (by show w.heap.size + 1 < _; omega)).trans HD5.out.cb])]
                simp
              · exact (World.frozen?_setCell _ _ _ _).trans ((hb6.frozen (p := ⟨w.heap.size + 1, 0, none⟩) (by show w.heap.size + 1 < _; omega)).trans HD5.out.fb)
              · rw [rowT_snoc, List.length_append]
                exact ownsRow_setCell_below (ownsRow_low hrow6 (by omega)) (by show w.heap.size + 1 < w.heap.size + 2; omega) _
              · intro x hx
                have hk : ∀ (l : List UInt8) (B : Option Addr), BytesIn w5 (w.heap.size + 2) w5.heap.size B l → BytesIn (w7.setCell ⟨w.heap.size + 1, 0, none⟩ (.slice A6 (us.length + 1) c6)) (w.heap.size + 2) (w7.setCell ⟨w.heap.size + 1, 0, none⟩ (.slice A6 (us.length + 1) c6)).heap.size B l := fun l B h => by
                  refine BytesIn.mono (h.keep fun p hp hp2 => ?_) (by simpa using hz6)
                  rw [World.cell?_setCell_other _ _ _ _ (fun e => by rw [← e] at hp; simp at hp), hb6.cell hp2]
                rcases List.mem_append.1 hx with h | h
                · exact ⟨(HD5.out.txt x h).1, (HD5.out.txt x h).2.1, hk _ _ (HD5.out.txt x h).2.2⟩
                · simp only [List.mem_singleton] at h
                  subst h
                  exact ⟨HCc.out.1, HCc.out.2, hk _ _ HB5.out⟩
              · intro x hx
                rcases List.mem_append.1 hx with h | h
                · exact HD5.out.all x h
                · simp only [List.mem_singleton] at h
                  subst h
                  exact HS.out.mono (by omega)
              · exact (World.cell?_setCell_other _ _ _ _ (by simp)).trans ((hb6.cell (p := ⟨w.heap.size, 0, none⟩) (by show w.heap.size < _; omega)).trans HR5.out.1)
              · exact (World.frozen?_setCell _ _ _ _).trans ((hb6.frozen (p := ⟨w.heap.size, 0, none⟩) (by show w.heap.size < _; omega)).trans HR5.out.2))
            clear hb6 hm hrow6
            go_wp2_with fail
            go_roundw
            case rel => exact ⟨k + 1, us ++ [⟨t, A', c'⟩], A6, c6, by omega, by go_num, by simp; omega, HRel.out⟩
            case measure => simp [intOf]; omega
    · have cb := HD.out.cb
      go_wp2_with fail
      have ho := l1own_g A (w.heap.size + 2) wr.heap.size (us.map (·.t)) c wr HD.out.tms (Nat.le_refl _) (by simp; omega) (by have := bulk_small HD.out.all; omega)
      rw [List.length_map] at ho
      refine ho.mono ?_
      rintro e w2 ⟨us2, A2, c2, rfl, he2, hbd2, hled2, hb2⟩
      have hl2 : us2.length = us.length := by rw [← List.length_map (f := (·.t)), he2, List.length_map]
      have hz2 := hb2.size
      have r0 := (hb2.cell (p := ⟨w.heap.size, 0, none⟩) (by show w.heap.size < _; omega)).trans HR.out.1
      have rf := (hb2.frozen (p := ⟨w.heap.size, 0, none⟩) (by show w.heap.size < _; omega)).trans HR.out.2
      have HFin := Lib.hid (show NewDraw K code w (.returned (.agg #[.slice A2 us.length c2])) (w2.setCell ⟨w.heap.size, 0, none⟩ (.slice A2 us.length c2)) from by
        refine ⟨us2, A2, c2, by rw [hl2], by omega, fun x hx => ?_, hbd2, ?_, (HC.out.below hb2 (by omega)).set (by show K < w.heap.size; omega) _, (HO.out.below hb2).setCell (.inr (by show w.heap.size ≤ w.heap.size; omega)) _⟩
        · have hm : x.t ∈ us2.map (·.t) := List.mem_map_of_mem hx
          rw [he2] at hm
          obtain ⟨y, hy, he⟩ := List.mem_map.1 hm
          rw [← he]
          exact HD.out.all y hy
        · rw [List.length_map] at hled2
          rw [hl2]
          have := hled2.set (p := ⟨w.heap.size, 0, none⟩) (by show w.heap.size < _; omega) (.slice A2 us.length c2)
          exact ⟨ownsRow_low this.1 (by omega), (this.2.low (by omega)).mono (by simp)⟩)
      clear ho he2 hbd2 hled2 hb2 cb
      simp only [List.length_map]
      go_wp2_with fail
      refine bodyPost_ret (v := .agg #[.slice A2 us.length c2]) (by simp [results, Tryd.results53, go_sem, *]) rfl ?_
      exact HFin.out

end Go.Proofs.YtkmoihkpaccbdaaDoor
