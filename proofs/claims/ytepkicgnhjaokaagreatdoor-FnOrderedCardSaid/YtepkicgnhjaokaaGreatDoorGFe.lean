/-
  Several texts in one: Tf, Fe, RowFnOrdered.
-/
import Derived.Test.YtepkicgnhjaokaaGreatDoorGTd
import Derived.Test.YtepkicgnhjaokaaGreatDoorGTy
import Derived.Lib.SlBytesConst
import Derived.Test.YtepkicgnhjaokaaGreatDoorGRow
namespace Go.Proofs.YtepkicgnhjaokaaGreatDoor
open Go.RowKit Go.Maps

/-- Two cells of a variable that held slices turn. -/
theorem td_two {w w' : World} {t : Tt} (h : TdIn w 0 t) {b : Nat} {A0 A1 : Option Addr} {n0 c0 n1 c1 : Nat} (h0 : w.cell? ⟨b, 0, none⟩ = some (.slice A0 n0 c0)) (h1 : w.cell? ⟨b, 1, none⟩ = some (.slice A1 n1 c1)) (h2 : w.cell? ⟨b, 2, none⟩ = none)
    (hs : w.heap.size ≤ w'.heap.size) (hk : ∀ p : Addr, p ≠ ⟨b, 0, none⟩ → p ≠ ⟨b, 1, none⟩ → w'.cell? p = w.cell? p) : TdIn w' 0 t := by
  have hint : ∀ (p : Addr) (k : IntKind) (y : Int), w.cell? p = some (.int k y) → w'.cell? p = some (.int k y) := fun p k y hp => by
    refine (hk p (fun e => ?_) (fun e => ?_)).trans hp
    · rw [e, h0] at hp; cases hp
    · rw [e, h1] at hp; cases hp
  refine ⟨fun hl => ?_, fun hl => ?_, h.cap, h.len, h.few, h.bulk⟩
  · obtain ⟨b, o, e, h1, h2, hc⟩ := h.v hl
    exact ⟨b, o, e, h1, by omega, fun j hj => hint _ _ _ (hc j hj)⟩
  · obtain ⟨g, o, e, h3, h4, hc⟩ := h.e hl
    refine ⟨g, o, e, h3, by omega, fun i hi => ?_⟩
    obtain ⟨A', c', k0, k1, k2, k3, k4⟩ := hc i hi
    refine ⟨A', c', ?_, hint _ _ _ k1, hint _ _ _ k2, hint _ _ _ k3, fun hl => ?_⟩
    · refine (hk _ (fun e => ?_) (fun e => ?_)).trans k0
      · injection e with e1 e2
        subst e1
        rw [e2, h1] at k1
        cases k1
      · injection e with e1 e2
        subst e1
        rw [e2, h2] at k1
        cases k1
    · obtain ⟨b', o', e', h5, h6, hc'⟩ := k4 hl
      exact ⟨b', o', e', h5, by omega, fun j hj => hint _ _ _ (hc' j hj)⟩
theorem td_set2 {w : World} {t : Tt} (h : TdIn w 0 t) {b : Nat} {A0 A1 : Option Addr} {n0 c0 n1 c1 : Nat} (h0 : w.cell? ⟨b, 0, none⟩ = some (.slice A0 n0 c0)) (h1 : w.cell? ⟨b, 1, none⟩ = some (.slice A1 n1 c1)) (h2 : w.cell? ⟨b, 2, none⟩ = none) (v0 v1 : Value) : TdIn ((w.setCell ⟨b, 0, none⟩ v0).setCell ⟨b, 1, none⟩ v1) 0 t :=
  td_two h h0 h1 h2 (by simp) fun _ hp hp2 => (World.cell?_setCell_other _ _ _ _ (Ne.symm hp2)).trans (World.cell?_setCell_other _ _ _ _ (Ne.symm hp))
theorem no_third (w : World) (v0 v1 : Value) (t : TypeId) : (w.alloc (.cells #[v0, v1] t)).cell? ⟨w.heap.size, 2, none⟩ = none := by
  have hh := heap_alloc_new w (.cells #[v0, v1] t)
  rw [World.cell?, hh]
  rfl

set_option maxRecDepth 100000 in
set_option maxHeartbeats 4000000 in
theorem drawTreeCmp_any (A : Option Addr) (c : Nat) (code : List UInt8) (w : World) (hA : BytesIn w 0 w.heap.size A code) (hn : code.length ≤ 9223372036854775807) :
    Calls Tryz.prog 23 #[.slice A code.length c] w (NewTw w) := by
  have HA := Lib.hid hA
  clear hA
  go_enter Tryz.func23, Tryz.ntmps23
  go_wp2_with fail
  obtain ⟨Wa, hWa⟩ : ∃ x, x = w.alloc (.cells #[.slice none 0 0, .slice none 0 0] 26) := ⟨_, rfl⟩
  obtain ⟨W0, hW0⟩ : ∃ x, x = Wa.alloc (.cells #[.slice none 0 0, .slice none 0 0] 26) := ⟨_, rfl⟩
  have hba : Below w.heap.size w Wa := by rw [hWa]; exact (Below.refl _ _).alloc (Nat.le_refl _) _
  have hsa : Wa.heap.size = w.heap.size + 1 := by rw [hWa]; simp
  have hb0 : Below w.heap.size w W0 := by rw [hW0]; exact hba.alloc (by omega) _
  have hz0 : w.heap.size + 1 < W0.heap.size := by rw [hW0]; simp; omega
  have HR0 := Lib.hid (show (Rs W0 w.heap.size (w.heap.size + 1) ∧ W0.cell? ⟨w.heap.size, 2, none⟩ = none) ∧ W0.cell? ⟨w.heap.size + 1, 2, none⟩ = none from by
    obtain ⟨q0, q1, q2⟩ := two_new w (.slice none 0 0) (.slice none 0 0) 26
    have q3 := no_third w (.slice none 0 0) (.slice none 0 0) 26
    rw [← hWa] at q0 q1 q2 q3
    obtain ⟨p0, p1, p2⟩ := two_new Wa (.slice none 0 0) (.slice none 0 0) 26
    have p3 := no_third Wa (.slice none 0 0) (.slice none 0 0) 26
    rw [← hW0, hsa] at p0 p1 p2 p3
    have hb : Below Wa.heap.size Wa W0 := by rw [hW0]; exact (Below.refl _ _).alloc (Nat.le_refl _) _
    exact ⟨⟨⟨(hb.cell (p := ⟨w.heap.size, 0, none⟩) (by show w.heap.size < _; omega)).trans q0, (hb.cell (p := ⟨w.heap.size, 1, none⟩) (by show w.heap.size < _; omega)).trans q1, p0, p1, fun o => (hb.frozen (p := ⟨w.heap.size, o, none⟩) (by show w.heap.size < _; omega)).trans (q2 o), p2⟩, (hb.cell (p := ⟨w.heap.size, 2, none⟩) (by show w.heap.size < _; omega)).trans q3⟩, p3⟩)
  have HB0 := Lib.hid hb0
  rw [← hWa, ← hW0]
  clear hWa hW0 hba hsa hb0
  refine (drawMerge_any A c code W0 ((HA.out.below HB0.out).mono (by omega)) hn).mono ?_
  rintro e w6 ⟨t, u, rfl, ht, hu, hb⟩
  have hz6 := hb.size
  have HR6 := Lib.hid (show Rs w6 w.heap.size (w.heap.size + 1) from HR0.out.1.1.off (K := W0.heap.size) (OffK.of_below hb (Nat.le_refl _)) (by omega) hz0 (by omega) (by omega))
  have h2 := (hb.cell (p := ⟨w.heap.size, 2, none⟩) (by show w.heap.size < _; omega)).trans HR0.out.1.2
  have h3 := (hb.cell (p := ⟨w.heap.size + 1, 2, none⟩) hz0).trans HR0.out.2
  have HB6 := Lib.hid (HB0.out.trans (hb.mono (by omega)))
  have HT := Lib.hid (show ∀ s : Tt, TdIn w6 0 s → ∀ v0 v1 v2 v3, TdIn (putR w6 w.heap.size (w.heap.size + 1) v0 v1 v2 v3) 0 s from fun s hs v0 v1 v2 v3 => by
    have k1 := td_set2 hs HR6.out.a0 HR6.out.a1 h2 v0 v1
    have hne : ∀ o : Nat, (⟨w.heap.size + 1, o, none⟩ : Addr).block ≠ w.heap.size := fun o => by show w.heap.size + 1 ≠ w.heap.size; omega
    exact td_set2 k1 (((two_other (hne 0)).1).trans HR6.out.b0) (((two_other (hne 1)).1).trans HR6.out.b1) (((two_other (hne 2)).1).trans h3) v2 v3)
  have HTu := Lib.hid (And.intro ht hu)
  have hg := HR6.out.get (by omega) (.slice t.AV t.vec.length t.cv) (.slice t.A t.es.length t.c) (.slice u.AV u.vec.length u.cv) (.slice u.A u.es.length u.c)
  obtain ⟨W, hW⟩ : ∃ W, W = putR w6 w.heap.size (w.heap.size + 1) (.slice t.AV t.vec.length t.cv) (.slice t.A t.es.length t.c) (.slice u.AV u.vec.length u.cv) (.slice u.A u.es.length u.c) := ⟨_, rfl⟩
  have HFin := Lib.hid (show NewTw w (.returned (.tuple #[.agg #[.slice t.AV t.vec.length t.cv, .slice t.A t.es.length t.c], .agg #[.slice u.AV u.vec.length u.cv, .slice u.A u.es.length u.c]])) W from ⟨t, u, rfl, by rw [hW]; exact HT.out t HTu.out.1 _ _ _ _, by rw [hW]; exact HT.out u HTu.out.2 _ _ _ _, by rw [hW]; exact (((HB6.out.setCell (Nat.le_refl _) _).setCell (Nat.le_refl _) _).setCell (Nat.le_succ _) _).setCell (Nat.le_succ _) _⟩)
  rw [← hW] at hg
  unfold putR at hW
  have HG := Lib.hid hg
  obtain ⟨ra0, ra1, rb0, rb1, rfa, rfb⟩ := HR6.out
  have rfa0 := rfa 0
  have rfa1 := rfa 1
  have rfb0 := rfb 0
  have rfb1 := rfb 1
  have lra : w.heap.size < w6.heap.size := by omega
  have lrb : w.heap.size + 1 < w6.heap.size := by omega
  have HWe := Lib.hid hW
  clear hW hg ht hu hb h2 h3 rfa rfb HT HTu HR0 HB0
  go_wp2_with fail
  obtain ⟨g0, g1, g2, g3⟩ := HG.out
  have hWe := HWe.out
  refine bodyPost_ret (v := .tuple #[.agg #[.slice t.AV t.vec.length t.cv, .slice t.A t.es.length t.c], .agg #[.slice u.AV u.vec.length u.cv, .slice u.A u.es.length u.c]]) (by rw [← hWe]; simp [results, Tryz.results23, g0, g1, g2, g3, go_sem]) rfl ?_
  rw [← hWe]
  exact HFin.out

end Go.Proofs.YtepkicgnhjaokaaGreatDoor

namespace Go.Proofs.YtepkicgnhjaokaaGreatDoor
open Go.RowKit Go.Maps

set_option maxRecDepth 100000 in
set_option maxHeartbeats 4000000 in
theorem fnOrdered_any (A : Option Addr) (c : Nat) (code : List UInt8) (w : World) (hA : BytesIn w 0 w.heap.size A code) (hn : code.length ≤ 9223372036854775807) (htab : Lib.TabIs Tryz.prog w "internal/strconv.uint64pow10" .u64 Lib.pow10Tab) :
    Calls Tryz.prog 6 #[.slice A code.length c] w fun e w' => e = .returned (.bool true) ∧ Below w.heap.size w w' := by
  have HTab := Lib.hid (Lib.tabBelow_of_tabIs htab)
  have HTb := Lib.hid (fun X (h : Below w.heap.size w X) => HTab.out X h)
  have HC := Lib.hid hA
  clear hA htab HTab
  have kc := fun (w : World) (C : Array Value) (n c : Nat) => Lib.run_convert_bytes_const (P := Tryz.prog) w 22 5 C n c Tryz.underlying22 Tryz.underlying5
  go_enter Tryz.func6, Tryz.ntmps6
  go_wp2_with fail
  have Hbel_1 := Lib.hid (Below.refl w.heap.size w)
  refine (drawTreeCmp_any A c code w HC.out hn).mono ?_
  rintro e w1 ⟨a, b, rfl, ht, hu, hb⟩
  have z_2 := hb.size
  have Hbel_3 := Lib.hid (Hbel_1.out.trans (hb.mono (by omega)))
  clear Hbel_1
  have HTa_4 := Lib.hid (ht.tx)
  have HTb_5 := Lib.hid (hu.tx)
  clear hb
  have HCa := Lib.hid ht.cap
  have HCb := Lib.hid hu.cap
  clear ht hu HC
  go_upto_region 2 with fail
  obtain ⟨W6_0, hW6_0⟩ : ∃ xW, xW = w1.alloc (.cells #[.slice a.AV a.vec.length a.cv, .slice a.A a.es.length a.c] 26) := ⟨_, rfl⟩
  obtain ⟨W6_1, hW6_1⟩ : ∃ xW, xW = W6_0.alloc (.cells #[.slice b.AV b.vec.length b.cv, .slice b.A b.es.length b.c] 26) := ⟨_, rfl⟩
  have hZ6_0 : W6_0.heap.size = w1.heap.size + 1 := by rw [hW6_0]; simp
  have hZ6_1 : W6_1.heap.size = w1.heap.size + 2 := by rw [hW6_1]; simp [hZ6_0]
  have hx0 : Bx W6_0 (w1.heap.size) [.slice a.AV a.vec.length a.cv, .slice a.A a.es.length a.c] := by rw [hW6_0]; exact Bx.new' _ _ _ _ rfl
  replace hx0 : Bx W6_1 (w1.heap.size) [.slice a.AV a.vec.length a.cv, .slice a.A a.es.length a.c] := by rw [hW6_1]; exact hx0.alloc (by omega) _
  have hx1 : Bx W6_1 (w1.heap.size + 1) [.slice b.AV b.vec.length b.cv, .slice b.A b.es.length b.c] := by rw [hW6_1, ← hZ6_0]; exact Bx.new' _ _ _ _ rfl
  have hb0 : Below w1.heap.size w1 W6_1 := by rw [hW6_1, hW6_0]; exact (((Below.refl _ _).alloc (by first | exact Nat.le_refl _ | (simp; done) | (simp; omega)) _).alloc (by first | exact Nat.le_refl _ | (simp; done) | (simp; omega)) _)
  have hlt : w1.heap.size + 1 < W6_1.heap.size := by omega
  rw [← hW6_0, ← hW6_1]
  clear hW6_0 hZ6_0 hW6_1 hZ6_1
  have z_7 := hb0.size
  have Hbel_8 := Lib.hid (Hbel_3.out.trans (hb0.mono (by omega)))
  have HTa_9 := Lib.hid (HTa_4.out.below hb0)
  have HTb_10 := Lib.hid (HTb_5.out.below hb0)
  clear Hbel_3 HTa_4 HTb_5
  have Hxa_11 := Lib.hid (hx0)
  have Hxb_12 := Lib.hid (hx1)
  clear hb0 hx0 hx1
  have hl_13 := hlt
  clear hlt
  cases hta : treeB a.vec a.es with
  | false =>
    have HUa := Lib.hid hta
    clear hta
    have qxa_0 := Hxa_11.out 0 (by simp)
    have qxa_1 := Hxa_11.out 1 (by simp)
    have lxa : w1.heap.size < W6_1.heap.size := by omega
    have qxb_0 := Hxb_12.out 0 (by simp)
    have qxb_1 := Hxb_12.out 1 (by simp)
    have lxb : w1.heap.size + 1 < W6_1.heap.size := by omega
    simp only [List.getElem_cons_succ, List.getElem_cons_zero] at qxa_0 qxa_1 qxb_0 qxb_1
    go_wp2_with fail
    have hP := treeCmp_x HTa_9.out HTb_10.out
    rw [tc_no (by rw [HUa.out]; rfl)] at hP
    refine (hP).mono ?_
    rintro e w2 ⟨rfl, hb⟩
    clear qxa_0 qxa_1 lxa qxb_0 qxb_1 lxb
    have z_14 := hb.size
    have Hbel_15 := Lib.hid (Hbel_8.out.trans (hb.mono (by omega)))
    have HTa_16 := Lib.hid (HTa_9.out.below hb)
    have HTb_17 := Lib.hid (HTb_10.out.below hb)
    have Hxa_18 := Lib.hid (Hxa_11.out.below hb (by omega))
    have Hxb_19 := Lib.hid (Hxb_12.out.below hb (by omega))
    clear Hbel_8 HTa_9 HTb_10 Hxa_11 Hxb_12
    clear hb
    clear hP
    have qxa_0 := Hxa_18.out 0 (by simp)
    have qxa_1 := Hxa_18.out 1 (by simp)
    have lxa : w1.heap.size < w2.heap.size := by omega
    simp only [List.getElem_cons_succ, List.getElem_cons_zero] at qxa_0 qxa_1
    go_wp2_with fail
    refine (treeOkS_x HTa_16.out HCa.out HUa.out).mono ?_
    rintro e w3 ⟨rfl, hb⟩
    clear qxa_0 qxa_1 lxa
    have z_20 := hb.size
    have Hbel_21 := Lib.hid (Hbel_15.out.trans (hb.mono (by omega)))
    have HTa_22 := Lib.hid (HTa_16.out.below hb)
    have HTb_23 := Lib.hid (HTb_17.out.below hb)
    have Hxa_24 := Lib.hid (Hxa_18.out.below hb (by omega))
    have Hxb_25 := Lib.hid (Hxb_19.out.below hb (by omega))
    clear Hbel_15 HTa_16 HTb_17 Hxa_18 Hxb_19
    clear hb
    go_wp2_with fail
    refine (trees_any _ (HTb.out _ Hbel_21.out)).mono ?_
    rintro e wz ⟨rfl, hbz⟩
    have HBz := Lib.hid (Hbel_21.out.trans (hbz.mono (by omega)))
    clear hbz
    go_wp2_with fail
    go_ret
    exact ⟨rfl, HBz.out⟩
  | true =>
    have HUa := Lib.hid hta
    clear hta
    cases htb : treeB b.vec b.es with
    | false =>
      have HUb := Lib.hid htb
      clear htb
      have qxa_0 := Hxa_11.out 0 (by simp)
      have qxa_1 := Hxa_11.out 1 (by simp)
      have lxa : w1.heap.size < W6_1.heap.size := by omega
      have qxb_0 := Hxb_12.out 0 (by simp)
      have qxb_1 := Hxb_12.out 1 (by simp)
      have lxb : w1.heap.size + 1 < W6_1.heap.size := by omega
      simp only [List.getElem_cons_succ, List.getElem_cons_zero] at qxa_0 qxa_1 qxb_0 qxb_1
      go_wp2_with fail
      have hP := treeCmp_x HTa_9.out HTb_10.out
      rw [tc_no (by rw [HUa.out, HUb.out]; rfl)] at hP
      refine (hP).mono ?_
      rintro e w2 ⟨rfl, hb⟩
      clear qxa_0 qxa_1 lxa qxb_0 qxb_1 lxb
      have z_26 := hb.size
      have Hbel_27 := Lib.hid (Hbel_8.out.trans (hb.mono (by omega)))
      have HTa_28 := Lib.hid (HTa_9.out.below hb)
      have HTb_29 := Lib.hid (HTb_10.out.below hb)
      have Hxa_30 := Lib.hid (Hxa_11.out.below hb (by omega))
      have Hxb_31 := Lib.hid (Hxb_12.out.below hb (by omega))
      clear Hbel_8 HTa_9 HTb_10 Hxa_11 Hxb_12
      clear hb
      clear hP
      have qxa_0 := Hxa_30.out 0 (by simp)
      have qxa_1 := Hxa_30.out 1 (by simp)
      have lxa : w1.heap.size < w2.heap.size := by omega
      simp only [List.getElem_cons_succ, List.getElem_cons_zero] at qxa_0 qxa_1
      go_wp2_with fail
      refine (treeOkS_x HTa_28.out HCa.out HUa.out).mono ?_
      rintro e w3 ⟨rfl, hb⟩
      clear qxa_0 qxa_1 lxa
      have z_32 := hb.size
      have Hbel_33 := Lib.hid (Hbel_27.out.trans (hb.mono (by omega)))
      have HTa_34 := Lib.hid (HTa_28.out.below hb)
      have HTb_35 := Lib.hid (HTb_29.out.below hb)
      have Hxa_36 := Lib.hid (Hxa_30.out.below hb (by omega))
      have Hxb_37 := Lib.hid (Hxb_31.out.below hb (by omega))
      clear Hbel_27 HTa_28 HTb_29 Hxa_30 Hxb_31
      clear hb
      have qxb_0 := Hxb_37.out 0 (by simp)
      have qxb_1 := Hxb_37.out 1 (by simp)
      have lxb : w1.heap.size + 1 < w3.heap.size := by omega
      simp only [List.getElem_cons_succ, List.getElem_cons_zero] at qxb_0 qxb_1
      go_wp2_with fail
      refine (treeOkS_x HTb_35.out HCb.out HUb.out).mono ?_
      rintro e w4 ⟨rfl, hb⟩
      clear qxb_0 qxb_1 lxb
      have z_38 := hb.size
      have Hbel_39 := Lib.hid (Hbel_33.out.trans (hb.mono (by omega)))
      have HTa_40 := Lib.hid (HTa_34.out.below hb)
      have HTb_41 := Lib.hid (HTb_35.out.below hb)
      have Hxa_42 := Lib.hid (Hxa_36.out.below hb (by omega))
      have Hxb_43 := Lib.hid (Hxb_37.out.below hb (by omega))
      clear Hbel_33 HTa_34 HTb_35 Hxa_36 Hxb_37
      clear hb
      go_wp2_with fail
      refine (trees_any _ (HTb.out _ Hbel_39.out)).mono ?_
      rintro e wz ⟨rfl, hbz⟩
      have HBz := Lib.hid (Hbel_39.out.trans (hbz.mono (by omega)))
      clear hbz
      go_wp2_with fail
      go_ret
      exact ⟨rfl, HBz.out⟩
    | true =>
      have HUb := Lib.hid htb
      clear htb
      have HZ := Lib.hid (tc_zero HUa.out HUb.out)
      have HAn := Lib.hid (tc_anti b.vec b.es a.vec a.es)
      rcases tc_three a.vec a.es b.vec b.es with h0 | h0 | h0
      · have H0 := Lib.hid h0
        clear h0
        have qxa_0 := Hxa_11.out 0 (by simp)
        have qxa_1 := Hxa_11.out 1 (by simp)
        have lxa : w1.heap.size < W6_1.heap.size := by omega
        have qxb_0 := Hxb_12.out 0 (by simp)
        have qxb_1 := Hxb_12.out 1 (by simp)
        have lxb : w1.heap.size + 1 < W6_1.heap.size := by omega
        simp only [List.getElem_cons_succ, List.getElem_cons_zero] at qxa_0 qxa_1 qxb_0 qxb_1
        go_wp2_with fail
        have hP := treeCmp_x HTa_9.out HTb_10.out
        rw [H0.out] at hP
        refine (hP).mono ?_
        rintro e w2 ⟨rfl, hb⟩
        clear qxa_0 qxa_1 lxa qxb_0 qxb_1 lxb
        have z_44 := hb.size
        have Hbel_45 := Lib.hid (Hbel_8.out.trans (hb.mono (by omega)))
        have HTa_46 := Lib.hid (HTa_9.out.below hb)
        have HTb_47 := Lib.hid (HTb_10.out.below hb)
        have Hxa_48 := Lib.hid (Hxa_11.out.below hb (by omega))
        have Hxb_49 := Lib.hid (Hxb_12.out.below hb (by omega))
        clear Hbel_8 HTa_9 HTb_10 Hxa_11 Hxb_12
        clear hb
        clear hP
        have qxa_0 := Hxa_48.out 0 (by simp)
        have qxa_1 := Hxa_48.out 1 (by simp)
        have lxa : w1.heap.size < w2.heap.size := by omega
        simp only [List.getElem_cons_succ, List.getElem_cons_zero] at qxa_0 qxa_1
        go_wp2_with fail
        refine (treeOkS_x HTa_46.out HCa.out HUa.out).mono ?_
        rintro e w3 ⟨rfl, hb⟩
        clear qxa_0 qxa_1 lxa
        have z_50 := hb.size
        have Hbel_51 := Lib.hid (Hbel_45.out.trans (hb.mono (by omega)))
        have HTa_52 := Lib.hid (HTa_46.out.below hb)
        have HTb_53 := Lib.hid (HTb_47.out.below hb)
        have Hxa_54 := Lib.hid (Hxa_48.out.below hb (by omega))
        have Hxb_55 := Lib.hid (Hxb_49.out.below hb (by omega))
        clear Hbel_45 HTa_46 HTb_47 Hxa_48 Hxb_49
        clear hb
        have qxb_0 := Hxb_55.out 0 (by simp)
        have qxb_1 := Hxb_55.out 1 (by simp)
        have lxb : w1.heap.size + 1 < w3.heap.size := by omega
        simp only [List.getElem_cons_succ, List.getElem_cons_zero] at qxb_0 qxb_1
        go_wp2_with fail
        refine (treeOkS_x HTb_53.out HCb.out HUb.out).mono ?_
        rintro e w4 ⟨rfl, hb⟩
        clear qxb_0 qxb_1 lxb
        have z_56 := hb.size
        have Hbel_57 := Lib.hid (Hbel_51.out.trans (hb.mono (by omega)))
        have HTa_58 := Lib.hid (HTa_52.out.below hb)
        have HTb_59 := Lib.hid (HTb_53.out.below hb)
        have Hxa_60 := Lib.hid (Hxa_54.out.below hb (by omega))
        have Hxb_61 := Lib.hid (Hxb_55.out.below hb (by omega))
        clear Hbel_51 HTa_52 HTb_53 Hxa_54 Hxb_55
        clear hb
        have qxa_0 := Hxa_60.out 0 (by simp)
        have qxa_1 := Hxa_60.out 1 (by simp)
        have lxa : w1.heap.size < w4.heap.size := by omega
        have qxb_0 := Hxb_61.out 0 (by simp)
        have qxb_1 := Hxb_61.out 1 (by simp)
        have lxb : w1.heap.size + 1 < w4.heap.size := by omega
        simp only [List.getElem_cons_succ, List.getElem_cons_zero] at qxa_0 qxa_1 qxb_0 qxb_1
        go_wp2_with fail
        have HN := Lib.hid (show tcI b.vec b.es a.vec a.es = 1 from by rw [HAn.out, H0.out] <;> rfl)
        have hP := treeCmp_x HTb_59.out HTa_58.out
        rw [HN.out] at hP
        refine (hP).mono ?_
        rintro e w5 ⟨rfl, hb⟩
        clear qxa_0 qxa_1 lxa qxb_0 qxb_1 lxb
        have z_62 := hb.size
        have Hbel_63 := Lib.hid (Hbel_57.out.trans (hb.mono (by omega)))
        have HTa_64 := Lib.hid (HTa_58.out.below hb)
        have HTb_65 := Lib.hid (HTb_59.out.below hb)
        have Hxa_66 := Lib.hid (Hxa_60.out.below hb (by omega))
        have Hxb_67 := Lib.hid (Hxb_61.out.below hb (by omega))
        clear Hbel_57 HTa_58 HTb_59 Hxa_60 Hxb_61
        clear hb
        clear hP
        have qxa_0 := Hxa_66.out 0 (by simp)
        have qxa_1 := Hxa_66.out 1 (by simp)
        have lxa : w1.heap.size < w5.heap.size := by omega
        have qxb_0 := Hxb_67.out 0 (by simp)
        have qxb_1 := Hxb_67.out 1 (by simp)
        have lxb : w1.heap.size + 1 < w5.heap.size := by omega
        simp only [List.getElem_cons_succ, List.getElem_cons_zero] at qxa_0 qxa_1 qxb_0 qxb_1
        go_wp2_with fail
        refine (sameX_false HTa_64.out HTb_65.out (fun e => by have := HZ.out.2 e; rw [H0.out] at this; exact absurd this (by decide))).mono ?_
        rintro e w6 ⟨rfl, hb⟩
        clear qxa_0 qxa_1 lxa qxb_0 qxb_1 lxb
        have z_68 := hb.size
        have Hbel_69 := Lib.hid (Hbel_63.out.trans (hb.mono (by omega)))
        have HTa_70 := Lib.hid (HTa_64.out.below hb)
        have HTb_71 := Lib.hid (HTb_65.out.below hb)
        have Hxa_72 := Lib.hid (Hxa_66.out.below hb (by omega))
        have Hxb_73 := Lib.hid (Hxb_67.out.below hb (by omega))
        clear Hbel_63 HTa_64 HTb_65 Hxa_66 Hxb_67
        clear hb
        go_wp2_with fail
        refine (trees_any _ (HTb.out _ Hbel_69.out)).mono ?_
        rintro e wz ⟨rfl, hbz⟩
        have HBz := Lib.hid (Hbel_69.out.trans (hbz.mono (by omega)))
        clear hbz
        go_wp2_with fail
        go_ret
        exact ⟨rfl, HBz.out⟩
      · have H0 := Lib.hid h0
        clear h0
        have qxa_0 := Hxa_11.out 0 (by simp)
        have qxa_1 := Hxa_11.out 1 (by simp)
        have lxa : w1.heap.size < W6_1.heap.size := by omega
        have qxb_0 := Hxb_12.out 0 (by simp)
        have qxb_1 := Hxb_12.out 1 (by simp)
        have lxb : w1.heap.size + 1 < W6_1.heap.size := by omega
        simp only [List.getElem_cons_succ, List.getElem_cons_zero] at qxa_0 qxa_1 qxb_0 qxb_1
        go_wp2_with fail
        have hP := treeCmp_x HTa_9.out HTb_10.out
        rw [H0.out] at hP
        refine (hP).mono ?_
        rintro e w2 ⟨rfl, hb⟩
        clear qxa_0 qxa_1 lxa qxb_0 qxb_1 lxb
        have z_74 := hb.size
        have Hbel_75 := Lib.hid (Hbel_8.out.trans (hb.mono (by omega)))
        have HTa_76 := Lib.hid (HTa_9.out.below hb)
        have HTb_77 := Lib.hid (HTb_10.out.below hb)
        have Hxa_78 := Lib.hid (Hxa_11.out.below hb (by omega))
        have Hxb_79 := Lib.hid (Hxb_12.out.below hb (by omega))
        clear Hbel_8 HTa_9 HTb_10 Hxa_11 Hxb_12
        clear hb
        clear hP
        have qxa_0 := Hxa_78.out 0 (by simp)
        have qxa_1 := Hxa_78.out 1 (by simp)
        have lxa : w1.heap.size < w2.heap.size := by omega
        simp only [List.getElem_cons_succ, List.getElem_cons_zero] at qxa_0 qxa_1
        go_wp2_with fail
        refine (treeOkS_x HTa_76.out HCa.out HUa.out).mono ?_
        rintro e w3 ⟨rfl, hb⟩
        clear qxa_0 qxa_1 lxa
        have z_80 := hb.size
        have Hbel_81 := Lib.hid (Hbel_75.out.trans (hb.mono (by omega)))
        have HTa_82 := Lib.hid (HTa_76.out.below hb)
        have HTb_83 := Lib.hid (HTb_77.out.below hb)
        have Hxa_84 := Lib.hid (Hxa_78.out.below hb (by omega))
        have Hxb_85 := Lib.hid (Hxb_79.out.below hb (by omega))
        clear Hbel_75 HTa_76 HTb_77 Hxa_78 Hxb_79
        clear hb
        have qxb_0 := Hxb_85.out 0 (by simp)
        have qxb_1 := Hxb_85.out 1 (by simp)
        have lxb : w1.heap.size + 1 < w3.heap.size := by omega
        simp only [List.getElem_cons_succ, List.getElem_cons_zero] at qxb_0 qxb_1
        go_wp2_with fail
        refine (treeOkS_x HTb_83.out HCb.out HUb.out).mono ?_
        rintro e w4 ⟨rfl, hb⟩
        clear qxb_0 qxb_1 lxb
        have z_86 := hb.size
        have Hbel_87 := Lib.hid (Hbel_81.out.trans (hb.mono (by omega)))
        have HTa_88 := Lib.hid (HTa_82.out.below hb)
        have HTb_89 := Lib.hid (HTb_83.out.below hb)
        have Hxa_90 := Lib.hid (Hxa_84.out.below hb (by omega))
        have Hxb_91 := Lib.hid (Hxb_85.out.below hb (by omega))
        clear Hbel_81 HTa_82 HTb_83 Hxa_84 Hxb_85
        clear hb
        have qxa_0 := Hxa_90.out 0 (by simp)
        have qxa_1 := Hxa_90.out 1 (by simp)
        have lxa : w1.heap.size < w4.heap.size := by omega
        have qxb_0 := Hxb_91.out 0 (by simp)
        have qxb_1 := Hxb_91.out 1 (by simp)
        have lxb : w1.heap.size + 1 < w4.heap.size := by omega
        simp only [List.getElem_cons_succ, List.getElem_cons_zero] at qxa_0 qxa_1 qxb_0 qxb_1
        go_wp2_with fail
        have HN := Lib.hid (show tcI b.vec b.es a.vec a.es = 0 from by rw [HAn.out, H0.out] <;> rfl)
        have hP := treeCmp_x HTb_89.out HTa_88.out
        rw [HN.out] at hP
        refine (hP).mono ?_
        rintro e w5 ⟨rfl, hb⟩
        clear qxa_0 qxa_1 lxa qxb_0 qxb_1 lxb
        have z_92 := hb.size
        have Hbel_93 := Lib.hid (Hbel_87.out.trans (hb.mono (by omega)))
        have HTa_94 := Lib.hid (HTa_88.out.below hb)
        have HTb_95 := Lib.hid (HTb_89.out.below hb)
        have Hxa_96 := Lib.hid (Hxa_90.out.below hb (by omega))
        have Hxb_97 := Lib.hid (Hxb_91.out.below hb (by omega))
        clear Hbel_87 HTa_88 HTb_89 Hxa_90 Hxb_91
        clear hb
        clear hP
        have qxa_0 := Hxa_96.out 0 (by simp)
        have qxa_1 := Hxa_96.out 1 (by simp)
        have lxa : w1.heap.size < w5.heap.size := by omega
        have qxb_0 := Hxb_97.out 0 (by simp)
        have qxb_1 := Hxb_97.out 1 (by simp)
        have lxb : w1.heap.size + 1 < w5.heap.size := by omega
        simp only [List.getElem_cons_succ, List.getElem_cons_zero] at qxa_0 qxa_1 qxb_0 qxb_1
        go_wp2_with fail
        refine (sameX_true HTa_94.out HTb_95.out (HZ.out.1 H0.out).1 (HZ.out.1 H0.out).2).mono ?_
        rintro e w6 ⟨rfl, hb⟩
        clear qxa_0 qxa_1 lxa qxb_0 qxb_1 lxb
        have z_98 := hb.size
        have Hbel_99 := Lib.hid (Hbel_93.out.trans (hb.mono (by omega)))
        have HTa_100 := Lib.hid (HTa_94.out.below hb)
        have HTb_101 := Lib.hid (HTb_95.out.below hb)
        have Hxa_102 := Lib.hid (Hxa_96.out.below hb (by omega))
        have Hxb_103 := Lib.hid (Hxb_97.out.below hb (by omega))
        clear Hbel_93 HTa_94 HTb_95 Hxa_96 Hxb_97
        clear hb
        go_wp2_with fail
        refine (trees_any _ (HTb.out _ Hbel_99.out)).mono ?_
        rintro e wz ⟨rfl, hbz⟩
        have HBz := Lib.hid (Hbel_99.out.trans (hbz.mono (by omega)))
        clear hbz
        go_wp2_with fail
        go_ret
        exact ⟨rfl, HBz.out⟩
      · have H0 := Lib.hid h0
        clear h0
        have qxa_0 := Hxa_11.out 0 (by simp)
        have qxa_1 := Hxa_11.out 1 (by simp)
        have lxa : w1.heap.size < W6_1.heap.size := by omega
        have qxb_0 := Hxb_12.out 0 (by simp)
        have qxb_1 := Hxb_12.out 1 (by simp)
        have lxb : w1.heap.size + 1 < W6_1.heap.size := by omega
        simp only [List.getElem_cons_succ, List.getElem_cons_zero] at qxa_0 qxa_1 qxb_0 qxb_1
        go_wp2_with fail
        have hP := treeCmp_x HTa_9.out HTb_10.out
        rw [H0.out] at hP
        refine (hP).mono ?_
        rintro e w2 ⟨rfl, hb⟩
        clear qxa_0 qxa_1 lxa qxb_0 qxb_1 lxb
        have z_104 := hb.size
        have Hbel_105 := Lib.hid (Hbel_8.out.trans (hb.mono (by omega)))
        have HTa_106 := Lib.hid (HTa_9.out.below hb)
        have HTb_107 := Lib.hid (HTb_10.out.below hb)
        have Hxa_108 := Lib.hid (Hxa_11.out.below hb (by omega))
        have Hxb_109 := Lib.hid (Hxb_12.out.below hb (by omega))
        clear Hbel_8 HTa_9 HTb_10 Hxa_11 Hxb_12
        clear hb
        clear hP
        have qxa_0 := Hxa_108.out 0 (by simp)
        have qxa_1 := Hxa_108.out 1 (by simp)
        have lxa : w1.heap.size < w2.heap.size := by omega
        simp only [List.getElem_cons_succ, List.getElem_cons_zero] at qxa_0 qxa_1
        go_wp2_with fail
        refine (treeOkS_x HTa_106.out HCa.out HUa.out).mono ?_
        rintro e w3 ⟨rfl, hb⟩
        clear qxa_0 qxa_1 lxa
        have z_110 := hb.size
        have Hbel_111 := Lib.hid (Hbel_105.out.trans (hb.mono (by omega)))
        have HTa_112 := Lib.hid (HTa_106.out.below hb)
        have HTb_113 := Lib.hid (HTb_107.out.below hb)
        have Hxa_114 := Lib.hid (Hxa_108.out.below hb (by omega))
        have Hxb_115 := Lib.hid (Hxb_109.out.below hb (by omega))
        clear Hbel_105 HTa_106 HTb_107 Hxa_108 Hxb_109
        clear hb
        have qxb_0 := Hxb_115.out 0 (by simp)
        have qxb_1 := Hxb_115.out 1 (by simp)
        have lxb : w1.heap.size + 1 < w3.heap.size := by omega
        simp only [List.getElem_cons_succ, List.getElem_cons_zero] at qxb_0 qxb_1
        go_wp2_with fail
        refine (treeOkS_x HTb_113.out HCb.out HUb.out).mono ?_
        rintro e w4 ⟨rfl, hb⟩
        clear qxb_0 qxb_1 lxb
        have z_116 := hb.size
        have Hbel_117 := Lib.hid (Hbel_111.out.trans (hb.mono (by omega)))
        have HTa_118 := Lib.hid (HTa_112.out.below hb)
        have HTb_119 := Lib.hid (HTb_113.out.below hb)
        have Hxa_120 := Lib.hid (Hxa_114.out.below hb (by omega))
        have Hxb_121 := Lib.hid (Hxb_115.out.below hb (by omega))
        clear Hbel_111 HTa_112 HTb_113 Hxa_114 Hxb_115
        clear hb
        have qxa_0 := Hxa_120.out 0 (by simp)
        have qxa_1 := Hxa_120.out 1 (by simp)
        have lxa : w1.heap.size < w4.heap.size := by omega
        have qxb_0 := Hxb_121.out 0 (by simp)
        have qxb_1 := Hxb_121.out 1 (by simp)
        have lxb : w1.heap.size + 1 < w4.heap.size := by omega
        simp only [List.getElem_cons_succ, List.getElem_cons_zero] at qxa_0 qxa_1 qxb_0 qxb_1
        go_wp2_with fail
        have HN := Lib.hid (show tcI b.vec b.es a.vec a.es = -1 from by rw [HAn.out, H0.out] <;> rfl)
        have hP := treeCmp_x HTb_119.out HTa_118.out
        rw [HN.out] at hP
        refine (hP).mono ?_
        rintro e w5 ⟨rfl, hb⟩
        clear qxa_0 qxa_1 lxa qxb_0 qxb_1 lxb
        have z_122 := hb.size
        have Hbel_123 := Lib.hid (Hbel_117.out.trans (hb.mono (by omega)))
        have HTa_124 := Lib.hid (HTa_118.out.below hb)
        have HTb_125 := Lib.hid (HTb_119.out.below hb)
        have Hxa_126 := Lib.hid (Hxa_120.out.below hb (by omega))
        have Hxb_127 := Lib.hid (Hxb_121.out.below hb (by omega))
        clear Hbel_117 HTa_118 HTb_119 Hxa_120 Hxb_121
        clear hb
        clear hP
        have qxa_0 := Hxa_126.out 0 (by simp)
        have qxa_1 := Hxa_126.out 1 (by simp)
        have lxa : w1.heap.size < w5.heap.size := by omega
        have qxb_0 := Hxb_127.out 0 (by simp)
        have qxb_1 := Hxb_127.out 1 (by simp)
        have lxb : w1.heap.size + 1 < w5.heap.size := by omega
        simp only [List.getElem_cons_succ, List.getElem_cons_zero] at qxa_0 qxa_1 qxb_0 qxb_1
        go_wp2_with fail
        refine (sameX_false HTa_124.out HTb_125.out (fun e => by have := HZ.out.2 e; rw [H0.out] at this; exact absurd this (by decide))).mono ?_
        rintro e w6 ⟨rfl, hb⟩
        clear qxa_0 qxa_1 lxa qxb_0 qxb_1 lxb
        have z_128 := hb.size
        have Hbel_129 := Lib.hid (Hbel_123.out.trans (hb.mono (by omega)))
        have HTa_130 := Lib.hid (HTa_124.out.below hb)
        have HTb_131 := Lib.hid (HTb_125.out.below hb)
        have Hxa_132 := Lib.hid (Hxa_126.out.below hb (by omega))
        have Hxb_133 := Lib.hid (Hxb_127.out.below hb (by omega))
        clear Hbel_123 HTa_124 HTb_125 Hxa_126 Hxb_127
        clear hb
        go_wp2_with fail
        refine (trees_any _ (HTb.out _ Hbel_129.out)).mono ?_
        rintro e wz ⟨rfl, hbz⟩
        have HBz := Lib.hid (Hbel_129.out.trans (hbz.mono (by omega)))
        clear hbz
        go_wp2_with fail
        go_ret
        exact ⟨rfl, HBz.out⟩

end Go.Proofs.YtepkicgnhjaokaaGreatDoor

namespace Go.Proofs.YtepkicgnhjaokaaGreatDoor
open Go.ChangeShapes Go.WideShapes Go.ChangeAt Go.RowKit

theorem Tryz.ownFnOrdered : ownKnob Tryz.prog.godebug = none := by kernel_rfl

set_option maxRecDepth 100000 in
theorem fnOrdered_lifted (os : Os) (started : os.Started) (H : Type) (enc : TypeId × Value → H) :
    ReturnsInHanded {} Tryz.checked os 6 .any (fun w args => (Rows.fnOrderedSpec.pre enc Tryz.prog Tryz.f6 [] false w args ∧ laidMetH Tryz.prog laid3 w) ∧ sizedMet enc Tryz.prog Tryz.f6 (OpenSpec.ofChange Rows.fnOrderedSpec) false w args)
      (Rows.fnOrderedSpec.post enc Tryz.prog Tryz.f6 false true false false) := by
  refine returnsInHanded_of_change_and (C := Tryz.checked) (X := fun w _ => laidMetH Tryz.prog laid3 w) (fun _ _ _ hh h => h.of_heap hh) Tryz.ownFnOrdered started (by kernel_rfl) Tryz.func6
    (ChangeSpec.witness_shaped (enc := enc) (C := Tryz.checked) (os := os) (X := fun w _ => laidMetH Tryz.prog laid3 w) false (World.doorLaid Tryz.prog 24 os) #[.slice none 0 0] 8 rfl (World.shaped_of_RefB (by kernel_rfl) (by kernel_rfl)) (by kernel_rfl) (by kernel_rfl) (by kernel_rfl) (door_met os _)) ?_
  intro W base args ds gs before hval0 hW _ _ hL _
  have hval : ∀ (j : Nat) t v, Tryz.f6.params[j]? = some t → args[j]? = some v → Value.okWide Tryz.prog W .any base t v := hval0
  have hW' := hW
  obtain ⟨p, q, hA0, hV, rfl, _, _⟩ := hW
  have hA : DataW.TrodAll enc Tryz.prog W 0 (fun _ => true) true Tryz.f6.params.toList args.toList ds p := hA0
  rw [Tryz.params6] at hA hval
  obtain ⟨v0, d0, rfl, rfl, h0⟩ := trodAll_one hA
  obtain ⟨rfl, rfl⟩ := trodVars_none hV
  have h0k := h0
  obtain ⟨A, l, c, rfl, hlen, hts⟩ := open_byteS (hval 0 22 v0 rfl rfl) h0
  clear hA0 hval0
  have htab := pow10_of_laid hL
  simp only [List.append_nil] at hW'
  have hlt : ∀ x ∈ p, x.block < W.heap.size := fun x hx => by simpa using hW'.lt x (by simp [hx])
  refine (fnOrdered_any A c l W hts hlen htab).mono fun e W' ⟨he, hb⟩ => ?_
  subst he
  exact ⟨_, rfl, _, _, _, [], p, [], hW', trodAll_mk1 (shut_bool Tryz.underlying4 _), trodAll_mk1 (Below.trod Tryz.laidOut (by kernel_rfl) (of_decide_eq_true (by kernel_rfl)) h0k hb hlt), rfl, hb.frame _, fun h => by cases h⟩

theorem fnOrdered_holds : Rows.FnOrderedSaid :=
  OpenClaim.holds_of_wide 6 Tryz.f6 rfl rfl rfl rfl rfl rfl rfl ⟨rfl, rfl, rfl, rfl, rfl⟩ rfl rfl rfl rfl rfl (by kernel_rfl) Tryz.func6 (by kernel_rfl)
    (of_decide_eq_true (by kernel_rfl)) (by unfold Func.isWrapper; first | (rw [if_pos (by decide +kernel)]; kernel_rfl) | (rw [if_neg (by decide +kernel)]; exact ⟨rfl, rfl⟩))
    (fun os started H enc _ => fnOrdered_lifted os started H enc)

end Go.Proofs.YtepkicgnhjaokaaGreatDoor
