/-
  Several texts in one: Fk, RowFnCopies.
-/
import Derived.Test.YtepkicgnhjaokaaGreatDoorGTx
import Derived.Test.YtepkicgnhjaokaaGreatDoorGCp
import Derived.Test.YtepkicgnhjaokaaGreatDoorGVwA
import Derived.Deep.RegionHeld3
import Derived.Lib.SlBytesConst
import Derived.Test.YtepkicgnhjaokaaGreatDoorGRow
namespace Go.Proofs.YtepkicgnhjaokaaGreatDoor
open Go.RowKit Go.Maps

section
variable {w : World} {t : Tt}
theorem treeOkS_k {b : Bool} (h : Tx w t) (hc : t.es.length ≤ t.c) (ho : treeB t.vec t.es = b) : Calls Tryz.prog 24 #[.agg #[.slice t.AV t.vec.length t.cv, .slice t.A t.es.length t.c]] w fun e w' => e = .returned (.bool b) ∧ Below w.heap.size w w' := by
  have hP := specTreeOk_any t.AV t.vec t.cv t.A t.es t.c w h.v h.e h.lv h.le h.lb hc
  rw [ho] at hP
  exact hP
theorem namesOf_no (h : Tx w t) (ho : treeB t.vec t.es = false) : Calls Tryz.prog 26 #[.agg #[.slice t.AV t.vec.length t.cv, .slice t.A t.es.length t.c]] w fun e w' => (∃ A c, e = .returned (.slice A 0 c)) ∧ Below w.heap.size w w' := by
  refine (implNamesOf_any t.AV t.vec t.cv t.A t.es t.c w h.v h.e h.lv h.le h.lb).mono ?_
  rintro e w' ⟨A, c, rfl, _, hb⟩
  unfold nmsV
  rw [ho]
  exact ⟨⟨A, c, rfl⟩, hb⟩
theorem namesOf_yes (h : Tx w t) (ho : treeB t.vec t.es = true) : Calls Tryz.prog 26 #[.agg #[.slice t.AV t.vec.length t.cv, .slice t.A t.es.length t.c]] w fun e w' => (∃ A c, e = .returned (.slice A (nmL t.es t.es.length).length c) ∧ BssOwn w' 0 w'.heap.size A (nmL t.es t.es.length)) ∧ Below w.heap.size w w' := by
  refine (implNamesOf_any t.AV t.vec t.cv t.A t.es t.c w h.v h.e h.lv h.le h.lb).mono ?_
  rintro e w' ⟨A, c, rfl, hf, hb⟩
  unfold nmsV at hf ⊢
  rw [ho] at hf ⊢
  simp only [if_true] at hf ⊢
  exact ⟨⟨A, c, rfl, hf.mono (Nat.zero_le _) (Nat.le_refl _)⟩, hb⟩
theorem copies_no (h : Tx w t) (ho : treeB t.vec t.es = false) : Calls Tryz.prog 27 #[.agg #[.slice t.AV t.vec.length t.cv, .slice t.A t.es.length t.c]] w fun e w' => e = .returned (.int .i64 (-1)) ∧ Below w.heap.size w w' := by
  have hp := implCopies_any t.AV t.vec t.cv t.A t.es t.c w h.v h.e h.lv h.le h.lb
  unfold cpV at hp
  rw [ho] at hp
  exact hp
theorem copies_yes (h : Tx w t) (ho : treeB t.vec t.es = true) : Calls Tryz.prog 27 #[.agg #[.slice t.AV t.vec.length t.cv, .slice t.A t.es.length t.c]] w fun e w' => e = .returned (.int .i64 ((t.es.length : Int) - ((nmL t.es t.es.length).length : Int))) ∧ Below w.heap.size w w' := by
  have hp := implCopies_any t.AV t.vec t.cv t.A t.es t.c w h.v h.e h.lv h.le h.lb
  unfold cpV at hp
  rw [ho, ← nmL_length] at hp
  exact hp
theorem viewLen_k (h : Tx w t) (htab : Lib.TabIs Tryz.prog w "internal/strconv.uint64pow10" .u64 Lib.pow10Tab) (ho : treeB t.vec t.es = true) : Calls Tryz.prog 30 #[.agg #[.slice t.AV t.vec.length t.cv, .slice t.A t.es.length t.c]] w fun e w' => (∃ A c, e = .returned (.slice A t.es.length c)) ∧ Below w.heap.size w w' := by
  refine (implView_any t.AV t.vec t.cv t.A t.es t.c w h.v h.e h.lv h.le h.lb htab).mono ?_
  rintro e w' ⟨A, c, rfl, _, hb⟩
  unfold vwL
  rw [ho]
  simp only [if_true]
  rw [vwE_len]
  exact ⟨⟨A, c, rfl⟩, hb⟩
theorem writers_k {Ab : Option Addr} {l : List UInt8} {cb : Nat} (h : Tx w t) (ho : treeB t.vec t.es = true) (hB : BytesIn w 0 w.heap.size Ab l) (hl : l.length ≤ 1048576) : Calls Tryz.prog 28 #[.agg #[.slice t.AV t.vec.length t.cv, .slice t.A t.es.length t.c], .slice Ab l.length cb] w fun e w' => (∃ A c, e = .returned (.slice A (ofName l t.es).length c)) ∧ Below w.heap.size w w' := by
  refine (implWriters_any t.AV t.vec t.cv t.A t.es t.c Ab l cb w h.v h.e h.lv h.le h.lb hB hl).mono ?_
  rintro e w' ⟨A, c, rfl, _, hb⟩
  unfold wrsV
  rw [ho]
  simp only [if_true, List.length_map]
  exact ⟨⟨A, c, rfl⟩, hb⟩
theorem valueOf_k {Ab : Option Addr} {l : List UInt8} {cb : Nat} (h : Tx w t) (ho : treeB t.vec t.es = true) (hB : BytesIn w 0 w.heap.size Ab l) (hl : l.length ≤ 1048576) (hp : 0 < (ofName l t.es).length) : Calls Tryz.prog 29 #[.agg #[.slice t.AV t.vec.length t.cv, .slice t.A t.es.length t.c], .slice Ab l.length cb] w fun e w' => e = .returned (.tuple #[.int .i64 (firstV (ofName l t.es)), .bool true]) ∧ Below w.heap.size w w' := by
  have hP := implValueOf_any t.AV t.vec t.cv t.A t.es t.c Ab l cb w h.v h.e h.lv h.le h.lb hB hl
  unfold valI valK at hP
  rw [ho, decide_eq_true hp] at hP
  exact hP
end
/-- The k-th name's cell. -/
theorem bss_at {w : World} {A : Option Addr} {ls : List (List UInt8)} (h : BssOwn w 0 w.heap.size A ls) (hn : 0 < ls.length) : ∃ (R : Nat) (g : Nat → Nat) (c : Nat → Nat), A = some ⟨R, 0, none⟩ ∧ R < w.heap.size ∧ ∀ k (hk : k < ls.length), w.cell? ⟨R, k, none⟩ = some (.slice (some ⟨g k, 0, none⟩) ls[k].length (c k)) ∧ BytesIn w 0 w.heap.size (some ⟨g k, 0, none⟩) ls[k] := by
  obtain ⟨R, g, c, hA, hlay, hc⟩ := h hn
  refine ⟨R, g, c, hA, hlay.up, fun k hk => ⟨(hc k hk).c0, ?_⟩⟩
  exact ((hc k hk).nm.bytes.low (Nat.zero_le _)).mono (hlay.at_ k hk).2.1
theorem nm_short {vec : List Int} {es : List En} (ht : treeB vec es = true) {k : Nat} (hk : k < (nmL es es.length).length) : (nmL es es.length)[k].length ≤ 1048576 := by
  obtain ⟨a, ha, he⟩ := nmL_mem (List.getElem_mem hk)
  rw [en_getD ha] at he
  rw [he]
  have := name_24 (tree_names ht es[a] (List.getElem_mem ha))
  omega

theorem names_facts {vec : List Int} {es : List En} (ht : treeB vec es = true) : ∀ N, N = nmL es es.length → cnS es N = es.length ∧ (∀ k (hk : k < N.length), 0 < (ofName N[k] es).length ∧ 0 ≤ firstV (ofName N[k] es)) ∧ (∀ k (hk : k < N.length), N[k].length ≤ 1048576) ∧ ∀ k (hk : k + 1 < N.length), Op.bytesLess N[k] N[k + 1] = true := by
  rintro _ rfl
  refine ⟨names_sum ht, fun k hk => names_at ht hk, fun k hk => nm_short ht hk, fun k hk => ?_⟩
  have h := names_lt ht hk
  rw [compare_less] at h
  split at h
  · omega
  · split at h
    · assumption
    · omega

set_option maxRecDepth 100000 in
set_option maxHeartbeats 4000000 in
theorem fnCopies_any (A : Option Addr) (c : Nat) (code : List UInt8) (w : World) (hA : BytesIn w 0 w.heap.size A code) (hn : code.length ≤ 9223372036854775807) (htab : Lib.TabIs Tryz.prog w "internal/strconv.uint64pow10" .u64 Lib.pow10Tab) :
    Calls Tryz.prog 7 #[.slice A code.length c] w fun e w' => e = .returned (.bool true) ∧ Below w.heap.size w w' := by
  have HTab := Lib.hid (Lib.tabBelow_of_tabIs htab)
  have HTb := Lib.hid (fun X (h : Below w.heap.size w X) => HTab.out X h)
  have HC := Lib.hid hA
  clear hA htab HTab
  have kc := fun (w : World) (C : Array Value) (n c : Nat) => Lib.run_convert_bytes_const (P := Tryz.prog) w 22 5 C n c Tryz.underlying22 Tryz.underlying5
  go_enter Tryz.func7, Tryz.ntmps7
  go_wp2_with fail
  have Hbel_1 := Lib.hid (Below.refl w.heap.size w)
  refine (drawCopies_any A c code w HC.out hn).mono ?_
  rintro e w1 ⟨t, rfl, ht, hb⟩
  have z_2 := hb.size
  have Hbel_3 := Lib.hid (Hbel_1.out.trans (hb.mono (by omega)))
  clear Hbel_1
  have HTt_4 := Lib.hid (ht.tx)
  clear hb
  have HCt := Lib.hid ht.cap
  clear ht HC
  go_upto_region 2 with fail
  obtain ⟨W5_0, hW5_0⟩ : ∃ xW, xW = w1.alloc (.cells #[.slice t.AV t.vec.length t.cv, .slice t.A t.es.length t.c] 26) := ⟨_, rfl⟩
  have hZ5_0 : W5_0.heap.size = w1.heap.size + 1 := by rw [hW5_0]; simp
  have hx0 : Bx W5_0 (w1.heap.size) [.slice t.AV t.vec.length t.cv, .slice t.A t.es.length t.c] := by rw [hW5_0]; exact Bx.new' _ _ _ _ rfl
  have hb0 : Below w1.heap.size w1 W5_0 := by rw [hW5_0]; exact ((Below.refl _ _).alloc (by first | exact Nat.le_refl _ | (simp; done) | (simp; omega)) _)
  have hlt : w1.heap.size + 0 < W5_0.heap.size := by omega
  rw [← hW5_0]
  clear hW5_0 hZ5_0
  have z_6 := hb0.size
  have Hbel_7 := Lib.hid (Hbel_3.out.trans (hb0.mono (by omega)))
  have HTt_8 := Lib.hid (HTt_4.out.below hb0)
  clear Hbel_3 HTt_4
  have Hxt_9 := Lib.hid (hx0)
  clear hb0 hx0
  have hl_10 := hlt
  clear hlt
  cases hta : treeB t.vec t.es with
  | false =>
    have HO := Lib.hid hta
    clear hta
    have qxt_0 := Hxt_9.out 0 (by simp)
    have qxt_1 := Hxt_9.out 1 (by simp)
    have lxt : w1.heap.size < W5_0.heap.size := by omega
    simp only [List.getElem_cons_succ, List.getElem_cons_zero] at qxt_0 qxt_1
    go_wp2_with fail
    refine (namesOf_no HTt_8.out HO.out).mono ?_
    rintro e w2 ⟨⟨A9, c9, rfl⟩, hb⟩
    clear qxt_0 qxt_1 lxt
    have z_11 := hb.size
    have Hbel_12 := Lib.hid (Hbel_7.out.trans (hb.mono (by omega)))
    have HTt_13 := Lib.hid (HTt_8.out.below hb)
    have Hxt_14 := Lib.hid (Hxt_9.out.below hb (by omega))
    clear Hbel_7 HTt_8 Hxt_9
    clear hb
    have qxt_0 := Hxt_14.out 0 (by simp)
    have qxt_1 := Hxt_14.out 1 (by simp)
    have lxt : w1.heap.size < w2.heap.size := by omega
    simp only [List.getElem_cons_succ, List.getElem_cons_zero] at qxt_0 qxt_1
    go_wp2_with fail
    refine (copies_no HTt_13.out HO.out).mono ?_
    rintro e w3 ⟨rfl, hb⟩
    clear qxt_0 qxt_1 lxt
    have z_15 := hb.size
    have Hbel_16 := Lib.hid (Hbel_12.out.trans (hb.mono (by omega)))
    have HTt_17 := Lib.hid (HTt_13.out.below hb)
    have Hxt_18 := Lib.hid (Hxt_14.out.below hb (by omega))
    clear Hbel_12 HTt_13 Hxt_14
    clear hb
    have qxt_0 := Hxt_18.out 0 (by simp)
    have qxt_1 := Hxt_18.out 1 (by simp)
    have lxt : w1.heap.size < w3.heap.size := by omega
    simp only [List.getElem_cons_succ, List.getElem_cons_zero] at qxt_0 qxt_1
    go_wp2_with fail
    refine (treeOkS_k HTt_17.out HCt.out HO.out).mono ?_
    rintro e w4 ⟨rfl, hb⟩
    clear qxt_0 qxt_1 lxt
    have z_19 := hb.size
    have Hbel_20 := Lib.hid (Hbel_16.out.trans (hb.mono (by omega)))
    have HTt_21 := Lib.hid (HTt_17.out.below hb)
    have Hxt_22 := Lib.hid (Hxt_18.out.below hb (by omega))
    clear Hbel_16 HTt_17 Hxt_18
    clear hb
    go_wp2_with fail
    refine (trees_any _ (HTb.out _ Hbel_20.out)).mono ?_
    rintro e wz ⟨rfl, hbz⟩
    have HBz := Lib.hid (Hbel_20.out.trans (hbz.mono (by omega)))
    clear hbz
    go_wp2_with fail
    go_ret
    exact ⟨rfl, HBz.out⟩
  | true =>
    have HO := Lib.hid hta
    clear hta
    have qxt_0 := Hxt_9.out 0 (by simp)
    have qxt_1 := Hxt_9.out 1 (by simp)
    have lxt : w1.heap.size < W5_0.heap.size := by omega
    simp only [List.getElem_cons_succ, List.getElem_cons_zero] at qxt_0 qxt_1
    go_wp2_with fail
    refine (namesOf_yes HTt_8.out HO.out).mono ?_
    rintro e w2 ⟨⟨A9, c9, rfl, hfs⟩, hb⟩
    clear qxt_0 qxt_1 lxt
    have z_23 := hb.size
    have Hbel_24 := Lib.hid (Hbel_7.out.trans (hb.mono (by omega)))
    have HTt_25 := Lib.hid (HTt_8.out.below hb)
    have Hxt_26 := Lib.hid (Hxt_9.out.below hb (by omega))
    clear Hbel_7 HTt_8 Hxt_9
    clear hb
    have HFs := Lib.hid hfs
    clear hfs
    have hnb : (nmL t.es t.es.length).length ≤ 1048576 := by
          have h1 := nmL_le t.es t.es.length
          have h2 := (HTt_25.out).le
          omega
    have qxt_0 := Hxt_26.out 0 (by simp)
    have qxt_1 := Hxt_26.out 1 (by simp)
    have lxt : w1.heap.size < w2.heap.size := by omega
    simp only [List.getElem_cons_succ, List.getElem_cons_zero] at qxt_0 qxt_1
    go_wp2_with fail
    refine (copies_yes HTt_25.out HO.out).mono ?_
    rintro e w3 ⟨rfl, hb3⟩
    clear qxt_0 qxt_1 lxt
    have z_27 := hb3.size
    have Hbel_28 := Lib.hid (Hbel_24.out.trans (hb3.mono (by omega)))
    have HTt_29 := Lib.hid (HTt_25.out.below hb3)
    have Hxt_30 := Lib.hid (Hxt_26.out.below hb3 (by omega))
    clear Hbel_24 HTt_25 Hxt_26
    have HB3 := Lib.hid hb3
    clear hb3
    have qxt_0 := Hxt_30.out 0 (by simp)
    have qxt_1 := Hxt_30.out 1 (by simp)
    have lxt : w1.heap.size < w3.heap.size := by omega
    simp only [List.getElem_cons_succ, List.getElem_cons_zero] at qxt_0 qxt_1
    go_wp2_with fail
    refine (treeOkS_k HTt_29.out HCt.out HO.out).mono ?_
    rintro e w4 ⟨rfl, hb4⟩
    clear qxt_0 qxt_1 lxt
    have z_31 := hb4.size
    have Hbel_32 := Lib.hid (Hbel_28.out.trans (hb4.mono (by omega)))
    have HTt_33 := Lib.hid (HTt_29.out.below hb4)
    have Hxt_34 := Lib.hid (Hxt_30.out.below hb4 (by omega))
    clear Hbel_28 HTt_29 Hxt_30
    have HB4 := Lib.hid hb4
    clear hb4
    obtain ⟨N, hN9⟩ : ∃ N, N = nmL t.es t.es.length := ⟨_, rfl⟩
    have HN := Lib.hid hN9
    obtain ⟨hsum, hat, hsh, hlt9⟩ := names_facts HO.out N hN9
    rw [← hN9] at hnb
    have HFs2 := HFs.out
    rw [← hN9] at HFs2 ⊢
    have HSum := Lib.hid hsum
    have HAt := Lib.hid hat
    have HSh := Lib.hid hsh
    have HLt := Lib.hid hlt9
    have HF := Lib.hid HFs2
    have hes : (t.es.length : Int) ≤ 1048576 := by have := (HTt_33.out).le; omega
    have H23 := Lib.hid (show Below w2.heap.size w2 w4 from HB3.out.trans (HB4.out.mono HB3.out.size))
    clear hN9 hsum hat hsh hlt9 HFs2 HFs
    have cnle : ∀ k, cnS t.es (N.take k) ≤ 1048576 := fun k => by
      have h1 := cnS_take_le t.es N k
      rw [HSum.out] at h1
      omega
    go_wp2_with fail
    go_loopw [6, 7] (fun m i wr => ∃ k : Nat, k ≤ N.length ∧ m = .int .i64 (cnS t.es (N.take k)) ∧ i = .int .i64 k ∧ Below w4.heap.size w4 wr) (fun _ i _ => N.length - (intOf i).toNat)
    case atStart => exact ⟨0, Nat.zero_le _, rfl, rfl, Below.refl _ _⟩
    case round =>
      obtain ⟨k, hk, rfl, rfl, hbr⟩ := hrel
      obtain ⟨wo, rfl⟩ : ∃ X : World, X = wr := ⟨_, rfl⟩
      have HBr := Lib.hid hbr
      have hzr := hbr.size
      clear hbr
      have cnk := cnle k
      have lxt0 : w1.heap.size < w4.heap.size := by omega
      by_cases hlt : k < N.length
      · obtain ⟨R, N2, cc, rfl, hR, hcell⟩ := bss_at HF.out (by omega)
        obtain ⟨k0, kb⟩ := hcell k hlt
        have HB2 := Lib.hid (H23.out.trans (HBr.out.mono H23.out.size))
        have hz2 := H23.out.size
        replace k0 := (HB2.out.cell (p := ⟨R, k, none⟩) hR).trans k0
        have HKb := Lib.hid ((kb.keep fun p _ hp => HB2.out.cell hp).mono HB2.out.size)
        have HT := Lib.hid (Tx.below HTt_33.out HBr.out)
        obtain ⟨hp0, hv0⟩ := HAt.out k hlt
        obtain ⟨nk, hnk⟩ : ∃ x, x = N[k] := ⟨_, rfl⟩
        have hst := cnS_take t.es N hlt
        have hsk := HSh.out k hlt
        rw [← hnk] at k0 hp0 hv0 hst hsk
        have HNk := Lib.hid hnk
        have HKb2 := Lib.hid (show BytesIn wo 0 wo.heap.size (some ⟨N2 k, 0, none⟩) nk by rw [hnk]; exact HKb.out)
        have hltI : (k : Int) < (N.length : Int) := by omega
        have cnk1 := cnle (k + 1)
        have HSt := Lib.hid hst
        obtain ⟨x0, x1⟩ : wo.cell? ⟨w1.heap.size, 0, none⟩ = some (.slice t.AV t.vec.length t.cv) ∧ wo.cell? ⟨w1.heap.size, 1, none⟩ = some (.slice t.A t.es.length t.c) :=
          ⟨(HBr.out.cell (p := ⟨w1.heap.size, 0, none⟩) lxt0).trans (Hxt_34.out 0 (by simp)), (HBr.out.cell (p := ⟨w1.heap.size, 1, none⟩) lxt0).trans (Hxt_34.out 1 (by simp))⟩
        have HS := Lib.hid (show ∀ X, Below wo.heap.size wo X → (X.cell? ⟨w1.heap.size, 0, none⟩ = some (.slice t.AV t.vec.length t.cv) ∧ X.cell? ⟨w1.heap.size, 1, none⟩ = some (.slice t.A t.es.length t.c) ∧ X.cell? ⟨R, k, none⟩ = some (.slice (some ⟨N2 k, 0, none⟩) nk.length (cc k))) from fun X hX =>
          ⟨(hX.cell (p := ⟨w1.heap.size, 0, none⟩) (by show w1.heap.size < _; omega)).trans x0, (hX.cell (p := ⟨w1.heap.size, 1, none⟩) (by show w1.heap.size < _; omega)).trans x1, (hX.cell (p := ⟨R, k, none⟩) (by show R < _; omega)).trans k0⟩)
        have HU := Lib.hid (Below.refl wo.heap.size wo)
        have lxt : w1.heap.size < wo.heap.size := by omega
        have lR : R < wo.heap.size := by omega
        clear k0 kb hcell hnk hst x0 x1
        go_upto_region 10 with fail
        go_region_held3 (fun X => X.cell? ⟨w1.heap.size, 0, none⟩ = some (.slice t.AV t.vec.length t.cv) ∧ X.cell? ⟨w1.heap.size, 1, none⟩ = some (.slice t.A t.es.length t.c) ∧ X.cell? ⟨R, k, none⟩ = some (.slice (some ⟨N2 k, 0, none⟩) nk.length (cc k)))
          ((refine HS.out _ ?_; repeat first | with_reducible exact HU.out | with_reducible apply Below.drew))
          (first
            | (go_at_call 28
               with_reducible refine (writers_k (HT.out.below (show Below wo.heap.size wo _ from by repeat first | with_reducible exact HU.out | with_reducible apply Below.drew)) HO.out ((HKb2.out.keep fun p _ hp => Below.cell (show Below wo.heap.size wo _ from by repeat first | with_reducible exact HU.out | with_reducible apply Below.drew) hp).mono (Below.size (show Below wo.heap.size wo _ from by repeat first | with_reducible exact HU.out | with_reducible apply Below.drew))) hsk).mono ?_
               rintro r u ⟨⟨A7, c7, rfl⟩, hbu⟩
               replace HU := Lib.hid (Below.trans (show Below wo.heap.size wo _ from by repeat first | with_reducible exact HU.out | with_reducible apply Below.drew) (hbu.mono (Below.size (show Below wo.heap.size wo _ from by repeat first | with_reducible exact HU.out | with_reducible apply Below.drew))))
               clear hbu))
        rename_i hHeld9
        clear hHeld9
        have HVal := Lib.hid (And.intro hp0 hv0)
        obtain ⟨va, hva⟩ : ∃ x, x = firstV (ofName nk t.es) := ⟨_, rfl⟩
        rw [← hva] at hv0
        have HVa := Lib.hid hva
        clear hva
        go_upto_region 11 with fail
        go_region_held3 (fun X => X.cell? ⟨w1.heap.size, 0, none⟩ = some (.slice t.AV t.vec.length t.cv) ∧ X.cell? ⟨w1.heap.size, 1, none⟩ = some (.slice t.A t.es.length t.c) ∧ X.cell? ⟨R, k, none⟩ = some (.slice (some ⟨N2 k, 0, none⟩) nk.length (cc k)))
          ((refine HS.out _ ?_; repeat first | with_reducible exact HU.out | with_reducible apply Below.drew))
          (first
            | (go_at_call 29
               with_reducible refine (valueOf_k (HT.out.below (show Below wo.heap.size wo _ from by repeat first | with_reducible exact HU.out | with_reducible apply Below.drew)) HO.out ((HKb2.out.keep fun p _ hp => Below.cell (show Below wo.heap.size wo _ from by repeat first | with_reducible exact HU.out | with_reducible apply Below.drew) hp).mono (Below.size (show Below wo.heap.size wo _ from by repeat first | with_reducible exact HU.out | with_reducible apply Below.drew))) hsk HVal.out.1).mono ?_
               rintro r v ⟨rfl, hbu⟩
               replace HU := Lib.hid (Below.trans (show Below wo.heap.size wo _ from by repeat first | with_reducible exact HU.out | with_reducible apply Below.drew) (hbu.mono (Below.size (show Below wo.heap.size wo _ from by repeat first | with_reducible exact HU.out | with_reducible apply Below.drew))))
               rw [← HVa.out]
               clear hbu))
        rename_i hHeld9
        clear hHeld9
        have HW := HU.out
        have y1 : ∀ y : Kp v, y.val.cell? ⟨R, k, none⟩ = some (.slice (some ⟨N2 k, 0, none⟩) nk.length (cc k)) := fun y => y.cell (HS.out _ HW).2.2
        have s1 : ∀ y : Kp v, (convert 22 9 (.slice (some ⟨N2 k, 0, none⟩) nk.length (cc k))).run Tryz.prog y.val = .ok (.string ⟨nk.toArray⟩) y.val := fun y => run_str ((HKb2.out.keep (w' := y.val) fun p _ hp => (y.ok.cell (Nat.lt_of_lt_of_le hp HW.size)).trans (HW.cell hp))) (cc k)
        have hvn : decide (va < 0) = false := decide_eq_false (by omega)
        obtain ⟨nw, hnw⟩ : ∃ x, x = (ofName nk t.es).length := ⟨_, rfl⟩
        rw [← hnw] at hp0 ⊢
        have hnz : ((nw : Int) == 0) = false := by rw [beq_eq_false_iff_ne]; omega
        have HNw := Lib.hid hnw
        have hzv := HW.size
        have hst := HSt.out
        obtain ⟨ms, hms⟩ : ∃ x, x = cnS t.es (N.take k) := ⟨_, rfl⟩
        obtain ⟨me, hme⟩ : ∃ x, x = cnS t.es (N.take (k + 1)) := ⟨_, rfl⟩
        rw [← HNw.out, ← hms, ← hme] at hst
        rw [← hms] at cnk
        rw [← hms] at ⊢
        rw [← hme] at cnk1
        have HMe := Lib.hid hme
        clear hnw hp0 hms hme HSt
        by_cases hk0 : k = 0
        · subst hk0
          clear y1 s1
          go_upto_region 12 with fail
          refine wp_region_kept (by kernel_rfl) (by kernel_rfl) ?_
          repeat (go_big_quiet_step (fail))
          refine wpQuiet_nil ?_
          rintro _ ⟨y, rfl⟩
          have HB6 := Lib.hid (HBr.out.trans ((HU.out.trans (y.ok.mono (by omega))).mono (by omega)))
          go_wp2_with fail
          go_roundw
          case rel => exact ⟨0 + 1, by omega, by rw [← HMe.out]; go_num, by go_num, HB6.out⟩
          case measure => simp [intOf]; omega
        · obtain ⟨k', rfl⟩ : ∃ k', k = k' + 1 := ⟨k - 1, by omega⟩
          obtain ⟨R', g', c', hRe, hR', hcell'⟩ := bss_at HF.out (by omega)
          obtain ⟨d0, db⟩ := hcell' k' (by omega)
          injection hRe with hRe
          injection hRe with hRe
          subst hRe
          have hlq := HLt.out k' hlt
          rw [← HNk.out] at hlq
          obtain ⟨nj, hnj⟩ : ∃ x, x = N[k'] := ⟨_, rfl⟩
          rw [← hnj] at d0 hlq
          have y0 : ∀ y : Kp v, y.val.cell? ⟨R, k', none⟩ = some (.slice (some ⟨g' k', 0, none⟩) nj.length (c' k')) := fun y => y.cell ((HW.cell (p := ⟨R, k', none⟩) lR).trans ((HB2.out.cell (p := ⟨R, k', none⟩) hR).trans d0))
          have s0 : ∀ y : Kp v, (convert 22 9 (.slice (some ⟨g' k', 0, none⟩) nj.length (c' k'))).run Tryz.prog y.val = .ok (.string ⟨nj.toArray⟩) y.val := fun y => by
            rw [hnj]
            exact run_str ((db.keep (w' := y.val) fun p _ hp => (y.ok.cell (by have := HB2.out.size; omega)).trans ((HW.cell (by have := HB2.out.size; omega)).trans (HB2.out.cell hp)))) (c' k')
          have hk1 : (0 : Int) < (k' : Int) + 1 := by omega
          have hk2 : (k' : Int) < (N.length : Int) := by omega
          have hk4 : (k' : Int) + 1 < (N.length : Int) := by omega
          have hbl : (!Op.bytesLess nj nk) = false := by rw [hlq]; rfl
          clear hnj d0 db hcell' hk0
          go_upto_region 12 with fail
          refine wp_region_kept (by kernel_rfl) (by kernel_rfl) ?_
          repeat (go_big_quiet_step (fail))
          refine wpQuiet_nil ?_
          rintro _ ⟨y, rfl⟩
          have HB6 := Lib.hid (HBr.out.trans ((HU.out.trans (y.ok.mono (by omega))).mono (by omega)))
          clear y0 y1 s0 s1
          go_wp2_with fail
          go_roundw
          case rel => exact ⟨k' + 1 + 1, by omega, by rw [← HMe.out]; go_num, by go_num, HB6.out⟩
          case measure => simp [intOf]; omega
      · obtain rfl : k = N.length := by omega
        have hall : cnS t.es (N.take N.length) = t.es.length := by rw [List.take_length]; exact HSum.out
        rw [hall]
        have HB7 := Lib.hid (Below.trans Hbel_32.out (HBr.out.mono (by omega)))
        obtain ⟨ne, hne⟩ : ∃ x, x = t.es.length := ⟨_, rfl⟩
        have HT := Lib.hid (Tx.below HTt_33.out HBr.out)
        have HV := Lib.hid (fun X (hX : Below wo.heap.size wo X) => viewLen_k (HT.out.below hX) (HTb.out X (HB7.out.trans (hX.mono (by have := HB7.out.size; omega)))) HO.out)
        obtain ⟨x0, x1⟩ : wo.cell? ⟨w1.heap.size, 0, none⟩ = some (.slice t.AV t.vec.length t.cv) ∧ wo.cell? ⟨w1.heap.size, 1, none⟩ = some (.slice t.A t.es.length t.c) :=
          ⟨(HBr.out.cell (p := ⟨w1.heap.size, 0, none⟩) lxt0).trans (Hxt_34.out 0 (by simp)), (HBr.out.cell (p := ⟨w1.heap.size, 1, none⟩) lxt0).trans (Hxt_34.out 1 (by simp))⟩
        have lxt : w1.heap.size < wo.heap.size := by omega
        clear hall hne
        go_wp2_with fail
        refine (HV.out _ (Below.refl _ _)).mono ?_
        rintro r u ⟨⟨A7, c7, rfl⟩, hbu⟩
        have HU := Lib.hid hbu
        have hzu := hbu.size
        clear hbu
        go_wp2_with fail
        refine (trees_any _ (HTb.out _ (HB7.out.trans (HU.out.mono (by omega))))).mono ?_
        rintro r u2 ⟨rfl, hbu⟩
        have HU2 := Lib.hid (HU.out.trans (hbu.mono (by omega)))
        clear hbu
        go_wp2_with fail
        go_ret
        exact ⟨rfl, HB7.out.trans (HU2.out.mono (by omega))⟩

end Go.Proofs.YtepkicgnhjaokaaGreatDoor

namespace Go.Proofs.YtepkicgnhjaokaaGreatDoor
open Go.ChangeShapes Go.WideShapes Go.ChangeAt Go.RowKit

theorem Tryz.ownFnCopies : ownKnob Tryz.prog.godebug = none := by kernel_rfl

set_option maxRecDepth 100000 in
theorem fnCopies_lifted (os : Os) (started : os.Started) (H : Type) (enc : TypeId × Value → H) :
    ReturnsInHanded {} Tryz.checked os 7 .any (fun w args => (Rows.fnCopiesSpec.pre enc Tryz.prog Tryz.f7 [] false w args ∧ laidMetH Tryz.prog laid3 w) ∧ sizedMet enc Tryz.prog Tryz.f7 (OpenSpec.ofChange Rows.fnCopiesSpec) false w args)
      (Rows.fnCopiesSpec.post enc Tryz.prog Tryz.f7 false true false false) := by
  refine returnsInHanded_of_change_and (C := Tryz.checked) (X := fun w _ => laidMetH Tryz.prog laid3 w) (fun _ _ _ hh h => h.of_heap hh) Tryz.ownFnCopies started (by kernel_rfl) Tryz.func7
    (ChangeSpec.witness_shaped (enc := enc) (C := Tryz.checked) (os := os) (X := fun w _ => laidMetH Tryz.prog laid3 w) false (World.doorLaid Tryz.prog 24 os) #[.slice none 0 0] 8 rfl (World.shaped_of_RefB (by kernel_rfl) (by kernel_rfl)) (by kernel_rfl) (by kernel_rfl) (by kernel_rfl) (door_met os _)) ?_
  intro W base args ds gs before hval0 hW _ _ hL _
  have hval : ∀ (j : Nat) t v, Tryz.f7.params[j]? = some t → args[j]? = some v → Value.okWide Tryz.prog W .any base t v := hval0
  have hW' := hW
  obtain ⟨p, q, hA0, hV, rfl, _, _⟩ := hW
  have hA : DataW.TrodAll enc Tryz.prog W 0 (fun _ => true) true Tryz.f7.params.toList args.toList ds p := hA0
  rw [Tryz.params7] at hA hval
  obtain ⟨v0, d0, rfl, rfl, h0⟩ := trodAll_one hA
  obtain ⟨rfl, rfl⟩ := trodVars_none hV
  have h0k := h0
  obtain ⟨A, l, c, rfl, hlen, hts⟩ := open_byteS (hval 0 22 v0 rfl rfl) h0
  clear hA0 hval0
  have htab := pow10_of_laid hL
  simp only [List.append_nil] at hW'
  have hlt : ∀ x ∈ p, x.block < W.heap.size := fun x hx => by simpa using hW'.lt x (by simp [hx])
  refine (fnCopies_any A c l W hts hlen htab).mono fun e W' ⟨he, hb⟩ => ?_
  subst he
  exact ⟨_, rfl, _, _, _, [], p, [], hW', trodAll_mk1 (shut_bool Tryz.underlying4 _), trodAll_mk1 (Below.trod Tryz.laidOut (by kernel_rfl) (of_decide_eq_true (by kernel_rfl)) h0k hb hlt), rfl, hb.frame _, fun h => by cases h⟩

theorem fnCopies_holds : Rows.FnCopiesSaid :=
  OpenClaim.holds_of_wide 7 Tryz.f7 rfl rfl rfl rfl rfl rfl rfl ⟨rfl, rfl, rfl, rfl, rfl⟩ rfl rfl rfl rfl rfl (by kernel_rfl) Tryz.func7 (by kernel_rfl)
    (of_decide_eq_true (by kernel_rfl)) (by unfold Func.isWrapper; first | (rw [if_pos (by decide +kernel)]; kernel_rfl) | (rw [if_neg (by decide +kernel)]; exact ⟨rfl, rfl⟩))
    (fun os started H enc _ => fnCopies_lifted os started H enc)

end Go.Proofs.YtepkicgnhjaokaaGreatDoor
