/-
  Several texts in one: Fd, RowFnDrops.
-/
import Derived.Test.YtepkicgnhjaokaaGreatDoorGTx
import Derived.Test.YtepkicgnhjaokaaGreatDoorTh
import Derived.Lib.SlBytesConst
import Derived.Test.YtepkicgnhjaokaaGreatDoorGRow
namespace Go.Proofs.YtepkicgnhjaokaaGreatDoor
open Go.RowKit Go.Maps

theorem dropX {w : World} {t : Tt} (ht : Tx w t) {Ab : Option Addr} {l : List UInt8} {cb : Nat} (hB : BytesIn w 0 w.heap.size Ab l) (hl : l.length ≤ 1048576) : Calls Tryz.prog 12 #[.agg #[.slice t.AV t.vec.length t.cv, .slice t.A t.es.length t.c], .slice Ab l.length cb] w
    fun e w' => ∃ s : Tt, e = .returned (.tuple #[.agg #[.slice s.AV s.vec.length s.cv, .slice s.A s.es.length s.c], .bool (drOk t.vec t.es l)]) ∧ (s.vec = drVec t.vec t.es ∧ s.es = drEs t.vec t.es l ∧ Tx w' s) ∧ Below w.heap.size w w' :=
  (implDrop_any t.AV t.vec t.cv t.A t.es t.c Ab l cb w ht.v ht.e ht.lv ht.le ht.lb hB hl).mono fun _ _ ⟨AV, cv, A, c, he, ho, _, hb⟩ =>
    ⟨⟨AV, cv, _, A, c, _⟩, he, ⟨rfl, rfl, tx_own ho (drVec_len ht.lv) (drEs_len ht.le) (drEs_bulk ht.lb)⟩, hb⟩

set_option maxRecDepth 100000 in
set_option maxHeartbeats 4000000 in
theorem fnDrops_any (A : Option Addr) (c : Nat) (code : List UInt8) (w : World) (hA : BytesIn w 0 w.heap.size A code) (hn : code.length ≤ 9223372036854775807) (htab : Lib.TabIs Tryz.prog w "internal/strconv.uint64pow10" .u64 Lib.pow10Tab) :
    Calls Tryz.prog 4 #[.slice A code.length c] w fun e w' => e = .returned (.bool true) ∧ Below w.heap.size w w' := by
  have HTab := Lib.hid (Lib.tabBelow_of_tabIs htab)
  have HTb := Lib.hid (fun X (h : Below w.heap.size w X) => HTab.out X h)
  have HC := Lib.hid hA
  clear hA htab HTab
  have kc := fun (w : World) (C : Array Value) (n c : Nat) => Lib.run_convert_bytes_const (P := Tryz.prog) w 22 5 C n c Tryz.underlying22 Tryz.underlying5
  go_enter Tryz.func4, Tryz.ntmps4
  go_wp2_with fail
  have Hbel_1 := Lib.hid (Below.refl w.heap.size w)
  refine (drawDrop_any A c code w HC.out hn).mono ?_
  rintro e w1 ⟨t, An, nm, cn, rfl, ht, ⟨hnl, hnb⟩, hb⟩
  have z_2 := hb.size
  have Hbel_3 := Lib.hid (Hbel_1.out.trans (hb.mono (by omega)))
  clear Hbel_1
  have HTt_4 := Lib.hid (ht.tx)
  have HN_5 := Lib.hid (hnb)
  clear hb
  have HL := Lib.hid hnl
  clear ht hnl hnb HC
  go_upto_region 2 with fail
  obtain ⟨W6_0, hW6_0⟩ : ∃ xW, xW = w1.alloc (.cells #[.slice t.AV t.vec.length t.cv, .slice t.A t.es.length t.c] 26) := ⟨_, rfl⟩
  have hZ6_0 : W6_0.heap.size = w1.heap.size + 1 := by rw [hW6_0]; simp
  have hx0 : Bx W6_0 (w1.heap.size) [.slice t.AV t.vec.length t.cv, .slice t.A t.es.length t.c] := by rw [hW6_0]; exact Bx.new' _ _ _ _ rfl
  have hb0 : Below w1.heap.size w1 W6_0 := by rw [hW6_0]; exact ((Below.refl _ _).alloc (by first | exact Nat.le_refl _ | (simp; done) | (simp; omega)) _)
  have hlt : w1.heap.size + 0 < W6_0.heap.size := by omega
  rw [← hW6_0]
  clear hW6_0 hZ6_0
  have z_7 := hb0.size
  have Hbel_8 := Lib.hid (Hbel_3.out.trans (hb0.mono (by omega)))
  have HTt_9 := Lib.hid (HTt_4.out.below hb0)
  have HN_10 := Lib.hid ((HN_5.out.keep fun _ _ h2 => hb0.cell h2).mono hb0.size)
  clear Hbel_3 HTt_4 HN_5
  have Hxt_11 := Lib.hid (hx0)
  clear hb0 hx0
  have hl_12 := hlt
  clear hlt
  have qxt_0 := Hxt_11.out 0 (by simp)
  have qxt_1 := Hxt_11.out 1 (by simp)
  have lxt : w1.heap.size < W6_0.heap.size := by omega
  simp only [List.getElem_cons_succ, List.getElem_cons_zero] at qxt_0 qxt_1
  go_wp2_with fail
  have hP := dropX (cb := cn) HTt_9.out HN_10.out (by have := HL.out; omega)
  obtain ⟨o, ho⟩ : ∃ o, o = drOk t.vec t.es nm := ⟨_, rfl⟩
  rw [← ho] at hP
  have HO := Lib.hid ho
  clear ho
  refine (hP).mono ?_
  rintro e w2 ⟨x, rfl, ⟨hv, he, hx⟩, hb⟩
  clear qxt_0 qxt_1 lxt
  have z_13 := hb.size
  have Hbel_14 := Lib.hid (Hbel_8.out.trans (hb.mono (by omega)))
  have HTt_15 := Lib.hid (HTt_9.out.below hb)
  have HN_16 := Lib.hid ((HN_10.out.keep fun _ _ h2 => hb.cell h2).mono hb.size)
  have Hxt_17 := Lib.hid (Hxt_11.out.below hb (by omega))
  clear Hbel_8 HTt_9 HN_10 Hxt_11
  clear hb
  have HTx_18 := Lib.hid (hx)
  have HEx := Lib.hid (And.intro hv he)
  clear hv he hx hP
  go_upto_region 3 with fail
  obtain ⟨W19_0, hW19_0⟩ : ∃ xW, xW = w2.alloc (.cells #[.slice x.AV x.vec.length x.cv, .slice x.A x.es.length x.c] 26) := ⟨_, rfl⟩
  have hZ19_0 : W19_0.heap.size = w2.heap.size + 1 := by rw [hW19_0]; simp
  have hx0 : Bx W19_0 (w2.heap.size) [.slice x.AV x.vec.length x.cv, .slice x.A x.es.length x.c] := by rw [hW19_0]; exact Bx.new' _ _ _ _ rfl
  have hb0 : Below w2.heap.size w2 W19_0 := by rw [hW19_0]; exact ((Below.refl _ _).alloc (by first | exact Nat.le_refl _ | (simp; done) | (simp; omega)) _)
  have hlt : w2.heap.size + 0 < W19_0.heap.size := by omega
  rw [← hW19_0]
  clear hW19_0 hZ19_0
  have z_20 := hb0.size
  have Hbel_21 := Lib.hid (Hbel_14.out.trans (hb0.mono (by omega)))
  have HTt_22 := Lib.hid (HTt_15.out.below hb0)
  have HN_23 := Lib.hid ((HN_16.out.keep fun _ _ h2 => hb0.cell h2).mono hb0.size)
  have Hxt_24 := Lib.hid (Hxt_17.out.below hb0 (by omega))
  have HTx_25 := Lib.hid (HTx_18.out.below hb0)
  clear Hbel_14 HTt_15 HN_16 Hxt_17 HTx_18
  have Hxx_26 := Lib.hid (hx0)
  clear hb0 hx0
  have hl_27 := hlt
  clear hlt
  cases o with
  | false =>
    have HD := Lib.hid (drops_no HEx.out HO.out.symm)
    by_cases hz : x.vec.length = 0
    · have HZ := Lib.hid hz
      clear hz
      have qxx_0 := Hxx_26.out 0 (by simp)
      have qxx_1 := Hxx_26.out 1 (by simp)
      have lxx : w2.heap.size < W19_0.heap.size := by omega
      simp only [List.getElem_cons_succ, List.getElem_cons_zero] at qxx_0 qxx_1
      rw [HZ.out] at qxx_0
      go_wp2_with fail
      clear qxx_0 qxx_1 lxx
      refine (trees_any _ (HTb.out _ Hbel_21.out)).mono ?_
      rintro e wz ⟨rfl, hbz⟩
      have HBz := Lib.hid (Hbel_21.out.trans (hbz.mono (by omega)))
      clear hbz
      go_wp2_with fail
      go_ret
      exact ⟨rfl, HBz.out⟩
    · have hz' : ¬ (x.vec.length : Int) = 0 := by omega
      have hS : x.vec = t.vec ∧ x.es = t.es := HD.out.resolve_left (fun e => hz (by rw [e]; rfl))
      have HS := Lib.hid hS
      clear hS hz
      have qxx_0 := Hxx_26.out 0 (by simp)
      have qxx_1 := Hxx_26.out 1 (by simp)
      have lxx : w2.heap.size < W19_0.heap.size := by omega
      have qxt_0 := Hxt_24.out 0 (by simp)
      have qxt_1 := Hxt_24.out 1 (by simp)
      have lxt : w1.heap.size < W19_0.heap.size := by omega
      simp only [List.getElem_cons_succ, List.getElem_cons_zero] at qxx_0 qxx_1 qxt_0 qxt_1
      go_wp2_with fail
      refine (sameX_true HTx_25.out HTt_22.out HS.out.1 HS.out.2).mono ?_
      rintro e w3 ⟨rfl, hb⟩
      clear qxx_0 qxx_1 lxx qxt_0 qxt_1 lxt
      have z_28 := hb.size
      have Hbel_29 := Lib.hid (Hbel_21.out.trans (hb.mono (by omega)))
      have HTt_30 := Lib.hid (HTt_22.out.below hb)
      have HN_31 := Lib.hid ((HN_23.out.keep fun _ _ h2 => hb.cell h2).mono hb.size)
      have Hxt_32 := Lib.hid (Hxt_24.out.below hb (by omega))
      have HTx_33 := Lib.hid (HTx_25.out.below hb)
      have Hxx_34 := Lib.hid (Hxx_26.out.below hb (by omega))
      clear Hbel_21 HTt_22 HN_23 Hxt_24 HTx_25 Hxx_26
      clear hb
      go_wp2_with fail
      refine (trees_any _ (HTb.out _ Hbel_29.out)).mono ?_
      rintro e wz ⟨rfl, hbz⟩
      have HBz := Lib.hid (Hbel_29.out.trans (hbz.mono (by omega)))
      clear hbz
      go_wp2_with fail
      go_ret
      exact ⟨rfl, HBz.out⟩
  | true =>
    have HD := Lib.hid (drops_yes HEx.out HO.out.symm)
    have qxx_0 := Hxx_26.out 0 (by simp)
    have qxx_1 := Hxx_26.out 1 (by simp)
    have lxx : w2.heap.size < W19_0.heap.size := by omega
    have qxt_0 := Hxt_24.out 0 (by simp)
    have qxt_1 := Hxt_24.out 1 (by simp)
    have lxt : w1.heap.size < W19_0.heap.size := by omega
    simp only [List.getElem_cons_succ, List.getElem_cons_zero] at qxx_0 qxx_1 qxt_0 qxt_1
    go_wp2_with fail
    have hP := mergeX HTx_25.out HTt_22.out
    rw [HD.out.1.1] at hP
    refine (hP).mono ?_
    rintro e w3 ⟨m, rfl, ⟨hv, he, hx⟩, hb⟩
    clear qxx_0 qxx_1 lxx qxt_0 qxt_1 lxt
    have z_35 := hb.size
    have Hbel_36 := Lib.hid (Hbel_21.out.trans (hb.mono (by omega)))
    have HTt_37 := Lib.hid (HTt_22.out.below hb)
    have HN_38 := Lib.hid ((HN_23.out.keep fun _ _ h2 => hb.cell h2).mono hb.size)
    have Hxt_39 := Lib.hid (Hxt_24.out.below hb (by omega))
    have HTx_40 := Lib.hid (HTx_25.out.below hb)
    have Hxx_41 := Lib.hid (Hxx_26.out.below hb (by omega))
    clear Hbel_21 HTt_22 HN_23 Hxt_24 HTx_25 Hxx_26
    clear hb
    have HTm_42 := Lib.hid (hx)
    have HETm := Lib.hid (And.intro hv he)
    clear hv he hx hP
    go_upto_region 6 with fail
    obtain ⟨W43_0, hW43_0⟩ : ∃ xW, xW = w3.alloc (.cells #[.slice m.AV m.vec.length m.cv, .slice m.A m.es.length m.c] 26) := ⟨_, rfl⟩
    have hZ43_0 : W43_0.heap.size = w3.heap.size + 1 := by rw [hW43_0]; simp
    have hx0 : Bx W43_0 (w3.heap.size) [.slice m.AV m.vec.length m.cv, .slice m.A m.es.length m.c] := by rw [hW43_0]; exact Bx.new' _ _ _ _ rfl
    have hb0 : Below w3.heap.size w3 W43_0 := by rw [hW43_0]; exact ((Below.refl _ _).alloc (by first | exact Nat.le_refl _ | (simp; done) | (simp; omega)) _)
    have hlt : w3.heap.size + 0 < W43_0.heap.size := by omega
    rw [← hW43_0]
    clear hW43_0 hZ43_0
    have z_44 := hb0.size
    have Hbel_45 := Lib.hid (Hbel_36.out.trans (hb0.mono (by omega)))
    have HTt_46 := Lib.hid (HTt_37.out.below hb0)
    have HN_47 := Lib.hid ((HN_38.out.keep fun _ _ h2 => hb0.cell h2).mono hb0.size)
    have Hxt_48 := Lib.hid (Hxt_39.out.below hb0 (by omega))
    have HTx_49 := Lib.hid (HTx_40.out.below hb0)
    have Hxx_50 := Lib.hid (Hxx_41.out.below hb0 (by omega))
    have HTm_51 := Lib.hid (HTm_42.out.below hb0)
    clear Hbel_36 HTt_37 HN_38 Hxt_39 HTx_40 Hxx_41 HTm_42
    have Hxm_52 := Lib.hid (hx0)
    clear hb0 hx0
    have hl_53 := hlt
    clear hlt
    have qxx_0 := Hxx_50.out 0 (by simp)
    have qxx_1 := Hxx_50.out 1 (by simp)
    have lxx : w2.heap.size < W43_0.heap.size := by omega
    simp only [List.getElem_cons_succ, List.getElem_cons_zero] at qxx_0 qxx_1
    go_wp2_with fail
    have hP := dropX (cb := cn) HTx_49.out HN_47.out (by have := HL.out; omega)
    rw [HD.out.2.1] at hP
    refine (hP).mono ?_
    rintro e w4 ⟨y, rfl, ⟨hv, he, hx⟩, hb⟩
    clear qxx_0 qxx_1 lxx
    have z_54 := hb.size
    have Hbel_55 := Lib.hid (Hbel_45.out.trans (hb.mono (by omega)))
    have HTt_56 := Lib.hid (HTt_46.out.below hb)
    have HN_57 := Lib.hid ((HN_47.out.keep fun _ _ h2 => hb.cell h2).mono hb.size)
    have Hxt_58 := Lib.hid (Hxt_48.out.below hb (by omega))
    have HTx_59 := Lib.hid (HTx_49.out.below hb)
    have Hxx_60 := Lib.hid (Hxx_50.out.below hb (by omega))
    have HTm_61 := Lib.hid (HTm_51.out.below hb)
    have Hxm_62 := Lib.hid (Hxm_52.out.below hb (by omega))
    clear Hbel_45 HTt_46 HN_47 Hxt_48 HTx_49 Hxx_50 HTm_51 Hxm_52
    clear hb
    clear hv he hx hP
    go_upto_region 7 with fail
    obtain ⟨W63_0, hW63_0⟩ : ∃ xW, xW = w4.alloc (.cells #[.slice y.AV y.vec.length y.cv, .slice y.A y.es.length y.c] 26) := ⟨_, rfl⟩
    have hZ63_0 : W63_0.heap.size = w4.heap.size + 1 := by rw [hW63_0]; simp
    have hx0 : Bx W63_0 (w4.heap.size) [.slice y.AV y.vec.length y.cv, .slice y.A y.es.length y.c] := by rw [hW63_0]; exact Bx.new' _ _ _ _ rfl
    have hb0 : Below w4.heap.size w4 W63_0 := by rw [hW63_0]; exact ((Below.refl _ _).alloc (by first | exact Nat.le_refl _ | (simp; done) | (simp; omega)) _)
    have hlt : w4.heap.size + 0 < W63_0.heap.size := by omega
    rw [← hW63_0]
    clear hW63_0 hZ63_0
    have z_64 := hb0.size
    have Hbel_65 := Lib.hid (Hbel_55.out.trans (hb0.mono (by omega)))
    have HTt_66 := Lib.hid (HTt_56.out.below hb0)
    have HN_67 := Lib.hid ((HN_57.out.keep fun _ _ h2 => hb0.cell h2).mono hb0.size)
    have Hxt_68 := Lib.hid (Hxt_58.out.below hb0 (by omega))
    have HTx_69 := Lib.hid (HTx_59.out.below hb0)
    have Hxx_70 := Lib.hid (Hxx_60.out.below hb0 (by omega))
    have HTm_71 := Lib.hid (HTm_61.out.below hb0)
    have Hxm_72 := Lib.hid (Hxm_62.out.below hb0 (by omega))
    clear Hbel_55 HTt_56 HN_57 Hxt_58 HTx_59 Hxx_60 HTm_61 Hxm_62
    have Hxy_73 := Lib.hid (hx0)
    clear hb0 hx0
    have hl_74 := hlt
    clear hlt
    have hlt : (x.es.length : Int) < (t.es.length : Int) := by have := HD.out.2.2; omega
    have qxm_0 := Hxm_72.out 0 (by simp)
    have qxm_1 := Hxm_72.out 1 (by simp)
    have lxm : w3.heap.size < W63_0.heap.size := by omega
    have qxx_0 := Hxx_70.out 0 (by simp)
    have qxx_1 := Hxx_70.out 1 (by simp)
    have lxx : w2.heap.size < W63_0.heap.size := by omega
    simp only [List.getElem_cons_succ, List.getElem_cons_zero] at qxm_0 qxm_1 qxx_0 qxx_1
    go_wp2_with fail
    refine (sameX_true HTm_71.out HTx_69.out (HETm.out.1.trans HD.out.1.2.1) (HETm.out.2.trans HD.out.1.2.2)).mono ?_
    rintro e w5 ⟨rfl, hb⟩
    clear qxm_0 qxm_1 lxm qxx_0 qxx_1 lxx
    have z_75 := hb.size
    have Hbel_76 := Lib.hid (Hbel_65.out.trans (hb.mono (by omega)))
    have HTt_77 := Lib.hid (HTt_66.out.below hb)
    have HN_78 := Lib.hid ((HN_67.out.keep fun _ _ h2 => hb.cell h2).mono hb.size)
    have Hxt_79 := Lib.hid (Hxt_68.out.below hb (by omega))
    have HTx_80 := Lib.hid (HTx_69.out.below hb)
    have Hxx_81 := Lib.hid (Hxx_70.out.below hb (by omega))
    have HTm_82 := Lib.hid (HTm_71.out.below hb)
    have Hxm_83 := Lib.hid (Hxm_72.out.below hb (by omega))
    have Hxy_84 := Lib.hid (Hxy_73.out.below hb (by omega))
    clear Hbel_65 HTt_66 HN_67 Hxt_68 HTx_69 Hxx_70 HTm_71 Hxm_72 Hxy_73
    clear hb
    have qxx_0 := Hxx_81.out 0 (by simp)
    have qxx_1 := Hxx_81.out 1 (by simp)
    have lxx : w2.heap.size < w5.heap.size := by omega
    have qxt_0 := Hxt_79.out 0 (by simp)
    have qxt_1 := Hxt_79.out 1 (by simp)
    have lxt : w1.heap.size < w5.heap.size := by omega
    simp only [List.getElem_cons_succ, List.getElem_cons_zero] at qxx_0 qxx_1 qxt_0 qxt_1
    go_wp2_with fail
    clear qxx_0 qxx_1 lxx qxt_0 qxt_1 lxt
    refine (trees_any _ (HTb.out _ Hbel_76.out)).mono ?_
    rintro e wz ⟨rfl, hbz⟩
    have HBz := Lib.hid (Hbel_76.out.trans (hbz.mono (by omega)))
    clear hbz
    go_wp2_with fail
    go_ret
    exact ⟨rfl, HBz.out⟩

end Go.Proofs.YtepkicgnhjaokaaGreatDoor

namespace Go.Proofs.YtepkicgnhjaokaaGreatDoor
open Go.ChangeShapes Go.WideShapes Go.ChangeAt Go.RowKit

theorem Tryz.ownFnDrops : ownKnob Tryz.prog.godebug = none := by kernel_rfl

set_option maxRecDepth 100000 in
theorem fnDrops_lifted (os : Os) (started : os.Started) (H : Type) (enc : TypeId × Value → H) :
    ReturnsInHanded {} Tryz.checked os 4 .any (fun w args => (Rows.fnDropsSpec.pre enc Tryz.prog Tryz.f4 [] false w args ∧ laidMetH Tryz.prog laid3 w) ∧ sizedMet enc Tryz.prog Tryz.f4 (OpenSpec.ofChange Rows.fnDropsSpec) false w args)
      (Rows.fnDropsSpec.post enc Tryz.prog Tryz.f4 false true false false) := by
  refine returnsInHanded_of_change_and (C := Tryz.checked) (X := fun w _ => laidMetH Tryz.prog laid3 w) (fun _ _ _ hh h => h.of_heap hh) Tryz.ownFnDrops started (by kernel_rfl) Tryz.func4
    (ChangeSpec.witness_shaped (enc := enc) (C := Tryz.checked) (os := os) (X := fun w _ => laidMetH Tryz.prog laid3 w) false (World.doorLaid Tryz.prog 24 os) #[.slice none 0 0] 8 rfl (World.shaped_of_RefB (by kernel_rfl) (by kernel_rfl)) (by kernel_rfl) (by kernel_rfl) (by kernel_rfl) (door_met os _)) ?_
  intro W base args ds gs before hval0 hW _ _ hL _
  have hval : ∀ (j : Nat) t v, Tryz.f4.params[j]? = some t → args[j]? = some v → Value.okWide Tryz.prog W .any base t v := hval0
  have hW' := hW
  obtain ⟨p, q, hA0, hV, rfl, _, _⟩ := hW
  have hA : DataW.TrodAll enc Tryz.prog W 0 (fun _ => true) true Tryz.f4.params.toList args.toList ds p := hA0
  rw [Tryz.params4] at hA hval
  obtain ⟨v0, d0, rfl, rfl, h0⟩ := trodAll_one hA
  obtain ⟨rfl, rfl⟩ := trodVars_none hV
  have h0k := h0
  obtain ⟨A, l, c, rfl, hlen, hts⟩ := open_byteS (hval 0 22 v0 rfl rfl) h0
  clear hA0 hval0
  have htab := pow10_of_laid hL
  simp only [List.append_nil] at hW'
  have hlt : ∀ x ∈ p, x.block < W.heap.size := fun x hx => by simpa using hW'.lt x (by simp [hx])
  refine (fnDrops_any A c l W hts hlen htab).mono fun e W' ⟨he, hb⟩ => ?_
  subst he
  exact ⟨_, rfl, _, _, _, [], p, [], hW', trodAll_mk1 (shut_bool Tryz.underlying4 _), trodAll_mk1 (Below.trod Tryz.laidOut (by kernel_rfl) (of_decide_eq_true (by kernel_rfl)) h0k hb hlt), rfl, hb.frame _, fun h => by cases h⟩

theorem fnDrops_holds : Rows.FnDropsSaid :=
  OpenClaim.holds_of_wide 4 Tryz.f4 rfl rfl rfl rfl rfl rfl rfl ⟨rfl, rfl, rfl, rfl, rfl⟩ rfl rfl rfl rfl rfl (by kernel_rfl) Tryz.func4 (by kernel_rfl)
    (of_decide_eq_true (by kernel_rfl)) (by unfold Func.isWrapper; first | (rw [if_pos (by decide +kernel)]; kernel_rfl) | (rw [if_neg (by decide +kernel)]; exact ⟨rfl, rfl⟩))
    (fun os started H enc _ => fnDrops_lifted os started H enc)

end Go.Proofs.YtepkicgnhjaokaaGreatDoor
