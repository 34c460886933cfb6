/-
  Several texts in one: Fb, RowFnMerges.
-/
import Derived.Test.YtepkicgnhjaokaaGreatDoorGTy
import Derived.Deep.RegionHeld3
import Derived.Lib.SlBytesConst
import Derived.Test.YtepkicgnhjaokaaGreatDoorGRow
namespace Go.Proofs.YtepkicgnhjaokaaGreatDoor
open Go.RowKit Go.Maps

set_option maxRecDepth 100000 in
set_option maxHeartbeats 4000000 in
theorem fnMerges_any (A : Option Addr) (c : Nat) (code : List UInt8) (w : World) (hA : BytesIn w 0 w.heap.size A code) (hn : code.length ≤ 9223372036854775807) (htab : Lib.TabIs Tryz.prog w "internal/strconv.uint64pow10" .u64 Lib.pow10Tab) :
    Calls Tryz.prog 5 #[.slice A code.length c] w fun e w' => e = .returned (.bool true) ∧ Below w.heap.size w w' := by
  have HTab := Lib.hid (Lib.tabBelow_of_tabIs htab)
  have HTb := Lib.hid (fun X (h : Below w.heap.size w X) => HTab.out X h)
  have HC := Lib.hid hA
  clear hA htab HTab
  have kc := fun (w : World) (C : Array Value) (n c : Nat) => Lib.run_convert_bytes_const (P := Tryz.prog) w 22 5 C n c Tryz.underlying22 Tryz.underlying5
  go_enter Tryz.func5, Tryz.ntmps5
  go_wp2_with fail
  have Hbel_1 := Lib.hid (Below.refl w.heap.size w)
  refine (drawMerge_any A c code w HC.out hn).mono ?_
  rintro e w1 ⟨a, b, rfl, ht, hu, hb⟩
  have z_2 := hb.size
  have Hbel_3 := Lib.hid (Hbel_1.out.trans (hb.mono (by omega)))
  clear Hbel_1
  have HTa_4 := Lib.hid (ht.tx)
  have HTb_5 := Lib.hid (hu.tx)
  clear hb
  clear ht hu HC
  go_upto_region 2 with fail
  obtain ⟨W6_0, hW6_0⟩ : ∃ xW, xW = w1.alloc (.cells #[.slice a.AV a.vec.length a.cv, .slice a.A a.es.length a.c] 26) := ⟨_, rfl⟩
  obtain ⟨W6_1, hW6_1⟩ : ∃ xW, xW = W6_0.alloc (.cells #[.slice b.AV b.vec.length b.cv, .slice b.A b.es.length b.c] 26) := ⟨_, rfl⟩
  have hZ6_0 : W6_0.heap.size = w1.heap.size + 1 := by rw [hW6_0]; simp
  have hZ6_1 : W6_1.heap.size = w1.heap.size + 2 := by rw [hW6_1]; simp [hZ6_0]
  have hx0 : Bx W6_0 (w1.heap.size) [.slice a.AV a.vec.length a.cv, .slice a.A a.es.length a.c] := by rw [hW6_0]; exact Bx.new' _ _ _ _ rfl
  replace hx0 : Bx W6_1 (w1.heap.size) [.slice a.AV a.vec.length a.cv, .slice a.A a.es.length a.c] := by rw [hW6_1]; exact hx0.alloc (by omega) _
  have hx1 : Bx W6_1 (w1.heap.size + 1) [.slice b.AV b.vec.length b.cv, .slice b.A b.es.length b.c] := by rw [hW6_1, ← hZ6_0]; exact Bx.new' _ _ _ _ rfl
  have hb0 : Below w1.heap.size w1 W6_1 := by rw [hW6_1, hW6_0]; exact (((Below.refl _ _).alloc (by first | exact Nat.le_refl _ | (simp; done) | (simp; omega)) _).alloc (by first | exact Nat.le_refl _ | (simp; done) | (simp; omega)) _)
  have hlt : w1.heap.size + 1 < W6_1.heap.size := by omega
  rw [← hW6_0, ← hW6_1]
  clear hW6_0 hZ6_0 hW6_1 hZ6_1
  have z_7 := hb0.size
  have Hbel_8 := Lib.hid (Hbel_3.out.trans (hb0.mono (by omega)))
  have HTa_9 := Lib.hid (HTa_4.out.below hb0)
  have HTb_10 := Lib.hid (HTb_5.out.below hb0)
  clear Hbel_3 HTa_4 HTb_5
  have Hxa_11 := Lib.hid (hx0)
  have Hxb_12 := Lib.hid (hx1)
  clear hb0 hx0 hx1
  have hl_13 := hlt
  clear hlt
  have qxa_0 := Hxa_11.out 0 (by simp)
  have qxa_1 := Hxa_11.out 1 (by simp)
  have lxa : w1.heap.size < W6_1.heap.size := by omega
  have qxb_0 := Hxb_12.out 0 (by simp)
  have qxb_1 := Hxb_12.out 1 (by simp)
  have lxb : w1.heap.size + 1 < W6_1.heap.size := by omega
  simp only [List.getElem_cons_succ, List.getElem_cons_zero] at qxa_0 qxa_1 qxb_0 qxb_1
  go_wp2_with fail
  have hP := mergeX HTa_9.out HTb_10.out
  obtain ⟨o, ho⟩ : ∃ o, o = mgOk a.vec a.es b.vec b.es := ⟨_, rfl⟩
  rw [← ho] at hP
  have HOo := Lib.hid ho
  clear ho
  refine (hP).mono ?_
  rintro e w2 ⟨x, rfl, ⟨hv, he, hx⟩, hb⟩
  clear qxa_0 qxa_1 lxa qxb_0 qxb_1 lxb
  have z_14 := hb.size
  have Hbel_15 := Lib.hid (Hbel_8.out.trans (hb.mono (by omega)))
  have HTa_16 := Lib.hid (HTa_9.out.below hb)
  have HTb_17 := Lib.hid (HTb_10.out.below hb)
  have Hxa_18 := Lib.hid (Hxa_11.out.below hb (by omega))
  have Hxb_19 := Lib.hid (Hxb_12.out.below hb (by omega))
  clear Hbel_8 HTa_9 HTb_10 Hxa_11 Hxb_12
  clear hb
  have HTx_20 := Lib.hid (hx)
  have HETx := Lib.hid (And.intro hv he)
  clear hv he hx hP
  go_upto_region 3 with fail
  obtain ⟨W21_0, hW21_0⟩ : ∃ xW, xW = w2.alloc (.cells #[.slice x.AV x.vec.length x.cv, .slice x.A x.es.length x.c] 26) := ⟨_, rfl⟩
  have hZ21_0 : W21_0.heap.size = w2.heap.size + 1 := by rw [hW21_0]; simp
  have hx0 : Bx W21_0 (w2.heap.size) [.slice x.AV x.vec.length x.cv, .slice x.A x.es.length x.c] := by rw [hW21_0]; exact Bx.new' _ _ _ _ rfl
  have hb0 : Below w2.heap.size w2 W21_0 := by rw [hW21_0]; exact ((Below.refl _ _).alloc (by first | exact Nat.le_refl _ | (simp; done) | (simp; omega)) _)
  have hlt : w2.heap.size + 0 < W21_0.heap.size := by omega
  rw [← hW21_0]
  clear hW21_0 hZ21_0
  have z_22 := hb0.size
  have Hbel_23 := Lib.hid (Hbel_15.out.trans (hb0.mono (by omega)))
  have HTa_24 := Lib.hid (HTa_16.out.below hb0)
  have HTb_25 := Lib.hid (HTb_17.out.below hb0)
  have Hxa_26 := Lib.hid (Hxa_18.out.below hb0 (by omega))
  have Hxb_27 := Lib.hid (Hxb_19.out.below hb0 (by omega))
  have HTx_28 := Lib.hid (HTx_20.out.below hb0)
  clear Hbel_15 HTa_16 HTb_17 Hxa_18 Hxb_19 HTx_20
  have Hxx_29 := Lib.hid (hx0)
  clear hb0 hx0
  have hl_30 := hlt
  clear hlt
  have qxa_0 := Hxa_26.out 0 (by simp)
  have qxa_1 := Hxa_26.out 1 (by simp)
  have lxa : w1.heap.size < W21_0.heap.size := by omega
  have qxb_0 := Hxb_27.out 0 (by simp)
  have qxb_1 := Hxb_27.out 1 (by simp)
  have lxb : w1.heap.size + 1 < W21_0.heap.size := by omega
  simp only [List.getElem_cons_succ, List.getElem_cons_zero] at qxa_0 qxa_1 qxb_0 qxb_1
  go_wp2_with fail
  have hP := mergeX HTb_25.out HTa_24.out
  rw [mgOk_comm, ← HOo.out] at hP
  refine (hP).mono ?_
  rintro e w3 ⟨y, rfl, ⟨hv, he, hx⟩, hb⟩
  clear qxa_0 qxa_1 lxa qxb_0 qxb_1 lxb
  have z_31 := hb.size
  have Hbel_32 := Lib.hid (Hbel_23.out.trans (hb.mono (by omega)))
  have HTa_33 := Lib.hid (HTa_24.out.below hb)
  have HTb_34 := Lib.hid (HTb_25.out.below hb)
  have Hxa_35 := Lib.hid (Hxa_26.out.below hb (by omega))
  have Hxb_36 := Lib.hid (Hxb_27.out.below hb (by omega))
  have HTx_37 := Lib.hid (HTx_28.out.below hb)
  have Hxx_38 := Lib.hid (Hxx_29.out.below hb (by omega))
  clear Hbel_23 HTa_24 HTb_25 Hxa_26 Hxb_27 HTx_28 Hxx_29
  clear hb
  have HTy_39 := Lib.hid (hx)
  have HETy := Lib.hid (And.intro hv he)
  clear hv he hx hP
  go_upto_region 4 with fail
  obtain ⟨W40_0, hW40_0⟩ : ∃ xW, xW = w3.alloc (.cells #[.slice y.AV y.vec.length y.cv, .slice y.A y.es.length y.c] 26) := ⟨_, rfl⟩
  have hZ40_0 : W40_0.heap.size = w3.heap.size + 1 := by rw [hW40_0]; simp
  have hx0 : Bx W40_0 (w3.heap.size) [.slice y.AV y.vec.length y.cv, .slice y.A y.es.length y.c] := by rw [hW40_0]; exact Bx.new' _ _ _ _ rfl
  have hb0 : Below w3.heap.size w3 W40_0 := by rw [hW40_0]; exact ((Below.refl _ _).alloc (by first | exact Nat.le_refl _ | (simp; done) | (simp; omega)) _)
  have hlt : w3.heap.size + 0 < W40_0.heap.size := by omega
  rw [← hW40_0]
  clear hW40_0 hZ40_0
  have z_41 := hb0.size
  have Hbel_42 := Lib.hid (Hbel_32.out.trans (hb0.mono (by omega)))
  have HTa_43 := Lib.hid (HTa_33.out.below hb0)
  have HTb_44 := Lib.hid (HTb_34.out.below hb0)
  have Hxa_45 := Lib.hid (Hxa_35.out.below hb0 (by omega))
  have Hxb_46 := Lib.hid (Hxb_36.out.below hb0 (by omega))
  have HTx_47 := Lib.hid (HTx_37.out.below hb0)
  have Hxx_48 := Lib.hid (Hxx_38.out.below hb0 (by omega))
  have HTy_49 := Lib.hid (HTy_39.out.below hb0)
  clear Hbel_32 HTa_33 HTb_34 Hxa_35 Hxb_36 HTx_37 Hxx_38 HTy_39
  have Hxy_50 := Lib.hid (hx0)
  clear hb0 hx0
  have hl_51 := hlt
  clear hlt
  cases o with
  | false =>
    obtain ⟨_, hx0, hy0⟩ := merges_no HETx.out HETy.out HOo.out.symm
    have qxx_0 := Hxx_48.out 0 (by simp)
    have qxx_1 := Hxx_48.out 1 (by simp)
    have lxx : w2.heap.size < W40_0.heap.size := by omega
    have qxy_0 := Hxy_50.out 0 (by simp)
    have qxy_1 := Hxy_50.out 1 (by simp)
    have lxy : w3.heap.size < W40_0.heap.size := by omega
    simp only [List.getElem_cons_succ, List.getElem_cons_zero] at qxx_0 qxx_1 qxy_0 qxy_1
    rw [hx0] at qxx_0
    rw [hy0] at qxy_0
    simp only [List.length_nil] at qxx_0 qxy_0
    clear hx0 hy0
    go_wp2_with fail
    clear qxx_0 qxx_1 lxx qxy_0 qxy_1 lxy
    refine (trees_any _ (HTb.out _ Hbel_42.out)).mono ?_
    rintro e wz ⟨rfl, hbz⟩
    have HBz := Lib.hid (Hbel_42.out.trans (hbz.mono (by omega)))
    clear hbz
    go_wp2_with fail
    go_ret
    exact ⟨rfl, HBz.out⟩
  | true =>
    have hM := merges_yes HETx.out HETy.out HOo.out.symm
    have HM := Lib.hid hM
    clear hM
    have qxx_0 := Hxx_48.out 0 (by simp)
    have qxx_1 := Hxx_48.out 1 (by simp)
    have lxx : w2.heap.size < W40_0.heap.size := by omega
    have qxa_0 := Hxa_45.out 0 (by simp)
    have qxa_1 := Hxa_45.out 1 (by simp)
    have lxa : w1.heap.size < W40_0.heap.size := by omega
    simp only [List.getElem_cons_succ, List.getElem_cons_zero] at qxx_0 qxx_1 qxa_0 qxa_1
    go_wp2_with fail
    have hP := mergeX HTx_47.out HTa_43.out
    rw [HM.out.2.2.2.2.1.1] at hP
    refine (hP).mono ?_
    rintro e w4 ⟨z, rfl, ⟨hv, he, hx⟩, hb⟩
    clear qxx_0 qxx_1 lxx qxa_0 qxa_1 lxa
    have z_52 := hb.size
    have Hbel_53 := Lib.hid (Hbel_42.out.trans (hb.mono (by omega)))
    have HTa_54 := Lib.hid (HTa_43.out.below hb)
    have HTb_55 := Lib.hid (HTb_44.out.below hb)
    have Hxa_56 := Lib.hid (Hxa_45.out.below hb (by omega))
    have Hxb_57 := Lib.hid (Hxb_46.out.below hb (by omega))
    have HTx_58 := Lib.hid (HTx_47.out.below hb)
    have Hxx_59 := Lib.hid (Hxx_48.out.below hb (by omega))
    have HTy_60 := Lib.hid (HTy_49.out.below hb)
    have Hxy_61 := Lib.hid (Hxy_50.out.below hb (by omega))
    clear Hbel_42 HTa_43 HTb_44 Hxa_45 Hxb_46 HTx_47 Hxx_48 HTy_49 Hxy_50
    clear hb
    have HTz_62 := Lib.hid (hx)
    have HETz := Lib.hid (And.intro hv he)
    clear hv he hx hP
    go_upto_region 9 with fail
    obtain ⟨W63_0, hW63_0⟩ : ∃ xW, xW = w4.alloc (.cells #[.slice z.AV z.vec.length z.cv, .slice z.A z.es.length z.c] 26) := ⟨_, rfl⟩
    have hZ63_0 : W63_0.heap.size = w4.heap.size + 1 := by rw [hW63_0]; simp
    have hx0 : Bx W63_0 (w4.heap.size) [.slice z.AV z.vec.length z.cv, .slice z.A z.es.length z.c] := by rw [hW63_0]; exact Bx.new' _ _ _ _ rfl
    have hb0 : Below w4.heap.size w4 W63_0 := by rw [hW63_0]; exact ((Below.refl _ _).alloc (by first | exact Nat.le_refl _ | (simp; done) | (simp; omega)) _)
    have hlt : w4.heap.size + 0 < W63_0.heap.size := by omega
    rw [← hW63_0]
    clear hW63_0 hZ63_0
    have z_64 := hb0.size
    have Hbel_65 := Lib.hid (Hbel_53.out.trans (hb0.mono (by omega)))
    have HTa_66 := Lib.hid (HTa_54.out.below hb0)
    have HTb_67 := Lib.hid (HTb_55.out.below hb0)
    have Hxa_68 := Lib.hid (Hxa_56.out.below hb0 (by omega))
    have Hxb_69 := Lib.hid (Hxb_57.out.below hb0 (by omega))
    have HTx_70 := Lib.hid (HTx_58.out.below hb0)
    have Hxx_71 := Lib.hid (Hxx_59.out.below hb0 (by omega))
    have HTy_72 := Lib.hid (HTy_60.out.below hb0)
    have Hxy_73 := Lib.hid (Hxy_61.out.below hb0 (by omega))
    have HTz_74 := Lib.hid (HTz_62.out.below hb0)
    clear Hbel_53 HTa_54 HTb_55 Hxa_56 Hxb_57 HTx_58 Hxx_59 HTy_60 Hxy_61 HTz_62
    have Hxz_75 := Lib.hid (hx0)
    clear hb0 hx0
    have hl_76 := hlt
    clear hlt
    have qxa_0 := Hxa_68.out 0 (by simp)
    have qxa_1 := Hxa_68.out 1 (by simp)
    have lxa : w1.heap.size < W63_0.heap.size := by omega
    simp only [List.getElem_cons_succ, List.getElem_cons_zero] at qxa_0 qxa_1
    go_wp2_with fail
    have hP := mergeX HTa_66.out HTa_66.out
    rw [HM.out.2.2.2.2.2.1] at hP
    refine (hP).mono ?_
    rintro e w5 ⟨s, rfl, ⟨hv, he, hx⟩, hb⟩
    clear qxa_0 qxa_1 lxa
    have z_77 := hb.size
    have Hbel_78 := Lib.hid (Hbel_65.out.trans (hb.mono (by omega)))
    have HTa_79 := Lib.hid (HTa_66.out.below hb)
    have HTb_80 := Lib.hid (HTb_67.out.below hb)
    have Hxa_81 := Lib.hid (Hxa_68.out.below hb (by omega))
    have Hxb_82 := Lib.hid (Hxb_69.out.below hb (by omega))
    have HTx_83 := Lib.hid (HTx_70.out.below hb)
    have Hxx_84 := Lib.hid (Hxx_71.out.below hb (by omega))
    have HTy_85 := Lib.hid (HTy_72.out.below hb)
    have Hxy_86 := Lib.hid (Hxy_73.out.below hb (by omega))
    have HTz_87 := Lib.hid (HTz_74.out.below hb)
    have Hxz_88 := Lib.hid (Hxz_75.out.below hb (by omega))
    clear Hbel_65 HTa_66 HTb_67 Hxa_68 Hxb_69 HTx_70 Hxx_71 HTy_72 Hxy_73 HTz_74 Hxz_75
    clear hb
    have HTs_89 := Lib.hid (hx)
    have HETs := Lib.hid (And.intro hv he)
    clear hv he hx hP
    go_upto_region 10 with fail
    obtain ⟨W90_0, hW90_0⟩ : ∃ xW, xW = w5.alloc (.cells #[.slice s.AV s.vec.length s.cv, .slice s.A s.es.length s.c] 26) := ⟨_, rfl⟩
    have hZ90_0 : W90_0.heap.size = w5.heap.size + 1 := by rw [hW90_0]; simp
    have hx0 : Bx W90_0 (w5.heap.size) [.slice s.AV s.vec.length s.cv, .slice s.A s.es.length s.c] := by rw [hW90_0]; exact Bx.new' _ _ _ _ rfl
    have hb0 : Below w5.heap.size w5 W90_0 := by rw [hW90_0]; exact ((Below.refl _ _).alloc (by first | exact Nat.le_refl _ | (simp; done) | (simp; omega)) _)
    have hlt : w5.heap.size + 0 < W90_0.heap.size := by omega
    rw [← hW90_0]
    clear hW90_0 hZ90_0
    have z_91 := hb0.size
    have Hbel_92 := Lib.hid (Hbel_78.out.trans (hb0.mono (by omega)))
    have HTa_93 := Lib.hid (HTa_79.out.below hb0)
    have HTb_94 := Lib.hid (HTb_80.out.below hb0)
    have Hxa_95 := Lib.hid (Hxa_81.out.below hb0 (by omega))
    have Hxb_96 := Lib.hid (Hxb_82.out.below hb0 (by omega))
    have HTx_97 := Lib.hid (HTx_83.out.below hb0)
    have Hxx_98 := Lib.hid (Hxx_84.out.below hb0 (by omega))
    have HTy_99 := Lib.hid (HTy_85.out.below hb0)
    have Hxy_100 := Lib.hid (Hxy_86.out.below hb0 (by omega))
    have HTz_101 := Lib.hid (HTz_87.out.below hb0)
    have Hxz_102 := Lib.hid (Hxz_88.out.below hb0 (by omega))
    have HTs_103 := Lib.hid (HTs_89.out.below hb0)
    clear Hbel_78 HTa_79 HTb_80 Hxa_81 Hxb_82 HTx_83 Hxx_84 HTy_85 Hxy_86 HTz_87 Hxz_88 HTs_89
    have Hxs_104 := Lib.hid (hx0)
    clear hb0 hx0
    have hl_105 := hlt
    clear hlt
    have HS := Lib.hid (show ∀ X, Below W90_0.heap.size W90_0 X → X.cell? ⟨w1.heap.size, 0, none⟩ = some (.slice a.AV a.vec.length a.cv) ∧ X.cell? ⟨w1.heap.size, 1, none⟩ = some (.slice a.A a.es.length a.c) ∧ X.cell? ⟨w1.heap.size + 1, 0, none⟩ = some (.slice b.AV b.vec.length b.cv) ∧ X.cell? ⟨w1.heap.size + 1, 1, none⟩ = some (.slice b.A b.es.length b.c) ∧ X.cell? ⟨w2.heap.size, 0, none⟩ = some (.slice x.AV x.vec.length x.cv) ∧ X.cell? ⟨w2.heap.size, 1, none⟩ = some (.slice x.A x.es.length x.c) ∧ X.cell? ⟨w3.heap.size, 0, none⟩ = some (.slice y.AV y.vec.length y.cv) ∧ X.cell? ⟨w3.heap.size, 1, none⟩ = some (.slice y.A y.es.length y.c) ∧ X.cell? ⟨w4.heap.size, 0, none⟩ = some (.slice z.AV z.vec.length z.cv) ∧ X.cell? ⟨w4.heap.size, 1, none⟩ = some (.slice z.A z.es.length z.c) ∧ X.cell? ⟨w5.heap.size, 0, none⟩ = some (.slice s.AV s.vec.length s.cv) ∧ X.cell? ⟨w5.heap.size, 1, none⟩ = some (.slice s.A s.es.length s.c) from fun X hX => ⟨(hX.cell (p := ⟨w1.heap.size, 0, none⟩) (by show w1.heap.size < _; omega)).trans (Hxa_95.out 0 (by simp)), (hX.cell (p := ⟨w1.heap.size, 1, none⟩) (by show w1.heap.size < _; omega)).trans (Hxa_95.out 1 (by simp)), (hX.cell (p := ⟨w1.heap.size + 1, 0, none⟩) (by show w1.heap.size + 1 < _; omega)).trans (Hxb_96.out 0 (by simp)), (hX.cell (p := ⟨w1.heap.size + 1, 1, none⟩) (by show w1.heap.size + 1 < _; omega)).trans (Hxb_96.out 1 (by simp)), (hX.cell (p := ⟨w2.heap.size, 0, none⟩) (by show w2.heap.size < _; omega)).trans (Hxx_98.out 0 (by simp)), (hX.cell (p := ⟨w2.heap.size, 1, none⟩) (by show w2.heap.size < _; omega)).trans (Hxx_98.out 1 (by simp)), (hX.cell (p := ⟨w3.heap.size, 0, none⟩) (by show w3.heap.size < _; omega)).trans (Hxy_100.out 0 (by simp)), (hX.cell (p := ⟨w3.heap.size, 1, none⟩) (by show w3.heap.size < _; omega)).trans (Hxy_100.out 1 (by simp)), (hX.cell (p := ⟨w4.heap.size, 0, none⟩) (by show w4.heap.size < _; omega)).trans (Hxz_102.out 0 (by simp)), (hX.cell (p := ⟨w4.heap.size, 1, none⟩) (by show w4.heap.size < _; omega)).trans (Hxz_102.out 1 (by simp)), (hX.cell (p := ⟨w5.heap.size, 0, none⟩) (by show w5.heap.size < _; omega)).trans (Hxs_104.out 0 (by simp)), (hX.cell (p := ⟨w5.heap.size, 1, none⟩) (by show w5.heap.size < _; omega)).trans (Hxs_104.out 1 (by simp))⟩)
    have HU := Lib.hid (Below.refl W90_0.heap.size W90_0)
    have lxa : w1.heap.size < W90_0.heap.size := by omega
    have lxb : w1.heap.size + 1 < W90_0.heap.size := by omega
    have lxx : w2.heap.size < W90_0.heap.size := by omega
    have lxy : w3.heap.size < W90_0.heap.size := by omega
    have lxz : w4.heap.size < W90_0.heap.size := by omega
    have lxs : w5.heap.size < W90_0.heap.size := by omega
    go_upto_region 10 with fail
    go_region_held3 (fun X => X.cell? ⟨w1.heap.size, 0, none⟩ = some (.slice a.AV a.vec.length a.cv) ∧ X.cell? ⟨w1.heap.size, 1, none⟩ = some (.slice a.A a.es.length a.c) ∧ X.cell? ⟨w1.heap.size + 1, 0, none⟩ = some (.slice b.AV b.vec.length b.cv) ∧ X.cell? ⟨w1.heap.size + 1, 1, none⟩ = some (.slice b.A b.es.length b.c) ∧ X.cell? ⟨w2.heap.size, 0, none⟩ = some (.slice x.AV x.vec.length x.cv) ∧ X.cell? ⟨w2.heap.size, 1, none⟩ = some (.slice x.A x.es.length x.c) ∧ X.cell? ⟨w3.heap.size, 0, none⟩ = some (.slice y.AV y.vec.length y.cv) ∧ X.cell? ⟨w3.heap.size, 1, none⟩ = some (.slice y.A y.es.length y.c) ∧ X.cell? ⟨w4.heap.size, 0, none⟩ = some (.slice z.AV z.vec.length z.cv) ∧ X.cell? ⟨w4.heap.size, 1, none⟩ = some (.slice z.A z.es.length z.c) ∧ X.cell? ⟨w5.heap.size, 0, none⟩ = some (.slice s.AV s.vec.length s.cv) ∧ X.cell? ⟨w5.heap.size, 1, none⟩ = some (.slice s.A s.es.length s.c))
      ((refine HS.out _ ?_; repeat first | with_reducible exact HU.out | with_reducible apply Below.drew))
      (first
        | (go_at_call 18
           with_reducible refine (sameX_true (HTx_97.out.below (show Below W90_0.heap.size W90_0 _ from (by repeat first | with_reducible exact HU.out | with_reducible apply Below.drew))) (HTy_99.out.below (show Below W90_0.heap.size W90_0 _ from (by repeat first | with_reducible exact HU.out | with_reducible apply Below.drew))) HM.out.2.1.1 HM.out.2.1.2).mono ?_
           rintro r u ⟨rfl, hbu⟩
           replace HU := Lib.hid (Below.trans (show Below W90_0.heap.size W90_0 _ from (by repeat first | with_reducible exact HU.out | with_reducible apply Below.drew)) (hbu.mono (Below.size (show Below W90_0.heap.size W90_0 _ from (by repeat first | with_reducible exact HU.out | with_reducible apply Below.drew)))))
           clear hbu)
        | (go_at_call 18
           with_reducible refine (sameX_true (HTz_101.out.below (show Below W90_0.heap.size W90_0 _ from (by repeat first | with_reducible exact HU.out | with_reducible apply Below.drew))) (HTx_97.out.below (show Below W90_0.heap.size W90_0 _ from (by repeat first | with_reducible exact HU.out | with_reducible apply Below.drew))) (HETz.out.1.trans HM.out.2.2.2.2.1.2.1) (HETz.out.2.trans HM.out.2.2.2.2.1.2.2)).mono ?_
           rintro r u ⟨rfl, hbu⟩
           replace HU := Lib.hid (Below.trans (show Below W90_0.heap.size W90_0 _ from (by repeat first | with_reducible exact HU.out | with_reducible apply Below.drew)) (hbu.mono (Below.size (show Below W90_0.heap.size W90_0 _ from (by repeat first | with_reducible exact HU.out | with_reducible apply Below.drew)))))
           clear hbu)
        | (go_at_call 18
           with_reducible refine (sameX_true (HTs_103.out.below (show Below W90_0.heap.size W90_0 _ from (by repeat first | with_reducible exact HU.out | with_reducible apply Below.drew))) (HTa_93.out.below (show Below W90_0.heap.size W90_0 _ from (by repeat first | with_reducible exact HU.out | with_reducible apply Below.drew))) (HETs.out.1.trans HM.out.2.2.2.2.2.2.1) (HETs.out.2.trans HM.out.2.2.2.2.2.2.2)).mono ?_
           rintro r u ⟨rfl, hbu⟩
           replace HU := Lib.hid (Below.trans (show Below W90_0.heap.size W90_0 _ from (by repeat first | with_reducible exact HU.out | with_reducible apply Below.drew)) (hbu.mono (Below.size (show Below W90_0.heap.size W90_0 _ from (by repeat first | with_reducible exact HU.out | with_reducible apply Below.drew)))))
           clear hbu)
        | (go_at_call 21
           with_reducible refine (implVecUp_any a.AV b.AV a.vec b.vec a.cv b.cv _ (HTa_93.out.below (show Below W90_0.heap.size W90_0 _ from (by repeat first | with_reducible exact HU.out | with_reducible apply Below.drew))).v (HTb_94.out.below (show Below W90_0.heap.size W90_0 _ from (by repeat first | with_reducible exact HU.out | with_reducible apply Below.drew))).v).mono ?_
           rintro r u ⟨A9, c9, rfl, hi9, hbu⟩
           replace HU := Lib.hid (Below.trans (show Below W90_0.heap.size W90_0 _ from (by repeat first | with_reducible exact HU.out | with_reducible apply Below.drew)) (hbu.mono (Below.size (show Below W90_0.heap.size W90_0 _ from (by repeat first | with_reducible exact HU.out | with_reducible apply Below.drew)))))
           have HI9 := Lib.hid (show IntsIn u 0 u.heap.size A9 (upV a.vec b.vec) from hi9.ints.low (Nat.zero_le _))
           clear hi9
           clear hbu)
        | (go_at_call 15
           with_reducible refine (sameXU (HTx_97.out.below (show Below W90_0.heap.size W90_0 _ from (by repeat first | with_reducible exact HU.out | with_reducible apply Below.drew))) HI9.out (up_len4 a.vec b.vec) HM.out.2.2.2.1).mono ?_
           rintro r u ⟨rfl, hbu⟩
           replace HU := Lib.hid (Below.trans (show Below W90_0.heap.size W90_0 _ from (by repeat first | with_reducible exact HU.out | with_reducible apply Below.drew)) (hbu.mono (Below.size (show Below W90_0.heap.size W90_0 _ from (by repeat first | with_reducible exact HU.out | with_reducible apply Below.drew)))))
           clear hbu)
        | (go_at_call 13
           with_reducible refine (treeOkI_x (HTx_97.out.below (show Below W90_0.heap.size W90_0 _ from (by repeat first | with_reducible exact HU.out | with_reducible apply Below.drew))) HM.out.2.2.1).mono ?_
           rintro r u ⟨rfl, hbu⟩
           replace HU := Lib.hid (Below.trans (show Below W90_0.heap.size W90_0 _ from (by repeat first | with_reducible exact HU.out | with_reducible apply Below.drew)) (hbu.mono (Below.size (show Below W90_0.heap.size W90_0 _ from (by repeat first | with_reducible exact HU.out | with_reducible apply Below.drew)))))
           clear hbu)
        | (go_at_call 22
           with_reducible refine (treeCmp_x (HTx_97.out.below (show Below W90_0.heap.size W90_0 _ from (by repeat first | with_reducible exact HU.out | with_reducible apply Below.drew))) (HTy_99.out.below (show Below W90_0.heap.size W90_0 _ from (by repeat first | with_reducible exact HU.out | with_reducible apply Below.drew)))).mono ?_
           rw [tc_same HM.out.2.2.1 HM.out.2.1]
           rintro r u ⟨rfl, hbu⟩
           replace HU := Lib.hid (Below.trans (show Below W90_0.heap.size W90_0 _ from (by repeat first | with_reducible exact HU.out | with_reducible apply Below.drew)) (hbu.mono (Below.size (show Below W90_0.heap.size W90_0 _ from (by repeat first | with_reducible exact HU.out | with_reducible apply Below.drew)))))
           clear hbu)
        | (go_at_call 10
           with_reducible refine (trees_any _ (HTb.out _ (Hbel_92.out.trans (Below.mono (show Below W90_0.heap.size W90_0 _ from (by repeat first | with_reducible exact HU.out | with_reducible apply Below.drew)) (by omega))))).mono ?_
           rintro r u ⟨rfl, hbu⟩
           replace HU := Lib.hid (Below.trans (show Below W90_0.heap.size W90_0 _ from (by repeat first | with_reducible exact HU.out | with_reducible apply Below.drew)) (hbu.mono (Below.size (show Below W90_0.heap.size W90_0 _ from (by repeat first | with_reducible exact HU.out | with_reducible apply Below.drew)))))
           clear hbu))
    have HFin := Lib.hid (Hbel_92.out.trans (HU.out.mono (by omega)))
    go_wp2_with fail
    go_ret
    exact ⟨rfl, HFin.out⟩

end Go.Proofs.YtepkicgnhjaokaaGreatDoor

namespace Go.Proofs.YtepkicgnhjaokaaGreatDoor
open Go.ChangeShapes Go.WideShapes Go.ChangeAt Go.RowKit

theorem Tryz.ownFnMerges : ownKnob Tryz.prog.godebug = none := by kernel_rfl

set_option maxRecDepth 100000 in
theorem fnMerges_lifted (os : Os) (started : os.Started) (H : Type) (enc : TypeId × Value → H) :
    ReturnsInHanded {} Tryz.checked os 5 .any (fun w args => (Rows.fnMergesSpec.pre enc Tryz.prog Tryz.f5 [] false w args ∧ laidMetH Tryz.prog laid3 w) ∧ sizedMet enc Tryz.prog Tryz.f5 (OpenSpec.ofChange Rows.fnMergesSpec) false w args)
      (Rows.fnMergesSpec.post enc Tryz.prog Tryz.f5 false true false false) := by
  refine returnsInHanded_of_change_and (C := Tryz.checked) (X := fun w _ => laidMetH Tryz.prog laid3 w) (fun _ _ _ hh h => h.of_heap hh) Tryz.ownFnMerges started (by kernel_rfl) Tryz.func5
    (ChangeSpec.witness_shaped (enc := enc) (C := Tryz.checked) (os := os) (X := fun w _ => laidMetH Tryz.prog laid3 w) false (World.doorLaid Tryz.prog 24 os) #[.slice none 0 0] 8 rfl (World.shaped_of_RefB (by kernel_rfl) (by kernel_rfl)) (by kernel_rfl) (by kernel_rfl) (by kernel_rfl) (door_met os _)) ?_
  intro W base args ds gs before hval0 hW _ _ hL _
  have hval : ∀ (j : Nat) t v, Tryz.f5.params[j]? = some t → args[j]? = some v → Value.okWide Tryz.prog W .any base t v := hval0
  have hW' := hW
  obtain ⟨p, q, hA0, hV, rfl, _, _⟩ := hW
  have hA : DataW.TrodAll enc Tryz.prog W 0 (fun _ => true) true Tryz.f5.params.toList args.toList ds p := hA0
  rw [Tryz.params5] at hA hval
  obtain ⟨v0, d0, rfl, rfl, h0⟩ := trodAll_one hA
  obtain ⟨rfl, rfl⟩ := trodVars_none hV
  have h0k := h0
  obtain ⟨A, l, c, rfl, hlen, hts⟩ := open_byteS (hval 0 22 v0 rfl rfl) h0
  clear hA0 hval0
  have htab := pow10_of_laid hL
  simp only [List.append_nil] at hW'
  have hlt : ∀ x ∈ p, x.block < W.heap.size := fun x hx => by simpa using hW'.lt x (by simp [hx])
  refine (fnMerges_any A c l W hts hlen htab).mono fun e W' ⟨he, hb⟩ => ?_
  subst he
  exact ⟨_, rfl, _, _, _, [], p, [], hW', trodAll_mk1 (shut_bool Tryz.underlying4 _), trodAll_mk1 (Below.trod Tryz.laidOut (by kernel_rfl) (of_decide_eq_true (by kernel_rfl)) h0k hb hlt), rfl, hb.frame _, fun h => by cases h⟩

theorem fnMerges_holds : Rows.FnMergesSaid :=
  OpenClaim.holds_of_wide 5 Tryz.f5 rfl rfl rfl rfl rfl rfl rfl ⟨rfl, rfl, rfl, rfl, rfl⟩ rfl rfl rfl rfl rfl (by kernel_rfl) Tryz.func5 (by kernel_rfl)
    (of_decide_eq_true (by kernel_rfl)) (by unfold Func.isWrapper; first | (rw [if_pos (by decide +kernel)]; kernel_rfl) | (rw [if_neg (by decide +kernel)]; exact ⟨rfl, rfl⟩))
    (fun os started H enc _ => fnMerges_lifted os started H enc)

end Go.Proofs.YtepkicgnhjaokaaGreatDoor
