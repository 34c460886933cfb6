/-
  Several texts in one: Fa, RowFnAssoc.
-/
import Derived.Test.YtepkicgnhjaokaaDoorGTx
import Derived.Lib.SlBytesConst
import Derived.Test.YtepkicgnhjaokaaDoorGRow
namespace Go.Proofs.YtepkicgnhjaokaaDoor
open Go.RowKit Go.Maps

theorem assoc_same {va vc vd vx vy vu vv : List Int} {ea ec ed ex ey eu ev : List En} (hx : vx = mgVec va ea vc ec ∧ ex = mgEs va ea vc ec) (hy : vy = mgVec vx ex vd ed ∧ ey = mgEs vx ex vd ed) (hu : vu = mgVec vc ec vd ed ∧ eu = mgEs vc ec vd ed) (hv : vv = mgVec va ea vu eu ∧ ev = mgEs va ea vu eu)
    (o1 : true = mgOk va ea vc ec) (o2 : true = mgOk vx ex vd ed) (o3 : true = mgOk vc ec vd ed) (o4 : true = mgOk va ea vu eu) : vy = vv ∧ ey = ev := by
  obtain ⟨rfl, rfl⟩ := hx
  obtain ⟨rfl, rfl⟩ := hy
  obtain ⟨rfl, rfl⟩ := hu
  obtain ⟨rfl, rfl⟩ := hv
  rw [(mg_yes o2.symm).1, (mg_yes o2.symm).2, (mg_yes o4.symm).1, (mg_yes o4.symm).2]
  rw [(mg_yes o1.symm).1, (mg_yes o1.symm).2] at o2 ⊢
  rw [(mg_yes o3.symm).1, (mg_yes o3.symm).2] at o4 ⊢
  exact ⟨mxs_assoc _ _ _, mg_assoc o1.symm o2.symm o3.symm o4.symm⟩

set_option maxRecDepth 100000 in
set_option maxHeartbeats 4000000 in
theorem fnAssoc_any (A : Option Addr) (c : Nat) (code : List UInt8) (w : World) (hA : BytesIn w 0 w.heap.size A code) (hn : code.length ≤ 9223372036854775807) (htab : Lib.TabIs Tryd.prog w "internal/strconv.uint64pow10" .u64 Lib.pow10Tab) :
    Calls Tryd.prog 4 #[.slice A code.length c] w fun e w' => e = .returned (.bool true) ∧ Below w.heap.size w w' := by
  have HTab := Lib.hid (Lib.tabBelow_of_tabIs htab)
  have HC := Lib.hid hA
  clear hA htab
  have kc := fun (w : World) (C : Array Value) (n c : Nat) => Lib.run_convert_bytes_const (P := Tryd.prog) w 22 5 C n c Tryd.underlying22 Tryd.underlying5
  go_enter Tryd.func4, Tryd.ntmps4
  go_wp2_with fail
  have Hbel_1 := Lib.hid (Below.refl w.heap.size w)
  refine (drawMerge_any A c code w HC.out hn).mono ?_
  rintro e w1 ⟨a, b, rfl, ht, hu, hb⟩
  have z_2 := hb.size
  have Hbel_3 := Lib.hid (Hbel_1.out.trans (hb.mono (by omega)))
  clear Hbel_1
  have HTa_4 := Lib.hid (ht.tx)
  have HTb_5 := Lib.hid (hu.tx)
  clear hb
  clear ht hu HC
  go_upto_region 2 with fail
  obtain ⟨W6_0, hW6_0⟩ : ∃ xW, xW = w1.alloc (.cells #[.slice a.AV a.vec.length a.cv, .slice a.A a.es.length a.c] 34) := ⟨_, rfl⟩
  obtain ⟨W6_1, hW6_1⟩ : ∃ xW, xW = W6_0.alloc (.cells #[.slice b.AV b.vec.length b.cv, .slice b.A b.es.length b.c] 34) := ⟨_, rfl⟩
  have hZ6_0 : W6_0.heap.size = w1.heap.size + 1 := by rw [hW6_0]; simp
  have hZ6_1 : W6_1.heap.size = w1.heap.size + 2 := by rw [hW6_1]; simp [hZ6_0]
  have hx0 : Bx W6_0 (w1.heap.size) [.slice a.AV a.vec.length a.cv, .slice a.A a.es.length a.c] := by rw [hW6_0]; exact Bx.new' _ _ _ _ rfl
  replace hx0 : Bx W6_1 (w1.heap.size) [.slice a.AV a.vec.length a.cv, .slice a.A a.es.length a.c] := by rw [hW6_1]; exact hx0.alloc (by omega) _
  have hx1 : Bx W6_1 (w1.heap.size + 1) [.slice b.AV b.vec.length b.cv, .slice b.A b.es.length b.c] := by rw [hW6_1, ← hZ6_0]; exact Bx.new' _ _ _ _ rfl
  have hb0 : Below w1.heap.size w1 W6_1 := by rw [hW6_1, hW6_0]; exact (((Below.refl _ _).alloc (by first | exact Nat.le_refl _ | (simp; done) | (simp; omega)) _).alloc (by first | exact Nat.le_refl _ | (simp; done) | (simp; omega)) _)
  have hlt : w1.heap.size + 1 < W6_1.heap.size := by omega
  rw [← hW6_0, ← hW6_1]
  clear hW6_0 hZ6_0 hW6_1 hZ6_1
  have z_7 := hb0.size
  have Hbel_8 := Lib.hid (Hbel_3.out.trans (hb0.mono (by omega)))
  have HTa_9 := Lib.hid (HTa_4.out.below hb0)
  have HTb_10 := Lib.hid (HTb_5.out.below hb0)
  clear Hbel_3 HTa_4 HTb_5
  have Hxa_11 := Lib.hid (hx0)
  have Hxb_12 := Lib.hid (hx1)
  clear hb0 hx0 hx1
  have hl_13 := hlt
  clear hlt
  have qxb_0 := Hxb_12.out 0 (by simp)
  have qxb_1 := Hxb_12.out 1 (by simp)
  have lxb : w1.heap.size + 1 < W6_1.heap.size := by omega
  simp only [List.getElem_cons_succ, List.getElem_cons_zero] at qxb_0 qxb_1
  go_wp2_with fail
  clear qxb_0 qxb_1 lxb
  obtain ⟨Wq14, hWq14⟩ : ∃ xW, xW = W6_1.alloc (.cells #[.int .u8 113] 5 (1, 2)) := ⟨_, rfl⟩
  have hbq14 : Below W6_1.heap.size W6_1 Wq14 := by rw [hWq14]; exact (Below.refl _ _).alloc (Nat.le_refl _) _
  have hq14 : BytesIn Wq14 0 Wq14.heap.size (some ⟨W6_1.heap.size, 0, none⟩) [113] := by rw [hWq14]; exact bytes_marked W6_1 113 (1, 2)
  rw [← hWq14]
  clear hWq14
  have z_15 := hbq14.size
  have Hbel_16 := Lib.hid (Hbel_8.out.trans (hbq14.mono (by omega)))
  have HTa_17 := Lib.hid (HTa_9.out.below hbq14)
  have HTb_18 := Lib.hid (HTb_10.out.below hbq14)
  have Hxa_19 := Lib.hid (Hxa_11.out.below hbq14 (by omega))
  have Hxb_20 := Lib.hid (Hxb_12.out.below hbq14 (by omega))
  clear Hbel_8 HTa_9 HTb_10 Hxa_11 Hxb_12
  have HQ_21 := Lib.hid (hq14)
  clear hq14 hbq14
  have hP := putX (cb := 1) HTb_18.out 1 3 HQ_21.out (by simp)
  rw [show ([113] : List UInt8).length = 1 from rfl] at hP
  refine (hP).mono ?_
  rintro e w2 ⟨t3, rfl, ⟨hv, he, hx⟩, hb⟩
  have z_22 := hb.size
  have Hbel_23 := Lib.hid (Hbel_16.out.trans (hb.mono (by omega)))
  have HTa_24 := Lib.hid (HTa_17.out.below hb)
  have HTb_25 := Lib.hid (HTb_18.out.below hb)
  have Hxa_26 := Lib.hid (Hxa_19.out.below hb (by omega))
  have Hxb_27 := Lib.hid (Hxb_20.out.below hb (by omega))
  clear Hbel_16 HTa_17 HTb_18 Hxa_19 Hxb_20 HQ_21
  clear hb
  have HT3_28 := Lib.hid (hx)
  have HET3 := Lib.hid (And.intro hv he)
  clear hv he hx hP
  go_upto_region 3 with fail
  obtain ⟨W29_0, hW29_0⟩ : ∃ xW, xW = w2.alloc (.cells #[.slice t3.AV t3.vec.length t3.cv, .slice t3.A t3.es.length t3.c] 34) := ⟨_, rfl⟩
  have hZ29_0 : W29_0.heap.size = w2.heap.size + 1 := by rw [hW29_0]; simp
  have hx0 : Bx W29_0 (w2.heap.size) [.slice t3.AV t3.vec.length t3.cv, .slice t3.A t3.es.length t3.c] := by rw [hW29_0]; exact Bx.new' _ _ _ _ rfl
  have hb0 : Below w2.heap.size w2 W29_0 := by rw [hW29_0]; exact ((Below.refl _ _).alloc (by first | exact Nat.le_refl _ | (simp; done) | (simp; omega)) _)
  have hlt : w2.heap.size + 0 < W29_0.heap.size := by omega
  rw [← hW29_0]
  clear hW29_0 hZ29_0
  have z_30 := hb0.size
  have Hbel_31 := Lib.hid (Hbel_23.out.trans (hb0.mono (by omega)))
  have HTa_32 := Lib.hid (HTa_24.out.below hb0)
  have HTb_33 := Lib.hid (HTb_25.out.below hb0)
  have Hxa_34 := Lib.hid (Hxa_26.out.below hb0 (by omega))
  have Hxb_35 := Lib.hid (Hxb_27.out.below hb0 (by omega))
  have HT3_36 := Lib.hid (HT3_28.out.below hb0)
  clear Hbel_23 HTa_24 HTb_25 Hxa_26 Hxb_27 HT3_28
  have Hxc_37 := Lib.hid (hx0)
  clear hb0 hx0
  have hl_38 := hlt
  clear hlt
  have qxa_0 := Hxa_34.out 0 (by simp)
  have qxa_1 := Hxa_34.out 1 (by simp)
  have lxa : w1.heap.size < W29_0.heap.size := by omega
  simp only [List.getElem_cons_succ, List.getElem_cons_zero] at qxa_0 qxa_1
  go_wp2_with fail
  clear qxa_0 qxa_1 lxa
  obtain ⟨Wq39, hWq39⟩ : ∃ xW, xW = W29_0.alloc (.cells #[.int .u8 113] 5 (1, 2)) := ⟨_, rfl⟩
  have hbq39 : Below W29_0.heap.size W29_0 Wq39 := by rw [hWq39]; exact (Below.refl _ _).alloc (Nat.le_refl _) _
  have hq39 : BytesIn Wq39 0 Wq39.heap.size (some ⟨W29_0.heap.size, 0, none⟩) [113] := by rw [hWq39]; exact bytes_marked W29_0 113 (1, 2)
  rw [← hWq39]
  clear hWq39
  have z_40 := hbq39.size
  have Hbel_41 := Lib.hid (Hbel_31.out.trans (hbq39.mono (by omega)))
  have HTa_42 := Lib.hid (HTa_32.out.below hbq39)
  have HTb_43 := Lib.hid (HTb_33.out.below hbq39)
  have Hxa_44 := Lib.hid (Hxa_34.out.below hbq39 (by omega))
  have Hxb_45 := Lib.hid (Hxb_35.out.below hbq39 (by omega))
  have HT3_46 := Lib.hid (HT3_36.out.below hbq39)
  have Hxc_47 := Lib.hid (Hxc_37.out.below hbq39 (by omega))
  clear Hbel_31 HTa_32 HTb_33 Hxa_34 Hxb_35 HT3_36 Hxc_37
  have HQ_48 := Lib.hid (hq39)
  clear hq39 hbq39
  have hP := putX (cb := 1) HTa_42.out 0 4 HQ_48.out (by simp)
  rw [show ([113] : List UInt8).length = 1 from rfl] at hP
  refine (hP).mono ?_
  rintro e w3 ⟨d, rfl, ⟨hv, he, hx⟩, hb⟩
  have z_49 := hb.size
  have Hbel_50 := Lib.hid (Hbel_41.out.trans (hb.mono (by omega)))
  have HTa_51 := Lib.hid (HTa_42.out.below hb)
  have HTb_52 := Lib.hid (HTb_43.out.below hb)
  have Hxa_53 := Lib.hid (Hxa_44.out.below hb (by omega))
  have Hxb_54 := Lib.hid (Hxb_45.out.below hb (by omega))
  have HT3_55 := Lib.hid (HT3_46.out.below hb)
  have Hxc_56 := Lib.hid (Hxc_47.out.below hb (by omega))
  clear Hbel_41 HTa_42 HTb_43 Hxa_44 Hxb_45 HT3_46 Hxc_47 HQ_48
  clear hb
  have HT4_57 := Lib.hid (hx)
  have HET4 := Lib.hid (And.intro hv he)
  clear hv he hx hP
  have qxa_0 := Hxa_53.out 0 (by simp)
  have qxa_1 := Hxa_53.out 1 (by simp)
  have lxa : w1.heap.size < w3.heap.size := by omega
  have qxc_0 := Hxc_56.out 0 (by simp)
  have qxc_1 := Hxc_56.out 1 (by simp)
  have lxc : w2.heap.size < w3.heap.size := by omega
  simp only [List.getElem_cons_succ, List.getElem_cons_zero] at qxa_0 qxa_1 qxc_0 qxc_1
  go_wp2_with fail
  clear qxa_0 qxa_1 lxa qxc_0 qxc_1 lxc
  obtain ⟨W58_0, hW58_0⟩ : ∃ xW, xW = w3.alloc (.cells #[.slice d.AV d.vec.length d.cv, .slice d.A d.es.length d.c] 34) := ⟨_, rfl⟩
  have hZ58_0 : W58_0.heap.size = w3.heap.size + 1 := by rw [hW58_0]; simp
  have hx0 : Bx W58_0 (w3.heap.size) [.slice d.AV d.vec.length d.cv, .slice d.A d.es.length d.c] := by rw [hW58_0]; exact Bx.new' _ _ _ _ rfl
  have hb0 : Below w3.heap.size w3 W58_0 := by rw [hW58_0]; exact ((Below.refl _ _).alloc (by first | exact Nat.le_refl _ | (simp; done) | (simp; omega)) _)
  have hlt : w3.heap.size + 0 < W58_0.heap.size := by omega
  rw [← hW58_0]
  clear hW58_0 hZ58_0
  have z_59 := hb0.size
  have Hbel_60 := Lib.hid (Hbel_50.out.trans (hb0.mono (by omega)))
  have HTa_61 := Lib.hid (HTa_51.out.below hb0)
  have HTb_62 := Lib.hid (HTb_52.out.below hb0)
  have Hxa_63 := Lib.hid (Hxa_53.out.below hb0 (by omega))
  have Hxb_64 := Lib.hid (Hxb_54.out.below hb0 (by omega))
  have HT3_65 := Lib.hid (HT3_55.out.below hb0)
  have Hxc_66 := Lib.hid (Hxc_56.out.below hb0 (by omega))
  have HT4_67 := Lib.hid (HT4_57.out.below hb0)
  clear Hbel_50 HTa_51 HTb_52 Hxa_53 Hxb_54 HT3_55 Hxc_56 HT4_57
  have Hxd_68 := Lib.hid (hx0)
  clear hb0 hx0
  have hl_69 := hlt
  clear hlt
  have hP := mergeX HTa_61.out HT3_65.out
  obtain ⟨o1, ho1⟩ : ∃ o, o = mgOk a.vec a.es t3.vec t3.es := ⟨_, rfl⟩
  rw [← ho1] at hP
  have HOo1 := Lib.hid ho1
  clear ho1
  refine (hP).mono ?_
  rintro e w4 ⟨x, rfl, ⟨hv, he, hx⟩, hb⟩
  have z_70 := hb.size
  have Hbel_71 := Lib.hid (Hbel_60.out.trans (hb.mono (by omega)))
  have HTa_72 := Lib.hid (HTa_61.out.below hb)
  have HTb_73 := Lib.hid (HTb_62.out.below hb)
  have Hxa_74 := Lib.hid (Hxa_63.out.below hb (by omega))
  have Hxb_75 := Lib.hid (Hxb_64.out.below hb (by omega))
  have HT3_76 := Lib.hid (HT3_65.out.below hb)
  have Hxc_77 := Lib.hid (Hxc_66.out.below hb (by omega))
  have HT4_78 := Lib.hid (HT4_67.out.below hb)
  have Hxd_79 := Lib.hid (Hxd_68.out.below hb (by omega))
  clear Hbel_60 HTa_61 HTb_62 Hxa_63 Hxb_64 HT3_65 Hxc_66 HT4_67 Hxd_68
  clear hb
  have HTx_80 := Lib.hid (hx)
  have HETx := Lib.hid (And.intro hv he)
  clear hv he hx hP
  have qxd_0 := Hxd_79.out 0 (by simp)
  have qxd_1 := Hxd_79.out 1 (by simp)
  have lxd : w3.heap.size < w4.heap.size := by omega
  simp only [List.getElem_cons_succ, List.getElem_cons_zero] at qxd_0 qxd_1
  go_wp2_with fail
  clear qxd_0 qxd_1 lxd
  obtain ⟨W81_0, hW81_0⟩ : ∃ xW, xW = w4.alloc (.cells #[.slice x.AV x.vec.length x.cv, .slice x.A x.es.length x.c] 34) := ⟨_, rfl⟩
  have hZ81_0 : W81_0.heap.size = w4.heap.size + 1 := by rw [hW81_0]; simp
  have hx0 : Bx W81_0 (w4.heap.size) [.slice x.AV x.vec.length x.cv, .slice x.A x.es.length x.c] := by rw [hW81_0]; exact Bx.new' _ _ _ _ rfl
  have hb0 : Below w4.heap.size w4 W81_0 := by rw [hW81_0]; exact ((Below.refl _ _).alloc (by first | exact Nat.le_refl _ | (simp; done) | (simp; omega)) _)
  have hlt : w4.heap.size + 0 < W81_0.heap.size := by omega
  rw [← hW81_0]
  clear hW81_0 hZ81_0
  have z_82 := hb0.size
  have Hbel_83 := Lib.hid (Hbel_71.out.trans (hb0.mono (by omega)))
  have HTa_84 := Lib.hid (HTa_72.out.below hb0)
  have HTb_85 := Lib.hid (HTb_73.out.below hb0)
  have Hxa_86 := Lib.hid (Hxa_74.out.below hb0 (by omega))
  have Hxb_87 := Lib.hid (Hxb_75.out.below hb0 (by omega))
  have HT3_88 := Lib.hid (HT3_76.out.below hb0)
  have Hxc_89 := Lib.hid (Hxc_77.out.below hb0 (by omega))
  have HT4_90 := Lib.hid (HT4_78.out.below hb0)
  have Hxd_91 := Lib.hid (Hxd_79.out.below hb0 (by omega))
  have HTx_92 := Lib.hid (HTx_80.out.below hb0)
  clear Hbel_71 HTa_72 HTb_73 Hxa_74 Hxb_75 HT3_76 Hxc_77 HT4_78 Hxd_79 HTx_80
  have Hxx_93 := Lib.hid (hx0)
  clear hb0 hx0
  have hl_94 := hlt
  clear hlt
  have hP := mergeX HTx_92.out HT4_90.out
  obtain ⟨o2, ho2⟩ : ∃ o, o = mgOk x.vec x.es d.vec d.es := ⟨_, rfl⟩
  rw [← ho2] at hP
  have HOo2 := Lib.hid ho2
  clear ho2
  refine (hP).mono ?_
  rintro e w5 ⟨y, rfl, ⟨hv, he, hx⟩, hb⟩
  have z_95 := hb.size
  have Hbel_96 := Lib.hid (Hbel_83.out.trans (hb.mono (by omega)))
  have HTa_97 := Lib.hid (HTa_84.out.below hb)
  have HTb_98 := Lib.hid (HTb_85.out.below hb)
  have Hxa_99 := Lib.hid (Hxa_86.out.below hb (by omega))
  have Hxb_100 := Lib.hid (Hxb_87.out.below hb (by omega))
  have HT3_101 := Lib.hid (HT3_88.out.below hb)
  have Hxc_102 := Lib.hid (Hxc_89.out.below hb (by omega))
  have HT4_103 := Lib.hid (HT4_90.out.below hb)
  have Hxd_104 := Lib.hid (Hxd_91.out.below hb (by omega))
  have HTx_105 := Lib.hid (HTx_92.out.below hb)
  have Hxx_106 := Lib.hid (Hxx_93.out.below hb (by omega))
  clear Hbel_83 HTa_84 HTb_85 Hxa_86 Hxb_87 HT3_88 Hxc_89 HT4_90 Hxd_91 HTx_92 Hxx_93
  clear hb
  have HTy_107 := Lib.hid (hx)
  have HETy := Lib.hid (And.intro hv he)
  clear hv he hx hP
  have qxc_0 := Hxc_102.out 0 (by simp)
  have qxc_1 := Hxc_102.out 1 (by simp)
  have lxc : w2.heap.size < w5.heap.size := by omega
  have qxd_0 := Hxd_104.out 0 (by simp)
  have qxd_1 := Hxd_104.out 1 (by simp)
  have lxd : w3.heap.size < w5.heap.size := by omega
  simp only [List.getElem_cons_succ, List.getElem_cons_zero] at qxc_0 qxc_1 qxd_0 qxd_1
  go_wp2_with fail
  clear qxc_0 qxc_1 lxc qxd_0 qxd_1 lxd
  obtain ⟨W108_0, hW108_0⟩ : ∃ xW, xW = w5.alloc (.cells #[.slice y.AV y.vec.length y.cv, .slice y.A y.es.length y.c] 34) := ⟨_, rfl⟩
  have hZ108_0 : W108_0.heap.size = w5.heap.size + 1 := by rw [hW108_0]; simp
  have hx0 : Bx W108_0 (w5.heap.size) [.slice y.AV y.vec.length y.cv, .slice y.A y.es.length y.c] := by rw [hW108_0]; exact Bx.new' _ _ _ _ rfl
  have hb0 : Below w5.heap.size w5 W108_0 := by rw [hW108_0]; exact ((Below.refl _ _).alloc (by first | exact Nat.le_refl _ | (simp; done) | (simp; omega)) _)
  have hlt : w5.heap.size + 0 < W108_0.heap.size := by omega
  rw [← hW108_0]
  clear hW108_0 hZ108_0
  have z_109 := hb0.size
  have Hbel_110 := Lib.hid (Hbel_96.out.trans (hb0.mono (by omega)))
  have HTa_111 := Lib.hid (HTa_97.out.below hb0)
  have HTb_112 := Lib.hid (HTb_98.out.below hb0)
  have Hxa_113 := Lib.hid (Hxa_99.out.below hb0 (by omega))
  have Hxb_114 := Lib.hid (Hxb_100.out.below hb0 (by omega))
  have HT3_115 := Lib.hid (HT3_101.out.below hb0)
  have Hxc_116 := Lib.hid (Hxc_102.out.below hb0 (by omega))
  have HT4_117 := Lib.hid (HT4_103.out.below hb0)
  have Hxd_118 := Lib.hid (Hxd_104.out.below hb0 (by omega))
  have HTx_119 := Lib.hid (HTx_105.out.below hb0)
  have Hxx_120 := Lib.hid (Hxx_106.out.below hb0 (by omega))
  have HTy_121 := Lib.hid (HTy_107.out.below hb0)
  clear Hbel_96 HTa_97 HTb_98 Hxa_99 Hxb_100 HT3_101 Hxc_102 HT4_103 Hxd_104 HTx_105 Hxx_106 HTy_107
  have Hxy_122 := Lib.hid (hx0)
  clear hb0 hx0
  have hl_123 := hlt
  clear hlt
  have hP := mergeX HT3_115.out HT4_117.out
  obtain ⟨o3, ho3⟩ : ∃ o, o = mgOk t3.vec t3.es d.vec d.es := ⟨_, rfl⟩
  rw [← ho3] at hP
  have HOo3 := Lib.hid ho3
  clear ho3
  refine (hP).mono ?_
  rintro e w6 ⟨u, rfl, ⟨hv, he, hx⟩, hb⟩
  have z_124 := hb.size
  have Hbel_125 := Lib.hid (Hbel_110.out.trans (hb.mono (by omega)))
  have HTa_126 := Lib.hid (HTa_111.out.below hb)
  have HTb_127 := Lib.hid (HTb_112.out.below hb)
  have Hxa_128 := Lib.hid (Hxa_113.out.below hb (by omega))
  have Hxb_129 := Lib.hid (Hxb_114.out.below hb (by omega))
  have HT3_130 := Lib.hid (HT3_115.out.below hb)
  have Hxc_131 := Lib.hid (Hxc_116.out.below hb (by omega))
  have HT4_132 := Lib.hid (HT4_117.out.below hb)
  have Hxd_133 := Lib.hid (Hxd_118.out.below hb (by omega))
  have HTx_134 := Lib.hid (HTx_119.out.below hb)
  have Hxx_135 := Lib.hid (Hxx_120.out.below hb (by omega))
  have HTy_136 := Lib.hid (HTy_121.out.below hb)
  have Hxy_137 := Lib.hid (Hxy_122.out.below hb (by omega))
  clear Hbel_110 HTa_111 HTb_112 Hxa_113 Hxb_114 HT3_115 Hxc_116 HT4_117 Hxd_118 HTx_119 Hxx_120 HTy_121 Hxy_122
  clear hb
  have HTu_138 := Lib.hid (hx)
  have HETu := Lib.hid (And.intro hv he)
  clear hv he hx hP
  have qxa_0 := Hxa_128.out 0 (by simp)
  have qxa_1 := Hxa_128.out 1 (by simp)
  have lxa : w1.heap.size < w6.heap.size := by omega
  simp only [List.getElem_cons_succ, List.getElem_cons_zero] at qxa_0 qxa_1
  go_wp2_with fail
  clear qxa_0 qxa_1 lxa
  obtain ⟨W139_0, hW139_0⟩ : ∃ xW, xW = w6.alloc (.cells #[.slice u.AV u.vec.length u.cv, .slice u.A u.es.length u.c] 34) := ⟨_, rfl⟩
  have hZ139_0 : W139_0.heap.size = w6.heap.size + 1 := by rw [hW139_0]; simp
  have hx0 : Bx W139_0 (w6.heap.size) [.slice u.AV u.vec.length u.cv, .slice u.A u.es.length u.c] := by rw [hW139_0]; exact Bx.new' _ _ _ _ rfl
  have hb0 : Below w6.heap.size w6 W139_0 := by rw [hW139_0]; exact ((Below.refl _ _).alloc (by first | exact Nat.le_refl _ | (simp; done) | (simp; omega)) _)
  have hlt : w6.heap.size + 0 < W139_0.heap.size := by omega
  rw [← hW139_0]
  clear hW139_0 hZ139_0
  have z_140 := hb0.size
  have Hbel_141 := Lib.hid (Hbel_125.out.trans (hb0.mono (by omega)))
  have HTa_142 := Lib.hid (HTa_126.out.below hb0)
  have HTb_143 := Lib.hid (HTb_127.out.below hb0)
  have Hxa_144 := Lib.hid (Hxa_128.out.below hb0 (by omega))
  have Hxb_145 := Lib.hid (Hxb_129.out.below hb0 (by omega))
  have HT3_146 := Lib.hid (HT3_130.out.below hb0)
  have Hxc_147 := Lib.hid (Hxc_131.out.below hb0 (by omega))
  have HT4_148 := Lib.hid (HT4_132.out.below hb0)
  have Hxd_149 := Lib.hid (Hxd_133.out.below hb0 (by omega))
  have HTx_150 := Lib.hid (HTx_134.out.below hb0)
  have Hxx_151 := Lib.hid (Hxx_135.out.below hb0 (by omega))
  have HTy_152 := Lib.hid (HTy_136.out.below hb0)
  have Hxy_153 := Lib.hid (Hxy_137.out.below hb0 (by omega))
  have HTu_154 := Lib.hid (HTu_138.out.below hb0)
  clear Hbel_125 HTa_126 HTb_127 Hxa_128 Hxb_129 HT3_130 Hxc_131 HT4_132 Hxd_133 HTx_134 Hxx_135 HTy_136 Hxy_137 HTu_138
  have Hxu_155 := Lib.hid (hx0)
  clear hb0 hx0
  have hl_156 := hlt
  clear hlt
  have hP := mergeX HTa_142.out HTu_154.out
  obtain ⟨o4, ho4⟩ : ∃ o, o = mgOk a.vec a.es u.vec u.es := ⟨_, rfl⟩
  rw [← ho4] at hP
  have HOo4 := Lib.hid ho4
  clear ho4
  refine (hP).mono ?_
  rintro e w7 ⟨v, rfl, ⟨hv, he, hx⟩, hb⟩
  have z_157 := hb.size
  have Hbel_158 := Lib.hid (Hbel_141.out.trans (hb.mono (by omega)))
  have HTa_159 := Lib.hid (HTa_142.out.below hb)
  have HTb_160 := Lib.hid (HTb_143.out.below hb)
  have Hxa_161 := Lib.hid (Hxa_144.out.below hb (by omega))
  have Hxb_162 := Lib.hid (Hxb_145.out.below hb (by omega))
  have HT3_163 := Lib.hid (HT3_146.out.below hb)
  have Hxc_164 := Lib.hid (Hxc_147.out.below hb (by omega))
  have HT4_165 := Lib.hid (HT4_148.out.below hb)
  have Hxd_166 := Lib.hid (Hxd_149.out.below hb (by omega))
  have HTx_167 := Lib.hid (HTx_150.out.below hb)
  have Hxx_168 := Lib.hid (Hxx_151.out.below hb (by omega))
  have HTy_169 := Lib.hid (HTy_152.out.below hb)
  have Hxy_170 := Lib.hid (Hxy_153.out.below hb (by omega))
  have HTu_171 := Lib.hid (HTu_154.out.below hb)
  have Hxu_172 := Lib.hid (Hxu_155.out.below hb (by omega))
  clear Hbel_141 HTa_142 HTb_143 Hxa_144 Hxb_145 HT3_146 Hxc_147 HT4_148 Hxd_149 HTx_150 Hxx_151 HTy_152 Hxy_153 HTu_154 Hxu_155
  clear hb
  have HTv_173 := Lib.hid (hx)
  have HETv := Lib.hid (And.intro hv he)
  clear hv he hx hP
  cases o1 with
  | false =>
    go_wp2_with fail
    obtain ⟨W174_0, hW174_0⟩ : ∃ xW, xW = w7.alloc (.cells #[.slice v.AV v.vec.length v.cv, .slice v.A v.es.length v.c] 34) := ⟨_, rfl⟩
    have hZ174_0 : W174_0.heap.size = w7.heap.size + 1 := by rw [hW174_0]; simp
    have hx0 : Bx W174_0 (w7.heap.size) [.slice v.AV v.vec.length v.cv, .slice v.A v.es.length v.c] := by rw [hW174_0]; exact Bx.new' _ _ _ _ rfl
    have hb0 : Below w7.heap.size w7 W174_0 := by rw [hW174_0]; exact ((Below.refl _ _).alloc (by first | exact Nat.le_refl _ | (simp; done) | (simp; omega)) _)
    have hlt : w7.heap.size + 0 < W174_0.heap.size := by omega
    rw [← hW174_0]
    clear hW174_0 hZ174_0
    have z_175 := hb0.size
    have Hbel_176 := Lib.hid (Hbel_158.out.trans (hb0.mono (by omega)))
    have HTa_177 := Lib.hid (HTa_159.out.below hb0)
    have HTb_178 := Lib.hid (HTb_160.out.below hb0)
    have Hxa_179 := Lib.hid (Hxa_161.out.below hb0 (by omega))
    have Hxb_180 := Lib.hid (Hxb_162.out.below hb0 (by omega))
    have HT3_181 := Lib.hid (HT3_163.out.below hb0)
    have Hxc_182 := Lib.hid (Hxc_164.out.below hb0 (by omega))
    have HT4_183 := Lib.hid (HT4_165.out.below hb0)
    have Hxd_184 := Lib.hid (Hxd_166.out.below hb0 (by omega))
    have HTx_185 := Lib.hid (HTx_167.out.below hb0)
    have Hxx_186 := Lib.hid (Hxx_168.out.below hb0 (by omega))
    have HTy_187 := Lib.hid (HTy_169.out.below hb0)
    have Hxy_188 := Lib.hid (Hxy_170.out.below hb0 (by omega))
    have HTu_189 := Lib.hid (HTu_171.out.below hb0)
    have Hxu_190 := Lib.hid (Hxu_172.out.below hb0 (by omega))
    have HTv_191 := Lib.hid (HTv_173.out.below hb0)
    clear Hbel_158 HTa_159 HTb_160 Hxa_161 Hxb_162 HT3_163 Hxc_164 HT4_165 Hxd_166 HTx_167 Hxx_168 HTy_169 Hxy_170 HTu_171 Hxu_172 HTv_173
    have Hxv_192 := Lib.hid (hx0)
    clear hb0 hx0
    have hl_193 := hlt
    clear hlt
    refine (trees_any _ (HTab.out _ Hbel_176.out)).mono ?_
    rintro e wz ⟨rfl, hbz⟩
    have HBz := Lib.hid (Hbel_176.out.trans (hbz.mono (by omega)))
    clear hbz
    go_wp2_with fail
    go_ret
    exact ⟨rfl, HBz.out⟩
  | true =>
    cases o2 with
    | false =>
      go_wp2_with fail
      obtain ⟨W194_0, hW194_0⟩ : ∃ xW, xW = w7.alloc (.cells #[.slice v.AV v.vec.length v.cv, .slice v.A v.es.length v.c] 34) := ⟨_, rfl⟩
      have hZ194_0 : W194_0.heap.size = w7.heap.size + 1 := by rw [hW194_0]; simp
      have hx0 : Bx W194_0 (w7.heap.size) [.slice v.AV v.vec.length v.cv, .slice v.A v.es.length v.c] := by rw [hW194_0]; exact Bx.new' _ _ _ _ rfl
      have hb0 : Below w7.heap.size w7 W194_0 := by rw [hW194_0]; exact ((Below.refl _ _).alloc (by first | exact Nat.le_refl _ | (simp; done) | (simp; omega)) _)
      have hlt : w7.heap.size + 0 < W194_0.heap.size := by omega
      rw [← hW194_0]
      clear hW194_0 hZ194_0
      have z_195 := hb0.size
      have Hbel_196 := Lib.hid (Hbel_158.out.trans (hb0.mono (by omega)))
      have HTa_197 := Lib.hid (HTa_159.out.below hb0)
      have HTb_198 := Lib.hid (HTb_160.out.below hb0)
      have Hxa_199 := Lib.hid (Hxa_161.out.below hb0 (by omega))
      have Hxb_200 := Lib.hid (Hxb_162.out.below hb0 (by omega))
      have HT3_201 := Lib.hid (HT3_163.out.below hb0)
      have Hxc_202 := Lib.hid (Hxc_164.out.below hb0 (by omega))
      have HT4_203 := Lib.hid (HT4_165.out.below hb0)
      have Hxd_204 := Lib.hid (Hxd_166.out.below hb0 (by omega))
      have HTx_205 := Lib.hid (HTx_167.out.below hb0)
      have Hxx_206 := Lib.hid (Hxx_168.out.below hb0 (by omega))
      have HTy_207 := Lib.hid (HTy_169.out.below hb0)
      have Hxy_208 := Lib.hid (Hxy_170.out.below hb0 (by omega))
      have HTu_209 := Lib.hid (HTu_171.out.below hb0)
      have Hxu_210 := Lib.hid (Hxu_172.out.below hb0 (by omega))
      have HTv_211 := Lib.hid (HTv_173.out.below hb0)
      clear Hbel_158 HTa_159 HTb_160 Hxa_161 Hxb_162 HT3_163 Hxc_164 HT4_165 Hxd_166 HTx_167 Hxx_168 HTy_169 Hxy_170 HTu_171 Hxu_172 HTv_173
      have Hxv_212 := Lib.hid (hx0)
      clear hb0 hx0
      have hl_213 := hlt
      clear hlt
      refine (trees_any _ (HTab.out _ Hbel_196.out)).mono ?_
      rintro e wz ⟨rfl, hbz⟩
      have HBz := Lib.hid (Hbel_196.out.trans (hbz.mono (by omega)))
      clear hbz
      go_wp2_with fail
      go_ret
      exact ⟨rfl, HBz.out⟩
    | true =>
      cases o3 with
      | false =>
        go_wp2_with fail
        obtain ⟨W214_0, hW214_0⟩ : ∃ xW, xW = w7.alloc (.cells #[.slice v.AV v.vec.length v.cv, .slice v.A v.es.length v.c] 34) := ⟨_, rfl⟩
        have hZ214_0 : W214_0.heap.size = w7.heap.size + 1 := by rw [hW214_0]; simp
        have hx0 : Bx W214_0 (w7.heap.size) [.slice v.AV v.vec.length v.cv, .slice v.A v.es.length v.c] := by rw [hW214_0]; exact Bx.new' _ _ _ _ rfl
        have hb0 : Below w7.heap.size w7 W214_0 := by rw [hW214_0]; exact ((Below.refl _ _).alloc (by first | exact Nat.le_refl _ | (simp; done) | (simp; omega)) _)
        have hlt : w7.heap.size + 0 < W214_0.heap.size := by omega
        rw [← hW214_0]
        clear hW214_0 hZ214_0
        have z_215 := hb0.size
        have Hbel_216 := Lib.hid (Hbel_158.out.trans (hb0.mono (by omega)))
        have HTa_217 := Lib.hid (HTa_159.out.below hb0)
        have HTb_218 := Lib.hid (HTb_160.out.below hb0)
        have Hxa_219 := Lib.hid (Hxa_161.out.below hb0 (by omega))
        have Hxb_220 := Lib.hid (Hxb_162.out.below hb0 (by omega))
        have HT3_221 := Lib.hid (HT3_163.out.below hb0)
        have Hxc_222 := Lib.hid (Hxc_164.out.below hb0 (by omega))
        have HT4_223 := Lib.hid (HT4_165.out.below hb0)
        have Hxd_224 := Lib.hid (Hxd_166.out.below hb0 (by omega))
        have HTx_225 := Lib.hid (HTx_167.out.below hb0)
        have Hxx_226 := Lib.hid (Hxx_168.out.below hb0 (by omega))
        have HTy_227 := Lib.hid (HTy_169.out.below hb0)
        have Hxy_228 := Lib.hid (Hxy_170.out.below hb0 (by omega))
        have HTu_229 := Lib.hid (HTu_171.out.below hb0)
        have Hxu_230 := Lib.hid (Hxu_172.out.below hb0 (by omega))
        have HTv_231 := Lib.hid (HTv_173.out.below hb0)
        clear Hbel_158 HTa_159 HTb_160 Hxa_161 Hxb_162 HT3_163 Hxc_164 HT4_165 Hxd_166 HTx_167 Hxx_168 HTy_169 Hxy_170 HTu_171 Hxu_172 HTv_173
        have Hxv_232 := Lib.hid (hx0)
        clear hb0 hx0
        have hl_233 := hlt
        clear hlt
        refine (trees_any _ (HTab.out _ Hbel_216.out)).mono ?_
        rintro e wz ⟨rfl, hbz⟩
        have HBz := Lib.hid (Hbel_216.out.trans (hbz.mono (by omega)))
        clear hbz
        go_wp2_with fail
        go_ret
        exact ⟨rfl, HBz.out⟩
      | true =>
        cases o4 with
        | false =>
          go_wp2_with fail
          obtain ⟨W234_0, hW234_0⟩ : ∃ xW, xW = w7.alloc (.cells #[.slice v.AV v.vec.length v.cv, .slice v.A v.es.length v.c] 34) := ⟨_, rfl⟩
          have hZ234_0 : W234_0.heap.size = w7.heap.size + 1 := by rw [hW234_0]; simp
          have hx0 : Bx W234_0 (w7.heap.size) [.slice v.AV v.vec.length v.cv, .slice v.A v.es.length v.c] := by rw [hW234_0]; exact Bx.new' _ _ _ _ rfl
          have hb0 : Below w7.heap.size w7 W234_0 := by rw [hW234_0]; exact ((Below.refl _ _).alloc (by first | exact Nat.le_refl _ | (simp; done) | (simp; omega)) _)
          have hlt : w7.heap.size + 0 < W234_0.heap.size := by omega
          rw [← hW234_0]
          clear hW234_0 hZ234_0
          have z_235 := hb0.size
          have Hbel_236 := Lib.hid (Hbel_158.out.trans (hb0.mono (by omega)))
          have HTa_237 := Lib.hid (HTa_159.out.below hb0)
          have HTb_238 := Lib.hid (HTb_160.out.below hb0)
          have Hxa_239 := Lib.hid (Hxa_161.out.below hb0 (by omega))
          have Hxb_240 := Lib.hid (Hxb_162.out.below hb0 (by omega))
          have HT3_241 := Lib.hid (HT3_163.out.below hb0)
          have Hxc_242 := Lib.hid (Hxc_164.out.below hb0 (by omega))
          have HT4_243 := Lib.hid (HT4_165.out.below hb0)
          have Hxd_244 := Lib.hid (Hxd_166.out.below hb0 (by omega))
          have HTx_245 := Lib.hid (HTx_167.out.below hb0)
          have Hxx_246 := Lib.hid (Hxx_168.out.below hb0 (by omega))
          have HTy_247 := Lib.hid (HTy_169.out.below hb0)
          have Hxy_248 := Lib.hid (Hxy_170.out.below hb0 (by omega))
          have HTu_249 := Lib.hid (HTu_171.out.below hb0)
          have Hxu_250 := Lib.hid (Hxu_172.out.below hb0 (by omega))
          have HTv_251 := Lib.hid (HTv_173.out.below hb0)
          clear Hbel_158 HTa_159 HTb_160 Hxa_161 Hxb_162 HT3_163 Hxc_164 HT4_165 Hxd_166 HTx_167 Hxx_168 HTy_169 Hxy_170 HTu_171 Hxu_172 HTv_173
          have Hxv_252 := Lib.hid (hx0)
          clear hb0 hx0
          have hl_253 := hlt
          clear hlt
          refine (trees_any _ (HTab.out _ Hbel_236.out)).mono ?_
          rintro e wz ⟨rfl, hbz⟩
          have HBz := Lib.hid (Hbel_236.out.trans (hbz.mono (by omega)))
          clear hbz
          go_wp2_with fail
          go_ret
          exact ⟨rfl, HBz.out⟩
        | true =>
          have qxy_0 := Hxy_170.out 0 (by simp)
          have qxy_1 := Hxy_170.out 1 (by simp)
          have lxy : w5.heap.size < w7.heap.size := by omega
          simp only [List.getElem_cons_succ, List.getElem_cons_zero] at qxy_0 qxy_1
          go_wp2_with fail
          clear qxy_0 qxy_1 lxy
          obtain ⟨W254_0, hW254_0⟩ : ∃ xW, xW = w7.alloc (.cells #[.slice v.AV v.vec.length v.cv, .slice v.A v.es.length v.c] 34) := ⟨_, rfl⟩
          have hZ254_0 : W254_0.heap.size = w7.heap.size + 1 := by rw [hW254_0]; simp
          have hx0 : Bx W254_0 (w7.heap.size) [.slice v.AV v.vec.length v.cv, .slice v.A v.es.length v.c] := by rw [hW254_0]; exact Bx.new' _ _ _ _ rfl
          have hb0 : Below w7.heap.size w7 W254_0 := by rw [hW254_0]; exact ((Below.refl _ _).alloc (by first | exact Nat.le_refl _ | (simp; done) | (simp; omega)) _)
          have hlt : w7.heap.size + 0 < W254_0.heap.size := by omega
          rw [← hW254_0]
          clear hW254_0 hZ254_0
          have z_255 := hb0.size
          have Hbel_256 := Lib.hid (Hbel_158.out.trans (hb0.mono (by omega)))
          have HTa_257 := Lib.hid (HTa_159.out.below hb0)
          have HTb_258 := Lib.hid (HTb_160.out.below hb0)
          have Hxa_259 := Lib.hid (Hxa_161.out.below hb0 (by omega))
          have Hxb_260 := Lib.hid (Hxb_162.out.below hb0 (by omega))
          have HT3_261 := Lib.hid (HT3_163.out.below hb0)
          have Hxc_262 := Lib.hid (Hxc_164.out.below hb0 (by omega))
          have HT4_263 := Lib.hid (HT4_165.out.below hb0)
          have Hxd_264 := Lib.hid (Hxd_166.out.below hb0 (by omega))
          have HTx_265 := Lib.hid (HTx_167.out.below hb0)
          have Hxx_266 := Lib.hid (Hxx_168.out.below hb0 (by omega))
          have HTy_267 := Lib.hid (HTy_169.out.below hb0)
          have Hxy_268 := Lib.hid (Hxy_170.out.below hb0 (by omega))
          have HTu_269 := Lib.hid (HTu_171.out.below hb0)
          have Hxu_270 := Lib.hid (Hxu_172.out.below hb0 (by omega))
          have HTv_271 := Lib.hid (HTv_173.out.below hb0)
          clear Hbel_158 HTa_159 HTb_160 Hxa_161 Hxb_162 HT3_163 Hxc_164 HT4_165 Hxd_166 HTx_167 Hxx_168 HTy_169 Hxy_170 HTu_171 Hxu_172 HTv_173
          have Hxv_272 := Lib.hid (hx0)
          clear hb0 hx0
          have hl_273 := hlt
          clear hlt
          have hS := assoc_same HETx.out HETy.out HETu.out HETv.out HOo1.out HOo2.out HOo3.out HOo4.out
          refine (sameX_true HTy_267.out HTv_271.out hS.1 hS.2).mono ?_
          rintro e w8 ⟨rfl, hb⟩
          have z_274 := hb.size
          have Hbel_275 := Lib.hid (Hbel_256.out.trans (hb.mono (by omega)))
          have HTa_276 := Lib.hid (HTa_257.out.below hb)
          have HTb_277 := Lib.hid (HTb_258.out.below hb)
          have Hxa_278 := Lib.hid (Hxa_259.out.below hb (by omega))
          have Hxb_279 := Lib.hid (Hxb_260.out.below hb (by omega))
          have HT3_280 := Lib.hid (HT3_261.out.below hb)
          have Hxc_281 := Lib.hid (Hxc_262.out.below hb (by omega))
          have HT4_282 := Lib.hid (HT4_263.out.below hb)
          have Hxd_283 := Lib.hid (Hxd_264.out.below hb (by omega))
          have HTx_284 := Lib.hid (HTx_265.out.below hb)
          have Hxx_285 := Lib.hid (Hxx_266.out.below hb (by omega))
          have HTy_286 := Lib.hid (HTy_267.out.below hb)
          have Hxy_287 := Lib.hid (Hxy_268.out.below hb (by omega))
          have HTu_288 := Lib.hid (HTu_269.out.below hb)
          have Hxu_289 := Lib.hid (Hxu_270.out.below hb (by omega))
          have HTv_290 := Lib.hid (HTv_271.out.below hb)
          have Hxv_291 := Lib.hid (Hxv_272.out.below hb (by omega))
          clear Hbel_256 HTa_257 HTb_258 Hxa_259 Hxb_260 HT3_261 Hxc_262 HT4_263 Hxd_264 HTx_265 Hxx_266 HTy_267 Hxy_268 HTu_269 Hxu_270 HTv_271 Hxv_272
          clear hb
          go_wp2_with fail
          refine (trees_any _ (HTab.out _ Hbel_275.out)).mono ?_
          rintro e wz ⟨rfl, hbz⟩
          have HBz := Lib.hid (Hbel_275.out.trans (hbz.mono (by omega)))
          clear hbz
          go_wp2_with fail
          go_ret
          exact ⟨rfl, HBz.out⟩

end Go.Proofs.YtepkicgnhjaokaaDoor

namespace Go.Proofs.YtepkicgnhjaokaaDoor
open Go.ChangeShapes Go.WideShapes Go.ChangeAt Go.RowKit

theorem Tryd.ownFnAssoc : ownKnob Tryd.prog.godebug = none := by kernel_rfl

set_option maxRecDepth 100000 in
theorem fnAssoc_lifted (os : Os) (started : os.Started) (H : Type) (enc : TypeId × Value → H) :
    ReturnsInHanded {} Tryd.checked os 4 .any (fun w args => (Rows.fnAssocSpec.pre enc Tryd.prog Tryd.f4 [] false w args ∧ laidMetH Tryd.prog laid3 w) ∧ sizedMet enc Tryd.prog Tryd.f4 (OpenSpec.ofChange Rows.fnAssocSpec) false w args)
      (Rows.fnAssocSpec.post enc Tryd.prog Tryd.f4 false true false false) := by
  refine returnsInHanded_of_change_and (C := Tryd.checked) (X := fun w _ => laidMetH Tryd.prog laid3 w) (fun _ _ _ hh h => h.of_heap hh) Tryd.ownFnAssoc started (by kernel_rfl) Tryd.func4
    (ChangeSpec.witness_shaped (enc := enc) (C := Tryd.checked) (os := os) (X := fun w _ => laidMetH Tryd.prog laid3 w) false (World.doorLaid Tryd.prog 24 os) #[.slice none 0 0] 8 rfl (World.shaped_of_RefB (by kernel_rfl) (by kernel_rfl)) (by kernel_rfl) (by kernel_rfl) (by kernel_rfl) (door_met os _)) ?_
  intro W base args ds gs before hval0 hW _ _ hL _
  have hval : ∀ (j : Nat) t v, Tryd.f4.params[j]? = some t → args[j]? = some v → Value.okWide Tryd.prog W .any base t v := hval0
  have hW' := hW
  obtain ⟨p, q, hA0, hV, rfl, _, _⟩ := hW
  have hA : DataW.TrodAll enc Tryd.prog W 0 (fun _ => true) true Tryd.f4.params.toList args.toList ds p := hA0
  rw [Tryd.params4] at hA hval
  obtain ⟨v0, d0, rfl, rfl, h0⟩ := trodAll_one hA
  obtain ⟨rfl, rfl⟩ := trodVars_none hV
  have h0k := h0
  obtain ⟨A, l, c, rfl, hlen, hts⟩ := open_byteS (hval 0 22 v0 rfl rfl) h0
  clear hA0 hval0
  have htab := pow10_of_laid hL
  simp only [List.append_nil] at hW'
  have hlt : ∀ x ∈ p, x.block < W.heap.size := fun x hx => by simpa using hW'.lt x (by simp [hx])
  refine (fnAssoc_any A c l W hts hlen htab).mono fun e W' ⟨he, hb⟩ => ?_
  subst he
  exact ⟨_, rfl, _, _, _, [], p, [], hW', trodAll_mk1 (shut_bool Tryd.underlying4 _), trodAll_mk1 (Below.trod Tryd.laidOut (by kernel_rfl) (of_decide_eq_true (by kernel_rfl)) h0k hb hlt), rfl, hb.frame _, fun h => by cases h⟩

theorem fnAssoc_holds : Rows.FnAssocSaid :=
  OpenClaim.holds_of_wide 4 Tryd.f4 rfl rfl rfl rfl rfl rfl rfl ⟨rfl, rfl, rfl, rfl, rfl⟩ rfl rfl rfl rfl rfl (by kernel_rfl) Tryd.func4 (by kernel_rfl)
    (of_decide_eq_true (by kernel_rfl)) (by unfold Func.isWrapper; first | (rw [if_pos (by decide +kernel)]; kernel_rfl) | (rw [if_neg (by decide +kernel)]; exact ⟨rfl, rfl⟩))
    (fun os started H enc _ => fnAssoc_lifted os started H enc)

end Go.Proofs.YtepkicgnhjaokaaDoor
