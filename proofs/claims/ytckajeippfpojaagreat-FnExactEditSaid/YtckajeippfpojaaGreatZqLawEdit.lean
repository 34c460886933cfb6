import Derived.Test.YtckajeippfpojaaGreatZqGB
import Derived.Test.YtckajeippfpojaaGreatZqGDn
import Derived.Test.YtckajeippfpojaaGreatZqGEd
import Derived.Deep.RegionHeld3
namespace Go.Proofs.YtckajeippfpojaaGreat
open Go.RowKit Go.Maps
set_option maxRecDepth 100000 in
set_option maxHeartbeats 8000000 in
theorem lawEdit_any (AL:Option Addr) (ts:List Tm) (cL:Nat) (id:Int) (AV:Option Addr) (vec:List Int) (cv:Nat) (A:Option Addr) (es:List En) (c:Nat) (AH:Option Addr) (hs:List Mn) (ch:Nat) (al:Bool) (AP:Option Addr) (ps:List Mn) (cp:Nat) (B:Option Addr) (l:List UInt8) (cb:Nat) (val:Int) (w:World) (hTAL:TmsIn w 0 w.heap.size AL ts) (nTAL:ts.length≤9223372036854775807) (hVA:IntsIn w 0 w.heap.size AV vec) (hEA:EnsIn w 0 w.heap.size A es) (hHA:MnsIn w 0 w.heap.size AH hs) (hPA:MnsIn w 0 w.heap.size AP ps) (nVA:vec.length≤9223372036854775807) (nEA:es.length≤9223372036854775807) (nBA:∀i (hi:i < es.length),es[i].name.length≤9223372036854775807) (nHA:hs.length≤9223372036854775807) (sHA:MnsSz hs) (nPA:ps.length≤9223372036854775807) (sPA:MnsSz ps) (hB:BytesIn w 0 w.heap.size B l) (nB:l.length≤9223372036854775807) :
    Calls Tryz.prog 5 #[.agg #[.slice AL ts.length cL],.agg #[.int .i64 id,.slice AV vec.length cv,.slice A es.length c,.slice AH hs.length ch,.bool al,.slice AP ps.length cp],.slice B l.length cb,.int .i64 val] w fun e w'=>e=.returned (.bool true)∧Below w.heap.size w w':=by
  have HTAL:=hd' hTAL
  have HVA:=hd' hVA
  have HEA:=hd' hEA
  have HHA:=hd' hHA
  have HPA:=hd' hPA
  have HnBA:=hd' nBA
  have HsHA:=hd' sHA
  have HsPA:=hd' sPA
  have HB:=hd' hB
  have HBel:=hd' (Below.refl w.heap.size w)
  clear hTAL hVA hEA hHA hPA nBA sHA sPA hB
  have z0:w.heap.size≤w.heap.size:=Nat.le_refl _
  go_enter Tryz.func5,Tryz.ntmps5
  by_cases qB:(1048576:Int) < l.length
  · go_wp2_with fail
    all_goals go_ret
    all_goals exact ⟨rfl,by repeat first|exact HBel.out|(refine Below.alloc ?_ (by first|exact Nat.le_refl _|(simp;done)|(simp;omega)) _)⟩
  have rB:l.length≤1048576:=by omega
  go_wp2_with fail
  obtain ⟨v1,hw1⟩:∃x,x=w.alloc (.cells #[.slice AL ts.length cL] 24):=⟨_,rfl⟩
  have hbx:Below w.heap.size w v1:=by rw [hw1];exact (Below.refl _ _).alloc (Nat.le_refl _) _
  have z1:w.heap.size < v1.heap.size:=by rw [hw1];simp
  have HEs1:=hd' (show v1.heap.size=w.heap.size+1 by rw [hw1];simp)
  have HNb1:=hd' (show Bx v1 (w.heap.size) [.slice AL ts.length cL] by rw [hw1];exact Bx.new' _ _ _ _ rfl)
  rw [←hw1]
  clear hw1
  have HTAL_1:=hd' (HTAL.out.keep fun p _ hp=>hbx.cell (by omega))
  have HVA_1:=hd' (HVA.out.keep fun p _ hp=>hbx.cell (by omega))
  have HEA_1:=hd' (HEA.out.keep fun p _ hp=>hbx.cell (by omega))
  have HHA_1:=hd' (HHA.out.keep fun p _ hp=>hbx.cell (by omega))
  have HPA_1:=hd' (HPA.out.keep fun p _ hp=>hbx.cell (by omega))
  have HB_1:=hd' (HB.out.keep fun p _ hp=>hbx.cell (by omega))
  have Hbel_1:=hd' (HBel.out.trans (hbx.mono (by omega)))
  clear HTAL HVA HEA HHA HPA HB HBel
  clear hbx
  obtain ⟨v2,hw2⟩:∃x,x=v1.alloc (.cells #[.int .i64 id,.slice AV vec.length cv,.slice A es.length c,.slice AH hs.length ch,.bool al,.slice AP ps.length cp] 52):=⟨_,rfl⟩
  have hbx:Below v1.heap.size v1 v2:=by rw [hw2];exact (Below.refl _ _).alloc (Nat.le_refl _) _
  have z2:v1.heap.size < v2.heap.size:=by rw [hw2];simp
  have HEs2:=hd' (show v2.heap.size=w.heap.size+1+1 by rw [hw2,←HEs1.out];simp)
  have HNb2:=hd' (show Bx v2 (w.heap.size+1) [.int .i64 id,.slice AV vec.length cv,.slice A es.length c,.slice AH hs.length ch,.bool al,.slice AP ps.length cp] by rw [hw2,←HEs1.out];exact Bx.new' _ _ _ _ rfl)
  have hat2:w.heap.size+1=v1.heap.size:=HEs1.out.symm
  rw [←hw2]
  clear hw2
  have HTAL_2:=hd' (HTAL_1.out.keep fun p _ hp=>hbx.cell (by omega))
  have HVA_2:=hd' (HVA_1.out.keep fun p _ hp=>hbx.cell (by omega))
  have HEA_2:=hd' (HEA_1.out.keep fun p _ hp=>hbx.cell (by omega))
  have HHA_2:=hd' (HHA_1.out.keep fun p _ hp=>hbx.cell (by omega))
  have HPA_2:=hd' (HPA_1.out.keep fun p _ hp=>hbx.cell (by omega))
  have HB_2:=hd' (HB_1.out.keep fun p _ hp=>hbx.cell (by omega))
  have Hbel_2:=hd' (Hbel_1.out.trans (hbx.mono (by omega)))
  have HBAL_2:=hd' (HNb1.out.below hbx (by omega))
  clear HTAL_1 HVA_1 HEA_1 HHA_1 HPA_1 HB_1 Hbel_1 HNb1
  clear hbx
  have hlt2:w.heap.size+1 < v2.heap.size:=by omega
  clear hat2
  refine (szLedger_any AL ts cL _ v2 (HTAL_2.out.mono (by omega)) nTAL (by omega) (by omega)).mono ?_
  rintro e v3 ⟨r3,rfl,hsz,hb⟩
  have z3:=hb.size
  have HS3:=hd' hsz
  have HTAL_3:=hd' (HTAL_2.out.keep fun p _ hp=>hb.cell (by omega))
  have HVA_3:=hd' (HVA_2.out.keep fun p _ hp=>hb.cell (by omega))
  have HEA_3:=hd' (HEA_2.out.keep fun p _ hp=>hb.cell (by omega))
  have HHA_3:=hd' (HHA_2.out.keep fun p _ hp=>hb.cell (by omega))
  have HPA_3:=hd' (HPA_2.out.keep fun p _ hp=>hb.cell (by omega))
  have HB_3:=hd' (HB_2.out.keep fun p _ hp=>hb.cell (by omega))
  have Hbel_3:=hd' (Hbel_2.out.trans (hb.mono (by omega)))
  have HBAL_3:=hd' (HBAL_2.out.below hb (by omega))
  have HBA_3:=hd' (HNb2.out.below hb (by omega))
  clear HTAL_2 HVA_2 HEA_2 HHA_2 HPA_2 HB_2 Hbel_2 HBAL_2 HNb2
  clear hb hsz
  by_cases hr3:r3 < 0
  · go_wp2_with fail
    all_goals go_ret
    all_goals exact ⟨rfl,Hbel_3.out⟩
  have hp3:0≤r3:=by omega
  have hs3:r3+(ts.length+bulk ts)≤1048576:=by have:=HS3.out;unfold SzOk at this;omega
  have htlAL:ts.length≤1048576:=by omega
  have htbAL:bulk ts≤1048576:=by omega
  have hrl3:r3≤1048576:=by omega
  clear hr3 HS3 hs3
  have qBA_0:=HBA_3.out 0 (by simp)
  have qBA_1:=HBA_3.out 1 (by simp)
  have qBA_2:=HBA_3.out 2 (by simp)
  have qBA_3:=HBA_3.out 3 (by simp)
  have qBA_4:=HBA_3.out 4 (by simp)
  have qBA_5:=HBA_3.out 5 (by simp)
  simp only [List.getElem_cons_succ,List.getElem_cons_zero] at qBA_0 qBA_1 qBA_2 qBA_3 qBA_4 qBA_5
  have lqBA:w.heap.size+1 < v3.heap.size:=by omega
  go_wp2_with fail
  refine (szDevice_any id AV vec cv A es c AH hs ch al AP ps cp _ v3 (HEA_3.out.mono (by omega)) (HHA_3.out.mono (by omega)) (HPA_3.out.mono (by omega)) nVA nEA HnBA.out nHA HsHA.out nPA HsPA.out (by omega) (by omega)).mono ?_
  rintro e v4 ⟨r4,rfl,hsz,hb⟩
  have z4:=hb.size
  have HS4:=hd' hsz
  have HTAL_4:=hd' (HTAL_3.out.keep fun p _ hp=>hb.cell (by omega))
  have HVA_4:=hd' (HVA_3.out.keep fun p _ hp=>hb.cell (by omega))
  have HEA_4:=hd' (HEA_3.out.keep fun p _ hp=>hb.cell (by omega))
  have HHA_4:=hd' (HHA_3.out.keep fun p _ hp=>hb.cell (by omega))
  have HPA_4:=hd' (HPA_3.out.keep fun p _ hp=>hb.cell (by omega))
  have HB_4:=hd' (HB_3.out.keep fun p _ hp=>hb.cell (by omega))
  have Hbel_4:=hd' (Hbel_3.out.trans (hb.mono (by omega)))
  have HBAL_4:=hd' (HBAL_3.out.below hb (by omega))
  have HBA_4:=hd' (HBA_3.out.below hb (by omega))
  clear qBA_0 qBA_1 qBA_2 qBA_3 qBA_4 qBA_5 lqBA
  clear HTAL_3 HVA_3 HEA_3 HHA_3 HPA_3 HB_3 Hbel_3 HBAL_3 HBA_3
  clear hb hsz
  by_cases hr4:r4 < 0
  · go_wp2_with fail
    all_goals go_ret
    all_goals exact ⟨rfl,Hbel_4.out⟩
  have hp4:0≤r4:=by omega
  have hs4:r4+((vec.length+(es.length+ebulk es))+((hs.length+mbulk hs)+(ps.length+mbulk ps)))≤1048576:=by have:=HS4.out;unfold SzOk dsz at this;omega
  have hvlA:vec.length≤1048576:=by omega
  have helA:es.length≤1048576:=by omega
  have hblA:ebulk es≤1048576:=by omega
  have hhlA:hs.length≤1048576:=by omega
  have hhbA:mbulk hs≤1048576:=by omega
  have hplA:ps.length≤1048576:=by omega
  have hpbA:mbulk ps≤1048576:=by omega
  have hrl4:r4≤1048576:=by omega
  clear hr4 HS4 hs4
  have qBAL_0:=HBAL_4.out 0 (by simp)
  have qBA_0:=HBA_4.out 0 (by simp)
  have qBA_1:=HBA_4.out 1 (by simp)
  have qBA_2:=HBA_4.out 2 (by simp)
  have qBA_3:=HBA_4.out 3 (by simp)
  have qBA_4:=HBA_4.out 4 (by simp)
  have qBA_5:=HBA_4.out 5 (by simp)
  simp only [List.getElem_cons_succ,List.getElem_cons_zero] at qBAL_0 qBA_0 qBA_1 qBA_2 qBA_3 qBA_4 qBA_5
  have lqBAL:w.heap.size < v4.heap.size:=by omega
  have lqBA:w.heap.size+1 < v4.heap.size:=by omega
  have HC5:=hd' (show ∀X,Sw v4 X→X.cell? ⟨w.heap.size,0,none⟩=some (.slice AL ts.length cL)∧X.cell? ⟨w.heap.size+1,0,none⟩=some (.int .i64 id)∧X.cell? ⟨w.heap.size+1,1,none⟩=some (.slice AV vec.length cv)∧X.cell? ⟨w.heap.size+1,2,none⟩=some (.slice A es.length c)∧X.cell? ⟨w.heap.size+1,3,none⟩=some (.slice AH hs.length ch)∧X.cell? ⟨w.heap.size+1,4,none⟩=some (.bool al)∧X.cell? ⟨w.heap.size+1,5,none⟩=some (.slice AP ps.length cp) from fun X hX=>⟨(Below.cell hX (p:=⟨w.heap.size,0,none⟩) lqBAL).trans qBAL_0,(Below.cell hX (p:=⟨w.heap.size+1,0,none⟩) lqBA).trans qBA_0,(Below.cell hX (p:=⟨w.heap.size+1,1,none⟩) lqBA).trans qBA_1,(Below.cell hX (p:=⟨w.heap.size+1,2,none⟩) lqBA).trans qBA_2,(Below.cell hX (p:=⟨w.heap.size+1,3,none⟩) lqBA).trans qBA_3,(Below.cell hX (p:=⟨w.heap.size+1,4,none⟩) lqBA).trans qBA_4,(Below.cell hX (p:=⟨w.heap.size+1,5,none⟩) lqBA).trans qBA_5⟩)
  go_upto_region 10 with fail
  go_cut [10,11] from 35 to 45 (fun s6 s7 wx=>CutDv v4 (.bool (ediB ts id vec es hs al ps l val)) (edI (ediB ts id vec es hs al ps l val) id) (edV (ediB ts id vec es hs al ps l val) (puVec vec es id l val)) (edE (ediB ts id vec es hs al ps l val) (puEs vec es id l val)) (edM (ediB ts id vec es hs al ps l val) hs) (false) (noMs) s6 s7 wx)
  case first =>
    have mk0:True:=trivial
    have mk1:True:=trivial
    have mk2:True:=trivial
    go_region_held3 (fun X=>X.cell? ⟨w.heap.size,0,none⟩=some (.slice AL ts.length cL)∧X.cell? ⟨w.heap.size+1,0,none⟩=some (.int .i64 id)∧X.cell? ⟨w.heap.size+1,1,none⟩=some (.slice AV vec.length cv)∧X.cell? ⟨w.heap.size+1,2,none⟩=some (.slice A es.length c)∧X.cell? ⟨w.heap.size+1,3,none⟩=some (.slice AH hs.length ch)∧X.cell? ⟨w.heap.size+1,4,none⟩=some (.bool al)∧X.cell? ⟨w.heap.size+1,5,none⟩=some (.slice AP ps.length cp))
      (first|(refine HC5.out _ ?_;repeat first|with_reducible exact Sw.refl _|with_reducible exact HS0.out|with_reducible exact HS1.out|with_reducible exact HS2.out|with_reducible exact HS3.out|with_reducible apply Sw.drew|with_reducible apply Sw.alloc|with_reducible refine Sw.set ?_ (by first|exact Nat.le_refl _|omega) _))
      (first
        | (clear mk0;go_at_call 15
           refine (toLedger_any AL ts cL _ ((HTAL_4.out.keep fun p _ hp=>?_).mono ?_) htlAL htbAL).mono ?_
           · refine Below.cell (w:=v4) (B:=v4.heap.size) ?_ (by omega)
             show Sw v4 _
             repeat first|with_reducible exact Sw.refl _|with_reducible exact HS0.out|with_reducible exact HS1.out|with_reducible exact HS2.out|with_reducible exact HS3.out|with_reducible apply Sw.drew|with_reducible apply Sw.alloc
           · refine Nat.le_trans (show w.heap.size≤v4.heap.size by omega) (Below.size (w:=v4) (B:=v4.heap.size) ?_)
             show Sw v4 _
             repeat first|with_reducible exact Sw.refl _|with_reducible exact HS0.out|with_reducible exact HS1.out|with_reducible exact HS2.out|with_reducible exact HS3.out|with_reducible apply Sw.drew|with_reducible apply Sw.alloc
           rintro e y0 ⟨gty0,rfl,_,hown0,hbp0⟩
           have HS0:=hd' (show Sw v4 y0 from Sw.below (by repeat first|with_reducible exact Sw.refl _|with_reducible exact HS0.out|with_reducible exact HS1.out|with_reducible exact HS2.out|with_reducible exact HS3.out|with_reducible apply Sw.drew|with_reducible apply Sw.alloc) hbp0)
           have hzs0:=Below.size HS0.out
           have HMc0_0:=hd' (show TmsIn y0 v4.heap.size y0.heap.size (some ⟨gty0,0,none⟩) ts from hown0.low (Below.size (show Sw v4 _ from by repeat first|with_reducible exact Sw.refl _|with_reducible exact HS0.out|with_reducible exact HS1.out|with_reducible exact HS2.out|with_reducible exact HS3.out|with_reducible apply Sw.drew|with_reducible apply Sw.alloc)))
           try (have HZ:=hd' (BxH.new1 hbp0))
           try (have HZ:=hd' (BxH.new2 hbp0))
           try (have hzl0:=HZ.out.2.2)
           obtain ⟨s0_0,s0_1,s0_2,s0_3,s0_4,s0_5,s0_6⟩:=HC5.out y0 HS0.out
           have lzBAL_0:w.heap.size < y0.heap.size:=by omega
           have lzBA_0:w.heap.size+1 < y0.heap.size:=by omega
           clear hown0 hbp0)
        | (clear mk1;go_at_call 26
           refine (toDevice_own id AV vec cv A es c AH hs ch al AP ps cp _ ((HVA_4.out.keep fun p _ hp=>?_).mono ?_) ((HEA_4.out.keep fun p _ hp=>?_).mono ?_) ((HHA_4.out.keep fun p _ hp=>?_).mono ?_) ((HPA_4.out.keep fun p _ hp=>?_).mono ?_) hvlA helA hblA hhlA hhbA hplA hpbA).mono ?_
           · refine Below.cell (w:=v4) (B:=v4.heap.size) ?_ (by omega)
             show Sw v4 _
             repeat first|with_reducible exact Sw.refl _|with_reducible exact HS0.out|with_reducible exact HS1.out|with_reducible exact HS2.out|with_reducible exact HS3.out|with_reducible apply Sw.drew|with_reducible apply Sw.alloc
           · refine Nat.le_trans (show w.heap.size≤v4.heap.size by omega) (Below.size (w:=v4) (B:=v4.heap.size) ?_)
             show Sw v4 _
             repeat first|with_reducible exact Sw.refl _|with_reducible exact HS0.out|with_reducible exact HS1.out|with_reducible exact HS2.out|with_reducible exact HS3.out|with_reducible apply Sw.drew|with_reducible apply Sw.alloc
           · refine Below.cell (w:=v4) (B:=v4.heap.size) ?_ (by omega)
             show Sw v4 _
             repeat first|with_reducible exact Sw.refl _|with_reducible exact HS0.out|with_reducible exact HS1.out|with_reducible exact HS2.out|with_reducible exact HS3.out|with_reducible apply Sw.drew|with_reducible apply Sw.alloc
           · refine Nat.le_trans (show w.heap.size≤v4.heap.size by omega) (Below.size (w:=v4) (B:=v4.heap.size) ?_)
             show Sw v4 _
             repeat first|with_reducible exact Sw.refl _|with_reducible exact HS0.out|with_reducible exact HS1.out|with_reducible exact HS2.out|with_reducible exact HS3.out|with_reducible apply Sw.drew|with_reducible apply Sw.alloc
           · refine Below.cell (w:=v4) (B:=v4.heap.size) ?_ (by omega)
             show Sw v4 _
             repeat first|with_reducible exact Sw.refl _|with_reducible exact HS0.out|with_reducible exact HS1.out|with_reducible exact HS2.out|with_reducible exact HS3.out|with_reducible apply Sw.drew|with_reducible apply Sw.alloc
           · refine Nat.le_trans (show w.heap.size≤v4.heap.size by omega) (Below.size (w:=v4) (B:=v4.heap.size) ?_)
             show Sw v4 _
             repeat first|with_reducible exact Sw.refl _|with_reducible exact HS0.out|with_reducible exact HS1.out|with_reducible exact HS2.out|with_reducible exact HS3.out|with_reducible apply Sw.drew|with_reducible apply Sw.alloc
           · refine Below.cell (w:=v4) (B:=v4.heap.size) ?_ (by omega)
             show Sw v4 _
             repeat first|with_reducible exact Sw.refl _|with_reducible exact HS0.out|with_reducible exact HS1.out|with_reducible exact HS2.out|with_reducible exact HS3.out|with_reducible apply Sw.drew|with_reducible apply Sw.alloc
           · refine Nat.le_trans (show w.heap.size≤v4.heap.size by omega) (Below.size (w:=v4) (B:=v4.heap.size) ?_)
             show Sw v4 _
             repeat first|with_reducible exact Sw.refl _|with_reducible exact HS0.out|with_reducible exact HS1.out|with_reducible exact HS2.out|with_reducible exact HS3.out|with_reducible apply Sw.drew|with_reducible apply Sw.alloc
           rintro e y1 ⟨gvy1,gey1,ghy1,gpy1,rfl,_,hown1,hbp1⟩
           have HS1:=hd' (show Sw v4 y1 from Sw.below (by repeat first|with_reducible exact Sw.refl _|with_reducible exact HS0.out|with_reducible exact HS1.out|with_reducible exact HS2.out|with_reducible exact HS3.out|with_reducible apply Sw.drew|with_reducible apply Sw.alloc) hbp1)
           have hzs1:=Below.size HS1.out
           have HMc1_1:=hd' (show DvOwn y1 v4.heap.size y1.heap.size (some ⟨gvy1,0,none⟩) vec (some ⟨gey1,0,none⟩) es (some ⟨ghy1,0,none⟩) hs (some ⟨gpy1,0,none⟩) ps from hown1.mono (Below.size (show Sw v4 _ from by repeat first|with_reducible exact Sw.refl _|with_reducible exact HS0.out|with_reducible exact HS1.out|with_reducible exact HS2.out|with_reducible exact HS3.out|with_reducible apply Sw.drew|with_reducible apply Sw.alloc)) (Nat.le_refl _))
           have HW1:=hd' (show Sw y0 y1 from Sw.below (by repeat first|with_reducible exact Sw.refl _|with_reducible apply Sw.drew|with_reducible apply Sw.alloc) hbp1)
           have hzw1:=Below.size HW1.out
           have HMc0_1:=hd' (show TmsIn y1 v4.heap.size y0.heap.size (some ⟨gty0,0,none⟩) ts from HMc0_0.out.keep fun p _ hq=>Below.cell HW1.out (by omega))
           try (have HZ:=hd' (BxH.below HZ.out (Sw.below (by repeat first|with_reducible exact Sw.refl _|with_reducible apply Sw.drew|with_reducible apply Sw.alloc) hbp1)))
           try (have HZ:=hd' (BxH.new1 hbp1))
           try (have HZ:=hd' (BxH.new2 hbp1))
           try (have hzl1:=HZ.out.2.2)
           obtain ⟨s1_0,s1_1,s1_2,s1_3,s1_4,s1_5,s1_6⟩:=HC5.out y1 HS1.out
           have lzBAL_1:w.heap.size < y1.heap.size:=by omega
           have lzBA_1:w.heap.size+1 < y1.heap.size:=by omega
           clear hown1 hbp1)
        | (clear mk2;go_at_call 30
           refine (toByteS_nf B l cb _ ((HB_4.out.keep fun p _ hp=>?_).mono ?_) rB).mono ?_
           · refine Below.cell (w:=v4) (B:=v4.heap.size) ?_ (by omega)
             show Sw v4 _
             repeat first|with_reducible exact Sw.refl _|with_reducible exact HS0.out|with_reducible exact HS1.out|with_reducible exact HS2.out|with_reducible exact HS3.out|with_reducible apply Sw.drew|with_reducible apply Sw.alloc
           · refine Nat.le_trans (show w.heap.size≤v4.heap.size by omega) (Below.size (w:=v4) (B:=v4.heap.size) ?_)
             show Sw v4 _
             repeat first|with_reducible exact Sw.refl _|with_reducible exact HS0.out|with_reducible exact HS1.out|with_reducible exact HS2.out|with_reducible exact HS3.out|with_reducible apply Sw.drew|with_reducible apply Sw.alloc
           rintro e y2 ⟨gby2,rfl,_,_,hown2,hbp2⟩
           have HS2:=hd' (show Sw v4 y2 from Sw.below (by repeat first|with_reducible exact Sw.refl _|with_reducible exact HS0.out|with_reducible exact HS1.out|with_reducible exact HS2.out|with_reducible exact HS3.out|with_reducible apply Sw.drew|with_reducible apply Sw.alloc) hbp2)
           have hzs2:=Below.size HS2.out
           have HMc2_2:=hd' (show BytesFr y2 v4.heap.size y2.heap.size (some ⟨gby2,0,none⟩) l from hown2.low (Below.size (show Sw v4 _ from by repeat first|with_reducible exact Sw.refl _|with_reducible exact HS0.out|with_reducible exact HS1.out|with_reducible exact HS2.out|with_reducible exact HS3.out|with_reducible apply Sw.drew|with_reducible apply Sw.alloc)))
           have HW2:=hd' (show Sw y1 y2 from Sw.below (by repeat first|with_reducible exact Sw.refl _|with_reducible apply Sw.drew|with_reducible apply Sw.alloc) hbp2)
           have hzw2:=Below.size HW2.out
           have HMc0_2:=hd' (show TmsIn y2 v4.heap.size y0.heap.size (some ⟨gty0,0,none⟩) ts from HMc0_1.out.keep fun p _ hq=>Below.cell HW2.out (by omega))
           have HMc1_2:=hd' (show DvOwn y2 v4.heap.size y1.heap.size (some ⟨gvy1,0,none⟩) vec (some ⟨gey1,0,none⟩) es (some ⟨ghy1,0,none⟩) hs (some ⟨gpy1,0,none⟩) ps from HMc1_1.out.keep fun p hp hq=>⟨Below.cell HW2.out (by omega),Below.frozen HW2.out (by omega)⟩)
           try (have HZ:=hd' (BxH.below HZ.out (Sw.below (by repeat first|with_reducible exact Sw.refl _|with_reducible apply Sw.drew|with_reducible apply Sw.alloc) hbp2)))
           try (have HZ:=hd' (BxH.new1 hbp2))
           try (have HZ:=hd' (BxH.new2 hbp2))
           try (have hzl2:=HZ.out.2.2)
           obtain ⟨s2_0,s2_1,s2_2,s2_3,s2_4,s2_5,s2_6⟩:=HC5.out y2 HS2.out
           have lzBAL_2:w.heap.size < y2.heap.size:=by omega
           have lzBA_2:w.heap.size+1 < y2.heap.size:=by omega
           clear hown2 hbp2)
        | (go_at_call 29
           refine (specEdit_any (some ⟨gty0,0,none⟩) ts ts.length id (some ⟨gvy1,0,none⟩) vec vec.length (some ⟨gey1,0,none⟩) es es.length (some ⟨ghy1,0,none⟩) hs hs.length al (some ⟨gpy1,0,none⟩) ps ps.length (some ⟨gby2,0,none⟩) l l.length val _ (((HMc0_2.out.keep fun p _ hp=>?_).low (Nat.zero_le _)).mono ?_) htlAL htbAL (((HMc1_2.out.tree.vecIn.ints.keep fun p _ hp=>?_).low (Nat.zero_le _)).mono ?_) (((HMc1_2.out.tree.ensIn.ens.keep fun p _ hp=>?_).low (Nat.zero_le _)).mono ?_) ((HMc1_2.out.heads.rd.keep fun p _ hp=>?_).mono (Nat.zero_le _) ?_) ((HMc1_2.out.proof.rd.keep fun p _ hp=>?_).mono (Nat.zero_le _) ?_) hvlA helA hblA hhlA hhbA hplA hpbA (((HMc2_2.out.bytes.keep fun p _ hp=>?_).low (Nat.zero_le _)).mono ?_) rB).mono ?_
           · refine Below.cell (w:=y2) (B:=y2.heap.size) ?_ (by omega)
             show Sw y2 _
             repeat first|with_reducible exact Sw.refl _|with_reducible apply Sw.drew|with_reducible apply Sw.alloc
           · refine Nat.le_trans (show _≤y2.heap.size by omega) (Below.size (w:=y2) (B:=y2.heap.size) ?_)
             show Sw y2 _
             repeat first|with_reducible exact Sw.refl _|with_reducible apply Sw.drew|with_reducible apply Sw.alloc
           · refine Below.cell (w:=y2) (B:=y2.heap.size) ?_ (by omega)
             show Sw y2 _
             repeat first|with_reducible exact Sw.refl _|with_reducible apply Sw.drew|with_reducible apply Sw.alloc
           · refine Nat.le_trans (show _≤y2.heap.size by omega) (Below.size (w:=y2) (B:=y2.heap.size) ?_)
             show Sw y2 _
             repeat first|with_reducible exact Sw.refl _|with_reducible apply Sw.drew|with_reducible apply Sw.alloc
           · refine Below.cell (w:=y2) (B:=y2.heap.size) ?_ (by omega)
             show Sw y2 _
             repeat first|with_reducible exact Sw.refl _|with_reducible apply Sw.drew|with_reducible apply Sw.alloc
           · refine Nat.le_trans (show _≤y2.heap.size by omega) (Below.size (w:=y2) (B:=y2.heap.size) ?_)
             show Sw y2 _
             repeat first|with_reducible exact Sw.refl _|with_reducible apply Sw.drew|with_reducible apply Sw.alloc
           · refine Below.cell (w:=y2) (B:=y2.heap.size) ?_ (by omega)
             show Sw y2 _
             repeat first|with_reducible exact Sw.refl _|with_reducible apply Sw.drew|with_reducible apply Sw.alloc
           · refine Nat.le_trans (show _≤y2.heap.size by omega) (Below.size (w:=y2) (B:=y2.heap.size) ?_)
             show Sw y2 _
             repeat first|with_reducible exact Sw.refl _|with_reducible apply Sw.drew|with_reducible apply Sw.alloc
           · refine Below.cell (w:=y2) (B:=y2.heap.size) ?_ (by omega)
             show Sw y2 _
             repeat first|with_reducible exact Sw.refl _|with_reducible apply Sw.drew|with_reducible apply Sw.alloc
           · refine Nat.le_trans (show _≤y2.heap.size by omega) (Below.size (w:=y2) (B:=y2.heap.size) ?_)
             show Sw y2 _
             repeat first|with_reducible exact Sw.refl _|with_reducible apply Sw.drew|with_reducible apply Sw.alloc
           · refine Below.cell (w:=y2) (B:=y2.heap.size) ?_ (by omega)
             show Sw y2 _
             repeat first|with_reducible exact Sw.refl _|with_reducible apply Sw.drew|with_reducible apply Sw.alloc
           · refine Nat.le_trans (show _≤y2.heap.size by omega) (Below.size (w:=y2) (B:=y2.heap.size) ?_)
             show Sw y2 _
             repeat first|with_reducible exact Sw.refl _|with_reducible apply Sw.drew|with_reducible apply Sw.alloc
           rintro e y3 ⟨AVs,cvs,As,cs,AHs,chs,APs,cps,rfl,howns,_,hbp3⟩
           have HS3:=hd' (show Sw v4 y3 from Sw.below (by repeat first|with_reducible exact Sw.refl _|with_reducible exact HS0.out|with_reducible exact HS1.out|with_reducible exact HS2.out|with_reducible exact HS3.out|with_reducible apply Sw.drew|with_reducible apply Sw.alloc) hbp3)
           have hzs3:=Below.size HS3.out
           have HOs:=hd' howns
           try (have HZ:=hd' (BxH.below HZ.out (Sw.below (by repeat first|with_reducible exact Sw.refl _|with_reducible apply Sw.drew|with_reducible apply Sw.alloc) hbp3)))
           try (have HZ:=hd' (BxH.new1 hbp3))
           try (have HZ:=hd' (BxH.new2 hbp3))
           try (obtain ⟨zb,zf,zlt⟩:=HZ.out;have zc0:=zb 0 (by simp);have zc1:=zb 1 (by simp);have zc2:=zb 2 (by simp);have zc3:=zb 3 (by simp);have zc4:=zb 4 (by simp);have zc5:=zb 5 (by simp);have zf0:=zf 0;have zf1:=zf 1;have zf2:=zf 2;have zf3:=zf 3;have zf4:=zf 4;have zf5:=zf 5;simp only [List.getElem_cons_succ,List.getElem_cons_zero] at zc0 zc1 zc2 zc3 zc4 zc5)
           clear howns hbp3))
    all_goals go_wp2_with fail
    all_goals go_meet
    all_goals first
      | with_reducible exact cutDv_new HOs.out HS3.out (Sw.le (by repeat first|with_reducible exact Sw.refl _|with_reducible exact HS0.out|with_reducible exact HS1.out|with_reducible exact HS2.out|with_reducible exact HS3.out|with_reducible apply Sw.drew|with_reducible apply Sw.alloc))
      | (have hZl:=HZ.out.2.2
         have hr:=cutDv_put (S:=.bool (ediB ts id vec es hs al ps l val)) (id:=edI (ediB ts id vec es hs al ps l val) id) (al:=false) (cv:=cvs) (c:=cs) (ch:=chs) (cp:=cps) HOs.out HS3.out (Sw.le (by repeat first|with_reducible exact Sw.refl _|with_reducible exact HS0.out|with_reducible exact HS1.out|with_reducible exact HS2.out|with_reducible exact HS3.out|with_reducible apply Sw.drew|with_reducible apply Sw.alloc)) HZ.out rfl (by first|exact Nat.le_refl _|omega|(simp;done)|(simp;omega)) (by first|exact Nat.le_refl _|omega|(simp;done)|(simp;omega))
         simp only [putAll] at hr
         exact hr)
  case rest =>
  obtain ⟨bz5,AV5,cv5,A5,c5,AH5,ch5,AP5,cp5,rfl,rfl,hbz5,hbl5,hbx,hown,hb⟩:=hcut
  rename World=>v5
  have z5:=Below.size hb
  have HN5:=hd' hown
  have HNb5:=hd' hbx
  replace hb:Below v4.heap.size v4 v5:=hb
  clear HC5 hbx
  have HTAL_5:=hd' (HTAL_4.out.keep fun p _ hp=>hb.cell (by omega))
  have HVA_5:=hd' (HVA_4.out.keep fun p _ hp=>hb.cell (by omega))
  have HEA_5:=hd' (HEA_4.out.keep fun p _ hp=>hb.cell (by omega))
  have HHA_5:=hd' (HHA_4.out.keep fun p _ hp=>hb.cell (by omega))
  have HPA_5:=hd' (HPA_4.out.keep fun p _ hp=>hb.cell (by omega))
  have HB_5:=hd' (HB_4.out.keep fun p _ hp=>hb.cell (by omega))
  have Hbel_5:=hd' (Hbel_4.out.trans (hb.mono (by omega)))
  have HBAL_5:=hd' (HBAL_4.out.below hb (by omega))
  have HBA_5:=hd' (HBA_4.out.below hb (by omega))
  clear qBAL_0 qBA_0 qBA_1 qBA_2 qBA_3 qBA_4 qBA_5 lqBAL lqBA
  clear HTAL_4 HVA_4 HEA_4 HHA_4 HPA_4 HB_4 Hbel_4 HBAL_4 HBA_4
  clear hb hown
  have qBAL_0:=HBAL_5.out 0 (by simp)
  simp only [List.getElem_cons_zero] at qBAL_0
  have lqBAL:w.heap.size < v5.heap.size:=by omega
  go_wp2_with fail
  refine (toLedger_own AL ts cL v5 (HTAL_5.out.mono (by omega)) htlAL htbAL).mono ?_
  rintro e v6 ⟨gt6,rfl,_,hown,hb⟩
  have z6:=hb.size
  have HN6:=hd' hown
  have HTAL_6:=hd' (HTAL_5.out.keep fun p _ hp=>hb.cell (by omega))
  have HVA_6:=hd' (HVA_5.out.keep fun p _ hp=>hb.cell (by omega))
  have HEA_6:=hd' (HEA_5.out.keep fun p _ hp=>hb.cell (by omega))
  have HHA_6:=hd' (HHA_5.out.keep fun p _ hp=>hb.cell (by omega))
  have HPA_6:=hd' (HPA_5.out.keep fun p _ hp=>hb.cell (by omega))
  have HB_6:=hd' (HB_5.out.keep fun p _ hp=>hb.cell (by omega))
  have Hbel_6:=hd' (Hbel_5.out.trans (hb.mono (by omega)))
  have HBAL_6:=hd' (HBAL_5.out.below hb (by omega))
  have HBA_6:=hd' (HBA_5.out.below hb (by omega))
  have HS_6:=hd' (HN5.out.keep fun p hp hq=>⟨hb.cell (by omega),hb.frozen (by omega)⟩)
  have HSb_6:=hd' (HNb5.out.below hb (by omega))
  clear qBAL_0 lqBAL
  clear HTAL_5 HVA_5 HEA_5 HHA_5 HPA_5 HB_5 Hbel_5 HBAL_5 HBA_5 HN5 HNb5
  clear hb hown
  have qBA_0:=HBA_6.out 0 (by simp)
  have qBA_1:=HBA_6.out 1 (by simp)
  have qBA_2:=HBA_6.out 2 (by simp)
  have qBA_3:=HBA_6.out 3 (by simp)
  have qBA_4:=HBA_6.out 4 (by simp)
  have qBA_5:=HBA_6.out 5 (by simp)
  simp only [List.getElem_cons_succ,List.getElem_cons_zero] at qBA_0 qBA_1 qBA_2 qBA_3 qBA_4 qBA_5
  have lqBA:w.heap.size+1 < v6.heap.size:=by omega
  go_wp2_with fail
  obtain ⟨v7,hw7⟩:∃x,x=v6.alloc (.cells #[.slice (some ⟨gt6,0,none⟩) ts.length ts.length] 35):=⟨_,rfl⟩
  have hbx:Below v6.heap.size v6 v7:=by rw [hw7];exact (Below.refl _ _).alloc (Nat.le_refl _) _
  have z7:v6.heap.size < v7.heap.size:=by rw [hw7];simp
  have HNb7:=hd' (show Bx v7 (v6.heap.size) [.slice (some ⟨gt6,0,none⟩) ts.length ts.length] by rw [hw7];exact Bx.new' _ _ _ _ rfl)
  rw [←hw7]
  clear hw7
  have HTAL_7:=hd' (HTAL_6.out.keep fun p _ hp=>hbx.cell (by omega))
  have HVA_7:=hd' (HVA_6.out.keep fun p _ hp=>hbx.cell (by omega))
  have HEA_7:=hd' (HEA_6.out.keep fun p _ hp=>hbx.cell (by omega))
  have HHA_7:=hd' (HHA_6.out.keep fun p _ hp=>hbx.cell (by omega))
  have HPA_7:=hd' (HPA_6.out.keep fun p _ hp=>hbx.cell (by omega))
  have HB_7:=hd' (HB_6.out.keep fun p _ hp=>hbx.cell (by omega))
  have Hbel_7:=hd' (Hbel_6.out.trans (hbx.mono (by omega)))
  have HBAL_7:=hd' (HBAL_6.out.below hbx (by omega))
  have HBA_7:=hd' (HBA_6.out.below hbx (by omega))
  have HS_7:=hd' (HS_6.out.keep fun p hp hq=>⟨hbx.cell (by omega),hbx.frozen (by omega)⟩)
  have HSb_7:=hd' (HSb_6.out.below hbx (by omega))
  have HX0_7:=hd' (HN6.out.keep fun p hp hq=>⟨hbx.cell (by omega),hbx.frozen (by omega)⟩)
  clear qBA_0 qBA_1 qBA_2 qBA_3 qBA_4 qBA_5 lqBA
  clear HTAL_6 HVA_6 HEA_6 HHA_6 HPA_6 HB_6 Hbel_6 HBAL_6 HBA_6 HS_6 HSb_6 HN6
  clear hbx
  refine (toDevice_own id AV vec cv A es c AH hs ch al AP ps cp v7 (HVA_7.out.mono (by omega)) (HEA_7.out.mono (by omega)) (HHA_7.out.mono (by omega)) (HPA_7.out.mono (by omega)) hvlA helA hblA hhlA hhbA hplA hpbA).mono ?_
  rintro e v8 ⟨gv8,ge8,gh8,gp8,rfl,_,hown,hb⟩
  have z8:=hb.size
  have HN8:=hd' hown
  have HTAL_8:=hd' (HTAL_7.out.keep fun p _ hp=>hb.cell (by omega))
  have HVA_8:=hd' (HVA_7.out.keep fun p _ hp=>hb.cell (by omega))
  have HEA_8:=hd' (HEA_7.out.keep fun p _ hp=>hb.cell (by omega))
  have HHA_8:=hd' (HHA_7.out.keep fun p _ hp=>hb.cell (by omega))
  have HPA_8:=hd' (HPA_7.out.keep fun p _ hp=>hb.cell (by omega))
  have HB_8:=hd' (HB_7.out.keep fun p _ hp=>hb.cell (by omega))
  have Hbel_8:=hd' (Hbel_7.out.trans (hb.mono (by omega)))
  have HBAL_8:=hd' (HBAL_7.out.below hb (by omega))
  have HBA_8:=hd' (HBA_7.out.below hb (by omega))
  have HS_8:=hd' (HS_7.out.keep fun p hp hq=>⟨hb.cell (by omega),hb.frozen (by omega)⟩)
  have HSb_8:=hd' (HSb_7.out.below hb (by omega))
  have HX0_8:=hd' (HX0_7.out.keep fun p hp hq=>⟨hb.cell (by omega),hb.frozen (by omega)⟩)
  have HX0b_8:=hd' (HNb7.out.below hb (by omega))
  clear HTAL_7 HVA_7 HEA_7 HHA_7 HPA_7 HB_7 Hbel_7 HBAL_7 HBA_7 HS_7 HSb_7 HX0_7 HNb7
  clear hb hown
  go_wp2_with fail
  obtain ⟨v9,hw9⟩:∃x,x=v8.alloc (.cells #[.int .i64 id,.slice (some ⟨gv8,0,none⟩) vec.length vec.length,.slice (some ⟨ge8,0,none⟩) es.length es.length,.slice (some ⟨gh8,0,none⟩) hs.length hs.length,.bool al,.slice (some ⟨gp8,0,none⟩) ps.length ps.length] 57):=⟨_,rfl⟩
  have hbx:Below v8.heap.size v8 v9:=by rw [hw9];exact (Below.refl _ _).alloc (Nat.le_refl _) _
  have z9:v8.heap.size < v9.heap.size:=by rw [hw9];simp
  have HNb9:=hd' (show Bx v9 (v8.heap.size) [.int .i64 id,.slice (some ⟨gv8,0,none⟩) vec.length vec.length,.slice (some ⟨ge8,0,none⟩) es.length es.length,.slice (some ⟨gh8,0,none⟩) hs.length hs.length,.bool al,.slice (some ⟨gp8,0,none⟩) ps.length ps.length] by rw [hw9];exact Bx.new' _ _ _ _ rfl)
  rw [←hw9]
  clear hw9
  have HTAL_9:=hd' (HTAL_8.out.keep fun p _ hp=>hbx.cell (by omega))
  have HVA_9:=hd' (HVA_8.out.keep fun p _ hp=>hbx.cell (by omega))
  have HEA_9:=hd' (HEA_8.out.keep fun p _ hp=>hbx.cell (by omega))
  have HHA_9:=hd' (HHA_8.out.keep fun p _ hp=>hbx.cell (by omega))
  have HPA_9:=hd' (HPA_8.out.keep fun p _ hp=>hbx.cell (by omega))
  have HB_9:=hd' (HB_8.out.keep fun p _ hp=>hbx.cell (by omega))
  have Hbel_9:=hd' (Hbel_8.out.trans (hbx.mono (by omega)))
  have HBAL_9:=hd' (HBAL_8.out.below hbx (by omega))
  have HBA_9:=hd' (HBA_8.out.below hbx (by omega))
  have HS_9:=hd' (HS_8.out.keep fun p hp hq=>⟨hbx.cell (by omega),hbx.frozen (by omega)⟩)
  have HSb_9:=hd' (HSb_8.out.below hbx (by omega))
  have HX0_9:=hd' (HX0_8.out.keep fun p hp hq=>⟨hbx.cell (by omega),hbx.frozen (by omega)⟩)
  have HX0b_9:=hd' (HX0b_8.out.below hbx (by omega))
  have HX1_9:=hd' (HN8.out.keep fun p hp hq=>⟨hbx.cell (by omega),hbx.frozen (by omega)⟩)
  clear HTAL_8 HVA_8 HEA_8 HHA_8 HPA_8 HB_8 Hbel_8 HBAL_8 HBA_8 HS_8 HSb_8 HX0_8 HX0b_8 HN8
  clear hbx
  refine (toByteS_nf B l cb v9 (HB_9.out.mono (by omega)) rB).mono ?_
  rintro e v10 ⟨g10,rfl,_,_,hfr,hb⟩
  have z10:=hb.size
  have HN10:=hd' hfr
  have HTAL_10:=hd' (HTAL_9.out.keep fun p _ hp=>hb.cell (by omega))
  have HVA_10:=hd' (HVA_9.out.keep fun p _ hp=>hb.cell (by omega))
  have HEA_10:=hd' (HEA_9.out.keep fun p _ hp=>hb.cell (by omega))
  have HHA_10:=hd' (HHA_9.out.keep fun p _ hp=>hb.cell (by omega))
  have HPA_10:=hd' (HPA_9.out.keep fun p _ hp=>hb.cell (by omega))
  have HB_10:=hd' (HB_9.out.keep fun p _ hp=>hb.cell (by omega))
  have Hbel_10:=hd' (Hbel_9.out.trans (hb.mono (by omega)))
  have HBAL_10:=hd' (HBAL_9.out.below hb (by omega))
  have HBA_10:=hd' (HBA_9.out.below hb (by omega))
  have HS_10:=hd' (HS_9.out.keep fun p hp hq=>⟨hb.cell (by omega),hb.frozen (by omega)⟩)
  have HSb_10:=hd' (HSb_9.out.below hb (by omega))
  have HX0_10:=hd' (HX0_9.out.keep fun p hp hq=>⟨hb.cell (by omega),hb.frozen (by omega)⟩)
  have HX0b_10:=hd' (HX0b_9.out.below hb (by omega))
  have HX1_10:=hd' (HX1_9.out.keep fun p hp hq=>⟨hb.cell (by omega),hb.frozen (by omega)⟩)
  have HX1b_10:=hd' (HNb9.out.below hb (by omega))
  clear HTAL_9 HVA_9 HEA_9 HHA_9 HPA_9 HB_9 Hbel_9 HBAL_9 HBA_9 HS_9 HSb_9 HX0_9 HX0b_9 HX1_9 HNb9
  clear hb hfr
  have qX0b_0:=HX0b_10.out 0 (by simp)
  have qX1b_0:=HX1b_10.out 0 (by simp)
  have qX1b_1:=HX1b_10.out 1 (by simp)
  have qX1b_2:=HX1b_10.out 2 (by simp)
  have qX1b_3:=HX1b_10.out 3 (by simp)
  have qX1b_4:=HX1b_10.out 4 (by simp)
  have qX1b_5:=HX1b_10.out 5 (by simp)
  simp only [List.getElem_cons_succ,List.getElem_cons_zero] at qX0b_0 qX1b_0 qX1b_1 qX1b_2 qX1b_3 qX1b_4 qX1b_5
  have lqX0b:v6.heap.size < v10.heap.size:=by omega
  have lqX1b:v8.heap.size < v10.heap.size:=by omega
  go_wp2_with fail
  refine (implEdit_any (some ⟨gt6,0,none⟩) ts ts.length id (some ⟨gv8,0,none⟩) vec vec.length (some ⟨ge8,0,none⟩) es es.length (some ⟨gh8,0,none⟩) hs hs.length al (some ⟨gp8,0,none⟩) ps ps.length (some ⟨g10,0,none⟩) l l.length val v10 ((HX0_10.out.tms.low (Nat.zero_le _)).mono (by omega)) htlAL htbAL ((HX1_10.out.tree.vecIn.ints.low (Nat.zero_le _)).mono (by omega)) ((HX1_10.out.tree.ensIn.ens.low (Nat.zero_le _)).mono (by omega)) (HX1_10.out.heads.rd.mono (Nat.zero_le _) (by omega)) (HX1_10.out.proof.rd.mono (Nat.zero_le _) (by omega)) hvlA helA hblA hhlA hhbA hplA hpbA ((HN10.out.bytes.low (Nat.zero_le _)).mono (by omega)) rB).mono ?_
  rintro e v11 ⟨AV11,cv11,A11,c11,AH11,ch11,AP11,cp11,rfl,hown,_,hb⟩
  have z11:=hb.size
  have HN11:=hd' hown
  have HTAL_11:=hd' (HTAL_10.out.keep fun p _ hp=>hb.cell (by omega))
  have HVA_11:=hd' (HVA_10.out.keep fun p _ hp=>hb.cell (by omega))
  have HEA_11:=hd' (HEA_10.out.keep fun p _ hp=>hb.cell (by omega))
  have HHA_11:=hd' (HHA_10.out.keep fun p _ hp=>hb.cell (by omega))
  have HPA_11:=hd' (HPA_10.out.keep fun p _ hp=>hb.cell (by omega))
  have HB_11:=hd' (HB_10.out.keep fun p _ hp=>hb.cell (by omega))
  have Hbel_11:=hd' (Hbel_10.out.trans (hb.mono (by omega)))
  have HBAL_11:=hd' (HBAL_10.out.below hb (by omega))
  have HBA_11:=hd' (HBA_10.out.below hb (by omega))
  have HS_11:=hd' (HS_10.out.keep fun p hp hq=>⟨hb.cell (by omega),hb.frozen (by omega)⟩)
  have HSb_11:=hd' (HSb_10.out.below hb (by omega))
  have HX0_11:=hd' (HX0_10.out.keep fun p hp hq=>⟨hb.cell (by omega),hb.frozen (by omega)⟩)
  have HX0b_11:=hd' (HX0b_10.out.below hb (by omega))
  have HX1_11:=hd' (HX1_10.out.keep fun p hp hq=>⟨hb.cell (by omega),hb.frozen (by omega)⟩)
  have HX1b_11:=hd' (HX1b_10.out.below hb (by omega))
  have HX2_11:=hd' (HN10.out.keep fun p hp hq=>⟨hb.cell (by omega),hb.frozen (by omega)⟩)
  clear qX0b_0 qX1b_0 qX1b_1 qX1b_2 qX1b_3 qX1b_4 qX1b_5 lqX0b lqX1b
  clear HTAL_10 HVA_10 HEA_10 HHA_10 HPA_10 HB_10 Hbel_10 HBAL_10 HBA_10 HS_10 HSb_10 HX0_10 HX0b_10 HX1_10 HX1b_10 HN10
  clear hb hown
  have qSb_0:=HSb_11.out 0 (by simp)
  have qSb_1:=HSb_11.out 1 (by simp)
  have qSb_2:=HSb_11.out 2 (by simp)
  have qSb_3:=HSb_11.out 3 (by simp)
  have qSb_4:=HSb_11.out 4 (by simp)
  have qSb_5:=HSb_11.out 5 (by simp)
  simp only [List.getElem_cons_succ,List.getElem_cons_zero] at qSb_0 qSb_1 qSb_2 qSb_3 qSb_4 qSb_5
  have lqSb:bz5 < v11.heap.size:=by omega
  go_wp2_with fail
  obtain ⟨v12,hw12⟩:∃x,x=v11.alloc (.cells #[.int .i64 (edI (ediB ts id vec es hs al ps l val) id),.slice AV11 (edV (ediB ts id vec es hs al ps l val) (puVec vec es id l val):List Int).length cv11,.slice A11 (edE (ediB ts id vec es hs al ps l val) (puEs vec es id l val):List En).length c11,.slice AH11 (edM (ediB ts id vec es hs al ps l val) hs:List Mn).length ch11,.bool (false),.slice AP11 (noMs:List Mn).length cp11] 57):=⟨_,rfl⟩
  have hbx:Below v11.heap.size v11 v12:=by rw [hw12];exact (Below.refl _ _).alloc (Nat.le_refl _) _
  have z12:v11.heap.size < v12.heap.size:=by rw [hw12];simp
  have HNb12:=hd' (show Bx v12 (v11.heap.size) [.int .i64 (edI (ediB ts id vec es hs al ps l val) id),.slice AV11 (edV (ediB ts id vec es hs al ps l val) (puVec vec es id l val):List Int).length cv11,.slice A11 (edE (ediB ts id vec es hs al ps l val) (puEs vec es id l val):List En).length c11,.slice AH11 (edM (ediB ts id vec es hs al ps l val) hs:List Mn).length ch11,.bool (false),.slice AP11 (noMs:List Mn).length cp11] by rw [hw12];exact Bx.new' _ _ _ _ rfl)
  rw [←hw12]
  clear hw12
  have HTAL_12:=hd' (HTAL_11.out.keep fun p _ hp=>hbx.cell (by omega))
  have HVA_12:=hd' (HVA_11.out.keep fun p _ hp=>hbx.cell (by omega))
  have HEA_12:=hd' (HEA_11.out.keep fun p _ hp=>hbx.cell (by omega))
  have HHA_12:=hd' (HHA_11.out.keep fun p _ hp=>hbx.cell (by omega))
  have HPA_12:=hd' (HPA_11.out.keep fun p _ hp=>hbx.cell (by omega))
  have HB_12:=hd' (HB_11.out.keep fun p _ hp=>hbx.cell (by omega))
  have Hbel_12:=hd' (Hbel_11.out.trans (hbx.mono (by omega)))
  have HBAL_12:=hd' (HBAL_11.out.below hbx (by omega))
  have HBA_12:=hd' (HBA_11.out.below hbx (by omega))
  have HS_12:=hd' (HS_11.out.keep fun p hp hq=>⟨hbx.cell (by omega),hbx.frozen (by omega)⟩)
  have HSb_12:=hd' (HSb_11.out.below hbx (by omega))
  have HX0_12:=hd' (HX0_11.out.keep fun p hp hq=>⟨hbx.cell (by omega),hbx.frozen (by omega)⟩)
  have HX0b_12:=hd' (HX0b_11.out.below hbx (by omega))
  have HX1_12:=hd' (HX1_11.out.keep fun p hp hq=>⟨hbx.cell (by omega),hbx.frozen (by omega)⟩)
  have HX1b_12:=hd' (HX1b_11.out.below hbx (by omega))
  have HX2_12:=hd' (HX2_11.out.keep fun p hp hq=>⟨hbx.cell (by omega),hbx.frozen (by omega)⟩)
  have HR_12:=hd' (HN11.out.keep fun p hp hq=>⟨hbx.cell (by omega),hbx.frozen (by omega)⟩)
  clear qSb_0 qSb_1 qSb_2 qSb_3 qSb_4 qSb_5 lqSb
  clear HTAL_11 HVA_11 HEA_11 HHA_11 HPA_11 HB_11 Hbel_11 HBAL_11 HBA_11 HS_11 HSb_11 HX0_11 HX0b_11 HX1_11 HX1b_11 HX2_11 HN11
  clear hbx
  have hcmp:((ediB ts id vec es hs al ps l val) != (ediB ts id vec es hs al ps l val))=false:=by simp
  refine (eqDevice_same (edI (ediB ts id vec es hs al ps l val) id) AV11 AV5 A11 A5 AH11 AH5 AP11 AP5 (edV (ediB ts id vec es hs al ps l val) (puVec vec es id l val):List Int) (edE (ediB ts id vec es hs al ps l val) (puEs vec es id l val):List En) (edM (ediB ts id vec es hs al ps l val) hs:List Mn) (noMs:List Mn) (false) cv11 cv5 c11 c5 ch11 ch5 cp11 cp5 v10.heap.size v4.heap.size v11.heap.size v5.heap.size v12 HR_12.out HS_12.out (by omega) (by omega) (edV_len (puVec_len hvlA)) (edE_len (puEs_len helA)) (edE_bulk (puEs_bulk hblA)) (edM_len hhlA) (edM_bulk hhbA) noMs_len noMs_bulk).mono ?_
  rintro e v13 ⟨rfl,hb⟩
  have z13:=hb.size
  have HTAL_13:=hd' (HTAL_12.out.keep fun p _ hp=>hb.cell (by omega))
  have HVA_13:=hd' (HVA_12.out.keep fun p _ hp=>hb.cell (by omega))
  have HEA_13:=hd' (HEA_12.out.keep fun p _ hp=>hb.cell (by omega))
  have HHA_13:=hd' (HHA_12.out.keep fun p _ hp=>hb.cell (by omega))
  have HPA_13:=hd' (HPA_12.out.keep fun p _ hp=>hb.cell (by omega))
  have HB_13:=hd' (HB_12.out.keep fun p _ hp=>hb.cell (by omega))
  have Hbel_13:=hd' (Hbel_12.out.trans (hb.mono (by omega)))
  have HBAL_13:=hd' (HBAL_12.out.below hb (by omega))
  have HBA_13:=hd' (HBA_12.out.below hb (by omega))
  have HS_13:=hd' (HS_12.out.keep fun p hp hq=>⟨hb.cell (by omega),hb.frozen (by omega)⟩)
  have HSb_13:=hd' (HSb_12.out.below hb (by omega))
  have HX0_13:=hd' (HX0_12.out.keep fun p hp hq=>⟨hb.cell (by omega),hb.frozen (by omega)⟩)
  have HX0b_13:=hd' (HX0b_12.out.below hb (by omega))
  have HX1_13:=hd' (HX1_12.out.keep fun p hp hq=>⟨hb.cell (by omega),hb.frozen (by omega)⟩)
  have HX1b_13:=hd' (HX1b_12.out.below hb (by omega))
  have HX2_13:=hd' (HX2_12.out.keep fun p hp hq=>⟨hb.cell (by omega),hb.frozen (by omega)⟩)
  have HR_13:=hd' (HR_12.out.keep fun p hp hq=>⟨hb.cell (by omega),hb.frozen (by omega)⟩)
  have HRb_13:=hd' (HNb12.out.below hb (by omega))
  clear HTAL_12 HVA_12 HEA_12 HHA_12 HPA_12 HB_12 Hbel_12 HBAL_12 HBA_12 HS_12 HSb_12 HX0_12 HX0b_12 HX1_12 HX1b_12 HX2_12 HR_12 HNb12
  clear hb
  have qX0b_0:=HX0b_13.out 0 (by simp)
  have qBAL_0:=HBAL_13.out 0 (by simp)
  simp only [List.getElem_cons_zero] at qX0b_0 qBAL_0
  have lqX0b:v6.heap.size < v13.heap.size:=by omega
  have lqBAL:w.heap.size < v13.heap.size:=by omega
  go_wp2_with fail
  go_region_held3 (fun X=>X.cell? ⟨v6.heap.size,0,none⟩=some (.slice (some ⟨gt6,0,none⟩) ts.length ts.length)∧X.cell? ⟨w.heap.size,0,none⟩=some (.slice AL ts.length cL))
    (first|exact ⟨qX0b_0,qBAL_0⟩|exact ⟨s0,s1⟩|exact ⟨t0,t1⟩)
    (first
      | (go_at_call 15
         refine (toLedger_any AL ts cL _ ((HTAL_13.out.keep fun p _ hp=>?_).mono ?_) htlAL htbAL).mono ?_
         · rfl
         · show w.heap.size≤v13.heap.size;omega
         rintro e wy ⟨gty,rfl,_,howny,hby⟩
         have hbsy:Below v13.heap.size v13 wy:=by first|exact hby|exact (Below.refl v13.heap.size v13).drew.trans hby
         have s0:=(hbsy.cell (p:=⟨v6.heap.size,0,none⟩) (by show v6.heap.size < v13.heap.size;omega)).trans qX0b_0
         have s1:=(hbsy.cell (p:=⟨w.heap.size,0,none⟩) (by show w.heap.size < v13.heap.size;omega)).trans qBAL_0
         have hzy:=hbsy.size
         have HTy:=hd' (show TmsIn wy v13.heap.size wy.heap.size _ ts from howny)
         have HBy:=hd' hbsy
         clear howny hby hbsy)
      | (go_at_call 18
         refine (eqLedger_same (some ⟨gt6,0,none⟩) _ ts ts.length _ v5.heap.size v13.heap.size v6.heap.size wy.heap.size _ (HX0_13.out.tms.keep fun p _ hq=>HBy.out.cell (by omega)) HTy.out ?_ ?_ htlAL htbAL).mono ?_
         · show v6.heap.size≤wy.heap.size;omega
         · exact Nat.le_refl _
         rintro e wz ⟨rfl,hbz⟩
         have hbyz:Below wy.heap.size wy wz:=by first|exact hbz|exact (Below.refl wy.heap.size wy).drew.trans hbz
         have t0:=(hbyz.cell (p:=⟨v6.heap.size,0,none⟩) (by show v6.heap.size < wy.heap.size;omega)).trans s0
         have t1:=(hbyz.cell (p:=⟨w.heap.size,0,none⟩) (by show w.heap.size < wy.heap.size;omega)).trans s1
         have HBz:=hd' (HBy.out.trans (hbyz.mono (by omega)))
         have hzz:v13.heap.size≤wz.heap.size:=Nat.le_trans hzy hbyz.size
         clear hbz hbyz))
  obtain ⟨v14,hv14⟩:∃x,x=wz:=⟨_,rfl⟩
  rw [←hv14]
  have hb:Below v13.heap.size v13 v14:=hv14 ▸ HBz.out
  have z14:=hb.size
  clear HBy HTy HBz hzy hzz s0 s1 t0 t1 qX0b_0 qBAL_0 lqX0b lqBAL
  have HTAL_14:=hd' (HTAL_13.out.keep fun p _ hp=>hb.cell (by omega))
  have HVA_14:=hd' (HVA_13.out.keep fun p _ hp=>hb.cell (by omega))
  have HEA_14:=hd' (HEA_13.out.keep fun p _ hp=>hb.cell (by omega))
  have HHA_14:=hd' (HHA_13.out.keep fun p _ hp=>hb.cell (by omega))
  have HPA_14:=hd' (HPA_13.out.keep fun p _ hp=>hb.cell (by omega))
  have HB_14:=hd' (HB_13.out.keep fun p _ hp=>hb.cell (by omega))
  have Hbel_14:=hd' (Hbel_13.out.trans (hb.mono (by omega)))
  have HBAL_14:=hd' (HBAL_13.out.below hb (by omega))
  have HBA_14:=hd' (HBA_13.out.below hb (by omega))
  have HS_14:=hd' (HS_13.out.keep fun p hp hq=>⟨hb.cell (by omega),hb.frozen (by omega)⟩)
  have HSb_14:=hd' (HSb_13.out.below hb (by omega))
  have HX0_14:=hd' (HX0_13.out.keep fun p hp hq=>⟨hb.cell (by omega),hb.frozen (by omega)⟩)
  have HX0b_14:=hd' (HX0b_13.out.below hb (by omega))
  have HX1_14:=hd' (HX1_13.out.keep fun p hp hq=>⟨hb.cell (by omega),hb.frozen (by omega)⟩)
  have HX1b_14:=hd' (HX1b_13.out.below hb (by omega))
  have HX2_14:=hd' (HX2_13.out.keep fun p hp hq=>⟨hb.cell (by omega),hb.frozen (by omega)⟩)
  have HR_14:=hd' (HR_13.out.keep fun p hp hq=>⟨hb.cell (by omega),hb.frozen (by omega)⟩)
  have HRb_14:=hd' (HRb_13.out.below hb (by omega))
  clear HTAL_13 HVA_13 HEA_13 HHA_13 HPA_13 HB_13 Hbel_13 HBAL_13 HBA_13 HS_13 HSb_13 HX0_13 HX0b_13 HX1_13 HX1b_13 HX2_13 HR_13 HRb_13
  clear hb hv14
  have qX1b_0:=HX1b_14.out 0 (by simp)
  have qX1b_1:=HX1b_14.out 1 (by simp)
  have qX1b_2:=HX1b_14.out 2 (by simp)
  have qX1b_3:=HX1b_14.out 3 (by simp)
  have qX1b_4:=HX1b_14.out 4 (by simp)
  have qX1b_5:=HX1b_14.out 5 (by simp)
  have qBA_0:=HBA_14.out 0 (by simp)
  have qBA_1:=HBA_14.out 1 (by simp)
  have qBA_2:=HBA_14.out 2 (by simp)
  have qBA_3:=HBA_14.out 3 (by simp)
  have qBA_4:=HBA_14.out 4 (by simp)
  have qBA_5:=HBA_14.out 5 (by simp)
  simp only [List.getElem_cons_succ,List.getElem_cons_zero] at qX1b_0 qX1b_1 qX1b_2 qX1b_3 qX1b_4 qX1b_5 qBA_0 qBA_1 qBA_2 qBA_3 qBA_4 qBA_5
  have lqX1b:v8.heap.size < v14.heap.size:=by omega
  have lqBA:w.heap.size+1 < v14.heap.size:=by omega
  go_wp2_with fail
  go_region_held3 (fun X=>X.cell? ⟨v8.heap.size,0,none⟩=some (.int .i64 id)∧X.cell? ⟨v8.heap.size,1,none⟩=some (.slice (some ⟨gv8,0,none⟩) vec.length vec.length)∧X.cell? ⟨v8.heap.size,2,none⟩=some (.slice (some ⟨ge8,0,none⟩) es.length es.length)∧X.cell? ⟨v8.heap.size,3,none⟩=some (.slice (some ⟨gh8,0,none⟩) hs.length hs.length)∧X.cell? ⟨v8.heap.size,4,none⟩=some (.bool al)∧X.cell? ⟨v8.heap.size,5,none⟩=some (.slice (some ⟨gp8,0,none⟩) ps.length ps.length)∧X.cell? ⟨w.heap.size+1,0,none⟩=some (.int .i64 id)∧X.cell? ⟨w.heap.size+1,1,none⟩=some (.slice AV vec.length cv)∧X.cell? ⟨w.heap.size+1,2,none⟩=some (.slice A es.length c)∧X.cell? ⟨w.heap.size+1,3,none⟩=some (.slice AH hs.length ch)∧X.cell? ⟨w.heap.size+1,4,none⟩=some (.bool al)∧X.cell? ⟨w.heap.size+1,5,none⟩=some (.slice AP ps.length cp))
    (first|exact ⟨qX1b_0,qX1b_1,qX1b_2,qX1b_3,qX1b_4,qX1b_5,qBA_0,qBA_1,qBA_2,qBA_3,qBA_4,qBA_5⟩|exact ⟨s0,s1,s2,s3,s4,s5,s6,s7,s8,s9,s10,s11⟩|exact ⟨t0,t1,t2,t3,t4,t5,t6,t7,t8,t9,t10,t11⟩)
    (first
      | (go_at_call 26
         refine (toDevice_own id AV vec cv A es c AH hs ch al AP ps cp _ ((HVA_14.out.keep fun p _ hp=>?_).mono ?_) ((HEA_14.out.keep fun p _ hp=>?_).mono ?_) ((HHA_14.out.keep fun p _ hp=>?_).mono ?_) ((HPA_14.out.keep fun p _ hp=>?_).mono ?_) hvlA helA hblA hhlA hhbA hplA hpbA).mono ?_
         · rfl
         · show w.heap.size≤v14.heap.size;omega
         · rfl
         · show w.heap.size≤v14.heap.size;omega
         · rfl
         · show w.heap.size≤v14.heap.size;omega
         · rfl
         · show w.heap.size≤v14.heap.size;omega
         rintro e wy ⟨gvy,gey,ghy,gpy,rfl,_,howny,hby⟩
         have hbsy:Below v14.heap.size v14 wy:=by first|exact hby|exact (Below.refl v14.heap.size v14).drew.trans hby
         have s0:=(hbsy.cell (p:=⟨v8.heap.size,0,none⟩) (by show v8.heap.size < v14.heap.size;omega)).trans qX1b_0
         have s1:=(hbsy.cell (p:=⟨v8.heap.size,1,none⟩) (by show v8.heap.size < v14.heap.size;omega)).trans qX1b_1
         have s2:=(hbsy.cell (p:=⟨v8.heap.size,2,none⟩) (by show v8.heap.size < v14.heap.size;omega)).trans qX1b_2
         have s3:=(hbsy.cell (p:=⟨v8.heap.size,3,none⟩) (by show v8.heap.size < v14.heap.size;omega)).trans qX1b_3
         have s4:=(hbsy.cell (p:=⟨v8.heap.size,4,none⟩) (by show v8.heap.size < v14.heap.size;omega)).trans qX1b_4
         have s5:=(hbsy.cell (p:=⟨v8.heap.size,5,none⟩) (by show v8.heap.size < v14.heap.size;omega)).trans qX1b_5
         have s6:=(hbsy.cell (p:=⟨w.heap.size+1,0,none⟩) (by show w.heap.size+1 < v14.heap.size;omega)).trans qBA_0
         have s7:=(hbsy.cell (p:=⟨w.heap.size+1,1,none⟩) (by show w.heap.size+1 < v14.heap.size;omega)).trans qBA_1
         have s8:=(hbsy.cell (p:=⟨w.heap.size+1,2,none⟩) (by show w.heap.size+1 < v14.heap.size;omega)).trans qBA_2
         have s9:=(hbsy.cell (p:=⟨w.heap.size+1,3,none⟩) (by show w.heap.size+1 < v14.heap.size;omega)).trans qBA_3
         have s10:=(hbsy.cell (p:=⟨w.heap.size+1,4,none⟩) (by show w.heap.size+1 < v14.heap.size;omega)).trans qBA_4
         have s11:=(hbsy.cell (p:=⟨w.heap.size+1,5,none⟩) (by show w.heap.size+1 < v14.heap.size;omega)).trans qBA_5
         have hzy:=hbsy.size
         have HTy:=hd' (show DvOwn wy v14.heap.size wy.heap.size _ vec _ es _ hs _ ps from howny)
         have HBy:=hd' hbsy
         clear howny hby hbsy)
      | (go_at_call 28
         refine (eqDevice_same id (some ⟨gv8,0,none⟩) _ (some ⟨ge8,0,none⟩) _ (some ⟨gh8,0,none⟩) _ (some ⟨gp8,0,none⟩) _ vec es hs ps al vec.length _ es.length _ hs.length _ ps.length _ v7.heap.size v14.heap.size v8.heap.size wy.heap.size _ (HX1_14.out.keep fun p hp hq=>⟨HBy.out.cell (by omega),HBy.out.frozen (by omega)⟩) HTy.out ?_ ?_ hvlA helA hblA hhlA hhbA hplA hpbA).mono ?_
         · show v8.heap.size≤wy.heap.size;omega
         · exact Nat.le_refl _
         rintro e wz ⟨rfl,hbz⟩
         have hbyz:Below wy.heap.size wy wz:=by first|exact hbz|exact (Below.refl wy.heap.size wy).drew.trans hbz
         have t0:=(hbyz.cell (p:=⟨v8.heap.size,0,none⟩) (by show v8.heap.size < wy.heap.size;omega)).trans s0
         have t1:=(hbyz.cell (p:=⟨v8.heap.size,1,none⟩) (by show v8.heap.size < wy.heap.size;omega)).trans s1
         have t2:=(hbyz.cell (p:=⟨v8.heap.size,2,none⟩) (by show v8.heap.size < wy.heap.size;omega)).trans s2
         have t3:=(hbyz.cell (p:=⟨v8.heap.size,3,none⟩) (by show v8.heap.size < wy.heap.size;omega)).trans s3
         have t4:=(hbyz.cell (p:=⟨v8.heap.size,4,none⟩) (by show v8.heap.size < wy.heap.size;omega)).trans s4
         have t5:=(hbyz.cell (p:=⟨v8.heap.size,5,none⟩) (by show v8.heap.size < wy.heap.size;omega)).trans s5
         have t6:=(hbyz.cell (p:=⟨w.heap.size+1,0,none⟩) (by show w.heap.size+1 < wy.heap.size;omega)).trans s6
         have t7:=(hbyz.cell (p:=⟨w.heap.size+1,1,none⟩) (by show w.heap.size+1 < wy.heap.size;omega)).trans s7
         have t8:=(hbyz.cell (p:=⟨w.heap.size+1,2,none⟩) (by show w.heap.size+1 < wy.heap.size;omega)).trans s8
         have t9:=(hbyz.cell (p:=⟨w.heap.size+1,3,none⟩) (by show w.heap.size+1 < wy.heap.size;omega)).trans s9
         have t10:=(hbyz.cell (p:=⟨w.heap.size+1,4,none⟩) (by show w.heap.size+1 < wy.heap.size;omega)).trans s10
         have t11:=(hbyz.cell (p:=⟨w.heap.size+1,5,none⟩) (by show w.heap.size+1 < wy.heap.size;omega)).trans s11
         have HBz:=hd' (HBy.out.trans (hbyz.mono (by omega)))
         have hzz:v14.heap.size≤wz.heap.size:=Nat.le_trans hzy hbyz.size
         clear hbz hbyz))
  obtain ⟨v15,hv15⟩:∃x,x=wz:=⟨_,rfl⟩
  rw [←hv15]
  have hb:Below v14.heap.size v14 v15:=hv15 ▸ HBz.out
  have z15:=hb.size
  clear HBy HTy HBz hzy hzz s0 s1 s2 s3 s4 s5 s6 s7 s8 s9 s10 s11 t0 t1 t2 t3 t4 t5 t6 t7 t8 t9 t10 t11 qX1b_0 qX1b_1 qX1b_2 qX1b_3 qX1b_4 qX1b_5 qBA_0 qBA_1 qBA_2 qBA_3 qBA_4 qBA_5 lqX1b lqBA
  have HTAL_15:=hd' (HTAL_14.out.keep fun p _ hp=>hb.cell (by omega))
  have HVA_15:=hd' (HVA_14.out.keep fun p _ hp=>hb.cell (by omega))
  have HEA_15:=hd' (HEA_14.out.keep fun p _ hp=>hb.cell (by omega))
  have HHA_15:=hd' (HHA_14.out.keep fun p _ hp=>hb.cell (by omega))
  have HPA_15:=hd' (HPA_14.out.keep fun p _ hp=>hb.cell (by omega))
  have HB_15:=hd' (HB_14.out.keep fun p _ hp=>hb.cell (by omega))
  have Hbel_15:=hd' (Hbel_14.out.trans (hb.mono (by omega)))
  have HBAL_15:=hd' (HBAL_14.out.below hb (by omega))
  have HBA_15:=hd' (HBA_14.out.below hb (by omega))
  have HS_15:=hd' (HS_14.out.keep fun p hp hq=>⟨hb.cell (by omega),hb.frozen (by omega)⟩)
  have HSb_15:=hd' (HSb_14.out.below hb (by omega))
  have HX0_15:=hd' (HX0_14.out.keep fun p hp hq=>⟨hb.cell (by omega),hb.frozen (by omega)⟩)
  have HX0b_15:=hd' (HX0b_14.out.below hb (by omega))
  have HX1_15:=hd' (HX1_14.out.keep fun p hp hq=>⟨hb.cell (by omega),hb.frozen (by omega)⟩)
  have HX1b_15:=hd' (HX1b_14.out.below hb (by omega))
  have HX2_15:=hd' (HX2_14.out.keep fun p hp hq=>⟨hb.cell (by omega),hb.frozen (by omega)⟩)
  have HR_15:=hd' (HR_14.out.keep fun p hp hq=>⟨hb.cell (by omega),hb.frozen (by omega)⟩)
  have HRb_15:=hd' (HRb_14.out.below hb (by omega))
  clear HTAL_14 HVA_14 HEA_14 HHA_14 HPA_14 HB_14 Hbel_14 HBAL_14 HBA_14 HS_14 HSb_14 HX0_14 HX0b_14 HX1_14 HX1b_14 HX2_14 HR_14 HRb_14
  clear hb hv15
  go_wp2_with fail
  refine (toByteS_nf B l cb v15 (HB_15.out.mono (by omega)) rB).mono ?_
  rintro e v16 ⟨g16,rfl,_,_,hfr,hb⟩
  have z16:=hb.size
  have HN16:=hd' hfr
  have HTAL_16:=hd' (HTAL_15.out.keep fun p _ hp=>hb.cell (by omega))
  have HVA_16:=hd' (HVA_15.out.keep fun p _ hp=>hb.cell (by omega))
  have HEA_16:=hd' (HEA_15.out.keep fun p _ hp=>hb.cell (by omega))
  have HHA_16:=hd' (HHA_15.out.keep fun p _ hp=>hb.cell (by omega))
  have HPA_16:=hd' (HPA_15.out.keep fun p _ hp=>hb.cell (by omega))
  have HB_16:=hd' (HB_15.out.keep fun p _ hp=>hb.cell (by omega))
  have Hbel_16:=hd' (Hbel_15.out.trans (hb.mono (by omega)))
  have HBAL_16:=hd' (HBAL_15.out.below hb (by omega))
  have HBA_16:=hd' (HBA_15.out.below hb (by omega))
  have HS_16:=hd' (HS_15.out.keep fun p hp hq=>⟨hb.cell (by omega),hb.frozen (by omega)⟩)
  have HSb_16:=hd' (HSb_15.out.below hb (by omega))
  have HX0_16:=hd' (HX0_15.out.keep fun p hp hq=>⟨hb.cell (by omega),hb.frozen (by omega)⟩)
  have HX0b_16:=hd' (HX0b_15.out.below hb (by omega))
  have HX1_16:=hd' (HX1_15.out.keep fun p hp hq=>⟨hb.cell (by omega),hb.frozen (by omega)⟩)
  have HX1b_16:=hd' (HX1b_15.out.below hb (by omega))
  have HX2_16:=hd' (HX2_15.out.keep fun p hp hq=>⟨hb.cell (by omega),hb.frozen (by omega)⟩)
  have HR_16:=hd' (HR_15.out.keep fun p hp hq=>⟨hb.cell (by omega),hb.frozen (by omega)⟩)
  have HRb_16:=hd' (HRb_15.out.below hb (by omega))
  clear HTAL_15 HVA_15 HEA_15 HHA_15 HPA_15 HB_15 Hbel_15 HBAL_15 HBA_15 HS_15 HSb_15 HX0_15 HX0b_15 HX1_15 HX1b_15 HX2_15 HR_15 HRb_15
  clear hb hfr
  go_wp2_with fail
  refine (eqByteS_fr (some ⟨g10,0,none⟩) (some ⟨g16,0,none⟩) l l.length l.length v9.heap.size v15.heap.size v10.heap.size v16.heap.size v16 HX2_16.out HN16.out rB).mono ?_
  rintro e v17 ⟨rfl,hb⟩
  have z17:=hb.size
  have HTAL_17:=hd' (HTAL_16.out.keep fun p _ hp=>hb.cell (by omega))
  have HVA_17:=hd' (HVA_16.out.keep fun p _ hp=>hb.cell (by omega))
  have HEA_17:=hd' (HEA_16.out.keep fun p _ hp=>hb.cell (by omega))
  have HHA_17:=hd' (HHA_16.out.keep fun p _ hp=>hb.cell (by omega))
  have HPA_17:=hd' (HPA_16.out.keep fun p _ hp=>hb.cell (by omega))
  have HB_17:=hd' (HB_16.out.keep fun p _ hp=>hb.cell (by omega))
  have Hbel_17:=hd' (Hbel_16.out.trans (hb.mono (by omega)))
  have HBAL_17:=hd' (HBAL_16.out.below hb (by omega))
  have HBA_17:=hd' (HBA_16.out.below hb (by omega))
  have HS_17:=hd' (HS_16.out.keep fun p hp hq=>⟨hb.cell (by omega),hb.frozen (by omega)⟩)
  have HSb_17:=hd' (HSb_16.out.below hb (by omega))
  have HX0_17:=hd' (HX0_16.out.keep fun p hp hq=>⟨hb.cell (by omega),hb.frozen (by omega)⟩)
  have HX0b_17:=hd' (HX0b_16.out.below hb (by omega))
  have HX1_17:=hd' (HX1_16.out.keep fun p hp hq=>⟨hb.cell (by omega),hb.frozen (by omega)⟩)
  have HX1b_17:=hd' (HX1b_16.out.below hb (by omega))
  have HX2_17:=hd' (HX2_16.out.keep fun p hp hq=>⟨hb.cell (by omega),hb.frozen (by omega)⟩)
  have HR_17:=hd' (HR_16.out.keep fun p hp hq=>⟨hb.cell (by omega),hb.frozen (by omega)⟩)
  have HRb_17:=hd' (HRb_16.out.below hb (by omega))
  clear HTAL_16 HVA_16 HEA_16 HHA_16 HPA_16 HB_16 Hbel_16 HBAL_16 HBA_16 HS_16 HSb_16 HX0_16 HX0b_16 HX1_16 HX1b_16 HX2_16 HR_16 HRb_16 HN16
  clear hb
  have qX0b_0:=HX0b_17.out 0 (by simp)
  simp only [List.getElem_cons_zero] at qX0b_0
  have lqX0b:v6.heap.size < v17.heap.size:=by omega
  go_wp2_with fail
  refine (markLedger_own (some ⟨gt6,0,none⟩) ts ts.length v5.heap.size v6.heap.size (1) v17 HX0_17.out (by omega) htlAL htbAL (by omega) (by omega)).mono ?_
  rintro e v18 ⟨⟨rk18,rfl,hrk18,hrl18⟩,hin⟩
  have z18:=hin.below.size
  have HTAL_18:=hd' (HTAL_17.out.keep fun p _ hp=>hin.cell (.inl (by omega)))
  have HVA_18:=hd' (HVA_17.out.keep fun p _ hp=>hin.cell (.inl (by omega)))
  have HEA_18:=hd' (HEA_17.out.keep fun p _ hp=>hin.cell (.inl (by omega)))
  have HHA_18:=hd' (HHA_17.out.keep fun p _ hp=>hin.cell (.inl (by omega)))
  have HPA_18:=hd' (HPA_17.out.keep fun p _ hp=>hin.cell (.inl (by omega)))
  have HB_18:=hd' (HB_17.out.keep fun p _ hp=>hin.cell (.inl (by omega)))
  have Hbel_18:=hd' (Hbel_17.out.trans (hin.below.mono (by omega)))
  have HBAL_18:=hd' (HBAL_17.out.inside hin (by omega))
  have HBA_18:=hd' (HBA_17.out.inside hin (by omega))
  have HS_18:=hd' (HS_17.out.keep fun p hp hq=>⟨hin.cell (by omega),hin.frozen p (by omega)⟩)
  have HSb_18:=hd' (HSb_17.out.inside hin (by omega))
  have HX0b_18:=hd' (HX0b_17.out.inside hin (by omega))
  have HX1_18:=hd' (HX1_17.out.keep fun p hp hq=>⟨hin.cell (by omega),hin.frozen p (by omega)⟩)
  have HX1b_18:=hd' (HX1b_17.out.inside hin (by omega))
  have HX2_18:=hd' (HX2_17.out.keep fun p hp hq=>⟨hin.cell (by omega),hin.frozen p (by omega)⟩)
  have HR_18:=hd' (HR_17.out.keep fun p hp hq=>⟨hin.cell (by omega),hin.frozen p (by omega)⟩)
  have HRb_18:=hd' (HRb_17.out.inside hin (by omega))
  clear qX0b_0 lqX0b
  clear HTAL_17 HVA_17 HEA_17 HHA_17 HPA_17 HB_17 Hbel_17 HBAL_17 HBA_17 HS_17 HSb_17 HX0_17 HX0b_17 HX1_17 HX1b_17 HX2_17 HR_17 HRb_17
  clear hin
  have qX1b_0:=HX1b_18.out 0 (by simp)
  have qX1b_1:=HX1b_18.out 1 (by simp)
  have qX1b_2:=HX1b_18.out 2 (by simp)
  have qX1b_3:=HX1b_18.out 3 (by simp)
  have qX1b_4:=HX1b_18.out 4 (by simp)
  have qX1b_5:=HX1b_18.out 5 (by simp)
  simp only [List.getElem_cons_succ,List.getElem_cons_zero] at qX1b_0 qX1b_1 qX1b_2 qX1b_3 qX1b_4 qX1b_5
  have lqX1b:v8.heap.size < v18.heap.size:=by omega
  go_wp2_with fail
  refine (markDevice_own id (some ⟨gv8,0,none⟩) (some ⟨ge8,0,none⟩) (some ⟨gh8,0,none⟩) (some ⟨gp8,0,none⟩) vec es hs ps al vec.length es.length hs.length ps.length v7.heap.size v8.heap.size (rk18) v18 HX1_18.out (by omega) hvlA helA hblA hhlA hhbA hplA hpbA (by omega) (by omega) (by omega)).mono ?_
  rintro e v19 ⟨rfl,hmk,hin⟩
  have hdm19:=dmo_le (n:=vec.length) (es:=es) (hs:=hs) (ps:=ps) hvlA helA hblA hhlA hhbA hplA hpbA
  have z19:=hin.below.size
  have HTAL_19:=hd' (HTAL_18.out.keep fun p _ hp=>hin.cell (.inl (by omega)))
  have HVA_19:=hd' (HVA_18.out.keep fun p _ hp=>hin.cell (.inl (by omega)))
  have HEA_19:=hd' (HEA_18.out.keep fun p _ hp=>hin.cell (.inl (by omega)))
  have HHA_19:=hd' (HHA_18.out.keep fun p _ hp=>hin.cell (.inl (by omega)))
  have HPA_19:=hd' (HPA_18.out.keep fun p _ hp=>hin.cell (.inl (by omega)))
  have HB_19:=hd' (HB_18.out.keep fun p _ hp=>hin.cell (.inl (by omega)))
  have Hbel_19:=hd' (Hbel_18.out.trans (hin.below.mono (by omega)))
  have HBAL_19:=hd' (HBAL_18.out.inside hin (by omega))
  have HBA_19:=hd' (HBA_18.out.inside hin (by omega))
  have HS_19:=hd' (HS_18.out.keep fun p hp hq=>⟨hin.cell (by omega),hin.frozen p (by omega)⟩)
  have HSb_19:=hd' (HSb_18.out.inside hin (by omega))
  have HX0b_19:=hd' (HX0b_18.out.inside hin (by omega))
  have HX1b_19:=hd' (HX1b_18.out.inside hin (by omega))
  have HX2_19:=hd' (HX2_18.out.keep fun p hp hq=>⟨hin.cell (by omega),hin.frozen p (by omega)⟩)
  have HR_19:=hd' (HR_18.out.keep fun p hp hq=>⟨hin.cell (by omega),hin.frozen p (by omega)⟩)
  have HRb_19:=hd' (HRb_18.out.inside hin (by omega))
  clear qX1b_0 qX1b_1 qX1b_2 qX1b_3 qX1b_4 qX1b_5 lqX1b
  clear HTAL_18 HVA_18 HEA_18 HHA_18 HPA_18 HB_18 Hbel_18 HBAL_18 HBA_18 HS_18 HSb_18 HX0b_18 HX1_18 HX1b_18 HX2_18 HR_18 HRb_18
  clear hin hmk
  go_wp2_with fail
  refine (markByteS_fr (some ⟨g10,0,none⟩) l l.length v9.heap.size v10.heap.size (rk18+((dmo vec.length es hs ps:Nat):Int)) v19 HX2_19.out rB (by omega) (by omega)).mono ?_
  rintro e v20 ⟨rfl,hmk,hin⟩
  have z20:=hin.below.size
  have HTAL_20:=hd' (HTAL_19.out.keep fun p _ hp=>hin.cell (.inl (by omega)))
  have HVA_20:=hd' (HVA_19.out.keep fun p _ hp=>hin.cell (.inl (by omega)))
  have HEA_20:=hd' (HEA_19.out.keep fun p _ hp=>hin.cell (.inl (by omega)))
  have HHA_20:=hd' (HHA_19.out.keep fun p _ hp=>hin.cell (.inl (by omega)))
  have HPA_20:=hd' (HPA_19.out.keep fun p _ hp=>hin.cell (.inl (by omega)))
  have HB_20:=hd' (HB_19.out.keep fun p _ hp=>hin.cell (.inl (by omega)))
  have Hbel_20:=hd' (Hbel_19.out.trans (hin.below.mono (by omega)))
  have HBAL_20:=hd' (HBAL_19.out.inside hin (by omega))
  have HBA_20:=hd' (HBA_19.out.inside hin (by omega))
  have HS_20:=hd' (HS_19.out.keep fun p hp hq=>⟨hin.cell (by omega),hin.frozen p (by omega)⟩)
  have HSb_20:=hd' (HSb_19.out.inside hin (by omega))
  have HX0b_20:=hd' (HX0b_19.out.inside hin (by omega))
  have HX1b_20:=hd' (HX1b_19.out.inside hin (by omega))
  have HR_20:=hd' (HR_19.out.keep fun p hp hq=>⟨hin.cell (by omega),hin.frozen p (by omega)⟩)
  have HRb_20:=hd' (HRb_19.out.inside hin (by omega))
  clear HTAL_19 HVA_19 HEA_19 HHA_19 HPA_19 HB_19 Hbel_19 HBAL_19 HBA_19 HS_19 HSb_19 HX0b_19 HX1b_19 HX2_19 HR_19 HRb_19
  clear hin hmk
  have hk0:0≤rk18+((dmo vec.length es hs ps:Nat):Int)+(l.length:Int):=by omega
  have qRb_0:=HRb_20.out 0 (by simp)
  have qRb_1:=HRb_20.out 1 (by simp)
  have qRb_2:=HRb_20.out 2 (by simp)
  have qRb_3:=HRb_20.out 3 (by simp)
  have qRb_4:=HRb_20.out 4 (by simp)
  have qRb_5:=HRb_20.out 5 (by simp)
  have qSb_0:=HSb_20.out 0 (by simp)
  have qSb_1:=HSb_20.out 1 (by simp)
  have qSb_2:=HSb_20.out 2 (by simp)
  have qSb_3:=HSb_20.out 3 (by simp)
  have qSb_4:=HSb_20.out 4 (by simp)
  have qSb_5:=HSb_20.out 5 (by simp)
  simp only [List.getElem_cons_succ,List.getElem_cons_zero] at qRb_0 qRb_1 qRb_2 qRb_3 qRb_4 qRb_5 qSb_0 qSb_1 qSb_2 qSb_3 qSb_4 qSb_5
  have lqRb:v11.heap.size < v20.heap.size:=by omega
  have lqSb:bz5 < v20.heap.size:=by omega
  go_wp2_with fail
  refine (eqDevice_same (edI (ediB ts id vec es hs al ps l val) id) AV11 AV5 A11 A5 AH11 AH5 AP11 AP5 (edV (ediB ts id vec es hs al ps l val) (puVec vec es id l val):List Int) (edE (ediB ts id vec es hs al ps l val) (puEs vec es id l val):List En) (edM (ediB ts id vec es hs al ps l val) hs:List Mn) (noMs:List Mn) (false) cv11 cv5 c11 c5 ch11 ch5 cp11 cp5 v10.heap.size v4.heap.size v11.heap.size v5.heap.size v20 HR_20.out HS_20.out (by omega) (by omega) (edV_len (puVec_len hvlA)) (edE_len (puEs_len helA)) (edE_bulk (puEs_bulk hblA)) (edM_len hhlA) (edM_bulk hhbA) noMs_len noMs_bulk).mono ?_
  rintro e v21 ⟨rfl,hb⟩
  have z21:=hb.size
  have HTAL_21:=hd' (HTAL_20.out.keep fun p _ hp=>hb.cell (by omega))
  have HVA_21:=hd' (HVA_20.out.keep fun p _ hp=>hb.cell (by omega))
  have HEA_21:=hd' (HEA_20.out.keep fun p _ hp=>hb.cell (by omega))
  have HHA_21:=hd' (HHA_20.out.keep fun p _ hp=>hb.cell (by omega))
  have HPA_21:=hd' (HPA_20.out.keep fun p _ hp=>hb.cell (by omega))
  have HB_21:=hd' (HB_20.out.keep fun p _ hp=>hb.cell (by omega))
  have Hbel_21:=hd' (Hbel_20.out.trans (hb.mono (by omega)))
  have HBAL_21:=hd' (HBAL_20.out.below hb (by omega))
  have HBA_21:=hd' (HBA_20.out.below hb (by omega))
  have HS_21:=hd' (HS_20.out.keep fun p hp hq=>⟨hb.cell (by omega),hb.frozen (by omega)⟩)
  have HSb_21:=hd' (HSb_20.out.below hb (by omega))
  have HX0b_21:=hd' (HX0b_20.out.below hb (by omega))
  have HX1b_21:=hd' (HX1b_20.out.below hb (by omega))
  have HR_21:=hd' (HR_20.out.keep fun p hp hq=>⟨hb.cell (by omega),hb.frozen (by omega)⟩)
  have HRb_21:=hd' (HRb_20.out.below hb (by omega))
  clear qRb_0 qRb_1 qRb_2 qRb_3 qRb_4 qRb_5 qSb_0 qSb_1 qSb_2 qSb_3 qSb_4 qSb_5 lqRb lqSb
  clear HTAL_20 HVA_20 HEA_20 HHA_20 HPA_20 HB_20 Hbel_20 HBAL_20 HBA_20 HS_20 HSb_20 HX0b_20 HX1b_20 HR_20 HRb_20
  clear hb
  clear hk0
  have qRb_0:=HRb_21.out 0 (by simp)
  have qRb_1:=HRb_21.out 1 (by simp)
  have qRb_2:=HRb_21.out 2 (by simp)
  have qRb_3:=HRb_21.out 3 (by simp)
  have qRb_4:=HRb_21.out 4 (by simp)
  have qRb_5:=HRb_21.out 5 (by simp)
  simp only [List.getElem_cons_succ,List.getElem_cons_zero] at qRb_0 qRb_1 qRb_2 qRb_3 qRb_4 qRb_5
  have lqRb:v11.heap.size < v21.heap.size:=by omega
  go_wp2_with fail
  refine (markDevice_own (edI (ediB ts id vec es hs al ps l val) id) AV11 A11 AH11 AP11 (edV (ediB ts id vec es hs al ps l val) (puVec vec es id l val):List Int) (edE (ediB ts id vec es hs al ps l val) (puEs vec es id l val):List En) (edM (ediB ts id vec es hs al ps l val) hs:List Mn) (noMs:List Mn) (false) cv11 c11 ch11 cp11 v10.heap.size v11.heap.size (1) v21 HR_21.out (by omega) (edV_len (puVec_len hvlA)) (edE_len (puEs_len helA)) (edE_bulk (puEs_bulk hblA)) (edM_len hhlA) (edM_bulk hhbA) noMs_len noMs_bulk (by omega) (by omega) (by omega)).mono ?_
  rintro e v22 ⟨rfl,hmk,hin⟩
  have hdm22:=dmo_le (n:=(edV (ediB ts id vec es hs al ps l val) (puVec vec es id l val):List Int).length) (es:=(edE (ediB ts id vec es hs al ps l val) (puEs vec es id l val):List En)) (hs:=(edM (ediB ts id vec es hs al ps l val) hs:List Mn)) (ps:=(noMs:List Mn)) (edV_len (puVec_len hvlA)) (edE_len (puEs_len helA)) (edE_bulk (puEs_bulk hblA)) (edM_len hhlA) (edM_bulk hhbA) noMs_len noMs_bulk
  have z22:=hin.below.size
  have HMk22:=hd' hmk
  have HTAL_22:=hd' (HTAL_21.out.keep fun p _ hp=>hin.cell (.inl (by omega)))
  have HVA_22:=hd' (HVA_21.out.keep fun p _ hp=>hin.cell (.inl (by omega)))
  have HEA_22:=hd' (HEA_21.out.keep fun p _ hp=>hin.cell (.inl (by omega)))
  have HHA_22:=hd' (HHA_21.out.keep fun p _ hp=>hin.cell (.inl (by omega)))
  have HPA_22:=hd' (HPA_21.out.keep fun p _ hp=>hin.cell (.inl (by omega)))
  have HB_22:=hd' (HB_21.out.keep fun p _ hp=>hin.cell (.inl (by omega)))
  have Hbel_22:=hd' (Hbel_21.out.trans (hin.below.mono (by omega)))
  have HBAL_22:=hd' (HBAL_21.out.inside hin (by omega))
  have HBA_22:=hd' (HBA_21.out.inside hin (by omega))
  have HS_22:=hd' (HS_21.out.keep fun p hp hq=>⟨hin.cell (by omega),hin.frozen p (by omega)⟩)
  have HSb_22:=hd' (HSb_21.out.inside hin (by omega))
  have HX0b_22:=hd' (HX0b_21.out.inside hin (by omega))
  have HX1b_22:=hd' (HX1b_21.out.inside hin (by omega))
  have HRb_22:=hd' (HRb_21.out.inside hin (by omega))
  clear qRb_0 qRb_1 qRb_2 qRb_3 qRb_4 qRb_5 lqRb
  clear HTAL_21 HVA_21 HEA_21 HHA_21 HPA_21 HB_21 Hbel_21 HBAL_21 HBA_21 HS_21 HSb_21 HX0b_21 HX1b_21 HR_21 HRb_21
  clear hin hmk
  have qRb_0:=HRb_22.out 0 (by simp)
  have qRb_1:=HRb_22.out 1 (by simp)
  have qRb_2:=HRb_22.out 2 (by simp)
  have qRb_3:=HRb_22.out 3 (by simp)
  have qRb_4:=HRb_22.out 4 (by simp)
  have qRb_5:=HRb_22.out 5 (by simp)
  simp only [List.getElem_cons_succ,List.getElem_cons_zero] at qRb_0 qRb_1 qRb_2 qRb_3 qRb_4 qRb_5
  have lqRb:v11.heap.size < v22.heap.size:=by omega
  go_wp2_with fail
  refine (heldDevice_own (edI (ediB ts id vec es hs al ps l val) id) AV11 A11 AH11 AP11 (edE (ediB ts id vec es hs al ps l val) (puEs vec es id l val):List En) (edM (ediB ts id vec es hs al ps l val) hs:List Mn) (noMs:List Mn) (false) cv11 c11 ch11 cp11 v10.heap.size v11.heap.size 1 v22 (edV (ediB ts id vec es hs al ps l val) (puVec vec es id l val):List Int).length HMk22.out (by omega) (edV_len (puVec_len hvlA)) (edE_len (puEs_len helA)) (edE_bulk (puEs_bulk hblA)) (edM_len hhlA) (edM_bulk hhbA) noMs_len noMs_bulk (by omega) (by omega)).mono ?_
  rintro e v23 ⟨rfl,hb⟩
  have z23:=hb.size
  have HTAL_23:=hd' (HTAL_22.out.keep fun p _ hp=>hb.cell (by omega))
  have HVA_23:=hd' (HVA_22.out.keep fun p _ hp=>hb.cell (by omega))
  have HEA_23:=hd' (HEA_22.out.keep fun p _ hp=>hb.cell (by omega))
  have HHA_23:=hd' (HHA_22.out.keep fun p _ hp=>hb.cell (by omega))
  have HPA_23:=hd' (HPA_22.out.keep fun p _ hp=>hb.cell (by omega))
  have HB_23:=hd' (HB_22.out.keep fun p _ hp=>hb.cell (by omega))
  have Hbel_23:=hd' (Hbel_22.out.trans (hb.mono (by omega)))
  have HBAL_23:=hd' (HBAL_22.out.below hb (by omega))
  have HBA_23:=hd' (HBA_22.out.below hb (by omega))
  have HS_23:=hd' (HS_22.out.keep fun p hp hq=>⟨hb.cell (by omega),hb.frozen (by omega)⟩)
  have HSb_23:=hd' (HSb_22.out.below hb (by omega))
  have HX0b_23:=hd' (HX0b_22.out.below hb (by omega))
  have HX1b_23:=hd' (HX1b_22.out.below hb (by omega))
  have HRb_23:=hd' (HRb_22.out.below hb (by omega))
  have HQ_23:=hd' (HMk22.out.keep fun p hp hq=>⟨hb.cell (by omega),hb.frozen (by omega)⟩)
  clear qRb_0 qRb_1 qRb_2 qRb_3 qRb_4 qRb_5 lqRb
  clear HTAL_22 HVA_22 HEA_22 HHA_22 HPA_22 HB_22 Hbel_22 HBAL_22 HBA_22 HS_22 HSb_22 HX0b_22 HX1b_22 HRb_22 HMk22
  clear hb
  have hq0:(0:Int)≤1+((dmo (edV (ediB ts id vec es hs al ps l val) (puVec vec es id l val):List Int).length (edE (ediB ts id vec es hs al ps l val) (puEs vec es id l val):List En) (edM (ediB ts id vec es hs al ps l val) hs:List Mn) (noMs:List Mn):Nat):Int):=by omega
  have hq1:((1+((dmo (edV (ediB ts id vec es hs al ps l val) (puVec vec es id l val):List Int).length (edE (ediB ts id vec es hs al ps l val) (puEs vec es id l val):List En) (edM (ediB ts id vec es hs al ps l val) hs:List Mn) (noMs:List Mn):Nat):Int)) != 1+((dmo (edV (ediB ts id vec es hs al ps l val) (puVec vec es id l val):List Int).length (edE (ediB ts id vec es hs al ps l val) (puEs vec es id l val):List En) (edM (ediB ts id vec es hs al ps l val) hs:List Mn) (noMs:List Mn):Nat):Int))=false:=by simp
  have qBAL_0:=HBAL_23.out 0 (by simp)
  have qBA_0:=HBA_23.out 0 (by simp)
  have qBA_1:=HBA_23.out 1 (by simp)
  have qBA_2:=HBA_23.out 2 (by simp)
  have qBA_3:=HBA_23.out 3 (by simp)
  have qBA_4:=HBA_23.out 4 (by simp)
  have qBA_5:=HBA_23.out 5 (by simp)
  simp only [List.getElem_cons_succ,List.getElem_cons_zero] at qBAL_0 qBA_0 qBA_1 qBA_2 qBA_3 qBA_4 qBA_5
  have lqBAL:w.heap.size < v23.heap.size:=by omega
  have lqBA:w.heap.size+1 < v23.heap.size:=by omega
  have HC24:=hd' (show ∀X,Sw v23 X→X.cell? ⟨w.heap.size,0,none⟩=some (.slice AL ts.length cL)∧X.cell? ⟨w.heap.size+1,0,none⟩=some (.int .i64 id)∧X.cell? ⟨w.heap.size+1,1,none⟩=some (.slice AV vec.length cv)∧X.cell? ⟨w.heap.size+1,2,none⟩=some (.slice A es.length c)∧X.cell? ⟨w.heap.size+1,3,none⟩=some (.slice AH hs.length ch)∧X.cell? ⟨w.heap.size+1,4,none⟩=some (.bool al)∧X.cell? ⟨w.heap.size+1,5,none⟩=some (.slice AP ps.length cp) from fun X hX=>⟨(Below.cell hX (p:=⟨w.heap.size,0,none⟩) lqBAL).trans qBAL_0,(Below.cell hX (p:=⟨w.heap.size+1,0,none⟩) lqBA).trans qBA_0,(Below.cell hX (p:=⟨w.heap.size+1,1,none⟩) lqBA).trans qBA_1,(Below.cell hX (p:=⟨w.heap.size+1,2,none⟩) lqBA).trans qBA_2,(Below.cell hX (p:=⟨w.heap.size+1,3,none⟩) lqBA).trans qBA_3,(Below.cell hX (p:=⟨w.heap.size+1,4,none⟩) lqBA).trans qBA_4,(Below.cell hX (p:=⟨w.heap.size+1,5,none⟩) lqBA).trans qBA_5⟩)
  go_upto_region 37 with fail
  go_cut [20,21] from 117 to 127 (fun s6 s7 wx=>CutDv v23 (.bool (ediB ts id vec es hs al ps l val)) (edI (ediB ts id vec es hs al ps l val) id) (edV (ediB ts id vec es hs al ps l val) (puVec vec es id l val)) (edE (ediB ts id vec es hs al ps l val) (puEs vec es id l val)) (edM (ediB ts id vec es hs al ps l val) hs) (false) (noMs) s6 s7 wx)
  case first =>
    have mk0:True:=trivial
    have mk1:True:=trivial
    have mk2:True:=trivial
    go_region_held3 (fun X=>X.cell? ⟨w.heap.size,0,none⟩=some (.slice AL ts.length cL)∧X.cell? ⟨w.heap.size+1,0,none⟩=some (.int .i64 id)∧X.cell? ⟨w.heap.size+1,1,none⟩=some (.slice AV vec.length cv)∧X.cell? ⟨w.heap.size+1,2,none⟩=some (.slice A es.length c)∧X.cell? ⟨w.heap.size+1,3,none⟩=some (.slice AH hs.length ch)∧X.cell? ⟨w.heap.size+1,4,none⟩=some (.bool al)∧X.cell? ⟨w.heap.size+1,5,none⟩=some (.slice AP ps.length cp))
      (first|(refine HC24.out _ ?_;repeat first|with_reducible exact Sw.refl _|with_reducible exact HS0.out|with_reducible exact HS1.out|with_reducible exact HS2.out|with_reducible exact HS3.out|with_reducible apply Sw.drew|with_reducible apply Sw.alloc|with_reducible refine Sw.set ?_ (by first|exact Nat.le_refl _|omega) _))
      (first
        | (clear mk0;go_at_call 15
           refine (toLedger_any AL ts cL _ ((HTAL_23.out.keep fun p _ hp=>?_).mono ?_) htlAL htbAL).mono ?_
           · refine Below.cell (w:=v23) (B:=v23.heap.size) ?_ (by omega)
             show Sw v23 _
             repeat first|with_reducible exact Sw.refl _|with_reducible exact HS0.out|with_reducible exact HS1.out|with_reducible exact HS2.out|with_reducible exact HS3.out|with_reducible apply Sw.drew|with_reducible apply Sw.alloc
           · refine Nat.le_trans (show w.heap.size≤v23.heap.size by omega) (Below.size (w:=v23) (B:=v23.heap.size) ?_)
             show Sw v23 _
             repeat first|with_reducible exact Sw.refl _|with_reducible exact HS0.out|with_reducible exact HS1.out|with_reducible exact HS2.out|with_reducible exact HS3.out|with_reducible apply Sw.drew|with_reducible apply Sw.alloc
           rintro e y0 ⟨gty0,rfl,_,hown0,hbp0⟩
           have HS0:=hd' (show Sw v23 y0 from Sw.below (by repeat first|with_reducible exact Sw.refl _|with_reducible exact HS0.out|with_reducible exact HS1.out|with_reducible exact HS2.out|with_reducible exact HS3.out|with_reducible apply Sw.drew|with_reducible apply Sw.alloc) hbp0)
           have hzs0:=Below.size HS0.out
           have HMc0_0:=hd' (show TmsIn y0 v23.heap.size y0.heap.size (some ⟨gty0,0,none⟩) ts from hown0.low (Below.size (show Sw v23 _ from by repeat first|with_reducible exact Sw.refl _|with_reducible exact HS0.out|with_reducible exact HS1.out|with_reducible exact HS2.out|with_reducible exact HS3.out|with_reducible apply Sw.drew|with_reducible apply Sw.alloc)))
           try (have HZ:=hd' (BxH.new1 hbp0))
           try (have HZ:=hd' (BxH.new2 hbp0))
           try (have hzl0:=HZ.out.2.2)
           obtain ⟨s0_0,s0_1,s0_2,s0_3,s0_4,s0_5,s0_6⟩:=HC24.out y0 HS0.out
           have lzBAL_0:w.heap.size < y0.heap.size:=by omega
           have lzBA_0:w.heap.size+1 < y0.heap.size:=by omega
           clear hown0 hbp0)
        | (clear mk1;go_at_call 26
           refine (toDevice_own id AV vec cv A es c AH hs ch al AP ps cp _ ((HVA_23.out.keep fun p _ hp=>?_).mono ?_) ((HEA_23.out.keep fun p _ hp=>?_).mono ?_) ((HHA_23.out.keep fun p _ hp=>?_).mono ?_) ((HPA_23.out.keep fun p _ hp=>?_).mono ?_) hvlA helA hblA hhlA hhbA hplA hpbA).mono ?_
           · refine Below.cell (w:=v23) (B:=v23.heap.size) ?_ (by omega)
             show Sw v23 _
             repeat first|with_reducible exact Sw.refl _|with_reducible exact HS0.out|with_reducible exact HS1.out|with_reducible exact HS2.out|with_reducible exact HS3.out|with_reducible apply Sw.drew|with_reducible apply Sw.alloc
           · refine Nat.le_trans (show w.heap.size≤v23.heap.size by omega) (Below.size (w:=v23) (B:=v23.heap.size) ?_)
             show Sw v23 _
             repeat first|with_reducible exact Sw.refl _|with_reducible exact HS0.out|with_reducible exact HS1.out|with_reducible exact HS2.out|with_reducible exact HS3.out|with_reducible apply Sw.drew|with_reducible apply Sw.alloc
           · refine Below.cell (w:=v23) (B:=v23.heap.size) ?_ (by omega)
             show Sw v23 _
             repeat first|with_reducible exact Sw.refl _|with_reducible exact HS0.out|with_reducible exact HS1.out|with_reducible exact HS2.out|with_reducible exact HS3.out|with_reducible apply Sw.drew|with_reducible apply Sw.alloc
           · refine Nat.le_trans (show w.heap.size≤v23.heap.size by omega) (Below.size (w:=v23) (B:=v23.heap.size) ?_)
             show Sw v23 _
             repeat first|with_reducible exact Sw.refl _|with_reducible exact HS0.out|with_reducible exact HS1.out|with_reducible exact HS2.out|with_reducible exact HS3.out|with_reducible apply Sw.drew|with_reducible apply Sw.alloc
           · refine Below.cell (w:=v23) (B:=v23.heap.size) ?_ (by omega)
             show Sw v23 _
             repeat first|with_reducible exact Sw.refl _|with_reducible exact HS0.out|with_reducible exact HS1.out|with_reducible exact HS2.out|with_reducible exact HS3.out|with_reducible apply Sw.drew|with_reducible apply Sw.alloc
           · refine Nat.le_trans (show w.heap.size≤v23.heap.size by omega) (Below.size (w:=v23) (B:=v23.heap.size) ?_)
             show Sw v23 _
             repeat first|with_reducible exact Sw.refl _|with_reducible exact HS0.out|with_reducible exact HS1.out|with_reducible exact HS2.out|with_reducible exact HS3.out|with_reducible apply Sw.drew|with_reducible apply Sw.alloc
           · refine Below.cell (w:=v23) (B:=v23.heap.size) ?_ (by omega)
             show Sw v23 _
             repeat first|with_reducible exact Sw.refl _|with_reducible exact HS0.out|with_reducible exact HS1.out|with_reducible exact HS2.out|with_reducible exact HS3.out|with_reducible apply Sw.drew|with_reducible apply Sw.alloc
           · refine Nat.le_trans (show w.heap.size≤v23.heap.size by omega) (Below.size (w:=v23) (B:=v23.heap.size) ?_)
             show Sw v23 _
             repeat first|with_reducible exact Sw.refl _|with_reducible exact HS0.out|with_reducible exact HS1.out|with_reducible exact HS2.out|with_reducible exact HS3.out|with_reducible apply Sw.drew|with_reducible apply Sw.alloc
           rintro e y1 ⟨gvy1,gey1,ghy1,gpy1,rfl,_,hown1,hbp1⟩
           have HS1:=hd' (show Sw v23 y1 from Sw.below (by repeat first|with_reducible exact Sw.refl _|with_reducible exact HS0.out|with_reducible exact HS1.out|with_reducible exact HS2.out|with_reducible exact HS3.out|with_reducible apply Sw.drew|with_reducible apply Sw.alloc) hbp1)
           have hzs1:=Below.size HS1.out
           have HMc1_1:=hd' (show DvOwn y1 v23.heap.size y1.heap.size (some ⟨gvy1,0,none⟩) vec (some ⟨gey1,0,none⟩) es (some ⟨ghy1,0,none⟩) hs (some ⟨gpy1,0,none⟩) ps from hown1.mono (Below.size (show Sw v23 _ from by repeat first|with_reducible exact Sw.refl _|with_reducible exact HS0.out|with_reducible exact HS1.out|with_reducible exact HS2.out|with_reducible exact HS3.out|with_reducible apply Sw.drew|with_reducible apply Sw.alloc)) (Nat.le_refl _))
           have HW1:=hd' (show Sw y0 y1 from Sw.below (by repeat first|with_reducible exact Sw.refl _|with_reducible apply Sw.drew|with_reducible apply Sw.alloc) hbp1)
           have hzw1:=Below.size HW1.out
           have HMc0_1:=hd' (show TmsIn y1 v23.heap.size y0.heap.size (some ⟨gty0,0,none⟩) ts from HMc0_0.out.keep fun p _ hq=>Below.cell HW1.out (by omega))
           try (have HZ:=hd' (BxH.below HZ.out (Sw.below (by repeat first|with_reducible exact Sw.refl _|with_reducible apply Sw.drew|with_reducible apply Sw.alloc) hbp1)))
           try (have HZ:=hd' (BxH.new1 hbp1))
           try (have HZ:=hd' (BxH.new2 hbp1))
           try (have hzl1:=HZ.out.2.2)
           obtain ⟨s1_0,s1_1,s1_2,s1_3,s1_4,s1_5,s1_6⟩:=HC24.out y1 HS1.out
           have lzBAL_1:w.heap.size < y1.heap.size:=by omega
           have lzBA_1:w.heap.size+1 < y1.heap.size:=by omega
           clear hown1 hbp1)
        | (clear mk2;go_at_call 30
           refine (toByteS_nf B l cb _ ((HB_23.out.keep fun p _ hp=>?_).mono ?_) rB).mono ?_
           · refine Below.cell (w:=v23) (B:=v23.heap.size) ?_ (by omega)
             show Sw v23 _
             repeat first|with_reducible exact Sw.refl _|with_reducible exact HS0.out|with_reducible exact HS1.out|with_reducible exact HS2.out|with_reducible exact HS3.out|with_reducible apply Sw.drew|with_reducible apply Sw.alloc
           · refine Nat.le_trans (show w.heap.size≤v23.heap.size by omega) (Below.size (w:=v23) (B:=v23.heap.size) ?_)
             show Sw v23 _
             repeat first|with_reducible exact Sw.refl _|with_reducible exact HS0.out|with_reducible exact HS1.out|with_reducible exact HS2.out|with_reducible exact HS3.out|with_reducible apply Sw.drew|with_reducible apply Sw.alloc
           rintro e y2 ⟨gby2,rfl,_,_,hown2,hbp2⟩
           have HS2:=hd' (show Sw v23 y2 from Sw.below (by repeat first|with_reducible exact Sw.refl _|with_reducible exact HS0.out|with_reducible exact HS1.out|with_reducible exact HS2.out|with_reducible exact HS3.out|with_reducible apply Sw.drew|with_reducible apply Sw.alloc) hbp2)
           have hzs2:=Below.size HS2.out
           have HMc2_2:=hd' (show BytesFr y2 v23.heap.size y2.heap.size (some ⟨gby2,0,none⟩) l from hown2.low (Below.size (show Sw v23 _ from by repeat first|with_reducible exact Sw.refl _|with_reducible exact HS0.out|with_reducible exact HS1.out|with_reducible exact HS2.out|with_reducible exact HS3.out|with_reducible apply Sw.drew|with_reducible apply Sw.alloc)))
           have HW2:=hd' (show Sw y1 y2 from Sw.below (by repeat first|with_reducible exact Sw.refl _|with_reducible apply Sw.drew|with_reducible apply Sw.alloc) hbp2)
           have hzw2:=Below.size HW2.out
           have HMc0_2:=hd' (show TmsIn y2 v23.heap.size y0.heap.size (some ⟨gty0,0,none⟩) ts from HMc0_1.out.keep fun p _ hq=>Below.cell HW2.out (by omega))
           have HMc1_2:=hd' (show DvOwn y2 v23.heap.size y1.heap.size (some ⟨gvy1,0,none⟩) vec (some ⟨gey1,0,none⟩) es (some ⟨ghy1,0,none⟩) hs (some ⟨gpy1,0,none⟩) ps from HMc1_1.out.keep fun p hp hq=>⟨Below.cell HW2.out (by omega),Below.frozen HW2.out (by omega)⟩)
           try (have HZ:=hd' (BxH.below HZ.out (Sw.below (by repeat first|with_reducible exact Sw.refl _|with_reducible apply Sw.drew|with_reducible apply Sw.alloc) hbp2)))
           try (have HZ:=hd' (BxH.new1 hbp2))
           try (have HZ:=hd' (BxH.new2 hbp2))
           try (have hzl2:=HZ.out.2.2)
           obtain ⟨s2_0,s2_1,s2_2,s2_3,s2_4,s2_5,s2_6⟩:=HC24.out y2 HS2.out
           have lzBAL_2:w.heap.size < y2.heap.size:=by omega
           have lzBA_2:w.heap.size+1 < y2.heap.size:=by omega
           clear hown2 hbp2)
        | (go_at_call 31
           refine (implEdit_any (some ⟨gty0,0,none⟩) ts ts.length id (some ⟨gvy1,0,none⟩) vec vec.length (some ⟨gey1,0,none⟩) es es.length (some ⟨ghy1,0,none⟩) hs hs.length al (some ⟨gpy1,0,none⟩) ps ps.length (some ⟨gby2,0,none⟩) l l.length val _ (((HMc0_2.out.keep fun p _ hp=>?_).low (Nat.zero_le _)).mono ?_) htlAL htbAL (((HMc1_2.out.tree.vecIn.ints.keep fun p _ hp=>?_).low (Nat.zero_le _)).mono ?_) (((HMc1_2.out.tree.ensIn.ens.keep fun p _ hp=>?_).low (Nat.zero_le _)).mono ?_) ((HMc1_2.out.heads.rd.keep fun p _ hp=>?_).mono (Nat.zero_le _) ?_) ((HMc1_2.out.proof.rd.keep fun p _ hp=>?_).mono (Nat.zero_le _) ?_) hvlA helA hblA hhlA hhbA hplA hpbA (((HMc2_2.out.bytes.keep fun p _ hp=>?_).low (Nat.zero_le _)).mono ?_) rB).mono ?_
           · refine Below.cell (w:=y2) (B:=y2.heap.size) ?_ (by omega)
             show Sw y2 _
             repeat first|with_reducible exact Sw.refl _|with_reducible apply Sw.drew|with_reducible apply Sw.alloc
           · refine Nat.le_trans (show _≤y2.heap.size by omega) (Below.size (w:=y2) (B:=y2.heap.size) ?_)
             show Sw y2 _
             repeat first|with_reducible exact Sw.refl _|with_reducible apply Sw.drew|with_reducible apply Sw.alloc
           · refine Below.cell (w:=y2) (B:=y2.heap.size) ?_ (by omega)
             show Sw y2 _
             repeat first|with_reducible exact Sw.refl _|with_reducible apply Sw.drew|with_reducible apply Sw.alloc
           · refine Nat.le_trans (show _≤y2.heap.size by omega) (Below.size (w:=y2) (B:=y2.heap.size) ?_)
             show Sw y2 _
             repeat first|with_reducible exact Sw.refl _|with_reducible apply Sw.drew|with_reducible apply Sw.alloc
           · refine Below.cell (w:=y2) (B:=y2.heap.size) ?_ (by omega)
             show Sw y2 _
             repeat first|with_reducible exact Sw.refl _|with_reducible apply Sw.drew|with_reducible apply Sw.alloc
           · refine Nat.le_trans (show _≤y2.heap.size by omega) (Below.size (w:=y2) (B:=y2.heap.size) ?_)
             show Sw y2 _
             repeat first|with_reducible exact Sw.refl _|with_reducible apply Sw.drew|with_reducible apply Sw.alloc
           · refine Below.cell (w:=y2) (B:=y2.heap.size) ?_ (by omega)
             show Sw y2 _
             repeat first|with_reducible exact Sw.refl _|with_reducible apply Sw.drew|with_reducible apply Sw.alloc
           · refine Nat.le_trans (show _≤y2.heap.size by omega) (Below.size (w:=y2) (B:=y2.heap.size) ?_)
             show Sw y2 _
             repeat first|with_reducible exact Sw.refl _|with_reducible apply Sw.drew|with_reducible apply Sw.alloc
           · refine Below.cell (w:=y2) (B:=y2.heap.size) ?_ (by omega)
             show Sw y2 _
             repeat first|with_reducible exact Sw.refl _|with_reducible apply Sw.drew|with_reducible apply Sw.alloc
           · refine Nat.le_trans (show _≤y2.heap.size by omega) (Below.size (w:=y2) (B:=y2.heap.size) ?_)
             show Sw y2 _
             repeat first|with_reducible exact Sw.refl _|with_reducible apply Sw.drew|with_reducible apply Sw.alloc
           · refine Below.cell (w:=y2) (B:=y2.heap.size) ?_ (by omega)
             show Sw y2 _
             repeat first|with_reducible exact Sw.refl _|with_reducible apply Sw.drew|with_reducible apply Sw.alloc
           · refine Nat.le_trans (show _≤y2.heap.size by omega) (Below.size (w:=y2) (B:=y2.heap.size) ?_)
             show Sw y2 _
             repeat first|with_reducible exact Sw.refl _|with_reducible apply Sw.drew|with_reducible apply Sw.alloc
           rintro e y3 ⟨AVs,cvs,As,cs,AHs,chs,APs,cps,rfl,howns,_,hbp3⟩
           have HS3:=hd' (show Sw v23 y3 from Sw.below (by repeat first|with_reducible exact Sw.refl _|with_reducible exact HS0.out|with_reducible exact HS1.out|with_reducible exact HS2.out|with_reducible exact HS3.out|with_reducible apply Sw.drew|with_reducible apply Sw.alloc) hbp3)
           have hzs3:=Below.size HS3.out
           have HOs:=hd' howns
           try (have HZ:=hd' (BxH.below HZ.out (Sw.below (by repeat first|with_reducible exact Sw.refl _|with_reducible apply Sw.drew|with_reducible apply Sw.alloc) hbp3)))
           try (have HZ:=hd' (BxH.new1 hbp3))
           try (have HZ:=hd' (BxH.new2 hbp3))
           try (obtain ⟨zb,zf,zlt⟩:=HZ.out;have zc0:=zb 0 (by simp);have zc1:=zb 1 (by simp);have zc2:=zb 2 (by simp);have zc3:=zb 3 (by simp);have zc4:=zb 4 (by simp);have zc5:=zb 5 (by simp);have zf0:=zf 0;have zf1:=zf 1;have zf2:=zf 2;have zf3:=zf 3;have zf4:=zf 4;have zf5:=zf 5;simp only [List.getElem_cons_succ,List.getElem_cons_zero] at zc0 zc1 zc2 zc3 zc4 zc5)
           clear howns hbp3))
    all_goals go_wp2_with fail
    all_goals go_meet
    all_goals first
      | with_reducible exact cutDv_new HOs.out HS3.out (Sw.le (by repeat first|with_reducible exact Sw.refl _|with_reducible exact HS0.out|with_reducible exact HS1.out|with_reducible exact HS2.out|with_reducible exact HS3.out|with_reducible apply Sw.drew|with_reducible apply Sw.alloc))
      | (have hZl:=HZ.out.2.2
         have hr:=cutDv_put (S:=.bool (ediB ts id vec es hs al ps l val)) (id:=edI (ediB ts id vec es hs al ps l val) id) (al:=false) (cv:=cvs) (c:=cs) (ch:=chs) (cp:=cps) HOs.out HS3.out (Sw.le (by repeat first|with_reducible exact Sw.refl _|with_reducible exact HS0.out|with_reducible exact HS1.out|with_reducible exact HS2.out|with_reducible exact HS3.out|with_reducible apply Sw.drew|with_reducible apply Sw.alloc)) HZ.out rfl (by first|exact Nat.le_refl _|omega|(simp;done)|(simp;omega)) (by first|exact Nat.le_refl _|omega|(simp;done)|(simp;omega))
         simp only [putAll] at hr
         exact hr)
  case rest =>
  obtain ⟨bz24,AV24,cv24,A24,c24,AH24,ch24,AP24,cp24,rfl,rfl,hbz24,hbl24,hbx,hown,hb⟩:=hcut
  rename World=>v24
  have z24:=Below.size hb
  have HN24:=hd' hown
  have HNb24:=hd' hbx
  replace hb:Below v23.heap.size v23 v24:=hb
  clear HC24 hbx
  have HTAL_24:=hd' (HTAL_23.out.keep fun p _ hp=>hb.cell (by omega))
  have HVA_24:=hd' (HVA_23.out.keep fun p _ hp=>hb.cell (by omega))
  have HEA_24:=hd' (HEA_23.out.keep fun p _ hp=>hb.cell (by omega))
  have HHA_24:=hd' (HHA_23.out.keep fun p _ hp=>hb.cell (by omega))
  have HPA_24:=hd' (HPA_23.out.keep fun p _ hp=>hb.cell (by omega))
  have HB_24:=hd' (HB_23.out.keep fun p _ hp=>hb.cell (by omega))
  have Hbel_24:=hd' (Hbel_23.out.trans (hb.mono (by omega)))
  have HBAL_24:=hd' (HBAL_23.out.below hb (by omega))
  have HBA_24:=hd' (HBA_23.out.below hb (by omega))
  have HS_24:=hd' (HS_23.out.keep fun p hp hq=>⟨hb.cell (by omega),hb.frozen (by omega)⟩)
  have HSb_24:=hd' (HSb_23.out.below hb (by omega))
  have HX0b_24:=hd' (HX0b_23.out.below hb (by omega))
  have HX1b_24:=hd' (HX1b_23.out.below hb (by omega))
  have HRb_24:=hd' (HRb_23.out.below hb (by omega))
  have HQ_24:=hd' (HQ_23.out.keep fun p hp hq=>⟨hb.cell (by omega),hb.frozen (by omega)⟩)
  clear qBAL_0 qBA_0 qBA_1 qBA_2 qBA_3 qBA_4 qBA_5 lqBAL lqBA
  clear HTAL_23 HVA_23 HEA_23 HHA_23 HPA_23 HB_23 Hbel_23 HBAL_23 HBA_23 HS_23 HSb_23 HX0b_23 HX1b_23 HRb_23 HQ_23
  clear hb hown
  have qTb_0:=HNb24.out 0 (by simp)
  have qTb_1:=HNb24.out 1 (by simp)
  have qTb_2:=HNb24.out 2 (by simp)
  have qTb_3:=HNb24.out 3 (by simp)
  have qTb_4:=HNb24.out 4 (by simp)
  have qTb_5:=HNb24.out 5 (by simp)
  have qSb_0:=HSb_24.out 0 (by simp)
  have qSb_1:=HSb_24.out 1 (by simp)
  have qSb_2:=HSb_24.out 2 (by simp)
  have qSb_3:=HSb_24.out 3 (by simp)
  have qSb_4:=HSb_24.out 4 (by simp)
  have qSb_5:=HSb_24.out 5 (by simp)
  simp only [List.getElem_cons_succ,List.getElem_cons_zero] at qTb_0 qTb_1 qTb_2 qTb_3 qTb_4 qTb_5 qSb_0 qSb_1 qSb_2 qSb_3 qSb_4 qSb_5
  have lqTb:bz24 < v24.heap.size:=by omega
  have lqSb:bz5 < v24.heap.size:=by omega
  go_wp2_with fail
  refine (eqDevice_same (edI (ediB ts id vec es hs al ps l val) id) AV24 AV5 A24 A5 AH24 AH5 AP24 AP5 (edV (ediB ts id vec es hs al ps l val) (puVec vec es id l val):List Int) (edE (ediB ts id vec es hs al ps l val) (puEs vec es id l val):List En) (edM (ediB ts id vec es hs al ps l val) hs:List Mn) (noMs:List Mn) (false) cv24 cv5 c24 c5 ch24 ch5 cp24 cp5 v23.heap.size v4.heap.size v24.heap.size v5.heap.size v24 HN24.out HS_24.out (by omega) (by omega) (edV_len (puVec_len hvlA)) (edE_len (puEs_len helA)) (edE_bulk (puEs_bulk hblA)) (edM_len hhlA) (edM_bulk hhbA) noMs_len noMs_bulk).mono ?_
  rintro e v25 ⟨rfl,hb⟩
  have z25:=hb.size
  have HTAL_25:=hd' (HTAL_24.out.keep fun p _ hp=>hb.cell (by omega))
  have HVA_25:=hd' (HVA_24.out.keep fun p _ hp=>hb.cell (by omega))
  have HEA_25:=hd' (HEA_24.out.keep fun p _ hp=>hb.cell (by omega))
  have HHA_25:=hd' (HHA_24.out.keep fun p _ hp=>hb.cell (by omega))
  have HPA_25:=hd' (HPA_24.out.keep fun p _ hp=>hb.cell (by omega))
  have HB_25:=hd' (HB_24.out.keep fun p _ hp=>hb.cell (by omega))
  have Hbel_25:=hd' (Hbel_24.out.trans (hb.mono (by omega)))
  have HBAL_25:=hd' (HBAL_24.out.below hb (by omega))
  have HBA_25:=hd' (HBA_24.out.below hb (by omega))
  have HX0b_25:=hd' (HX0b_24.out.below hb (by omega))
  have HX1b_25:=hd' (HX1b_24.out.below hb (by omega))
  have HRb_25:=hd' (HRb_24.out.below hb (by omega))
  have HQ_25:=hd' (HQ_24.out.keep fun p hp hq=>⟨hb.cell (by omega),hb.frozen (by omega)⟩)
  clear qTb_0 qTb_1 qTb_2 qTb_3 qTb_4 qTb_5 qSb_0 qSb_1 qSb_2 qSb_3 qSb_4 qSb_5 lqTb lqSb
  clear HTAL_24 HVA_24 HEA_24 HHA_24 HPA_24 HB_24 Hbel_24 HBAL_24 HBA_24 HS_24 HSb_24 HX0b_24 HX1b_24 HRb_24 HQ_24 HN24 HNb24
  clear hb
  have qRb_0:=HRb_25.out 0 (by simp)
  have qRb_1:=HRb_25.out 1 (by simp)
  have qRb_2:=HRb_25.out 2 (by simp)
  have qRb_3:=HRb_25.out 3 (by simp)
  have qRb_4:=HRb_25.out 4 (by simp)
  have qRb_5:=HRb_25.out 5 (by simp)
  simp only [List.getElem_cons_succ,List.getElem_cons_zero] at qRb_0 qRb_1 qRb_2 qRb_3 qRb_4 qRb_5
  have lqRb:v11.heap.size < v25.heap.size:=by omega
  go_wp2_with fail
  refine (heldDevice_own (edI (ediB ts id vec es hs al ps l val) id) AV11 A11 AH11 AP11 (edE (ediB ts id vec es hs al ps l val) (puEs vec es id l val):List En) (edM (ediB ts id vec es hs al ps l val) hs:List Mn) (noMs:List Mn) (false) cv11 c11 ch11 cp11 v10.heap.size v11.heap.size 1 v25 (edV (ediB ts id vec es hs al ps l val) (puVec vec es id l val):List Int).length HQ_25.out (by omega) (edV_len (puVec_len hvlA)) (edE_len (puEs_len helA)) (edE_bulk (puEs_bulk hblA)) (edM_len hhlA) (edM_bulk hhbA) noMs_len noMs_bulk (by omega) (by omega)).mono ?_
  rintro e v26 ⟨rfl,hb⟩
  have z26:=hb.size
  have HTAL_26:=hd' (HTAL_25.out.keep fun p _ hp=>hb.cell (by omega))
  have HVA_26:=hd' (HVA_25.out.keep fun p _ hp=>hb.cell (by omega))
  have HEA_26:=hd' (HEA_25.out.keep fun p _ hp=>hb.cell (by omega))
  have HHA_26:=hd' (HHA_25.out.keep fun p _ hp=>hb.cell (by omega))
  have HPA_26:=hd' (HPA_25.out.keep fun p _ hp=>hb.cell (by omega))
  have HB_26:=hd' (HB_25.out.keep fun p _ hp=>hb.cell (by omega))
  have Hbel_26:=hd' (Hbel_25.out.trans (hb.mono (by omega)))
  have HBAL_26:=hd' (HBAL_25.out.below hb (by omega))
  have HBA_26:=hd' (HBA_25.out.below hb (by omega))
  have HX0b_26:=hd' (HX0b_25.out.below hb (by omega))
  have HX1b_26:=hd' (HX1b_25.out.below hb (by omega))
  have HRb_26:=hd' (HRb_25.out.below hb (by omega))
  have HQ_26:=hd' (HQ_25.out.keep fun p hp hq=>⟨hb.cell (by omega),hb.frozen (by omega)⟩)
  clear qRb_0 qRb_1 qRb_2 qRb_3 qRb_4 qRb_5 lqRb
  clear HTAL_25 HVA_25 HEA_25 HHA_25 HPA_25 HB_25 Hbel_25 HBAL_25 HBA_25 HX0b_25 HX1b_25 HRb_25 HQ_25
  clear hb
  go_wp2_with fail
  go_ret
  exact ⟨rfl,Hbel_26.out⟩
end Go.Proofs.YtckajeippfpojaaGreat
