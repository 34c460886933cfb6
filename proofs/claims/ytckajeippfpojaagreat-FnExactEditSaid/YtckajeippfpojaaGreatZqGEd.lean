import Derived.Test.YtckajeippfpojaaGreatZqGWt
import Derived.Test.YtckajeippfpojaaGreatZqPutI
import Derived.Test.YtckajeippfpojaaGreatZqGPs
import Derived.Test.YtckajeippfpojaaGreatZqDropI
import Derived.Test.YtckajeippfpojaaGreatZqGOw
import Derived.Deep.CutRange
import Derived.Test.YtckajeippfpojaaGreatZqOd
import Derived.Test.YtckajeippfpojaaGreatZqGDv
import Derived.Test.YtckajeippfpojaaGreatZqGDn
import Derived.Test.YtckajeippfpojaaGreatZqGB
namespace Go.Proofs.YtckajeippfpojaaGreat
open Go.RowKit Go.Maps
set_option maxRecDepth 100000
theorem WtPost.ans {k:Bool} {L:Nat} {id:Int} {vec:List Int} {es:List En} {hs:List Mn} {w w':World} {e:Ending} (h:WtPost k L id vec es hs w e w'):WtDv L (cond k id 0) (cond k vec []) (cond k es []) (cond k hs []) false [] k w e w':=by
  rcases h.of with ⟨rfl,h⟩|⟨rfl,h⟩ <;> exact h
noncomputable def edB (ts:List Tm) (id:Int) (vec:List Int) (es:List En) (hs:List Mn) (al:Bool) (ps:List Mn) (k:Bool):Bool:=k && (dokB ts id vec es hs al ps && !al)
theorem edB_eq {ts:List Tm} {id:Int} {vec:List Int} {es:List En} {hs:List Mn} {al:Bool} {ps:List Mn} {k:Bool}:(k && (dokB ts id vec es hs al ps && !decide (0 < ps.length)))=edB ts id vec es hs al ps k:=by
  unfold edB
  cases h:dokB ts id vec es hs al ps with
  | false=>rfl
  | true=>rw [(dok_facts h).2.2.2.2.1]
theorem ed_vl {α:Type} {k:Bool} {n:Nat} {l:List α} (h:l.length≤n):(cond k l []).length≤n:=by cases k <;> simp [h]
theorem ed_eb {k : Bool} {n : Nat} {l : List En} (h : ebulk l ≤ n) : ebulk (cond k l []) ≤ n := by cases k; · exact Nat.zero_le _
                                                                                                   · exact h
theorem ed_mb {k : Bool} {n : Nat} {l : List Mn} (h : mbulk l ≤ n) : mbulk (cond k l []) ≤ n := by cases k; · exact Nat.zero_le _
                                                                                                   · exact h
set_option maxHeartbeats 1000000 in
theorem implEdit_raw (AL:Option Addr) (ts:List Tm) (cL:Nat) (id:Int) (AV:Option Addr) (vec:List Int) (cv:Nat) (A:Option Addr) (es:List En) (c:Nat) (AH:Option Addr) (hs:List Mn) (ch:Nat) (al:Bool) (AP:Option Addr) (ps:List Mn) (cp:Nat) (Ab:Option Addr) (l:List UInt8) (cb:Nat) (val:Int) (w:World) (hT:TmsIn w 0 w.heap.size AL ts) (ht:ts.length≤1048576) (htb:bulk ts≤1048576) (hV:IntsIn w 0 w.heap.size AV vec) (hA:EnsIn w 0 w.heap.size A es) (hH:MnsRd w 0 w.heap.size AH hs) (hP:MnsRd w 0 w.heap.size AP ps) (hv:vec.length≤1048576) (hn:es.length≤1048576) (hbk:ebulk es≤1048576) (hhl:hs.length≤1048576) (hhb:mbulk hs≤1048576) (hpl:ps.length≤1048576) (hpb:mbulk ps≤1048576) (hB:BytesIn w 0 w.heap.size Ab l) (hbl:l.length≤1048576) :
    Calls Tryz.prog 31 #[.agg #[.slice AL ts.length cL],.agg #[.int .i64 id,.slice AV vec.length cv,.slice A es.length c,.slice AH hs.length ch,.bool al,.slice AP ps.length cp],.slice Ab l.length cb,.int .i64 val] w (NewDvB (cond (edB ts id vec es hs al ps (puOk vec es id l val)) id 0) (cond (edB ts id vec es hs al ps (puOk vec es id l val)) (puVec vec es id l val) []) (cond (edB ts id vec es hs al ps (puOk vec es id l val)) (puEs vec es id l val) []) (cond (edB ts id vec es hs al ps (puOk vec es id l val)) hs []) false [] (edB ts id vec es hs al ps (puOk vec es id l val)) w):=by
  have HT:=hd' hT
  have HV:=hd' hV
  have HA:=hd' hA
  have HH:=hd' hH
  have HP:=hd' hP
  have HB:=hd' hB
  clear hV hA hH hP hT hB
  go_enter Tryz.func31,Tryz.ntmps31
  go_wp2_with fail
  obtain ⟨W1_0,hW1_0⟩:∃x,x=w.alloc (.cells #[.slice AL ts.length cL] 35):=⟨_,rfl⟩
  obtain ⟨W1_1,hW1_1⟩:∃x,x=W1_0.alloc (.cells #[.int .i64 id,.slice AV vec.length cv,.slice A es.length c,.slice AH hs.length ch,.bool al,.slice AP ps.length cp] 57):=⟨_,rfl⟩
  obtain ⟨W1_2,hW1_2⟩:∃x,x=W1_1.alloc (.cells #[.int .i64 0,.slice none 0 0,.slice none 0 0,.slice none 0 0,.bool false,.slice none 0 0] 57):=⟨_,rfl⟩
  have hZ1_0:W1_0.heap.size=w.heap.size+1:=by rw [hW1_0];simp
  have hZ1_1:W1_1.heap.size=w.heap.size+2:=by rw [hW1_1];simp [hZ1_0]
  have hZ1_2:W1_2.heap.size=w.heap.size+3:=by rw [hW1_2];simp [hZ1_1]
  have hx0:Bx W1_0 (w.heap.size) [.slice AL ts.length cL]:=by rw [hW1_0];exact Bx.new' _ _ _ _ rfl
  replace hx0:Bx W1_1 (w.heap.size) [.slice AL ts.length cL]:=by rw [hW1_1];exact hx0.alloc (by omega) _
  replace hx0:Bx W1_2 (w.heap.size) [.slice AL ts.length cL]:=by rw [hW1_2];exact hx0.alloc (by omega) _
  have hx1:Bx W1_1 (w.heap.size+1) [.int .i64 id,.slice AV vec.length cv,.slice A es.length c,.slice AH hs.length ch,.bool al,.slice AP ps.length cp]:=by rw [hW1_1,←hZ1_0];exact Bx.new' _ _ _ _ rfl
  replace hx1:Bx W1_2 (w.heap.size+1) [.int .i64 id,.slice AV vec.length cv,.slice A es.length c,.slice AH hs.length ch,.bool al,.slice AP ps.length cp]:=by rw [hW1_2];exact hx1.alloc (by omega) _
  have hx2:Bx W1_2 (w.heap.size+2) [.int .i64 0,.slice none 0 0,.slice none 0 0,.slice none 0 0,.bool false,.slice none 0 0]:=by rw [hW1_2,←hZ1_1];exact Bx.new' _ _ _ _ rfl
  have hb0:Below w.heap.size w W1_2:=by rw [hW1_2,hW1_1,hW1_0];exact ((((Below.refl _ _).alloc (by first|exact Nat.le_refl _|(simp;done)|(simp;omega)) _).alloc (by first|exact Nat.le_refl _|(simp;done)|(simp;omega)) _).alloc (by first|exact Nat.le_refl _|(simp;done)|(simp;omega)) _)
  have hf2:∀o,W1_2.frozen? ⟨w.heap.size+2,o,none⟩=false:=fun o=>by rw [hW1_2,hW1_1,hW1_0];exact ((((Fresh.refl w).alloc _ _).alloc _ _).alloc _ _) ⟨w.heap.size+2,o,none⟩ (by show w.heap.size≤w.heap.size+2;omega)
  have hlt:w.heap.size+2 < W1_2.heap.size:=by omega
  rw [←hW1_0,←hW1_1,←hW1_2]
  clear hW1_0 hZ1_0 hW1_1 hZ1_1 hW1_2 hZ1_2
  have z_2:=hb0.size
  have Hbel_3:=hd' (hb0)
  have HL_4:=hd' (hx0)
  have HD_5:=hd' (hx1)
  have HR_6:=hd' (hx2)
  have HRF_7:=hd' (hf2)
  clear hf2
  clear hb0 hx0 hx1 hx2
  have hl_8:=hlt
  clear hlt
  have qD_0:=HD_5.out 0 (by simp)
  have qD_1:=HD_5.out 1 (by simp)
  have qD_2:=HD_5.out 2 (by simp)
  have qD_3:=HD_5.out 3 (by simp)
  have qD_4:=HD_5.out 4 (by simp)
  have qD_5:=HD_5.out 5 (by simp)
  have lD:w.heap.size+1 < W1_2.heap.size:=by omega
  simp only [List.getElem_cons_succ,List.getElem_cons_zero] at qD_0 qD_1 qD_2 qD_3 qD_4 qD_5
  go_wp2_with fail
  refine (implPut_any AV vec cv A es c id Ab l cb val W1_2 ((HV.out.keep fun p _ hp=>Hbel_3.out.cell hp).mono (by omega)) ((HA.out.keep fun p _ hp=>Hbel_3.out.cell hp).mono (by omega)) hv hn hbk ((HB.out.keep fun p _ hp=>Hbel_3.out.cell hp).mono (by omega)) hbl).mono ?_
  rintro e w1 ⟨AVt,cvt,At,ct,rfl,hown,hlo,hb⟩
  clear qD_0 qD_1 qD_2 qD_3 qD_4 qD_5 lD
  have z_9:=hb.size
  have Hbel_10:=hd' (Hbel_3.out.trans (hb.mono (by omega)))
  have HL_11:=hd' (HL_4.out.below hb (by omega))
  have HD_12:=hd' (HD_5.out.below hb (by omega))
  have HR_13:=hd' (HR_6.out.below hb (by omega))
  have HRF_14:=hd' (show ∀o,w1.frozen? ⟨w.heap.size+2,o,none⟩=false from fun o=>(hb.frozen (p:=⟨w.heap.size+2,o,none⟩) (by show w.heap.size+2 < _;omega)).trans (HRF_7.out o))
  clear Hbel_3 HL_4 HD_5 HR_6 HRF_7
  clear hb
  have HOwn:=hd' hown
  clear hown
  go_upto_region 2 with fail
  obtain ⟨W15_0,hW15_0⟩:∃x,x=w1.alloc (.cells #[.slice AVt (puVec vec es id l val).length cvt,.slice At (puEs vec es id l val).length ct] 38):=⟨_,rfl⟩
  have hZ15_0:W15_0.heap.size=w1.heap.size+1:=by rw [hW15_0];simp
  have hx0:Bx W15_0 (w1.heap.size) [.slice AVt (puVec vec es id l val).length cvt,.slice At (puEs vec es id l val).length ct]:=by rw [hW15_0];exact Bx.new' _ _ _ _ rfl
  have hb0:Below w1.heap.size w1 W15_0:=by rw [hW15_0];exact ((Below.refl _ _).alloc (by first|exact Nat.le_refl _|(simp;done)|(simp;omega)) _)
  have hlt:w1.heap.size+0 < W15_0.heap.size:=by omega
  rw [←hW15_0]
  clear hW15_0 hZ15_0
  have z_16:=hb0.size
  have Hbel_17:=hd' (Hbel_10.out.trans (hb0.mono (by omega)))
  have HL_18:=hd' (HL_11.out.below hb0 (by omega))
  have HD_19:=hd' (HD_12.out.below hb0 (by omega))
  have HR_20:=hd' (HR_13.out.below hb0 (by omega))
  have HRF_21:=hd' (show ∀o,W15_0.frozen? ⟨w.heap.size+2,o,none⟩=false from fun o=>(hb0.frozen (p:=⟨w.heap.size+2,o,none⟩) (by show w.heap.size+2 < _;omega)).trans (HRF_14.out o))
  have Htr_22:=hd' (HOwn.out.keep fun p hp hq=>⟨hb0.cell (by omega),hb0.frozen (by omega)⟩)
  clear Hbel_10 HL_11 HD_12 HR_13 HRF_14 HOwn
  have HT_23:=hd' (hx0)
  clear hb0 hx0
  have hl_24:=hlt
  clear hlt
  have qL_0:=HL_18.out 0 (by simp)
  have lL:w.heap.size < W15_0.heap.size:=by omega
  have qD_0:=HD_19.out 0 (by simp)
  have qD_1:=HD_19.out 1 (by simp)
  have qD_2:=HD_19.out 2 (by simp)
  have qD_3:=HD_19.out 3 (by simp)
  have qD_4:=HD_19.out 4 (by simp)
  have qD_5:=HD_19.out 5 (by simp)
  have lD:w.heap.size+1 < W15_0.heap.size:=by omega
  have qT_0:=HT_23.out 0 (by simp)
  have qT_1:=HT_23.out 1 (by simp)
  have lT:w1.heap.size < W15_0.heap.size:=by omega
  simp only [List.getElem_cons_succ,List.getElem_cons_zero] at qL_0 qD_0 qD_1 qD_2 qD_3 qD_4 qD_5 qT_0 qT_1
  go_wp2_with fail
  refine (withTree_any AL ts cL id AV vec cv A es c AH hs ch al AP ps cp AVt (puVec vec es id l val) cvt At (puEs vec es id l val) ct (puOk vec es id l val) W1_2.heap.size W15_0 ((HT.out.keep fun p _ hp=>Hbel_17.out.cell hp).mono (by omega)) ht htb ((HV.out.keep fun p _ hp=>Hbel_17.out.cell hp).mono (by omega)) ((HA.out.keep fun p _ hp=>Hbel_17.out.cell hp).mono (by omega)) ((HH.out.keep fun p _ hp=>Hbel_17.out.cell hp).mono (Nat.le_refl _) (by omega)) ((HP.out.keep fun p _ hp=>Hbel_17.out.cell hp).mono (Nat.le_refl _) (by omega)) hv hn hbk hhl hhb hpl hpb (Htr_22.out.mono (Nat.le_refl _) (by omega)) (by omega)).mono ?_
  intro e w3 hq
  have hq:=hq.ans
  rw [edB_eq] at hq
  obtain ⟨AV3,cv3,A3,c3,AH,ch3,AP,cp3,rfl,hown,hlo3,hb⟩:=hq
  have HDv:=hd' hown
  clear hown
  clear qL_0 lL qD_0 qD_1 qD_2 qD_3 qD_4 qD_5 lD qT_0 qT_1 lT
  have z_25:=hb.size
  have Hbel_26:=hd' (Hbel_17.out.trans (hb.mono (by omega)))
  have HR_27:=hd' (HR_20.out.below hb (by omega))
  have HRF_28:=hd' (show ∀o,w3.frozen? ⟨w.heap.size+2,o,none⟩=false from fun o=>(hb.frozen (p:=⟨w.heap.size+2,o,none⟩) (by show w.heap.size+2 < _;omega)).trans (HRF_21.out o))
  clear Hbel_17 HL_18 HD_19 HR_20 HRF_21 Htr_22 HT_23
  clear hb
  obtain ⟨kk,hkk⟩:∃k,k=edB ts id vec es hs al ps (puOk vec es id l val):=⟨_,rfl⟩
  rw [←hkk] at HDv ⊢
  have HKK:=hd' hkk
  clear hkk
  simp only [List.length_nil]
  have qR_0:=HR_27.out 0 (by simp)
  have qR_1:=HR_27.out 1 (by simp)
  have qR_2:=HR_27.out 2 (by simp)
  have qR_3:=HR_27.out 3 (by simp)
  have qR_4:=HR_27.out 4 (by simp)
  have qR_5:=HR_27.out 5 (by simp)
  have lR:w.heap.size+2 < w3.heap.size:=by omega
  have fRF_0:=HRF_28.out 0
  have fRF_1:=HRF_28.out 1
  have fRF_2:=HRF_28.out 2
  have fRF_3:=HRF_28.out 3
  have fRF_4:=HRF_28.out 4
  have fRF_5:=HRF_28.out 5
  simp only [List.getElem_cons_succ,List.getElem_cons_zero] at qR_0 qR_1 qR_2 qR_3 qR_4 qR_5
  go_wp2_with fail
  clear qR_0 qR_1 qR_2 qR_3 qR_4 qR_5 lR fRF_0 fRF_1 fRF_2 fRF_3 fRF_4 fRF_5
  obtain ⟨w9,hW29⟩:∃x,x=putAll (w.heap.size+2) 0 [.int .i64 (cond kk id 0),.slice AV3 (cond kk (puVec vec es id l val) []).length cv3,.slice A3 (cond kk (puEs vec es id l val) []).length c3,.slice AH (cond kk hs []).length ch3,.bool false,.slice AP 0 cp3] w3:=⟨_,rfl⟩
  have hs29:w9.heap.size=w3.heap.size:=by rw [hW29];exact putAll_size
  have Hbel_30:=hd' (show Below w.heap.size w w9 by rw [hW29];exact putAll_below Hbel_26.out (by omega))
  have HR_31:=hd' (show Bx w9 (w.heap.size+2) [.int .i64 (cond kk id 0),.slice AV3 (cond kk (puVec vec es id l val) []).length cv3,.slice A3 (cond kk (puEs vec es id l val) []).length c3,.slice AH (cond kk hs []).length ch3,.bool false,.slice AP 0 cp3] by rw [hW29];have hq:=HR_27.out.put 0 [.int .i64 (cond kk id 0),.slice AV3 (cond kk (puVec vec es id l val) []).length cv3,.slice A3 (cond kk (puEs vec es id l val) []).length c3,.slice AH (cond kk hs []).length ch3,.bool false,.slice AP 0 cp3] (by simp);simpa using hq)
  have HRF_32:=hd' (show ∀o,w9.frozen? ⟨w.heap.size+2,o,none⟩=false from fun o=>by rw [hW29];exact (putAll_frozen _).trans (HRF_28.out o))
  have Hdv_33:=hd' (show DvOwn w9 W1_2.heap.size w3.heap.size AV3 (cond kk (puVec vec es id l val) []) A3 (cond kk (puEs vec es id l val) []) AH (cond kk hs []) AP [] by rw [hW29];exact HDv.out.keep fun p hp hq=>⟨putAll_other (by omega),putAll_frozen _⟩)
  simp only [putAll] at hW29
  rw [←hW29]
  have z_34:w3.heap.size≤w9.heap.size:=Nat.le_of_eq hs29.symm
  clear hW29 hs29 Hbel_26 HR_27 HRF_28 HDv
  have qR_0:=HR_31.out 0 (by simp)
  have qR_1:=HR_31.out 1 (by simp)
  have qR_2:=HR_31.out 2 (by simp)
  have qR_3:=HR_31.out 3 (by simp)
  have qR_4:=HR_31.out 4 (by simp)
  have qR_5:=HR_31.out 5 (by simp)
  have lR:w.heap.size+2 < w9.heap.size:=by omega
  simp only [List.getElem_cons_succ,List.getElem_cons_zero] at qR_0 qR_1 qR_2 qR_3 qR_4 qR_5
  refine bodyPost_ret (v:=.tuple #[.agg #[.int .i64 (cond kk id 0),.slice AV3 (cond kk (puVec vec es id l val) []).length cv3,.slice A3 (cond kk (puEs vec es id l val) []).length c3,.slice AH (cond kk hs []).length ch3,.bool false,.slice AP 0 cp3],.bool kk]) (by simp [results,Tryz.results31,qR_0,qR_1,qR_2,qR_3,qR_4,qR_5,go_sem]) rfl ?_
  rw [←HKK.out]
  exact ⟨AV3,cv3,A3,c3,AH,ch3,AP,cp3,rfl,Hdv_33.out.mono (by omega) (by omega),by omega,Hbel_30.out⟩
end Go.Proofs.YtckajeippfpojaaGreat
namespace Go.Proofs.YtckajeippfpojaaGreat
open Go.RowKit Go.Maps
set_option maxRecDepth 100000
set_option maxHeartbeats 1000000 in
theorem l5own_any (id:Int) (AV:Option Addr) (vec:List Int) (cv:Nat) (A:Option Addr) (es:List En) (c:Nat) (AH:Option Addr) (hs:List Mn) (ch:Nat) (al:Bool) (AP:Option Addr) (ps:List Mn) (cp:Nat) (w:World) (hV:IntsIn w 0 w.heap.size AV vec) (hA:EnsIn w 0 w.heap.size A es) (hH:MnsRd w 0 w.heap.size AH hs) (hP:MnsRd w 0 w.heap.size AP ps) (hv:vec.length≤1048576) (hn:es.length≤1048576) (hbk:ebulk es≤1048576) (hhl:hs.length≤1048576) (hhb:mbulk hs≤1048576) (hpl:ps.length≤1048576) (hpb:mbulk ps≤1048576) :
    Calls Tryz.prog 81 #[.agg #[.int .i64 id,.slice AV vec.length cv,.slice A es.length c,.slice AH hs.length ch,.bool al,.slice AP ps.length cp]] w (NewDv id vec es hs al ps w):=by
  have HV:=hd' hV
  have HA:=hd' hA
  have HH:=hd' hH
  have HP:=hd' hP
  clear hV hA hH hP
  go_enter Tryz.func81,Tryz.ntmps81
  go_upto_region 1 with fail
  obtain ⟨W1_0,hW1_0⟩:∃x,x=w.alloc (.cells #[.int .i64 id,.slice AV vec.length cv,.slice A es.length c,.slice AH hs.length ch,.bool al,.slice AP ps.length cp] 57):=⟨_,rfl⟩
  obtain ⟨W1_1,hW1_1⟩:∃x,x=W1_0.alloc (.cells #[.int .i64 0,.slice none 0 0,.slice none 0 0,.slice none 0 0,.bool false,.slice none 0 0] 57):=⟨_,rfl⟩
  have hZ1_0:W1_0.heap.size=w.heap.size+1:=by rw [hW1_0];simp
  have hZ1_1:W1_1.heap.size=w.heap.size+2:=by rw [hW1_1];simp [hZ1_0]
  have hx0:Bx W1_0 (w.heap.size) [.int .i64 id,.slice AV vec.length cv,.slice A es.length c,.slice AH hs.length ch,.bool al,.slice AP ps.length cp]:=by rw [hW1_0];exact Bx.new' _ _ _ _ rfl
  replace hx0:Bx W1_1 (w.heap.size) [.int .i64 id,.slice AV vec.length cv,.slice A es.length c,.slice AH hs.length ch,.bool al,.slice AP ps.length cp]:=by rw [hW1_1];exact hx0.alloc (by omega) _
  have hx1:Bx W1_1 (w.heap.size+1) [.int .i64 0,.slice none 0 0,.slice none 0 0,.slice none 0 0,.bool false,.slice none 0 0]:=by rw [hW1_1,←hZ1_0];exact Bx.new' _ _ _ _ rfl
  have hb0:Below w.heap.size w W1_1:=by rw [hW1_1,hW1_0];exact (((Below.refl _ _).alloc (by first|exact Nat.le_refl _|(simp;done)|(simp;omega)) _).alloc (by first|exact Nat.le_refl _|(simp;done)|(simp;omega)) _)
  have hf1:∀o,W1_1.frozen? ⟨w.heap.size+1,o,none⟩=false:=fun o=>by rw [hW1_1,hW1_0];exact (((Fresh.refl w).alloc _ _).alloc _ _) ⟨w.heap.size+1,o,none⟩ (by show w.heap.size≤w.heap.size+1;omega)
  have hlt:w.heap.size+1 < W1_1.heap.size:=by omega
  rw [←hW1_0,←hW1_1]
  clear hW1_0 hZ1_0 hW1_1 hZ1_1
  have z_2:=hb0.size
  have Hbel_3:=hd' (hb0)
  have HD_4:=hd' (hx0)
  have HR_5:=hd' (hx1)
  have HRF_6:=hd' (hf1)
  clear hf1
  clear hb0 hx0 hx1
  have hl_7:=hlt
  clear hlt
  have lD:w.heap.size < W1_1.heap.size:=by omega
  have HCell:=hd' (show ∀X,Below W1_1.heap.size W1_1 X→X.cell? ⟨w.heap.size,0,none⟩=some (.int .i64 id)∧X.cell? ⟨w.heap.size,1,none⟩=some (.slice AV vec.length cv)∧X.cell? ⟨w.heap.size,2,none⟩=some (.slice A es.length c)∧X.cell? ⟨w.heap.size,3,none⟩=some (.slice AH hs.length ch)∧X.cell? ⟨w.heap.size,4,none⟩=some (.bool al)∧X.cell? ⟨w.heap.size,5,none⟩=some (.slice AP ps.length cp) from fun X hX=>⟨(hX.cell (p:=⟨w.heap.size,0,none⟩) lD).trans (HD_4.out 0 (by simp)),(hX.cell (p:=⟨w.heap.size,1,none⟩) lD).trans (HD_4.out 1 (by simp)),(hX.cell (p:=⟨w.heap.size,2,none⟩) lD).trans (HD_4.out 2 (by simp)),(hX.cell (p:=⟨w.heap.size,3,none⟩) lD).trans (HD_4.out 3 (by simp)),(hX.cell (p:=⟨w.heap.size,4,none⟩) lD).trans (HD_4.out 4 (by simp)),(hX.cell (p:=⟨w.heap.size,5,none⟩) lD).trans (HD_4.out 5 (by simp))⟩)
  obtain ⟨s0,s1,s2,s3,s4,s5⟩:=HCell.out W1_1 (Below.refl _ _)
  go_cut [3] from 6 to 13 (fun s wx=>RelD id vec es al W1_1 s wx)
  case first =>
    go_region_held3 (fun X=>X.cell? ⟨w.heap.size,0,none⟩=some (.int .i64 id)∧X.cell? ⟨w.heap.size,1,none⟩=some (.slice AV vec.length cv)∧X.cell? ⟨w.heap.size,2,none⟩=some (.slice A es.length c)∧X.cell? ⟨w.heap.size,3,none⟩=some (.slice AH hs.length ch)∧X.cell? ⟨w.heap.size,4,none⟩=some (.bool al)∧X.cell? ⟨w.heap.size,5,none⟩=some (.slice AP ps.length cp))
      (first|(refine HCell.out _ ?_;repeat first|with_reducible exact Below.refl _ _|with_reducible exact hbt|with_reducible apply Below.drew|with_reducible refine Below.setCell ?_ (by first|exact Nat.le_refl _|(simp;done)|(simp;omega)|omega) _|with_reducible refine Below.alloc ?_ (by first|exact Nat.le_refl _|(simp;done)|(simp;omega)|omega) _))
      (first
        | (go_at_call 112
           refine (l3own_cap AV vec cv A es c _ ((HV.out.keep fun p _ hp=>?_).mono ?_) ((HA.out.keep fun p _ hp=>?_).mono ?_) hv hn hbk).mono ?_
           · refine (Below.cell (B:=W1_1.heap.size) (w:=W1_1) ?_ (by omega)).trans (Hbel_3.out.cell (by omega))
             repeat first|with_reducible exact Below.refl _ _|with_reducible exact hbt|with_reducible apply Below.drew|with_reducible refine Below.setCell ?_ (by first|exact Nat.le_refl _|(simp;done)|(simp;omega)|omega) _|with_reducible refine Below.alloc ?_ (by first|exact Nat.le_refl _|(simp;done)|(simp;omega)|omega) _
           · refine Nat.le_trans (show w.heap.size≤W1_1.heap.size by omega) (Below.size (B:=W1_1.heap.size) (w:=W1_1) ?_)
             repeat first|with_reducible exact Below.refl _ _|with_reducible exact hbt|with_reducible apply Below.drew|with_reducible refine Below.setCell ?_ (by first|exact Nat.le_refl _|(simp;done)|(simp;omega)|omega) _|with_reducible refine Below.alloc ?_ (by first|exact Nat.le_refl _|(simp;done)|(simp;omega)|omega) _
           · refine (Below.cell (B:=W1_1.heap.size) (w:=W1_1) ?_ (by omega)).trans (Hbel_3.out.cell (by omega))
             repeat first|with_reducible exact Below.refl _ _|with_reducible exact hbt|with_reducible apply Below.drew|with_reducible refine Below.setCell ?_ (by first|exact Nat.le_refl _|(simp;done)|(simp;omega)|omega) _|with_reducible refine Below.alloc ?_ (by first|exact Nat.le_refl _|(simp;done)|(simp;omega)|omega) _
           · refine Nat.le_trans (show w.heap.size≤W1_1.heap.size by omega) (Below.size (B:=W1_1.heap.size) (w:=W1_1) ?_)
             repeat first|with_reducible exact Below.refl _ _|with_reducible exact hbt|with_reducible apply Below.drew|with_reducible refine Below.setCell ?_ (by first|exact Nat.le_refl _|(simp;done)|(simp;omega)|omega) _|with_reducible refine Below.alloc ?_ (by first|exact Nat.le_refl _|(simp;done)|(simp;omega)|omega) _
           rintro r wt ⟨AVt,cvt,At,ct,rfl,hown,hlt,hcap,hbt0⟩
           have hbt:Below W1_1.heap.size W1_1 wt:=Below.trans (by repeat first|with_reducible exact Below.refl _ _|with_reducible exact hbt|with_reducible apply Below.drew|with_reducible refine Below.setCell ?_ (by first|exact Nat.le_refl _|(simp;done)|(simp;omega)|omega) _|with_reducible refine Below.alloc ?_ (by first|exact Nat.le_refl _|(simp;done)|(simp;omega)|omega) _) (hbt0.mono (by first|exact Nat.le_refl _|(simp;done)|(simp;omega)))
           have hzt:=hbt.size
           have HOt:=hd' hown
           have hlt1:=hlt
           try first|have hq:=BxH.new2 hbt0|have hq:=BxH.new1 hbt0
           try (obtain ⟨hqb,hqf,hql⟩:=hq;have k0:=hqb 0 (by simp);have k1:=hqb 1 (by simp);have k2:=hqb 2 (by simp);have k3:=hqb 3 (by simp);have k4:=hqb 4 (by simp);have k5:=hqb 5 (by simp);have f0:=hqf 0;have f1:=hqf 1;have f2:=hqf 2;have f3:=hqf 3;have f4:=hqf 4;have f5:=hqf 5;simp only [List.getElem_cons_succ,List.getElem_cons_zero] at k0 k1 k2 k3 k4 k5)))
    all_goals go_wp2_with fail
    all_goals go_meet
    all_goals first
      | with_reducible exact relD_new HOt.out (Below.refl _ _) (by first|exact Nat.le_refl _|(simp;done)|(simp;omega)) (Nat.le_of_lt hlt1) hbt
      | (have hr:=fun (kv kc:Nat)=>relD_put (id:=id) (al:=al) (W:=W1_1) (cv:=kv) (c:=kc) HOt.out (Below.refl _ _) ⟨hqb,hqf,hql⟩ rfl (by first|exact Nat.le_refl _|(simp;done)|(simp;omega)) (by first|exact Nat.le_refl _|(simp;done)|(simp;omega)) (Nat.le_of_lt hlt1) (by first|(left;simp;done)|(left;simp;omega)|(right;omega)) hbt
         simp only [putAll] at hr
         with_reducible exact hr _ _)
  case rest =>
    obtain ⟨b,AV2,cv2,A2,c2,L1,B1,rfl,hb1,hbx,hL1,hB1,hLB,hap,hT,hbel⟩:=hcut
    rename World=>W4
    have lb:=hbx.2.2
    have hbelK:=hbel
    clear HCell s0 s1 s2 s3 s4 s5
    have z_8:=hbel.size
    have Hbel_9:=hd' (Hbel_3.out.trans (hbel.mono (by omega)))
    have HD_10:=hd' (HD_4.out.below hbel (by omega))
    have HR_11:=hd' (HR_5.out.below hbel (by omega))
    have HRF_12:=hd' (show ∀o,W4.frozen? ⟨w.heap.size+1,o,none⟩=false from fun o=>(hbel.frozen (p:=⟨w.heap.size+1,o,none⟩) (by show w.heap.size+1 < _;omega)).trans (HRF_6.out o))
    clear Hbel_3 HD_4 HR_5 HRF_6
    have HBx:=hd' hbx
    have HT:=hd' hT
    clear hbx hT hbel hbelK
    go_wp2_with fail
    have HSt0:=hd' (show MdSt b 3 (hs.take 0) W4 [.int .i64 id,.slice AV2 vec.length cv2,.slice A2 es.length c2,.slice none 0 0,.bool al,.slice none 0 0] 0 none 0 [] W4 from ⟨rfl,rfl,by simpa using HBx.out,MxsIs.nil (Nat.le_refl _),OffB.refl _ _⟩)
    go_loopw [4] (fun i wr=>∃(k:Nat) (A':Option Addr) (c':Nat) (us:List Mx),k≤hs.length∧i=.int .i64 k∧MdSt b 3 (hs.take k) W4 [.int .i64 id,.slice AV2 vec.length cv2,.slice A2 es.length c2,.slice none 0 0,.bool al,.slice none 0 0] k A' c' us wr) (fun i _=>hs.length - (intOf i).toNat)
    case atStart=>exact ⟨0,none,0,[],Nat.zero_le _,rfl,HSt0.out⟩
    case round =>
      obtain ⟨k,A',c',us,hk,rfl,hst⟩:=hrel
      have hoff:=hst.off
      have HSt:=hd' hst
      clear hst HSt0
      have z_13:=hoff.size
      have Hbel_14:=hd' (hoff.bel Hbel_9.out (by omega) (by omega))
      have HD_15:=hd' (show Bx wr (w.heap.size) [.int .i64 id,.slice AV vec.length cv,.slice A es.length c,.slice AH hs.length ch,.bool al,.slice AP ps.length cp] from fun j hj=>(hoff.cell (p:=⟨w.heap.size,j,none⟩) (by show w.heap.size < _;omega) (by show w.heap.size≠_;omega)).trans (HD_10.out j hj))
      have HR_16:=hd' (show Bx wr (w.heap.size+1) [.int .i64 0,.slice none 0 0,.slice none 0 0,.slice none 0 0,.bool false,.slice none 0 0] from fun j hj=>(hoff.cell (p:=⟨w.heap.size+1,j,none⟩) (by show w.heap.size+1 < _;omega) (by show w.heap.size+1≠_;omega)).trans (HR_11.out j hj))
      have HRF_17:=hd' (show ∀o,wr.frozen? ⟨w.heap.size+1,o,none⟩=false from fun o=>(hoff.frozen (p:=⟨w.heap.size+1,o,none⟩) (by show w.heap.size+1 < _;omega) (by show w.heap.size+1≠_;omega)).trans (HRF_12.out o))
      clear Hbel_9 HD_10 HR_11 HRF_12
      clear hoff
      by_cases hkl:k < hs.length
      · obtain ⟨m,hm⟩:∃m,m=hs[k]:=⟨_,rfl⟩
        have hle:=one_le_mbulk hs k hkl
        obtain ⟨bA,oA,rfl,_,hbA,hc⟩:=HH.out (by omega)
        obtain ⟨AV0,cv0,A0,c0,d0,d1,d2,d3,d4,d5,hv0,he0,_⟩:=(hc k hkl).keep (w':=wr) (Nat.zero_le _) hbA (fun p _ hp=>Hbel_14.out.cell hp)
        rw [←hm] at d0 d1 d2 d3 d4 d5 hv0 he0 hle
        have HMk:=hd' hm
        have HV0:=hd' (hv0.mono (show w.heap.size≤wr.heap.size by omega))
        have HE0:=hd' (he0.mono (show w.heap.size≤wr.heap.size by omega))
        have hk':(k:Int) < (hs.length:Int):=by omega
        have lA:bA < wr.heap.size:=by omega
        clear hc hm hv0 he0
        have qD_0:=HD_15.out 0 (by simp)
        have qD_1:=HD_15.out 1 (by simp)
        have qD_2:=HD_15.out 2 (by simp)
        have qD_3:=HD_15.out 3 (by simp)
        have qD_4:=HD_15.out 4 (by simp)
        have qD_5:=HD_15.out 5 (by simp)
        have lD:w.heap.size < wr.heap.size:=by omega
        simp only [List.getElem_cons_succ,List.getElem_cons_zero] at qD_0 qD_1 qD_2 qD_3 qD_4 qD_5
        go_upto_region 5 with fail
        have hl3:k+1≤maxLen:=by unfold maxLen;omega
        have hl4:(k+1)*80≤140737488355328:=by omega
        obtain ⟨i1,hi1,hy0,hy1,hy2⟩:=info_parts Tryz.infoMan
        have hrow:=HSt.out.row.1
        rw [HSt.out.len] at hrow
        have oc:wr.cell? ⟨b,3,none⟩=some (.slice A' k c'):=by have:=HSt.out.bx.1 3 (by simp);simpa using this
        have of:=HSt.out.bx.2.1 3
        have lo:=HSt.out.bx.2.2
        have lW:W4.heap.size≤wr.heap.size:=HSt.out.off.size
        have HRow:=hd' hrow
        clear hrow
        go_region_law
          (first
            | (try go_simp
               go_at_call 59
               refine (l4own_cap m AV0 cv0 A0 c0 _ ?_ ?_ (by omega) (by omega) (by omega)).mono ?_
               · exact HV0.out
               · exact HE0.out
               rintro e w6 ⟨AV1,cv1,A1,c1,rfl,hown,hlt6,hcap,hb6⟩
               have hB6:Below wr.heap.size wr w6:=by first|exact hb6|exact (Below.refl wr.heap.size wr).drew.trans hb6|exact (Below.refl wr.heap.size wr).drew.drew.trans hb6
               have hz6:wr.heap.size≤w6.heap.size:=hB6.size
               have HT6:=hd' (show TrOwn w6 wr.heap.size w6.heap.size AV1 m.vec A1 m.es from hown)
               have oc6:w6.cell? ⟨b,3,none⟩=some (.slice A' k c'):=(hB6.cell (p:=⟨b,3,none⟩) lo).trans oc
               have hrow6:w6.ownsRow W4.heap.size 40 6 (.slice A' k c') k (rowM us):=ownsRow_below HRow.out hB6 (fun g hg=>(HRow.out.lt g hg).2)
               have lW6:W4.heap.size≤w6.heap.size:=by omega
               have lo6:b < w6.heap.size:=by omega
               have HC6:=hd' hcap
               have HB6:=hd' hB6
               clear hb6 hown hcap hB6
               go_wp2_with fail)
            | (refine step_append_at _ (by rfl) _ _ _ (by rfl) W4.heap.size 40 i1 _ 6 80 Tryz.underlying55 hi1 hy0 hy1 hy2 rfl (by decide) (.slice A' k c') k (rowM us) (by rfl) ?_ ⟨w6.heap.size,0,none⟩ 1 1 (cellsM ⟨m,AV1,cv1,A1,c1⟩) (by rfl) rfl ?_ (cellsM_one _) hl3 hl4 ?_ ?_
               · (repeat first|with_reducible exact hrow6|with_reducible apply World.ownsRow.drew|with_reducible apply World.ownsRow.alloc)
               · first|exact newsM|exact newsM_drew|exact newsM_drew'
               · simp;omega
               intro A7 c7 w7 hown7 hgr7 hv7
               have HMd7:=hd' (HSt.out.step (x:=⟨m,AV1,cv1,A1,c1⟩) (by simp) (by omega) HB6.out HT6.out HC6.out (by repeat first|with_reducible exact Below.refl _ _|with_reducible apply Below.drew|with_reducible refine Below.alloc ?_ (by first|exact Nat.le_refl _|(simp;done)|(simp;omega)) _) hown7 hgr7 hv7)
               have hne7:some (b)≠(Value.slice A' k c').ownBlock:=fun e=>by have:=(HRow.out.lt _ e.symm).1;omega
               have hbx7:=((HSt.out.bx.below HB6.out).below (by repeat first|with_reducible exact Below.refl _ _|with_reducible apply Below.drew|with_reducible refine Below.alloc ?_ (by first|exact Nat.le_refl _|(simp;done)|(simp;omega)) _)).grown hgr7 hne7
               have o_7:w7.cell? ⟨b,3,none⟩=some (.slice A' k c'):=by have:=hbx7.1 3 (by simp);simpa using this
               have of_7:=hbx7.2.1 3
               have lo_7:=hbx7.2.2
               clear hgr7 hown7 hv7 hbx7 hne7))
        all_goals clear oc of oc6 hrow6 i1 hi1 hy0 hy1 hy2
        all_goals
          go_wp2_with fail
          go_roundw
          case rel=>exact ⟨k+1,_,_,_,by omega,by go_num,by rw [List.take_succ_eq_append_getElem hkl,←HMk.out];exact HMd7.out⟩
          case measure=>simp [intOf];omega
      · have hke:k=hs.length:=by omega
        subst hke
        obtain ⟨W5,rfl⟩:∃X:World,X=wr:=⟨_,rfl⟩
        obtain ⟨AHn,rfl⟩:∃X:Option Addr,X=A':=⟨_,rfl⟩
        obtain ⟨cHn,rfl⟩:∃X:Nat,X=c':=⟨_,rfl⟩
        have hus:=HSt.out.ms
        rw [List.take_length] at hus
        have HMH:=hd' (HSt.out.row.own hus)
        have hlrH:W4.heap.size≤W5.heap.size:=HSt.out.off.size
        have HTr:=hd' (show TrOwn W5 L1 B1 AV2 vec A2 es from HT.out.keep fun p hp hq=>⟨HSt.out.off.cell (by omega) (by omega),HSt.out.off.frozen (by omega) (by omega)⟩)
        have hbx5:BxH W5 b [.int .i64 id,.slice AV2 vec.length cv2,.slice A2 es.length c2,.slice AHn hs.length cHn,.bool al,.slice none 0 0]:=by simpa using HSt.out.bx
        have oh:=hbx5.1 3 (by simp)
        simp only [List.getElem_cons_succ,List.getElem_cons_zero] at oh
        have lb5:=hbx5.2.2
        clear HBx
        have HBx:=hd' hbx5
        clear hbx5 hus HSt HT
        have qD_0:=HD_15.out 0 (by simp)
        have qD_1:=HD_15.out 1 (by simp)
        have qD_2:=HD_15.out 2 (by simp)
        have qD_3:=HD_15.out 3 (by simp)
        have qD_4:=HD_15.out 4 (by simp)
        have qD_5:=HD_15.out 5 (by simp)
        have lD:w.heap.size < W5.heap.size:=by omega
        simp only [List.getElem_cons_succ,List.getElem_cons_zero] at qD_0 qD_1 qD_2 qD_3 qD_4 qD_5
        go_wp2_with fail
        clear qD_0 qD_1 qD_2 qD_3 qD_4 qD_5 lD
        clear oh
        have HSt0:=hd' (show MdSt b 5 (ps.take 0) W5 [.int .i64 id,.slice AV2 vec.length cv2,.slice A2 es.length c2,.slice AHn hs.length cHn,.bool al,.slice none 0 0] 0 none 0 [] W5 from ⟨rfl,rfl,by simpa using HBx.out,MxsIs.nil (Nat.le_refl _),OffB.refl _ _⟩)
        go_loopw [5] (fun i wr=>∃(k:Nat) (A':Option Addr) (c':Nat) (us:List Mx),k≤ps.length∧i=.int .i64 k∧MdSt b 5 (ps.take k) W5 [.int .i64 id,.slice AV2 vec.length cv2,.slice A2 es.length c2,.slice AHn hs.length cHn,.bool al,.slice none 0 0] k A' c' us wr) (fun i _=>ps.length - (intOf i).toNat)
        case atStart=>exact ⟨0,none,0,[],Nat.zero_le _,rfl,HSt0.out⟩
        case round =>
          obtain ⟨k,A',c',us,hk,rfl,hst⟩:=hrel
          have hoff:=hst.off
          have HSt:=hd' hst
          clear hst HSt0
          have z_18:=hoff.size
          have Hbel_19:=hd' (hoff.bel Hbel_14.out (by omega) (by omega))
          have HD_20:=hd' (show Bx wr (w.heap.size) [.int .i64 id,.slice AV vec.length cv,.slice A es.length c,.slice AH hs.length ch,.bool al,.slice AP ps.length cp] from fun j hj=>(hoff.cell (p:=⟨w.heap.size,j,none⟩) (by show w.heap.size < _;omega) (by show w.heap.size≠_;omega)).trans (HD_15.out j hj))
          have HR_21:=hd' (show Bx wr (w.heap.size+1) [.int .i64 0,.slice none 0 0,.slice none 0 0,.slice none 0 0,.bool false,.slice none 0 0] from fun j hj=>(hoff.cell (p:=⟨w.heap.size+1,j,none⟩) (by show w.heap.size+1 < _;omega) (by show w.heap.size+1≠_;omega)).trans (HR_16.out j hj))
          have HRF_22:=hd' (show ∀o,wr.frozen? ⟨w.heap.size+1,o,none⟩=false from fun o=>(hoff.frozen (p:=⟨w.heap.size+1,o,none⟩) (by show w.heap.size+1 < _;omega) (by show w.heap.size+1≠_;omega)).trans (HRF_17.out o))
          clear Hbel_14 HD_15 HR_16 HRF_17
          clear hoff
          by_cases hkl:k < ps.length
          · obtain ⟨m,hm⟩:∃m,m=ps[k]:=⟨_,rfl⟩
            have hle:=one_le_mbulk ps k hkl
            obtain ⟨bA,oA,rfl,_,hbA,hc⟩:=HP.out (by omega)
            obtain ⟨AV0,cv0,A0,c0,d0,d1,d2,d3,d4,d5,hv0,he0,_⟩:=(hc k hkl).keep (w':=wr) (Nat.zero_le _) hbA (fun p _ hp=>Hbel_19.out.cell hp)
            rw [←hm] at d0 d1 d2 d3 d4 d5 hv0 he0 hle
            have HMk:=hd' hm
            have HV0:=hd' (hv0.mono (show w.heap.size≤wr.heap.size by omega))
            have HE0:=hd' (he0.mono (show w.heap.size≤wr.heap.size by omega))
            have hk':(k:Int) < (ps.length:Int):=by omega
            have lA:bA < wr.heap.size:=by omega
            clear hc hm hv0 he0
            have qD_0:=HD_20.out 0 (by simp)
            have qD_1:=HD_20.out 1 (by simp)
            have qD_2:=HD_20.out 2 (by simp)
            have qD_3:=HD_20.out 3 (by simp)
            have qD_4:=HD_20.out 4 (by simp)
            have qD_5:=HD_20.out 5 (by simp)
            have lD:w.heap.size < wr.heap.size:=by omega
            simp only [List.getElem_cons_succ,List.getElem_cons_zero] at qD_0 qD_1 qD_2 qD_3 qD_4 qD_5
            go_upto_region 9 with fail
            have hl3:k+1≤maxLen:=by unfold maxLen;omega
            have hl4:(k+1)*80≤140737488355328:=by omega
            obtain ⟨i1,hi1,hy0,hy1,hy2⟩:=info_parts Tryz.infoMan
            have hrow:=HSt.out.row.1
            rw [HSt.out.len] at hrow
            have oc:wr.cell? ⟨b,5,none⟩=some (.slice A' k c'):=by have:=HSt.out.bx.1 5 (by simp);simpa using this
            have of:=HSt.out.bx.2.1 5
            have lo:=HSt.out.bx.2.2
            have lW:W5.heap.size≤wr.heap.size:=HSt.out.off.size
            have HRow:=hd' hrow
            clear hrow
            go_region_law
              (first
                | (try go_simp
                   go_at_call 59
                   refine (l4own_cap m AV0 cv0 A0 c0 _ ?_ ?_ (by omega) (by omega) (by omega)).mono ?_
                   · exact HV0.out
                   · exact HE0.out
                   rintro e w6 ⟨AV1,cv1,A1,c1,rfl,hown,hlt6,hcap,hb6⟩
                   have hB6:Below wr.heap.size wr w6:=by first|exact hb6|exact (Below.refl wr.heap.size wr).drew.trans hb6|exact (Below.refl wr.heap.size wr).drew.drew.trans hb6
                   have hz6:wr.heap.size≤w6.heap.size:=hB6.size
                   have HT6:=hd' (show TrOwn w6 wr.heap.size w6.heap.size AV1 m.vec A1 m.es from hown)
                   have oc6:w6.cell? ⟨b,5,none⟩=some (.slice A' k c'):=(hB6.cell (p:=⟨b,5,none⟩) lo).trans oc
                   have hrow6:w6.ownsRow W5.heap.size 40 6 (.slice A' k c') k (rowM us):=ownsRow_below HRow.out hB6 (fun g hg=>(HRow.out.lt g hg).2)
                   have lW6:W5.heap.size≤w6.heap.size:=by omega
                   have lo6:b < w6.heap.size:=by omega
                   have HC6:=hd' hcap
                   have HB6:=hd' hB6
                   clear hb6 hown hcap hB6
                   go_wp2_with fail)
                | (refine step_append_at _ (by rfl) _ _ _ (by rfl) W5.heap.size 40 i1 _ 6 80 Tryz.underlying55 hi1 hy0 hy1 hy2 rfl (by decide) (.slice A' k c') k (rowM us) (by rfl) ?_ ⟨w6.heap.size,0,none⟩ 1 1 (cellsM ⟨m,AV1,cv1,A1,c1⟩) (by rfl) rfl ?_ (cellsM_one _) hl3 hl4 ?_ ?_
                   · (repeat first|with_reducible exact hrow6|with_reducible apply World.ownsRow.drew|with_reducible apply World.ownsRow.alloc)
                   · first|exact newsM|exact newsM_drew|exact newsM_drew'
                   · simp;omega
                   intro A7 c7 w7 hown7 hgr7 hv7
                   have HMd7:=hd' (HSt.out.step (x:=⟨m,AV1,cv1,A1,c1⟩) (by simp) (by omega) HB6.out HT6.out HC6.out (by repeat first|with_reducible exact Below.refl _ _|with_reducible apply Below.drew|with_reducible refine Below.alloc ?_ (by first|exact Nat.le_refl _|(simp;done)|(simp;omega)) _) hown7 hgr7 hv7)
                   have hne7:some (b)≠(Value.slice A' k c').ownBlock:=fun e=>by have:=(HRow.out.lt _ e.symm).1;omega
                   have hbx7:=((HSt.out.bx.below HB6.out).below (by repeat first|with_reducible exact Below.refl _ _|with_reducible apply Below.drew|with_reducible refine Below.alloc ?_ (by first|exact Nat.le_refl _|(simp;done)|(simp;omega)) _)).grown hgr7 hne7
                   have o_7:w7.cell? ⟨b,5,none⟩=some (.slice A' k c'):=by have:=hbx7.1 5 (by simp);simpa using this
                   have of_7:=hbx7.2.1 5
                   have lo_7:=hbx7.2.2
                   clear hgr7 hown7 hv7 hbx7 hne7))
            all_goals clear oc of oc6 hrow6 i1 hi1 hy0 hy1 hy2
            all_goals
              go_wp2_with fail
              go_roundw
              case rel=>exact ⟨k+1,_,_,_,by omega,by go_num,by rw [List.take_succ_eq_append_getElem hkl,←HMk.out];exact HMd7.out⟩
              case measure=>simp [intOf];omega
          · have hke:k=ps.length:=by omega
            subst hke
            obtain ⟨W6,rfl⟩:∃X:World,X=wr:=⟨_,rfl⟩
            obtain ⟨APn,rfl⟩:∃X:Option Addr,X=A':=⟨_,rfl⟩
            obtain ⟨cPn,rfl⟩:∃X:Nat,X=c':=⟨_,rfl⟩
            have hus:=HSt.out.ms
            rw [List.take_length] at hus
            have HMP:=hd' (HSt.out.row.own hus)
            have hlrP:W5.heap.size≤W6.heap.size:=HSt.out.off.size
            have HTr6:=hd' (show TrOwn W6 L1 B1 AV2 vec A2 es from HTr.out.keep fun p hp hq=>⟨HSt.out.off.cell (by omega) (by omega),HSt.out.off.frozen (by omega) (by omega)⟩)
            have HMh6:=hd' (show MnsOwn W6 W4.heap.size W5.heap.size AHn hs from HMH.out.keep fun p hp hq=>⟨HSt.out.off.cell (by omega) (by omega),HSt.out.off.frozen (by omega) (by omega)⟩)
            have hbx6:BxH W6 b [.int .i64 id,.slice AV2 vec.length cv2,.slice A2 es.length c2,.slice AHn hs.length cHn,.bool al,.slice APn ps.length cPn]:=by simpa using HSt.out.bx
            have o0:=hbx6.1 0 (by simp)
            have o1:=hbx6.1 1 (by simp)
            have o2:=hbx6.1 2 (by simp)
            have o3:=hbx6.1 3 (by simp)
            have o4:=hbx6.1 4 (by simp)
            have o5:=hbx6.1 5 (by simp)
            simp only [List.getElem_cons_succ,List.getElem_cons_zero] at o0 o1 o2 o3 o4 o5
            have lb6:=hbx6.2.2
            clear hbx6 hus HSt HTr HMH
            have qD_0:=HD_20.out 0 (by simp)
            have qD_1:=HD_20.out 1 (by simp)
            have qD_2:=HD_20.out 2 (by simp)
            have qD_3:=HD_20.out 3 (by simp)
            have qD_4:=HD_20.out 4 (by simp)
            have qD_5:=HD_20.out 5 (by simp)
            have lD:w.heap.size < W6.heap.size:=by omega
            have qR_0:=HR_21.out 0 (by simp)
            have qR_1:=HR_21.out 1 (by simp)
            have qR_2:=HR_21.out 2 (by simp)
            have qR_3:=HR_21.out 3 (by simp)
            have qR_4:=HR_21.out 4 (by simp)
            have qR_5:=HR_21.out 5 (by simp)
            have lR:w.heap.size+1 < W6.heap.size:=by omega
            have fRF_0:=HRF_22.out 0
            have fRF_1:=HRF_22.out 1
            have fRF_2:=HRF_22.out 2
            have fRF_3:=HRF_22.out 3
            have fRF_4:=HRF_22.out 4
            have fRF_5:=HRF_22.out 5
            simp only [List.getElem_cons_succ,List.getElem_cons_zero] at qD_0 qD_1 qD_2 qD_3 qD_4 qD_5 qR_0 qR_1 qR_2 qR_3 qR_4 qR_5
            go_wp2_with fail
            clear qD_0 qD_1 qD_2 qD_3 qD_4 qD_5 lD qR_0 qR_1 qR_2 qR_3 qR_4 qR_5 lR fRF_0 fRF_1 fRF_2 fRF_3 fRF_4 fRF_5
            clear o0 o1 o2 o3 o4 o5
            clear HD_20
            obtain ⟨w9,hW23⟩:∃x,x=putAll (w.heap.size+1) 0 [.int .i64 id,.slice AV2 vec.length cv2,.slice A2 es.length c2,.slice AHn hs.length cHn,.bool al,.slice APn ps.length cPn] W6:=⟨_,rfl⟩
            have hs23:w9.heap.size=W6.heap.size:=by rw [hW23];exact putAll_size
            have Hbel_24:=hd' (show Below w.heap.size w w9 by rw [hW23];exact putAll_below Hbel_19.out (by omega))
            have HR_25:=hd' (show Bx w9 (w.heap.size+1) [.int .i64 id,.slice AV2 vec.length cv2,.slice A2 es.length c2,.slice AHn hs.length cHn,.bool al,.slice APn ps.length cPn] by rw [hW23];have hq:=HR_21.out.put 0 [.int .i64 id,.slice AV2 vec.length cv2,.slice A2 es.length c2,.slice AHn hs.length cHn,.bool al,.slice APn ps.length cPn] (by simp);simpa using hq)
            have HRF_26:=hd' (show ∀o,w9.frozen? ⟨w.heap.size+1,o,none⟩=false from fun o=>by rw [hW23];exact (putAll_frozen _).trans (HRF_22.out o))
            have Htr_27:=hd' (show TrOwn w9 L1 B1 AV2 vec A2 es by rw [hW23];exact HTr6.out.keep fun p hp hq=>⟨putAll_other (by omega),putAll_frozen _⟩)
            have Hmh_28:=hd' (show MnsOwn w9 W4.heap.size W5.heap.size AHn hs by rw [hW23];exact HMh6.out.keep fun p hp hq=>⟨putAll_other (by omega),putAll_frozen _⟩)
            have Hmp_29:=hd' (show MnsOwn w9 W5.heap.size W6.heap.size APn ps by rw [hW23];exact HMP.out.keep fun p hp hq=>⟨putAll_other (by omega),putAll_frozen _⟩)
            simp only [putAll] at hW23
            rw [←hW23]
            have z_30:W6.heap.size≤w9.heap.size:=Nat.le_of_eq hs23.symm
            clear hW23 hs23 Hbel_19 HR_21 HRF_22 HTr6 HMh6 HMP
            have qR_0:=HR_25.out 0 (by simp)
            have qR_1:=HR_25.out 1 (by simp)
            have qR_2:=HR_25.out 2 (by simp)
            have qR_3:=HR_25.out 3 (by simp)
            have qR_4:=HR_25.out 4 (by simp)
            have qR_5:=HR_25.out 5 (by simp)
            have lR:w.heap.size+1 < w9.heap.size:=by omega
            simp only [List.getElem_cons_succ,List.getElem_cons_zero] at qR_0 qR_1 qR_2 qR_3 qR_4 qR_5
            have HD:=hd' (show DvOwn w9 w.heap.size w9.heap.size AV2 vec A2 es AHn hs APn ps from ⟨L1,B1,W4.heap.size,W5.heap.size,W5.heap.size,W6.heap.size,by omega,by omega,by omega,by omega,by omega,by omega,.inl (by omega),.inl (by omega),.inl (by omega),hLB,by omega,by omega,Htr_27.out,Hmh_28.out,Hmp_29.out⟩)
            refine bodyPost_ret (v:=.agg #[.int .i64 id,.slice AV2 vec.length cv2,.slice A2 es.length c2,.slice AHn hs.length cHn,.bool al,.slice APn ps.length cPn]) (by simp [results,Tryz.results81,qR_0,qR_1,qR_2,qR_3,qR_4,qR_5,go_sem]) rfl ⟨AV2,cv2,A2,c2,AHn,cHn,APn,cPn,rfl,HD.out,by omega,Hbel_24.out⟩
end Go.Proofs.YtckajeippfpojaaGreat
namespace Go.Proofs.YtckajeippfpojaaGreat
open Go.RowKit Go.Maps
set_option maxRecDepth 100000
set_option maxHeartbeats 1000000 in
theorem specEdit_raw (AL:Option Addr) (ts:List Tm) (cL:Nat) (id:Int) (AV:Option Addr) (vec:List Int) (cv:Nat) (A:Option Addr) (es:List En) (c:Nat) (AH:Option Addr) (hs:List Mn) (ch:Nat) (al:Bool) (AP:Option Addr) (ps:List Mn) (cp:Nat) (Ab:Option Addr) (l:List UInt8) (cb:Nat) (val:Int) (w:World) (hT:TmsIn w 0 w.heap.size AL ts) (ht:ts.length≤1048576) (htb:bulk ts≤1048576) (hV:IntsIn w 0 w.heap.size AV vec) (hA:EnsIn w 0 w.heap.size A es) (hH:MnsRd w 0 w.heap.size AH hs) (hP:MnsRd w 0 w.heap.size AP ps) (hv:vec.length≤1048576) (hn:es.length≤1048576) (hbk:ebulk es≤1048576) (hhl:hs.length≤1048576) (hhb:mbulk hs≤1048576) (hpl:ps.length≤1048576) (hpb:mbulk ps≤1048576) (hB:BytesIn w 0 w.heap.size Ab l) (hbl:l.length≤1048576) (hc:es.length≤c:=by omega) :
    Calls Tryz.prog 29 #[.agg #[.slice AL ts.length cL],.agg #[.int .i64 id,.slice AV vec.length cv,.slice A es.length c,.slice AH hs.length ch,.bool al,.slice AP ps.length cp],.slice Ab l.length cb,.int .i64 val] w (NewDvB (cond (edB ts id vec es hs al ps (puOk vec es id l val)) id 0) (cond (edB ts id vec es hs al ps (puOk vec es id l val)) (puVec vec es id l val) []) (cond (edB ts id vec es hs al ps (puOk vec es id l val)) (puEs vec es id l val) []) (cond (edB ts id vec es hs al ps (puOk vec es id l val)) hs []) false [] (edB ts id vec es hs al ps (puOk vec es id l val)) w):=by
  have HT:=hd' hT
  have HV:=hd' hV
  have HA:=hd' hA
  have HH:=hd' hH
  have HP:=hd' hP
  have HB:=hd' hB
  clear hV hA hH hP hT hB
  go_enter Tryz.func29,Tryz.ntmps29
  go_wp2_with fail
  obtain ⟨W1_0,hW1_0⟩:∃x,x=w.alloc (.cells #[.slice AL ts.length cL] 35):=⟨_,rfl⟩
  obtain ⟨W1_1,hW1_1⟩:∃x,x=W1_0.alloc (.cells #[.int .i64 id,.slice AV vec.length cv,.slice A es.length c,.slice AH hs.length ch,.bool al,.slice AP ps.length cp] 57):=⟨_,rfl⟩
  obtain ⟨W1_2,hW1_2⟩:∃x,x=W1_1.alloc (.cells #[.int .i64 0,.slice none 0 0,.slice none 0 0,.slice none 0 0,.bool false,.slice none 0 0] 57):=⟨_,rfl⟩
  have hZ1_0:W1_0.heap.size=w.heap.size+1:=by rw [hW1_0];simp
  have hZ1_1:W1_1.heap.size=w.heap.size+2:=by rw [hW1_1];simp [hZ1_0]
  have hZ1_2:W1_2.heap.size=w.heap.size+3:=by rw [hW1_2];simp [hZ1_1]
  have hx0:Bx W1_0 (w.heap.size) [.slice AL ts.length cL]:=by rw [hW1_0];exact Bx.new' _ _ _ _ rfl
  replace hx0:Bx W1_1 (w.heap.size) [.slice AL ts.length cL]:=by rw [hW1_1];exact hx0.alloc (by omega) _
  replace hx0:Bx W1_2 (w.heap.size) [.slice AL ts.length cL]:=by rw [hW1_2];exact hx0.alloc (by omega) _
  have hx1:Bx W1_1 (w.heap.size+1) [.int .i64 id,.slice AV vec.length cv,.slice A es.length c,.slice AH hs.length ch,.bool al,.slice AP ps.length cp]:=by rw [hW1_1,←hZ1_0];exact Bx.new' _ _ _ _ rfl
  replace hx1:Bx W1_2 (w.heap.size+1) [.int .i64 id,.slice AV vec.length cv,.slice A es.length c,.slice AH hs.length ch,.bool al,.slice AP ps.length cp]:=by rw [hW1_2];exact hx1.alloc (by omega) _
  have hx2:Bx W1_2 (w.heap.size+2) [.int .i64 0,.slice none 0 0,.slice none 0 0,.slice none 0 0,.bool false,.slice none 0 0]:=by rw [hW1_2,←hZ1_1];exact Bx.new' _ _ _ _ rfl
  have hb0:Below w.heap.size w W1_2:=by rw [hW1_2,hW1_1,hW1_0];exact ((((Below.refl _ _).alloc (by first|exact Nat.le_refl _|(simp;done)|(simp;omega)) _).alloc (by first|exact Nat.le_refl _|(simp;done)|(simp;omega)) _).alloc (by first|exact Nat.le_refl _|(simp;done)|(simp;omega)) _)
  have hf2:∀o,W1_2.frozen? ⟨w.heap.size+2,o,none⟩=false:=fun o=>by rw [hW1_2,hW1_1,hW1_0];exact ((((Fresh.refl w).alloc _ _).alloc _ _).alloc _ _) ⟨w.heap.size+2,o,none⟩ (by show w.heap.size≤w.heap.size+2;omega)
  have hlt:w.heap.size+2 < W1_2.heap.size:=by omega
  rw [←hW1_0,←hW1_1,←hW1_2]
  clear hW1_0 hZ1_0 hW1_1 hZ1_1 hW1_2 hZ1_2
  have z_2:=hb0.size
  have Hbel_3:=hd' (hb0)
  have HL_4:=hd' (hx0)
  have HD_5:=hd' (hx1)
  have HR_6:=hd' (hx2)
  have HRF_7:=hd' (hf2)
  clear hf2
  clear hb0 hx0 hx1 hx2
  have hl_8:=hlt
  clear hlt
  have qL_0:=HL_4.out 0 (by simp)
  have lL:w.heap.size < W1_2.heap.size:=by omega
  have qD_0:=HD_5.out 0 (by simp)
  have qD_1:=HD_5.out 1 (by simp)
  have qD_2:=HD_5.out 2 (by simp)
  have qD_3:=HD_5.out 3 (by simp)
  have qD_4:=HD_5.out 4 (by simp)
  have qD_5:=HD_5.out 5 (by simp)
  have lD:w.heap.size+1 < W1_2.heap.size:=by omega
  simp only [List.getElem_cons_succ,List.getElem_cons_zero] at qL_0 qD_0 qD_1 qD_2 qD_3 qD_4 qD_5
  go_wp2_with fail
  refine (specDeviceOk_any AL ts cL id AV vec cv A es c AH hs ch al AP ps cp W1_2 ((HT.out.keep fun p _ hp=>Hbel_3.out.cell hp).mono (by omega)) ht htb ((HV.out.keep fun p _ hp=>Hbel_3.out.cell hp).mono (by omega)) ((HA.out.keep fun p _ hp=>Hbel_3.out.cell hp).mono (by omega)) ((HH.out.keep fun p _ hp=>Hbel_3.out.cell hp).mono (Nat.le_refl _) (by omega)) ((HP.out.keep fun p _ hp=>Hbel_3.out.cell hp).mono (Nat.le_refl _) (by omega)) hv hn hbk hhl hhb hpl hpb).mono ?_
  rintro e w1 ⟨rfl,hb⟩
  clear qL_0 lL qD_0 qD_1 qD_2 qD_3 qD_4 qD_5 lD
  have z_9:=hb.size
  have Hbel_10:=hd' (Hbel_3.out.trans (hb.mono (by omega)))
  have HD_11:=hd' (HD_5.out.below hb (by omega))
  have HR_12:=hd' (HR_6.out.below hb (by omega))
  have HRF_13:=hd' (show ∀o,w1.frozen? ⟨w.heap.size+2,o,none⟩=false from fun o=>(hb.frozen (p:=⟨w.heap.size+2,o,none⟩) (by show w.heap.size+2 < _;omega)).trans (HRF_7.out o))
  clear Hbel_3 HL_4 HD_5 HR_6 HRF_7
  clear hb
  obtain ⟨I,hI⟩:∃I,I=dokB ts id vec es hs al ps:=⟨_,rfl⟩
  rw [←hI]
  have HI:=hd' hI
  clear hI
  cases I with
  | false =>
    have qR_0:=HR_12.out 0 (by simp)
    have qR_1:=HR_12.out 1 (by simp)
    have qR_2:=HR_12.out 2 (by simp)
    have qR_3:=HR_12.out 3 (by simp)
    have qR_4:=HR_12.out 4 (by simp)
    have qR_5:=HR_12.out 5 (by simp)
    have lR:w.heap.size+2 < w1.heap.size:=by omega
    have fRF_0:=HRF_13.out 0
    have fRF_1:=HRF_13.out 1
    have fRF_2:=HRF_13.out 2
    have fRF_3:=HRF_13.out 3
    have fRF_4:=HRF_13.out 4
    have fRF_5:=HRF_13.out 5
    simp only [List.getElem_cons_succ,List.getElem_cons_zero] at qR_0 qR_1 qR_2 qR_3 qR_4 qR_5
    go_wp2_with fail
    clear qR_0 qR_1 qR_2 qR_3 qR_4 qR_5 lR fRF_0 fRF_1 fRF_2 fRF_3 fRF_4 fRF_5
    obtain ⟨w9,hW14⟩:∃x,x=putAll (w.heap.size+2) 0 [.int .i64 0,.slice none 0 0,.slice none 0 0,.slice none 0 0,.bool false,.slice none 0 0] w1:=⟨_,rfl⟩
    have hs14:w9.heap.size=w1.heap.size:=by rw [hW14];exact putAll_size
    have Hbel_15:=hd' (show Below w.heap.size w w9 by rw [hW14];exact putAll_below Hbel_10.out (by omega))
    have HD_16:=hd' (show Bx w9 (w.heap.size+1) [.int .i64 id,.slice AV vec.length cv,.slice A es.length c,.slice AH hs.length ch,.bool al,.slice AP ps.length cp] by rw [hW14];exact HD_11.out.put_else (by omega))
    have HR_17:=hd' (show Bx w9 (w.heap.size+2) [.int .i64 0,.slice none 0 0,.slice none 0 0,.slice none 0 0,.bool false,.slice none 0 0] by rw [hW14];have hq:=HR_12.out.put 0 [.int .i64 0,.slice none 0 0,.slice none 0 0,.slice none 0 0,.bool false,.slice none 0 0] (by simp);simpa using hq)
    have HRF_18:=hd' (show ∀o,w9.frozen? ⟨w.heap.size+2,o,none⟩=false from fun o=>by rw [hW14];exact (putAll_frozen _).trans (HRF_13.out o))
    simp only [putAll] at hW14
    rw [←hW14]
    have z_19:w1.heap.size≤w9.heap.size:=Nat.le_of_eq hs14.symm
    clear hW14 hs14 Hbel_10 HD_11 HR_12 HRF_13
    have qR_0:=HR_17.out 0 (by simp)
    have qR_1:=HR_17.out 1 (by simp)
    have qR_2:=HR_17.out 2 (by simp)
    have qR_3:=HR_17.out 3 (by simp)
    have qR_4:=HR_17.out 4 (by simp)
    have qR_5:=HR_17.out 5 (by simp)
    have lR:w.heap.size+2 < w9.heap.size:=by omega
    simp only [List.getElem_cons_succ,List.getElem_cons_zero] at qR_0 qR_1 qR_2 qR_3 qR_4 qR_5
    refine bodyPost_ret (v:=.tuple #[.agg #[.int .i64 0,.slice none 0 0,.slice none 0 0,.slice none 0 0,.bool false,.slice none 0 0],.bool false]) (by simp [results,Tryz.results29,qR_0,qR_1,qR_2,qR_3,qR_4,qR_5,go_sem]) rfl ?_
    rw [show edB ts id vec es hs al ps (puOk vec es id l val)=false from by unfold edB;rw [←HI.out];simp]
    exact ⟨none,0,none,0,none,0,none,0,rfl,dv_none _ _ _ (by omega),by omega,Hbel_15.out⟩
  | true =>
    have qD_0:=HD_11.out 0 (by simp)
    have qD_1:=HD_11.out 1 (by simp)
    have qD_2:=HD_11.out 2 (by simp)
    have qD_3:=HD_11.out 3 (by simp)
    have qD_4:=HD_11.out 4 (by simp)
    have qD_5:=HD_11.out 5 (by simp)
    have lD:w.heap.size+1 < w1.heap.size:=by omega
    simp only [List.getElem_cons_succ,List.getElem_cons_zero] at qD_0 qD_1 qD_2 qD_3 qD_4 qD_5
    cases hal:al with
    | true =>
      have HAl:=hd' hal
      rw [hal] at qD_4
      clear hal
      have qR_0:=HR_12.out 0 (by simp)
      have qR_1:=HR_12.out 1 (by simp)
      have qR_2:=HR_12.out 2 (by simp)
      have qR_3:=HR_12.out 3 (by simp)
      have qR_4:=HR_12.out 4 (by simp)
      have qR_5:=HR_12.out 5 (by simp)
      have lR:w.heap.size+2 < w1.heap.size:=by omega
      have fRF_0:=HRF_13.out 0
      have fRF_1:=HRF_13.out 1
      have fRF_2:=HRF_13.out 2
      have fRF_3:=HRF_13.out 3
      have fRF_4:=HRF_13.out 4
      have fRF_5:=HRF_13.out 5
      simp only [List.getElem_cons_succ,List.getElem_cons_zero] at qR_0 qR_1 qR_2 qR_3 qR_4 qR_5
      go_wp2_with fail
      clear qD_0 qD_1 qD_2 qD_3 qD_4 qD_5 lD qR_0 qR_1 qR_2 qR_3 qR_4 qR_5 lR fRF_0 fRF_1 fRF_2 fRF_3 fRF_4 fRF_5
      obtain ⟨w9,hW14⟩:∃x,x=putAll (w.heap.size+2) 0 [.int .i64 0,.slice none 0 0,.slice none 0 0,.slice none 0 0,.bool false,.slice none 0 0] w1:=⟨_,rfl⟩
      have hs14:w9.heap.size=w1.heap.size:=by rw [hW14];exact putAll_size
      have Hbel_15:=hd' (show Below w.heap.size w w9 by rw [hW14];exact putAll_below Hbel_10.out (by omega))
      have HD_16:=hd' (show Bx w9 (w.heap.size+1) [.int .i64 id,.slice AV vec.length cv,.slice A es.length c,.slice AH hs.length ch,.bool al,.slice AP ps.length cp] by rw [hW14];exact HD_11.out.put_else (by omega))
      have HR_17:=hd' (show Bx w9 (w.heap.size+2) [.int .i64 0,.slice none 0 0,.slice none 0 0,.slice none 0 0,.bool false,.slice none 0 0] by rw [hW14];have hq:=HR_12.out.put 0 [.int .i64 0,.slice none 0 0,.slice none 0 0,.slice none 0 0,.bool false,.slice none 0 0] (by simp);simpa using hq)
      have HRF_18:=hd' (show ∀o,w9.frozen? ⟨w.heap.size+2,o,none⟩=false from fun o=>by rw [hW14];exact (putAll_frozen _).trans (HRF_13.out o))
      simp only [putAll] at hW14
      rw [←hW14]
      have z_19:w1.heap.size≤w9.heap.size:=Nat.le_of_eq hs14.symm
      clear hW14 hs14 Hbel_10 HD_11 HR_12 HRF_13
      have qR_0:=HR_17.out 0 (by simp)
      have qR_1:=HR_17.out 1 (by simp)
      have qR_2:=HR_17.out 2 (by simp)
      have qR_3:=HR_17.out 3 (by simp)
      have qR_4:=HR_17.out 4 (by simp)
      have qR_5:=HR_17.out 5 (by simp)
      have lR:w.heap.size+2 < w9.heap.size:=by omega
      simp only [List.getElem_cons_succ,List.getElem_cons_zero] at qR_0 qR_1 qR_2 qR_3 qR_4 qR_5
      refine bodyPost_ret (v:=.tuple #[.agg #[.int .i64 0,.slice none 0 0,.slice none 0 0,.slice none 0 0,.bool false,.slice none 0 0],.bool false]) (by simp [results,Tryz.results29,qR_0,qR_1,qR_2,qR_3,qR_4,qR_5,go_sem]) rfl ?_
      rw [show edB ts id vec es hs al ps (puOk vec es id l val)=false by unfold edB;rw [HAl.out];simp]
      exact ⟨none,0,none,0,none,0,none,0,rfl,dv_none _ _ _ (by omega),by omega,Hbel_15.out⟩
    | false =>
      subst hal
      have hfc:=dok_facts HI.out.symm
      have hps:ps=[]:=by have:=hfc.2.2.2.2.1;cases ps with|nil=>rfl|cons _ _=>simp at this
      have HPs:=hd' hps
      clear hfc hps
      go_wp2_with fail
      refine (specPut_any AV vec cv A es c id Ab l cb val w1 ((HV.out.keep fun p _ hp=>Hbel_10.out.cell hp).mono (by omega)) ((HA.out.keep fun p _ hp=>Hbel_10.out.cell hp).mono (by omega)) hv hn hbk ((HB.out.keep fun p _ hp=>Hbel_10.out.cell hp).mono (by omega)) hbl).mono ?_
      rintro e w2 ⟨AVt,cvt,At,ct,rfl,hown,hlo,hb⟩
      clear qD_0 qD_1 qD_2 qD_3 qD_4 qD_5 lD
      have z_14:=hb.size
      have Hbel_15:=hd' (Hbel_10.out.trans (hb.mono (by omega)))
      have HD_16:=hd' (HD_11.out.below hb (by omega))
      have HR_17:=hd' (HR_12.out.below hb (by omega))
      have HRF_18:=hd' (show ∀o,w2.frozen? ⟨w.heap.size+2,o,none⟩=false from fun o=>(hb.frozen (p:=⟨w.heap.size+2,o,none⟩) (by show w.heap.size+2 < _;omega)).trans (HRF_13.out o))
      clear Hbel_10 HD_11 HR_12 HRF_13
      clear hb
      have HOwn:=hd' hown
      clear hown
      obtain ⟨pk,hpk⟩:∃k,k=puOk vec es id l val:=⟨_,rfl⟩
      rw [←hpk]
      have HPk:=hd' hpk
      clear hpk
      go_upto_region 4 with fail
      obtain ⟨W19_0,hW19_0⟩:∃x,x=w2.alloc (.cells #[.slice AVt (puVec vec es id l val).length cvt,.slice At (puEs vec es id l val).length ct] 38):=⟨_,rfl⟩
      have hZ19_0:W19_0.heap.size=w2.heap.size+1:=by rw [hW19_0];simp
      have hx0:Bx W19_0 (w2.heap.size) [.slice AVt (puVec vec es id l val).length cvt,.slice At (puEs vec es id l val).length ct]:=by rw [hW19_0];exact Bx.new' _ _ _ _ rfl
      have hb0:Below w2.heap.size w2 W19_0:=by rw [hW19_0];exact ((Below.refl _ _).alloc (by first|exact Nat.le_refl _|(simp;done)|(simp;omega)) _)
      have hlt:w2.heap.size+0 < W19_0.heap.size:=by omega
      rw [←hW19_0]
      clear hW19_0 hZ19_0
      have z_20:=hb0.size
      have Hbel_21:=hd' (Hbel_15.out.trans (hb0.mono (by omega)))
      have HD_22:=hd' (HD_16.out.below hb0 (by omega))
      have HR_23:=hd' (HR_17.out.below hb0 (by omega))
      have HRF_24:=hd' (show ∀o,W19_0.frozen? ⟨w.heap.size+2,o,none⟩=false from fun o=>(hb0.frozen (p:=⟨w.heap.size+2,o,none⟩) (by show w.heap.size+2 < _;omega)).trans (HRF_18.out o))
      have Htr_25:=hd' (HOwn.out.keep fun p hp hq=>⟨hb0.cell (by omega),hb0.frozen (by omega)⟩)
      clear Hbel_15 HD_16 HR_17 HRF_18 HOwn
      have HT_26:=hd' (hx0)
      clear hb0 hx0
      have hl_27:=hlt
      clear hlt
      cases pk with
      | false =>
        have qR_0:=HR_23.out 0 (by simp)
        have qR_1:=HR_23.out 1 (by simp)
        have qR_2:=HR_23.out 2 (by simp)
        have qR_3:=HR_23.out 3 (by simp)
        have qR_4:=HR_23.out 4 (by simp)
        have qR_5:=HR_23.out 5 (by simp)
        have lR:w.heap.size+2 < W19_0.heap.size:=by omega
        have fRF_0:=HRF_24.out 0
        have fRF_1:=HRF_24.out 1
        have fRF_2:=HRF_24.out 2
        have fRF_3:=HRF_24.out 3
        have fRF_4:=HRF_24.out 4
        have fRF_5:=HRF_24.out 5
        simp only [List.getElem_cons_succ,List.getElem_cons_zero] at qR_0 qR_1 qR_2 qR_3 qR_4 qR_5
        go_wp2_with fail
        clear qR_0 qR_1 qR_2 qR_3 qR_4 qR_5 lR fRF_0 fRF_1 fRF_2 fRF_3 fRF_4 fRF_5
        obtain ⟨w9,hW28⟩:∃x,x=putAll (w.heap.size+2) 0 [.int .i64 0,.slice none 0 0,.slice none 0 0,.slice none 0 0,.bool false,.slice none 0 0] W19_0:=⟨_,rfl⟩
        have hs28:w9.heap.size=W19_0.heap.size:=by rw [hW28];exact putAll_size
        have Hbel_29:=hd' (show Below w.heap.size w w9 by rw [hW28];exact putAll_below Hbel_21.out (by omega))
        have HD_30:=hd' (show Bx w9 (w.heap.size+1) [.int .i64 id,.slice AV vec.length cv,.slice A es.length c,.slice AH hs.length ch,.bool false,.slice AP ps.length cp] by rw [hW28];exact HD_22.out.put_else (by omega))
        have HR_31:=hd' (show Bx w9 (w.heap.size+2) [.int .i64 0,.slice none 0 0,.slice none 0 0,.slice none 0 0,.bool false,.slice none 0 0] by rw [hW28];have hq:=HR_23.out.put 0 [.int .i64 0,.slice none 0 0,.slice none 0 0,.slice none 0 0,.bool false,.slice none 0 0] (by simp);simpa using hq)
        have HRF_32:=hd' (show ∀o,w9.frozen? ⟨w.heap.size+2,o,none⟩=false from fun o=>by rw [hW28];exact (putAll_frozen _).trans (HRF_24.out o))
        have Htr_33:=hd' (show TrOwn w9 w1.heap.size w2.heap.size AVt (puVec vec es id l val) At (puEs vec es id l val) by rw [hW28];exact Htr_25.out.keep fun p hp hq=>⟨putAll_other (by omega),putAll_frozen _⟩)
        have HT_34:=hd' (show Bx w9 (w2.heap.size) [.slice AVt (puVec vec es id l val).length cvt,.slice At (puEs vec es id l val).length ct] by rw [hW28];exact HT_26.out.put_else (by omega))
        simp only [putAll] at hW28
        rw [←hW28]
        have z_35:W19_0.heap.size≤w9.heap.size:=Nat.le_of_eq hs28.symm
        clear hW28 hs28 Hbel_21 HD_22 HR_23 HRF_24 Htr_25 HT_26
        have qR_0:=HR_31.out 0 (by simp)
        have qR_1:=HR_31.out 1 (by simp)
        have qR_2:=HR_31.out 2 (by simp)
        have qR_3:=HR_31.out 3 (by simp)
        have qR_4:=HR_31.out 4 (by simp)
        have qR_5:=HR_31.out 5 (by simp)
        have lR:w.heap.size+2 < w9.heap.size:=by omega
        simp only [List.getElem_cons_succ,List.getElem_cons_zero] at qR_0 qR_1 qR_2 qR_3 qR_4 qR_5
        refine bodyPost_ret (v:=.tuple #[.agg #[.int .i64 0,.slice none 0 0,.slice none 0 0,.slice none 0 0,.bool false,.slice none 0 0],.bool false]) (by simp [results,Tryz.results29,qR_0,qR_1,qR_2,qR_3,qR_4,qR_5,go_sem]) rfl ?_
        rw [show edB ts id vec es hs false ps (puOk vec es id l val)=false by unfold edB;rw [←HPk.out];rfl]
        exact ⟨none,0,none,0,none,0,none,0,rfl,dv_none _ _ _ (by omega),by omega,Hbel_29.out⟩
      | true =>
        have qD_0:=HD_22.out 0 (by simp)
        have qD_1:=HD_22.out 1 (by simp)
        have qD_2:=HD_22.out 2 (by simp)
        have qD_3:=HD_22.out 3 (by simp)
        have qD_4:=HD_22.out 4 (by simp)
        have qD_5:=HD_22.out 5 (by simp)
        have lD:w.heap.size+1 < W19_0.heap.size:=by omega
        have qT_0:=HT_26.out 0 (by simp)
        have qT_1:=HT_26.out 1 (by simp)
        have lT:w2.heap.size < W19_0.heap.size:=by omega
        simp only [List.getElem_cons_succ,List.getElem_cons_zero] at qD_0 qD_1 qD_2 qD_3 qD_4 qD_5 qT_0 qT_1
        go_wp2_with fail
        refine (l5own_any id AV vec cv A es c AH hs ch false AP ps cp W19_0 ((HV.out.keep fun p _ hp=>Hbel_21.out.cell hp).mono (by omega)) ((HA.out.keep fun p _ hp=>Hbel_21.out.cell hp).mono (by omega)) ((HH.out.keep fun p _ hp=>Hbel_21.out.cell hp).mono (Nat.le_refl _) (by omega)) ((HP.out.keep fun p _ hp=>Hbel_21.out.cell hp).mono (Nat.le_refl _) (by omega)) hv hn hbk hhl hhb hpl hpb).mono ?_
        rintro e w3 ⟨AV3,cv3,A3,c3,AH,ch3,AP3,cp3,rfl,hown3,hlo3,hb⟩
        clear qD_0 qD_1 qD_2 qD_3 qD_4 qD_5 lD qT_0 qT_1 lT
        have z_28:=hb.size
        have Hbel_29:=hd' (Hbel_21.out.trans (hb.mono (by omega)))
        have HR_30:=hd' (HR_23.out.below hb (by omega))
        have HRF_31:=hd' (show ∀o,w3.frozen? ⟨w.heap.size+2,o,none⟩=false from fun o=>(hb.frozen (p:=⟨w.heap.size+2,o,none⟩) (by show w.heap.size+2 < _;omega)).trans (HRF_24.out o))
        have Htr_32:=hd' (Htr_25.out.keep fun p hp hq=>⟨hb.cell (by omega),hb.frozen (by omega)⟩)
        have HT_33:=hd' (HT_26.out.below hb (by omega))
        clear Hbel_21 HD_22 HR_23 HRF_24 Htr_25 HT_26
        clear hb
        have HDv:=hd' hown3
        clear hown3
        go_upto_region 7 with fail
        obtain ⟨W34_0,hW34_0⟩:∃x,x=w3.alloc (.cells #[.int .i64 id,.slice AV3 vec.length cv3,.slice A3 es.length c3,.slice AH hs.length ch3,.bool false,.slice AP3 ps.length cp3] 57):=⟨_,rfl⟩
        have hZ34_0:W34_0.heap.size=w3.heap.size+1:=by rw [hW34_0];simp
        have hx0:Bx W34_0 (w3.heap.size) [.int .i64 id,.slice AV3 vec.length cv3,.slice A3 es.length c3,.slice AH hs.length ch3,.bool false,.slice AP3 ps.length cp3]:=by rw [hW34_0];exact Bx.new' _ _ _ _ rfl
        have hb0:Below w3.heap.size w3 W34_0:=by rw [hW34_0];exact ((Below.refl _ _).alloc (by first|exact Nat.le_refl _|(simp;done)|(simp;omega)) _)
        have hf0:∀o,W34_0.frozen? ⟨w3.heap.size,o,none⟩=false:=fun o=>by rw [hW34_0];exact ((Fresh.refl w3).alloc _ _) ⟨w3.heap.size,o,none⟩ (by show w3.heap.size≤w3.heap.size;omega)
        have hlt:w3.heap.size+0 < W34_0.heap.size:=by omega
        rw [←hW34_0]
        clear hW34_0 hZ34_0
        have z_35:=hb0.size
        have Hbel_36:=hd' (Hbel_29.out.trans (hb0.mono (by omega)))
        have HR_37:=hd' (HR_30.out.below hb0 (by omega))
        have HRF_38:=hd' (show ∀o,W34_0.frozen? ⟨w.heap.size+2,o,none⟩=false from fun o=>(hb0.frozen (p:=⟨w.heap.size+2,o,none⟩) (by show w.heap.size+2 < _;omega)).trans (HRF_31.out o))
        have Htr_39:=hd' (Htr_32.out.keep fun p hp hq=>⟨hb0.cell (by omega),hb0.frozen (by omega)⟩)
        have HT_40:=hd' (HT_33.out.below hb0 (by omega))
        have Hdv_41:=hd' (HDv.out.keep fun p hp hq=>⟨hb0.cell (by omega),hb0.frozen (by omega)⟩)
        clear Hbel_29 HR_30 HRF_31 Htr_32 HT_33 HDv
        have HO_42:=hd' (hx0)
        have HOF_43:=hd' (hf0)
        clear hf0
        clear hb0 hx0
        have hl_44:=hlt
        clear hlt
        have qO_0:=HO_42.out 0 (by simp)
        have qO_1:=HO_42.out 1 (by simp)
        have qO_2:=HO_42.out 2 (by simp)
        have qO_3:=HO_42.out 3 (by simp)
        have qO_4:=HO_42.out 4 (by simp)
        have qO_5:=HO_42.out 5 (by simp)
        have lO:w3.heap.size < W34_0.heap.size:=by omega
        have fOF_0:=HOF_43.out 0
        have fOF_1:=HOF_43.out 1
        have fOF_2:=HOF_43.out 2
        have fOF_3:=HOF_43.out 3
        have fOF_4:=HOF_43.out 4
        have fOF_5:=HOF_43.out 5
        have qT_0:=HT_40.out 0 (by simp)
        have qT_1:=HT_40.out 1 (by simp)
        have lT:w2.heap.size < W34_0.heap.size:=by omega
        simp only [List.getElem_cons_succ,List.getElem_cons_zero] at qO_0 qO_1 qO_2 qO_3 qO_4 qO_5 qT_0 qT_1
        go_upto_region 8 with fail
        clear qO_0 qO_1 qO_2 qO_3 qO_4 qO_5 lO fOF_0 fOF_1 fOF_2 fOF_3 fOF_4 fOF_5 qT_0 qT_1 lT
        obtain ⟨w5,hW45⟩:∃x,x=putAll (w3.heap.size) 1 [.slice AVt (puVec vec es id l val).length cvt,.slice At (puEs vec es id l val).length ct] W34_0:=⟨_,rfl⟩
        have hs45:w5.heap.size=W34_0.heap.size:=by rw [hW45];exact putAll_size
        have Hbel_46:=hd' (show Below w.heap.size w w5 by rw [hW45];exact putAll_below Hbel_36.out (by omega))
        have HR_47:=hd' (show Bx w5 (w.heap.size+2) [.int .i64 0,.slice none 0 0,.slice none 0 0,.slice none 0 0,.bool false,.slice none 0 0] by rw [hW45];exact HR_37.out.put_else (by omega))
        have HRF_48:=hd' (show ∀o,w5.frozen? ⟨w.heap.size+2,o,none⟩=false from fun o=>by rw [hW45];exact (putAll_frozen _).trans (HRF_38.out o))
        have Htr_49:=hd' (show TrOwn w5 w1.heap.size w2.heap.size AVt (puVec vec es id l val) At (puEs vec es id l val) by rw [hW45];exact Htr_39.out.keep fun p hp hq=>⟨putAll_other (by omega),putAll_frozen _⟩)
        have HT_50:=hd' (show Bx w5 (w2.heap.size) [.slice AVt (puVec vec es id l val).length cvt,.slice At (puEs vec es id l val).length ct] by rw [hW45];exact HT_40.out.put_else (by omega))
        have Hdv_51:=hd' (show DvOwn w5 W19_0.heap.size w3.heap.size AV3 vec A3 es AH hs AP3 ps by rw [hW45];exact Hdv_41.out.keep fun p hp hq=>⟨putAll_other (by omega),putAll_frozen _⟩)
        have HO_52:=hd' (show Bx w5 (w3.heap.size) [.int .i64 id,.slice AVt (puVec vec es id l val).length cvt,.slice At (puEs vec es id l val).length ct,.slice AH hs.length ch3,.bool false,.slice AP3 ps.length cp3] by rw [hW45];have hq:=HO_42.out.put 1 [.slice AVt (puVec vec es id l val).length cvt,.slice At (puEs vec es id l val).length ct] (by simp);simpa using hq)
        have HOF_53:=hd' (show ∀o,w5.frozen? ⟨w3.heap.size,o,none⟩=false from fun o=>by rw [hW45];exact (putAll_frozen _).trans (HOF_43.out o))
        simp only [putAll] at hW45
        rw [←hW45]
        have z_54:W34_0.heap.size≤w5.heap.size:=Nat.le_of_eq hs45.symm
        clear hW45 hs45 Hbel_36 HR_37 HRF_38 Htr_39 HT_40 Hdv_41 HO_42 HOF_43
        have qO_0:=HO_52.out 0 (by simp)
        have qO_1:=HO_52.out 1 (by simp)
        have qO_2:=HO_52.out 2 (by simp)
        have qO_3:=HO_52.out 3 (by simp)
        have qO_4:=HO_52.out 4 (by simp)
        have qO_5:=HO_52.out 5 (by simp)
        have lO:w3.heap.size < w5.heap.size:=by omega
        have qR_0:=HR_47.out 0 (by simp)
        have qR_1:=HR_47.out 1 (by simp)
        have qR_2:=HR_47.out 2 (by simp)
        have qR_3:=HR_47.out 3 (by simp)
        have qR_4:=HR_47.out 4 (by simp)
        have qR_5:=HR_47.out 5 (by simp)
        have lR:w.heap.size+2 < w5.heap.size:=by omega
        have fRF_0:=HRF_48.out 0
        have fRF_1:=HRF_48.out 1
        have fRF_2:=HRF_48.out 2
        have fRF_3:=HRF_48.out 3
        have fRF_4:=HRF_48.out 4
        have fRF_5:=HRF_48.out 5
        simp only [List.getElem_cons_succ,List.getElem_cons_zero] at qO_0 qO_1 qO_2 qO_3 qO_4 qO_5 qR_0 qR_1 qR_2 qR_3 qR_4 qR_5
        go_wp2_with fail
        clear qO_0 qO_1 qO_2 qO_3 qO_4 qO_5 lO qR_0 qR_1 qR_2 qR_3 qR_4 qR_5 lR fRF_0 fRF_1 fRF_2 fRF_3 fRF_4 fRF_5
        obtain ⟨w6,hW55⟩:∃x,x=putAll (w.heap.size+2) 0 [.int .i64 id,.slice AVt (puVec vec es id l val).length cvt,.slice At (puEs vec es id l val).length ct,.slice AH hs.length ch3,.bool false,.slice AP3 ps.length cp3] w5:=⟨_,rfl⟩
        have hs55:w6.heap.size=w5.heap.size:=by rw [hW55];exact putAll_size
        have Hbel_56:=hd' (show Below w.heap.size w w6 by rw [hW55];exact putAll_below Hbel_46.out (by omega))
        have HR_57:=hd' (show Bx w6 (w.heap.size+2) [.int .i64 id,.slice AVt (puVec vec es id l val).length cvt,.slice At (puEs vec es id l val).length ct,.slice AH hs.length ch3,.bool false,.slice AP3 ps.length cp3] by rw [hW55];have hq:=HR_47.out.put 0 [.int .i64 id,.slice AVt (puVec vec es id l val).length cvt,.slice At (puEs vec es id l val).length ct,.slice AH hs.length ch3,.bool false,.slice AP3 ps.length cp3] (by simp);simpa using hq)
        have HRF_58:=hd' (show ∀o,w6.frozen? ⟨w.heap.size+2,o,none⟩=false from fun o=>by rw [hW55];exact (putAll_frozen _).trans (HRF_48.out o))
        have Htr_59:=hd' (show TrOwn w6 w1.heap.size w2.heap.size AVt (puVec vec es id l val) At (puEs vec es id l val) by rw [hW55];exact Htr_49.out.keep fun p hp hq=>⟨putAll_other (by omega),putAll_frozen _⟩)
        have HT_60:=hd' (show Bx w6 (w2.heap.size) [.slice AVt (puVec vec es id l val).length cvt,.slice At (puEs vec es id l val).length ct] by rw [hW55];exact HT_50.out.put_else (by omega))
        have Hdv_61:=hd' (show DvOwn w6 W19_0.heap.size w3.heap.size AV3 vec A3 es AH hs AP3 ps by rw [hW55];exact Hdv_51.out.keep fun p hp hq=>⟨putAll_other (by omega),putAll_frozen _⟩)
        have HO_62:=hd' (show Bx w6 (w3.heap.size) [.int .i64 id,.slice AVt (puVec vec es id l val).length cvt,.slice At (puEs vec es id l val).length ct,.slice AH hs.length ch3,.bool false,.slice AP3 ps.length cp3] by rw [hW55];exact HO_52.out.put_else (by omega))
        have HOF_63:=hd' (show ∀o,w6.frozen? ⟨w3.heap.size,o,none⟩=false from fun o=>by rw [hW55];exact (putAll_frozen _).trans (HOF_53.out o))
        simp only [putAll] at hW55
        rw [←hW55]
        have z_64:w5.heap.size≤w6.heap.size:=Nat.le_of_eq hs55.symm
        clear hW55 hs55 Hbel_46 HR_47 HRF_48 Htr_49 HT_50 Hdv_51 HO_52 HOF_53
        have qR_0:=HR_57.out 0 (by simp)
        have qR_1:=HR_57.out 1 (by simp)
        have qR_2:=HR_57.out 2 (by simp)
        have qR_3:=HR_57.out 3 (by simp)
        have qR_4:=HR_57.out 4 (by simp)
        have qR_5:=HR_57.out 5 (by simp)
        have lR:w.heap.size+2 < w6.heap.size:=by omega
        simp only [List.getElem_cons_succ,List.getElem_cons_zero] at qR_0 qR_1 qR_2 qR_3 qR_4 qR_5
        refine bodyPost_ret (v:=.tuple #[.agg #[.int .i64 id,.slice AVt (puVec vec es id l val).length cvt,.slice At (puEs vec es id l val).length ct,.slice AH hs.length ch3,.bool false,.slice AP3 ps.length cp3],.bool true]) (by simp [results,Tryz.results29,qR_0,qR_1,qR_2,qR_3,qR_4,qR_5,go_sem]) rfl ?_
        rw [show edB ts id vec es hs false ps (puOk vec es id l val)=true by unfold edB;rw [←HPk.out,←HI.out];rfl]
        have hown:=Hdv_61.out.retree Htr_59.out (by omega) (by omega) (show w.heap.size≤_ by omega) (by omega)
        rw [HPs.out] at hown
        exact ⟨AVt,cvt,At,ct,AH,ch3,AP3,cp3,by rw [HPs.out];rfl,hown.mono (Nat.le_refl _) (by omega),by omega,Hbel_56.out⟩
end Go.Proofs.YtckajeippfpojaaGreat
namespace Go.Proofs.YtckajeippfpojaaGreat
open Go.RowKit Go.Maps
set_option maxRecDepth 100000
def edI (k:Bool) (id:Int):Int:=cond k id 0
def edV (k:Bool) (v:List Int):List Int:=cond k v []
def edE (k:Bool) (v:List En):List En:=cond k v []
def edM (k:Bool) (v:List Mn):List Mn:=cond k v []
theorem edV_len {k:Bool} {l:List Int} {n:Nat} (h:l.length≤n):(edV k l).length≤n:=ed_vl h
theorem edE_len {k:Bool} {l:List En} {n:Nat} (h:l.length≤n):(edE k l).length≤n:=ed_vl h
theorem edE_bulk {k:Bool} {l:List En} {n:Nat} (h:ebulk l≤n):ebulk (edE k l)≤n:=ed_eb h
theorem edM_len {k:Bool} {l:List Mn} {n:Nat} (h:l.length≤n):(edM k l).length≤n:=ed_vl h
theorem edM_bulk {k:Bool} {l:List Mn} {n:Nat} (h:mbulk l≤n):mbulk (edM k l)≤n:=ed_mb h
noncomputable def ediB (ts:List Tm) (id:Int) (vec:List Int) (es:List En) (hs:List Mn) (al:Bool) (ps:List Mn) (l:List UInt8) (val:Int):Bool:=edB ts id vec es hs al ps (puOk vec es id l val)
theorem implEdit_any (AL:Option Addr) (ts:List Tm) (cL:Nat) (id:Int) (AV:Option Addr) (vec:List Int) (cv:Nat) (A:Option Addr) (es:List En) (c:Nat) (AH:Option Addr) (hs:List Mn) (ch:Nat) (al:Bool) (AP:Option Addr) (ps:List Mn) (cp:Nat) (Ab:Option Addr) (l:List UInt8) (cb:Nat) (val:Int) (w:World) (hT:TmsIn w 0 w.heap.size AL ts) (ht:ts.length≤1048576) (htb:bulk ts≤1048576) (hV:IntsIn w 0 w.heap.size AV vec) (hA:EnsIn w 0 w.heap.size A es) (hH:MnsRd w 0 w.heap.size AH hs) (hP:MnsRd w 0 w.heap.size AP ps) (hv:vec.length≤1048576) (hn:es.length≤1048576) (hbk:ebulk es≤1048576) (hhl:hs.length≤1048576) (hhb:mbulk hs≤1048576) (hpl:ps.length≤1048576) (hpb:mbulk ps≤1048576) (hB:BytesIn w 0 w.heap.size Ab l) (hbl:l.length≤1048576) :
    Calls Tryz.prog 31 #[.agg #[.slice AL ts.length cL],.agg #[.int .i64 id,.slice AV vec.length cv,.slice A es.length c,.slice AH hs.length ch,.bool al,.slice AP ps.length cp],.slice Ab l.length cb,.int .i64 val] w (NewDvB (edI (ediB ts id vec es hs al ps l val) id) (edV (ediB ts id vec es hs al ps l val) (puVec vec es id l val)) (edE (ediB ts id vec es hs al ps l val) (puEs vec es id l val)) (edM (ediB ts id vec es hs al ps l val) hs) false noMs (ediB ts id vec es hs al ps l val) w) :=
  implEdit_raw AL ts cL id AV vec cv A es c AH hs ch al AP ps cp Ab l cb val w hT ht htb hV hA hH hP hv hn hbk hhl hhb hpl hpb hB hbl
theorem specEdit_any (AL:Option Addr) (ts:List Tm) (cL:Nat) (id:Int) (AV:Option Addr) (vec:List Int) (cv:Nat) (A:Option Addr) (es:List En) (c:Nat) (AH:Option Addr) (hs:List Mn) (ch:Nat) (al:Bool) (AP:Option Addr) (ps:List Mn) (cp:Nat) (Ab:Option Addr) (l:List UInt8) (cb:Nat) (val:Int) (w:World) (hT:TmsIn w 0 w.heap.size AL ts) (ht:ts.length≤1048576) (htb:bulk ts≤1048576) (hV:IntsIn w 0 w.heap.size AV vec) (hA:EnsIn w 0 w.heap.size A es) (hH:MnsRd w 0 w.heap.size AH hs) (hP:MnsRd w 0 w.heap.size AP ps) (hv:vec.length≤1048576) (hn:es.length≤1048576) (hbk:ebulk es≤1048576) (hhl:hs.length≤1048576) (hhb:mbulk hs≤1048576) (hpl:ps.length≤1048576) (hpb:mbulk ps≤1048576) (hB:BytesIn w 0 w.heap.size Ab l) (hbl:l.length≤1048576) (hc:es.length≤c:=by omega) :
    Calls Tryz.prog 29 #[.agg #[.slice AL ts.length cL],.agg #[.int .i64 id,.slice AV vec.length cv,.slice A es.length c,.slice AH hs.length ch,.bool al,.slice AP ps.length cp],.slice Ab l.length cb,.int .i64 val] w (NewDvB (edI (ediB ts id vec es hs al ps l val) id) (edV (ediB ts id vec es hs al ps l val) (puVec vec es id l val)) (edE (ediB ts id vec es hs al ps l val) (puEs vec es id l val)) (edM (ediB ts id vec es hs al ps l val) hs) false noMs (ediB ts id vec es hs al ps l val) w) :=
  specEdit_raw AL ts cL id AV vec cv A es c AH hs ch al AP ps cp Ab l cb val w hT ht htb hV hA hH hP hv hn hbk hhl hhb hpl hpb hB hbl hc
end Go.Proofs.YtckajeippfpojaaGreat
namespace Go.Proofs.YtckajeippfpojaaGreat
open Go.RowKit Go.Maps
set_option maxRecDepth 100000
def LdOwn (w:World) (L B:Nat) (A:Option Addr) (ts:List Tm):Prop :=
  ∃g,A=some ⟨g,0,none⟩∧L≤g∧g < B∧CopyIn w g B ts∧∀p:Addr,g≤p.block→p.block < B→w.frozen? p=false
theorem LdOwn.keep {w w':World} {L B:Nat} {A:Option Addr} {ts:List Tm} (h:LdOwn w L B A ts) (hk:∀p:Addr,L≤p.block→p.block < B→w'.cell? p=w.cell? p∧w'.frozen? p=w.frozen? p):LdOwn w' L B A ts:=by
  obtain ⟨g,rfl,h1,h2,h3,h4⟩:=h
  exact ⟨g,rfl,h1,h2,h3.keep (fun p hp hq=>(hk p (by omega) hq).1) h2,fun p hp hq=>(hk p (by omega) hq).2.trans (h4 p hp hq)⟩
theorem LdOwn.tms {w:World} {L B:Nat} {A:Option Addr} {ts:List Tm} (h:LdOwn w L B A ts):TmsIn w L B A ts:=by
  obtain ⟨g,rfl,h1,h2,h3,h4⟩:=h
  exact (h3.tms h2).low h1
theorem toLedger_own (A:Option Addr) (ts:List Tm) (c:Nat) (w:World) (hA:TmsIn w 0 w.heap.size A ts) (hn:ts.length≤1048576) (hbk:bulk ts≤1048576) :
    Calls Tryz.prog 15 #[.agg #[.slice A ts.length c]] w fun e w'=>∃g,e=.returned (.agg #[.slice (some ⟨g,0,none⟩) ts.length ts.length])∧w.heap.size≤g∧LdOwn w' w.heap.size w'.heap.size (some ⟨g,0,none⟩) ts∧Below w.heap.size w w' :=
  (toLedger_fr A ts c w hA hn hbk).mono fun _ w' ⟨g,he,h1,h2,h3,h4,h5⟩=>⟨g,he,h1,⟨g,rfl,h1,h2,h3,fun p hp _=>h4 p (by omega)⟩,h5⟩
set_option maxHeartbeats 400000 in
theorem markLedger_own (A:Option Addr) (ts:List Tm) (c L B:Nat) (k:Int) (w:World) (hA:LdOwn w L B A ts) (hB:B≤w.heap.size) (hn:ts.length≤1048576) (hbk:bulk ts≤1048576) (hk:0≤k) (hk':k≤1000000000) :
    Calls Tryz.prog 20 #[.agg #[.slice A ts.length c],.int .i64 k] w fun e w'=>(∃r:Int,e=.returned (.int .i64 r)∧0≤r∧r≤k+4194304)∧Inside L B w w':=by
  obtain ⟨R,rfl,hL,hR,hA,hf⟩:=hA
  have HA:=hd' hA
  have HM:=hd' (marksOf_texts ts)
  clear hA
  go_enter Tryz.func20,Tryz.ntmps20
  go_wp2_with fail
  have hb0:Below w.heap.size w (w.alloc (.cells #[.slice (some ⟨R,0,none⟩) ts.length c] 35)):=(Below.refl _ _).alloc (Nat.le_refl _) _
  have hc:=markTermS_any R (ts.map fun t=>t.text.length) c B k (w.alloc (.cells #[.slice (some ⟨R,0,none⟩) ts.length c] 35)) (HA.out.keep (fun p _ hp=>hb0.cell (by omega)) hR).exist hR (by simp;omega) (fun p hp hpB=>(hb0.frozen (by omega)).trans (hf p hp hpB)) (by have:=HM.out;omega) hk hk'
  rw [List.length_map] at hc
  refine hc.mono ?_
  rintro e w1 ⟨rfl,hin⟩
  have HI:=hd' (((Inside.refl R B w).grown hb0 (by omega)).trans hin)
  clear hin hb0 hc
  go_wp2_with fail
  go_ret
  exact ⟨⟨_,rfl,by omega,by have:=HM.out;omega⟩,HI.out.wider hL (Nat.le_refl _)⟩
end Go.Proofs.YtckajeippfpojaaGreat
namespace Go.Proofs.YtckajeippfpojaaGreat
open Go.RowKit Go.Maps
set_option maxRecDepth 100000
def Sw (W X:World):Prop:=Below W.heap.size W X
theorem Sw.refl (W:World):Sw W W:=Below.refl _ _
theorem Sw.drew {W X:World} (h:Sw W X):Sw W X.drew:=Below.drew h
theorem Sw.alloc {W X:World} (h:Sw W X) (o:Obj):Sw W (X.alloc o):=Below.alloc h (Below.size h) o
theorem Sw.below {W X Y:World} (h:Sw W X) (hb:Below X.heap.size X Y):Sw W Y:=Below.trans h (hb.mono (Below.size h))
theorem Sw.set {W X:World} (h:Sw W X) {b o:Nat} (hb:W.heap.size≤b) (v:Value):Sw W (X.setCell ⟨b,o,none⟩ v):=Below.setCell h (show W.heap.size≤b from hb) v
end Go.Proofs.YtckajeippfpojaaGreat
namespace Go.Proofs.YtckajeippfpojaaGreat
open Go.RowKit Go.Maps
set_option maxRecDepth 100000
theorem mmo_bulk:∀ms:List Mn,mmo ms≤4*ms.length+3*mbulk ms
  | []=>by simp [mmo]
  | m :: ms=>by
    have:=mmo_bulk ms
    simp only [mmo,mbulk,mo,List.length_cons]
    omega
theorem dmo_le {n:Nat} {es:List En} {hs ps:List Mn} (h1:n≤1048576) (h2:es.length≤1048576) (h3:ebulk es≤1048576) (h4:hs.length≤1048576) (h5:mbulk hs≤1048576) (h6:ps.length≤1048576) (h7:mbulk ps≤1048576):dmo n es hs ps≤100000000:=by
  have a:=mmo_bulk hs
  have b:=mmo_bulk ps
  unfold dmo mo
  omega
theorem Sw.le {W X:World} (h:Sw W X):W.heap.size≤X.heap.size:=Below.size h
def CutDv (v:World) (S:Value) (id:Int) (vec:List Int) (es:List En) (hs:List Mn) (al:Bool) (ps:List Mn) (s6 s7:Value) (wx:World):Prop :=
  ∃(bz:Nat) (AVs:Option Addr) (cvs:Nat) (As:Option Addr) (cs:Nat) (AHs:Option Addr) (chs:Nat) (APs:Option Addr) (cps:Nat),s6=.pointer (some ⟨bz,0,none⟩)∧s7=S∧v.heap.size≤bz∧bz < wx.heap.size ∧
    Bx wx bz [.int .i64 id,.slice AVs vec.length cvs,.slice As es.length cs,.slice AHs hs.length chs,.bool al,.slice APs ps.length cps]∧DvOwn wx v.heap.size wx.heap.size AVs vec As es AHs hs APs ps∧Sw v wx
section
variable {v y:World} {S:Value} {id:Int} {vec:List Int} {es:List En} {hs:List Mn} {al:Bool} {ps:List Mn} {AV A AH AP:Option Addr} {cv c ch cp Lo:Nat}
theorem cutDv_new {t:TypeId} (hO:DvOwn y Lo y.heap.size AV vec A es AH hs AP ps) (hS:Sw v y) (hL:v.heap.size≤Lo) :
    CutDv v S id vec es hs al ps (.pointer (some ⟨y.heap.size,0,none⟩)) S (y.alloc (.cells #[.int .i64 id,.slice AV vec.length cv,.slice A es.length c,.slice AH hs.length ch,.bool al,.slice AP ps.length cp] t)) :=
  ⟨_,AV,cv,A,c,AH,ch,AP,cp,rfl,rfl,Below.size hS,by simp,(BxH.new y [.int .i64 id,.slice AV vec.length cv,.slice A es.length c,.slice AH hs.length ch,.bool al,.slice AP ps.length cp] t).1,
    (hO.keep fun p _ hp=>⟨World.cell?_alloc_lt _ _ _ hp,World.frozen?_of_block (heap_alloc_old _ _ hp)⟩).mono hL (by simp),hS.alloc _⟩
theorem cutDv_put {b:Nat} {us:List Value} (hO:DvOwn y Lo y.heap.size AV vec A es AH hs AP ps) (hS:Sw v y) (hL:v.heap.size≤Lo) (hq:BxH y b us) (hl:us.length=6) (hb:v.heap.size≤b) (hap:b < Lo) :
    CutDv v S id vec es hs al ps (.pointer (some ⟨b,0,none⟩)) S (putAll b 0 [.int .i64 id,.slice AV vec.length cv,.slice A es.length c,.slice AH hs.length ch,.bool al,.slice AP ps.length cp] y) :=
  ⟨b,AV,cv,A,c,AH,ch,AP,cp,rfl,rfl,hb,by rw [putAll_size];exact hq.2.2,(hq.put (vs:=[.int .i64 id,.slice AV vec.length cv,.slice A es.length c,.slice AH hs.length ch,.bool al,.slice AP ps.length cp]) hl.symm).1,
    (hO.keep fun p hp _=>⟨putAll_other (by omega),putAll_frozen _⟩).mono hL (Nat.le_of_eq putAll_size.symm),putAll_below hS hb⟩
end
end Go.Proofs.YtckajeippfpojaaGreat
