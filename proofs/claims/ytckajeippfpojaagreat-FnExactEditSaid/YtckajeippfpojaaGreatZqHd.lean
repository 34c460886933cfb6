import Derived.Test.YtckajeippfpojaaGreatZqCpI
import Derived.Test.YtckajeippfpojaaGreatZqKn
namespace Go.Proofs.YtckajeippfpojaaGreat
open Go.RowKit Go.Maps
def NewMnC (m:Mn) (w:World) (e:Ending) (w':World):Prop :=
  ∃AV cv A c,e=.returned (.agg #[.int .i64 m.au,.int .i64 m.sq,.int .i64 m.pv,.slice AV m.vec.length cv,.slice A m.es.length c,.int .i64 m.sg])∧TrOwn w' w.heap.size w'.heap.size AV m.vec A m.es∧w.heap.size < w'.heap.size∧m.es.length≤c∧Below w.heap.size w w'
set_option maxRecDepth 100000 in
set_option maxHeartbeats 1000000 in
theorem l4own_cap (m:Mn) (AV:Option Addr) (cv:Nat) (A:Option Addr) (c:Nat) (w:World) (hV:IntsIn w 0 w.heap.size AV m.vec) (hA:EnsIn w 0 w.heap.size A m.es) (hv:m.vec.length≤1048576) (hn:m.es.length≤1048576) (hbk:ebulk m.es≤1048576) :
    Calls Tryz.prog 59 #[.agg #[.int .i64 m.au,.int .i64 m.sq,.int .i64 m.pv,.slice AV m.vec.length cv,.slice A m.es.length c,.int .i64 m.sg]] w (NewMnC m w):=by
  have HV:=hd' hV
  have HA:=hd' hA
  clear hV hA
  go_enter Tryz.func59,Tryz.ntmps59
  go_wp2_with fail
  obtain ⟨W1_0,hW1_0⟩:∃x,x=w.alloc (.cells #[.int .i64 m.au,.int .i64 m.sq,.int .i64 m.pv,.slice AV m.vec.length cv,.slice A m.es.length c,.int .i64 m.sg] 40):=⟨_,rfl⟩
  obtain ⟨W1_1,hW1_1⟩:∃x,x=W1_0.alloc (.cells #[.int .i64 0,.int .i64 0,.int .i64 0,.slice none 0 0,.slice none 0 0,.int .i64 0] 40):=⟨_,rfl⟩
  have hZ1_0:W1_0.heap.size=w.heap.size+1:=by rw [hW1_0];simp
  have hZ1_1:W1_1.heap.size=w.heap.size+2:=by rw [hW1_1];simp [hZ1_0]
  have hx0:Bx W1_0 (w.heap.size) [.int .i64 m.au,.int .i64 m.sq,.int .i64 m.pv,.slice AV m.vec.length cv,.slice A m.es.length c,.int .i64 m.sg]:=by rw [hW1_0];exact Bx.new' _ _ _ _ rfl
  replace hx0:Bx W1_1 (w.heap.size) [.int .i64 m.au,.int .i64 m.sq,.int .i64 m.pv,.slice AV m.vec.length cv,.slice A m.es.length c,.int .i64 m.sg]:=by rw [hW1_1];exact hx0.alloc (by omega) _
  have hx1:Bx W1_1 (w.heap.size+1) [.int .i64 0,.int .i64 0,.int .i64 0,.slice none 0 0,.slice none 0 0,.int .i64 0]:=by rw [hW1_1,←hZ1_0];exact Bx.new' _ _ _ _ rfl
  have hb0:Below w.heap.size w W1_1:=by rw [hW1_1,hW1_0];exact (((Below.refl _ _).alloc (by first|exact Nat.le_refl _|(simp;done)|(simp;omega)) _).alloc (by first|exact Nat.le_refl _|(simp;done)|(simp;omega)) _)
  have hf0:∀o,W1_1.frozen? ⟨w.heap.size,o,none⟩=false:=fun o=>by rw [hW1_1,hW1_0];exact (((Fresh.refl w).alloc _ _).alloc _ _) ⟨w.heap.size,o,none⟩ (by show w.heap.size≤w.heap.size;omega)
  have hf1:∀o,W1_1.frozen? ⟨w.heap.size+1,o,none⟩=false:=fun o=>by rw [hW1_1,hW1_0];exact (((Fresh.refl w).alloc _ _).alloc _ _) ⟨w.heap.size+1,o,none⟩ (by show w.heap.size≤w.heap.size+1;omega)
  have hlt:w.heap.size+1 < W1_1.heap.size:=by omega
  rw [←hW1_0,←hW1_1]
  clear hW1_0 hZ1_0 hW1_1 hZ1_1
  have z_2:=hb0.size
  have Hbel_3:=hd' (hb0)
  have HM_4:=hd' (hx0)
  have HMF_5:=hd' (hf0)
  clear hf0
  have HR_6:=hd' (hx1)
  have HRF_7:=hd' (hf1)
  clear hf1
  clear hb0 hx0 hx1
  have hl_8:=hlt
  clear hlt
  refine (l3own_cap AV m.vec cv A m.es c W1_1 ((HV.out.keep fun p _ hp=>Hbel_3.out.cell hp).mono (by omega)) ((HA.out.keep fun p _ hp=>Hbel_3.out.cell hp).mono (by omega)) hv hn hbk).mono ?_
  rintro e w1 ⟨AV1,cv1,A1,c1,rfl,hown,hlt,hcap,hb⟩
  have z_9:=hb.size
  have Hbel_10:=hd' (Hbel_3.out.trans (hb.mono (by omega)))
  have HM_11:=hd' (HM_4.out.below hb (by omega))
  have HMF_12:=hd' (show ∀o,w1.frozen? ⟨w.heap.size,o,none⟩=false from fun o=>(hb.frozen (p:=⟨w.heap.size,o,none⟩) (by show w.heap.size < _;omega)).trans (HMF_5.out o))
  have HR_13:=hd' (HR_6.out.below hb (by omega))
  have HRF_14:=hd' (show ∀o,w1.frozen? ⟨w.heap.size+1,o,none⟩=false from fun o=>(hb.frozen (p:=⟨w.heap.size+1,o,none⟩) (by show w.heap.size+1 < _;omega)).trans (HRF_7.out o))
  clear Hbel_3 HM_4 HMF_5 HR_6 HRF_7
  have Htr_15:=hd' (hown)
  clear hb
  clear hown
  have qM_0:=HM_11.out 0 (by simp)
  have qM_1:=HM_11.out 1 (by simp)
  have qM_2:=HM_11.out 2 (by simp)
  have qM_3:=HM_11.out 3 (by simp)
  have qM_4:=HM_11.out 4 (by simp)
  have qM_5:=HM_11.out 5 (by simp)
  have lM:w.heap.size < w1.heap.size:=by omega
  have fMF_0:=HMF_12.out 0
  have fMF_1:=HMF_12.out 1
  have fMF_2:=HMF_12.out 2
  have fMF_3:=HMF_12.out 3
  have fMF_4:=HMF_12.out 4
  have fMF_5:=HMF_12.out 5
  have qR_0:=HR_13.out 0 (by simp)
  have qR_1:=HR_13.out 1 (by simp)
  have qR_2:=HR_13.out 2 (by simp)
  have qR_3:=HR_13.out 3 (by simp)
  have qR_4:=HR_13.out 4 (by simp)
  have qR_5:=HR_13.out 5 (by simp)
  have lR:w.heap.size+1 < w1.heap.size:=by omega
  have fRF_0:=HRF_14.out 0
  have fRF_1:=HRF_14.out 1
  have fRF_2:=HRF_14.out 2
  have fRF_3:=HRF_14.out 3
  have fRF_4:=HRF_14.out 4
  have fRF_5:=HRF_14.out 5
  simp only [List.getElem_cons_succ,List.getElem_cons_zero] at qM_0 qM_1 qM_2 qM_3 qM_4 qM_5 qR_0 qR_1 qR_2 qR_3 qR_4 qR_5
  go_wp2_with fail
  clear qM_0 qM_1 qM_2 qM_3 qM_4 qM_5 lM fMF_0 fMF_1 fMF_2 fMF_3 fMF_4 fMF_5 qR_0 qR_1 qR_2 qR_3 qR_4 qR_5 lR fRF_0 fRF_1 fRF_2 fRF_3 fRF_4 fRF_5
  obtain ⟨w2,hW16⟩:∃x,x=putAll (w.heap.size) 3 [.slice AV1 m.vec.length cv1,.slice A1 m.es.length c1] w1:=⟨_,rfl⟩
  have hs16:w2.heap.size=w1.heap.size:=by rw [hW16];exact putAll_size
  have Hbel_17:=hd' (show Below w.heap.size w w2 by rw [hW16];exact putAll_below Hbel_10.out (by omega))
  have HM_18:=hd' (show Bx w2 (w.heap.size) [.int .i64 m.au,.int .i64 m.sq,.int .i64 m.pv,.slice AV1 m.vec.length cv1,.slice A1 m.es.length c1,.int .i64 m.sg] by rw [hW16];have hq:=HM_11.out.put 3 [.slice AV1 m.vec.length cv1,.slice A1 m.es.length c1] (by simp);simpa using hq)
  have HMF_19:=hd' (show ∀o,w2.frozen? ⟨w.heap.size,o,none⟩=false from fun o=>by rw [hW16];exact (putAll_frozen _).trans (HMF_12.out o))
  have HR_20:=hd' (show Bx w2 (w.heap.size+1) [.int .i64 0,.int .i64 0,.int .i64 0,.slice none 0 0,.slice none 0 0,.int .i64 0] by rw [hW16];exact HR_13.out.put_else (by omega))
  have HRF_21:=hd' (show ∀o,w2.frozen? ⟨w.heap.size+1,o,none⟩=false from fun o=>by rw [hW16];exact (putAll_frozen _).trans (HRF_14.out o))
  have Htr_22:=hd' (show TrOwn w2 W1_1.heap.size w1.heap.size AV1 m.vec A1 m.es by rw [hW16];exact Htr_15.out.keep fun p hp hq=>⟨putAll_other (by omega),putAll_frozen _⟩)
  simp only [putAll] at hW16
  rw [←hW16]
  have z_23:w1.heap.size≤w2.heap.size:=Nat.le_of_eq hs16.symm
  clear hW16 hs16 Hbel_10 HM_11 HMF_12 HR_13 HRF_14 Htr_15
  obtain ⟨w3,hW24⟩:∃x,x=putAll (w.heap.size+1) 0 [.int .i64 m.au,.int .i64 m.sq,.int .i64 m.pv,.slice AV1 m.vec.length cv1,.slice A1 m.es.length c1,.int .i64 m.sg] w2:=⟨_,rfl⟩
  have hs24:w3.heap.size=w2.heap.size:=by rw [hW24];exact putAll_size
  have Hbel_25:=hd' (show Below w.heap.size w w3 by rw [hW24];exact putAll_below Hbel_17.out (by omega))
  have HM_26:=hd' (show Bx w3 (w.heap.size) [.int .i64 m.au,.int .i64 m.sq,.int .i64 m.pv,.slice AV1 m.vec.length cv1,.slice A1 m.es.length c1,.int .i64 m.sg] by rw [hW24];exact HM_18.out.put_else (by omega))
  have HMF_27:=hd' (show ∀o,w3.frozen? ⟨w.heap.size,o,none⟩=false from fun o=>by rw [hW24];exact (putAll_frozen _).trans (HMF_19.out o))
  have HR_28:=hd' (show Bx w3 (w.heap.size+1) [.int .i64 m.au,.int .i64 m.sq,.int .i64 m.pv,.slice AV1 m.vec.length cv1,.slice A1 m.es.length c1,.int .i64 m.sg] by rw [hW24];have hq:=HR_20.out.put 0 [.int .i64 m.au,.int .i64 m.sq,.int .i64 m.pv,.slice AV1 m.vec.length cv1,.slice A1 m.es.length c1,.int .i64 m.sg] (by simp);simpa using hq)
  have HRF_29:=hd' (show ∀o,w3.frozen? ⟨w.heap.size+1,o,none⟩=false from fun o=>by rw [hW24];exact (putAll_frozen _).trans (HRF_21.out o))
  have Htr_30:=hd' (show TrOwn w3 W1_1.heap.size w1.heap.size AV1 m.vec A1 m.es by rw [hW24];exact Htr_22.out.keep fun p hp hq=>⟨putAll_other (by omega),putAll_frozen _⟩)
  simp only [putAll] at hW24
  rw [←hW24]
  have z_31:w2.heap.size≤w3.heap.size:=Nat.le_of_eq hs24.symm
  clear hW24 hs24 Hbel_17 HM_18 HMF_19 HR_20 HRF_21 Htr_22
  have qR_0:=HR_28.out 0 (by simp)
  have qR_1:=HR_28.out 1 (by simp)
  have qR_2:=HR_28.out 2 (by simp)
  have qR_3:=HR_28.out 3 (by simp)
  have qR_4:=HR_28.out 4 (by simp)
  have qR_5:=HR_28.out 5 (by simp)
  have lR:w.heap.size+1 < w3.heap.size:=by omega
  simp only [List.getElem_cons_succ,List.getElem_cons_zero] at qR_0 qR_1 qR_2 qR_3 qR_4 qR_5
  have HT:=hd' (show TrOwn w3 w.heap.size w3.heap.size AV1 m.vec A1 m.es from Htr_30.out.mono (by omega) (by omega))
  refine bodyPost_ret (v:=.agg #[.int .i64 m.au,.int .i64 m.sq,.int .i64 m.pv,.slice AV1 m.vec.length cv1,.slice A1 m.es.length c1,.int .i64 m.sg]) (by simp [results,Tryz.results59,qR_0,qR_1,qR_2,qR_3,qR_4,qR_5,go_sem]) rfl ⟨AV1,cv1,A1,c1,rfl,HT.out,by omega,hcap,Hbel_25.out⟩
end Go.Proofs.YtckajeippfpojaaGreat
