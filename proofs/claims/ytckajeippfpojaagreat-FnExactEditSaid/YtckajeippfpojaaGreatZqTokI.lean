import Derived.Test.YtckajeippfpojaaGreatZqFit
import Derived.Test.YtckajeippfpojaaGreatZqSetD
import Derived.Outline
namespace Go.Proofs.YtckajeippfpojaaGreat
open Go.RowKit Go.Maps
def EvIn (w:World) (b o:Nat) (e:En):Prop :=
  w.cell? ⟨b,o,none⟩=some (.string ⟨e.name.toArray⟩)∧w.cell? ⟨b,o+1,none⟩=some (.int .i64 e.val)∧w.cell? ⟨b,o+2,none⟩=some (.int .i64 e.dev)∧w.cell? ⟨b,o+3,none⟩=some (.int .i64 e.num)
def EvsIn (w:World) (L B:Nat) (A:Option Addr) (es:List En):Prop :=
  0 < es.length→∃b o,A=some ⟨b,o,none⟩∧L≤b∧b < B∧∀i (hi:i < es.length),EvIn w b (o+i*4) es[i]
section
variable {w w':World} {L L' B B':Nat} {A:Option Addr} {es:List En}
theorem EvIn.keep {b o:Nat} {e:En} (h:EvIn w b o e) (hk:∀o,w'.cell? ⟨b,o,none⟩=w.cell? ⟨b,o,none⟩):EvIn w' b o e :=
  ⟨(hk _).trans h.1,(hk _).trans h.2.1,(hk _).trans h.2.2.1,(hk _).trans h.2.2.2⟩
theorem EvsIn.keep (h:EvsIn w L B A es) (hk:∀p:Addr,L≤p.block→p.block < B→w'.cell? p=w.cell? p):EvsIn w' L B A es:=fun hl=>by
  obtain ⟨b,o,e,hL,hb,hc⟩:=h hl
  exact ⟨b,o,e,hL,hb,fun i hi=>(hc i hi).keep fun o=>hk _ hL hb⟩
theorem EvsIn.mono (h:EvsIn w L B A es) (hB:B≤B'):EvsIn w L B' A es:=fun hl=>by
  obtain ⟨b,o,e,hL,hb,hc⟩:=h hl
  exact ⟨b,o,e,hL,by omega,hc⟩
theorem EvsIn.low (h:EvsIn w L B A es) (hL:L'≤L):EvsIn w L' B A es:=fun hl=>by
  obtain ⟨b,o,e,hL',hb,hc⟩:=h hl
  exact ⟨b,o,e,by omega,hb,hc⟩
theorem EvsIn.below (h:EvsIn w L B A es) (hb:Below B w w'):EvsIn w' L B A es:=h.keep fun _ _ hp=>hb.cell hp
end
def deedOf (e:En):Int × Int:=(e.dev,e.num)
def goodB (a b c d:Int) (es:List En) (i:Nat):Bool :=
  fitB a b c d (es.getD i default) && !inB ((es.take i).map deedOf) (deedOf (es.getD i default)) && (decide (i=0) || decide (plaV (es.getD (i - 1) default) (es.getD i default) < 0))
def tokB (a b c d:Int) (es:List En):Bool:=vecB [a,b,c,d] && decide (es.length≤12) && (List.range es.length).all (goodB a b c d es)
theorem tokB_bad {a b c d:Int} {es:List En} {i:Nat} (hi:i < es.length) (h:goodB a b c d es i=false):tokB a b c d es=false:=by
  unfold tokB
  rw [Bool.and_eq_false_iff]
  refine .inr ?_
  rw [List.all_eq_false]
  exact ⟨i,List.mem_range.2 hi,by simp [h]⟩
theorem tokB_all {a b c d:Int} {es:List En} (hv:vecB [a,b,c,d]=true) (hl:es.length≤12) (h:∀i,i < es.length→goodB a b c d es i=true):tokB a b c d es=true:=by
  unfold tokB
  rw [hv,decide_eq_true hl]
  simp only [Bool.and_self,Bool.true_and,List.all_eq_true]
  intro i hi
  exact h i (List.mem_range.1 hi)
theorem vecB4_num {a b c d:Int} (h:vecB [a,b,c,d]=true) (k:Nat):nth4 a b c d k≤1000:=by
  rw [vecB4] at h
  simp only [Bool.and_eq_true] at h
  obtain ⟨⟨⟨ha,hb⟩,hc⟩,hd⟩:=h
  have:=numB_true ha
  have:=numB_true hb
  have:=numB_true hc
  have:=numB_true hd
  unfold nth4
  split
  · omega
  · split
    · omega
    · split <;> omega
theorem fit_wf {a b c d:Int} {e:En} (hv:vecB [a,b,c,d]=true) (h:fitB a b c d e=true):WfD (deedOf e):=by
  unfold fitB devB knowB at h
  simp only [Bool.and_eq_true,decide_eq_true_eq] at h
  have:=vecB4_num hv e.dev.toNat
  exact ⟨WalkArith.wf_i64 (by show (-9223372036854775808:Int)≤e.dev∧e.dev≤9223372036854775807;omega),WalkArith.wf_i64 (by show (-9223372036854775808:Int)≤e.num∧e.num≤9223372036854775807;omega)⟩
theorem good_fit {a b c d:Int} {es:List En} {i:Nat} (hi:i < es.length) (h:goodB a b c d es i=true):fitB a b c d es[i]=true:=by
  unfold goodB at h
  simp only [Bool.and_eq_true] at h
  simpa [hi] using h.1.1
theorem deeds_wf {a b c d:Int} {es:List En} {k:Nat} (hv:vecB [a,b,c,d]=true) (h:∀i,i < k→i < es.length→goodB a b c d es i=true):∀x∈(es.take k).map deedOf,WfD x:=by
  intro x hx
  obtain ⟨e,he,rfl⟩:=List.mem_map.1 hx
  obtain ⟨i,hi,rfl⟩:=List.getElem_of_mem he
  have hi':i < k∧i < es.length:=by simp at hi;omega
  rw [List.getElem_take]
  exact fit_wf hv (good_fit hi'.2 (h i hi'.1 hi'.2))
set_option maxRecDepth 100000 in
set_option maxHeartbeats 4000000 in
theorem tok_any (a b c d:Int) (A:Option Addr) (es:List En) (cap:Nat) (w:World) (hA:EvsIn w 0 w.heap.size A es) (hn:es.length≤9223372036854775807) :
    Calls Tryz.prog 176 #[.agg #[.int .i64 a,.int .i64 b,.int .i64 c,.int .i64 d,.slice A es.length cap]] w fun r w'=>r=.returned (.bool (tokB a b c d es))∧Below w.heap.size w w':=by
  have HA:=hd' hA
  have hvk:=fun W=>vok_any a b c d W
  unfold v4 at hvk
  have HVk:=hd' hvk
  have HTok:=hd' (show tokB a b c d es=(vecB [a,b,c,d] && decide (es.length≤12) && (List.range es.length).all (goodB a b c d es)) from rfl)
  clear hA hvk
  go_enter Tryz.func176,Tryz.ntmps176
  go_wp2_with fail
  obtain ⟨W,hW⟩:∃W,W=w.alloc (.cells #[.int .i64 a,.int .i64 b,.int .i64 c,.int .i64 d,.slice A es.length cap] 101):=⟨_,rfl⟩
  have HX:=hd' (show Bx W w.heap.size [.int .i64 a,.int .i64 b,.int .i64 c,.int .i64 d,.slice A es.length cap] by rw [hW];exact Bx.new' _ _ _ _ rfl)
  have HBel:=hd' (show Below w.heap.size w W by rw [hW];exact (Below.refl _ _).alloc (Nat.le_refl _) _)
  have hzW:w.heap.size < W.heap.size:=by rw [hW];simp
  rw [←hW]
  clear hW
  refine (HVk.out W).mono ?_
  rintro r w1 ⟨rfl,hb1⟩
  have HX1:=hd' (HX.out.below hb1 hzW)
  have hz1:=hb1.size
  have HB1:=hd' (HBel.out.trans (hb1.mono (by omega)))
  clear hb1
  cases hv:vecB [a,b,c,d] with
  | false =>
    have HV:=hd' (show tokB a b c d es=false by rw [HTok.out,hv];simp)
    clear hv
    go_wp2_with fail
    go_ret
    exact ⟨ret_bool (a:=false) HV.out.symm,HB1.out⟩
  | true =>
  have HVec:=hd' hv
  clear hv
  have x4:=HX1.out 4 (by simp)
  simp only [List.getElem_cons_succ,List.getElem_cons_zero] at x4
  by_cases h12:(12:Int) < es.length
  · have HV:=hd' (show tokB a b c d es=false by rw [HTok.out];simp;omega)
    have hvt:vecB [a,b,c,d]=true:=HVec.out
    go_wp2_with fail
    go_ret
    exact ⟨ret_bool (a:=false) HV.out.symm,HB1.out⟩
  have hle:es.length≤12:=by omega
  have hvt:vecB [a,b,c,d]=true:=HVec.out
  go_wp2_with fail
  refine (newSetD_any w1).mono ?_
  rintro r w2 ⟨rfl,hset,hb2⟩
  have HSet2:=hd' hset
  have hz2:=hset.lt
  have HX2:=hd' (HX1.out.below hb2 (by omega))
  have HB2:=hd' (HB1.out.trans (hb2.mono (by omega)))
  have y4:=HX2.out 4 (by simp)
  simp only [List.getElem_cons_succ,List.getElem_cons_zero] at y4
  obtain ⟨M,hM⟩:∃M,M=w1.heap.size:=⟨_,rfl⟩
  have HM12:=hd' (show Below M w1 w2 by rw [hM];exact hb2)
  rw [←hM] at HSet2 ⊢
  have hMw:w.heap.size < M:=by omega
  have hM2:M+1 < w2.heap.size:=by omega
  clear hset hb2 hvt x4 hM hz2
  go_wp2_with fail
  go_loopw [20] (fun i wr=>∃(k:Nat) (v:Value),k≤es.length∧i=.int .i64 k∧(∀j,j < k→goodB a b c d es j=true)∧DeedSet wr M ((es.take k).map deedOf) v∧Below M w2 wr∧w2.heap.size≤wr.heap.size) (fun i _=>es.length - (intOf i).toNat)
  case atStart=>exact ⟨0,_,Nat.zero_le _,rfl,fun j hj=>absurd hj (by omega),by simpa using HSet2.out,Below.refl _ _,Nat.le_refl _⟩
  case round =>
    obtain ⟨k,v,hk,rfl,hall,hset,hbel,hzr⟩:=hrel
    have HAll:=hd' hall
    have HSet:=hd' hset
    have HBr:=hd' hbel
    clear hall hset hbel y4
    have HB3:=hd' (show Below w.heap.size w wr from HB2.out.trans (HBr.out.mono (by omega)))
    by_cases hlt:k < es.length
    · obtain ⟨bA,oA,hAe,_,hbA,hcA⟩:=HA.out (by omega)
      obtain ⟨e,he⟩:∃e,e=es[k]:=⟨_,rfl⟩
      have HGood:=hd' (show goodB a b c d es k=(fitB a b c d e && !inB ((es.take k).map deedOf) (deedOf e) && (decide (k=0) || decide (plaV (es.getD (k - 1) default) e < 0))) by
        unfold goodB
        have:es.getD k default=e:=by rw [he];simp [hlt]
        rw [this])
      have HCs:=hd' (show ∀j (hj:j < es.length),EvIn wr bA (oA+j*4) es[j] from fun j hj=>(hcA j hj).keep fun o=>HB3.out.cell hbA)
      have hck:=HCs.out k hlt
      rw [←he] at hck
      have HE:=hd' he
      obtain ⟨c0,c1,c2,c3⟩:=hck
      clear he hcA
      have q0:=(HBr.out.cell (p:=⟨w.heap.size,0,none⟩) hMw).trans (HX2.out 0 (by simp))
      have q1:=(HBr.out.cell (p:=⟨w.heap.size,1,none⟩) hMw).trans (HX2.out 1 (by simp))
      have q2:=(HBr.out.cell (p:=⟨w.heap.size,2,none⟩) hMw).trans (HX2.out 2 (by simp))
      have q3:=(HBr.out.cell (p:=⟨w.heap.size,3,none⟩) hMw).trans (HX2.out 3 (by simp))
      have q4:=(HBr.out.cell (p:=⟨w.heap.size,4,none⟩) hMw).trans (HX2.out 4 (by simp))
      simp only [List.getElem_cons_succ,List.getElem_cons_zero] at q0 q1 q2 q3 q4
      have lq:w.heap.size < wr.heap.size:=by omega
      subst hAe
      obtain ⟨n1,v1,d1,m1⟩:=e
      simp only at c0 c1 c2 c3
      have hlt':(k:Int) < (es.length:Int):=by omega
      have hfit:=fun W=>fits_any a b c d (.slice (some ⟨bA,oA,none⟩) es.length cap) ⟨n1,v1,d1,m1⟩ W
      unfold ev at hfit
      simp only at hfit
      have HFit:=hd' hfit
      clear hfit
      go_wp2_with fail
      obtain ⟨W3,hW3⟩:∃W3,W3=wr.alloc (.cells #[.string ⟨n1.toArray⟩,.int .i64 v1,.int .i64 d1,.int .i64 m1] 192):=⟨_,rfl⟩
      have HY3:=hd' (show Bx W3 wr.heap.size [.string ⟨n1.toArray⟩,.int .i64 v1,.int .i64 d1,.int .i64 m1] by rw [hW3];exact Bx.new' _ _ _ _ rfl)
      have HBW3:=hd' (show Below wr.heap.size wr W3 by rw [hW3];exact (Below.refl _ _).alloc (Nat.le_refl _) _)
      have hz3:wr.heap.size < W3.heap.size:=by rw [hW3];simp
      rw [←hW3]
      clear hW3 c0 c1 c2 c3 q0 q1 q2 q3 q4 lq
      refine (HFit.out W3).mono ?_
      rintro r w4 ⟨rfl,hb4⟩
      have HY4:=hd' (HY3.out.below hb4 hz3)
      have HB4:=hd' (HBW3.out.trans (hb4.mono (by omega)))
      have hz4:=hb4.size
      clear hb4
      cases hf:fitB a b c d ⟨n1,v1,d1,m1⟩ with
      | false =>
        have HV:=hd' (show tokB a b c d es=false from tokB_bad hlt (by rw [HGood.out,hf];rfl))
        have HB:=hd' (HB3.out.trans (HB4.out.mono (by omega)))
        clear hf
        go_wp2_with fail
        go_ret
        exact ⟨ret_bool (a:=false) HV.out.symm,HB.out⟩
      | true =>
      have HF:=hd' hf
      have HWf:=hd' (show WfD (d1,m1) from fit_wf HVec.out hf)
      have HUs:=hd' (deeds_wf HVec.out fun i h1 _=>HAll.out i h1)
      have y2:=HY4.out 2 (by simp)
      have y3:=HY4.out 3 (by simp)
      simp only [List.getElem_cons_succ,List.getElem_cons_zero] at y2 y3
      go_wp2_with fail
      obtain ⟨W5,hW5⟩:∃W5,W5=w4.alloc (.cells #[.int .i64 d1,.int .i64 m1] 190):=⟨_,rfl⟩
      have HOne:=hd' (show OneDeed W5 (some ⟨w4.heap.size,0,none⟩) (d1,m1) by rw [hW5];exact ⟨_,rfl,by simp,by simp⟩)
      have hbW5:Below w4.heap.size w4 W5:=by rw [hW5];exact (Below.refl _ _).alloc (Nat.le_refl _) _
      rw [←hW5]
      clear hW5 y2 y3 hf
      have HSet5:=hd' ((HSet.out.below HB4.out).below hbW5)
      have HY5:=hd' (HY4.out.below hbW5 (by omega))
      have HB5:=hd' (HB4.out.trans (hbW5.mono (by omega)))
      have hz5:=hbW5.size
      clear hbW5
      refine (hasD_any M _ v _ (d1,m1) W5 HSet5.out HUs.out HWf.out HOne.out).mono ?_
      rintro r w6 ⟨rfl,hb6⟩
      have HSet6:=hd' (HSet5.out.below hb6)
      have HY6:=hd' (HY5.out.below hb6 (by omega))
      have HB6:=hd' (HB5.out.trans (hb6.mono (by omega)))
      have hz6:=hb6.size
      clear hb6
      cases hin:inB ((es.take k).map deedOf) (d1,m1) with
      | true =>
        have HV:=hd' (show tokB a b c d es=false from tokB_bad hlt (by rw [HGood.out];show (_ && !inB _ (d1,m1) && _)=false;rw [hin];simp))
        have HB:=hd' (HB3.out.trans (HB6.out.mono (by omega)))
        clear hin
        have hft:fitB a b c d ⟨n1,v1,d1,m1⟩=true:=HF.out
        go_wp2_with fail
        go_ret
        exact ⟨ret_bool (a:=false) HV.out.symm,HB.out⟩
      | false =>
      have HIn:=hd' hin
      have HB36:=hd' (HB3.out.trans (HB6.out.mono (by omega)))
      have hft:fitB a b c d ⟨n1,v1,d1,m1⟩=true:=HF.out
      by_cases hk0:k=0
      · have HG:=hd' (show goodB a b c d es k=true by rw [HGood.out];show (fitB a b c d _ && !inB _ (d1,m1) && _)=true;rw [HF.out,HIn.out];simp [hk0])
        have hkz:¬ 0 < k:=by omega
        have hkd:decide (0 < k)=false:=by simp;omega
        clear hk0
        go_wp2_with fail
        refine wp_region_kept (by kernel_rfl) (by kernel_rfl) ?_
        repeat (go_big_quiet_step (fail))
        refine wpQuiet_nil ?_
        rintro _ ⟨x,rfl⟩
        clear hin hft hkz hkd
        obtain ⟨w7,hw7⟩:∃w7,w7=x.val:=⟨_,rfl⟩
        have hb7:Below w6.heap.size w6 w7:=by rw [hw7];exact x.ok
        rw [←hw7]
        clear hw7 x
        have HSet7:=hd' (HSet6.out.below hb7)
        have HY7:=hd' (HY6.out.below hb7 (by omega))
        have HB7:=hd' (HB6.out.trans (hb7.mono (by omega)))
        have hz7:=hb7.size
        clear hb7
        have y2:=HY7.out 2 (by simp)
        have y3:=HY7.out 3 (by simp)
        simp only [List.getElem_cons_succ,List.getElem_cons_zero] at y2 y3
        go_wp2_with fail
        obtain ⟨W8,hW8⟩:∃W8,W8=w7.alloc (.cells #[.int .i64 d1,.int .i64 m1] 190):=⟨_,rfl⟩
        have HOne8:=hd' (show OneDeed W8 (some ⟨w7.heap.size,0,none⟩) (d1,m1) by rw [hW8];exact ⟨_,rfl,by simp,by simp⟩)
        have hbW8:Below w7.heap.size w7 W8:=by rw [hW8];exact (Below.refl _ _).alloc (Nat.le_refl _) _
        rw [←hW8]
        clear hW8 y2 y3
        have HSet8:=hd' (HSet7.out.below hbW8)
        have HB8:=hd' (HB7.out.trans (hbW8.mono (by omega)))
        have hz8:=hbW8.size
        clear hbW8
        refine (addD_any M _ v _ (d1,m1) W8 HSet8.out HUs.out HWf.out HOne8.out (by simp;omega)).mono ?_
        rintro r w9 ⟨rfl,hset9,hb9,hs9⟩
        have HSet9:=hd' hset9
        have HB9:=hd' (HBr.out.trans ((HB8.out.mono (by omega)).trans hb9))
        clear hset9 hb9
        go_wp2_with fail
        go_roundw
        case rel =>
          obtain ⟨v',hv'⟩:=HSet9.out
          refine ⟨k+1,v',by omega,by go_num,fun j hj=>?_,?_,HB9.out,by omega⟩
          · by_cases e:j=k
            · rw [e];exact HG.out
            · exact HAll.out j (by omega)
          · have h1:addB ((es.take (k)).map deedOf) (d1,m1)=(es.take (k+1)).map deedOf:=by
              unfold addB
              rw [HIn.out,List.take_succ_eq_append_getElem hlt,List.map_append,←HE.out]
              rfl
            rw [←h1]
            exact hv'
        case measure=>simp [intOf];omega
      · obtain ⟨k',hkk⟩:∃k',k=k'+1:=⟨k - 1,by omega⟩
        subst hkk
        obtain ⟨e',he'⟩:∃e',e'=es[k']:=⟨_,rfl⟩
        have hck:=(HCs.out k' (by omega)).keep (w':=w6) fun o=>HB6.out.cell (by show bA < wr.heap.size;omega)
        rw [←he'] at hck
        have HPl:=hd' (show plaV (es.getD (k'+1 - 1) default) ⟨n1,v1,d1,m1⟩=plaV e' ⟨n1,v1,d1,m1⟩ by rw [he'];simp [show k' < es.length by omega])
        clear he' hk0
        obtain ⟨n2,v2,d2,m2⟩:=e'
        obtain ⟨c0,c1,c2,c3⟩:=hck
        simp only at c0 c1 c2 c3
        have hby:=fun W=>byPlace_any ⟨n2,v2,d2,m2⟩ ⟨n1,v1,d1,m1⟩ W
        obtain ⟨pl,hpl⟩:∃pl,pl=plaV ⟨n2,v2,d2,m2⟩ ⟨n1,v1,d1,m1⟩:=⟨_,rfl⟩
        rw [←hpl] at HPl hby
        unfold ev at hby
        simp only at hby
        have HBy:=hd' hby
        clear hpl hby
        have g0:=fun x:Kp w6=>x.cell c0
        have g1:=fun x:Kp w6=>x.cell c1
        have g2:=fun x:Kp w6=>x.cell c2
        have g3:=fun x:Kp w6=>x.cell c3
        have g4:=fun x:Kp w6=>x.cell (HY6.out 0 (by simp))
        have g5:=fun x:Kp w6=>x.cell (HY6.out 1 (by simp))
        have g6:=fun x:Kp w6=>x.cell (HY6.out 2 (by simp))
        have g7:=fun x:Kp w6=>x.cell (HY6.out 3 (by simp))
        have g8:=fun x:Kp w6=>x.cell ((HB6.out.cell (p:=⟨w.heap.size,4,none⟩) (by show w.heap.size < wr.heap.size;omega)).trans ((HBr.out.cell (p:=⟨w.heap.size,4,none⟩) hMw).trans (HX2.out 4 (by simp))))
        simp only [List.getElem_cons_succ,List.getElem_cons_zero] at g4 g5 g6 g7 g8
        have hk1:(0:Int) < (k':Int)+1:=by omega
        have hk2:(k':Int) < (es.length:Int):=by omega
        have hk3:(k':Int)≤1000:=by omega
        clear c0 c1 c2 c3
        by_cases hneg:pl < 0
        · have HG:=hd' (show goodB a b c d es (k'+1)=true by rw [HGood.out,HPl.out];show (fitB a b c d _ && !inB _ (d1,m1) && _)=true;rw [HF.out,HIn.out];simp [hneg])
          have hnn:¬ (0:Int)≤pl:=by omega
          go_wp2_with fail
          refine wp_region_kept (by kernel_rfl) (by kernel_rfl) ?_
          repeat (go_big_quiet_step ((go_at_call 186;exact kept_of (v:=.int .i64 pl) (HBy.out _))))
          refine wpQuiet_nil ?_
          rintro _ ⟨x,rfl⟩
          clear hin hft g0 g1 g2 g3 g4 g5 g6 g7 g8 hk1 hk2
          obtain ⟨w7,hw7⟩:∃w7,w7=x.val:=⟨_,rfl⟩
          have hb7:Below w6.heap.size w6 w7:=by rw [hw7];exact x.ok
          rw [←hw7]
          clear hw7 x
          have HSet7:=hd' (HSet6.out.below hb7)
          have HY7:=hd' (HY6.out.below hb7 (by omega))
          have HB7:=hd' (HB6.out.trans (hb7.mono (by omega)))
          have hz7:=hb7.size
          clear hb7
          have y2:=HY7.out 2 (by simp)
          have y3:=HY7.out 3 (by simp)
          simp only [List.getElem_cons_succ,List.getElem_cons_zero] at y2 y3
          go_wp2_with fail
          obtain ⟨W8,hW8⟩:∃W8,W8=w7.alloc (.cells #[.int .i64 d1,.int .i64 m1] 190):=⟨_,rfl⟩
          have HOne8:=hd' (show OneDeed W8 (some ⟨w7.heap.size,0,none⟩) (d1,m1) by rw [hW8];exact ⟨_,rfl,by simp,by simp⟩)
          have hbW8:Below w7.heap.size w7 W8:=by rw [hW8];exact (Below.refl _ _).alloc (Nat.le_refl _) _
          rw [←hW8]
          clear hW8 y2 y3
          have HSet8:=hd' (HSet7.out.below hbW8)
          have HB8:=hd' (HB7.out.trans (hbW8.mono (by omega)))
          have hz8:=hbW8.size
          clear hbW8
          refine (addD_any M _ v _ (d1,m1) W8 HSet8.out HUs.out HWf.out HOne8.out (by simp;omega)).mono ?_
          rintro r w9 ⟨rfl,hset9,hb9,hs9⟩
          have HSet9:=hd' hset9
          have HB9:=hd' (HBr.out.trans ((HB8.out.mono (by omega)).trans hb9))
          clear hset9 hb9
          go_wp2_with fail
          go_roundw
          case rel =>
            obtain ⟨v',hv'⟩:=HSet9.out
            refine ⟨k'+1+1,v',by omega,by go_num,fun j hj=>?_,?_,HB9.out,by omega⟩
            · by_cases e:j=k'+1
              · rw [e];exact HG.out
              · exact HAll.out j (by omega)
            · have h1:addB ((es.take (k'+1)).map deedOf) (d1,m1)=(es.take (k'+1+1)).map deedOf:=by
                unfold addB
                rw [HIn.out,List.take_succ_eq_append_getElem hlt,List.map_append,←HE.out]
                rfl
              rw [←h1]
              exact hv'
          case measure=>simp [intOf];omega
        · have HV:=hd' (show tokB a b c d es=false from tokB_bad hlt (by rw [HGood.out,HPl.out];simp;omega))
          have hnn:(0:Int)≤pl:=by omega
          go_wp2_with fail
          refine wp_region_kept (by kernel_rfl) (by kernel_rfl) ?_
          repeat (go_big_quiet_step ((go_at_call 186;exact kept_of (v:=.int .i64 pl) (HBy.out _))))
          refine wpQuiet_nil ?_
          rintro _ ⟨x,rfl⟩
          have HB:=hd' (HB36.out.trans (x.ok.mono (by omega)))
          clear g0 g1 g2 g3 g4 g5 g6 g7 g8
          go_wp2_with fail
          go_ret
          exact ⟨ret_bool (a:=false) HV.out.symm,HB.out⟩
    · have HT:=hd' (show tokB a b c d es=true from tokB_all HVec.out hle fun i hi=>HAll.out i (by omega))
      go_wp2_with fail
      go_ret
      exact ⟨ret_bool (a:=true) HT.out.symm,HB3.out⟩
end Go.Proofs.YtckajeippfpojaaGreat
