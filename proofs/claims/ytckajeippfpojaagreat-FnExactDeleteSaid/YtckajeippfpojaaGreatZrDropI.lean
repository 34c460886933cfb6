import Derived.Test.YtckajeippfpojaaGreatZrOut
import Derived.Test.YtckajeippfpojaaGreatZrThoseN
namespace Go.Proofs.YtckajeippfpojaaGreat
open Go.RowKit Go.Maps
def NewTrB (vec:List Int) (es:List En) (b:Bool) (w:World) (e:Ending) (w':World):Prop :=
  ∃AV cv A c,e=.returned (.tuple #[.agg #[.slice AV vec.length cv,.slice A es.length c],.bool b])∧TrOwn w' w.heap.size w'.heap.size AV vec A es∧w.heap.size < w'.heap.size∧Below w.heap.size w w'
def drVec (vec:List Int) (es:List En):List Int:=if treeB vec es then vec else []
def drEs (vec:List Int) (es:List En) (l:List UInt8):List En:=if treeB vec es then notName l es else []
def drOk (vec:List Int) (es:List En) (l:List UInt8):Bool:=treeB vec es && decide ((notName l es).length < es.length)
theorem treeB_len3 {vec:List Int} {es:List En} (h:treeB vec es=true):es.length≤12:=by
  unfold treeB at h
  simp only [Bool.and_eq_true,decide_eq_true_eq] at h
  exact h.1.1.2
theorem TrOwn.none (w:World) (L B:Nat) (h:L≤B):TrOwn w L B none [] none [] :=
  ⟨L,L,L,L,Nat.le_refl _,h,Nat.le_refl _,h,.inl (Nat.le_refl _),fun h=>absurd h (by simp),EnsOwn.nil⟩
theorem two_get {w:World} {b:Nat} {o0 o1 v0 v1:Value} (h0:w.cell? ⟨b,0,none⟩=some o0) (h1:w.cell? ⟨b,1,none⟩=some o1) :
    ((w.setCell ⟨b,0,none⟩ v0).setCell ⟨b,1,none⟩ v1).cell? ⟨b,0,none⟩=some v0∧((w.setCell ⟨b,0,none⟩ v0).setCell ⟨b,1,none⟩ v1).cell? ⟨b,1,none⟩=some v1 :=
  ⟨(World.cell?_setCell_other _ _ _ _ (by simp)).trans (World.cell?_setCell_same _ _ _ h0),World.cell?_setCell_same _ _ _ ((World.cell?_setCell_other _ _ _ _ (by simp)).trans h1)⟩
set_option maxRecDepth 100000 in
set_option maxHeartbeats 4000000 in
theorem implDrop_any (AV:Option Addr) (vec:List Int) (cv:Nat) (A:Option Addr) (es:List En) (c:Nat) (Ab:Option Addr) (l:List UInt8) (cb:Nat) (w:World) (hV:IntsIn w 0 w.heap.size AV vec) (hA:EnsIn w 0 w.heap.size A es) (_hv:vec.length≤1048576) (hn:es.length≤1048576) (hbk:ebulk es≤1048576) (hB:BytesIn w 0 w.heap.size Ab l) (_hl:l.length≤1048576) :
    Calls Tryz.prog 86 #[.agg #[.slice AV vec.length cv,.slice A es.length c],.slice Ab l.length cb] w (NewTrB (drVec vec es) (drEs vec es l) (drOk vec es l) w):=by
  have HV:=hd' hV
  have HA:=hd' hA
  have HB:=hd' hB
  have HLen:=hd' (@treeB_len3 vec es)
  have HD:=hd' (show drVec vec es=(if treeB vec es then vec else [])∧drEs vec es l=(if treeB vec es then notName l es else [])∧drOk vec es l=(treeB vec es && decide ((notName l es).length < es.length)) from ⟨rfl,rfl,rfl⟩)
  clear hV hA hB
  go_enter Tryz.func86,Tryz.ntmps86
  go_wp2_with fail
  obtain ⟨W0,hW0⟩:∃W0,W0=w.alloc (.cells #[.slice AV vec.length cv,.slice A es.length c] 38):=⟨_,rfl⟩
  obtain ⟨W,hW⟩:∃W,W=W0.alloc (.cells #[.slice none 0 0,.slice none 0 0] 38):=⟨_,rfl⟩
  have hz0:W0.heap.size=w.heap.size+1:=by rw [hW0];simp
  have hz:w.heap.size+1 < W.heap.size:=by rw [hW];simp [hz0]
  have HX:=hd' (show Bx W (w.heap.size+1) [.slice none 0 0,.slice none 0 0] by rw [hW,←hz0];exact Bx.new' _ _ _ _ rfl)
  have HF:=hd' (show ∀o,W.frozen? ⟨w.heap.size+1,o,none⟩=false from fun o=>by rw [hW,hW0];exact (((Fresh.refl w).alloc _ _).alloc _ _) ⟨w.heap.size+1,o,none⟩ (by show w.heap.size≤w.heap.size+1;omega))
  have HBel:=hd' (show Below w.heap.size w W by rw [hW,hW0];exact ((Below.refl _ _).alloc (Nat.le_refl _) _).alloc (by simp) _)
  rw [←hW0,←hW]
  clear hW hW0 hz0
  refine (readTree_any AV vec cv A es c W ((HV.out.keep fun p _ hp=>HBel.out.cell hp).mono (by omega)) ((HA.out.below HBel.out).mono (by omega)) hn hbk).mono ?_
  rintro e w1 ⟨x0,x1,x2,x3,A',n,c',rfl,htr,hb1⟩
  have HB1:=hd' (HBel.out.trans (hb1.mono (by omega)))
  have HX1:=hd' (HX.out.below hb1 hz)
  have HF1:=hd' (show ∀o,w1.frozen? ⟨w.heap.size+1,o,none⟩=false from fun o=>(hb1.frozen (p:=⟨w.heap.size+1,o,none⟩) hz).trans (HF.out o))
  have hz1:=hb1.size
  clear hb1
  obtain ⟨tb,htb⟩:∃tb,tb=treeB vec es:=⟨_,rfl⟩
  rw [←htb] at htr HD HLen ⊢
  clear htb
  have lw1:w.heap.size+1 < w1.heap.size:=by omega
  have r0:=HX1.out 0 (by simp)
  have r1:=HX1.out 1 (by simp)
  simp only [List.getElem_cons_succ,List.getElem_cons_zero] at r0 r1
  have f0:=HF1.out 0
  have f1:=HF1.out 1
  cases tb with
  | false =>
    obtain ⟨h1,h2,h3⟩:=HD.out
    have HN:=hd' (show drVec vec es=[]∧drEs vec es l=[]∧drOk vec es l=false from ⟨h1,h2,h3⟩)
    clear htr h1 h2 h3
    have hq:=two_get (v0:=.slice none 0 0) (v1:=.slice none 0 0) r0 r1
    have HB2:=hd' (show Below w.heap.size w ((w1.setCell ⟨w.heap.size+1,0,none⟩ (.slice none 0 0)).setCell ⟨w.heap.size+1,1,none⟩ (.slice none 0 0)) from (HB1.out.setCell (by simp) _).setCell (by simp) _)
    have HQ:=hd' hq
    clear hq
    go_wp2_with fail
    have hB3:=HB2.out.alloc (by simp;omega) (.cells #[.int .i64 x0,.int .i64 x1,.int .i64 x2,.int .i64 x3,.slice A' n c'] 101)
    have q0:=(World.cell?_alloc_lt ((w1.setCell ⟨w.heap.size+1,0,none⟩ (.slice none 0 0)).setCell ⟨w.heap.size+1,1,none⟩ (.slice none 0 0)) (.cells #[.int .i64 x0,.int .i64 x1,.int .i64 x2,.int .i64 x3,.slice A' n c'] 101) ⟨w.heap.size+1,0,none⟩ (by simp;omega)).trans HQ.out.1
    have q1:=(World.cell?_alloc_lt ((w1.setCell ⟨w.heap.size+1,0,none⟩ (.slice none 0 0)).setCell ⟨w.heap.size+1,1,none⟩ (.slice none 0 0)) (.cells #[.int .i64 x0,.int .i64 x1,.int .i64 x2,.int .i64 x3,.slice A' n c'] 101) ⟨w.heap.size+1,1,none⟩ (by simp;omega)).trans HQ.out.2
    have hsz:w.heap.size < (((w1.setCell ⟨w.heap.size+1,0,none⟩ (.slice none 0 0)).setCell ⟨w.heap.size+1,1,none⟩ (.slice none 0 0)).alloc (.cells #[.int .i64 x0,.int .i64 x1,.int .i64 x2,.int .i64 x3,.slice A' n c'] 101)).heap.size:=by simp;omega
    obtain ⟨W9,hW9⟩:∃W9,W9=((w1.setCell ⟨w.heap.size+1,0,none⟩ (.slice none 0 0)).setCell ⟨w.heap.size+1,1,none⟩ (.slice none 0 0)).alloc (.cells #[.int .i64 x0,.int .i64 x1,.int .i64 x2,.int .i64 x3,.slice A' n c'] 101):=⟨_,rfl⟩
    rw [←hW9] at q0 q1 hB3 hsz ⊢
    refine bodyPost_ret (v:=.tuple #[.agg #[.slice none 0 0,.slice none 0 0],.bool false]) (by simp [results,Tryz.results86,q0,q1,go_sem]) rfl ?_
    obtain ⟨h1,h2,h3⟩:=HN.out
    rw [h1,h2,h3]
    exact ⟨none,0,none,0,rfl,TrOwn.none _ _ _ (by omega),hsz,hB3⟩
  | true =>
  obtain ⟨hvx,rfl,hev⟩:=htr rfl
  have hl12:=HLen.out rfl
  have HE:=hd' hev
  obtain ⟨h1,h2,h3⟩:=HD.out
  have HN:=hd' (show drVec vec es=[x0,x1,x2,x3]∧drEs vec es l=notName l es∧drOk vec es l=decide ((notName l es).length < es.length) from ⟨h1.trans hvx,h2,h3⟩)
  clear htr hev HD HLen h1 h2 h3 hvx
  go_wp2_with fail
  obtain ⟨W2,hW2⟩:∃W2,W2=w1.alloc (.cells #[.int .i64 x0,.int .i64 x1,.int .i64 x2,.int .i64 x3,.slice A' es.length c'] 101):=⟨_,rfl⟩
  have HY:=hd' (show Bx W2 w1.heap.size [.int .i64 x0,.int .i64 x1,.int .i64 x2,.int .i64 x3,.slice A' es.length c'] by rw [hW2];exact Bx.new' _ _ _ _ rfl)
  have HYF:=hd' (show ∀o,W2.frozen? ⟨w1.heap.size,o,none⟩=false from fun o=>by rw [hW2];exact ((Fresh.refl w1).alloc _ _) ⟨w1.heap.size,o,none⟩ (Nat.le_refl _))
  have hb2:Below w1.heap.size w1 W2:=by rw [hW2];exact (Below.refl _ _).alloc (Nat.le_refl _) _
  have hz2:w1.heap.size < W2.heap.size:=by rw [hW2];simp
  have HE2:=hd' (HE.out.below hb2)
  have HB2:=hd' (HB1.out.trans (hb2.mono (by omega)))
  have HX2:=hd' (HX1.out.below hb2 lw1)
  have HF2:=hd' (show ∀o,W2.frozen? ⟨w.heap.size+1,o,none⟩=false from fun o=>(hb2.frozen (p:=⟨w.heap.size+1,o,none⟩) lw1).trans (HF1.out o))
  rw [←hW2]
  clear hW2 hb2 r0 r1 f0 f1 HF1 HX1 HF HX
  refine (notNamed_any x0 x1 x2 x3 A' es c' Ab l cb W2 ((HE2.out.low (by omega)).mono (by omega)) hl12 ((HB.out.keep fun p _ hp=>HB2.out.cell hp).mono (by omega))).mono ?_
  rintro r w3 ⟨A3,c3,rfl,hev3,hb3⟩
  have HE3:=hd' hev3
  have HB3:=hd' (HB2.out.trans (hb3.mono (by omega)))
  have HY3:=hd' (HY.out.below hb3 hz2)
  have HYF3:=hd' (show ∀o,w3.frozen? ⟨w1.heap.size,o,none⟩=false from fun o=>(hb3.frozen (p:=⟨w1.heap.size,o,none⟩) hz2).trans (HYF.out o))
  have HX3:=hd' (HX2.out.below hb3 (by omega))
  have HF3:=hd' (show ∀o,w3.frozen? ⟨w.heap.size+1,o,none⟩=false from fun o=>(hb3.frozen (p:=⟨w.heap.size+1,o,none⟩) (by show w.heap.size+1 < W2.heap.size;omega)).trans (HF2.out o))
  have hz3:=hb3.size
  clear hev3 hb3
  have y0:=HY3.out 0 (by simp)
  have y1:=HY3.out 1 (by simp)
  have y2:=HY3.out 2 (by simp)
  have y3:=HY3.out 3 (by simp)
  have y4:=HY3.out 4 (by simp)
  simp only [List.getElem_cons_succ,List.getElem_cons_zero] at y0 y1 y2 y3 y4
  have yf:=HYF3.out 4
  go_wp2_with fail
  have hnl:(notName l es).length≤es.length:=notName_le l es
  have hW4a:=World.cell?_setCell_same w3 ⟨w1.heap.size,4,none⟩ (.slice A3 (notName l es).length c3) y4
  have hW4:∀o,o≠4→(w3.setCell ⟨w1.heap.size,4,none⟩ (.slice A3 (notName l es).length c3)).cell? ⟨w1.heap.size,o,none⟩=w3.cell? ⟨w1.heap.size,o,none⟩:=fun o ho=>World.cell?_setCell_other _ _ _ _ (fun e=>ho (congrArg Addr.off e).symm)
  have hW4x:∀p:Addr,p.block≠w1.heap.size→(w3.setCell ⟨w1.heap.size,4,none⟩ (.slice A3 (notName l es).length c3)).cell? p=w3.cell? p:=fun p hp=>World.cell?_setCell_other _ _ _ _ (fun e=>hp (by rw [←e]))
  have hW4f:∀p:Addr,(w3.setCell ⟨w1.heap.size,4,none⟩ (.slice A3 (notName l es).length c3)).frozen? p=w3.frozen? p:=fun p=>World.frozen?_setCell _ _ _ _
  have hb4:Below w1.heap.size w3 (w3.setCell ⟨w1.heap.size,4,none⟩ (.slice A3 (notName l es).length c3)):=(Below.refl _ _).setCell (show w1.heap.size≤w1.heap.size from Nat.le_refl _) _
  obtain ⟨W4,hW4n⟩:∃W4,W4=w3.setCell ⟨w1.heap.size,4,none⟩ (.slice A3 (notName l es).length c3):=⟨_,rfl⟩
  have hz4:W4.heap.size=w3.heap.size:=by rw [hW4n];simp
  rw [←hW4n] at hW4a hW4 hW4x hW4f hb4 ⊢
  have t0:=(hW4 0 (by omega)).trans y0
  have t1:=(hW4 1 (by omega)).trans y1
  have t2:=(hW4 2 (by omega)).trans y2
  have t3:=(hW4 3 (by omega)).trans y3
  have t4:=hW4a
  have HE4:=hd' (show EvsIn W4 0 w3.heap.size A3 (notName l es) from (HE3.out.keep fun p hp _=>hW4x p (by omega)).low (Nat.zero_le _))
  have HB4:=hd' (HB3.out.trans (hb4.mono (by omega)))
  have HX4:=hd' (HX3.out.below hb4 lw1)
  have HF4:=hd' (show ∀o,W4.frozen? ⟨w.heap.size+1,o,none⟩=false from fun o=>(hW4f _).trans (HF3.out o))
  have hz34:w3.heap.size≤W4.heap.size:=by omega
  have l1:w1.heap.size < W4.heap.size:=by omega
  have l2:w.heap.size+1 < W4.heap.size:=by omega
  have lne:w1.heap.size≠w.heap.size+1:=by omega
  clear hW4a hW4 hW4x hW4f hb4 hW4n hz4 y0 y1 y2 y3 y4 yf HE HE2 HE3 HY HY3 HYF HYF3 HX2 HX3 HF2 HF3 HV HA HB HB1 HB2 HB3 HBel
  obtain ⟨F,hF⟩:∃F,F=notName l es:=⟨_,rfl⟩
  rw [←hF] at HE4 t4 hnl HN ⊢
  clear hF
  have hFl:F.length≤1000:=by omega
  go_wp2_with fail
  go_region_held3 (fun X=>X.cell? ⟨w1.heap.size,0,none⟩=some (.int .i64 x0)∧X.cell? ⟨w1.heap.size,1,none⟩=some (.int .i64 x1)∧X.cell? ⟨w1.heap.size,2,none⟩=some (.int .i64 x2)∧X.cell? ⟨w1.heap.size,3,none⟩=some (.int .i64 x3)∧X.cell? ⟨w1.heap.size,4,none⟩=some (.slice A3 F.length c3))
    (first|with_reducible exact ⟨t0,t1,t2,t3,t4⟩|with_reducible exact ⟨s0,s1,s2,s3,s4⟩|with_reducible exact ⟨((cell_other lne).trans (cell_other lne)).trans s0,((cell_other lne).trans (cell_other lne)).trans s1,((cell_other lne).trans (cell_other lne)).trans s2,((cell_other lne).trans (cell_other lne)).trans s3,((cell_other lne).trans (cell_other lne)).trans s4⟩|with_reducible exact ⟨(cell_drew _ _).trans t0,(cell_drew _ _).trans t1,(cell_drew _ _).trans t2,(cell_drew _ _).trans t3,(cell_drew _ _).trans t4⟩)
    (first
      | (go_at_call 125
         refine (out_any x0 x1 x2 x3 A3 F c3 _ ?_ hFl).mono ?_
         · exact (HE4.out.keep fun p _ hp=>rfl).mono hz34
         rintro r wt ⟨AV4,cv4,A4,c4,rfl,htr,hlt4,hbt⟩
         have hbrt:Below W4.heap.size W4 wt:=by first|with_reducible exact hbt|exact (Below.refl W4.heap.size W4).drew.trans hbt
         have s0:=(hbrt.cell (p:=⟨w1.heap.size,0,none⟩) l1).trans t0
         have s1:=(hbrt.cell (p:=⟨w1.heap.size,1,none⟩) l1).trans t1
         have s2:=(hbrt.cell (p:=⟨w1.heap.size,2,none⟩) l1).trans t2
         have s3:=(hbrt.cell (p:=⟨w1.heap.size,3,none⟩) l1).trans t3
         have s4:=(hbrt.cell (p:=⟨w1.heap.size,4,none⟩) l1).trans t4
         have q0:=(hbrt.cell (p:=⟨w.heap.size+1,0,none⟩) l2).trans (HX4.out 0 (by simp))
         have q1:=(hbrt.cell (p:=⟨w.heap.size+1,1,none⟩) l2).trans (HX4.out 1 (by simp))
         simp only [List.getElem_cons_succ,List.getElem_cons_zero] at q0 q1
         have qf0:=(hbrt.frozen (p:=⟨w.heap.size+1,0,none⟩) l2).trans (HF4.out 0)
         have qf1:=(hbrt.frozen (p:=⟨w.heap.size+1,1,none⟩) l2).trans (HF4.out 1)
         have HTr4:=hd' (show TrOwn wt W4.heap.size wt.heap.size AV4 [x0,x1,x2,x3] A4 F from htr)
         have HRt:=hd' (HB4.out.trans (hbrt.mono (by omega)))
         have hzt:=hbrt.size
         clear hbrt hbt htr hlt4))
  obtain ⟨g0,g1⟩:=two_get (v0:=.slice AV4 4 cv4) (v1:=.slice A4 F.length c4) q0 q1
  have hB9:Below w.heap.size w ((wt.setCell ⟨w.heap.size+1,0,none⟩ (.slice AV4 4 cv4)).setCell ⟨w.heap.size+1,1,none⟩ (.slice A4 F.length c4)):=(HRt.out.setCell (by simp) _).setCell (by simp) _
  have hT9:TrOwn ((wt.setCell ⟨w.heap.size+1,0,none⟩ (.slice AV4 4 cv4)).setCell ⟨w.heap.size+1,1,none⟩ (.slice A4 F.length c4)) W4.heap.size wt.heap.size AV4 [x0,x1,x2,x3] A4 F:=HTr4.out.keep fun p hp _=>two_other (by omega)
  have hs9:((wt.setCell ⟨w.heap.size+1,0,none⟩ (.slice AV4 4 cv4)).setCell ⟨w.heap.size+1,1,none⟩ (.slice A4 F.length c4)).heap.size=wt.heap.size:=by simp
  obtain ⟨W9,hW9⟩:∃W9,W9=(wt.setCell ⟨w.heap.size+1,0,none⟩ (.slice AV4 4 cv4)).setCell ⟨w.heap.size+1,1,none⟩ (.slice A4 F.length c4):=⟨_,rfl⟩
  rw [←hW9] at g0 g1 hB9 hT9 hs9 ⊢
  have HT9:=hd' (hT9.mono (show w.heap.size≤W4.heap.size by omega) (show wt.heap.size≤W9.heap.size by omega))
  have hlt9:w.heap.size < W9.heap.size:=by omega
  have HB9:=hd' hB9
  clear hW9 hB9 hT9 hs9 q0 q1 s0 s1 s2 s3 s4 t0 t1 t2 t3 t4
  go_wp2_with fail
  refine bodyPost_ret (v:=.tuple #[.agg #[.slice AV4 4 cv4,.slice A4 F.length c4],.bool (decide (F.length < es.length))]) (by simp [results,Tryz.results86,g0,g1,go_sem]) rfl ?_
  obtain ⟨h1,h2,h3⟩:=HN.out
  rw [h1,h2,h3]
  exact ⟨AV4,cv4,A4,c4,rfl,HT9.out,hlt9,HB9.out⟩
end Go.Proofs.YtckajeippfpojaaGreat
