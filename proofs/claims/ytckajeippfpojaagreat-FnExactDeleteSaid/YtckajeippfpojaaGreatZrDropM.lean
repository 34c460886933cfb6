import Derived.Test.YtckajeippfpojaaGreatZrGOw
import Derived.Deep.CutRange
namespace Go.Proofs.YtckajeippfpojaaGreat
open Go.RowKit Go.Maps
theorem treeB_np {vec:List Int} {es:List En} (h:treeB vec es=true) (l:List UInt8):∀i (hi:i < (notName l es).length),0 < (notName l es)[i].name.length:=by
  intro i hi
  have hm:(notName l es)[i]∈es:=(List.mem_filter.1 (List.getElem_mem hi)).1
  obtain ⟨j,hj,he⟩:=List.getElem_of_mem hm
  rw [←he]
  exact treeB_names h j hj
theorem ebulk_filter (es:List En) (p:En→Bool):ebulk (es.filter p)≤ebulk es:=by
  induction es with
  | nil=>simp [ebulk]
  | cons e es ih =>
    by_cases h:p e
    · simp [h,ebulk];omega
    · simp [h,ebulk];omega
theorem drVec_len {vec:List Int} {es:List En} (h:vec.length≤1048576):(drVec vec es).length≤1048576:=by
  unfold drVec
  split
  · exact h
  · simp
theorem drEs_len {vec:List Int} {es:List En} {l:List UInt8} (h:es.length≤1048576):(drEs vec es l).length≤1048576:=by
  unfold drEs
  split
  · exact Nat.le_trans (notName_le _ _) h
  · simp
theorem drEs_bulk {vec:List Int} {es:List En} {l:List UInt8} (h:ebulk es≤1048576):ebulk (drEs vec es l)≤1048576:=by
  unfold drEs
  split
  · exact Nat.le_trans (ebulk_filter _ _) h
  · simp [ebulk]
theorem new2_cells {X wt:World} {v0 v1:Value} {t:TypeId} (h:Below (X.alloc (.cells #[v0,v1] t)).heap.size (X.alloc (.cells #[v0,v1] t)) wt) :
    wt.cell? ⟨X.heap.size,0,none⟩=some v0∧wt.cell? ⟨X.heap.size,1,none⟩=some v1∧wt.frozen? ⟨X.heap.size,0,none⟩=false∧wt.frozen? ⟨X.heap.size,1,none⟩=false:=by
  have hl:∀o,(⟨X.heap.size,o,none⟩:Addr).block < (X.alloc (.cells #[v0,v1] t)).heap.size:=fun o=>by simp
  have hf:∀o,(X.alloc (.cells #[v0,v1] t)).frozen? ⟨X.heap.size,o,none⟩=false:=fun o=>((Fresh.refl X).alloc _ _) ⟨X.heap.size,o,none⟩ (Nat.le_refl _)
  exact ⟨(h.cell (hl 0)).trans (by simp),(h.cell (hl 1)).trans (by simp),(h.frozen (hl 0)).trans (hf 0),(h.frozen (hl 1)).trans (hf 1)⟩
theorem new2_drew {X wt:World} {v0 v1:Value} {t:TypeId} (h:Below (X.alloc (.cells #[v0,v1] t)).drew.heap.size (X.alloc (.cells #[v0,v1] t)).drew wt) :
    wt.cell? ⟨X.heap.size,0,none⟩=some v0∧wt.cell? ⟨X.heap.size,1,none⟩=some v1∧wt.frozen? ⟨X.heap.size,0,none⟩=false∧wt.frozen? ⟨X.heap.size,1,none⟩=false :=
  new2_cells ((Below.refl _ _).drew.trans h)
theorem treeB_vec {vec:List Int} {es:List En} (h:treeB vec es=true):∃a b c d,vec=[a,b,c,d]:=by
  unfold treeB at h
  simp only [Bool.and_eq_true] at h
  exact vecB_four h.1.1.1
set_option maxRecDepth 100000 in
set_option maxHeartbeats 4000000 in
theorem specDrop_any (AV:Option Addr) (vec:List Int) (cv:Nat) (A:Option Addr) (es:List En) (c:Nat) (Ab:Option Addr) (l:List UInt8) (cb:Nat) (w:World) (hV:IntsIn w 0 w.heap.size AV vec) (hA:EnsIn w 0 w.heap.size A es) (hv:vec.length≤1048576) (hn:es.length≤1048576) (hbk:ebulk es≤1048576) (hB:BytesIn w 0 w.heap.size Ab l) (_hl:l.length≤1048576) (hc:es.length≤c:=by omega) :
    Calls Tryz.prog 85 #[.agg #[.slice AV vec.length cv,.slice A es.length c],.slice Ab l.length cb] w (NewTrB (drVec vec es) (drEs vec es l) (drOk vec es l) w):=by
  have HV:=hd' hV
  have HA:=hd' hA
  have HB:=hd' hB
  have HLen:=hd' (@treeB_len3 vec es)
  have HNp:=hd' (fun h=>@treeB_np vec es h l)
  have HVf:=hd' (@treeB_vec vec es)
  have HD:=hd' (show drVec vec es=(if treeB vec es then vec else [])∧drEs vec es l=(if treeB vec es then notName l es else [])∧drOk vec es l=(treeB vec es && decide ((notName l es).length < es.length)) from ⟨rfl,rfl,rfl⟩)
  clear hV hA hB
  go_enter Tryz.func85,Tryz.ntmps85
  go_wp2_with fail
  obtain ⟨W0,hW0⟩:∃W0,W0=w.alloc (.cells #[.slice AV vec.length cv,.slice A es.length c] 38):=⟨_,rfl⟩
  obtain ⟨W,hW⟩:∃W,W=W0.alloc (.cells #[.slice none 0 0,.slice none 0 0] 38):=⟨_,rfl⟩
  have hz0:W0.heap.size=w.heap.size+1:=by rw [hW0];simp
  have hz:w.heap.size+1 < W.heap.size:=by rw [hW];simp [hz0]
  have HY:=hd' (show Bx W w.heap.size [.slice AV vec.length cv,.slice A es.length c] by rw [hW];exact Bx.alloc (by rw [hW0];exact Bx.new' _ _ _ _ rfl) (by omega) _)
  have HX:=hd' (show Bx W (w.heap.size+1) [.slice none 0 0,.slice none 0 0] by rw [hW,←hz0];exact Bx.new' _ _ _ _ rfl)
  have HF:=hd' (show ∀o,W.frozen? ⟨w.heap.size+1,o,none⟩=false from fun o=>by rw [hW,hW0];exact (((Fresh.refl w).alloc _ _).alloc _ _) ⟨w.heap.size+1,o,none⟩ (by show w.heap.size≤w.heap.size+1;omega))
  have HBel:=hd' (show Below w.heap.size w W by rw [hW,hW0];exact ((Below.refl _ _).alloc (Nat.le_refl _) _).alloc (by simp) _)
  rw [←hW0,←hW]
  clear hW hW0 hz0
  refine (specTreeOk_any AV vec cv A es c W ((HV.out.keep fun p _ hp=>HBel.out.cell hp).mono (by omega)) ((HA.out.below HBel.out).mono (by omega)) hv hn hbk hc).mono ?_
  rintro e w1 ⟨rfl,hb1⟩
  have HB1:=hd' (HBel.out.trans (hb1.mono (by omega)))
  have HX1:=hd' (HX.out.below hb1 hz)
  have HY1:=hd' (HY.out.below hb1 (by omega))
  have HF1:=hd' (show ∀o,w1.frozen? ⟨w.heap.size+1,o,none⟩=false from fun o=>(hb1.frozen (p:=⟨w.heap.size+1,o,none⟩) hz).trans (HF.out o))
  have hz1:=hb1.size
  clear hb1
  obtain ⟨tb,htb⟩:∃tb,tb=treeB vec es:=⟨_,rfl⟩
  rw [←htb] at HD HLen HNp HVf ⊢
  clear htb
  have lw1:w.heap.size+1 < w1.heap.size:=by omega
  have r0:=HX1.out 0 (by simp)
  have r1:=HX1.out 1 (by simp)
  have y0:=HY1.out 0 (by simp)
  have y1:=HY1.out 1 (by simp)
  simp only [List.getElem_cons_succ,List.getElem_cons_zero] at r0 r1 y0 y1
  have f0:=HF1.out 0
  have f1:=HF1.out 1
  cases tb with
  | false =>
    obtain ⟨h1,h2,h3⟩:=HD.out
    have HN:=hd' (show drVec vec es=[]∧drEs vec es l=[]∧drOk vec es l=false from ⟨h1,h2,h3⟩)
    clear h1 h2 h3
    have HQ:=hd' (two_get (v0:=.slice none 0 0) (v1:=.slice none 0 0) r0 r1)
    have HB2:=hd' (show Below w.heap.size w ((w1.setCell ⟨w.heap.size+1,0,none⟩ (.slice none 0 0)).setCell ⟨w.heap.size+1,1,none⟩ (.slice none 0 0)) from (HB1.out.setCell (by simp) _).setCell (by simp) _)
    go_wp2_with fail
    have hB3:=HB2.out
    obtain ⟨q0,q1⟩:=HQ.out
    have hsz:w.heap.size < ((w1.setCell ⟨w.heap.size+1,0,none⟩ (.slice none 0 0)).setCell ⟨w.heap.size+1,1,none⟩ (.slice none 0 0)).heap.size:=by simp;omega
    obtain ⟨W9,hW9⟩:∃W9,W9=(w1.setCell ⟨w.heap.size+1,0,none⟩ (.slice none 0 0)).setCell ⟨w.heap.size+1,1,none⟩ (.slice none 0 0):=⟨_,rfl⟩
    rw [←hW9] at q0 q1 hB3 hsz ⊢
    refine bodyPost_ret (v:=.tuple #[.agg #[.slice none 0 0,.slice none 0 0],.bool false]) (by simp [results,Tryz.results85,q0,q1,go_sem]) rfl ?_
    obtain ⟨h1,h2,h3⟩:=HN.out
    rw [h1,h2,h3]
    exact ⟨none,0,none,0,rfl,TrOwn.none _ _ _ (by omega),hsz,hB3⟩
  | true =>
  have hl12:=HLen.out rfl
  obtain ⟨x0,x1,x2,x3,hvx⟩:=HVf.out rfl
  have hnp:=HNp.out rfl
  obtain ⟨h1,h2,h3⟩:=HD.out
  have HN:=hd' (show drVec vec es=vec∧drEs vec es l=notName l es∧drOk vec es l=decide ((notName l es).length < es.length) from ⟨h1,h2,h3⟩)
  have HN2:=hd' hnp
  subst hvx
  clear HD HLen HNp HVf h1 h2 h3 hnp
  have hwo:=fun (x:World) hA h0 hB=>l3without_any A es c Ab l cb w.heap.size x hA h0 (by omega) hB
  have HWo:=hd' hwo
  have HEi:=hd' (show EnsIn w1 0 w.heap.size A es from HA.out.below HB1.out)
  have HBi:=hd' (show BytesIn w1 0 w1.heap.size Ab l from (HB.out.keep fun p _ hp=>HB1.out.cell hp).mono (by omega))
  have lw:w.heap.size < w1.heap.size:=by omega
  have hvl:[x0,x1,x2,x3].length=4:=rfl
  simp only [List.length_cons,List.length_nil] at y0
  clear hwo
  have HCell:=hd' (show ∀X,Below w1.heap.size w1 X→X.cell? ⟨w.heap.size,0,none⟩=some (.slice AV 4 cv)∧X.cell? ⟨w.heap.size,1,none⟩=some (.slice A es.length c) from fun X hX=>⟨(hX.cell (p:=⟨w.heap.size,0,none⟩) lw).trans y0,(hX.cell (p:=⟨w.heap.size,1,none⟩) lw).trans y1⟩)
  go_upto_region 3 with fail
  go_cut [6] from 7 to 17 (fun s6 wx=>∃(b:Nat) (A4:Option Addr) (c4:Nat),s6=.pointer (some ⟨b,0,none⟩)∧w1.heap.size≤b∧b < wx.heap.size∧wx.cell? ⟨b,0,none⟩=some (.slice AV 4 cv)∧wx.cell? ⟨b,1,none⟩=some (.slice A4 (notName l es).length c4)∧(notName l es).length≤c4∧EnsIn wx 0 wx.heap.size A4 (notName l es)∧Below w1.heap.size w1 wx)
  case first =>
    go_region_held3 (fun X=>X.cell? ⟨w.heap.size,0,none⟩=some (.slice AV 4 cv)∧X.cell? ⟨w.heap.size,1,none⟩=some (.slice A es.length c))
      (first|(refine HCell.out _ ?_;repeat first|with_reducible refine Below.setCell ?_ (by first|exact Nat.le_refl _|(simp;done)|(simp;omega)|omega) _|with_reducible exact Below.refl _ _|with_reducible exact hbrt|with_reducible apply Below.drew|with_reducible refine Below.alloc ?_ (by first|exact Nat.le_refl _|(simp;done)|(simp;omega)|omega) _))
      (first
        | (go_at_call 146
           refine (HWo.out _ ?_ ?_ ?_).mono ?_
           · exact HEi.out.keep fun p _ hp=>by first|rfl|exact World.cell?_alloc_lt _ _ _ (by omega)
           · first|omega|(simp;omega)
           · exact (HBi.out.keep fun p _ hp=>by first|rfl|exact World.cell?_alloc_lt _ _ _ (by omega)).mono (by first|exact Nat.le_refl _|(simp;done)|(simp;omega))
           rintro r wt ⟨A4,c4,rfl,hc4,hwot,hbt⟩
           have hbrt:Below w1.heap.size w1 wt:=Below.trans (by repeat first|with_reducible exact Below.refl _ _|with_reducible apply Below.drew|with_reducible refine Below.alloc ?_ (by first|exact Nat.le_refl _|(simp;done)|(simp;omega)|omega) _) (hbt.mono (by first|exact Nat.le_refl _|(simp;done)|(simp;omega)))
           have hzt:=hbrt.size
           try (have hq:=new2_drew hbt;obtain ⟨q0,q1,qf0,qf1⟩:=hq)
           have HWt:=hd' hwot))
    all_goals go_wp2_with fail
    all_goals go_meet
    all_goals first
      | exact ⟨wt.heap.size,A4,c4,rfl,hzt,by simp,by simp,by simp,hc4,((HWt.out.ens (by omega)).keep fun p _ hp=>World.cell?_alloc_lt _ _ _ hp).mono (by simp),hbrt.alloc hzt _⟩
      | exact ⟨w1.heap.size,A4,c4,rfl,Nat.le_refl _,by have:=World.block_lt_of_cell? wt _ q0;simpa using this,(two_get q0 q1).1,(two_get q0 q1).2,hc4,((HWt.out.keep (w':=(wt.setCell ⟨w1.heap.size,0,none⟩ (.slice AV 4 cv)).setCell ⟨w1.heap.size,1,none⟩ (.slice A4 (notName l es).length c4)) (by simp) fun p hp=>(two_other (by simp at hp;omega)).1).ens (by simp;omega)),(hbrt.setCell (Nat.le_refl _) _).setCell (Nat.le_refl _) _⟩
  case rest =>
  obtain ⟨b,A4,c4,rfl,hb1,hb2,t0,t1,hc4,hen,hbw⟩:=hcut
  rename World=>W4
  have HE4:=hd' hen
  have HV4:=hd' (show IntsIn W4 0 W4.heap.size AV [x0,x1,x2,x3] from (HV.out.keep fun p _ hp=>(hbw.cell (by omega)).trans (HB1.out.cell hp)).mono (by have:=hbw.size;omega))
  have HB4:=hd' (HB1.out.trans (hbw.mono (by omega)))
  have HX4:=hd' (HX1.out.below hbw lw1)
  have HF4:=hd' (show ∀o,W4.frozen? ⟨w.heap.size+1,o,none⟩=false from fun o=>(hbw.frozen (p:=⟨w.heap.size+1,o,none⟩) lw1).trans (HF1.out o))
  have u1:=(hbw.cell (p:=⟨w.heap.size,1,none⟩) lw).trans y1
  have hz4:=hbw.size
  have l1:b < W4.heap.size:=hb2
  have l2:w.heap.size+1 < W4.heap.size:=by omega
  have l3:w.heap.size < W4.heap.size:=by omega
  have lne:b≠w.heap.size+1:=by omega
  have lne2:w.heap.size≠w.heap.size+1:=by omega
  have HBk:=hd' (show ebulk (notName l es)≤1048576 from Nat.le_trans (ebulk_filter _ _) hbk)
  have hnl:(notName l es).length≤es.length:=notName_le l es
  clear hen hbw y0 y1 r0 r1 f0 f1 HCell HWo HEi HBi HX1 HF1 HF HX HY HY1 hvl HA HB HV
  obtain ⟨F,hF⟩:∃F,F=notName l es:=⟨_,rfl⟩
  rw [←hF] at HE4 t1 hnl hc4 HN HN2 HBk
  clear hF
  have hF12:F.length≤12:=by omega
  go_wp2_with fail
  go_region_held3 (fun X=>X.cell? ⟨b,0,none⟩=some (.slice AV 4 cv)∧X.cell? ⟨b,1,none⟩=some (.slice A4 F.length c4)∧X.cell? ⟨w.heap.size,1,none⟩=some (.slice A es.length c))
    (first|with_reducible exact ⟨t0,t1,u1⟩|with_reducible exact ⟨s0,s1,s2⟩|with_reducible exact ⟨((cell_other lne).trans (cell_other lne)).trans s0,((cell_other lne).trans (cell_other lne)).trans s1,((cell_other lne2).trans (cell_other lne2)).trans s2⟩|with_reducible exact ⟨(cell_drew _ _).trans t0,(cell_drew _ _).trans t1,(cell_drew _ _).trans u1⟩)
    (first
      | (go_at_call 112
         refine (l3own_any AV x0 x1 x2 x3 cv A4 F c4 _ ?_ ?_ hF12 HN2.out HBk.out).mono ?_
         · exact HV4.out.keep fun p _ hp=>rfl
         · exact HE4.out.keep fun p _ hp=>rfl
         rintro r wt ⟨AV5,cv5,A5,c5,rfl,htr,hlt5,hbt⟩
         have hbrt:Below W4.heap.size W4 wt:=by first|with_reducible exact hbt|exact (Below.refl W4.heap.size W4).drew.trans hbt
         have s0:=(hbrt.cell (p:=⟨b,0,none⟩) l1).trans t0
         have s1:=(hbrt.cell (p:=⟨b,1,none⟩) l1).trans t1
         have s2:=(hbrt.cell (p:=⟨w.heap.size,1,none⟩) l3).trans u1
         have q0:=(hbrt.cell (p:=⟨w.heap.size+1,0,none⟩) l2).trans (HX4.out 0 (by simp))
         have q1:=(hbrt.cell (p:=⟨w.heap.size+1,1,none⟩) l2).trans (HX4.out 1 (by simp))
         simp only [List.getElem_cons_succ,List.getElem_cons_zero] at q0 q1
         have qf0:=(hbrt.frozen (p:=⟨w.heap.size+1,0,none⟩) l2).trans (HF4.out 0)
         have qf1:=(hbrt.frozen (p:=⟨w.heap.size+1,1,none⟩) l2).trans (HF4.out 1)
         have HTr4:=hd' (show TrOwn wt W4.heap.size wt.heap.size AV5 [x0,x1,x2,x3] A5 F from htr)
         have HRt:=hd' (HB4.out.trans (hbrt.mono (by omega)))
         have hzt:=hbrt.size
         clear hbrt hbt htr hlt5))
  obtain ⟨g0,g1⟩:=two_get (v0:=.slice AV5 4 cv5) (v1:=.slice A5 F.length c5) q0 q1
  have hB9:Below w.heap.size w ((wt.setCell ⟨w.heap.size+1,0,none⟩ (.slice AV5 4 cv5)).setCell ⟨w.heap.size+1,1,none⟩ (.slice A5 F.length c5)):=(HRt.out.setCell (by simp) _).setCell (by simp) _
  have hT9:TrOwn ((wt.setCell ⟨w.heap.size+1,0,none⟩ (.slice AV5 4 cv5)).setCell ⟨w.heap.size+1,1,none⟩ (.slice A5 F.length c5)) W4.heap.size wt.heap.size AV5 [x0,x1,x2,x3] A5 F:=HTr4.out.keep fun p hp _=>two_other (by omega)
  have hs9:((wt.setCell ⟨w.heap.size+1,0,none⟩ (.slice AV5 4 cv5)).setCell ⟨w.heap.size+1,1,none⟩ (.slice A5 F.length c5)).heap.size=wt.heap.size:=by simp
  obtain ⟨W9,hW9⟩:∃W9,W9=(wt.setCell ⟨w.heap.size+1,0,none⟩ (.slice AV5 4 cv5)).setCell ⟨w.heap.size+1,1,none⟩ (.slice A5 F.length c5):=⟨_,rfl⟩
  rw [←hW9] at g0 g1 hB9 hT9 hs9 ⊢
  have HT9:=hd' (hT9.mono (show w.heap.size≤W4.heap.size by omega) (show wt.heap.size≤W9.heap.size by omega))
  have hlt9:w.heap.size < W9.heap.size:=by omega
  have HB9:=hd' hB9
  clear hW9 hB9 hT9 hs9 q0 q1 s0 s1 s2 t0 t1 u1
  go_wp2_with fail
  refine bodyPost_ret (v:=.tuple #[.agg #[.slice AV5 4 cv5,.slice A5 F.length c5],.bool (decide (F.length < es.length))]) (by simp [results,Tryz.results85,g0,g1,go_sem]) rfl ?_
  obtain ⟨h1,h2,h3⟩:=HN.out
  rw [h1,h2,h3]
  exact ⟨AV5,cv5,A5,c5,rfl,HT9.out,hlt9,HB9.out⟩
end Go.Proofs.YtckajeippfpojaaGreat
