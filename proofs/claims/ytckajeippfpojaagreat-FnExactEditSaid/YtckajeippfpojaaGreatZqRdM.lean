import Derived.Test.YtckajeippfpojaaGreatZqRdTr
import Derived.Test.YtckajeippfpojaaGreatZqGCmp
import Derived.Test.YtckajeippfpojaaGreatZqGB
import Derived.Deep.RegionHeld3
import Derived.BigRegion
namespace Go.Proofs.YtckajeippfpojaaGreat
open Go.RowKit Go.Maps
set_option maxRecDepth 100000
section
variable {P:Program} {ops:Array Oper} {Q:Exit→Act→World→Prop} {md:Region.Mode} {S:World→Prop}
theorem held_n {id:Nat} {a:Act} {w:World} (n:Nat) (hn:ops.size=n) (hm:P.follows .mixedOrders=true) (hS:S w.drew)
    (h:S w.drew→wpAnyH P .any ops Q S n (Array.replicate n false) a w.drew):(Code.region id ops true).wp P Q a w :=
  wp_region_held_drew hm hS (by rw [hn];exact h)
theorem put_at {o:Oper} {d:Nat} {v:Value} {fuel:Nat} {listed:Array Bool} {a:Act} {w:World} (hd:o.dst=some d)
    (h:wpAnyH P md ops Q S fuel listed { a with tmps:=a.tmps.setIfInBounds d v } w):wpAnyH P md ops Q S fuel listed (a.put o.dst v) w:=by
  rw [hd]
  exact h
end
def pvB (sq pv:Int):Bool:=if sq=1 then decide (pv=0) else decide (1≤pv) && decide (pv≤400)
set_option maxHeartbeats 2000000 in
theorem prevFits_any (au sq pv a b c d:Int) (A:Option Addr) (n cap:Nat) (w:World) :
    Calls Tryz.prog 177 #[.agg #[.int .i64 au,.int .i64 sq,.int .i64 pv,.int .i64 a,.int .i64 b,.int .i64 c,.int .i64 d,.slice A n cap]] w fun e w'=>e=.returned (.bool (pvB sq pv))∧Below w.heap.size w w':=by
  by_cases s1:sq=1
  · have s1b:(sq == 1)=true:=by simp [s1]
    by_cases s2:pv=0
    · have s2b:(pv == 0)=true:=by simp [s2]
      have HF:=hd' (show pvB sq pv=true by simp [pvB,s1,s2])
      go_enter Tryz.func177,Tryz.ntmps177
      go_wp2_with fail
      go_ret
      exact ⟨ret_bool (a:=true) HF.out.symm,(Below.refl _ _).alloc (Nat.le_refl _) _⟩
    · have s2b:(pv == 0)=false:=by simp [s2]
      have HF:=hd' (show pvB sq pv=false by simp [pvB,s1,s2])
      go_enter Tryz.func177,Tryz.ntmps177
      go_wp2_with fail
      go_ret
      exact ⟨ret_bool (a:=false) HF.out.symm,(Below.refl _ _).alloc (Nat.le_refl _) _⟩
  · have s1b:(sq == 1)=false:=by simp [s1]
    by_cases s2:1≤pv
    · by_cases s3:pv≤400
      · have HF:=hd' (show pvB sq pv=true by simp [pvB,s1,s2,s3])
        go_enter Tryz.func177,Tryz.ntmps177
        go_wp2_with fail
        go_ret
        exact ⟨ret_bool (a:=true) HF.out.symm,(Below.refl _ _).alloc (Nat.le_refl _) _⟩
      · have s3b:400 < pv:=by omega
        have HF:=hd' (show pvB sq pv=false by simp [pvB,s1,s3])
        go_enter Tryz.func177,Tryz.ntmps177
        go_wp2_with fail
        go_ret
        exact ⟨ret_bool (a:=false) HF.out.symm,(Below.refl _ _).alloc (Nat.le_refl _) _⟩
    · have s2b:pv < 1:=by omega
      have HF:=hd' (show pvB sq pv=false by simp [pvB,s1,s2])
      go_enter Tryz.func177,Tryz.ntmps177
      go_wp2_with fail
      go_ret
      exact ⟨ret_bool (a:=false) HF.out.symm,(Below.refl _ _).alloc (Nat.le_refl _) _⟩
theorem saidB_eq (au sq pv:Int) (n:Nat):saidB au sq pv n=(devB au && decide (1≤sq) && decide (sq≤100) && pvB sq pv && decide (n≤8)):=rfl
set_option maxHeartbeats 2000000 in
theorem mayBeSaid_any (au sq pv a b c d:Int) (A:Option Addr) (n cap:Nat) (w:World) (hn:n≤1048576) :
    Calls Tryz.prog 117 #[.agg #[.int .i64 au,.int .i64 sq,.int .i64 pv,.int .i64 a,.int .i64 b,.int .i64 c,.int .i64 d,.slice A n cap]] w fun e w'=>e=.returned (.bool (saidB au sq pv n))∧Below w.heap.size w w':=by
  obtain ⟨sb,hsb⟩:∃sb,sb=saidB au sq pv n:=⟨_,rfl⟩
  have HS:=hd' (show sb=(devB au && decide (1≤sq) && decide (sq≤100) && pvB sq pv && decide (n≤8)) from hsb.trans (saidB_eq au sq pv n))
  rw [←hsb]
  clear hsb
  have hdev:=fun W=>isDevice_any au W
  have hprev:=fun W=>prevFits_any au sq pv a b c d A n cap W
  obtain ⟨db,hdb⟩:∃db,db=devB au:=⟨_,rfl⟩
  obtain ⟨pb,hpb⟩:∃pb,pb=pvB sq pv:=⟨_,rfl⟩
  rw [←hdb] at hdev HS
  rw [←hpb] at hprev HS
  have HDev:=hd' hdev
  have HPrev:=hd' hprev
  clear hdb hpb hdev hprev
  go_enter Tryz.func117,Tryz.ntmps117
  go_wp2_with fail
  obtain ⟨W,hW⟩:∃W,W=w.alloc (.cells #[.int .i64 au,.int .i64 sq,.int .i64 pv,.int .i64 a,.int .i64 b,.int .i64 c,.int .i64 d,.slice A n cap] 103):=⟨_,rfl⟩
  have HX:=hd' (show Bx W w.heap.size [.int .i64 au,.int .i64 sq,.int .i64 pv,.int .i64 a,.int .i64 b,.int .i64 c,.int .i64 d,.slice A n cap] by rw [hW];exact Bx.new' _ _ _ _ rfl)
  have HBel:=hd' (show Below w.heap.size w W by rw [hW];exact (Below.refl _ _).alloc (Nat.le_refl _) _)
  have hzW:w.heap.size < W.heap.size:=by rw [hW];simp
  rw [←hW]
  clear hW
  refine (HDev.out W).mono ?_
  rintro e w1 ⟨rfl,rfl⟩
  have g0:=HX.out 0 (by simp)
  have g1:=HX.out 1 (by simp)
  have g2:=HX.out 2 (by simp)
  have g3:=HX.out 3 (by simp)
  have g4:=HX.out 4 (by simp)
  have g5:=HX.out 5 (by simp)
  have g6:=HX.out 6 (by simp)
  have g7:=HX.out 7 (by simp)
  simp only [List.getElem_cons_succ,List.getElem_cons_zero] at g0 g1 g2 g3 g4 g5 g6 g7
  cases db with
  | false =>
    have HF:=hd' (show sb=false by rw [HS.out];rfl)
    go_wp2_with fail
    go_ret
    exact ⟨ret_bool (a:=false) HF.out.symm,HBel.out⟩
  | true =>
  by_cases q1:sq < 1
  · have q1m:¬ 1≤sq:=by omega
    have HF:=hd' (show sb=false by rw [HS.out];simp [q1m])
    go_wp2_with fail
    go_ret
    exact ⟨ret_bool (a:=false) HF.out.symm,HBel.out⟩
  have q1n:1≤sq:=by omega
  clear q1
  by_cases q2:100 < sq
  · have q2m:¬ sq≤100:=by omega
    have HF:=hd' (show sb=false by rw [HS.out];simp [q2m])
    go_wp2_with fail
    go_ret
    exact ⟨ret_bool (a:=false) HF.out.symm,HBel.out⟩
  have q2n:sq≤100:=by omega
  clear q2
  go_wp2_with fail
  refine (HPrev.out W).mono ?_
  rintro e w2 ⟨rfl,hb2⟩
  have HB2:=hd' (HBel.out.trans (hb2.mono (by omega)))
  have h7:=(HX.out.below hb2 hzW) 7 (by simp)
  simp only [List.getElem_cons_succ,List.getElem_cons_zero] at h7
  have lw2:w.heap.size < w2.heap.size:=by have:=hb2.size;omega
  clear hb2 g0 g1 g2 g3 g4 g5 g6 g7
  cases pb with
  | false =>
    have HF:=hd' (show sb=false by rw [HS.out];simp)
    go_wp2_with fail
    go_ret
    exact ⟨ret_bool (a:=false) HF.out.symm,HB2.out⟩
  | true =>
  have HF:=hd' (show sb=decide ((n:Int)≤8) by
    rw [HS.out,show decide (n≤8)=decide ((n:Int)≤8) from decide_eq_decide.2 (by omega)]
    simp [q1n,q2n])
  go_wp2_with fail
  go_ret
  exact ⟨ret_bool (a:=decide ((n:Int)≤8)) HF.out.symm,HB2.out⟩
theorem other9 {w:World} {b b' o:Nat} {v0 v1 v2 v3 v4 v5 v6 v7 v8:Value} (hb:b'≠b):((((((((((w.setCell ⟨b,0,none⟩ v0).setCell ⟨b,1,none⟩ v1).setCell ⟨b,2,none⟩ v2).setCell ⟨b,3,none⟩ v3).setCell ⟨b,4,none⟩ v4).setCell ⟨b,5,none⟩ v5).setCell ⟨b,6,none⟩ v6).setCell ⟨b,7,none⟩ v7).setCell ⟨b,8,none⟩ v8)).cell? ⟨b',o,none⟩=w.cell? ⟨b',o,none⟩ :=
  putAll_other (o:=0) (vs:=[v0,v1,v2,v3,v4,v5,v6,v7,v8]) hb
theorem treeB_len12 {vec:List Int} {es:List En} (h:treeB vec es=true):es.length≤12:=by
  unfold treeB at h
  simp only [Bool.and_eq_true,decide_eq_true_eq] at h
  exact h.1.1.2
def RdMan (au sq pv:Int) (vec:List Int) (es:List En) (sg:Int) (w:World) (e:Ending) (w':World):Prop :=
  ∃(x0 x1 x2 x3:Int) (A':Option Addr) (n c':Nat),e=.returned (.tuple #[.agg #[.int .i64 au,.int .i64 sq,.int .i64 pv,.int .i64 x0,.int .i64 x1,.int .i64 x2,.int .i64 x3,.slice A' n c',.int .i64 sg],.bool (manB au sq pv vec es sg)]) ∧
    (treeB vec es=true→vec=[x0,x1,x2,x3]∧n=es.length∧EvsIn w' w.heap.size w'.heap.size A' es)∧Below w.heap.size w w'
set_option maxHeartbeats 8000000 in
theorem readManifest_any (au sq pv:Int) (AV:Option Addr) (vec:List Int) (cv:Nat) (A:Option Addr) (es:List En) (c:Nat) (sg:Int) (w:World) (hV:IntsIn w 0 w.heap.size AV vec) (hA:EnsIn w 0 w.heap.size A es) (hn:es.length≤1048576) (hbk:ebulk es≤1048576) :
    Calls Tryz.prog 62 #[.agg #[.int .i64 au,.int .i64 sq,.int .i64 pv,.slice AV vec.length cv,.slice A es.length c,.int .i64 sg]] w (RdMan au sq pv vec es sg w):=by
  have HV:=hd' hV
  have HA:=hd' hA
  have HLen:=hd' (@treeB_len12 vec es)
  obtain ⟨mb,hmb⟩:∃mb,mb=manB au sq pv vec es sg:=⟨_,rfl⟩
  have HM:=hd' (show mb=(treeB vec es && saidB au sq pv es.length && decide (0≤sg) && decide (sg < 400)) from hmb)
  have HMb:=hd' hmb
  clear hV hA hmb
  go_enter Tryz.func62,Tryz.ntmps62
  go_wp2_with fail
  obtain ⟨W0,hW0⟩:∃W0,W0=w.alloc (.cells #[.int .i64 au,.int .i64 sq,.int .i64 pv,.slice AV vec.length cv,.slice A es.length c,.int .i64 sg] 40):=⟨_,rfl⟩
  obtain ⟨W,hW⟩:∃W,W=W0.alloc (.cells #[.int .i64 0,.int .i64 0,.int .i64 0,.int .i64 0,.int .i64 0,.int .i64 0,.int .i64 0,.slice none 0 0,.int .i64 0] 105):=⟨_,rfl⟩
  have hz0:W0.heap.size=w.heap.size+1:=by rw [hW0];simp
  have hz:w.heap.size+1 < W.heap.size:=by rw [hW];simp [hz0]
  have HX:=hd' (show Bx W w.heap.size [.int .i64 au,.int .i64 sq,.int .i64 pv,.slice AV vec.length cv,.slice A es.length c,.int .i64 sg] by rw [hW];exact Bx.alloc (by rw [hW0];exact Bx.new' _ _ _ _ rfl) (by omega) _)
  have HY:=hd' (show Bx W (w.heap.size+1) [.int .i64 0,.int .i64 0,.int .i64 0,.int .i64 0,.int .i64 0,.int .i64 0,.int .i64 0,.slice none 0 0,.int .i64 0] by rw [hW,←hz0];exact Bx.new' _ _ _ _ rfl)
  have HF:=hd' (show ∀o,W.frozen? ⟨w.heap.size+1,o,none⟩=false from fun o=>by rw [hW,hW0];exact (((Fresh.refl w).alloc _ _).alloc _ _) ⟨w.heap.size+1,o,none⟩ (by show w.heap.size≤w.heap.size+1;omega))
  have HBel:=hd' (show Below w.heap.size w W by rw [hW,hW0];exact ((Below.refl _ _).alloc (Nat.le_refl _) _).alloc (by simp) _)
  rw [←hW0,←hW]
  clear hW hW0 hz0
  refine (readTree_any AV vec cv A es c W ((HV.out.keep fun p _ hp=>HBel.out.cell hp).mono (by omega)) ((HA.out.below HBel.out).mono (by omega)) hn hbk).mono ?_
  rintro e w1 ⟨x0,x1,x2,x3,A',n,c',rfl,htr,hb1⟩
  have HTr:=hd' htr
  have HB1:=hd' (HBel.out.trans (hb1.mono (by omega)))
  have HX1:=hd' (HX.out.below hb1 (by omega))
  have HY1:=hd' (HY.out.below hb1 hz)
  have HF1:=hd' (show ∀o,w1.frozen? ⟨w.heap.size+1,o,none⟩=false from fun o=>(hb1.frozen (p:=⟨w.heap.size+1,o,none⟩) hz).trans (HF.out o))
  have hz1:=hb1.size
  have lw1:w.heap.size+1 < w1.heap.size:=by omega
  have lw0:w.heap.size < w1.heap.size:=by omega
  have hWz:w.heap.size≤W.heap.size:=by omega
  clear hb1 htr HX HY HF
  have g0:=HX1.out 0 (by simp)
  have g1:=HX1.out 1 (by simp)
  have g2:=HX1.out 2 (by simp)
  have g3:=HX1.out 3 (by simp)
  have g4:=HX1.out 4 (by simp)
  have g5:=HX1.out 5 (by simp)
  simp only [List.getElem_cons_succ,List.getElem_cons_zero] at g0 g1 g2 g3 g4 g5
  go_wp2_with fail
  obtain ⟨W6,hW6⟩:∃W6,W6=(w1.alloc (.cells #[.int .i64 x0,.int .i64 x1,.int .i64 x2,.int .i64 x3,.slice A' n c'] 101)).alloc (.cells #[.int .i64 au,.int .i64 sq,.int .i64 pv,.int .i64 x0,.int .i64 x1,.int .i64 x2,.int .i64 x3,.slice A' n c',.int .i64 sg] 105):=⟨_,rfl⟩
  have hb6:Below w1.heap.size w1 W6:=by rw [hW6];exact ((Below.refl _ _).alloc (Nat.le_refl _) _).alloc (by simp) _
  have HZ6:=hd' (show Bx W6 (w1.heap.size+1) [.int .i64 au,.int .i64 sq,.int .i64 pv,.int .i64 x0,.int .i64 x1,.int .i64 x2,.int .i64 x3,.slice A' n c',.int .i64 sg] by rw [hW6,show w1.heap.size+1=(w1.alloc (.cells #[.int .i64 x0,.int .i64 x1,.int .i64 x2,.int .i64 x3,.slice A' n c'] 101)).heap.size by simp];exact Bx.new' _ _ _ _ rfl)
  have hz6:w1.heap.size+1 < W6.heap.size:=by rw [hW6];simp
  have HY6:=hd' (HY1.out.below hb6 lw1)
  have HF6:=hd' (show ∀o,W6.frozen? ⟨w.heap.size+1,o,none⟩=false from fun o=>(hb6.frozen (p:=⟨w.heap.size+1,o,none⟩) lw1).trans (HF1.out o))
  have HB6:=hd' (HB1.out.trans (hb6.mono (by omega)))
  have HTr6:=hd' (show treeB vec es=true→vec=[x0,x1,x2,x3]∧n=es.length∧EvsIn W6 W.heap.size w1.heap.size A' es from fun h=>⟨(HTr.out h).1,(HTr.out h).2.1,(HTr.out h).2.2.below hb6⟩)
  rw [←hW6]
  have lne:w1.heap.size+1≠w.heap.size+1:=by omega
  have lw6:w.heap.size+1 < W6.heap.size:=by omega
  clear hW6 hb6 HY1 HF1 HX1 HTr g0 g1 g2 g3 g4 g5
  obtain ⟨tb,htb⟩:∃tb,tb=treeB vec es:=⟨_,rfl⟩
  rw [←htb] at HM HLen ⊢
  have HTb:=hd' htb
  clear htb
  have t0:=HZ6.out 0 (by simp)
  have t1:=HZ6.out 1 (by simp)
  have t2:=HZ6.out 2 (by simp)
  have t3:=HZ6.out 3 (by simp)
  have t4:=HZ6.out 4 (by simp)
  have t5:=HZ6.out 5 (by simp)
  have t6:=HZ6.out 6 (by simp)
  have t7:=HZ6.out 7 (by simp)
  have t8:=HZ6.out 8 (by simp)
  simp only [List.getElem_cons_succ,List.getElem_cons_zero] at t0 t1 t2 t3 t4 t5 t6 t7 t8
  have HPack:=hd' (show ∀wt,Below W6.heap.size W6 wt→(wt.cell? ⟨w1.heap.size+1,0,none⟩=some (.int .i64 au)∧wt.cell? ⟨w1.heap.size+1,1,none⟩=some (.int .i64 sq)∧wt.cell? ⟨w1.heap.size+1,2,none⟩=some (.int .i64 pv)∧wt.cell? ⟨w1.heap.size+1,3,none⟩=some (.int .i64 x0)∧wt.cell? ⟨w1.heap.size+1,4,none⟩=some (.int .i64 x1)∧wt.cell? ⟨w1.heap.size+1,5,none⟩=some (.int .i64 x2)∧wt.cell? ⟨w1.heap.size+1,6,none⟩=some (.int .i64 x3)∧wt.cell? ⟨w1.heap.size+1,7,none⟩=some (.slice A' n c')∧wt.cell? ⟨w1.heap.size+1,8,none⟩=some (.int .i64 sg))∧(wt.cell? ⟨w.heap.size+1,0,none⟩=some (.int .i64 0)∧wt.cell? ⟨w.heap.size+1,1,none⟩=some (.int .i64 0)∧wt.cell? ⟨w.heap.size+1,2,none⟩=some (.int .i64 0)∧wt.cell? ⟨w.heap.size+1,3,none⟩=some (.int .i64 0)∧wt.cell? ⟨w.heap.size+1,4,none⟩=some (.int .i64 0)∧wt.cell? ⟨w.heap.size+1,5,none⟩=some (.int .i64 0)∧wt.cell? ⟨w.heap.size+1,6,none⟩=some (.int .i64 0)∧wt.cell? ⟨w.heap.size+1,7,none⟩=some (.slice none 0 0)∧wt.cell? ⟨w.heap.size+1,8,none⟩=some (.int .i64 0))∧(∀o,wt.frozen? ⟨w.heap.size+1,o,none⟩=false) from fun wt hb=>by
    have y0:=(HY6.out.below hb lw6) 0 (by simp)
    have y1:=(HY6.out.below hb lw6) 1 (by simp)
    have y2:=(HY6.out.below hb lw6) 2 (by simp)
    have y3:=(HY6.out.below hb lw6) 3 (by simp)
    have y4:=(HY6.out.below hb lw6) 4 (by simp)
    have y5:=(HY6.out.below hb lw6) 5 (by simp)
    have y6:=(HY6.out.below hb lw6) 6 (by simp)
    have y7:=(HY6.out.below hb lw6) 7 (by simp)
    have y8:=(HY6.out.below hb lw6) 8 (by simp)
    simp only [List.getElem_cons_succ,List.getElem_cons_zero] at y0 y1 y2 y3 y4 y5 y6 y7 y8
    exact ⟨⟨(hb.cell (p:=⟨w1.heap.size+1,0,none⟩) hz6).trans t0,(hb.cell (p:=⟨w1.heap.size+1,1,none⟩) hz6).trans t1,(hb.cell (p:=⟨w1.heap.size+1,2,none⟩) hz6).trans t2,(hb.cell (p:=⟨w1.heap.size+1,3,none⟩) hz6).trans t3,(hb.cell (p:=⟨w1.heap.size+1,4,none⟩) hz6).trans t4,(hb.cell (p:=⟨w1.heap.size+1,5,none⟩) hz6).trans t5,(hb.cell (p:=⟨w1.heap.size+1,6,none⟩) hz6).trans t6,(hb.cell (p:=⟨w1.heap.size+1,7,none⟩) hz6).trans t7,(hb.cell (p:=⟨w1.heap.size+1,8,none⟩) hz6).trans t8⟩,⟨y0,y1,y2,y3,y4,y5,y6,y7,y8⟩,fun o=>(hb.frozen (p:=⟨w.heap.size+1,o,none⟩) lw6).trans (HF6.out o)⟩)
  cases tb with
  | false =>
    obtain ⟨⟨s0,s1,s2,s3,s4,s5,s6,s7,s8⟩,⟨y0,y1,y2,y3,y4,y5,y6,y7,y8⟩,f0⟩:=HPack.out W6 (Below.refl _ _)
    have HRt:=hd' (Below.refl W6.heap.size W6)
    clear HPack
    have f00:=f0 0
    have f10:=f0 1
    have f20:=f0 2
    have f30:=f0 3
    have f40:=f0 4
    have f50:=f0 5
    have f60:=f0 6
    have f70:=f0 7
    have f80:=f0 8
    go_wp2_with fail
    go_big_region
    obtain ⟨wt,hwt⟩:∃wt,wt=W6:=⟨_,rfl⟩
    have hq:=(putAll_bx (vs:=[.int .i64 au,.int .i64 sq,.int .i64 pv,.int .i64 x0,.int .i64 x1,.int .i64 x2,.int .i64 x3,.slice A' n c',.int .i64 sg]) (us:=[.int .i64 0,.int .i64 0,.int .i64 0,.int .i64 0,.int .i64 0,.int .i64 0,.int .i64 0,.slice none 0 0,.int .i64 0]) (w:=W6) (b:=w.heap.size+1) (by
      intro j hj
      match j,hj with
      | 0,_=>exact y0
      | 1,_=>exact y1
      | 2,_=>exact y2
      | 3,_=>exact y3
      | 4,_=>exact y4
      | 5,_=>exact y5
      | 6,_=>exact y6
      | 7,_=>exact y7
      | 8,_=>exact y8
      | j+9,hj=>exact absurd hj (by simp)) rfl)
    have hqo:∀q:Addr,q.block≠w.heap.size+1→(putAll (w.heap.size+1) 0 [.int .i64 au,.int .i64 sq,.int .i64 pv,.int .i64 x0,.int .i64 x1,.int .i64 x2,.int .i64 x3,.slice A' n c',.int .i64 sg] W6).cell? q=W6.cell? q:=fun q hq=>putAll_other hq
    have hqs:=putAll_size (b:=w.heap.size+1) (o:=0) (vs:=[.int .i64 au,.int .i64 sq,.int .i64 pv,.int .i64 x0,.int .i64 x1,.int .i64 x2,.int .i64 x3,.slice A' n c',.int .i64 sg]) (w:=W6)
    have hqb:=putAll_below (b:=w.heap.size+1) (o:=0) (vs:=[.int .i64 au,.int .i64 sq,.int .i64 pv,.int .i64 x0,.int .i64 x1,.int .i64 x2,.int .i64 x3,.slice A' n c',.int .i64 sg]) (HB6.out.trans (HRt.out.mono (show w.heap.size≤W6.heap.size by omega))) (show w.heap.size≤w.heap.size+1 by omega)
    obtain ⟨W9,hW9⟩:∃W9,W9=putAll (w.heap.size+1) 0 [.int .i64 au,.int .i64 sq,.int .i64 pv,.int .i64 x0,.int .i64 x1,.int .i64 x2,.int .i64 x3,.slice A' n c',.int .i64 sg] W6:=⟨_,rfl⟩
    rw [←hW9] at hq hqo hqs hqb
    simp only [putAll] at hW9
    rw [←hW9]
    have hzt:=HRt.out.size
    have r0:=hq 0 (by simp)
    have r1:=hq 1 (by simp)
    have r2:=hq 2 (by simp)
    have r3:=hq 3 (by simp)
    have r4:=hq 4 (by simp)
    have r5:=hq 5 (by simp)
    have r6:=hq 6 (by simp)
    have r7:=hq 7 (by simp)
    have r8:=hq 8 (by simp)
    simp only [List.getElem_cons_succ,List.getElem_cons_zero] at r0 r1 r2 r3 r4 r5 r6 r7 r8
    have HB9:=hd' hqb
    have HE9:=hd' (show treeB vec es=true→vec=[x0,x1,x2,x3]∧n=es.length∧EvsIn W9 w.heap.size W9.heap.size A' es from fun h=>by
      obtain ⟨h1,h2,h3⟩:=HTr6.out h
      refine ⟨h1,h2,((((h3.below (B:=w1.heap.size) (HRt.out.mono (by omega))).keep (w':=W9) fun q hq _=>hqo q (by omega)).low (by omega)).mono (by omega))⟩)
    have HFin:=hd' (show mb=false by rw [HM.out];rfl)
    clear hq hqo hqs hqb hW9
    go_wp2_with fail
    refine bodyPost_ret (v:=.tuple #[.agg #[.int .i64 au,.int .i64 sq,.int .i64 pv,.int .i64 x0,.int .i64 x1,.int .i64 x2,.int .i64 x3,.slice A' n c',.int .i64 sg],.bool false]) (by simp [results,Tryz.results62,r0,r1,r2,r3,r4,r5,r6,r7,r8,go_sem]) rfl ?_
    exact ⟨x0,x1,x2,x3,A',n,c',by rw [←HMb.out,HFin.out],HE9.out,HB9.out.drew⟩
  | true =>
  have hnl:n=es.length:=(HTr6.out HTb.out.symm).2.1
  have hl12:n≤12:=by have:=HLen.out rfl;omega
  have hsaid:=fun W=>mayBeSaid_any au sq pv x0 x1 x2 x3 A' n c' W (by omega)
  rw [←hnl] at HM
  clear hnl
  obtain ⟨sb,hsb⟩:∃sb,sb=saidB au sq pv n:=⟨_,rfl⟩
  rw [←hsb] at hsaid HM
  have HSaid:=hd' hsaid
  clear hsaid hsb
  cases sb with
  | false =>
    go_wp2_with fail
    refine held_n (S:=fun X=>X.cell? ⟨w1.heap.size+1,0,none⟩=some (.int .i64 au)∧X.cell? ⟨w1.heap.size+1,1,none⟩=some (.int .i64 sq)∧X.cell? ⟨w1.heap.size+1,2,none⟩=some (.int .i64 pv)∧X.cell? ⟨w1.heap.size+1,3,none⟩=some (.int .i64 x0)∧X.cell? ⟨w1.heap.size+1,4,none⟩=some (.int .i64 x1)∧X.cell? ⟨w1.heap.size+1,5,none⟩=some (.int .i64 x2)∧X.cell? ⟨w1.heap.size+1,6,none⟩=some (.int .i64 x3)∧X.cell? ⟨w1.heap.size+1,7,none⟩=some (.slice A' n c')∧X.cell? ⟨w1.heap.size+1,8,none⟩=some (.int .i64 sg)) 19 rfl (by kernel_rfl) ⟨t0,t1,t2,t3,t4,t5,t6,t7,t8⟩ (fun hHeld=>?_)
    try dsimp only at hHeld
    refine wpAnyH_take (i:=0) (oi:=_) (v:=.agg #[.int .i64 au,.int .i64 sq,.int .i64 pv,.int .i64 x0,.int .i64 x1,.int .i64 x2,.int .i64 x3,.slice A' n c',.int .i64 sg]) rfl (by kernel_rfl) (by kernel_rfl) (by kernel_rfl) (fun _ _ _ h=>h) (Or.inl ⟨by rfl,?_⟩) (by assumption) ?_
    · intro w hSw
      (try dsimp only at hSw)
      go_simp
    refine put_at (d:=24) rfl ?_
    simp only [List.setIfInBounds_toArray,List.set_cons_zero,List.set_cons_succ]
    refine wpAnyH_take (i:=1) (oi:=_) (v:=.bool true) rfl (by kernel_rfl) (by kernel_rfl) (by kernel_rfl) (fun _ _ _ h=>h) (Or.inl ⟨by rfl,?_⟩) (by assumption) ?_
    · intro w hSw
      (try dsimp only at hSw)
      go_simp
    refine put_at (d:=25) rfl ?_
    simp only [List.setIfInBounds_toArray,List.set_cons_zero,List.set_cons_succ]
    refine wpAnyH_take (i:=2) (oi:=_) (v:=.bool true) rfl (by kernel_rfl) (by kernel_rfl) (by kernel_rfl) (fun _ _ _ h=>h) (Or.inl ⟨by rfl,?_⟩) (by assumption) ?_
    · intro w hSw
      (try dsimp only at hSw)
      go_simp
    refine put_at (d:=26) rfl ?_
    simp only [List.setIfInBounds_toArray,List.set_cons_zero,List.set_cons_succ]
    refine wpAnyH_take (i:=3) (oi:=_) (v:=.pointer (some ⟨w1.heap.size+1,0,none⟩)) rfl (by kernel_rfl) (by kernel_rfl) (by kernel_rfl) (fun _ _ _ h=>h) (Or.inl ⟨by rfl,?_⟩) (by assumption) ?_
    · intro w hSw
      (try dsimp only at hSw)
      go_simp
    refine put_at (d:=27) rfl ?_
    simp only [List.setIfInBounds_toArray,List.set_cons_zero,List.set_cons_succ]
    refine wpAnyH_take (i:=4) (oi:=_) (v:=.agg #[.int .i64 au,.int .i64 sq,.int .i64 pv,.int .i64 x0,.int .i64 x1,.int .i64 x2,.int .i64 x3,.slice A' n c']) rfl (by kernel_rfl) (by kernel_rfl) (by kernel_rfl) (fun _ _ _ h=>h) (Or.inl ⟨by rfl,?_⟩) (by assumption) ?_
    · intro w hSw
      (try dsimp only at hSw)
      go_simp
    refine put_at (d:=28) rfl ?_
    simp only [List.setIfInBounds_toArray,List.set_cons_zero,List.set_cons_succ]
    refine wpAnyH_ready (rs:=[5]) (by kernel_rfl) (by simp) ?_
    refine AllReadyH.cons rfl (fun K hK=>?_) AllReadyH.nil
    simp only [List.getElem_toArray,List.getElem_cons_succ,List.getElem_cons_zero]
    go_simp
    refine (HSaid.out _).mono ?_
    rintro r wt ⟨rfl,hbt⟩
    have hbrt:Below W6.heap.size W6 wt:=(Below.refl W6.heap.size W6).drew.trans hbt
    obtain ⟨⟨s0,s1,s2,s3,s4,s5,s6,s7,s8⟩,⟨y0,y1,y2,y3,y4,y5,y6,y7,y8⟩,f0⟩:=HPack.out wt hbrt
    have HRt:=hd' hbrt
    clear hbt hbrt hHeld
    refine hK.out _ _ ⟨s0,s1,s2,s3,s4,s5,s6,s7,s8⟩ (fun hHeld=>?_)
    clear hK K
    try dsimp only at hHeld
    refine wpAnyH_take (i:=6) (oi:=_) (v:=.bool false) rfl (by kernel_rfl) (by kernel_rfl) (by kernel_rfl) (fun _ _ _ h=>h) (Or.inl ⟨by rfl,?_⟩) (by assumption) ?_
    · intro w hSw
      (try dsimp only at hSw)
      go_simp
    refine put_at (d:=30) rfl ?_
    simp only [List.setIfInBounds_toArray,List.set_cons_zero,List.set_cons_succ]
    refine wpAnyH_take (i:=7) (oi:=_) (v:=.bool false) rfl (by kernel_rfl) (by kernel_rfl) (by kernel_rfl) (fun _ _ _ h=>h) (Or.inl ⟨by rfl,?_⟩) (by assumption) ?_
    · intro w hSw
      (try dsimp only at hSw)
      go_simp
    refine put_at (d:=31) rfl ?_
    simp only [List.setIfInBounds_toArray,List.set_cons_zero,List.set_cons_succ]
    refine wpAnyH_take (i:=8) (oi:=_) (v:=undef) rfl (by kernel_rfl) (by kernel_rfl) (by kernel_rfl) (fun _ _ _ h=>h) (Or.inr ⟨by rfl,rfl⟩) (by assumption) ?_
    refine put_at (d:=32) rfl ?_
    simp only [List.setIfInBounds_toArray,List.set_cons_zero,List.set_cons_succ]
    refine wpAnyH_take (i:=9) (oi:=_) (v:=undef) rfl (by kernel_rfl) (by kernel_rfl) (by kernel_rfl) (fun _ _ _ h=>h) (Or.inr ⟨by rfl,rfl⟩) (by assumption) ?_
    refine put_at (d:=33) rfl ?_
    simp only [List.setIfInBounds_toArray,List.set_cons_zero,List.set_cons_succ]
    refine wpAnyH_take (i:=10) (oi:=_) (v:=undef) rfl (by kernel_rfl) (by kernel_rfl) (by kernel_rfl) (fun _ _ _ h=>h) (Or.inr ⟨by rfl,rfl⟩) (by assumption) ?_
    refine put_at (d:=34) rfl ?_
    simp only [List.setIfInBounds_toArray,List.set_cons_zero,List.set_cons_succ]
    refine wpAnyH_take (i:=11) (oi:=_) (v:=.bool false) rfl (by kernel_rfl) (by kernel_rfl) (by kernel_rfl) (fun _ _ _ h=>h) (Or.inl ⟨by rfl,?_⟩) (by assumption) ?_
    · intro w hSw
      (try dsimp only at hSw)
      go_simp
    refine put_at (d:=35) rfl ?_
    simp only [List.setIfInBounds_toArray,List.set_cons_zero,List.set_cons_succ]
    refine wpAnyH_take (i:=12) (oi:=_) (v:=.bool false) rfl (by kernel_rfl) (by kernel_rfl) (by kernel_rfl) (fun _ _ _ h=>h) (Or.inl ⟨by rfl,?_⟩) (by assumption) ?_
    · intro w hSw
      (try dsimp only at hSw)
      go_simp
    refine put_at (d:=36) rfl ?_
    simp only [List.setIfInBounds_toArray,List.set_cons_zero,List.set_cons_succ]
    refine wpAnyH_take (i:=13) (oi:=_) (v:=undef) rfl (by kernel_rfl) (by kernel_rfl) (by kernel_rfl) (fun _ _ _ h=>h) (Or.inr ⟨by rfl,rfl⟩) (by assumption) ?_
    refine put_at (d:=37) rfl ?_
    simp only [List.setIfInBounds_toArray,List.set_cons_zero,List.set_cons_succ]
    refine wpAnyH_take (i:=14) (oi:=_) (v:=undef) rfl (by kernel_rfl) (by kernel_rfl) (by kernel_rfl) (fun _ _ _ h=>h) (Or.inr ⟨by rfl,rfl⟩) (by assumption) ?_
    refine put_at (d:=38) rfl ?_
    simp only [List.setIfInBounds_toArray,List.set_cons_zero,List.set_cons_succ]
    refine wpAnyH_take (i:=15) (oi:=_) (v:=undef) rfl (by kernel_rfl) (by kernel_rfl) (by kernel_rfl) (fun _ _ _ h=>h) (Or.inr ⟨by rfl,rfl⟩) (by assumption) ?_
    refine put_at (d:=39) rfl ?_
    simp only [List.setIfInBounds_toArray,List.set_cons_zero,List.set_cons_succ]
    refine wpAnyH_take (i:=16) (oi:=_) (v:=.bool false) rfl (by kernel_rfl) (by kernel_rfl) (by kernel_rfl) (fun _ _ _ h=>h) (Or.inl ⟨by rfl,?_⟩) (by assumption) ?_
    · intro w hSw
      (try dsimp only at hSw)
      go_simp
    refine put_at (d:=40) rfl ?_
    simp only [List.setIfInBounds_toArray,List.set_cons_zero,List.set_cons_succ]
    have f00:=f0 0
    have f10:=f0 1
    have f20:=f0 2
    have f30:=f0 3
    have f40:=f0 4
    have f50:=f0 5
    have f60:=f0 6
    have f70:=f0 7
    have f80:=f0 8
    refine wpAnyH_ready (rs:=[17]) (by kernel_rfl) (by simp) ?_
    refine AllReadyH.cons rfl (fun K hK=>?_) AllReadyH.nil
    simp only [List.getElem_toArray,List.getElem_cons_succ,List.getElem_cons_zero]
    go_simp
    refine hK.out _ _ ⟨(other9 lne).trans s0,(other9 lne).trans s1,(other9 lne).trans s2,(other9 lne).trans s3,(other9 lne).trans s4,(other9 lne).trans s5,(other9 lne).trans s6,(other9 lne).trans s7,(other9 lne).trans s8⟩ (fun hHeld=>?_)
    clear hK K
    refine wpAnyH_take (i:=18) (oi:=_) (v:=.bool false) rfl (by kernel_rfl) (by kernel_rfl) (by kernel_rfl) (fun _ _ _ h=>h) (Or.inl ⟨by rfl,?_⟩) (by assumption) ?_
    · intro w hSw
      (try dsimp only at hSw)
      go_simp
    refine put_at (d:=3) rfl ?_
    simp only [List.setIfInBounds_toArray,List.set_cons_zero,List.set_cons_succ]
    refine wpAnyH_done (by kernel_rfl) ?_ _
    have hq:=(putAll_bx (vs:=[.int .i64 au,.int .i64 sq,.int .i64 pv,.int .i64 x0,.int .i64 x1,.int .i64 x2,.int .i64 x3,.slice A' n c',.int .i64 sg]) (us:=[.int .i64 0,.int .i64 0,.int .i64 0,.int .i64 0,.int .i64 0,.int .i64 0,.int .i64 0,.slice none 0 0,.int .i64 0]) (w:=wt) (b:=w.heap.size+1) (by
      intro j hj
      match j,hj with
      | 0,_=>exact y0
      | 1,_=>exact y1
      | 2,_=>exact y2
      | 3,_=>exact y3
      | 4,_=>exact y4
      | 5,_=>exact y5
      | 6,_=>exact y6
      | 7,_=>exact y7
      | 8,_=>exact y8
      | j+9,hj=>exact absurd hj (by simp)) rfl)
    have hqo:∀q:Addr,q.block≠w.heap.size+1→(putAll (w.heap.size+1) 0 [.int .i64 au,.int .i64 sq,.int .i64 pv,.int .i64 x0,.int .i64 x1,.int .i64 x2,.int .i64 x3,.slice A' n c',.int .i64 sg] wt).cell? q=wt.cell? q:=fun q hq=>putAll_other hq
    have hqs:=putAll_size (b:=w.heap.size+1) (o:=0) (vs:=[.int .i64 au,.int .i64 sq,.int .i64 pv,.int .i64 x0,.int .i64 x1,.int .i64 x2,.int .i64 x3,.slice A' n c',.int .i64 sg]) (w:=wt)
    have hqb:=putAll_below (b:=w.heap.size+1) (o:=0) (vs:=[.int .i64 au,.int .i64 sq,.int .i64 pv,.int .i64 x0,.int .i64 x1,.int .i64 x2,.int .i64 x3,.slice A' n c',.int .i64 sg]) (HB6.out.trans (HRt.out.mono (show w.heap.size≤W6.heap.size by omega))) (show w.heap.size≤w.heap.size+1 by omega)
    obtain ⟨W9,hW9⟩:∃W9,W9=putAll (w.heap.size+1) 0 [.int .i64 au,.int .i64 sq,.int .i64 pv,.int .i64 x0,.int .i64 x1,.int .i64 x2,.int .i64 x3,.slice A' n c',.int .i64 sg] wt:=⟨_,rfl⟩
    rw [←hW9] at hq hqo hqs hqb
    simp only [putAll] at hW9
    rw [←hW9]
    have hzt:=HRt.out.size
    have r0:=hq 0 (by simp)
    have r1:=hq 1 (by simp)
    have r2:=hq 2 (by simp)
    have r3:=hq 3 (by simp)
    have r4:=hq 4 (by simp)
    have r5:=hq 5 (by simp)
    have r6:=hq 6 (by simp)
    have r7:=hq 7 (by simp)
    have r8:=hq 8 (by simp)
    simp only [List.getElem_cons_succ,List.getElem_cons_zero] at r0 r1 r2 r3 r4 r5 r6 r7 r8
    have HB9:=hd' hqb
    have HE9:=hd' (show treeB vec es=true→vec=[x0,x1,x2,x3]∧n=es.length∧EvsIn W9 w.heap.size W9.heap.size A' es from fun h=>by
      obtain ⟨h1,h2,h3⟩:=HTr6.out h
      refine ⟨h1,h2,((((h3.below (B:=w1.heap.size) (HRt.out.mono (by omega))).keep (w':=W9) fun q hq _=>hqo q (by omega)).low (by omega)).mono (by omega))⟩)
    have HFin:=hd' (show mb=false by rw [HM.out];rfl)
    clear hq hqo hqs hqb hW9
    go_wp2_with fail
    refine bodyPost_ret (v:=.tuple #[.agg #[.int .i64 au,.int .i64 sq,.int .i64 pv,.int .i64 x0,.int .i64 x1,.int .i64 x2,.int .i64 x3,.slice A' n c',.int .i64 sg],.bool false]) (by simp [results,Tryz.results62,r0,r1,r2,r3,r4,r5,r6,r7,r8,go_sem]) rfl ?_
    exact ⟨x0,x1,x2,x3,A',n,c',by rw [←HMb.out,HFin.out],HE9.out,HB9.out⟩
  | true =>
  by_cases q1:sg < 0
  · have q1m:¬ 0≤sg:=by omega
    go_wp2_with fail
    refine held_n (S:=fun X=>X.cell? ⟨w1.heap.size+1,0,none⟩=some (.int .i64 au)∧X.cell? ⟨w1.heap.size+1,1,none⟩=some (.int .i64 sq)∧X.cell? ⟨w1.heap.size+1,2,none⟩=some (.int .i64 pv)∧X.cell? ⟨w1.heap.size+1,3,none⟩=some (.int .i64 x0)∧X.cell? ⟨w1.heap.size+1,4,none⟩=some (.int .i64 x1)∧X.cell? ⟨w1.heap.size+1,5,none⟩=some (.int .i64 x2)∧X.cell? ⟨w1.heap.size+1,6,none⟩=some (.int .i64 x3)∧X.cell? ⟨w1.heap.size+1,7,none⟩=some (.slice A' n c')∧X.cell? ⟨w1.heap.size+1,8,none⟩=some (.int .i64 sg)) 19 rfl (by kernel_rfl) ⟨t0,t1,t2,t3,t4,t5,t6,t7,t8⟩ (fun hHeld=>?_)
    try dsimp only at hHeld
    refine wpAnyH_take (i:=0) (oi:=_) (v:=.agg #[.int .i64 au,.int .i64 sq,.int .i64 pv,.int .i64 x0,.int .i64 x1,.int .i64 x2,.int .i64 x3,.slice A' n c',.int .i64 sg]) rfl (by kernel_rfl) (by kernel_rfl) (by kernel_rfl) (fun _ _ _ h=>h) (Or.inl ⟨by rfl,?_⟩) (by assumption) ?_
    · intro w hSw
      (try dsimp only at hSw)
      go_simp
    refine put_at (d:=24) rfl ?_
    simp only [List.setIfInBounds_toArray,List.set_cons_zero,List.set_cons_succ]
    refine wpAnyH_take (i:=1) (oi:=_) (v:=.bool true) rfl (by kernel_rfl) (by kernel_rfl) (by kernel_rfl) (fun _ _ _ h=>h) (Or.inl ⟨by rfl,?_⟩) (by assumption) ?_
    · intro w hSw
      (try dsimp only at hSw)
      go_simp
    refine put_at (d:=25) rfl ?_
    simp only [List.setIfInBounds_toArray,List.set_cons_zero,List.set_cons_succ]
    refine wpAnyH_take (i:=2) (oi:=_) (v:=.bool true) rfl (by kernel_rfl) (by kernel_rfl) (by kernel_rfl) (fun _ _ _ h=>h) (Or.inl ⟨by rfl,?_⟩) (by assumption) ?_
    · intro w hSw
      (try dsimp only at hSw)
      go_simp
    refine put_at (d:=26) rfl ?_
    simp only [List.setIfInBounds_toArray,List.set_cons_zero,List.set_cons_succ]
    refine wpAnyH_take (i:=3) (oi:=_) (v:=.pointer (some ⟨w1.heap.size+1,0,none⟩)) rfl (by kernel_rfl) (by kernel_rfl) (by kernel_rfl) (fun _ _ _ h=>h) (Or.inl ⟨by rfl,?_⟩) (by assumption) ?_
    · intro w hSw
      (try dsimp only at hSw)
      go_simp
    refine put_at (d:=27) rfl ?_
    simp only [List.setIfInBounds_toArray,List.set_cons_zero,List.set_cons_succ]
    refine wpAnyH_take (i:=4) (oi:=_) (v:=.agg #[.int .i64 au,.int .i64 sq,.int .i64 pv,.int .i64 x0,.int .i64 x1,.int .i64 x2,.int .i64 x3,.slice A' n c']) rfl (by kernel_rfl) (by kernel_rfl) (by kernel_rfl) (fun _ _ _ h=>h) (Or.inl ⟨by rfl,?_⟩) (by assumption) ?_
    · intro w hSw
      (try dsimp only at hSw)
      go_simp
    refine put_at (d:=28) rfl ?_
    simp only [List.setIfInBounds_toArray,List.set_cons_zero,List.set_cons_succ]
    refine wpAnyH_ready (rs:=[5]) (by kernel_rfl) (by simp) ?_
    refine AllReadyH.cons rfl (fun K hK=>?_) AllReadyH.nil
    simp only [List.getElem_toArray,List.getElem_cons_succ,List.getElem_cons_zero]
    go_simp
    refine (HSaid.out _).mono ?_
    rintro r wt ⟨rfl,hbt⟩
    have hbrt:Below W6.heap.size W6 wt:=(Below.refl W6.heap.size W6).drew.trans hbt
    obtain ⟨⟨s0,s1,s2,s3,s4,s5,s6,s7,s8⟩,⟨y0,y1,y2,y3,y4,y5,y6,y7,y8⟩,f0⟩:=HPack.out wt hbrt
    have HRt:=hd' hbrt
    clear hbt hbrt hHeld
    refine hK.out _ _ ⟨s0,s1,s2,s3,s4,s5,s6,s7,s8⟩ (fun hHeld=>?_)
    clear hK K
    try dsimp only at hHeld
    refine wpAnyH_take (i:=6) (oi:=_) (v:=.bool true) rfl (by kernel_rfl) (by kernel_rfl) (by kernel_rfl) (fun _ _ _ h=>h) (Or.inl ⟨by rfl,?_⟩) (by assumption) ?_
    · intro w hSw
      (try dsimp only at hSw)
      go_simp
    refine put_at (d:=30) rfl ?_
    simp only [List.setIfInBounds_toArray,List.set_cons_zero,List.set_cons_succ]
    refine wpAnyH_take (i:=7) (oi:=_) (v:=.bool true) rfl (by kernel_rfl) (by kernel_rfl) (by kernel_rfl) (fun _ _ _ h=>h) (Or.inl ⟨by rfl,?_⟩) (by assumption) ?_
    · intro w hSw
      (try dsimp only at hSw)
      go_simp
    refine put_at (d:=31) rfl ?_
    simp only [List.setIfInBounds_toArray,List.set_cons_zero,List.set_cons_succ]
    refine wpAnyH_take (i:=8) (oi:=_) (v:=.pointer (some ⟨w1.heap.size+1,8,none⟩)) rfl (by kernel_rfl) (by kernel_rfl) (by kernel_rfl) (fun _ _ _ h=>h) (Or.inl ⟨by rfl,?_⟩) (by assumption) ?_
    · intro w hSw
      (try dsimp only at hSw)
      go_simp
    refine put_at (d:=32) rfl ?_
    simp only [List.setIfInBounds_toArray,List.set_cons_zero,List.set_cons_succ]
    refine wpAnyH_take (i:=9) (oi:=_) (v:=.int .i64 sg) rfl (by kernel_rfl) (by kernel_rfl) (by kernel_rfl) (fun _ _ _ h=>h) (Or.inl ⟨by rfl,?_⟩) (by assumption) ?_
    · intro w hSw
      (try dsimp only at hSw)
      go_simp
    refine put_at (d:=33) rfl ?_
    simp only [List.setIfInBounds_toArray,List.set_cons_zero,List.set_cons_succ]
    refine wpAnyH_take (i:=10) (oi:=_) (v:=.bool false) rfl (by kernel_rfl) (by kernel_rfl) (by kernel_rfl) (fun _ _ _ h=>h) (Or.inl ⟨by rfl,?_⟩) (by assumption) ?_
    · intro w hSw
      (try dsimp only at hSw)
      go_simp
    refine put_at (d:=34) rfl ?_
    simp only [List.setIfInBounds_toArray,List.set_cons_zero,List.set_cons_succ]
    refine wpAnyH_take (i:=11) (oi:=_) (v:=.bool false) rfl (by kernel_rfl) (by kernel_rfl) (by kernel_rfl) (fun _ _ _ h=>h) (Or.inl ⟨by rfl,?_⟩) (by assumption) ?_
    · intro w hSw
      (try dsimp only at hSw)
      go_simp
    refine put_at (d:=35) rfl ?_
    simp only [List.setIfInBounds_toArray,List.set_cons_zero,List.set_cons_succ]
    refine wpAnyH_take (i:=12) (oi:=_) (v:=.bool false) rfl (by kernel_rfl) (by kernel_rfl) (by kernel_rfl) (fun _ _ _ h=>h) (Or.inl ⟨by rfl,?_⟩) (by assumption) ?_
    · intro w hSw
      (try dsimp only at hSw)
      go_simp
    refine put_at (d:=36) rfl ?_
    simp only [List.setIfInBounds_toArray,List.set_cons_zero,List.set_cons_succ]
    refine wpAnyH_take (i:=13) (oi:=_) (v:=undef) rfl (by kernel_rfl) (by kernel_rfl) (by kernel_rfl) (fun _ _ _ h=>h) (Or.inr ⟨by rfl,rfl⟩) (by assumption) ?_
    refine put_at (d:=37) rfl ?_
    simp only [List.setIfInBounds_toArray,List.set_cons_zero,List.set_cons_succ]
    refine wpAnyH_take (i:=14) (oi:=_) (v:=undef) rfl (by kernel_rfl) (by kernel_rfl) (by kernel_rfl) (fun _ _ _ h=>h) (Or.inr ⟨by rfl,rfl⟩) (by assumption) ?_
    refine put_at (d:=38) rfl ?_
    simp only [List.setIfInBounds_toArray,List.set_cons_zero,List.set_cons_succ]
    refine wpAnyH_take (i:=15) (oi:=_) (v:=undef) rfl (by kernel_rfl) (by kernel_rfl) (by kernel_rfl) (fun _ _ _ h=>h) (Or.inr ⟨by rfl,rfl⟩) (by assumption) ?_
    refine put_at (d:=39) rfl ?_
    simp only [List.setIfInBounds_toArray,List.set_cons_zero,List.set_cons_succ]
    refine wpAnyH_take (i:=16) (oi:=_) (v:=.bool false) rfl (by kernel_rfl) (by kernel_rfl) (by kernel_rfl) (fun _ _ _ h=>h) (Or.inl ⟨by rfl,?_⟩) (by assumption) ?_
    · intro w hSw
      (try dsimp only at hSw)
      go_simp
    refine put_at (d:=40) rfl ?_
    simp only [List.setIfInBounds_toArray,List.set_cons_zero,List.set_cons_succ]
    have f00:=f0 0
    have f10:=f0 1
    have f20:=f0 2
    have f30:=f0 3
    have f40:=f0 4
    have f50:=f0 5
    have f60:=f0 6
    have f70:=f0 7
    have f80:=f0 8
    refine wpAnyH_ready (rs:=[17]) (by kernel_rfl) (by simp) ?_
    refine AllReadyH.cons rfl (fun K hK=>?_) AllReadyH.nil
    simp only [List.getElem_toArray,List.getElem_cons_succ,List.getElem_cons_zero]
    go_simp
    refine hK.out _ _ ⟨(other9 lne).trans s0,(other9 lne).trans s1,(other9 lne).trans s2,(other9 lne).trans s3,(other9 lne).trans s4,(other9 lne).trans s5,(other9 lne).trans s6,(other9 lne).trans s7,(other9 lne).trans s8⟩ (fun hHeld=>?_)
    clear hK K
    refine wpAnyH_take (i:=18) (oi:=_) (v:=.bool false) rfl (by kernel_rfl) (by kernel_rfl) (by kernel_rfl) (fun _ _ _ h=>h) (Or.inl ⟨by rfl,?_⟩) (by assumption) ?_
    · intro w hSw
      (try dsimp only at hSw)
      go_simp
    refine put_at (d:=3) rfl ?_
    simp only [List.setIfInBounds_toArray,List.set_cons_zero,List.set_cons_succ]
    refine wpAnyH_done (by kernel_rfl) ?_ _
    have hq:=(putAll_bx (vs:=[.int .i64 au,.int .i64 sq,.int .i64 pv,.int .i64 x0,.int .i64 x1,.int .i64 x2,.int .i64 x3,.slice A' n c',.int .i64 sg]) (us:=[.int .i64 0,.int .i64 0,.int .i64 0,.int .i64 0,.int .i64 0,.int .i64 0,.int .i64 0,.slice none 0 0,.int .i64 0]) (w:=wt) (b:=w.heap.size+1) (by
      intro j hj
      match j,hj with
      | 0,_=>exact y0
      | 1,_=>exact y1
      | 2,_=>exact y2
      | 3,_=>exact y3
      | 4,_=>exact y4
      | 5,_=>exact y5
      | 6,_=>exact y6
      | 7,_=>exact y7
      | 8,_=>exact y8
      | j+9,hj=>exact absurd hj (by simp)) rfl)
    have hqo:∀q:Addr,q.block≠w.heap.size+1→(putAll (w.heap.size+1) 0 [.int .i64 au,.int .i64 sq,.int .i64 pv,.int .i64 x0,.int .i64 x1,.int .i64 x2,.int .i64 x3,.slice A' n c',.int .i64 sg] wt).cell? q=wt.cell? q:=fun q hq=>putAll_other hq
    have hqs:=putAll_size (b:=w.heap.size+1) (o:=0) (vs:=[.int .i64 au,.int .i64 sq,.int .i64 pv,.int .i64 x0,.int .i64 x1,.int .i64 x2,.int .i64 x3,.slice A' n c',.int .i64 sg]) (w:=wt)
    have hqb:=putAll_below (b:=w.heap.size+1) (o:=0) (vs:=[.int .i64 au,.int .i64 sq,.int .i64 pv,.int .i64 x0,.int .i64 x1,.int .i64 x2,.int .i64 x3,.slice A' n c',.int .i64 sg]) (HB6.out.trans (HRt.out.mono (show w.heap.size≤W6.heap.size by omega))) (show w.heap.size≤w.heap.size+1 by omega)
    obtain ⟨W9,hW9⟩:∃W9,W9=putAll (w.heap.size+1) 0 [.int .i64 au,.int .i64 sq,.int .i64 pv,.int .i64 x0,.int .i64 x1,.int .i64 x2,.int .i64 x3,.slice A' n c',.int .i64 sg] wt:=⟨_,rfl⟩
    rw [←hW9] at hq hqo hqs hqb
    simp only [putAll] at hW9
    rw [←hW9]
    have hzt:=HRt.out.size
    have r0:=hq 0 (by simp)
    have r1:=hq 1 (by simp)
    have r2:=hq 2 (by simp)
    have r3:=hq 3 (by simp)
    have r4:=hq 4 (by simp)
    have r5:=hq 5 (by simp)
    have r6:=hq 6 (by simp)
    have r7:=hq 7 (by simp)
    have r8:=hq 8 (by simp)
    simp only [List.getElem_cons_succ,List.getElem_cons_zero] at r0 r1 r2 r3 r4 r5 r6 r7 r8
    have HB9:=hd' hqb
    have HE9:=hd' (show treeB vec es=true→vec=[x0,x1,x2,x3]∧n=es.length∧EvsIn W9 w.heap.size W9.heap.size A' es from fun h=>by
      obtain ⟨h1,h2,h3⟩:=HTr6.out h
      refine ⟨h1,h2,((((h3.below (B:=w1.heap.size) (HRt.out.mono (by omega))).keep (w':=W9) fun q hq _=>hqo q (by omega)).low (by omega)).mono (by omega))⟩)
    have HFin:=hd' (show mb=false by rw [HM.out];rw [show decide (0≤sg)=false from decide_eq_false (by omega)];rfl)
    clear hq hqo hqs hqb hW9
    go_wp2_with fail
    refine bodyPost_ret (v:=.tuple #[.agg #[.int .i64 au,.int .i64 sq,.int .i64 pv,.int .i64 x0,.int .i64 x1,.int .i64 x2,.int .i64 x3,.slice A' n c',.int .i64 sg],.bool false]) (by simp [results,Tryz.results62,r0,r1,r2,r3,r4,r5,r6,r7,r8,go_sem]) rfl ?_
    exact ⟨x0,x1,x2,x3,A',n,c',by rw [←HMb.out,HFin.out],HE9.out,HB9.out⟩
  have q1n:0≤sg:=by omega
  clear q1
  by_cases q2:400≤sg
  · have q2m:¬ sg < 400:=by omega
    go_wp2_with fail
    refine held_n (S:=fun X=>X.cell? ⟨w1.heap.size+1,0,none⟩=some (.int .i64 au)∧X.cell? ⟨w1.heap.size+1,1,none⟩=some (.int .i64 sq)∧X.cell? ⟨w1.heap.size+1,2,none⟩=some (.int .i64 pv)∧X.cell? ⟨w1.heap.size+1,3,none⟩=some (.int .i64 x0)∧X.cell? ⟨w1.heap.size+1,4,none⟩=some (.int .i64 x1)∧X.cell? ⟨w1.heap.size+1,5,none⟩=some (.int .i64 x2)∧X.cell? ⟨w1.heap.size+1,6,none⟩=some (.int .i64 x3)∧X.cell? ⟨w1.heap.size+1,7,none⟩=some (.slice A' n c')∧X.cell? ⟨w1.heap.size+1,8,none⟩=some (.int .i64 sg)) 19 rfl (by kernel_rfl) ⟨t0,t1,t2,t3,t4,t5,t6,t7,t8⟩ (fun hHeld=>?_)
    try dsimp only at hHeld
    refine wpAnyH_take (i:=0) (oi:=_) (v:=.agg #[.int .i64 au,.int .i64 sq,.int .i64 pv,.int .i64 x0,.int .i64 x1,.int .i64 x2,.int .i64 x3,.slice A' n c',.int .i64 sg]) rfl (by kernel_rfl) (by kernel_rfl) (by kernel_rfl) (fun _ _ _ h=>h) (Or.inl ⟨by rfl,?_⟩) (by assumption) ?_
    · intro w hSw
      (try dsimp only at hSw)
      go_simp
    refine put_at (d:=24) rfl ?_
    simp only [List.setIfInBounds_toArray,List.set_cons_zero,List.set_cons_succ]
    refine wpAnyH_take (i:=1) (oi:=_) (v:=.bool true) rfl (by kernel_rfl) (by kernel_rfl) (by kernel_rfl) (fun _ _ _ h=>h) (Or.inl ⟨by rfl,?_⟩) (by assumption) ?_
    · intro w hSw
      (try dsimp only at hSw)
      go_simp
    refine put_at (d:=25) rfl ?_
    simp only [List.setIfInBounds_toArray,List.set_cons_zero,List.set_cons_succ]
    refine wpAnyH_take (i:=2) (oi:=_) (v:=.bool true) rfl (by kernel_rfl) (by kernel_rfl) (by kernel_rfl) (fun _ _ _ h=>h) (Or.inl ⟨by rfl,?_⟩) (by assumption) ?_
    · intro w hSw
      (try dsimp only at hSw)
      go_simp
    refine put_at (d:=26) rfl ?_
    simp only [List.setIfInBounds_toArray,List.set_cons_zero,List.set_cons_succ]
    refine wpAnyH_take (i:=3) (oi:=_) (v:=.pointer (some ⟨w1.heap.size+1,0,none⟩)) rfl (by kernel_rfl) (by kernel_rfl) (by kernel_rfl) (fun _ _ _ h=>h) (Or.inl ⟨by rfl,?_⟩) (by assumption) ?_
    · intro w hSw
      (try dsimp only at hSw)
      go_simp
    refine put_at (d:=27) rfl ?_
    simp only [List.setIfInBounds_toArray,List.set_cons_zero,List.set_cons_succ]
    refine wpAnyH_take (i:=4) (oi:=_) (v:=.agg #[.int .i64 au,.int .i64 sq,.int .i64 pv,.int .i64 x0,.int .i64 x1,.int .i64 x2,.int .i64 x3,.slice A' n c']) rfl (by kernel_rfl) (by kernel_rfl) (by kernel_rfl) (fun _ _ _ h=>h) (Or.inl ⟨by rfl,?_⟩) (by assumption) ?_
    · intro w hSw
      (try dsimp only at hSw)
      go_simp
    refine put_at (d:=28) rfl ?_
    simp only [List.setIfInBounds_toArray,List.set_cons_zero,List.set_cons_succ]
    refine wpAnyH_ready (rs:=[5]) (by kernel_rfl) (by simp) ?_
    refine AllReadyH.cons rfl (fun K hK=>?_) AllReadyH.nil
    simp only [List.getElem_toArray,List.getElem_cons_succ,List.getElem_cons_zero]
    go_simp
    refine (HSaid.out _).mono ?_
    rintro r wt ⟨rfl,hbt⟩
    have hbrt:Below W6.heap.size W6 wt:=(Below.refl W6.heap.size W6).drew.trans hbt
    obtain ⟨⟨s0,s1,s2,s3,s4,s5,s6,s7,s8⟩,⟨y0,y1,y2,y3,y4,y5,y6,y7,y8⟩,f0⟩:=HPack.out wt hbrt
    have HRt:=hd' hbrt
    clear hbt hbrt hHeld
    refine hK.out _ _ ⟨s0,s1,s2,s3,s4,s5,s6,s7,s8⟩ (fun hHeld=>?_)
    clear hK K
    try dsimp only at hHeld
    refine wpAnyH_take (i:=6) (oi:=_) (v:=.bool true) rfl (by kernel_rfl) (by kernel_rfl) (by kernel_rfl) (fun _ _ _ h=>h) (Or.inl ⟨by rfl,?_⟩) (by assumption) ?_
    · intro w hSw
      (try dsimp only at hSw)
      go_simp
    refine put_at (d:=30) rfl ?_
    simp only [List.setIfInBounds_toArray,List.set_cons_zero,List.set_cons_succ]
    refine wpAnyH_take (i:=7) (oi:=_) (v:=.bool true) rfl (by kernel_rfl) (by kernel_rfl) (by kernel_rfl) (fun _ _ _ h=>h) (Or.inl ⟨by rfl,?_⟩) (by assumption) ?_
    · intro w hSw
      (try dsimp only at hSw)
      go_simp
    refine put_at (d:=31) rfl ?_
    simp only [List.setIfInBounds_toArray,List.set_cons_zero,List.set_cons_succ]
    refine wpAnyH_take (i:=8) (oi:=_) (v:=.pointer (some ⟨w1.heap.size+1,8,none⟩)) rfl (by kernel_rfl) (by kernel_rfl) (by kernel_rfl) (fun _ _ _ h=>h) (Or.inl ⟨by rfl,?_⟩) (by assumption) ?_
    · intro w hSw
      (try dsimp only at hSw)
      go_simp
    refine put_at (d:=32) rfl ?_
    simp only [List.setIfInBounds_toArray,List.set_cons_zero,List.set_cons_succ]
    refine wpAnyH_take (i:=9) (oi:=_) (v:=.int .i64 sg) rfl (by kernel_rfl) (by kernel_rfl) (by kernel_rfl) (fun _ _ _ h=>h) (Or.inl ⟨by rfl,?_⟩) (by assumption) ?_
    · intro w hSw
      (try dsimp only at hSw)
      go_simp
    refine put_at (d:=33) rfl ?_
    simp only [List.setIfInBounds_toArray,List.set_cons_zero,List.set_cons_succ]
    refine wpAnyH_take (i:=10) (oi:=_) (v:=.bool true) rfl (by kernel_rfl) (by kernel_rfl) (by kernel_rfl) (fun _ _ _ h=>h) (Or.inl ⟨by rfl,?_⟩) (by assumption) ?_
    · intro w hSw
      (try dsimp only at hSw)
      go_simp
    refine put_at (d:=34) rfl ?_
    simp only [List.setIfInBounds_toArray,List.set_cons_zero,List.set_cons_succ]
    refine wpAnyH_take (i:=11) (oi:=_) (v:=.bool true) rfl (by kernel_rfl) (by kernel_rfl) (by kernel_rfl) (fun _ _ _ h=>h) (Or.inl ⟨by rfl,?_⟩) (by assumption) ?_
    · intro w hSw
      (try dsimp only at hSw)
      go_simp
    refine put_at (d:=35) rfl ?_
    simp only [List.setIfInBounds_toArray,List.set_cons_zero,List.set_cons_succ]
    refine wpAnyH_take (i:=12) (oi:=_) (v:=.bool true) rfl (by kernel_rfl) (by kernel_rfl) (by kernel_rfl) (fun _ _ _ h=>h) (Or.inl ⟨by rfl,?_⟩) (by assumption) ?_
    · intro w hSw
      (try dsimp only at hSw)
      go_simp
    refine put_at (d:=36) rfl ?_
    simp only [List.setIfInBounds_toArray,List.set_cons_zero,List.set_cons_succ]
    refine wpAnyH_take (i:=13) (oi:=_) (v:=.pointer (some ⟨w1.heap.size+1,8,none⟩)) rfl (by kernel_rfl) (by kernel_rfl) (by kernel_rfl) (fun _ _ _ h=>h) (Or.inl ⟨by rfl,?_⟩) (by assumption) ?_
    · intro w hSw
      (try dsimp only at hSw)
      go_simp
    refine put_at (d:=37) rfl ?_
    simp only [List.setIfInBounds_toArray,List.set_cons_zero,List.set_cons_succ]
    refine wpAnyH_take (i:=14) (oi:=_) (v:=.int .i64 sg) rfl (by kernel_rfl) (by kernel_rfl) (by kernel_rfl) (fun _ _ _ h=>h) (Or.inl ⟨by rfl,?_⟩) (by assumption) ?_
    · intro w hSw
      (try dsimp only at hSw)
      go_simp
    refine put_at (d:=38) rfl ?_
    simp only [List.setIfInBounds_toArray,List.set_cons_zero,List.set_cons_succ]
    refine wpAnyH_take (i:=15) (oi:=_) (v:=.bool false) rfl (by kernel_rfl) (by kernel_rfl) (by kernel_rfl) (fun _ _ _ h=>h) (Or.inl ⟨by rfl,?_⟩) (by assumption) ?_
    · intro w hSw
      (try dsimp only at hSw)
      go_simp
    refine put_at (d:=39) rfl ?_
    simp only [List.setIfInBounds_toArray,List.set_cons_zero,List.set_cons_succ]
    refine wpAnyH_take (i:=16) (oi:=_) (v:=.bool false) rfl (by kernel_rfl) (by kernel_rfl) (by kernel_rfl) (fun _ _ _ h=>h) (Or.inl ⟨by rfl,?_⟩) (by assumption) ?_
    · intro w hSw
      (try dsimp only at hSw)
      go_simp
    refine put_at (d:=40) rfl ?_
    simp only [List.setIfInBounds_toArray,List.set_cons_zero,List.set_cons_succ]
    have f00:=f0 0
    have f10:=f0 1
    have f20:=f0 2
    have f30:=f0 3
    have f40:=f0 4
    have f50:=f0 5
    have f60:=f0 6
    have f70:=f0 7
    have f80:=f0 8
    refine wpAnyH_ready (rs:=[17]) (by kernel_rfl) (by simp) ?_
    refine AllReadyH.cons rfl (fun K hK=>?_) AllReadyH.nil
    simp only [List.getElem_toArray,List.getElem_cons_succ,List.getElem_cons_zero]
    go_simp
    refine hK.out _ _ ⟨(other9 lne).trans s0,(other9 lne).trans s1,(other9 lne).trans s2,(other9 lne).trans s3,(other9 lne).trans s4,(other9 lne).trans s5,(other9 lne).trans s6,(other9 lne).trans s7,(other9 lne).trans s8⟩ (fun hHeld=>?_)
    clear hK K
    refine wpAnyH_take (i:=18) (oi:=_) (v:=.bool false) rfl (by kernel_rfl) (by kernel_rfl) (by kernel_rfl) (fun _ _ _ h=>h) (Or.inl ⟨by rfl,?_⟩) (by assumption) ?_
    · intro w hSw
      (try dsimp only at hSw)
      go_simp
    refine put_at (d:=3) rfl ?_
    simp only [List.setIfInBounds_toArray,List.set_cons_zero,List.set_cons_succ]
    refine wpAnyH_done (by kernel_rfl) ?_ _
    have hq:=(putAll_bx (vs:=[.int .i64 au,.int .i64 sq,.int .i64 pv,.int .i64 x0,.int .i64 x1,.int .i64 x2,.int .i64 x3,.slice A' n c',.int .i64 sg]) (us:=[.int .i64 0,.int .i64 0,.int .i64 0,.int .i64 0,.int .i64 0,.int .i64 0,.int .i64 0,.slice none 0 0,.int .i64 0]) (w:=wt) (b:=w.heap.size+1) (by
      intro j hj
      match j,hj with
      | 0,_=>exact y0
      | 1,_=>exact y1
      | 2,_=>exact y2
      | 3,_=>exact y3
      | 4,_=>exact y4
      | 5,_=>exact y5
      | 6,_=>exact y6
      | 7,_=>exact y7
      | 8,_=>exact y8
      | j+9,hj=>exact absurd hj (by simp)) rfl)
    have hqo:∀q:Addr,q.block≠w.heap.size+1→(putAll (w.heap.size+1) 0 [.int .i64 au,.int .i64 sq,.int .i64 pv,.int .i64 x0,.int .i64 x1,.int .i64 x2,.int .i64 x3,.slice A' n c',.int .i64 sg] wt).cell? q=wt.cell? q:=fun q hq=>putAll_other hq
    have hqs:=putAll_size (b:=w.heap.size+1) (o:=0) (vs:=[.int .i64 au,.int .i64 sq,.int .i64 pv,.int .i64 x0,.int .i64 x1,.int .i64 x2,.int .i64 x3,.slice A' n c',.int .i64 sg]) (w:=wt)
    have hqb:=putAll_below (b:=w.heap.size+1) (o:=0) (vs:=[.int .i64 au,.int .i64 sq,.int .i64 pv,.int .i64 x0,.int .i64 x1,.int .i64 x2,.int .i64 x3,.slice A' n c',.int .i64 sg]) (HB6.out.trans (HRt.out.mono (show w.heap.size≤W6.heap.size by omega))) (show w.heap.size≤w.heap.size+1 by omega)
    obtain ⟨W9,hW9⟩:∃W9,W9=putAll (w.heap.size+1) 0 [.int .i64 au,.int .i64 sq,.int .i64 pv,.int .i64 x0,.int .i64 x1,.int .i64 x2,.int .i64 x3,.slice A' n c',.int .i64 sg] wt:=⟨_,rfl⟩
    rw [←hW9] at hq hqo hqs hqb
    simp only [putAll] at hW9
    rw [←hW9]
    have hzt:=HRt.out.size
    have r0:=hq 0 (by simp)
    have r1:=hq 1 (by simp)
    have r2:=hq 2 (by simp)
    have r3:=hq 3 (by simp)
    have r4:=hq 4 (by simp)
    have r5:=hq 5 (by simp)
    have r6:=hq 6 (by simp)
    have r7:=hq 7 (by simp)
    have r8:=hq 8 (by simp)
    simp only [List.getElem_cons_succ,List.getElem_cons_zero] at r0 r1 r2 r3 r4 r5 r6 r7 r8
    have HB9:=hd' hqb
    have HE9:=hd' (show treeB vec es=true→vec=[x0,x1,x2,x3]∧n=es.length∧EvsIn W9 w.heap.size W9.heap.size A' es from fun h=>by
      obtain ⟨h1,h2,h3⟩:=HTr6.out h
      refine ⟨h1,h2,((((h3.below (B:=w1.heap.size) (HRt.out.mono (by omega))).keep (w':=W9) fun q hq _=>hqo q (by omega)).low (by omega)).mono (by omega))⟩)
    have HFin:=hd' (show mb=false by rw [HM.out];rw [show decide (sg < 400)=false from decide_eq_false (by omega)];simp)
    clear hq hqo hqs hqb hW9
    go_wp2_with fail
    refine bodyPost_ret (v:=.tuple #[.agg #[.int .i64 au,.int .i64 sq,.int .i64 pv,.int .i64 x0,.int .i64 x1,.int .i64 x2,.int .i64 x3,.slice A' n c',.int .i64 sg],.bool false]) (by simp [results,Tryz.results62,r0,r1,r2,r3,r4,r5,r6,r7,r8,go_sem]) rfl ?_
    exact ⟨x0,x1,x2,x3,A',n,c',by rw [←HMb.out,HFin.out],HE9.out,HB9.out⟩
  have q2n:sg < 400:=by omega
  clear q2
  go_wp2_with fail
  refine held_n (S:=fun X=>X.cell? ⟨w1.heap.size+1,0,none⟩=some (.int .i64 au)∧X.cell? ⟨w1.heap.size+1,1,none⟩=some (.int .i64 sq)∧X.cell? ⟨w1.heap.size+1,2,none⟩=some (.int .i64 pv)∧X.cell? ⟨w1.heap.size+1,3,none⟩=some (.int .i64 x0)∧X.cell? ⟨w1.heap.size+1,4,none⟩=some (.int .i64 x1)∧X.cell? ⟨w1.heap.size+1,5,none⟩=some (.int .i64 x2)∧X.cell? ⟨w1.heap.size+1,6,none⟩=some (.int .i64 x3)∧X.cell? ⟨w1.heap.size+1,7,none⟩=some (.slice A' n c')∧X.cell? ⟨w1.heap.size+1,8,none⟩=some (.int .i64 sg)) 19 rfl (by kernel_rfl) ⟨t0,t1,t2,t3,t4,t5,t6,t7,t8⟩ (fun hHeld=>?_)
  try dsimp only at hHeld
  refine wpAnyH_take (i:=0) (oi:=_) (v:=.agg #[.int .i64 au,.int .i64 sq,.int .i64 pv,.int .i64 x0,.int .i64 x1,.int .i64 x2,.int .i64 x3,.slice A' n c',.int .i64 sg]) rfl (by kernel_rfl) (by kernel_rfl) (by kernel_rfl) (fun _ _ _ h=>h) (Or.inl ⟨by rfl,?_⟩) (by assumption) ?_
  · intro w hSw
    (try dsimp only at hSw)
    go_simp
  refine put_at (d:=24) rfl ?_
  simp only [List.setIfInBounds_toArray,List.set_cons_zero,List.set_cons_succ]
  refine wpAnyH_take (i:=1) (oi:=_) (v:=.bool true) rfl (by kernel_rfl) (by kernel_rfl) (by kernel_rfl) (fun _ _ _ h=>h) (Or.inl ⟨by rfl,?_⟩) (by assumption) ?_
  · intro w hSw
    (try dsimp only at hSw)
    go_simp
  refine put_at (d:=25) rfl ?_
  simp only [List.setIfInBounds_toArray,List.set_cons_zero,List.set_cons_succ]
  refine wpAnyH_take (i:=2) (oi:=_) (v:=.bool true) rfl (by kernel_rfl) (by kernel_rfl) (by kernel_rfl) (fun _ _ _ h=>h) (Or.inl ⟨by rfl,?_⟩) (by assumption) ?_
  · intro w hSw
    (try dsimp only at hSw)
    go_simp
  refine put_at (d:=26) rfl ?_
  simp only [List.setIfInBounds_toArray,List.set_cons_zero,List.set_cons_succ]
  refine wpAnyH_take (i:=3) (oi:=_) (v:=.pointer (some ⟨w1.heap.size+1,0,none⟩)) rfl (by kernel_rfl) (by kernel_rfl) (by kernel_rfl) (fun _ _ _ h=>h) (Or.inl ⟨by rfl,?_⟩) (by assumption) ?_
  · intro w hSw
    (try dsimp only at hSw)
    go_simp
  refine put_at (d:=27) rfl ?_
  simp only [List.setIfInBounds_toArray,List.set_cons_zero,List.set_cons_succ]
  refine wpAnyH_take (i:=4) (oi:=_) (v:=.agg #[.int .i64 au,.int .i64 sq,.int .i64 pv,.int .i64 x0,.int .i64 x1,.int .i64 x2,.int .i64 x3,.slice A' n c']) rfl (by kernel_rfl) (by kernel_rfl) (by kernel_rfl) (fun _ _ _ h=>h) (Or.inl ⟨by rfl,?_⟩) (by assumption) ?_
  · intro w hSw
    (try dsimp only at hSw)
    go_simp
  refine put_at (d:=28) rfl ?_
  simp only [List.setIfInBounds_toArray,List.set_cons_zero,List.set_cons_succ]
  refine wpAnyH_ready (rs:=[5]) (by kernel_rfl) (by simp) ?_
  refine AllReadyH.cons rfl (fun K hK=>?_) AllReadyH.nil
  simp only [List.getElem_toArray,List.getElem_cons_succ,List.getElem_cons_zero]
  go_simp
  refine (HSaid.out _).mono ?_
  rintro r wt ⟨rfl,hbt⟩
  have hbrt:Below W6.heap.size W6 wt:=(Below.refl W6.heap.size W6).drew.trans hbt
  obtain ⟨⟨s0,s1,s2,s3,s4,s5,s6,s7,s8⟩,⟨y0,y1,y2,y3,y4,y5,y6,y7,y8⟩,f0⟩:=HPack.out wt hbrt
  have HRt:=hd' hbrt
  clear hbt hbrt hHeld
  refine hK.out _ _ ⟨s0,s1,s2,s3,s4,s5,s6,s7,s8⟩ (fun hHeld=>?_)
  clear hK K
  try dsimp only at hHeld
  refine wpAnyH_take (i:=6) (oi:=_) (v:=.bool true) rfl (by kernel_rfl) (by kernel_rfl) (by kernel_rfl) (fun _ _ _ h=>h) (Or.inl ⟨by rfl,?_⟩) (by assumption) ?_
  · intro w hSw
    (try dsimp only at hSw)
    go_simp
  refine put_at (d:=30) rfl ?_
  simp only [List.setIfInBounds_toArray,List.set_cons_zero,List.set_cons_succ]
  refine wpAnyH_take (i:=7) (oi:=_) (v:=.bool true) rfl (by kernel_rfl) (by kernel_rfl) (by kernel_rfl) (fun _ _ _ h=>h) (Or.inl ⟨by rfl,?_⟩) (by assumption) ?_
  · intro w hSw
    (try dsimp only at hSw)
    go_simp
  refine put_at (d:=31) rfl ?_
  simp only [List.setIfInBounds_toArray,List.set_cons_zero,List.set_cons_succ]
  refine wpAnyH_take (i:=8) (oi:=_) (v:=.pointer (some ⟨w1.heap.size+1,8,none⟩)) rfl (by kernel_rfl) (by kernel_rfl) (by kernel_rfl) (fun _ _ _ h=>h) (Or.inl ⟨by rfl,?_⟩) (by assumption) ?_
  · intro w hSw
    (try dsimp only at hSw)
    go_simp
  refine put_at (d:=32) rfl ?_
  simp only [List.setIfInBounds_toArray,List.set_cons_zero,List.set_cons_succ]
  refine wpAnyH_take (i:=9) (oi:=_) (v:=.int .i64 sg) rfl (by kernel_rfl) (by kernel_rfl) (by kernel_rfl) (fun _ _ _ h=>h) (Or.inl ⟨by rfl,?_⟩) (by assumption) ?_
  · intro w hSw
    (try dsimp only at hSw)
    go_simp
  refine put_at (d:=33) rfl ?_
  simp only [List.setIfInBounds_toArray,List.set_cons_zero,List.set_cons_succ]
  refine wpAnyH_take (i:=10) (oi:=_) (v:=.bool true) rfl (by kernel_rfl) (by kernel_rfl) (by kernel_rfl) (fun _ _ _ h=>h) (Or.inl ⟨by rfl,?_⟩) (by assumption) ?_
  · intro w hSw
    (try dsimp only at hSw)
    go_simp
  refine put_at (d:=34) rfl ?_
  simp only [List.setIfInBounds_toArray,List.set_cons_zero,List.set_cons_succ]
  refine wpAnyH_take (i:=11) (oi:=_) (v:=.bool true) rfl (by kernel_rfl) (by kernel_rfl) (by kernel_rfl) (fun _ _ _ h=>h) (Or.inl ⟨by rfl,?_⟩) (by assumption) ?_
  · intro w hSw
    (try dsimp only at hSw)
    go_simp
  refine put_at (d:=35) rfl ?_
  simp only [List.setIfInBounds_toArray,List.set_cons_zero,List.set_cons_succ]
  refine wpAnyH_take (i:=12) (oi:=_) (v:=.bool true) rfl (by kernel_rfl) (by kernel_rfl) (by kernel_rfl) (fun _ _ _ h=>h) (Or.inl ⟨by rfl,?_⟩) (by assumption) ?_
  · intro w hSw
    (try dsimp only at hSw)
    go_simp
  refine put_at (d:=36) rfl ?_
  simp only [List.setIfInBounds_toArray,List.set_cons_zero,List.set_cons_succ]
  refine wpAnyH_take (i:=13) (oi:=_) (v:=.pointer (some ⟨w1.heap.size+1,8,none⟩)) rfl (by kernel_rfl) (by kernel_rfl) (by kernel_rfl) (fun _ _ _ h=>h) (Or.inl ⟨by rfl,?_⟩) (by assumption) ?_
  · intro w hSw
    (try dsimp only at hSw)
    go_simp
  refine put_at (d:=37) rfl ?_
  simp only [List.setIfInBounds_toArray,List.set_cons_zero,List.set_cons_succ]
  refine wpAnyH_take (i:=14) (oi:=_) (v:=.int .i64 sg) rfl (by kernel_rfl) (by kernel_rfl) (by kernel_rfl) (fun _ _ _ h=>h) (Or.inl ⟨by rfl,?_⟩) (by assumption) ?_
  · intro w hSw
    (try dsimp only at hSw)
    go_simp
  refine put_at (d:=38) rfl ?_
  simp only [List.setIfInBounds_toArray,List.set_cons_zero,List.set_cons_succ]
  refine wpAnyH_take (i:=15) (oi:=_) (v:=.bool true) rfl (by kernel_rfl) (by kernel_rfl) (by kernel_rfl) (fun _ _ _ h=>h) (Or.inl ⟨by rfl,?_⟩) (by assumption) ?_
  · intro w hSw
    (try dsimp only at hSw)
    go_simp
  refine put_at (d:=39) rfl ?_
  simp only [List.setIfInBounds_toArray,List.set_cons_zero,List.set_cons_succ]
  refine wpAnyH_take (i:=16) (oi:=_) (v:=.bool true) rfl (by kernel_rfl) (by kernel_rfl) (by kernel_rfl) (fun _ _ _ h=>h) (Or.inl ⟨by rfl,?_⟩) (by assumption) ?_
  · intro w hSw
    (try dsimp only at hSw)
    go_simp
  refine put_at (d:=40) rfl ?_
  simp only [List.setIfInBounds_toArray,List.set_cons_zero,List.set_cons_succ]
  have f00:=f0 0
  have f10:=f0 1
  have f20:=f0 2
  have f30:=f0 3
  have f40:=f0 4
  have f50:=f0 5
  have f60:=f0 6
  have f70:=f0 7
  have f80:=f0 8
  refine wpAnyH_ready (rs:=[17]) (by kernel_rfl) (by simp) ?_
  refine AllReadyH.cons rfl (fun K hK=>?_) AllReadyH.nil
  simp only [List.getElem_toArray,List.getElem_cons_succ,List.getElem_cons_zero]
  go_simp
  refine hK.out _ _ ⟨(other9 lne).trans s0,(other9 lne).trans s1,(other9 lne).trans s2,(other9 lne).trans s3,(other9 lne).trans s4,(other9 lne).trans s5,(other9 lne).trans s6,(other9 lne).trans s7,(other9 lne).trans s8⟩ (fun hHeld=>?_)
  clear hK K
  refine wpAnyH_take (i:=18) (oi:=_) (v:=.bool true) rfl (by kernel_rfl) (by kernel_rfl) (by kernel_rfl) (fun _ _ _ h=>h) (Or.inl ⟨by rfl,?_⟩) (by assumption) ?_
  · intro w hSw
    (try dsimp only at hSw)
    go_simp
  refine put_at (d:=3) rfl ?_
  simp only [List.setIfInBounds_toArray,List.set_cons_zero,List.set_cons_succ]
  refine wpAnyH_done (by kernel_rfl) ?_ _
  have hq:=(putAll_bx (vs:=[.int .i64 au,.int .i64 sq,.int .i64 pv,.int .i64 x0,.int .i64 x1,.int .i64 x2,.int .i64 x3,.slice A' n c',.int .i64 sg]) (us:=[.int .i64 0,.int .i64 0,.int .i64 0,.int .i64 0,.int .i64 0,.int .i64 0,.int .i64 0,.slice none 0 0,.int .i64 0]) (w:=wt) (b:=w.heap.size+1) (by
    intro j hj
    match j,hj with
    | 0,_=>exact y0
    | 1,_=>exact y1
    | 2,_=>exact y2
    | 3,_=>exact y3
    | 4,_=>exact y4
    | 5,_=>exact y5
    | 6,_=>exact y6
    | 7,_=>exact y7
    | 8,_=>exact y8
    | j+9,hj=>exact absurd hj (by simp)) rfl)
  have hqo:∀q:Addr,q.block≠w.heap.size+1→(putAll (w.heap.size+1) 0 [.int .i64 au,.int .i64 sq,.int .i64 pv,.int .i64 x0,.int .i64 x1,.int .i64 x2,.int .i64 x3,.slice A' n c',.int .i64 sg] wt).cell? q=wt.cell? q:=fun q hq=>putAll_other hq
  have hqs:=putAll_size (b:=w.heap.size+1) (o:=0) (vs:=[.int .i64 au,.int .i64 sq,.int .i64 pv,.int .i64 x0,.int .i64 x1,.int .i64 x2,.int .i64 x3,.slice A' n c',.int .i64 sg]) (w:=wt)
  have hqb:=putAll_below (b:=w.heap.size+1) (o:=0) (vs:=[.int .i64 au,.int .i64 sq,.int .i64 pv,.int .i64 x0,.int .i64 x1,.int .i64 x2,.int .i64 x3,.slice A' n c',.int .i64 sg]) (HB6.out.trans (HRt.out.mono (show w.heap.size≤W6.heap.size by omega))) (show w.heap.size≤w.heap.size+1 by omega)
  obtain ⟨W9,hW9⟩:∃W9,W9=putAll (w.heap.size+1) 0 [.int .i64 au,.int .i64 sq,.int .i64 pv,.int .i64 x0,.int .i64 x1,.int .i64 x2,.int .i64 x3,.slice A' n c',.int .i64 sg] wt:=⟨_,rfl⟩
  rw [←hW9] at hq hqo hqs hqb
  simp only [putAll] at hW9
  rw [←hW9]
  have hzt:=HRt.out.size
  have r0:=hq 0 (by simp)
  have r1:=hq 1 (by simp)
  have r2:=hq 2 (by simp)
  have r3:=hq 3 (by simp)
  have r4:=hq 4 (by simp)
  have r5:=hq 5 (by simp)
  have r6:=hq 6 (by simp)
  have r7:=hq 7 (by simp)
  have r8:=hq 8 (by simp)
  simp only [List.getElem_cons_succ,List.getElem_cons_zero] at r0 r1 r2 r3 r4 r5 r6 r7 r8
  have HB9:=hd' hqb
  have HE9:=hd' (show treeB vec es=true→vec=[x0,x1,x2,x3]∧n=es.length∧EvsIn W9 w.heap.size W9.heap.size A' es from fun h=>by
    obtain ⟨h1,h2,h3⟩:=HTr6.out h
    refine ⟨h1,h2,((((h3.below (B:=w1.heap.size) (HRt.out.mono (by omega))).keep (w':=W9) fun q hq _=>hqo q (by omega)).low (by omega)).mono (by omega))⟩)
  have HFin:=hd' (show mb=true by rw [HM.out];simp [q1n,q2n])
  clear hq hqo hqs hqb hW9
  go_wp2_with fail
  refine bodyPost_ret (v:=.tuple #[.agg #[.int .i64 au,.int .i64 sq,.int .i64 pv,.int .i64 x0,.int .i64 x1,.int .i64 x2,.int .i64 x3,.slice A' n c',.int .i64 sg],.bool true]) (by simp [results,Tryz.results62,r0,r1,r2,r3,r4,r5,r6,r7,r8,go_sem]) rfl ?_
  exact ⟨x0,x1,x2,x3,A',n,c',by rw [←HMb.out,HFin.out],HE9.out,HB9.out⟩
end Go.Proofs.YtckajeippfpojaaGreat
