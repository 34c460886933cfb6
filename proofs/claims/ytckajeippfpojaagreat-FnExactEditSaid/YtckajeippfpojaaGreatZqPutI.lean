import Derived.Test.YtckajeippfpojaaGreatZqPutP
import Derived.Test.YtckajeippfpojaaGreatZqGSf
import Derived.Test.YtckajeippfpojaaGreatZqThoO
import Derived.Test.YtckajeippfpojaaGreatZqFit
import Derived.Test.YtckajeippfpojaaGreatZqNameS
import Derived.Test.YtckajeippfpojaaGreatZqStep
import Derived.Deep.RegionLaw
namespace Go.Proofs.YtckajeippfpojaaGreat
open Go.RowKit Go.Maps
theorem puV_get {vec:List Int} {j i:Nat} (hj:j < vec.length) (hi:i < vec.length):(puV vec (j:Int)).getD i 0=if i=j then vec.getD j 0+1 else vec.getD i 0:=by
  unfold puV
  rw [Int.toNat_natCast,List.getD_eq_getElem?_getD,List.getD_eq_getElem?_getD,List.getD_eq_getElem?_getD,List.getElem?_set]
  by_cases h:j=i
  · subst h;simp [hj]
  · rw [if_neg h,if_neg (fun e=>h e.symm)]
theorem own_one4e {w:World} {base g:Nat} {e:TypeId} {v0 v1 v2 v3:Value} (hg:base≤g) (hb:w.heap[g]?=some (.cells #[v0,v1,v2,v3] e (0,0))):w.ownsRow base e 4 (.slice (some ⟨g,0,none⟩) 1 1) 1 [v0,v1,v2,v3] :=
  ⟨by simp,.inr ⟨g,1,_,rfl,hg,hb,Nat.le_refl _,by unfold maxLen;omega,by simp,by simp⟩⟩
theorem own_setBelow {w:World} {base:Nat} {e:TypeId} {size n:Nat} {v:Value} {xs:List Value} (h:w.ownsRow base e size v n xs) {a:Addr} (ha:a.block < base) (u:Value):(w.setCell a u).ownsRow base e size v n xs:=by
  obtain ⟨h0,hh|⟨g,cap,cur,hv,hg,hb,hr⟩⟩:=h
  · exact ⟨h0,.inl hh⟩
  · exact ⟨h0,.inr ⟨g,cap,cur,hv,hg,(Below.heap_setCell _ _ _ _ (by omega)).trans hb,hr⟩⟩
theorem pu_no {vec:List Int} {es:List En} {b val:Int} {l:List UInt8} (h:puOk vec es b l val=false):puVec vec es b l val=[]∧puEs vec es b l val=[]∧puOk vec es b l val=false :=
  ⟨by unfold puVec;rw [if_neg (by simp [h])],by unfold puEs;rw [if_neg (by simp [h])],h⟩
structure P5 (W4:World) (bt base:Nat) (v0 v1 v2 v3:Int) (sl:Value) (j:Nat) (y:Int) (X:World):Prop where
  c:Bx X bt [.int .i64 v0,.int .i64 v1,.int .i64 v2,.int .i64 v3,sl]
  cj:X.cell? ⟨bt,j,none⟩=some (.int .i64 y)
  f:∀o,X.frozen? ⟨bt,o,none⟩=false
  bel:Below base W4 X
  lt:bt < base
  le:base≤X.heap.size
section
variable {W4 X Y:World} {bt base j:Nat} {v0 v1 v2 v3 y:Int} {sl:Value}
theorem P5.below (h:P5 W4 bt base v0 v1 v2 v3 sl j y X) (hb:Below X.heap.size X Y):P5 W4 bt base v0 v1 v2 v3 sl j y Y :=
  have hl:=h.lt
  have he:=h.le
  ⟨h.c.below hb (by omega),(hb.cell (p:=⟨bt,j,none⟩) (by show bt < _;omega)).trans h.cj,fun o=>(hb.frozen (p:=⟨bt,o,none⟩) (by show bt < _;omega)).trans (h.f o),h.bel.trans (hb.mono he),hl,Nat.le_trans he hb.size⟩
theorem P5.alloc (h:P5 W4 bt base v0 v1 v2 v3 sl j y X) (o:Obj):P5 W4 bt base v0 v1 v2 v3 sl j y (X.alloc o):=h.below ((Below.refl _ _).alloc (Nat.le_refl _) o)
theorem P5.drew (h:P5 W4 bt base v0 v1 v2 v3 sl j y X):P5 W4 bt base v0 v1 v2 v3 sl j y X.drew:=h.below (Below.refl _ _).drew
theorem P5.grown (h:P5 W4 bt base v0 v1 v2 v3 sl j y X) {row:Option Nat} (hg:X.grownBy Y row) (hr:∀k,row=some k→base≤k):P5 W4 bt base v0 v1 v2 v3 sl j y Y:=by
  have hl:=h.lt
  have he:=h.le
  have hblk:Y.heap[bt]?=X.heap[bt]?:=hg.block bt (by omega) (fun e=>by have:=hr bt e.symm;omega)
  exact ⟨fun i hi=>(World.cell?_of_block hblk).trans (h.c i hi),(World.cell?_of_block hblk).trans h.cj,fun o=>(World.frozen?_of_block hblk).trans (h.f o),h.bel.grown hg he (fun k hk=>hr k hk),hl,Nat.le_trans he hg.size⟩
end
theorem heap_newE {w:World} {n:Nat} (o:Obj) (h:w.heap.size=n):(w.alloc o).heap[n]?=some o:=by
  subst h
  exact heap_alloc_new w o
theorem heap_drewE {w:World} {n:Nat} {x:Obj} (h:w.heap[n]?=some x):w.drew.heap[n]?=some x:=h
set_option maxRecDepth 100000 in
set_option maxHeartbeats 4000000 in
theorem implPut_any (AV:Option Addr) (vec:List Int) (cv:Nat) (A:Option Addr) (es:List En) (c:Nat) (b:Int) (Ab:Option Addr) (l:List UInt8) (cb:Nat) (val:Int) (w:World) (hV:IntsIn w 0 w.heap.size AV vec) (hA:EnsIn w 0 w.heap.size A es) (_hv:vec.length≤1048576) (hn:es.length≤1048576) (hbk:ebulk es≤1048576) (hB:BytesIn w 0 w.heap.size Ab l) (hbl:l.length≤1048576) :
    Calls Tryz.prog 82 #[.agg #[.slice AV vec.length cv,.slice A es.length c],.int .i64 b,.slice Ab l.length cb,.int .i64 val] w (NewTrB (puVec vec es b l val) (puEs vec es b l val) (puOk vec es b l val) w):=by
  have HV:=hd' hV
  have HA:=hd' hA
  have HB:=hd' hB
  clear hV hA hB
  go_enter Tryz.func82,Tryz.ntmps82
  go_wp2_with fail
  obtain ⟨W0,hW0⟩:∃W0,W0=w.alloc (.cells #[.slice AV vec.length cv,.slice A es.length c] 38):=⟨_,rfl⟩
  obtain ⟨W,hW⟩:∃W,W=W0.alloc (.cells #[.slice none 0 0,.slice none 0 0] 38):=⟨_,rfl⟩
  have hz0:W0.heap.size=w.heap.size+1:=by rw [hW0];simp
  have hz:w.heap.size+1 < W.heap.size:=by rw [hW];simp [hz0]
  have HX:=hd' (show Bx W (w.heap.size+1) [.slice none 0 0,.slice none 0 0] by rw [hW,←hz0];exact Bx.new' _ _ _ _ rfl)
  have HF:=hd' (show ∀o,W.frozen? ⟨w.heap.size+1,o,none⟩=false from fun o=>by rw [hW,hW0];exact (((Fresh.refl w).alloc _ _).alloc _ _) ⟨w.heap.size+1,o,none⟩ (by show w.heap.size≤w.heap.size+1;omega))
  have HBel:=hd' (show Below w.heap.size w W by rw [hW,hW0];exact ((Below.refl _ _).alloc (Nat.le_refl _) _).alloc (by simp) _)
  rw [←hW0,←hW]
  clear hW hW0 hz0
  refine (readTree_any AV vec cv A es c W ((HV.out.keep fun p _ hp=>HBel.out.cell hp).mono (by omega)) ((HA.out.below HBel.out).mono (by omega)) hn hbk).mono ?_
  rintro e w1 ⟨x0,x1,x2,x3,A',n,c',rfl,htr,hb1⟩
  have hz1:=hb1.size
  have lw1:w.heap.size+1 < w1.heap.size:=by omega
  obtain ⟨W2,hW2⟩:∃W2,W2=w1.alloc (.cells #[.int .i64 x0,.int .i64 x1,.int .i64 x2,.int .i64 x3,.slice A' n c'] 101):=⟨_,rfl⟩
  have hb2:Below w1.heap.size w1 W2:=by rw [hW2];exact (Below.refl _ _).alloc (Nat.le_refl _) _
  have hz2:w1.heap.size < W2.heap.size:=by rw [hW2];simp
  have HY:=hd' (show Bx W2 w1.heap.size [.int .i64 x0,.int .i64 x1,.int .i64 x2,.int .i64 x3,.slice A' n c'] by rw [hW2];exact Bx.new' _ _ _ _ rfl)
  have HYF:=hd' (show ∀o,W2.frozen? ⟨w1.heap.size,o,none⟩=false from fun o=>by rw [hW2];exact ((Fresh.refl w1).alloc _ _) ⟨w1.heap.size,o,none⟩ (Nat.le_refl _))
  have HB2:=hd' (show Below w.heap.size w W2 from (HBel.out.trans (hb1.mono (by omega))).trans (hb2.mono (by omega)))
  have HRes:=hd' (fun (X:World) (hX:Below w1.heap.size W2 X)=>show (X.cell? ⟨w.heap.size+1,0,none⟩=some (.slice none 0 0)∧X.cell? ⟨w.heap.size+1,1,none⟩=some (.slice none 0 0))∧X.frozen? ⟨w.heap.size+1,0,none⟩=false∧X.frozen? ⟨w.heap.size+1,1,none⟩=false from by
    have hc:∀o,X.cell? ⟨w.heap.size+1,o,none⟩=W.cell? ⟨w.heap.size+1,o,none⟩:=fun o=>(hX.cell (p:=⟨w.heap.size+1,o,none⟩) (by show w.heap.size+1 < _;omega)).trans ((hb2.cell (p:=⟨w.heap.size+1,o,none⟩) (by show w.heap.size+1 < _;omega)).trans (hb1.cell (p:=⟨w.heap.size+1,o,none⟩) (by show w.heap.size+1 < _;omega)))
    have hf:∀o,X.frozen? ⟨w.heap.size+1,o,none⟩=W.frozen? ⟨w.heap.size+1,o,none⟩:=fun o=>(hX.frozen (p:=⟨w.heap.size+1,o,none⟩) (by show w.heap.size+1 < _;omega)).trans ((hb2.frozen (p:=⟨w.heap.size+1,o,none⟩) (by show w.heap.size+1 < _;omega)).trans (hb1.frozen (p:=⟨w.heap.size+1,o,none⟩) (by show w.heap.size+1 < _;omega)))
    exact ⟨⟨(hc 0).trans (HX.out 0 (by simp)),(hc 1).trans (HX.out 1 (by simp))⟩,(hf 0).trans (HF.out 0),(hf 1).trans (HF.out 1)⟩)
  have HEv:=hd' (show treeB vec es=true→vec=[x0,x1,x2,x3]∧n=es.length∧EvsIn W2 0 w1.heap.size A' es from fun h=>by
    obtain ⟨h1,h2,h3⟩:=htr h
    exact ⟨h1,h2,(h3.below hb2).low (Nat.zero_le _)⟩)
  clear hb1 hb2 htr HX HF HBel
  obtain ⟨tb,htb⟩:∃tb,tb=treeB vec es:=⟨_,rfl⟩
  have HT:=hd' htb
  rw [←htb]
  clear htb
  go_upto_region 2 with fail
  rw [←hW2]
  clear hW2
  cases tb with
  | false =>
    obtain ⟨⟨r0,r1⟩,f0,f1⟩:=HRes.out W2 (Below.refl _ _)
    have HQ:=hd' (two_get (v0:=.slice none 0 0) (v1:=.slice none 0 0) r0 r1)
    have HB9:=hd' (show Below w.heap.size w ((W2.setCell ⟨w.heap.size+1,0,none⟩ (.slice none 0 0)).setCell ⟨w.heap.size+1,1,none⟩ (.slice none 0 0)) from (HB2.out.setCell (by simp) _).setCell (by simp) _)
    have hsz:w.heap.size < ((W2.setCell ⟨w.heap.size+1,0,none⟩ (.slice none 0 0)).setCell ⟨w.heap.size+1,1,none⟩ (.slice none 0 0)).heap.size:=by simp;omega
    have HNo:=hd' (pu_no (vec:=vec) (es:=es) (b:=b) (l:=l) (val:=val) (by unfold puOk;rw [←HT.out];rfl))
    clear HRes HEv HY HYF HT
    go_wp2_with fail
    obtain ⟨q0,q1⟩:=HQ.out
    refine bodyPost_ret (v:=.tuple #[.agg #[.slice none 0 0,.slice none 0 0],.bool false]) (by simp [results,Tryz.results82,q0,q1,go_sem]) rfl ?_
    rw [HNo.out.1,HNo.out.2.1,HNo.out.2.2]
    exact ⟨none,0,none,0,rfl,TrOwn.none _ _ _ (by omega),hsz,HB9.out⟩
  | true =>
    cases hdv:devB b with
    | false =>
      obtain ⟨⟨r0,r1⟩,f0,f1⟩:=HRes.out W2 (Below.refl _ _)
      have HQ:=hd' (two_get (v0:=.slice none 0 0) (v1:=.slice none 0 0) r0 r1)
      have HB9:=hd' (show Below w.heap.size w ((W2.setCell ⟨w.heap.size+1,0,none⟩ (.slice none 0 0)).setCell ⟨w.heap.size+1,1,none⟩ (.slice none 0 0)) from (HB2.out.setCell (by simp) _).setCell (by simp) _)
      have hsz:w.heap.size < ((W2.setCell ⟨w.heap.size+1,0,none⟩ (.slice none 0 0)).setCell ⟨w.heap.size+1,1,none⟩ (.slice none 0 0)).heap.size:=by simp;omega
      have HNo:=hd' (pu_no (vec:=vec) (es:=es) (b:=b) (l:=l) (val:=val) (by unfold puOk;rw [hdv];simp))
      have HDv:=hd' (isDevice_any b W2)
      rw [hdv] at HDv
      clear HRes HEv HY HYF HT hdv
      go_wp2_with fail
      refine HDv.out.mono ?_
      rintro e w3 ⟨rfl,rfl⟩
      go_wp2_with fail
      obtain ⟨q0,q1⟩:=HQ.out
      refine bodyPost_ret (v:=.tuple #[.agg #[.slice none 0 0,.slice none 0 0],.bool false]) (by simp [results,Tryz.results82,q0,q1,go_sem]) rfl ?_
      rw [HNo.out.1,HNo.out.2.1,HNo.out.2.2]
      exact ⟨none,0,none,0,rfl,TrOwn.none _ _ _ (by omega),hsz,HB9.out⟩
    | true =>
      have HDv:=hd' (isDevice_any b W2)
      rw [hdv] at HDv
      have HNm:=hd' (implNameOk_any Ab l cb W2 ((HB.out.keep fun p _ hp=>HB2.out.cell hp).mono (by omega)) (by omega))
      go_wp2_with fail
      refine HDv.out.mono ?_
      rintro e w2' ⟨rfl,rfl⟩
      clear HDv
      go_wp2_with fail
      refine HNm.out.mono ?_
      rintro e w3 ⟨rfl,hb3⟩
      have hz3:=hb3.size
      have HB3:=hd' hb3
      clear HNm hb3
      cases hnm:nameB l with
      | false =>
        obtain ⟨⟨r0,r1⟩,f0,f1⟩:=HRes.out w3 (HB3.out.mono (by omega))
        have HQ:=hd' (two_get (v0:=.slice none 0 0) (v1:=.slice none 0 0) r0 r1)
        have HB9:=hd' (show Below w.heap.size w ((w3.setCell ⟨w.heap.size+1,0,none⟩ (.slice none 0 0)).setCell ⟨w.heap.size+1,1,none⟩ (.slice none 0 0)) from ((HB2.out.trans (HB3.out.mono (by omega))).setCell (by simp) _).setCell (by simp) _)
        have hsz:w.heap.size < ((w3.setCell ⟨w.heap.size+1,0,none⟩ (.slice none 0 0)).setCell ⟨w.heap.size+1,1,none⟩ (.slice none 0 0)).heap.size:=by simp;omega
        have HNo:=hd' (pu_no (vec:=vec) (es:=es) (b:=b) (l:=l) (val:=val) (by unfold puOk;rw [hnm];simp))
        clear HRes HEv HY HYF HT hdv hnm
        go_wp2_with fail
        obtain ⟨q0,q1⟩:=HQ.out
        refine bodyPost_ret (v:=.tuple #[.agg #[.slice none 0 0,.slice none 0 0],.bool false]) (by simp [results,Tryz.results82,q0,q1,go_sem]) rfl ?_
        rw [HNo.out.1,HNo.out.2.1,HNo.out.2.2]
        exact ⟨none,0,none,0,rfl,TrOwn.none _ _ _ (by omega),hsz,HB9.out⟩
      | true =>
        obtain ⟨hvx,rfl,hev⟩:=HEv.out HT.out.symm
        have htr:=HT.out.symm
        have hl12:=treeB_len3 htr
        have hdv':0≤b∧b < 4:=by unfold devB at hdv;simpa using hdv
        obtain ⟨j,rfl⟩:=Int.eq_ofNat_of_zero_le hdv'.1
        have hj4:j < 4:=by omega
        subst hvx
        have hvb:vecB [x0,x1,x2,x3]=true:=by
          unfold treeB at htr
          simp only [Bool.and_eq_true] at htr
          exact htr.1.1.1
        obtain ⟨xj,hxj⟩:∃y,y=[x0,x1,x2,x3].getD j 0:=⟨_,rfl⟩
        have hxr:0≤xj∧xj≤1000:=by
          unfold vecB at hvb
          simp only [Bool.and_eq_true,List.all_eq_true,decide_eq_true_eq] at hvb
          rw [hxj,List.getD_eq_getElem?_getD,List.getElem?_eq_getElem (by simpa using hj4)]
          exact hvb.2 _ (List.getElem_mem _)
        have hwx:IntKind.i64.wrap (xj+1)=xj+1:=by rw [IntKind.wrap_i64];omega
        have hY3:Bx w3 w1.heap.size [.int .i64 x0,.int .i64 x1,.int .i64 x2,.int .i64 x3,.slice A' es.length c']:=HY.out.below HB3.out hz2
        have yj:w3.cell? ⟨w1.heap.size,j,none⟩=some (.int .i64 xj):=by
          have hjj:j=0∨j=1∨j=2∨j=3:=by omega
          rw [hxj]
          rcases hjj with rfl|rfl|rfl|rfl
          · exact hY3 0 (by simp)
          · exact hY3 1 (by simp)
          · exact hY3 2 (by simp)
          · exact hY3 3 (by simp)
        have yf:w3.frozen? ⟨w1.heap.size,j,none⟩=false:=(HB3.out.frozen (p:=⟨w1.heap.size,j,none⟩) hz2).trans (HYF.out j)
        obtain ⟨W4,hW4⟩:∃X,X=w3.setCell ⟨w1.heap.size,j,none⟩ (.int .i64 (xj+1)):=⟨_,rfl⟩
        have hs4:W4.heap.size=w3.heap.size:=by rw [hW4];simp
        obtain ⟨v0,hv0⟩:∃y,y=(puV [x0,x1,x2,x3] (j:Int)).getD 0 0:=⟨_,rfl⟩
        obtain ⟨v1,hv1⟩:∃y,y=(puV [x0,x1,x2,x3] (j:Int)).getD 1 0:=⟨_,rfl⟩
        obtain ⟨v2,hv2⟩:∃y,y=(puV [x0,x1,x2,x3] (j:Int)).getD 2 0:=⟨_,rfl⟩
        obtain ⟨v3,hv3⟩:∃y,y=(puV [x0,x1,x2,x3] (j:Int)).getD 3 0:=⟨_,rfl⟩
        have hcell:∀i,i < 4→W4.cell? ⟨w1.heap.size,i,none⟩=some (.int .i64 ((puV [x0,x1,x2,x3] (j:Int)).getD i 0)):=fun i hi=>by
          rw [hW4,puV_get (by simpa using hj4) (by simpa using hi)]
          by_cases e:i=j
          · subst e
            rw [if_pos rfl,←hxj]
            exact World.cell?_setCell_same _ _ _ (by rw [yj])
          · rw [if_neg e]
            refine (World.cell?_setCell_other _ _ _ _ (fun e2=>e (congrArg Addr.off e2).symm)).trans ?_
            have hii:i=0∨i=1∨i=2∨i=3:=by omega
            rcases hii with rfl|rfl|rfl|rfl
            · exact hY3 0 (by simp)
            · exact hY3 1 (by simp)
            · exact hY3 2 (by simp)
            · exact hY3 3 (by simp)
        have hP4:P5 W4 w1.heap.size W4.heap.size v0 v1 v2 v3 (.slice A' es.length c') j (xj+1) W4:=by
          refine ⟨fun i hi=>?_,by rw [hW4];exact World.cell?_setCell_same _ _ _ (by rw [yj]),fun o=>?_,Below.refl _ _,by omega,Nat.le_refl _⟩
          · have hii:i=0∨i=1∨i=2∨i=3∨i=4:=by simp at hi;omega
            rcases hii with rfl|rfl|rfl|rfl|rfl
            · rw [hcell 0 (by omega),hv0];rfl
            · rw [hcell 1 (by omega),hv1];rfl
            · rw [hcell 2 (by omega),hv2];rfl
            · rw [hcell 3 (by omega),hv3];rfl
            · rw [hW4]
              exact (World.cell?_setCell_other _ _ _ _ (fun e2=>by have:=congrArg Addr.off e2;simp at this;omega)).trans (hY3 4 (by simp))
          · rw [hW4,World.frozen?_setCell]
            exact (HB3.out.frozen (p:=⟨w1.heap.size,o,none⟩) hz2).trans (HYF.out o)
        have HP4:=hd' hP4
        have hb4:Below w1.heap.size w3 W4:=by rw [hW4];exact (Below.refl _ _).setCell (show w1.heap.size≤w1.heap.size from Nat.le_refl _) _
        have HB24:=hd' (show Below w1.heap.size W2 W4 from (HB3.out.mono (by omega)).trans hb4)
        have HB4:=hd' (show Below w.heap.size w W4 from (HB2.out.trans (HB3.out.mono (by omega))).trans (hb4.mono (by omega)))
        have HE4:=hd' (show EvsIn W4 0 w1.heap.size A' es from by
          have h1:EvsIn w3 0 w1.heap.size A' es:=hev.keep fun p _ hp=>HB3.out.cell (by omega)
          rw [hW4]
          exact h1.keep fun p _ hp=>World.cell?_setCell_other _ _ _ _ (fun e2=>by rw [←e2] at hp;exact absurd hp (Nat.lt_irrefl _)))
        have HVv:=hd' (And.intro hv0 (And.intro hv1 (And.intro hv2 hv3)))
        have HXj:=hd' hxj
        have HNn:=hd' (fun (X:World) (hX:Below W4.heap.size W4 X)=>show Calls Tryz.prog 143 #[.agg #[.int .i64 v0,.int .i64 v1,.int .i64 v2,.int .i64 v3,.slice A' es.length c'],.slice Ab l.length cb] X (fun r w'=>∃A5 c5,r=.returned (.slice A5 (notName l es).length c5)∧w'.ownsRow W4.heap.size 192 4 (.slice A5 (notName l es).length c5) (notName l es).length ((notName l es).flatMap encE)∧Below X.heap.size X w'∧Below W4.heap.size W4 w') from by
          have hXs:=hX.size
          refine (notNamed_own v0 v1 v2 v3 A' es c' Ab l cb X ((HE4.out.keep fun p _ hp=>hX.cell (by omega)).mono (by omega)) hl12 ((HB.out.keep fun p _ hp=>(hX.cell (by have:=HB4.out.size;omega)).trans (HB4.out.cell hp)).mono (by have:=HB4.out.size;omega))).mono ?_
          rintro r w' ⟨A5,c5,rfl,ho,hb⟩
          exact ⟨A5,c5,rfl,ownsRow_lowE ho hXs,hb,hX.trans (hb.mono hXs)⟩)
        have HCv:=hd' (fun (X:World) (hX:Below W4.heap.size W4 X)=>run_str (w:=X) ((HB.out.keep fun p _ hp=>(hX.cell (by have:=HB4.out.size;omega)).trans (HB4.out.cell hp)):BytesIn X _ _ Ab l) cb)
        obtain ⟨i1,hi1,hy0,hy1,hy2⟩:=info_parts Tryz.infoEnt
        obtain ⟨nn,hnn⟩:∃y,y=(notName l es).length:=⟨_,rfl⟩
        have hnl:nn≤12:=by rw [hnn];have:=notName_le l es;omega
        have hl3:nn+1≤maxLen:=by unfold maxLen;omega
        have hl4:(nn+1)*40≤140737488355328:=by omega
        rw [←hnn] at HNn
        have HNl:=hd' hnn
        have hcv4:=HCv.out W4.drew (Below.refl _ _).drew
        have hcv40:=HCv.out W4 (Below.refl _ _)
        obtain ⟨u0,u1,u2,u3,u4⟩:W4.cell? ⟨w1.heap.size,0,none⟩=some (.int .i64 v0)∧W4.cell? ⟨w1.heap.size,1,none⟩=some (.int .i64 v1)∧W4.cell? ⟨w1.heap.size,2,none⟩=some (.int .i64 v2)∧W4.cell? ⟨w1.heap.size,3,none⟩=some (.int .i64 v3)∧W4.cell? ⟨w1.heap.size,4,none⟩=some (.slice A' es.length c'):=⟨hP4.c 0 (by simp),hP4.c 1 (by simp),hP4.c 2 (by simp),hP4.c 3 (by simp),hP4.c 4 (by simp)⟩
        have uj:=hP4.cj
        have hji:(j:Int) < 4:=by omega
        have hz4:w1.heap.size < W4.heap.size:=by omega
        have hz4w:w.heap.size+1 < W4.heap.size:=by omega
        clear hcell hP4 hb4 hev hxj hv0 hv1 hv2 hv3 hY3 hnn hs4 hcv40
        go_upto_region 5 with fail
        rw [←hW4]
        clear hW4 yj yf hwx
        go_region_law
          (first
            | (refine step_append_row _ (by rfl) _ _ _ (by rfl) W4.heap.size 0 192 i1 _ 4 40 Tryz.underlying99 hi1 hy0 hy1 hy2 rfl (by decide) (.slice A5 nn c5) nn ((notName l es).flatMap encE) (by rfl) ?_ (.slice (some ⟨_,0,none⟩) 1 1) 1 [.string ⟨l.toArray⟩,.int .i64 val,.int .i64 j,.int .i64 (xj+1)] (by rfl) (own_one4e (Nat.zero_le _) ?_) ?_ hl3 hl4 ?_ ?_
               · (repeat first|with_reducible exact HOwn5.out|with_reducible apply World.ownsRow.drew|with_reducible apply World.ownsRow.alloc)
               · (repeat first|with_reducible exact heap_newE _ (by simp)|with_reducible apply heap_drewE|with_reducible refine HK5.out _ _ ?_)
               · intro u hu;simp at hu;rcases hu with rfl|rfl|rfl|rfl <;> rfl
               · first|omega|(simp;omega)
               intro A7 c7 w7 hown7 hgr7
               have P7:P5 W4 w1.heap.size W4.heap.size v0 v1 v2 v3 (.slice A' es.length c') j (xj+1) w7:=P5.grown (by repeat first|with_reducible exact HP5.out|with_reducible apply P5.drew|with_reducible apply P5.alloc) hgr7 (fun k hk=>(HOwn5.out.lt k hk).1)
               have u4_7:=P7.c 4 (by simp)
               have uf_7:=P7.f 4
               simp only [List.getElem_cons_succ,List.getElem_cons_zero] at u4_7
               have HOwn7:=hd' hown7
               have HP7:=hd' P7
               clear hgr7 P7 hown7)
            | (go_simp
               go_at_call 143
               refine (HNn.out _ ?_).mono ?_
               · first|exact (Below.refl _ _).drew|exact (Below.refl _ _).drew.alloc (Nat.le_refl _) _
               rintro r w5 ⟨A5,c5,rfl,hown5,hbx5,hb5⟩
               have HOwn5:=hd' hown5
               have HK5:=hd' (fun (n:Nat) (o:Obj) (h:_=some o)=>(hbx5.block n (Array.getElem?_eq_some_iff.1 h).1).trans h)
               have P5':P5 W4 w1.heap.size W4.heap.size v0 v1 v2 v3 (.slice A' es.length c') j (xj+1) w5:=HP4.out.below hb5
               have HP5:=hd' P5'
               have s0:=P5'.c 0 (by simp)
               have s1:=P5'.c 1 (by simp)
               have s2:=P5'.c 2 (by simp)
               have s3:=P5'.c 3 (by simp)
               have s4:=P5'.c 4 (by simp)
               simp only [List.getElem_cons_succ,List.getElem_cons_zero] at s0 s1 s2 s3 s4
               have sj:=P5'.cj
               have hcv5:=HCv.out w5 hb5
               have hz5:=hb5.size
               clear hown5 hbx5 hb5 P5'
               go_wp2_with fail))
        all_goals
          obtain ⟨W8,hW8⟩:∃X,X=w7.setCell ⟨w1.heap.size,4,none⟩ (.slice A7 (nn+1) c7):=⟨_,rfl⟩
          obtain ⟨L,hL⟩:∃L,L=notName l es++[newE [x0,x1,x2,x3] (j:Int) l val]:=⟨_,rfl⟩
          have hLl:L.length=nn+1:=by rw [hL,HNl.out];simp
          have hLf:L.flatMap encE=(notName l es).flatMap encE++[.string ⟨l.toArray⟩,.int .i64 val,.int .i64 j,.int .i64 (xj+1)]:=by
            rw [hL,List.flatMap_append]
            simp [encE,newE,HXj.out]
          have hown8:W8.ownsRow W4.heap.size 192 4 (.slice A7 L.length c7) L.length (L.flatMap encE):=by
            rw [hW8,hLl,hLf]
            exact own_setBelow HOwn7.out (by show w1.heap.size < W4.heap.size;omega) _
          have hx8:Bx W8 w1.heap.size [.int .i64 v0,.int .i64 v1,.int .i64 v2,.int .i64 v3,.slice A7 (nn+1) c7]:=by
            intro i hi
            have hii:i=0∨i=1∨i=2∨i=3∨i=4:=by simp at hi;omega
            rw [hW8]
            rcases hii with rfl|rfl|rfl|rfl|rfl
            · exact (World.cell?_setCell_other _ _ _ _ (by simp)).trans (HP7.out.c 0 (by simp))
            · exact (World.cell?_setCell_other _ _ _ _ (by simp)).trans (HP7.out.c 1 (by simp))
            · exact (World.cell?_setCell_other _ _ _ _ (by simp)).trans (HP7.out.c 2 (by simp))
            · exact (World.cell?_setCell_other _ _ _ _ (by simp)).trans (HP7.out.c 3 (by simp))
            · exact World.cell?_setCell_same _ _ _ (by rw [u4_7])
          have hf8:∀o,W8.frozen? ⟨w1.heap.size,o,none⟩=false:=fun o=>by rw [hW8,World.frozen?_setCell];exact HP7.out.f o
          have hz8:W4.heap.size≤W8.heap.size:=by rw [hW8];have:=HP7.out.le;simpa using this
          have HB8:=hd' (show Below w1.heap.size W2 W8 by rw [hW8];exact (HB24.out.trans (HP7.out.bel.mono (by omega))).setCell (show w1.heap.size≤w1.heap.size from Nat.le_refl _) _)
          have HOr:=hd' (ordered_any v0 v1 v2 v3 L A7 c7 W4.heap.size W8 hown8 (by omega) (by omega))
          unfold NewOrd at HOr
          rw [hLl] at HOr
          have HX8:=hd' hx8
          have HF8:=hd' hf8
          have HL:=hd' hL
          have HLl:=hd' hLl
          clear hLf hown8 hf8 HP7 HOwn7 u4_7 uf_7 hL hLl u0 u1 u2 u3 u4 uj HOwn5 HK5 HP5 s0 s1 s2 s3 s4 sj hcv5 hcv4
          obtain ⟨g0,g1,g2,g3,g4⟩:W8.cell? ⟨w1.heap.size,0,none⟩=some (.int .i64 v0)∧W8.cell? ⟨w1.heap.size,1,none⟩=some (.int .i64 v1)∧W8.cell? ⟨w1.heap.size,2,none⟩=some (.int .i64 v2)∧W8.cell? ⟨w1.heap.size,3,none⟩=some (.int .i64 v3)∧W8.cell? ⟨w1.heap.size,4,none⟩=some (.slice A7 (nn+1) c7):=⟨hx8 0 (by simp),hx8 1 (by simp),hx8 2 (by simp),hx8 3 (by simp),hx8 4 (by simp)⟩
          clear hx8
          go_upto_region 6 with fail
          rw [←hW8]
          clear hW8
          go_wp2_with fail
          refine HOr.out.mono ?_
          rintro e w9 ⟨es',hpm,hpw,rfl,hev9,hsz9,hbel9⟩
          obtain ⟨tk,htk⟩:∃y,y=tokB v0 v1 v2 v3 es':=⟨_,rfl⟩
          rw [←htk]
          have hl9:es'.length=nn+1:=by rw [hpm.length_eq,HLl.out]
          have hes:es'=puE [x0,x1,x2,x3] es (j:Int) l val:=by
            rw [HL.out] at hpm
            exact sorted_put HT.out.symm rfl hpm hpw
          have y0:=(hbel9.cell (p:=⟨w1.heap.size,0,none⟩) (by show w1.heap.size < _;omega)).trans g0
          have y1:=(hbel9.cell (p:=⟨w1.heap.size,1,none⟩) (by show w1.heap.size < _;omega)).trans g1
          have y2:=(hbel9.cell (p:=⟨w1.heap.size,2,none⟩) (by show w1.heap.size < _;omega)).trans g2
          have y3:=(hbel9.cell (p:=⟨w1.heap.size,3,none⟩) (by show w1.heap.size < _;omega)).trans g3
          have y4:=(hbel9.cell (p:=⟨w1.heap.size,4,none⟩) (by show w1.heap.size < _;omega)).trans g4
          have e0:=(hbel9.frozen (p:=⟨w1.heap.size,0,none⟩) (by show w1.heap.size < _;omega)).trans (HF8.out 0)
          have e1:=(hbel9.frozen (p:=⟨w1.heap.size,1,none⟩) (by show w1.heap.size < _;omega)).trans (HF8.out 1)
          have e2:=(hbel9.frozen (p:=⟨w1.heap.size,2,none⟩) (by show w1.heap.size < _;omega)).trans (HF8.out 2)
          have e3:=(hbel9.frozen (p:=⟨w1.heap.size,3,none⟩) (by show w1.heap.size < _;omega)).trans (HF8.out 3)
          have e4:=(hbel9.frozen (p:=⟨w1.heap.size,4,none⟩) (by show w1.heap.size < _;omega)).trans (HF8.out 4)
          obtain ⟨W10,hW10⟩:∃X,X=((((w9.setCell ⟨w1.heap.size,0,none⟩ (.int .i64 v0)).setCell ⟨w1.heap.size,1,none⟩ (.int .i64 v1)).setCell ⟨w1.heap.size,2,none⟩ (.int .i64 v2)).setCell ⟨w1.heap.size,3,none⟩ (.int .i64 v3)).setCell ⟨w1.heap.size,4,none⟩ (.slice A7 (nn+1) c7):=⟨_,rfl⟩
          have hx10:Bx W10 w1.heap.size [.int .i64 v0,.int .i64 v1,.int .i64 v2,.int .i64 v3,.slice A7 (nn+1) c7]:=by rw [hW10];exact set5_get y0 y1 y2 y3 y4
          have HB10:=hd' (show Below w1.heap.size W2 W10 by rw [hW10];exact below_set5 (HB8.out.trans (hbel9.mono (by omega))) (Nat.le_refl _) _ _ _ _ _)
          have hz10:W10.heap.size=w9.heap.size:=by rw [hW10];simp
          have HE10:=hd' (show EvsIn W10 0 W10.heap.size A7 es' by
            rw [hW10]
            refine EvsIn.mono (EvsIn.low (hev9.keep fun p hp _=>?_) (Nat.zero_le _)) (by simp)
            exact cell_other' (by omega))
          have HOu:=hd' (outIf_any v0 v1 v2 v3 A7 es' c7 tk W10 HE10.out (by omega))
          obtain ⟨vv,hvv⟩:∃y,y=(if tk=true then [v0,v1,v2,v3] else []):=⟨_,rfl⟩
          obtain ⟨ee,hee⟩:∃y,y=(if tk=true then es' else []):=⟨_,rfl⟩
          rw [←hvv,←hee,hl9] at HOu
          have HFin:=hd' (show puVec [x0,x1,x2,x3] es (j:Int) l val=vv∧puEs [x0,x1,x2,x3] es (j:Int) l val=ee∧puOk [x0,x1,x2,x3] es (j:Int) l val=tk from by
            obtain ⟨k0,k1,k2,k3⟩:=HVv.out
            have hok:puOk [x0,x1,x2,x3] es (j:Int) l val=tk:=by
              unfold puOk
              rw [←HT.out,hdv,hnm,←k0,←k1,←k2,←k3,←hes,←htk]
              simp
            have hpv:puV [x0,x1,x2,x3] (j:Int)=[v0,v1,v2,v3]:=by
              have hlen:(puV [x0,x1,x2,x3] (j:Int)).length=4:=by unfold puV;simp
              rw [k0,k1,k2,k3]
              match h:puV [x0,x1,x2,x3] (j:Int),hlen with
              | [a0,a1,a2,a3],_=>rfl
            refine ⟨?_,?_,hok⟩
            · unfold puVec;rw [hok,hvv,hpv]
            · unfold puEs;rw [hok,hee,hes])
          have hx10b:=hx10
          have hzz:w1.heap.size < W10.heap.size:=by omega
          clear hz10 hvv hee htk hes hpm hpw hev9 HE10 HB8 HX8 HF8 HL HLl hl9 hx10 HVv HXj hsz9 hbel9 g0 g1 g2 g3 g4
          go_upto_region 7 with fail
          rw [←hW10]
          clear hW10 y0 y1 y2 y3 y4 e0 e1 e2 e3 e4
          obtain ⟨g0,g1,g2,g3,g4⟩:W10.cell? ⟨w1.heap.size,0,none⟩=some (.int .i64 v0)∧W10.cell? ⟨w1.heap.size,1,none⟩=some (.int .i64 v1)∧W10.cell? ⟨w1.heap.size,2,none⟩=some (.int .i64 v2)∧W10.cell? ⟨w1.heap.size,3,none⟩=some (.int .i64 v3)∧W10.cell? ⟨w1.heap.size,4,none⟩=some (.slice A7 (nn+1) c7):=⟨hx10b 0 (by simp),hx10b 1 (by simp),hx10b 2 (by simp),hx10b 3 (by simp),hx10b 4 (by simp)⟩
          clear hx10b
          go_wp2_with fail
          refine HOu.out.mono ?_
          rintro r wt ⟨AV4,cv4,A4,c4,rfl,htr4,hlt4,hbt⟩
          have HBt:=hd' (show Below w1.heap.size W2 wt from HB10.out.trans (hbt.mono (by omega)))
          obtain ⟨⟨r0,r1⟩,f0,f1⟩:=HRes.out wt HBt.out
          have hzt:=hbt.size
          have hB9:Below w.heap.size w ((wt.setCell ⟨w.heap.size+1,0,none⟩ (.slice AV4 vv.length cv4)).setCell ⟨w.heap.size+1,1,none⟩ (.slice A4 ee.length c4)):=((HB2.out.trans (HBt.out.mono (by omega))).setCell (by simp) _).setCell (by simp) _
          have hT9:TrOwn ((wt.setCell ⟨w.heap.size+1,0,none⟩ (.slice AV4 vv.length cv4)).setCell ⟨w.heap.size+1,1,none⟩ (.slice A4 ee.length c4)) W10.heap.size wt.heap.size AV4 vv A4 ee:=htr4.keep fun p hp _=>two_other (by omega)
          have hs9:((wt.setCell ⟨w.heap.size+1,0,none⟩ (.slice AV4 vv.length cv4)).setCell ⟨w.heap.size+1,1,none⟩ (.slice A4 ee.length c4)).heap.size=wt.heap.size:=by simp
          have HQ:=hd' (two_get (v0:=.slice AV4 vv.length cv4) (v1:=.slice A4 ee.length c4) r0 r1)
          have HT9:=hd' (hT9.mono (show w.heap.size≤W10.heap.size by omega) (Nat.le_of_eq hs9.symm))
          have hlt9:w.heap.size < ((wt.setCell ⟨w.heap.size+1,0,none⟩ (.slice AV4 vv.length cv4)).setCell ⟨w.heap.size+1,1,none⟩ (.slice A4 ee.length c4)).heap.size:=by rw [hs9];omega
          have HB9:=hd' hB9
          clear hbt htr4 hB9 hT9 hs9 hlt4 HOu g0 g1 g2 g3 g4 HRes HT HEv HY HYF HB10 HBt
          go_wp2_with fail
          obtain ⟨p0,p1⟩:=HQ.out
          refine bodyPost_ret (v:=.tuple #[.agg #[.slice AV4 vv.length cv4,.slice A4 ee.length c4],.bool tk]) (by simp [results,Tryz.results82,p0,p1,go_sem]) rfl ?_
          obtain ⟨h1,h2,h3⟩:=HFin.out
          rw [h1,h2,h3]
          exact ⟨AV4,cv4,A4,c4,rfl,HT9.out,hlt9,HB9.out⟩
end Go.Proofs.YtckajeippfpojaaGreat
