import Derived.Test.YtckajeippfpojaaGreatZqOd
import Derived.Test.YtckajeippfpojaaGreatZqGDv
namespace Go.Proofs.YtckajeippfpojaaGreat
open Go.RowKit Go.Maps
set_option maxRecDepth 100000
theorem MdSt.below {b f:Nat} {l:List Mn} {W:World} {us0:List Value} {k:Nat} {A:Option Addr} {c:Nat} {us:List Mx} {X Y:World} (h:MdSt b f l W us0 k A c us X) (hb:Below X.heap.size X Y):MdSt b f l W us0 k A c us Y :=
  ⟨h.len',h.ms,h.bx.below hb,h.row.below hb,h.off.below hb⟩
theorem outL_snoc {f:Int→Mn}:∀(k:Nat) (n:Int),outL f (k+1) n=outL f k n++(if 0 < (f (n+k)).sq then [f (n+k)] else [])
  | 0,n=>by simp [outL]
  | k+1,n=>by
    have h:=outL_snoc (f:=f) k (n+1)
    show (if 0 < (f n).sq then [f n] else [])++outL f (k+1) (n+1)=((if 0 < (f n).sq then [f n] else [])++outL f k (n+1))++_
    rw [h,List.append_assoc]
    have e:n+1+(k:Int)=n+((k+1:Nat):Int):=by omega
    rw [e]
theorem outL_len {f:Int→Mn}:∀(k:Nat) (n:Int),(outL f k n).length≤k
  | 0,_=>Nat.le_refl _
  | k+1,n=>by
    have:=outL_len (f:=f) k (n+1)
    unfold outL
    split <;> simp <;> omega
theorem HdsAt.at {w:World} {Lo B:Nat} {l:List Value} {f:Int→Mn} (h:HdsAt w Lo B l f) {j:Nat} (hj:j < 4) :
    ∃l',HsAt w Lo B l' (f j)∧∀X:World,(Instr.index 126 (.agg l.toArray) (.int .i64 (j:Int))).run Tryz.prog X=.ok (.agg l'.toArray) X:=by
  obtain ⟨l0,l1,l2,l3,rfl,h0,h1,h2,h3⟩:=h
  have:j=0∨j=1∨j=2∨j=3:=by omega
  rcases this with rfl|rfl|rfl|rfl
  · refine ⟨l0,h0,fun X=>?_⟩
    obtain ⟨a00,a01,a02,a03,aE0,ak0,_,rfl,_⟩:=h0
    obtain ⟨a10,a11,a12,a13,aE1,ak1,_,rfl,_⟩:=h1
    obtain ⟨a20,a21,a22,a23,aE2,ak2,_,rfl,_⟩:=h2
    obtain ⟨a30,a31,a32,a33,aE3,ak3,_,rfl,_⟩:=h3
    kernel_rfl
  · refine ⟨l1,h1,fun X=>?_⟩
    obtain ⟨a00,a01,a02,a03,aE0,ak0,_,rfl,_⟩:=h0
    obtain ⟨a10,a11,a12,a13,aE1,ak1,_,rfl,_⟩:=h1
    obtain ⟨a20,a21,a22,a23,aE2,ak2,_,rfl,_⟩:=h2
    obtain ⟨a30,a31,a32,a33,aE3,ak3,_,rfl,_⟩:=h3
    kernel_rfl
  · refine ⟨l2,h2,fun X=>?_⟩
    obtain ⟨a00,a01,a02,a03,aE0,ak0,_,rfl,_⟩:=h0
    obtain ⟨a10,a11,a12,a13,aE1,ak1,_,rfl,_⟩:=h1
    obtain ⟨a20,a21,a22,a23,aE2,ak2,_,rfl,_⟩:=h2
    obtain ⟨a30,a31,a32,a33,aE3,ak3,_,rfl,_⟩:=h3
    kernel_rfl
  · refine ⟨l3,h3,fun X=>?_⟩
    obtain ⟨a00,a01,a02,a03,aE0,ak0,_,rfl,_⟩:=h0
    obtain ⟨a10,a11,a12,a13,aE1,ak1,_,rfl,_⟩:=h1
    obtain ⟨a20,a21,a22,a23,aE2,ak2,_,rfl,_⟩:=h2
    obtain ⟨a30,a31,a32,a33,aE3,ak3,_,rfl,_⟩:=h3
    kernel_rfl
set_option maxHeartbeats 600000 in
theorem mout_any (m:Mn) (x0 x1 x2 x3:Int) (E:Option Addr) (k:Nat) (w:World) (hvec:m.vec=[x0,x1,x2,x3]) (hA:EvsIn w 0 w.heap.size E m.es) (hn:m.es.length≤1000) :
    Calls Tryz.prog 68 #[.agg #[.int .i64 m.au,.int .i64 m.sq,.int .i64 m.pv,.int .i64 x0,.int .i64 x1,.int .i64 x2,.int .i64 x3,.slice E m.es.length k,.int .i64 m.sg]] w (NewMnC m w):=by
  have HA:=hd' hA
  have HVec:=hd' hvec
  clear hA hvec
  go_enter Tryz.func68,Tryz.ntmps68
  go_upto_region 1 with fail
  obtain ⟨W1_0,hW1_0⟩:∃x,x=w.alloc (.cells #[.int .i64 m.au,.int .i64 m.sq,.int .i64 m.pv,.int .i64 x0,.int .i64 x1,.int .i64 x2,.int .i64 x3,.slice E m.es.length k,.int .i64 m.sg] 105):=⟨_,rfl⟩
  obtain ⟨W1_1,hW1_1⟩:∃x,x=W1_0.alloc (.cells #[.int .i64 0,.int .i64 0,.int .i64 0,.slice none 0 0,.slice none 0 0,.int .i64 0] 40):=⟨_,rfl⟩
  have hZ1_0:W1_0.heap.size=w.heap.size+1:=by rw [hW1_0];simp
  have hZ1_1:W1_1.heap.size=w.heap.size+2:=by rw [hW1_1];simp [hZ1_0]
  have hx0:Bx W1_0 (w.heap.size) [.int .i64 m.au,.int .i64 m.sq,.int .i64 m.pv,.int .i64 x0,.int .i64 x1,.int .i64 x2,.int .i64 x3,.slice E m.es.length k,.int .i64 m.sg]:=by rw [hW1_0];exact Bx.new' _ _ _ _ rfl
  replace hx0:Bx W1_1 (w.heap.size) [.int .i64 m.au,.int .i64 m.sq,.int .i64 m.pv,.int .i64 x0,.int .i64 x1,.int .i64 x2,.int .i64 x3,.slice E m.es.length k,.int .i64 m.sg]:=by rw [hW1_1];exact hx0.alloc (by omega) _
  have hx1:Bx W1_1 (w.heap.size+1) [.int .i64 0,.int .i64 0,.int .i64 0,.slice none 0 0,.slice none 0 0,.int .i64 0]:=by rw [hW1_1,←hZ1_0];exact Bx.new' _ _ _ _ rfl
  have hb0:Below w.heap.size w W1_1:=by rw [hW1_1,hW1_0];exact (((Below.refl _ _).alloc (by first|exact Nat.le_refl _|(simp;done)|(simp;omega)) _).alloc (by first|exact Nat.le_refl _|(simp;done)|(simp;omega)) _)
  have hf1:∀o,W1_1.frozen? ⟨w.heap.size+1,o,none⟩=false:=fun o=>by rw [hW1_1,hW1_0];exact (((Fresh.refl w).alloc _ _).alloc _ _) ⟨w.heap.size+1,o,none⟩ (by show w.heap.size≤w.heap.size+1;omega)
  have hlt:w.heap.size+1 < W1_1.heap.size:=by omega
  rw [←hW1_0,←hW1_1]
  clear hW1_0 hZ1_0 hW1_1 hZ1_1
  have z_2:=hb0.size
  have Hbel_3:=hd' (hb0)
  have HX_4:=hd' (hx0)
  have HR_5:=hd' (hx1)
  have HRF_6:=hd' (hf1)
  clear hf1
  clear hb0 hx0 hx1
  have hl_7:=hlt
  clear hlt
  have HBel:=hd' Hbel_3.out
  have qX_0:=HX_4.out 0 (by simp)
  have qX_1:=HX_4.out 1 (by simp)
  have qX_2:=HX_4.out 2 (by simp)
  have qX_3:=HX_4.out 3 (by simp)
  have qX_4:=HX_4.out 4 (by simp)
  have qX_5:=HX_4.out 5 (by simp)
  have qX_6:=HX_4.out 6 (by simp)
  have qX_7:=HX_4.out 7 (by simp)
  have qX_8:=HX_4.out 8 (by simp)
  have lX:w.heap.size < W1_1.heap.size:=by omega
  have qR_0:=HR_5.out 0 (by simp)
  have qR_1:=HR_5.out 1 (by simp)
  have qR_2:=HR_5.out 2 (by simp)
  have qR_3:=HR_5.out 3 (by simp)
  have qR_4:=HR_5.out 4 (by simp)
  have qR_5:=HR_5.out 5 (by simp)
  have lR:w.heap.size+1 < W1_1.heap.size:=by omega
  have fRF_0:=HRF_6.out 0
  have fRF_1:=HRF_6.out 1
  have fRF_2:=HRF_6.out 2
  have fRF_3:=HRF_6.out 3
  have fRF_4:=HRF_6.out 4
  have fRF_5:=HRF_6.out 5
  simp only [List.getElem_cons_succ,List.getElem_cons_zero] at qX_0 qX_1 qX_2 qX_3 qX_4 qX_5 qX_6 qX_7 qX_8 qR_0 qR_1 qR_2 qR_3 qR_4 qR_5
  have HR:=hd' (show ∀X,Below W1_1.heap.size W1_1 X→BxH X (w.heap.size+1) [.int .i64 0,.int .i64 0,.int .i64 0,.slice none 0 0,.slice none 0 0,.int .i64 0] from fun X hX=>BxH.below ⟨HR_5.out,HRF_6.out,by omega⟩ hX)
  have HCell:=hd' (show ∀X,Below (w.heap.size+1) W1_1 X→X.cell? ⟨w.heap.size,0,none⟩=some (.int .i64 m.au)∧X.cell? ⟨w.heap.size,1,none⟩=some (.int .i64 m.sq)∧X.cell? ⟨w.heap.size,2,none⟩=some (.int .i64 m.pv)∧X.cell? ⟨w.heap.size,3,none⟩=some (.int .i64 x0)∧X.cell? ⟨w.heap.size,4,none⟩=some (.int .i64 x1)∧X.cell? ⟨w.heap.size,5,none⟩=some (.int .i64 x2)∧X.cell? ⟨w.heap.size,6,none⟩=some (.int .i64 x3)∧X.cell? ⟨w.heap.size,7,none⟩=some (.slice E m.es.length k)∧X.cell? ⟨w.heap.size,8,none⟩=some (.int .i64 m.sg) from fun X hX=>⟨(hX.cell (p:=⟨w.heap.size,0,none⟩) (by show w.heap.size < _;omega)).trans qX_0,(hX.cell (p:=⟨w.heap.size,1,none⟩) (by show w.heap.size < _;omega)).trans qX_1,(hX.cell (p:=⟨w.heap.size,2,none⟩) (by show w.heap.size < _;omega)).trans qX_2,(hX.cell (p:=⟨w.heap.size,3,none⟩) (by show w.heap.size < _;omega)).trans qX_3,(hX.cell (p:=⟨w.heap.size,4,none⟩) (by show w.heap.size < _;omega)).trans qX_4,(hX.cell (p:=⟨w.heap.size,5,none⟩) (by show w.heap.size < _;omega)).trans qX_5,(hX.cell (p:=⟨w.heap.size,6,none⟩) (by show w.heap.size < _;omega)).trans qX_6,(hX.cell (p:=⟨w.heap.size,7,none⟩) (by show w.heap.size < _;omega)).trans qX_7,(hX.cell (p:=⟨w.heap.size,8,none⟩) (by show w.heap.size < _;omega)).trans qX_8⟩)
  go_region_held3 (fun X=>X.cell? ⟨w.heap.size,0,none⟩=some (.int .i64 m.au)∧X.cell? ⟨w.heap.size,1,none⟩=some (.int .i64 m.sq)∧X.cell? ⟨w.heap.size,2,none⟩=some (.int .i64 m.pv)∧X.cell? ⟨w.heap.size,3,none⟩=some (.int .i64 x0)∧X.cell? ⟨w.heap.size,4,none⟩=some (.int .i64 x1)∧X.cell? ⟨w.heap.size,5,none⟩=some (.int .i64 x2)∧X.cell? ⟨w.heap.size,6,none⟩=some (.int .i64 x3)∧X.cell? ⟨w.heap.size,7,none⟩=some (.slice E m.es.length k)∧X.cell? ⟨w.heap.size,8,none⟩=some (.int .i64 m.sg))
    (first|(refine HCell.out _ ?_;repeat first|with_reducible exact Below.refl _ _|with_reducible exact hbt|with_reducible apply Below.drew|with_reducible refine Below.setCell ?_ (by first|exact Nat.le_refl _|(simp;done)|(simp;omega)|omega) _|with_reducible refine Below.alloc ?_ (by first|exact Nat.le_refl _|(simp;done)|(simp;omega)|omega) _))
    (first
      | (go_at_call 125
         refine (out_cap x0 x1 x2 x3 E m.es k _ ?_ hn).mono ?_
         · exact (HA.out.below HBel.out).mono (show w.heap.size≤W1_1.heap.size by omega)
         rintro e w1 ⟨AV1,cv1,A1,c1,rfl,hown,hlt1,hcap,hb1⟩
         have hB1:Below W1_1.heap.size W1_1 w1:=by first|exact hb1|exact (Below.refl W1_1.heap.size W1_1).drew.trans hb1
         have hz1:W1_1.heap.size≤w1.heap.size:=hB1.size
         have hbt:Below (w.heap.size+1) W1_1 w1:=hB1.mono (by omega)
         have HT1:=hd' (show TrOwn w1 W1_1.heap.size w1.heap.size AV1 [x0,x1,x2,x3] A1 m.es from hown)
         have HC1:=hd' hcap
         have HB1:=hd' hB1
         obtain ⟨hr,hf,hl⟩:=HR.out w1 hB1
         have r0:=hr 0 (by simp)
         have r1:=hr 1 (by simp)
         have r2:=hr 2 (by simp)
         have r3:=hr 3 (by simp)
         have r4:=hr 4 (by simp)
         have r5:=hr 5 (by simp)
         have rf0:=hf 0
         have rf1:=hf 1
         have rf2:=hf 2
         have rf3:=hf 3
         have rf4:=hf 4
         have rf5:=hf 5
         simp only [List.getElem_cons_succ,List.getElem_cons_zero] at r0 r1 r2 r3 r4 r5
         clear hb1 hown hcap hB1 hr hf))
  obtain ⟨w9,hw9⟩:∃x,x=putAll (w.heap.size+1) 0 [.int .i64 m.au,.int .i64 m.sq,.int .i64 m.pv,.slice AV1 4 cv1,.slice A1 m.es.length c1,.int .i64 m.sg] w1:=⟨_,rfl⟩
  have hput:Bx w9 (w.heap.size+1) [.int .i64 m.au,.int .i64 m.sq,.int .i64 m.pv,.slice AV1 4 cv1,.slice A1 m.es.length c1,.int .i64 m.sg]:=by rw [hw9];exact (BxH.put (vs:=[.int .i64 m.au,.int .i64 m.sq,.int .i64 m.pv,.slice AV1 4 cv1,.slice A1 m.es.length c1,.int .i64 m.sg]) (HR.out w1 HB1.out) rfl).1
  have hs9:w9.heap.size=w1.heap.size:=by rw [hw9];exact putAll_size
  have HTp:=hd' (show TrOwn w9 w.heap.size w9.heap.size AV1 m.vec A1 m.es by rw [hs9,HVec.out,hw9];exact (HT1.out.keep fun p hp _=>⟨putAll_other (by omega),putAll_frozen _⟩).mono (by omega) (Nat.le_refl _))
  have HBp:=hd' (show Below w.heap.size w w9 by rw [hw9];exact putAll_below (HBel.out.trans (HB1.out.mono (by omega))) (by omega))
  have HZ:=hd' (show w.heap.size < w9.heap.size by omega)
  have p0:=hput 0 (by simp)
  have p1:=hput 1 (by simp)
  have p2:=hput 2 (by simp)
  have p3:=hput 3 (by simp)
  have p4:=hput 4 (by simp)
  have p5:=hput 5 (by simp)
  simp only [List.getElem_cons_succ,List.getElem_cons_zero] at p0 p1 p2 p3 p4 p5
  have HP:=hd' (And.intro p0 (And.intro p1 (And.intro p2 (And.intro p3 (And.intro p4 p5)))))
  clear hput p0 p1 p2 p3 p4 p5 hs9
  simp only [putAll] at hw9
  have HW9:=hd' hw9
  clear hw9
  go_wp2_with fail
  rw [←HW9.out]
  obtain ⟨p0,p1,p2,p3,p4,p5⟩:=HP.out
  refine bodyPost_ret (v:=.agg #[.int .i64 m.au,.int .i64 m.sq,.int .i64 m.pv,.slice AV1 4 cv1,.slice A1 m.es.length c1,.int .i64 m.sg]) (by simp [results,Tryz.results68,p0,p1,p2,p3,p4,p5,go_sem]) rfl ⟨AV1,cv1,A1,c1,by rw [HVec.out];rfl,HTp.out,HZ.out,HC1.out,HBp.out⟩
set_option maxHeartbeats 1000000 in
theorem inAlarm_any (D:List Value) (A:Option Addr) (n c:Nat) (w:World) (hD:D[42]?=some (.slice A n c)) :
    Calls Tryz.prog 149 #[.agg D.toArray] w fun e w'=>e=.returned (.bool (decide (0 < n)))∧Below w.heap.size w w':=by
  go_enter Tryz.func149,Tryz.ntmps149
  go_upto_region 1 with fail
  obtain ⟨W,hW⟩:∃x,x=w.alloc (.cells D.toArray 129):=⟨_,rfl⟩
  have hbx:BigBx W w.heap.size D:=by rw [hW];exact BigBx.new w D _
  have hbel:Below w.heap.size w W:=by rw [hW];exact (Below.refl _ _).alloc (Nat.le_refl _) _
  rw [←hW]
  have c42:=hbx.at_ 42 _ hD
  simp only [Nat.zero_add] at c42
  have lt:=hbx.lt
  have HB:=hd' hbel
  clear hW hbx hbel
  go_wp2_with fail
  go_ret
  exact ⟨by simp,HB.out⟩
end Go.Proofs.YtckajeippfpojaaGreat
namespace Go.Proofs.YtckajeippfpojaaGreat
open Go.RowKit Go.Maps
set_option maxRecDepth 100000
theorem BigBx.offB {w X:World} {b b':Nat} {l:List Value} (h:BigBx w b l) (ho:OffB b' w X) (hne:b≠b'):BigBx X b l :=
  ⟨fun j v hv=>(ho.cell (p:=⟨b,0+j,none⟩) h.lt hne).trans (h.at_ j v hv),fun o=>(ho.frozen (p:=⟨b,o,none⟩) h.lt hne).trans (h.fr o),Nat.lt_of_lt_of_le h.lt ho.size⟩
theorem range_mid {X:World} {b o:Nat} {a l c:List Value} (h:X.rangeAt b 0 (a++l++c)) (ho:a.length=o):X.rangeAt b o l:=fun j v hv=>by
  have hj:j < l.length:=(List.getElem?_eq_some_iff.1 hv).1
  have:=h (o+j) v (by rw [List.append_assoc,List.getElem?_append_right (by omega),ho,Nat.add_sub_cancel_left,List.getElem?_append_left hj];exact hv)
  rwa [Nat.zero_add] at this
attribute [local simp ↓] la43_name lv43_name la36_name lv36_name
set_option maxHeartbeats 1000000 in
theorem outD_any (D:List Value) (id:Int) (vec:List Int) (es:List En) (f:Int→Mn) (ps:List Mn) (w:World) (h:DrAt w 0 w.heap.size D id vec es f ps) (hn:es.length≤12) (hf:∀a,0≤a→a < 4→(f a).es.length≤8) (hpl:ps.length≤1048576) (hpe:∀m∈ps,m.es.length≤8) :
    Calls Tryz.prog 91 #[.agg D.toArray] w (NewDv id vec es (outL f 4 0) (decide (0 < ps.length)) ps w):=by
  obtain ⟨x0,x1,x2,x3,E,k,lh,P,cp,hvec,hD,hev,hhd,hps⟩:=h.parts
  have hDl:=h.len
  subst hvec
  have hlh:=hhd.len
  have e0:D[0]?=some (.int .i64 id):=by rw [hD];rfl
  have e1:D[1]?=some (.int .i64 x0):=by rw [hD];rfl
  have e2:D[2]?=some (.int .i64 x1):=by rw [hD];rfl
  have e3:D[3]?=some (.int .i64 x2):=by rw [hD];rfl
  have e4:D[4]?=some (.int .i64 x3):=by rw [hD];rfl
  have e5:D[5]?=some (.slice E es.length k):=by rw [hD];rfl
  have e42:D[42]?=some (.slice P ps.length cp):=by rw [hD,List.getElem?_append_right (by simp [hlh])];simp [hlh]
  have HDeq:=hd' hD
  have HDl:=hd' hDl
  have HEv:=hd' hev
  have HHd:=hd' hhd
  have HPs:=hd' hps
  have HE:=hd' (And.intro e0 (And.intro e1 (And.intro e2 (And.intro e3 (And.intro e4 (And.intro e5 e42))))))
  have HLh:=hd' hlh
  have HF:=hd' hf
  have HPe:=hd' hpe
  clear h hD hDl hev hhd hps e0 e1 e2 e3 e4 e5 e42 hlh hf hpe
  go_enter Tryz.func91,Tryz.ntmps91
  go_upto_region 1 with fail
  obtain ⟨W0,hW0⟩:∃x,x=w.alloc (.cells D.toArray 129):=⟨_,rfl⟩
  obtain ⟨W,hW⟩:∃x,x=W0.alloc (.cells #[.int .i64 0,.slice none 0 0,.slice none 0 0,.slice none 0 0,.bool false,.slice none 0 0] 57):=⟨_,rfl⟩
  have hz0:W0.heap.size=w.heap.size+1:=by rw [hW0];simp
  have hz:W.heap.size=w.heap.size+2:=by rw [hW];simp [hz0]
  have HDB:=hd' (show BigBx W w.heap.size D by rw [hW];exact BigBx.alloc (by rw [hW0];exact BigBx.new w D _) _)
  have hR:BxH W (w.heap.size+1) [.int .i64 0,.slice none 0 0,.slice none 0 0,.slice none 0 0,.bool false,.slice none 0 0]:=by rw [hW,←hz0];exact BxH.new W0 [.int .i64 0,.slice none 0 0,.slice none 0 0,.slice none 0 0,.bool false,.slice none 0 0] _
  have HR:=hd' hR.1
  have HRF:=hd' hR.2.1
  have Hbel:=hd' (show Below w.heap.size w W by rw [hW,hW0];exact ((Below.refl _ _).alloc (Nat.le_refl _) _).alloc (by simp) _)
  rw [←hW0,←hW]
  have lW:w.heap.size+2≤W.heap.size:=by omega
  clear hW hW0 hz0 hz hR
  have HCell:=hd' (show ∀X,Below W.heap.size W X→X.rangeAt w.heap.size 0 D∧X.cell? ⟨w.heap.size,0,none⟩=some (.int .i64 id)∧X.cell? ⟨w.heap.size,1,none⟩=some (.int .i64 x0)∧X.cell? ⟨w.heap.size,2,none⟩=some (.int .i64 x1)∧X.cell? ⟨w.heap.size,3,none⟩=some (.int .i64 x2)∧X.cell? ⟨w.heap.size,4,none⟩=some (.int .i64 x3)∧X.cell? ⟨w.heap.size,5,none⟩=some (.slice E es.length k) from fun X hX=>by
    have hr:=range_below HDB.out.at_ hX (by omega)
    obtain ⟨e0,e1,e2,e3,e4,e5,_⟩:=HE.out
    refine ⟨hr,(by have:=hr 0 _ e0;rwa [Nat.zero_add] at this),(by have:=hr 1 _ e1;rwa [Nat.zero_add] at this),(by have:=hr 2 _ e2;rwa [Nat.zero_add] at this),(by have:=hr 3 _ e3;rwa [Nat.zero_add] at this),(by have:=hr 4 _ e4;rwa [Nat.zero_add] at this),(by have:=hr 5 _ e5;rwa [Nat.zero_add] at this)⟩)
  obtain ⟨s,s0,s1,s2,s3,s4,s5⟩:=HCell.out W (Below.refl _ _)
  have HA43:∀X:World,X.rangeAt w.heap.size 0 D→(LA43 (.pointer (some ⟨w.heap.size,0,none⟩))).run Tryz.prog X=.ok (.agg D.toArray) X:=fun X h=>la43_of HDl.out h
  have HV43:∀X:World,X.rangeAt w.heap.size 0 D→(LV43 ⟨w.heap.size,0,none⟩).run Tryz.prog X=.ok (.agg D.toArray) X:=fun X h=>lv43_of HDl.out h
  have hin:=fun X=>inAlarm_any D P ps.length cp X HE.out.2.2.2.2.2.2
  obtain ⟨al,hal⟩:∃b,b=decide (0 < ps.length):=⟨_,rfl⟩
  rw [←hal] at hin
  have HIn:=hd' hin
  have HAl:=hd' hal
  clear hin hal
  have lD:w.heap.size < W.heap.size:=by omega
  go_cut [3] from 8 to 15 (fun s wx=>RelD id [x0,x1,x2,x3] es al W s wx)
  case first =>
    go_region_held3 (fun X=>X.rangeAt w.heap.size 0 D∧X.cell? ⟨w.heap.size,0,none⟩=some (.int .i64 id)∧X.cell? ⟨w.heap.size,1,none⟩=some (.int .i64 x0)∧X.cell? ⟨w.heap.size,2,none⟩=some (.int .i64 x1)∧X.cell? ⟨w.heap.size,3,none⟩=some (.int .i64 x2)∧X.cell? ⟨w.heap.size,4,none⟩=some (.int .i64 x3)∧X.cell? ⟨w.heap.size,5,none⟩=some (.slice E es.length k))
      (first|(refine HCell.out _ ?_;repeat first|with_reducible exact Below.refl _ _|with_reducible exact hbi|with_reducible exact hbt|with_reducible apply Below.drew|with_reducible refine Below.setCell ?_ (by first|exact Nat.le_refl _|(simp;done)|(simp;omega)|omega) _|with_reducible refine Below.alloc ?_ (by first|exact Nat.le_refl _|(simp;done)|(simp;omega)|omega) _))
      (first
        | (go_at_call 125
           refine (out_cap x0 x1 x2 x3 E es k _ ((HEv.out.keep fun p _ hp=>?_).mono ?_) (by omega)).mono ?_
           · refine (Below.cell (B:=W.heap.size) (w:=W) ?_ (by omega)).trans (Hbel.out.cell (by omega))
             repeat first|with_reducible exact Below.refl _ _|with_reducible exact hbi|with_reducible exact hbt|with_reducible apply Below.drew|with_reducible refine Below.setCell ?_ (by first|exact Nat.le_refl _|(simp;done)|(simp;omega)|omega) _|with_reducible refine Below.alloc ?_ (by first|exact Nat.le_refl _|(simp;done)|(simp;omega)|omega) _
           · refine Nat.le_trans (show w.heap.size≤W.heap.size by omega) (Below.size (B:=W.heap.size) (w:=W) ?_)
             repeat first|with_reducible exact Below.refl _ _|with_reducible exact hbi|with_reducible exact hbt|with_reducible apply Below.drew|with_reducible refine Below.setCell ?_ (by first|exact Nat.le_refl _|(simp;done)|(simp;omega)|omega) _|with_reducible refine Below.alloc ?_ (by first|exact Nat.le_refl _|(simp;done)|(simp;omega)|omega) _
           rintro r wt ⟨AVt,cvt,At,ct,rfl,hown,hlt,hcap,hbt0⟩
           have hbt:Below W.heap.size W wt:=Below.trans (by repeat first|with_reducible exact Below.refl _ _|with_reducible exact hbi|with_reducible exact hbt|with_reducible apply Below.drew|with_reducible refine Below.setCell ?_ (by first|exact Nat.le_refl _|(simp;done)|(simp;omega)|omega) _|with_reducible refine Below.alloc ?_ (by first|exact Nat.le_refl _|(simp;done)|(simp;omega)|omega) _) (hbt0.mono (by first|exact Nat.le_refl _|(simp;done)|(simp;omega)|omega))
           have hzt:=hbt.size
           have HOt:=hd' hown
           have hlt1:=hlt
           try first|have hq:=BxH.new2 hbt0|have hq:=BxH.new1 hbt0)
        | (go_at_call 149
           refine (HIn.out _).mono ?_
           rintro r wi ⟨rfl,hbi0⟩
           have hbi:Below W.heap.size W wi:=Below.trans (by repeat first|with_reducible exact Below.refl _ _|with_reducible exact hbi|with_reducible exact hbt|with_reducible apply Below.drew|with_reducible refine Below.setCell ?_ (by first|exact Nat.le_refl _|(simp;done)|(simp;omega)|omega) _|with_reducible refine Below.alloc ?_ (by first|exact Nat.le_refl _|(simp;done)|(simp;omega)|omega) _) (hbi0.mono (by first|exact Nat.le_refl _|exact hbt.size|(simp;done)|(simp;have:=hbt.size;omega)))
           have hzi:=hbi.size
           have hti:Below wt.heap.size wt wi:=Below.trans (by repeat first|with_reducible exact Below.refl _ _|with_reducible apply Below.drew|with_reducible refine Below.alloc ?_ (by first|exact Nat.le_refl _|(simp;done)|(simp;omega)|omega) _) (hbi0.mono (by first|exact Nat.le_refl _|(simp;done)|(simp;omega)|omega))
           have hzti:=hti.size
           try replace hq:=BxH.below hq hti
           try first|have hq:=BxH.new2 hbi0|have hq:=BxH.new1 hbi0
           try (obtain ⟨hqb,hqf,hql⟩:=hq;have k0:=hqb 0 (by simp);have k1:=hqb 1 (by simp);have k2:=hqb 2 (by simp);have k3:=hqb 3 (by simp);have k4:=hqb 4 (by simp);have k5:=hqb 5 (by simp);have f0:=hqf 0;have f1:=hqf 1;have f2:=hqf 2;have f3:=hqf 3;have f4:=hqf 4;have f5:=hqf 5;simp only [List.getElem_cons_succ,List.getElem_cons_zero] at k0 k1 k2 k3 k4 k5)))
    all_goals go_wp2_with fail
    all_goals go_meet
    all_goals first
      | (have hr:=fun (kv kc:Nat) (tt:TypeId)=>relD_new (id:=id) (al:=al) (W:=W) (cv:=kv) (c:=kc) (t:=tt) HOt.out hti (by first|exact Nat.le_refl _|(simp;done)|(simp;omega)|omega) (Nat.le_of_lt hlt1) hbi
         simp only [List.length_cons,List.length_nil,Nat.zero_add,Nat.reduceAdd] at hr
         with_reducible exact hr _ _ _)
      | (have hr:=fun (kv kc:Nat)=>relD_put (id:=id) (al:=al) (W:=W) (cv:=kv) (c:=kc) HOt.out hti ⟨hqb,hqf,hql⟩ rfl (by first|exact Nat.le_refl _|(simp;done)|(simp;omega)|omega) (by first|exact Nat.le_refl _|(simp;done)|(simp;omega)|omega) (Nat.le_of_lt hlt1) (by first|(left;simp;done)|(left;simp;omega)|(right;omega)|(right;exact Nat.le_refl _)) hbi
         simp only [putAll,List.length_cons,List.length_nil,Nat.zero_add,Nat.reduceAdd] at hr
         with_reducible exact hr _ _)
  case rest =>
    obtain ⟨b,AV2,cv2,A2,c2,L1,B1,rfl,hb1,hbx,hL1,hB1,hLB,hap,hT,hbel⟩:=hcut
    rename World=>W4
    have lb:=hbx.2.2
    clear HCell s s0 s1 s2 s3 s4 s5 HA43 HV43 HIn
    have z_1:=hbel.size
    have Hbel_2:=hd' (Hbel.out.trans (hbel.mono (by omega)))
    have HDB_3:=hd' (HDB.out.below hbel)
    have HR_4:=hd' (HR.out.below hbel (by omega))
    have HRF_5:=hd' (show ∀o,W4.frozen? ⟨w.heap.size+1,o,none⟩=false from fun o=>(hbel.frozen (p:=⟨w.heap.size+1,o,none⟩) (by show w.heap.size+1 < _;omega)).trans (HRF.out o))
    clear Hbel HDB HR HRF
    have HBx:=hd' hbx
    have HT:=hd' hT
    clear hbx hT hbel
    have hla36:(LA36 (.pointer (some ⟨w.heap.size,6,none⟩))).run Tryz.prog W4=.ok (.agg lh.toArray) W4:=la36_of HLh.out (range_mid (by rw [←HDeq.out];exact HDB_3.out.at_) rfl)
    have lD4:w.heap.size < W4.heap.size:=by omega
    have HSt0:=hd' (show MdSt b 3 (outL f 0 0) W4 [.int .i64 id,.slice AV2 4 cv2,.slice A2 es.length c2,.slice none 0 0,.bool al,.slice none 0 0] 0 none 0 [] W4 from ⟨rfl,rfl,by simpa using HBx.out,MxsIs.nil (Nat.le_refl _),OffB.refl _ _⟩)
    go_wp2_with fail
    clear hla36
    go_loopw [18] (fun i wr=>∃(j k:Nat) (A':Option Addr) (c':Nat) (us:List Mx),j≤4∧i=.int .i64 j∧MdSt b 3 (outL f j 0) W4 [.int .i64 id,.slice AV2 4 cv2,.slice A2 es.length c2,.slice none 0 0,.bool al,.slice none 0 0] k A' c' us wr) (fun i _=>4 - (intOf i).toNat)
    case atStart=>exact ⟨0,0,none,0,[],by omega,rfl,HSt0.out⟩
    case round =>
      obtain ⟨j,k,A',c',us,hj,rfl,hst⟩:=hrel
      have hoff:=hst.off
      have HSt:=hd' hst
      clear hst HSt0
      have z_6:=hoff.size
      have Hbel_7:=hd' (hoff.bel Hbel_2.out (by omega) (by omega))
      have HDB_8:=hd' (HDB_3.out.offB hoff (by omega))
      have HR_9:=hd' (show Bx wr (w.heap.size+1) [.int .i64 0,.slice none 0 0,.slice none 0 0,.slice none 0 0,.bool false,.slice none 0 0] from fun j hj=>(hoff.cell (p:=⟨w.heap.size+1,j,none⟩) (by show w.heap.size+1 < _;omega) (by show w.heap.size+1≠_;omega)).trans (HR_4.out j hj))
      have HRF_10:=hd' (show ∀o,wr.frozen? ⟨w.heap.size+1,o,none⟩=false from fun o=>(hoff.frozen (p:=⟨w.heap.size+1,o,none⟩) (by show w.heap.size+1 < _;omega) (by show w.heap.size+1≠_;omega)).trans (HRF_5.out o))
      clear Hbel_2 HDB_3 HR_4 HRF_5
      clear hoff
      by_cases hjl:j < 4
      · obtain ⟨lj,hlj,hix⟩:=HHd.out.at hjl
        obtain ⟨m,hm⟩:∃m,m=f j:=⟨_,rfl⟩
        rw [←hm] at hlj
        have hfm:=HF.out j (by omega) (by omega)
        rw [←hm] at hfm
        obtain ⟨y0,y1,y2,y3,Em,km,hmv,rfl,hme⟩:=hlj
        have HMk:=hd' hm
        have HMv:=hd' hmv
        have HMe:=hd' hme
        have hj':(j:Int) < 4:=by omega
        clear hm hmv hme
        go_upto_region 5 with fail
        clear hix
        obtain ⟨wq,hwq⟩:∃x,x=wr.alloc (.cells #[.int .i64 m.au,.int .i64 m.sq,.int .i64 m.pv,.int .i64 y0,.int .i64 y1,.int .i64 y2,.int .i64 y3,.slice Em m.es.length km,.int .i64 m.sg] 105):=⟨_,rfl⟩
        have hbq:Below wr.heap.size wr wq:=by rw [hwq];exact (Below.refl _ _).alloc (Nat.le_refl _) _
        have hxq:Bx wq wr.heap.size [.int .i64 m.au,.int .i64 m.sq,.int .i64 m.pv,.int .i64 y0,.int .i64 y1,.int .i64 y2,.int .i64 y3,.slice Em m.es.length km,.int .i64 m.sg]:=by rw [hwq];exact Bx.new' _ _ _ _ rfl
        have hzq:wr.heap.size < wq.heap.size:=by rw [hwq];simp
        rw [←hwq]
        clear hwq
        have HStq:=hd' (HSt.out.below hbq)
        have z_11:=hbq.size
        have Hbel_12:=hd' (Hbel_7.out.trans (hbq.mono (by omega)))
        have HDB_13:=hd' (HDB_8.out.below hbq)
        have HR_14:=hd' (HR_9.out.below hbq (by omega))
        have HRF_15:=hd' (show ∀o,wq.frozen? ⟨w.heap.size+1,o,none⟩=false from fun o=>(hbq.frozen (p:=⟨w.heap.size+1,o,none⟩) (by show w.heap.size+1 < _;omega)).trans (HRF_10.out o))
        clear Hbel_7 HDB_8 HR_9 HRF_10
        have HM_16:=hd' (hxq)
        clear hbq hxq
        by_cases hsq:0 < m.sq
        · have hkk:=outL_len (f:=f) j 0
          have hk4:k≤4:=by have:=HStq.out.len';omega
          clear hkk
          have qM_0:=HM_16.out 0 (by simp)
          have qM_1:=HM_16.out 1 (by simp)
          have qM_2:=HM_16.out 2 (by simp)
          have qM_3:=HM_16.out 3 (by simp)
          have qM_4:=HM_16.out 4 (by simp)
          have qM_5:=HM_16.out 5 (by simp)
          have qM_6:=HM_16.out 6 (by simp)
          have qM_7:=HM_16.out 7 (by simp)
          have qM_8:=HM_16.out 8 (by simp)
          have lM:wr.heap.size < wq.heap.size:=by omega
          simp only [List.getElem_cons_succ,List.getElem_cons_zero] at qM_0 qM_1 qM_2 qM_3 qM_4 qM_5 qM_6 qM_7 qM_8
          go_upto_region 6 with fail
          have hl3:k+1≤maxLen:=by unfold maxLen;omega
          have hl4:(k+1)*80≤140737488355328:=by omega
          obtain ⟨i1,hi1,hy0,hy1,hy2⟩:=info_parts Tryz.infoMan
          have hrow:=HStq.out.row.1
          rw [HStq.out.len] at hrow
          have oc:wq.cell? ⟨b,3,none⟩=some (.slice A' k c'):=by have:=HStq.out.bx.1 3 (by simp);simpa using this
          have of:=HStq.out.bx.2.1 3
          have lo:=HStq.out.bx.2.2
          have lW:W4.heap.size≤wq.heap.size:=HStq.out.off.size
          have HRow:=hd' hrow
          clear hrow
          go_region_law
            (first
              | (try go_simp
                 go_at_call 68
                 refine (mout_any m y0 y1 y2 y3 Em km _ HMv.out ?_ (by omega)).mono ?_
                 · exact (HMe.out.keep fun p _ hp=>Hbel_12.out.cell (by omega)).mono (show w.heap.size≤wq.heap.size by omega)
                 rintro e w6 ⟨AV1,cv1,A1,c1,rfl,hown,hlt6,hcap,hb6⟩
                 have hB6:Below wq.heap.size wq w6:=by first|exact hb6|exact (Below.refl wq.heap.size wq).drew.trans hb6|exact (Below.refl wq.heap.size wq).drew.drew.trans hb6
                 have hz6:wq.heap.size≤w6.heap.size:=hB6.size
                 have HT6:=hd' (show TrOwn w6 wq.heap.size w6.heap.size AV1 m.vec A1 m.es from hown)
                 have oc6:w6.cell? ⟨b,3,none⟩=some (.slice A' k c'):=(hB6.cell (p:=⟨b,3,none⟩) lo).trans oc
                 have hrow6:w6.ownsRow W4.heap.size 40 6 (.slice A' k c') k (rowM us):=ownsRow_below HRow.out hB6 (fun g hg=>(HRow.out.lt g hg).2)
                 have lW6:W4.heap.size≤w6.heap.size:=by omega
                 have lo6:b < w6.heap.size:=by omega
                 have HC6:=hd' hcap
                 have HB6:=hd' hB6
                 clear hb6 hown hcap hB6
                 go_wp2_with fail)
              | (refine step_append_at _ (by rfl) _ _ _ (by rfl) W4.heap.size 40 i1 _ 6 80 Tryz.underlying55 hi1 hy0 hy1 hy2 rfl (by decide) (.slice A' k c') k (rowM us) (by rfl) ?_ ⟨w6.heap.size,0,none⟩ 1 1 (cellsM ⟨m,AV1,cv1,A1,c1⟩) (by rfl) rfl ?_ (cellsM_one _) hl3 hl4 ?_ ?_
                 · (repeat first|with_reducible exact hrow6|with_reducible apply World.ownsRow.drew|with_reducible apply World.ownsRow.alloc)
                 · first|exact newsM|exact newsM_drew|exact newsM_drew'
                 · simp;omega
                 intro A7 c7 w7 hown7 hgr7 hv7
                 have HMd7:=hd' (HStq.out.step (x:=⟨m,AV1,cv1,A1,c1⟩) (by simp) (by omega) HB6.out HT6.out HC6.out (by repeat first|with_reducible exact Below.refl _ _|with_reducible apply Below.drew|with_reducible refine Below.alloc ?_ (by first|exact Nat.le_refl _|(simp;done)|(simp;omega)) _) hown7 hgr7 hv7)
                 have hne7:some (b)≠(Value.slice A' k c').ownBlock:=fun e=>by have:=(HRow.out.lt _ e.symm).1;omega
                 have hbx7:=((HStq.out.bx.below HB6.out).below (by repeat first|with_reducible exact Below.refl _ _|with_reducible apply Below.drew|with_reducible refine Below.alloc ?_ (by first|exact Nat.le_refl _|(simp;done)|(simp;omega)) _)).grown hgr7 hne7
                 have o_7:w7.cell? ⟨b,3,none⟩=some (.slice A' k c'):=by have:=hbx7.1 3 (by simp);simpa using this
                 have of_7:=hbx7.2.1 3
                 have lo_7:=hbx7.2.2
                 clear hgr7 hown7 hv7 hbx7 hne7))
          all_goals clear oc of oc6 hrow6 i1 hi1 hy0 hy1 hy2
          all_goals
            go_wp2_with fail
            go_roundw
            case rel=>exact ⟨j+1,k+1,A7,c7,us++[⟨m,AV1,cv1,A1,c1⟩],by omega,by go_num,by rw [outL_snoc,Int.zero_add,←HMk.out,if_pos hsq];exact HMd7.out⟩
            case measure=>simp [intOf];omega
        · have qM_0:=HM_16.out 0 (by simp)
          have qM_1:=HM_16.out 1 (by simp)
          have qM_2:=HM_16.out 2 (by simp)
          have qM_3:=HM_16.out 3 (by simp)
          have qM_4:=HM_16.out 4 (by simp)
          have qM_5:=HM_16.out 5 (by simp)
          have qM_6:=HM_16.out 6 (by simp)
          have qM_7:=HM_16.out 7 (by simp)
          have qM_8:=HM_16.out 8 (by simp)
          have lM:wr.heap.size < wq.heap.size:=by omega
          simp only [List.getElem_cons_succ,List.getElem_cons_zero] at qM_0 qM_1 qM_2 qM_3 qM_4 qM_5 qM_6 qM_7 qM_8
          go_wp2_with fail
          go_roundw
          case rel=>exact ⟨j+1,k,A',c',us,by omega,by go_num,by rw [outL_snoc,Int.zero_add,←HMk.out,if_neg hsq,List.append_nil];exact HStq.out⟩
          case measure=>simp [intOf];omega
      · have hke:j=4:=by omega
        subst hke
        obtain ⟨W5,rfl⟩:∃X:World,X=wr:=⟨_,rfl⟩
        obtain ⟨AHn,rfl⟩:∃X:Option Addr,X=A':=⟨_,rfl⟩
        obtain ⟨cHn,rfl⟩:∃X:Nat,X=c':=⟨_,rfl⟩
        obtain ⟨nH,rfl⟩:∃X:Nat,X=k:=⟨_,rfl⟩
        have HMH:=hd' (HSt.out.row.own HSt.out.ms)
        have HnH:=hd' HSt.out.len'
        have hlrH:W4.heap.size≤W5.heap.size:=HSt.out.off.size
        have HTr:=hd' (show TrOwn W5 L1 B1 AV2 [x0,x1,x2,x3] A2 es from HT.out.keep fun p hp hq=>⟨HSt.out.off.cell (by omega) (by omega),HSt.out.off.frozen (by omega) (by omega)⟩)
        have hbx5:BxH W5 b [.int .i64 id,.slice AV2 4 cv2,.slice A2 es.length c2,.slice AHn nH cHn,.bool al,.slice none 0 0]:=by simpa using HSt.out.bx
        have lb5:=hbx5.2.2
        clear HBx
        have HBx:=hd' hbx5
        clear hbx5 HSt HT
        have c42:=HDB_8.out.at_ 42 _ HE.out.2.2.2.2.2.2
        simp only [Nat.zero_add] at c42
        have lD5:w.heap.size < W5.heap.size:=by omega
        go_wp2_with fail
        clear c42
        have HSt0:=hd' (show MdSt b 5 (ps.take 0) W5 [.int .i64 id,.slice AV2 4 cv2,.slice A2 es.length c2,.slice AHn nH cHn,.bool al,.slice none 0 0] 0 none 0 [] W5 from ⟨rfl,rfl,by simpa using HBx.out,MxsIs.nil (Nat.le_refl _),OffB.refl _ _⟩)
        go_loopw [36] (fun i wr=>∃(k:Nat) (A':Option Addr) (c':Nat) (us:List Mx),k≤ps.length∧i=.int .i64 k∧MdSt b 5 (ps.take k) W5 [.int .i64 id,.slice AV2 4 cv2,.slice A2 es.length c2,.slice AHn nH cHn,.bool al,.slice none 0 0] k A' c' us wr) (fun i _=>ps.length - (intOf i).toNat)
        case atStart=>exact ⟨0,none,0,[],Nat.zero_le _,rfl,HSt0.out⟩
        case round =>
          obtain ⟨k,A',c',us,hk,rfl,hst⟩:=hrel
          have hoff:=hst.off
          have HSt:=hd' hst
          clear hst HSt0
          have z_11:=hoff.size
          have Hbel_12:=hd' (hoff.bel Hbel_7.out (by omega) (by omega))
          have HDB_13:=hd' (HDB_8.out.offB hoff (by omega))
          have HR_14:=hd' (show Bx wr (w.heap.size+1) [.int .i64 0,.slice none 0 0,.slice none 0 0,.slice none 0 0,.bool false,.slice none 0 0] from fun j hj=>(hoff.cell (p:=⟨w.heap.size+1,j,none⟩) (by show w.heap.size+1 < _;omega) (by show w.heap.size+1≠_;omega)).trans (HR_9.out j hj))
          have HRF_15:=hd' (show ∀o,wr.frozen? ⟨w.heap.size+1,o,none⟩=false from fun o=>(hoff.frozen (p:=⟨w.heap.size+1,o,none⟩) (by show w.heap.size+1 < _;omega) (by show w.heap.size+1≠_;omega)).trans (HRF_10.out o))
          clear Hbel_7 HDB_8 HR_9 HRF_10
          clear hoff
          by_cases hkl:k < ps.length
          · obtain ⟨bp,op,rfl,_,hbp,hcp⟩:=HPs.out (by omega)
            obtain ⟨lj,hlj,hrg⟩:=hcp k hkl
            obtain ⟨m,hm⟩:∃m,m=ps[k]:=⟨_,rfl⟩
            have hfm:=HPe.out ps[k] (List.getElem_mem hkl)
            rw [←hm] at hlj hfm
            obtain ⟨y0,y1,y2,y3,Em,km,hmv,rfl,hme⟩:=hlj
            have d0:=(Hbel_12.out.cell (p:=⟨bp,op+k*9+0,none⟩) hbp).trans (hrg 0 _ rfl)
            have d1:=(Hbel_12.out.cell (p:=⟨bp,op+k*9+1,none⟩) hbp).trans (hrg 1 _ rfl)
            have d2:=(Hbel_12.out.cell (p:=⟨bp,op+k*9+2,none⟩) hbp).trans (hrg 2 _ rfl)
            have d3:=(Hbel_12.out.cell (p:=⟨bp,op+k*9+3,none⟩) hbp).trans (hrg 3 _ rfl)
            have d4:=(Hbel_12.out.cell (p:=⟨bp,op+k*9+4,none⟩) hbp).trans (hrg 4 _ rfl)
            have d5:=(Hbel_12.out.cell (p:=⟨bp,op+k*9+5,none⟩) hbp).trans (hrg 5 _ rfl)
            have d6:=(Hbel_12.out.cell (p:=⟨bp,op+k*9+6,none⟩) hbp).trans (hrg 6 _ rfl)
            have d7:=(Hbel_12.out.cell (p:=⟨bp,op+k*9+7,none⟩) hbp).trans (hrg 7 _ rfl)
            have d8:=(Hbel_12.out.cell (p:=⟨bp,op+k*9+8,none⟩) hbp).trans (hrg 8 _ rfl)
            simp only [Nat.add_zero] at d0
            have HMk:=hd' hm
            have HMv:=hd' hmv
            have HMe:=hd' hme
            have hk':(k:Int) < (ps.length:Int):=by omega
            have lA:bp < wr.heap.size:=by omega
            clear hm hmv hme hcp hrg
            go_upto_region 11 with fail
            clear d0 d1 d2 d3 d4 d5 d6 d7 d8
            obtain ⟨wq,hwq⟩:∃x,x=wr.alloc (.cells #[.int .i64 m.au,.int .i64 m.sq,.int .i64 m.pv,.int .i64 y0,.int .i64 y1,.int .i64 y2,.int .i64 y3,.slice Em m.es.length km,.int .i64 m.sg] 105):=⟨_,rfl⟩
            have hbq:Below wr.heap.size wr wq:=by rw [hwq];exact (Below.refl _ _).alloc (Nat.le_refl _) _
            have hxq:Bx wq wr.heap.size [.int .i64 m.au,.int .i64 m.sq,.int .i64 m.pv,.int .i64 y0,.int .i64 y1,.int .i64 y2,.int .i64 y3,.slice Em m.es.length km,.int .i64 m.sg]:=by rw [hwq];exact Bx.new' _ _ _ _ rfl
            have hzq:wr.heap.size < wq.heap.size:=by rw [hwq];simp
            rw [←hwq]
            clear hwq
            have HStq:=hd' (HSt.out.below hbq)
            have z_16:=hbq.size
            have Hbel_17:=hd' (Hbel_12.out.trans (hbq.mono (by omega)))
            have HDB_18:=hd' (HDB_13.out.below hbq)
            have HR_19:=hd' (HR_14.out.below hbq (by omega))
            have HRF_20:=hd' (show ∀o,wq.frozen? ⟨w.heap.size+1,o,none⟩=false from fun o=>(hbq.frozen (p:=⟨w.heap.size+1,o,none⟩) (by show w.heap.size+1 < _;omega)).trans (HRF_15.out o))
            clear Hbel_12 HDB_13 HR_14 HRF_15
            have HM_21:=hd' (hxq)
            clear hbq hxq
            have qM_0:=HM_21.out 0 (by simp)
            have qM_1:=HM_21.out 1 (by simp)
            have qM_2:=HM_21.out 2 (by simp)
            have qM_3:=HM_21.out 3 (by simp)
            have qM_4:=HM_21.out 4 (by simp)
            have qM_5:=HM_21.out 5 (by simp)
            have qM_6:=HM_21.out 6 (by simp)
            have qM_7:=HM_21.out 7 (by simp)
            have qM_8:=HM_21.out 8 (by simp)
            have lM:wr.heap.size < wq.heap.size:=by omega
            simp only [List.getElem_cons_succ,List.getElem_cons_zero] at qM_0 qM_1 qM_2 qM_3 qM_4 qM_5 qM_6 qM_7 qM_8
            have hl3:k+1≤maxLen:=by unfold maxLen;omega
            have hl4:(k+1)*80≤140737488355328:=by omega
            obtain ⟨i1,hi1,hy0,hy1,hy2⟩:=info_parts Tryz.infoMan
            have hrow:=HStq.out.row.1
            rw [HStq.out.len] at hrow
            have oc:wq.cell? ⟨b,5,none⟩=some (.slice A' k c'):=by have:=HStq.out.bx.1 5 (by simp);simpa using this
            have of:=HStq.out.bx.2.1 5
            have lo:=HStq.out.bx.2.2
            have lW:W5.heap.size≤wq.heap.size:=HStq.out.off.size
            have HRow:=hd' hrow
            clear hrow
            go_region_law
              (first
                | (try go_simp
                   go_at_call 68
                   refine (mout_any m y0 y1 y2 y3 Em km _ HMv.out ?_ (by omega)).mono ?_
                   · exact (HMe.out.keep fun p _ hp=>Hbel_17.out.cell (by omega)).mono (show w.heap.size≤wq.heap.size by omega)
                   rintro e w6 ⟨AV1,cv1,A1,c1,rfl,hown,hlt6,hcap,hb6⟩
                   have hB6:Below wq.heap.size wq w6:=by first|exact hb6|exact (Below.refl wq.heap.size wq).drew.trans hb6|exact (Below.refl wq.heap.size wq).drew.drew.trans hb6
                   have hz6:wq.heap.size≤w6.heap.size:=hB6.size
                   have HT6:=hd' (show TrOwn w6 wq.heap.size w6.heap.size AV1 m.vec A1 m.es from hown)
                   have oc6:w6.cell? ⟨b,5,none⟩=some (.slice A' k c'):=(hB6.cell (p:=⟨b,5,none⟩) lo).trans oc
                   have hrow6:w6.ownsRow W5.heap.size 40 6 (.slice A' k c') k (rowM us):=ownsRow_below HRow.out hB6 (fun g hg=>(HRow.out.lt g hg).2)
                   have lW6:W5.heap.size≤w6.heap.size:=by omega
                   have lo6:b < w6.heap.size:=by omega
                   have HC6:=hd' hcap
                   have HB6:=hd' hB6
                   clear hb6 hown hcap hB6
                   go_wp2_with fail)
                | (refine step_append_at _ (by rfl) _ _ _ (by rfl) W5.heap.size 40 i1 _ 6 80 Tryz.underlying55 hi1 hy0 hy1 hy2 rfl (by decide) (.slice A' k c') k (rowM us) (by rfl) ?_ ⟨w6.heap.size,0,none⟩ 1 1 (cellsM ⟨m,AV1,cv1,A1,c1⟩) (by rfl) rfl ?_ (cellsM_one _) hl3 hl4 ?_ ?_
                   · (repeat first|with_reducible exact hrow6|with_reducible apply World.ownsRow.drew|with_reducible apply World.ownsRow.alloc)
                   · first|exact newsM|exact newsM_drew|exact newsM_drew'
                   · simp;omega
                   intro A7 c7 w7 hown7 hgr7 hv7
                   have HMd7:=hd' (HStq.out.step (x:=⟨m,AV1,cv1,A1,c1⟩) (by simp) (by omega) HB6.out HT6.out HC6.out (by repeat first|with_reducible exact Below.refl _ _|with_reducible apply Below.drew|with_reducible refine Below.alloc ?_ (by first|exact Nat.le_refl _|(simp;done)|(simp;omega)) _) hown7 hgr7 hv7)
                   have hne7:some (b)≠(Value.slice A' k c').ownBlock:=fun e=>by have:=(HRow.out.lt _ e.symm).1;omega
                   have hbx7:=((HStq.out.bx.below HB6.out).below (by repeat first|with_reducible exact Below.refl _ _|with_reducible apply Below.drew|with_reducible refine Below.alloc ?_ (by first|exact Nat.le_refl _|(simp;done)|(simp;omega)) _)).grown hgr7 hne7
                   have o_7:w7.cell? ⟨b,5,none⟩=some (.slice A' k c'):=by have:=hbx7.1 5 (by simp);simpa using this
                   have of_7:=hbx7.2.1 5
                   have lo_7:=hbx7.2.2
                   clear hgr7 hown7 hv7 hbx7 hne7))
            all_goals clear oc of oc6 hrow6 i1 hi1 hy0 hy1 hy2
            all_goals
              go_wp2_with fail
              go_roundw
              case rel =>
                first|exact ⟨k+1,A7,c7,us++[⟨m,AV1,cv1,A1,c1⟩],by omega,by go_num,by rw [List.take_succ_eq_append_getElem hkl,←HMk.out];exact HMd7.out⟩|exact ⟨k+1,by omega,by omega,A7,c7,us++[⟨m,AV1,cv1,A1,c1⟩],by rw [List.take_succ_eq_append_getElem hkl,←HMk.out];exact HMd7.out⟩
              case measure=>simp [intOf];omega
          · have hke:k=ps.length:=by omega
            subst hke
            obtain ⟨W6,rfl⟩:∃X:World,X=wr:=⟨_,rfl⟩
            obtain ⟨APn,rfl⟩:∃X:Option Addr,X=A':=⟨_,rfl⟩
            obtain ⟨cPn,rfl⟩:∃X:Nat,X=c':=⟨_,rfl⟩
            have hus:=HSt.out.ms
            rw [List.take_length] at hus
            have HMP:=hd' (HSt.out.row.own hus)
            have hlrP:W5.heap.size≤W6.heap.size:=HSt.out.off.size
            have HTr6:=hd' (show TrOwn W6 L1 B1 AV2 [x0,x1,x2,x3] A2 es from HTr.out.keep fun p hp hq=>⟨HSt.out.off.cell (by omega) (by omega),HSt.out.off.frozen (by omega) (by omega)⟩)
            have HMh6:=hd' (show MnsOwn W6 W4.heap.size W5.heap.size AHn (outL f 4 0) from HMH.out.keep fun p hp hq=>⟨HSt.out.off.cell (by omega) (by omega),HSt.out.off.frozen (by omega) (by omega)⟩)
            have hbx6:BxH W6 b [.int .i64 id,.slice AV2 4 cv2,.slice A2 es.length c2,.slice AHn nH cHn,.bool al,.slice APn ps.length cPn]:=by simpa using HSt.out.bx
            have o0:=hbx6.1 0 (by simp)
            have o1:=hbx6.1 1 (by simp)
            have o2:=hbx6.1 2 (by simp)
            have o3:=hbx6.1 3 (by simp)
            have o4:=hbx6.1 4 (by simp)
            have o5:=hbx6.1 5 (by simp)
            simp only [List.getElem_cons_succ,List.getElem_cons_zero] at o0 o1 o2 o3 o4 o5
            have lb6:=hbx6.2.2
            clear hbx6 hus HSt HTr HMH
            have qR_0:=HR_14.out 0 (by simp)
            have qR_1:=HR_14.out 1 (by simp)
            have qR_2:=HR_14.out 2 (by simp)
            have qR_3:=HR_14.out 3 (by simp)
            have qR_4:=HR_14.out 4 (by simp)
            have qR_5:=HR_14.out 5 (by simp)
            have lR:w.heap.size+1 < W6.heap.size:=by omega
            have fRF_0:=HRF_15.out 0
            have fRF_1:=HRF_15.out 1
            have fRF_2:=HRF_15.out 2
            have fRF_3:=HRF_15.out 3
            have fRF_4:=HRF_15.out 4
            have fRF_5:=HRF_15.out 5
            simp only [List.getElem_cons_succ,List.getElem_cons_zero] at qR_0 qR_1 qR_2 qR_3 qR_4 qR_5
            go_wp2_with fail
            clear qR_0 qR_1 qR_2 qR_3 qR_4 qR_5 lR fRF_0 fRF_1 fRF_2 fRF_3 fRF_4 fRF_5
            clear o0 o1 o2 o3 o4 o5
            clear HDB_13
            obtain ⟨w9,hW16⟩:∃x,x=putAll (w.heap.size+1) 0 [.int .i64 id,.slice AV2 4 cv2,.slice A2 es.length c2,.slice AHn nH cHn,.bool al,.slice APn ps.length cPn] W6:=⟨_,rfl⟩
            have hs16:w9.heap.size=W6.heap.size:=by rw [hW16];exact putAll_size
            have Hbel_17:=hd' (show Below w.heap.size w w9 by rw [hW16];exact putAll_below Hbel_12.out (by omega))
            have HR_18:=hd' (show Bx w9 (w.heap.size+1) [.int .i64 id,.slice AV2 4 cv2,.slice A2 es.length c2,.slice AHn nH cHn,.bool al,.slice APn ps.length cPn] by rw [hW16];have hq:=HR_14.out.put 0 [.int .i64 id,.slice AV2 4 cv2,.slice A2 es.length c2,.slice AHn nH cHn,.bool al,.slice APn ps.length cPn] (by simp);simpa using hq)
            have HRF_19:=hd' (show ∀o,w9.frozen? ⟨w.heap.size+1,o,none⟩=false from fun o=>by rw [hW16];exact (putAll_frozen _).trans (HRF_15.out o))
            have Htr_20:=hd' (show TrOwn w9 L1 B1 AV2 [x0,x1,x2,x3] A2 es by rw [hW16];exact HTr6.out.keep fun p hp hq=>⟨putAll_other (by omega),putAll_frozen _⟩)
            have Hmh_21:=hd' (show MnsOwn w9 W4.heap.size W5.heap.size AHn (outL f 4 0) by rw [hW16];exact HMh6.out.keep fun p hp hq=>⟨putAll_other (by omega),putAll_frozen _⟩)
            have Hmp_22:=hd' (show MnsOwn w9 W5.heap.size W6.heap.size APn ps by rw [hW16];exact HMP.out.keep fun p hp hq=>⟨putAll_other (by omega),putAll_frozen _⟩)
            simp only [putAll] at hW16
            rw [←hW16]
            have z_23:W6.heap.size≤w9.heap.size:=Nat.le_of_eq hs16.symm
            clear hW16 hs16 Hbel_12 HR_14 HRF_15 HTr6 HMh6 HMP
            have qR_0:=HR_18.out 0 (by simp)
            have qR_1:=HR_18.out 1 (by simp)
            have qR_2:=HR_18.out 2 (by simp)
            have qR_3:=HR_18.out 3 (by simp)
            have qR_4:=HR_18.out 4 (by simp)
            have qR_5:=HR_18.out 5 (by simp)
            have lR:w.heap.size+1 < w9.heap.size:=by omega
            simp only [List.getElem_cons_succ,List.getElem_cons_zero] at qR_0 qR_1 qR_2 qR_3 qR_4 qR_5
            have HDv:=hd' (show DvOwn w9 w.heap.size w9.heap.size AV2 [x0,x1,x2,x3] A2 es AHn (outL f 4 0) APn ps from ⟨L1,B1,W4.heap.size,W5.heap.size,W5.heap.size,W6.heap.size,by omega,by omega,by omega,by omega,by omega,by omega,.inl (by omega),.inl (by omega),.inl (by omega),hLB,by omega,by omega,Htr_20.out,Hmh_21.out,Hmp_22.out⟩)
            refine bodyPost_ret (v:=.agg #[.int .i64 id,.slice AV2 4 cv2,.slice A2 es.length c2,.slice AHn nH cHn,.bool al,.slice APn ps.length cPn]) (by simp [results,Tryz.results91,qR_0,qR_1,qR_2,qR_3,qR_4,qR_5,go_sem]) rfl ⟨AV2,cv2,A2,c2,AHn,cHn,APn,cPn,by rw [HnH.out,←HAl.out];rfl,HDv.out,by omega,Hbel_17.out⟩
end Go.Proofs.YtckajeippfpojaaGreat
namespace Go.Proofs.YtckajeippfpojaaGreat
open Go.RowKit Go.Maps
set_option maxRecDepth 100000
theorem BxH.big {X:World} {b:Nat} {us:List Value} (h:Bx X b us) (hf:∀o,X.frozen? ⟨b,o,none⟩=false) (hl:b < X.heap.size):BigBx X b us :=
  ⟨fun j v hv=>by
    obtain ⟨hj,rfl⟩:=List.getElem?_eq_some_iff.1 hv
    rw [Nat.zero_add];exact h j hj,hf,hl⟩
def LABk (v:Value):Sem Value:=Instr.loadAt 125 v
theorem labk_name (v:Value):Instr.loadAt 125 v=LABk v:=rfl
def SABk (v u:Value):Sem Unit:=Instr.storeAt 125 v u
theorem sabk_name (v u:Value):Instr.storeAt 125 v u=SABk v u:=rfl
theorem labk_of {v0 v1:Value} {X:World} {b:Nat} (h:X.rangeAt b 0 [v0,v1]):(LABk (.pointer (some ⟨b,0,none⟩))).run Tryz.prog X=.ok (.agg #[v0,v1]) X:=by
  obtain ⟨d,hd,hr⟩:=Option.map_eq_some_iff.1 uBook
  exact run_loadAt_mid X b 0 125 [v0,v1] d h hd hr iBook
theorem sabk_of {v0 v1:Value} (h1:∀u∈[v0,v1],u.oneCell'=true) {X:World} {b:Nat} (ht:X.there b 0 2):(SABk (.pointer (some ⟨b,0,none⟩)) (.agg #[v0,v1])).run Tryz.prog X=.ok () (X.setCells b 0 [v0,v1]):=by
  have h:=run_storeAt_mid (P:=Tryz.prog) X b 0 125 #[v0,v1] ht iBook (all_oneCell_toArray (cs:=[v0,v1]) h1)
  exact h
attribute [local simp ↓] la43_name lv43_name sa43_name labk_name sabk_name
structure Rc (W:World) (b4 b5 b7 b8:Nat) (B0 B1:Value) (l:List Value) (l4 l5:List Value) (X:World):Prop where
  c4:BigBx X b4 l4
  c5:BigBx X b5 l5
  c7:BigBx X b7 [B0,B1]
  c8:BigBx X b8 l
  l4l:l4.length=2
  l5l:l5.length=43
  ll:l.length=43
  o1:(∀u∈[B0,B1],u.oneCell'=true)∧∀u∈l,u.oneCell'=true
  ne:b4≠b5∧b7≠b4∧b7≠b5∧b8≠b4∧b8≠b5
  os:X.os=W.os
  tape:X.tape=W.tape
  output:X.output=W.output
  size:W.heap.size≤X.heap.size
  block:∀k,k < W.heap.size→k≠b4→k≠b5→X.heap[k]?=W.heap[k]?
theorem setCells_heap {b:Nat}:∀(vs:List Value) (o:Nat) (w:World) {k:Nat},k≠b→(w.setCells b o vs).heap[k]?=w.heap[k]?
  | [],_,_,_,_=>rfl
  | _ :: vs,o,_,_,hne=>(setCells_heap vs (o+1) _ hne).trans (Below.heap_setCell _ _ _ _ hne)
section
variable {W X Y:World} {b4 b5 b7 b8:Nat} {B0 B1:Value} {l l4 l5:List Value}
theorem Rc.below (h:Rc W b4 b5 b7 b8 B0 B1 l l4 l5 X) (hb:Below X.heap.size X Y):Rc W b4 b5 b7 b8 B0 B1 l l4 l5 Y :=
  ⟨h.c4.below hb,h.c5.below hb,h.c7.below hb,h.c8.below hb,h.l4l,h.l5l,h.ll,h.o1,h.ne,hb.os.trans h.os,hb.tape.trans h.tape,hb.output.trans h.output,Nat.le_trans h.size hb.size,fun k hk h1 h2=>(hb.block k (Nat.lt_of_lt_of_le hk h.size)).trans (h.block k hk h1 h2)⟩
theorem Rc.drew (h:Rc W b4 b5 b7 b8 B0 B1 l l4 l5 X):Rc W b4 b5 b7 b8 B0 B1 l l4 l5 X.drew:=h.below ((Below.refl _ _).drew)
theorem Rc.set4 (h:Rc W b4 b5 b7 b8 B0 B1 l l4 l5 X):Rc W b4 b5 b7 b8 B0 B1 l [B0,B1] l5 (X.setCells b4 0 [B0,B1]):=by
  have hb:Below b4 X (X.setCells b4 0 [B0,B1]):=setCells_below (Below.refl _ _) (Nat.le_refl _)
  obtain ⟨n1,n2,n3,n4,n5⟩:=h.ne
  exact ⟨h.c4.put h.l4l.symm,h.c5.put_else (Ne.symm n1) _ _,h.c7.put_else n2 _ _,h.c8.put_else n4 _ _,rfl,h.l5l,h.ll,h.o1,h.ne,hb.os.trans h.os,hb.tape.trans h.tape,hb.output.trans h.output,by rw [setCells_size];exact h.size,fun k hk h1 h2=>(setCells_heap _ _ _ h1).trans (h.block k hk h1 h2)⟩
theorem Rc.put5 (h:Rc W b4 b5 b7 b8 B0 B1 l l4 l5 X):Rc W b4 b5 b7 b8 B0 B1 l l4 l (X.setCells b5 0 l):=by
  have hb:Below b5 X (X.setCells b5 0 l):=setCells_below (Below.refl _ _) (Nat.le_refl _)
  obtain ⟨n1,n2,n3,n4,n5⟩:=h.ne
  exact ⟨h.c4.put_else n1 _ _,h.c5.put (h.ll.trans h.l5l.symm),h.c7.put_else n3 _ _,h.c8.put_else n5 _ _,h.l4l,h.ll,h.ll,h.o1,h.ne,hb.os.trans h.os,hb.tape.trans h.tape,hb.output.trans h.output,by rw [setCells_size];exact h.size,fun k hk h1 h2=>(setCells_heap _ _ _ h2).trans (h.block k hk h1 h2)⟩
theorem Rc.facts (h:Rc W b4 b5 b7 b8 B0 B1 l l4 l5 X):(LABk (.pointer (some ⟨b7,0,none⟩))).run Tryz.prog X=.ok (.agg #[B0,B1]) X∧(LA43 (.pointer (some ⟨b8,0,none⟩))).run Tryz.prog X=.ok (.agg l.toArray) X ∧
    (SABk (.pointer (some ⟨b4,0,none⟩)) (.agg #[B0,B1])).run Tryz.prog X=.ok () (X.setCells b4 0 [B0,B1])∧(SA43 (.pointer (some ⟨b5,0,none⟩)) (.agg l.toArray)).run Tryz.prog X=.ok () (X.setCells b5 0 l) :=
  ⟨labk_of h.c7.at_,la43_of h.ll h.c8.at_,sabk_of h.o1.1 (h.c4.there h.l4l),sa43_of h.ll h.o1.2 (h.c5.there h.l5l)⟩
theorem Rc.bel {B:Nat} {w:World} (h:Rc W b4 b5 b7 b8 B0 B1 l l4 l5 X) (hb:Below B w W) (h1:B≤W.heap.size) (h2:B≤b4) (h3:B≤b5):Below B w X :=
  ⟨h.os.trans hb.os,h.tape.trans hb.tape,h.output.trans hb.output,Nat.le_trans hb.size h.size,fun k hk=>(h.block k (by omega) (by omega) (by omega)).trans (hb.block k hk)⟩
theorem Rc.cell (h:Rc W b4 b5 b7 b8 B0 B1 l l4 l5 X) {p:Addr} (hp:p.block < W.heap.size) (h1:p.block≠b4) (h2:p.block≠b5):X.cell? p=W.cell? p:=World.cell?_of_block (h.block _ hp h1 h2)
theorem Rc.lv (h:Rc W b4 b5 b7 b8 B0 B1 l [B0,B1] l X):(loadVar 125 ⟨b4,0,none⟩).run Tryz.prog X=.ok (.agg #[B0,B1]) X∧(LV43 ⟨b5,0,none⟩).run Tryz.prog X=.ok (.agg l.toArray) X :=
  ⟨lvBook h.c4.at_,lv43_of h.ll h.c5.at_⟩
theorem BkAt.blk {V:Value} {f:Tm→Int} {v4 v5:Value} (h:BkAt W V f) (h4:W.cell? ⟨b4,0,none⟩=some v4) (h5:W.cell? ⟨b5,0,none⟩=some v5) (hk:∀k,k < W.heap.size→k≠b4→k≠b5→X.heap[k]?=W.heap[k]?):BkAt X V f:=by
  rcases h with ⟨ts,M,e,hl,hM,hf⟩|h
  · refine .inl ⟨ts,M,e,hl,?_,hf⟩
    obtain ⟨es,clock,hb,hr⟩:=hM
    have hlt:M < W.heap.size:=(Array.getElem?_eq_some_iff.1 hb).1
    have n4:M≠b4:=by rintro rfl;simp [World.cell?,hb] at h4
    have n5:M≠b5:=by rintro rfl;simp [World.cell?,hb] at h5
    exact ⟨es,clock,(hk M hlt n4 n5).trans hb,hr⟩
  · exact .inr h
end
theorem DrAt.alarm {w:World} {L B:Nat} {D:List Value} {id:Int} {vec:List Int} {es:List En} {f:Int→Mn} {ps:List Mn} (h:DrAt w L B D id vec es f ps):∃(P:Option Addr) (cp:Nat),D[42]?=some (.slice P ps.length cp):=by
  obtain ⟨x0,x1,x2,x3,E,k,lh,P,cp,_,hD,_,hhd,_⟩:=h.parts
  exact ⟨P,cp,by rw [hD,List.getElem?_append_right (by simp [hhd.len])];simp [hhd.len]⟩
def RdCalm (ts:List Tm) (id:Int) (vec:List Int) (es:List En) (hs:List Mn) (al:Bool) (ps:List Mn) (w:World) (e:Ending) (w':World):Prop :=
  ∃(AB:Option Addr) (nB cB:Nat) (MB:Option Nat) (f:Tm→Int) (l:List Value),e=.returned (.tuple #[.agg #[.slice AB nB cB,.map MB],.agg l.toArray,.bool (dokB ts id vec es hs al ps && !decide (0 < ps.length))])∧BkAt w' (.map MB) f∧(∀t,(Lit.int .i64 (f t)).wf=true) ∧
    l.length=43∧(∀u∈l,u.oneCell'=true)∧(dokB ts id vec es hs al ps=true→lokB ts=true∧f=lookI ts∧DrAt w' w.heap.size w'.heap.size l id vec es (slM hs) ps)∧Below w.heap.size w w'
set_option maxHeartbeats 600000 in
theorem readCalm_any (AL:Option Addr) (ts:List Tm) (cL:Nat) (id:Int) (AV:Option Addr) (vec:List Int) (cv:Nat) (A:Option Addr) (es:List En) (c:Nat) (AH:Option Addr) (hs:List Mn) (ch:Nat) (al:Bool) (AP:Option Addr) (ps:List Mn) (cp:Nat) (w:World) (hT:TmsIn w 0 w.heap.size AL ts) (ht:ts.length≤1048576) (htb:bulk ts≤1048576) (hV:IntsIn w 0 w.heap.size AV vec) (hA:EnsIn w 0 w.heap.size A es) (hH:MnsRd w 0 w.heap.size AH hs) (hP:MnsRd w 0 w.heap.size AP ps) (hv:vec.length≤1048576) (hn:es.length≤1048576) (hbk:ebulk es≤1048576) (hhl:hs.length≤1048576) (hhb:mbulk hs≤1048576) (hpl:ps.length≤1048576) (hpb:mbulk ps≤1048576) :
    Calls Tryz.prog 89 #[.agg #[.slice AL ts.length cL],.agg #[.int .i64 id,.slice AV vec.length cv,.slice A es.length c,.slice AH hs.length ch,.bool al,.slice AP ps.length cp]] w (RdCalm ts id vec es hs al ps w):=by
  have HT:=hd' hT
  have HV:=hd' hV
  have HA:=hd' hA
  have HH:=hd' hH
  have HP:=hd' hP
  clear hV hA hH hP hT
  go_enter Tryz.func89,Tryz.ntmps89
  go_wp2_with fail
  obtain ⟨W1_0,hW1_0⟩:∃x,x=w.alloc (.cells #[.slice AL ts.length cL] 35):=⟨_,rfl⟩
  obtain ⟨W1_1,hW1_1⟩:∃x,x=W1_0.alloc (.cells #[.int .i64 id,.slice AV vec.length cv,.slice A es.length c,.slice AH hs.length ch,.bool al,.slice AP ps.length cp] 57):=⟨_,rfl⟩
  obtain ⟨W1_2,hW1_2⟩:∃x,x=W1_1.alloc (.cells #[.slice none 0 0,.map none] 125):=⟨_,rfl⟩
  obtain ⟨W1_3,hW1_3⟩:∃x,x=W1_2.alloc (.cells #[.int .i64 0,.int .i64 0,.int .i64 0,.int .i64 0,.int .i64 0,.slice none 0 0,.int .i64 0,.int .i64 0,.int .i64 0,.int .i64 0,.int .i64 0,.int .i64 0,.int .i64 0,.slice none 0 0,.int .i64 0,.int .i64 0,.int .i64 0,.int .i64 0,.int .i64 0,.int .i64 0,.int .i64 0,.int .i64 0,.slice none 0 0,.int .i64 0,.int .i64 0,.int .i64 0,.int .i64 0,.int .i64 0,.int .i64 0,.int .i64 0,.int .i64 0,.slice none 0 0,.int .i64 0,.int .i64 0,.int .i64 0,.int .i64 0,.int .i64 0,.int .i64 0,.int .i64 0,.int .i64 0,.slice none 0 0,.int .i64 0,.slice none 0 0] 129):=⟨_,rfl⟩
  have hZ1_0:W1_0.heap.size=w.heap.size+1:=by rw [hW1_0];simp
  have hZ1_1:W1_1.heap.size=w.heap.size+2:=by rw [hW1_1];simp [hZ1_0]
  have hZ1_2:W1_2.heap.size=w.heap.size+3:=by rw [hW1_2];simp [hZ1_1]
  have hZ1_3:W1_3.heap.size=w.heap.size+4:=by rw [hW1_3];simp [hZ1_2]
  have hx0:Bx W1_0 (w.heap.size) [.slice AL ts.length cL]:=by rw [hW1_0];exact Bx.new' _ _ _ _ rfl
  replace hx0:Bx W1_1 (w.heap.size) [.slice AL ts.length cL]:=by rw [hW1_1];exact hx0.alloc (by omega) _
  replace hx0:Bx W1_2 (w.heap.size) [.slice AL ts.length cL]:=by rw [hW1_2];exact hx0.alloc (by omega) _
  replace hx0:Bx W1_3 (w.heap.size) [.slice AL ts.length cL]:=by rw [hW1_3];exact hx0.alloc (by omega) _
  have hx1:Bx W1_1 (w.heap.size+1) [.int .i64 id,.slice AV vec.length cv,.slice A es.length c,.slice AH hs.length ch,.bool al,.slice AP ps.length cp]:=by rw [hW1_1,←hZ1_0];exact Bx.new' _ _ _ _ rfl
  replace hx1:Bx W1_2 (w.heap.size+1) [.int .i64 id,.slice AV vec.length cv,.slice A es.length c,.slice AH hs.length ch,.bool al,.slice AP ps.length cp]:=by rw [hW1_2];exact hx1.alloc (by omega) _
  replace hx1:Bx W1_3 (w.heap.size+1) [.int .i64 id,.slice AV vec.length cv,.slice A es.length c,.slice AH hs.length ch,.bool al,.slice AP ps.length cp]:=by rw [hW1_3];exact hx1.alloc (by omega) _
  have hx2:Bx W1_2 (w.heap.size+2) [.slice none 0 0,.map none]:=by rw [hW1_2,←hZ1_1];exact Bx.new' _ _ _ _ rfl
  replace hx2:Bx W1_3 (w.heap.size+2) [.slice none 0 0,.map none]:=by rw [hW1_3];exact hx2.alloc (by omega) _
  have hx3:Bx W1_3 (w.heap.size+3) [.int .i64 0,.int .i64 0,.int .i64 0,.int .i64 0,.int .i64 0,.slice none 0 0,.int .i64 0,.int .i64 0,.int .i64 0,.int .i64 0,.int .i64 0,.int .i64 0,.int .i64 0,.slice none 0 0,.int .i64 0,.int .i64 0,.int .i64 0,.int .i64 0,.int .i64 0,.int .i64 0,.int .i64 0,.int .i64 0,.slice none 0 0,.int .i64 0,.int .i64 0,.int .i64 0,.int .i64 0,.int .i64 0,.int .i64 0,.int .i64 0,.int .i64 0,.slice none 0 0,.int .i64 0,.int .i64 0,.int .i64 0,.int .i64 0,.int .i64 0,.int .i64 0,.int .i64 0,.int .i64 0,.slice none 0 0,.int .i64 0,.slice none 0 0]:=by rw [hW1_3,←hZ1_2];exact Bx.new' _ _ _ _ rfl
  have hb0:Below w.heap.size w W1_3:=by rw [hW1_3,hW1_2,hW1_1,hW1_0];exact (((((Below.refl _ _).alloc (by first|exact Nat.le_refl _|(simp;done)|(simp;omega)) _).alloc (by first|exact Nat.le_refl _|(simp;done)|(simp;omega)) _).alloc (by first|exact Nat.le_refl _|(simp;done)|(simp;omega)) _).alloc (by first|exact Nat.le_refl _|(simp;done)|(simp;omega)) _)
  have hf2:∀o,W1_3.frozen? ⟨w.heap.size+2,o,none⟩=false:=fun o=>by rw [hW1_3,hW1_2,hW1_1,hW1_0];exact (((((Fresh.refl w).alloc _ _).alloc _ _).alloc _ _).alloc _ _) ⟨w.heap.size+2,o,none⟩ (by show w.heap.size≤w.heap.size+2;omega)
  have hf3:∀o,W1_3.frozen? ⟨w.heap.size+3,o,none⟩=false:=fun o=>by rw [hW1_3,hW1_2,hW1_1,hW1_0];exact (((((Fresh.refl w).alloc _ _).alloc _ _).alloc _ _).alloc _ _) ⟨w.heap.size+3,o,none⟩ (by show w.heap.size≤w.heap.size+3;omega)
  have hlt:w.heap.size+3 < W1_3.heap.size:=by omega
  rw [←hW1_0,←hW1_1,←hW1_2,←hW1_3]
  clear hW1_0 hZ1_0 hW1_1 hZ1_1 hW1_2 hZ1_2 hW1_3 hZ1_3
  have z_2:=hb0.size
  have Hbel_3:=hd' (hb0)
  have HL_4:=hd' (hx0)
  have HD_5:=hd' (hx1)
  have HQ_6:=hd' (hx2)
  have HQF_7:=hd' (hf2)
  clear hf2
  have HR_8:=hd' (hx3)
  have HRF_9:=hd' (hf3)
  clear hf3
  clear hb0 hx0 hx1 hx2 hx3
  have hl_10:=hlt
  clear hlt
  have HRB_11:=hd' (show BigBx W1_3 (w.heap.size+3) (d43 0) from ⟨bx_range HR_8.out,HRF_9.out,by omega⟩)
  clear HR_8 HRF_9
  refine (readWith_any AL ts cL id AV vec cv A es c AH hs ch al AP ps cp W1_3 ((HT.out.keep fun p _ hp=>Hbel_3.out.cell hp).mono (by omega)) ht htb ((HV.out.keep fun p _ hp=>Hbel_3.out.cell hp).mono (by omega)) ((HA.out.keep fun p _ hp=>Hbel_3.out.cell hp).mono (by omega)) ((HH.out.keep fun p _ hp=>Hbel_3.out.cell hp).mono (Nat.le_refl _) (by omega)) ((HP.out.keep fun p _ hp=>Hbel_3.out.cell hp).mono (Nat.le_refl _) (by omega)) hv hn hbk hhl hhb hpl hpb).mono ?_
  rintro e w1 ⟨AB,nB,cB,MB,f,l,rfl,hbk0,hfw,hl43,hl1,hdr,hb⟩
  have z_12:=hb.size
  have Hbel_13:=hd' (Hbel_3.out.trans (hb.mono (by omega)))
  have HQ_14:=hd' (HQ_6.out.below hb (by omega))
  have HQF_15:=hd' (show ∀o,w1.frozen? ⟨w.heap.size+2,o,none⟩=false from fun o=>(hb.frozen (p:=⟨w.heap.size+2,o,none⟩) (by show w.heap.size+2 < _;omega)).trans (HQF_7.out o))
  have HRB_16:=hd' (HRB_11.out.below hb)
  clear Hbel_3 HL_4 HD_5 HQ_6 HQF_7 HRB_11
  clear hb
  have HBk:=hd' hbk0
  have HFw:=hd' hfw
  have H43:=hd' hl43
  have H1:=hd' hl1
  clear hbk0 hfw hl43 hl1
  obtain ⟨I,hI⟩:∃I,I=dokB ts id vec es hs al ps:=⟨_,rfl⟩
  rw [←hI] at hdr ⊢
  have HI:=hd' hI
  have HDr:=hd' hdr
  clear hI hdr
  have hO2:∀u∈[Value.slice AB nB cB,Value.map MB],u.oneCell'=true:=fun u hu=>by
    simp only [List.mem_cons,List.mem_nil_iff,or_false] at hu
    rcases hu with rfl|rfl <;> rfl
  obtain ⟨u1,hu1⟩:∃x,x=(w1.alloc (.cells #[.slice none 0 0,.map none] 125)).alloc (.cells #[.int .i64 0,.int .i64 0,.int .i64 0,.int .i64 0,.int .i64 0,.slice none 0 0,.int .i64 0,.int .i64 0,.int .i64 0,.int .i64 0,.int .i64 0,.int .i64 0,.int .i64 0,.slice none 0 0,.int .i64 0,.int .i64 0,.int .i64 0,.int .i64 0,.int .i64 0,.int .i64 0,.int .i64 0,.int .i64 0,.slice none 0 0,.int .i64 0,.int .i64 0,.int .i64 0,.int .i64 0,.int .i64 0,.int .i64 0,.int .i64 0,.int .i64 0,.slice none 0 0,.int .i64 0,.int .i64 0,.int .i64 0,.int .i64 0,.int .i64 0,.int .i64 0,.int .i64 0,.int .i64 0,.slice none 0 0,.int .i64 0,.slice none 0 0] 129):=⟨_,rfl⟩
  have hz1:u1.heap.size=w1.heap.size+2:=by rw [hu1];simp
  have hk1:BigBx u1 w1.heap.size [.slice none 0 0,.map none]:=by rw [hu1];exact (BigBx.new w1 [.slice none 0 0,.map none] _).alloc _
  have hd1:BigBx u1 (w1.heap.size+1) (d43 0):=by rw [hu1];have:=BigBx.new (w1.alloc (.cells #[.slice none 0 0,.map none] 125)) (d43 0) 129;rw [show (w1.alloc (.cells #[.slice none 0 0,.map none] 125)).heap.size=w1.heap.size+1 by simp] at this;exact this
  have hb1:Below w1.heap.size w1 u1:=by rw [hu1];exact ((Below.refl _ _).alloc (Nat.le_refl _) _).alloc (by simp) _
  obtain ⟨u2,hu2⟩:∃x,x=u1.setCells w1.heap.size 0 [.slice AB nB cB,.map MB]:=⟨_,rfl⟩
  obtain ⟨W,hW⟩:∃x,x=u2.setCells (w1.heap.size+1) 0 l:=⟨_,rfl⟩
  have hst1:(SABk (.pointer (some ⟨w1.heap.size,0,none⟩)) (.agg #[.slice AB nB cB,.map MB])).run Tryz.prog u1=.ok () u2:=by rw [hu2];exact sabk_of hO2 (hk1.there rfl)
  have hd2:BigBx u2 (w1.heap.size+1) (d43 0):=by rw [hu2];exact hd1.put_else (by omega) _ _
  have hst2:(SA43 (.pointer (some ⟨w1.heap.size+1,0,none⟩)) (.agg l.toArray)).run Tryz.prog u2=.ok () W:=by rw [hW];exact sa43_of H43.out H1.out (hd2.there (d43_len 0))
  have hb2:Below w1.heap.size w1 W:=by rw [hW,hu2];exact setCells_below (setCells_below hb1 (Nat.le_refl _)) (by omega)
  have hk3:BigBx W w1.heap.size [.slice AB nB cB,.map MB]:=by rw [hW];refine BigBx.put_else ?_ (by omega) _ _;rw [hu2];exact hk1.put rfl
  have hd3:BigBx W (w1.heap.size+1) l:=by rw [hW];exact hd2.put (H43.out.trans (d43_len 0).symm)
  have hzW:W.heap.size=w1.heap.size+2:=by rw [hW,setCells_size,hu2,setCells_size];exact hz1
  rw [hu1] at hst1
  have HK3:=hd' hk3
  have HD3:=hd' hd3
  have HO2:=hd' hO2
  have HB2:=hd' hb2
  clear hu1 hu2 hW hk1 hd1 hb1 hd2 hk3 hd3 hO2 hb2
  go_upto_region 2 with fail
  clear hst1 hst2
  have hb2:=HB2.out
  have z_17:=hb2.size
  have Hbel_18:=hd' (Hbel_13.out.trans (hb2.mono (by omega)))
  have HQ_19:=hd' (HQ_14.out.below hb2 (by omega))
  have HQF_20:=hd' (show ∀o,W.frozen? ⟨w.heap.size+2,o,none⟩=false from fun o=>(hb2.frozen (p:=⟨w.heap.size+2,o,none⟩) (by show w.heap.size+2 < _;omega)).trans (HQF_15.out o))
  have HRB_21:=hd' (HRB_16.out.below hb2)
  clear Hbel_13 HQ_14 HQF_15 HRB_16
  clear hb2
  have HRc:=hd' (show Rc W (w.heap.size+2) (w.heap.size+3) w1.heap.size (w1.heap.size+1) (.slice AB nB cB) (.map MB) l [.slice none 0 0,.map none] (d43 0) W from ⟨BxH.big HQ_19.out HQF_20.out (by omega),HRB_21.out,HK3.out,HD3.out,rfl,d43_len 0,H43.out,⟨HO2.out,H1.out⟩,⟨by omega,by omega,by omega,by omega,by omega⟩,rfl,rfl,rfl,Nat.le_refl _,fun _ _ _ _=>rfl⟩)
  obtain ⟨s1,s2,s3,s4⟩:=HRc.out.drew.facts
  have hfin:∀X:World,Rc W (w.heap.size+2) (w.heap.size+3) w1.heap.size (w1.heap.size+1) (.slice AB nB cB) (.map MB) l [.slice AB nB cB,.map MB] l X→∀b:Bool,b=(I && !decide (0 < ps.length)) →
      RdCalm ts id vec es hs al ps w (.returned (.tuple #[.agg #[.slice AB nB cB,.map MB],.agg l.toArray,.bool b])) X:=by
    intro X hX b hb
    refine ⟨AB,nB,cB,MB,f,l,by rw [hb,HI.out],?_,HFw.out,H43.out,H1.out,?_,hX.bel Hbel_18.out (by omega) (by omega) (by omega)⟩
    · exact (HBk.out.below HB2.out).blk (HRc.out.c4.some (j:=0) (by simp)).choose_spec (HRc.out.c5.some (j:=0) (by simp [d43])).choose_spec hX.block
    · intro hd
      rw [←HI.out] at hd
      obtain ⟨h1,h2,h3⟩:=HDr.out hd
      have hsx:=hX.size
      have h4:DrAt X W1_3.heap.size w1.heap.size l id vec es (slM hs) ps:=h3.keep fun p hp hp2=>(hX.cell (by omega) (by omega) (by omega)).trans (HB2.out.cell hp2)
      exact ⟨h1,h2,(h4.mono (by omega)).low (by omega)⟩
  have HFin:=hd' hfin
  clear hfin
  cases I with
  | false =>
    obtain ⟨t1,t2,t3,t4⟩:=HRc.out.drew.set4.facts
    go_big_region
    go_wp2_with fail
    refine bodyPost_ret (v:=.tuple #[.agg #[.slice AB nB cB,.map MB],.agg l.toArray,.bool false]) (results_cct Tryz.results89 (p:=⟨w.heap.size+2,0,none⟩) (p2:=⟨w.heap.size+3,0,none⟩) (by first|rfl|simp) (Rc.lv (by repeat first|with_reducible exact hri.out|with_reducible exact HRc.out|with_reducible apply Rc.drew|with_reducible apply Rc.set4|with_reducible apply Rc.put5)).1 (by first|rfl|simp) (Rc.lv (by repeat first|with_reducible exact hri.out|with_reducible exact HRc.out|with_reducible apply Rc.drew|with_reducible apply Rc.set4|with_reducible apply Rc.put5)).2 (by first|rfl|simp)) rfl (HFin.out _ (by repeat first|with_reducible exact hri.out|with_reducible exact HRc.out|with_reducible apply Rc.drew|with_reducible apply Rc.set4|with_reducible apply Rc.put5) _ (by simp))
  | true =>
    obtain ⟨P0,cp0,h42⟩:=(HDr.out rfl).2.2.alarm
    have hin:=fun X=>inAlarm_any l P0 ps.length cp0 X h42
    have HIn:=hd' hin
    clear hin h42
    go_region_held3 (fun X=>(LABk (.pointer (some ⟨w1.heap.size,0,none⟩))).run Tryz.prog X=.ok (.agg #[.slice AB nB cB,.map MB]) X∧(LA43 (.pointer (some ⟨w1.heap.size+1,0,none⟩))).run Tryz.prog X=.ok (.agg l.toArray) X∧(SABk (.pointer (some ⟨w.heap.size+2,0,none⟩)) (.agg #[.slice AB nB cB,.map MB])).run Tryz.prog X=.ok () (X.setCells (w.heap.size+2) 0 [.slice AB nB cB,.map MB])∧(SA43 (.pointer (some ⟨w.heap.size+3,0,none⟩)) (.agg l.toArray)).run Tryz.prog X=.ok () (X.setCells (w.heap.size+3) 0 l))
      (exact Rc.facts (by repeat first|with_reducible exact hri.out|with_reducible exact HRc.out|with_reducible apply Rc.drew|with_reducible apply Rc.set4|with_reducible apply Rc.put5))
      (first
        | (go_at_call 149
           refine (HIn.out _).mono ?_
           rintro r wi ⟨rfl,hbi0⟩
           have hri:=hd' (Rc.below (by repeat first|with_reducible exact hri.out|with_reducible exact HRc.out|with_reducible apply Rc.drew|with_reducible apply Rc.set4|with_reducible apply Rc.put5) hbi0)
           obtain ⟨s1,s2,s3,s4⟩:=hri.out.facts))
    all_goals go_wp2_with fail
    all_goals refine bodyPost_ret (v:=.tuple #[.agg #[.slice AB nB cB,.map MB],.agg l.toArray,.bool (!decide (0 < ps.length))]) (results_cct Tryz.results89 (p:=⟨w.heap.size+2,0,none⟩) (p2:=⟨w.heap.size+3,0,none⟩) (by first|rfl|simp) (Rc.lv (by repeat first|with_reducible exact hri.out|with_reducible exact HRc.out|with_reducible apply Rc.drew|with_reducible apply Rc.set4|with_reducible apply Rc.put5)).1 (by first|rfl|simp) (Rc.lv (by repeat first|with_reducible exact hri.out|with_reducible exact HRc.out|with_reducible apply Rc.drew|with_reducible apply Rc.set4|with_reducible apply Rc.put5)).2 (by first|rfl|simp)) rfl (HFin.out _ (by repeat first|with_reducible exact hri.out|with_reducible exact HRc.out|with_reducible apply Rc.drew|with_reducible apply Rc.set4|with_reducible apply Rc.put5) _ (by simp))
end Go.Proofs.YtckajeippfpojaaGreat
namespace Go.Proofs.YtckajeippfpojaaGreat
open Go.RowKit Go.Maps
set_option maxRecDepth 100000
theorem dok_facts {ts:List Tm} {id:Int} {vec:List Int} {es:List En} {hs:List Mn} {al:Bool} {ps:List Mn} (h:dokB ts id vec es hs al ps=true) :
    treeB vec es=true∧es.length≤12∧(∀a,(slM hs a).es.length≤8)∧outL (slM hs) 4 0=hs∧al=decide (0 < ps.length)∧ps.length≤2∧devB id=true:=by
  have hlk:lokB ts=true:=by
    cases hl:lokB ts with
    | true=>rfl
    | false=>rw [dok_led hl] at h;cases h
  rw [dok_rd hlk] at h
  unfold rdB at h
  simp only [Bool.and_eq_true] at h
  obtain ⟨⟨⟨ht,hd⟩,hr⟩,hp⟩:=h
  refine ⟨ht,?_,?_,outL_sl 4 0 hs rfl (rhB_asc hr),?_,?_,hd⟩
  · unfold treeB at ht;simp only [Bool.and_eq_true,decide_eq_true_eq] at ht;exact ht.1.1.2
  · intro a
    rcases slM_mem (hs:=hs) (a:=a) with h|⟨h,_⟩
    · rw [h];simp [zMn]
    · obtain ⟨i,hi,he⟩:=List.getElem_of_mem h
      have:=rhB_true.1 hr i hi
      unfold hdP at this
      simp only [Bool.and_eq_true,getD_at hi] at this
      have:=manB_said (sdM_man this.1.1)
      rw [←he];omega
  · cases al with
    | true=>simp only [prP,if_true,Bool.and_eq_true,decide_eq_true_eq] at hp;rw [hp.1];rfl
    | false=>simp only [prP,Bool.false_eq_true,if_false,decide_eq_true_eq] at hp;rw [hp];rfl
  · cases al with
    | true=>simp only [prP,if_true,Bool.and_eq_true,decide_eq_true_eq] at hp;omega
    | false=>simp only [prP,Bool.false_eq_true,if_false,decide_eq_true_eq] at hp;omega
theorem DvOwn.retree {w:World} {L B Lt Bt L0:Nat} {AV A AH AP AVt At:Option Addr} {vec vt:List Int} {es et:List En} {hs ps:List Mn} (h:DvOwn w L B AV vec A es AH hs AP ps) (ht:TrOwn w Lt Bt AVt vt At et) (h1:Lt≤Bt) (h2:Bt≤L) (h3:L0≤Lt) (h4:L≤B):DvOwn w L0 B AVt vt At et AH hs AP ps:=by
  obtain ⟨L1,B1,L2,B2,L3,B3,g1,g2,g3,g4,g5,g6,g7,g8,g9,ga,gb,gc,gt,gh,gp⟩:=h
  exact ⟨Lt,Bt,L2,B2,L3,B3,by omega,by omega,by omega,g4,by omega,g6,.inl (by omega),.inl (by omega),g9,h1,gb,gc,ht,gh,gp⟩
def WtDv (L:Nat) (id:Int) (vec:List Int) (es:List En) (hs:List Mn) (al:Bool) (ps:List Mn) (b:Bool) (w:World) (e:Ending) (w':World):Prop :=
  ∃AV cv A c AH ch AP cp,e=.returned (.tuple #[.agg #[.int .i64 id,.slice AV vec.length cv,.slice A es.length c,.slice AH hs.length ch,.bool al,.slice AP ps.length cp],.bool b])∧DvOwn w' L w'.heap.size AV vec A es AH hs AP ps∧w.heap.size < w'.heap.size∧Below w.heap.size w w'
def WtPost (k:Bool) (L:Nat) (id:Int) (vec:List Int) (es:List En) (hs:List Mn) (w:World) (e:Ending) (w':World):Prop :=
  if k=true then WtDv L id vec es hs false [] true w e w' else WtDv L 0 [] [] [] false [] false w e w'
theorem WtPost.yes {k:Bool} {L:Nat} {id:Int} {vec:List Int} {es:List En} {hs:List Mn} {w w':World} {e:Ending} (hk:k=true) (h:WtDv L id vec es hs false [] true w e w'):WtPost k L id vec es hs w e w':=by unfold WtPost;rw [if_pos hk];exact h
theorem WtPost.no {k:Bool} {L:Nat} {id:Int} {vec:List Int} {es:List En} {hs:List Mn} {w w':World} {e:Ending} (hk:k=false) (h:WtDv L 0 [] [] [] false [] false w e w'):WtPost k L id vec es hs w e w':=by unfold WtPost;rw [if_neg (by rw [hk];simp)];exact h
theorem WtPost.of {k:Bool} {L:Nat} {id:Int} {vec:List Int} {es:List En} {hs:List Mn} {w w':World} {e:Ending} (h:WtPost k L id vec es hs w e w'):(k=true∧WtDv L id vec es hs false [] true w e w')∨(k=false∧WtDv L 0 [] [] [] false [] false w e w'):=by
  unfold WtPost at h
  cases k with
  | true=>exact .inl ⟨rfl,by simpa using h⟩
  | false=>exact .inr ⟨rfl,by simpa using h⟩
attribute [local simp ↓] la43_name lv43_name sa43_name
set_option maxHeartbeats 1000000 in
theorem withTree_any (AL:Option Addr) (ts:List Tm) (cL:Nat) (id:Int) (AV:Option Addr) (vec:List Int) (cv:Nat) (A:Option Addr) (es:List En) (c:Nat) (AH:Option Addr) (hs:List Mn) (ch:Nat) (al:Bool) (AP:Option Addr) (ps:List Mn) (cp:Nat) (AVt:Option Addr) (vt:List Int) (cvt:Nat) (At:Option Addr) (et:List En) (ct:Nat) (ok:Bool) (Lt:Nat) (w:World) (hT:TmsIn w 0 w.heap.size AL ts) (ht:ts.length≤1048576) (htb:bulk ts≤1048576) (hV:IntsIn w 0 w.heap.size AV vec) (hA:EnsIn w 0 w.heap.size A es) (hH:MnsRd w 0 w.heap.size AH hs) (hP:MnsRd w 0 w.heap.size AP ps) (hv:vec.length≤1048576) (hn:es.length≤1048576) (hbk:ebulk es≤1048576) (hhl:hs.length≤1048576) (hhb:mbulk hs≤1048576) (hpl:ps.length≤1048576) (hpb:mbulk ps≤1048576) (hO:TrOwn w Lt w.heap.size AVt vt At et) (hLt:Lt≤w.heap.size) :
    Calls Tryz.prog 83 #[.agg #[.slice AL ts.length cL],.agg #[.int .i64 id,.slice AV vec.length cv,.slice A es.length c,.slice AH hs.length ch,.bool al,.slice AP ps.length cp],.agg #[.slice AVt vt.length cvt,.slice At et.length ct],.bool ok] w (WtPost (ok && (dokB ts id vec es hs al ps && !decide (0 < ps.length))) Lt id vt et hs w):=by
  have HT:=hd' hT
  have HV:=hd' hV
  have HA:=hd' hA
  have HH:=hd' hH
  have HP:=hd' hP
  have HO:=hd' hO
  clear hV hA hH hP hT hO
  go_enter Tryz.func83,Tryz.ntmps83
  go_wp2_with fail
  obtain ⟨W1_0,hW1_0⟩:∃x,x=w.alloc (.cells #[.slice AL ts.length cL] 35):=⟨_,rfl⟩
  obtain ⟨W1_1,hW1_1⟩:∃x,x=W1_0.alloc (.cells #[.int .i64 id,.slice AV vec.length cv,.slice A es.length c,.slice AH hs.length ch,.bool al,.slice AP ps.length cp] 57):=⟨_,rfl⟩
  obtain ⟨W1_2,hW1_2⟩:∃x,x=W1_1.alloc (.cells #[.slice AVt vt.length cvt,.slice At et.length ct] 38):=⟨_,rfl⟩
  obtain ⟨W1_3,hW1_3⟩:∃x,x=W1_2.alloc (.cells #[.int .i64 0,.slice none 0 0,.slice none 0 0,.slice none 0 0,.bool false,.slice none 0 0] 57):=⟨_,rfl⟩
  have hZ1_0:W1_0.heap.size=w.heap.size+1:=by rw [hW1_0];simp
  have hZ1_1:W1_1.heap.size=w.heap.size+2:=by rw [hW1_1];simp [hZ1_0]
  have hZ1_2:W1_2.heap.size=w.heap.size+3:=by rw [hW1_2];simp [hZ1_1]
  have hZ1_3:W1_3.heap.size=w.heap.size+4:=by rw [hW1_3];simp [hZ1_2]
  have hx0:Bx W1_0 (w.heap.size) [.slice AL ts.length cL]:=by rw [hW1_0];exact Bx.new' _ _ _ _ rfl
  replace hx0:Bx W1_1 (w.heap.size) [.slice AL ts.length cL]:=by rw [hW1_1];exact hx0.alloc (by omega) _
  replace hx0:Bx W1_2 (w.heap.size) [.slice AL ts.length cL]:=by rw [hW1_2];exact hx0.alloc (by omega) _
  replace hx0:Bx W1_3 (w.heap.size) [.slice AL ts.length cL]:=by rw [hW1_3];exact hx0.alloc (by omega) _
  have hx1:Bx W1_1 (w.heap.size+1) [.int .i64 id,.slice AV vec.length cv,.slice A es.length c,.slice AH hs.length ch,.bool al,.slice AP ps.length cp]:=by rw [hW1_1,←hZ1_0];exact Bx.new' _ _ _ _ rfl
  replace hx1:Bx W1_2 (w.heap.size+1) [.int .i64 id,.slice AV vec.length cv,.slice A es.length c,.slice AH hs.length ch,.bool al,.slice AP ps.length cp]:=by rw [hW1_2];exact hx1.alloc (by omega) _
  replace hx1:Bx W1_3 (w.heap.size+1) [.int .i64 id,.slice AV vec.length cv,.slice A es.length c,.slice AH hs.length ch,.bool al,.slice AP ps.length cp]:=by rw [hW1_3];exact hx1.alloc (by omega) _
  have hx2:Bx W1_2 (w.heap.size+2) [.slice AVt vt.length cvt,.slice At et.length ct]:=by rw [hW1_2,←hZ1_1];exact Bx.new' _ _ _ _ rfl
  replace hx2:Bx W1_3 (w.heap.size+2) [.slice AVt vt.length cvt,.slice At et.length ct]:=by rw [hW1_3];exact hx2.alloc (by omega) _
  have hx3:Bx W1_3 (w.heap.size+3) [.int .i64 0,.slice none 0 0,.slice none 0 0,.slice none 0 0,.bool false,.slice none 0 0]:=by rw [hW1_3,←hZ1_2];exact Bx.new' _ _ _ _ rfl
  have hb0:Below w.heap.size w W1_3:=by rw [hW1_3,hW1_2,hW1_1,hW1_0];exact (((((Below.refl _ _).alloc (by first|exact Nat.le_refl _|(simp;done)|(simp;omega)) _).alloc (by first|exact Nat.le_refl _|(simp;done)|(simp;omega)) _).alloc (by first|exact Nat.le_refl _|(simp;done)|(simp;omega)) _).alloc (by first|exact Nat.le_refl _|(simp;done)|(simp;omega)) _)
  have hf3:∀o,W1_3.frozen? ⟨w.heap.size+3,o,none⟩=false:=fun o=>by rw [hW1_3,hW1_2,hW1_1,hW1_0];exact (((((Fresh.refl w).alloc _ _).alloc _ _).alloc _ _).alloc _ _) ⟨w.heap.size+3,o,none⟩ (by show w.heap.size≤w.heap.size+3;omega)
  have hlt:w.heap.size+3 < W1_3.heap.size:=by omega
  rw [←hW1_0,←hW1_1,←hW1_2,←hW1_3]
  clear hW1_0 hZ1_0 hW1_1 hZ1_1 hW1_2 hZ1_2 hW1_3 hZ1_3
  have z_2:=hb0.size
  have Hbel_3:=hd' (hb0)
  have HL_4:=hd' (hx0)
  have HD_5:=hd' (hx1)
  have HT_6:=hd' (hx2)
  have HR_7:=hd' (hx3)
  have HRF_8:=hd' (hf3)
  clear hf3
  clear hb0 hx0 hx1 hx2 hx3
  have hl_9:=hlt
  clear hlt
  refine (readCalm_any AL ts cL id AV vec cv A es c AH hs ch al AP ps cp W1_3 ((HT.out.keep fun p _ hp=>Hbel_3.out.cell hp).mono (by omega)) ht htb ((HV.out.keep fun p _ hp=>Hbel_3.out.cell hp).mono (by omega)) ((HA.out.keep fun p _ hp=>Hbel_3.out.cell hp).mono (by omega)) ((HH.out.keep fun p _ hp=>Hbel_3.out.cell hp).mono (Nat.le_refl _) (by omega)) ((HP.out.keep fun p _ hp=>Hbel_3.out.cell hp).mono (Nat.le_refl _) (by omega)) hv hn hbk hhl hhb hpl hpb).mono ?_
  rintro e w1 ⟨AB,nB,cB,MB,f,l,rfl,_,_,hl43,hl1,hdr,hb⟩
  have z_10:=hb.size
  have Hbel_11:=hd' (Hbel_3.out.trans (hb.mono (by omega)))
  have HT_12:=hd' (HT_6.out.below hb (by omega))
  have HR_13:=hd' (HR_7.out.below hb (by omega))
  have HRF_14:=hd' (show ∀o,w1.frozen? ⟨w.heap.size+3,o,none⟩=false from fun o=>(hb.frozen (p:=⟨w.heap.size+3,o,none⟩) (by show w.heap.size+3 < _;omega)).trans (HRF_8.out o))
  clear Hbel_3 HL_4 HD_5 HT_6 HR_7 HRF_8
  clear hb
  have H43:=hd' hl43
  have H1:=hd' hl1
  obtain ⟨c,hc⟩:∃c,c=(dokB ts id vec es hs al ps && !decide (0 < ps.length)):=⟨_,rfl⟩
  rw [←hc]
  have hdc:c=true→DrAt w1 0 w1.heap.size l id vec es (slM hs) ps∧dokB ts id vec es hs al ps=true:=fun h=>by
    rw [hc,Bool.and_eq_true] at h
    exact ⟨(hdr h.1).2.2.low (Nat.zero_le _),h.1⟩
  have HDc:=hd' hdc
  clear hdr hdc
  have HC:=hd' hc
  clear hc
  obtain ⟨u1,hu1⟩:∃x,x=(w1.alloc (.cells #[.slice AB nB cB,.map MB] 125)).alloc (.cells #[.int .i64 0,.int .i64 0,.int .i64 0,.int .i64 0,.int .i64 0,.slice none 0 0,.int .i64 0,.int .i64 0,.int .i64 0,.int .i64 0,.int .i64 0,.int .i64 0,.int .i64 0,.slice none 0 0,.int .i64 0,.int .i64 0,.int .i64 0,.int .i64 0,.int .i64 0,.int .i64 0,.int .i64 0,.int .i64 0,.slice none 0 0,.int .i64 0,.int .i64 0,.int .i64 0,.int .i64 0,.int .i64 0,.int .i64 0,.int .i64 0,.int .i64 0,.slice none 0 0,.int .i64 0,.int .i64 0,.int .i64 0,.int .i64 0,.int .i64 0,.int .i64 0,.int .i64 0,.int .i64 0,.slice none 0 0,.int .i64 0,.slice none 0 0] 129):=⟨_,rfl⟩
  have hba:BigBx u1 (w1.heap.size+1) (d43 0):=by rw [hu1];have:=BigBx.new (w1.alloc (.cells #[.slice AB nB cB,.map MB] 125)) (d43 0) 129;rw [show (w1.alloc (.cells #[.slice AB nB cB,.map MB] 125)).heap.size=w1.heap.size+1 by simp] at this;exact this
  have hbe1:Below w1.heap.size w1 u1:=by rw [hu1];exact ((Below.refl _ _).alloc (Nat.le_refl _) _).alloc (by simp) _
  obtain ⟨w2,hw2⟩:∃x,x=u1.setCells (w1.heap.size+1) 0 l:=⟨_,rfl⟩
  have hst:(SA43 (.pointer (some ⟨w1.heap.size+1,0,none⟩)) (.agg l.toArray)).run Tryz.prog u1=.ok () w2:=by rw [hw2];exact sa43_of hl43 hl1 (hba.there (d43_len 0))
  have hB2:Below w1.heap.size w1 w2:=by rw [hw2];exact setCells_below hbe1 (by omega)
  have hE2:BigBx w2 (w1.heap.size+1) l:=by rw [hw2];exact hba.put (hl43.trans (d43_len 0).symm)
  rw [hu1] at hst
  have HB2:=hd' hB2
  have HE2:=hd' hE2
  clear hu1 hw2 hba hbe1 hl43 hl1 hB2 hE2
  go_upto_region 2 with fail
  clear hst
  have hb2:=HB2.out
  have hz2:=hb2.size
  have z_15:=hb2.size
  have Hbel_16:=hd' (Hbel_11.out.trans (hb2.mono (by omega)))
  have HT_17:=hd' (HT_12.out.below hb2 (by omega))
  have HR_18:=hd' (HR_13.out.below hb2 (by omega))
  have HRF_19:=hd' (show ∀o,w2.frozen? ⟨w.heap.size+3,o,none⟩=false from fun o=>(hb2.frozen (p:=⟨w.heap.size+3,o,none⟩) (by show w.heap.size+3 < _;omega)).trans (HRF_14.out o))
  clear Hbel_11 HT_12 HR_13 HRF_14
  clear hb2
  by_cases hk:ok=true∧c=true
  · obtain ⟨rfl,rfl⟩:=hk
    obtain ⟨hdr,hdk⟩:=HDc.out rfl
    have hps:ps=[]:=by have:=HC.out;rw [hdk] at this;cases ps with|nil=>rfl|cons _ _=>simp at this
    subst hps
    have hfc:=dok_facts hdk
    have HFc:=hd' hfc
    have HDr:=hd' hdr
    have HDk:=hd' hdk
    clear hfc hdr hdk
    have hla:(LA43 (.pointer (some ⟨w1.heap.size+1,0,none⟩))).run Tryz.prog w2=.ok (.agg l.toArray) w2:=la43_of H43.out HE2.out.at_
    go_wp2_with fail
    clear hla
    refine (outD_any l id vec es (slM hs) [] w2 ((HDr.out.keep fun p _ hp=>HB2.out.cell hp).mono hz2) HFc.out.2.1 (fun a _ _=>HFc.out.2.2.1 a) (by simp) (by simp)).mono ?_
    rintro e w3 ⟨AV,cv,A2,c2,AH,ch,AP,cp,rfl,hown,hlo,hb⟩
    have z_20:=hb.size
    have Hbel_21:=hd' (Hbel_16.out.trans (hb.mono (by omega)))
    have HT_22:=hd' (HT_17.out.below hb (by omega))
    have HR_23:=hd' (HR_18.out.below hb (by omega))
    have HRF_24:=hd' (show ∀o,w3.frozen? ⟨w.heap.size+3,o,none⟩=false from fun o=>(hb.frozen (p:=⟨w.heap.size+3,o,none⟩) (by show w.heap.size+3 < _;omega)).trans (HRF_19.out o))
    clear Hbel_16 HT_17 HR_18 HRF_19
    clear hb
    have HOwn:=hd' hown
    clear hown
    have HTr:=hd' (show TrOwn w3 Lt w.heap.size AVt vt At et from HO.out.keep fun p hp hq=>⟨Hbel_21.out.cell (by omega),Hbel_21.out.frozen (by omega)⟩)
    simp only [List.length_nil,Nat.lt_irrefl,decide_false]
    go_upto_region 5 with fail
    obtain ⟨W25_0,hW25_0⟩:∃x,x=w3.alloc (.cells #[.int .i64 id,.slice AV vec.length cv,.slice A2 es.length c2,.slice AH (outL (slM hs) 4 0).length ch,.bool false,.slice AP 0 cp] 57):=⟨_,rfl⟩
    have hZ25_0:W25_0.heap.size=w3.heap.size+1:=by rw [hW25_0];simp
    have hx0:Bx W25_0 (w3.heap.size) [.int .i64 id,.slice AV vec.length cv,.slice A2 es.length c2,.slice AH (outL (slM hs) 4 0).length ch,.bool false,.slice AP 0 cp]:=by rw [hW25_0];exact Bx.new' _ _ _ _ rfl
    have hb0:Below w3.heap.size w3 W25_0:=by rw [hW25_0];exact ((Below.refl _ _).alloc (by first|exact Nat.le_refl _|(simp;done)|(simp;omega)) _)
    have hf0:∀o,W25_0.frozen? ⟨w3.heap.size,o,none⟩=false:=fun o=>by rw [hW25_0];exact ((Fresh.refl w3).alloc _ _) ⟨w3.heap.size,o,none⟩ (by show w3.heap.size≤w3.heap.size;omega)
    have hlt:w3.heap.size+0 < W25_0.heap.size:=by omega
    rw [←hW25_0]
    clear hW25_0 hZ25_0
    have z_26:=hb0.size
    have Hbel_27:=hd' (Hbel_21.out.trans (hb0.mono (by omega)))
    have HT_28:=hd' (HT_22.out.below hb0 (by omega))
    have HR_29:=hd' (HR_23.out.below hb0 (by omega))
    have HRF_30:=hd' (show ∀o,W25_0.frozen? ⟨w.heap.size+3,o,none⟩=false from fun o=>(hb0.frozen (p:=⟨w.heap.size+3,o,none⟩) (by show w.heap.size+3 < _;omega)).trans (HRF_24.out o))
    have Hdv_31:=hd' (HOwn.out.keep fun p hp hq=>⟨hb0.cell (by omega),hb0.frozen (by omega)⟩)
    have Htr_32:=hd' (HTr.out.keep fun p hp hq=>⟨hb0.cell (by omega),hb0.frozen (by omega)⟩)
    clear Hbel_21 HT_22 HR_23 HRF_24 HOwn HTr
    have HO_33:=hd' (hx0)
    have HOF_34:=hd' (hf0)
    clear hf0
    clear hb0 hx0
    have hl_35:=hlt
    clear hlt
    have qO_0:=HO_33.out 0 (by simp)
    have qO_1:=HO_33.out 1 (by simp)
    have qO_2:=HO_33.out 2 (by simp)
    have qO_3:=HO_33.out 3 (by simp)
    have qO_4:=HO_33.out 4 (by simp)
    have qO_5:=HO_33.out 5 (by simp)
    have lO:w3.heap.size < W25_0.heap.size:=by omega
    have fOF_0:=HOF_34.out 0
    have fOF_1:=HOF_34.out 1
    have fOF_2:=HOF_34.out 2
    have fOF_3:=HOF_34.out 3
    have fOF_4:=HOF_34.out 4
    have fOF_5:=HOF_34.out 5
    have qT_0:=HT_28.out 0 (by simp)
    have qT_1:=HT_28.out 1 (by simp)
    have lT:w.heap.size+2 < W25_0.heap.size:=by omega
    simp only [List.getElem_cons_succ,List.getElem_cons_zero] at qO_0 qO_1 qO_2 qO_3 qO_4 qO_5 qT_0 qT_1
    go_upto_region 6 with fail
    clear qO_0 qO_1 qO_2 qO_3 qO_4 qO_5 lO fOF_0 fOF_1 fOF_2 fOF_3 fOF_4 fOF_5 qT_0 qT_1 lT
    obtain ⟨w5,hW36⟩:∃x,x=putAll (w3.heap.size) 1 [.slice AVt vt.length cvt,.slice At et.length ct] W25_0:=⟨_,rfl⟩
    have hs36:w5.heap.size=W25_0.heap.size:=by rw [hW36];exact putAll_size
    have Hbel_37:=hd' (show Below w.heap.size w w5 by rw [hW36];exact putAll_below Hbel_27.out (by omega))
    have HT_38:=hd' (show Bx w5 (w.heap.size+2) [.slice AVt vt.length cvt,.slice At et.length ct] by rw [hW36];exact HT_28.out.put_else (by omega))
    have HR_39:=hd' (show Bx w5 (w.heap.size+3) [.int .i64 0,.slice none 0 0,.slice none 0 0,.slice none 0 0,.bool false,.slice none 0 0] by rw [hW36];exact HR_29.out.put_else (by omega))
    have HRF_40:=hd' (show ∀o,w5.frozen? ⟨w.heap.size+3,o,none⟩=false from fun o=>by rw [hW36];exact (putAll_frozen _).trans (HRF_30.out o))
    have Hdv_41:=hd' (show DvOwn w5 w2.heap.size w3.heap.size AV vec A2 es AH (outL (slM hs) 4 0) AP [] by rw [hW36];exact Hdv_31.out.keep fun p hp hq=>⟨putAll_other (by omega),putAll_frozen _⟩)
    have Htr_42:=hd' (show TrOwn w5 Lt w.heap.size AVt vt At et by rw [hW36];exact Htr_32.out.keep fun p hp hq=>⟨putAll_other (by omega),putAll_frozen _⟩)
    have HO_43:=hd' (show Bx w5 (w3.heap.size) [.int .i64 id,.slice AVt vt.length cvt,.slice At et.length ct,.slice AH (outL (slM hs) 4 0).length ch,.bool false,.slice AP 0 cp] by rw [hW36];have hq:=HO_33.out.put 1 [.slice AVt vt.length cvt,.slice At et.length ct] (by simp);simpa using hq)
    have HOF_44:=hd' (show ∀o,w5.frozen? ⟨w3.heap.size,o,none⟩=false from fun o=>by rw [hW36];exact (putAll_frozen _).trans (HOF_34.out o))
    simp only [putAll] at hW36
    rw [←hW36]
    have z_45:W25_0.heap.size≤w5.heap.size:=Nat.le_of_eq hs36.symm
    clear hW36 hs36 Hbel_27 HT_28 HR_29 HRF_30 Hdv_31 Htr_32 HO_33 HOF_34
    have qO_0:=HO_43.out 0 (by simp)
    have qO_1:=HO_43.out 1 (by simp)
    have qO_2:=HO_43.out 2 (by simp)
    have qO_3:=HO_43.out 3 (by simp)
    have qO_4:=HO_43.out 4 (by simp)
    have qO_5:=HO_43.out 5 (by simp)
    have lO:w3.heap.size < w5.heap.size:=by omega
    have qR_0:=HR_39.out 0 (by simp)
    have qR_1:=HR_39.out 1 (by simp)
    have qR_2:=HR_39.out 2 (by simp)
    have qR_3:=HR_39.out 3 (by simp)
    have qR_4:=HR_39.out 4 (by simp)
    have qR_5:=HR_39.out 5 (by simp)
    have lR:w.heap.size+3 < w5.heap.size:=by omega
    have fRF_0:=HRF_40.out 0
    have fRF_1:=HRF_40.out 1
    have fRF_2:=HRF_40.out 2
    have fRF_3:=HRF_40.out 3
    have fRF_4:=HRF_40.out 4
    have fRF_5:=HRF_40.out 5
    simp only [List.getElem_cons_succ,List.getElem_cons_zero] at qO_0 qO_1 qO_2 qO_3 qO_4 qO_5 qR_0 qR_1 qR_2 qR_3 qR_4 qR_5
    go_wp2_with fail
    clear qO_0 qO_1 qO_2 qO_3 qO_4 qO_5 lO qR_0 qR_1 qR_2 qR_3 qR_4 qR_5 lR fRF_0 fRF_1 fRF_2 fRF_3 fRF_4 fRF_5
    obtain ⟨w6,hW46⟩:∃x,x=putAll (w.heap.size+3) 0 [.int .i64 id,.slice AVt vt.length cvt,.slice At et.length ct,.slice AH (outL (slM hs) 4 0).length ch,.bool false,.slice AP 0 cp] w5:=⟨_,rfl⟩
    have hs46:w6.heap.size=w5.heap.size:=by rw [hW46];exact putAll_size
    have Hbel_47:=hd' (show Below w.heap.size w w6 by rw [hW46];exact putAll_below Hbel_37.out (by omega))
    have HT_48:=hd' (show Bx w6 (w.heap.size+2) [.slice AVt vt.length cvt,.slice At et.length ct] by rw [hW46];exact HT_38.out.put_else (by omega))
    have HR_49:=hd' (show Bx w6 (w.heap.size+3) [.int .i64 id,.slice AVt vt.length cvt,.slice At et.length ct,.slice AH (outL (slM hs) 4 0).length ch,.bool false,.slice AP 0 cp] by rw [hW46];have hq:=HR_39.out.put 0 [.int .i64 id,.slice AVt vt.length cvt,.slice At et.length ct,.slice AH (outL (slM hs) 4 0).length ch,.bool false,.slice AP 0 cp] (by simp);simpa using hq)
    have HRF_50:=hd' (show ∀o,w6.frozen? ⟨w.heap.size+3,o,none⟩=false from fun o=>by rw [hW46];exact (putAll_frozen _).trans (HRF_40.out o))
    have Hdv_51:=hd' (show DvOwn w6 w2.heap.size w3.heap.size AV vec A2 es AH (outL (slM hs) 4 0) AP [] by rw [hW46];exact Hdv_41.out.keep fun p hp hq=>⟨putAll_other (by omega),putAll_frozen _⟩)
    have Htr_52:=hd' (show TrOwn w6 Lt w.heap.size AVt vt At et by rw [hW46];exact Htr_42.out.keep fun p hp hq=>⟨putAll_other (by omega),putAll_frozen _⟩)
    have HO_53:=hd' (show Bx w6 (w3.heap.size) [.int .i64 id,.slice AVt vt.length cvt,.slice At et.length ct,.slice AH (outL (slM hs) 4 0).length ch,.bool false,.slice AP 0 cp] by rw [hW46];exact HO_43.out.put_else (by omega))
    have HOF_54:=hd' (show ∀o,w6.frozen? ⟨w3.heap.size,o,none⟩=false from fun o=>by rw [hW46];exact (putAll_frozen _).trans (HOF_44.out o))
    simp only [putAll] at hW46
    rw [←hW46]
    have z_55:w5.heap.size≤w6.heap.size:=Nat.le_of_eq hs46.symm
    clear hW46 hs46 Hbel_37 HT_38 HR_39 HRF_40 Hdv_41 Htr_42 HO_43 HOF_44
    have qR_0:=HR_49.out 0 (by simp)
    have qR_1:=HR_49.out 1 (by simp)
    have qR_2:=HR_49.out 2 (by simp)
    have qR_3:=HR_49.out 3 (by simp)
    have qR_4:=HR_49.out 4 (by simp)
    have qR_5:=HR_49.out 5 (by simp)
    have lR:w.heap.size+3 < w6.heap.size:=by omega
    simp only [List.getElem_cons_succ,List.getElem_cons_zero] at qR_0 qR_1 qR_2 qR_3 qR_4 qR_5
    refine bodyPost_ret (v:=.tuple #[.agg #[.int .i64 id,.slice AVt vt.length cvt,.slice At et.length ct,.slice AH (outL (slM hs) 4 0).length ch,.bool false,.slice AP 0 cp],.bool true]) (by simp [results,Tryz.results83,qR_0,qR_1,qR_2,qR_3,qR_4,qR_5,go_sem]) rfl ?_
    have hown:=Hdv_51.out.retree Htr_52.out (by omega) (by omega) (Nat.le_refl _) (by omega)
    rw [HFc.out.2.2.2.1] at hown
    exact WtPost.yes (by rw [Bool.true_and];exact HC.out.symm) ⟨AVt,cvt,At,ct,AH,ch,AP,cp,by rw [HFc.out.2.2.2.1];rfl,hown.mono (Nat.le_refl _) (by omega),by omega,Hbel_47.out⟩
  · have hkk:(ok && c)=false:=by cases ok <;> cases c <;> simp_all
    have HKK:=hd' hkk
    clear hkk
    cases ok with
    | false =>
        have qR_0:=HR_18.out 0 (by simp)
        have qR_1:=HR_18.out 1 (by simp)
        have qR_2:=HR_18.out 2 (by simp)
        have qR_3:=HR_18.out 3 (by simp)
        have qR_4:=HR_18.out 4 (by simp)
        have qR_5:=HR_18.out 5 (by simp)
        have lR:w.heap.size+3 < w2.heap.size:=by omega
        have fRF_0:=HRF_19.out 0
        have fRF_1:=HRF_19.out 1
        have fRF_2:=HRF_19.out 2
        have fRF_3:=HRF_19.out 3
        have fRF_4:=HRF_19.out 4
        have fRF_5:=HRF_19.out 5
        simp only [List.getElem_cons_succ,List.getElem_cons_zero] at qR_0 qR_1 qR_2 qR_3 qR_4 qR_5
        go_wp2_with fail
        clear qR_0 qR_1 qR_2 qR_3 qR_4 qR_5 lR fRF_0 fRF_1 fRF_2 fRF_3 fRF_4 fRF_5
        obtain ⟨w9,hW20⟩:∃x,x=putAll (w.heap.size+3) 0 [.int .i64 0,.slice none 0 0,.slice none 0 0,.slice none 0 0,.bool false,.slice none 0 0] w2:=⟨_,rfl⟩
        have hs20:w9.heap.size=w2.heap.size:=by rw [hW20];exact putAll_size
        have Hbel_21:=hd' (show Below w.heap.size w w9 by rw [hW20];exact putAll_below Hbel_16.out (by omega))
        have HT_22:=hd' (show Bx w9 (w.heap.size+2) [.slice AVt vt.length cvt,.slice At et.length ct] by rw [hW20];exact HT_17.out.put_else (by omega))
        have HR_23:=hd' (show Bx w9 (w.heap.size+3) [.int .i64 0,.slice none 0 0,.slice none 0 0,.slice none 0 0,.bool false,.slice none 0 0] by rw [hW20];have hq:=HR_18.out.put 0 [.int .i64 0,.slice none 0 0,.slice none 0 0,.slice none 0 0,.bool false,.slice none 0 0] (by simp);simpa using hq)
        have HRF_24:=hd' (show ∀o,w9.frozen? ⟨w.heap.size+3,o,none⟩=false from fun o=>by rw [hW20];exact (putAll_frozen _).trans (HRF_19.out o))
        simp only [putAll] at hW20
        rw [←hW20]
        have z_25:w2.heap.size≤w9.heap.size:=Nat.le_of_eq hs20.symm
        clear hW20 hs20 Hbel_16 HT_17 HR_18 HRF_19
        have qR_0:=HR_23.out 0 (by simp)
        have qR_1:=HR_23.out 1 (by simp)
        have qR_2:=HR_23.out 2 (by simp)
        have qR_3:=HR_23.out 3 (by simp)
        have qR_4:=HR_23.out 4 (by simp)
        have qR_5:=HR_23.out 5 (by simp)
        have lR:w.heap.size+3 < w9.heap.size:=by omega
        simp only [List.getElem_cons_succ,List.getElem_cons_zero] at qR_0 qR_1 qR_2 qR_3 qR_4 qR_5
        refine bodyPost_ret (v:=.tuple #[.agg #[.int .i64 0,.slice none 0 0,.slice none 0 0,.slice none 0 0,.bool false,.slice none 0 0],.bool false]) (by simp [results,Tryz.results83,qR_0,qR_1,qR_2,qR_3,qR_4,qR_5,go_sem]) rfl ?_
        exact WtPost.no (by first|rfl|(have hq:=HKK.out;rw [HC.out] at hq;exact hq)) ⟨none,0,none,0,none,0,none,0,rfl,dv_none _ _ _ (by omega),by omega,Hbel_21.out⟩
    | true =>
        have hcf:c=false:=by cases c with|false=>rfl|true=>exact absurd ⟨rfl,rfl⟩ hk
        have HHC:=hd' hcf
        rw [hcf]
        clear hk
        have qR_0:=HR_18.out 0 (by simp)
        have qR_1:=HR_18.out 1 (by simp)
        have qR_2:=HR_18.out 2 (by simp)
        have qR_3:=HR_18.out 3 (by simp)
        have qR_4:=HR_18.out 4 (by simp)
        have qR_5:=HR_18.out 5 (by simp)
        have lR:w.heap.size+3 < w2.heap.size:=by omega
        have fRF_0:=HRF_19.out 0
        have fRF_1:=HRF_19.out 1
        have fRF_2:=HRF_19.out 2
        have fRF_3:=HRF_19.out 3
        have fRF_4:=HRF_19.out 4
        have fRF_5:=HRF_19.out 5
        simp only [List.getElem_cons_succ,List.getElem_cons_zero] at qR_0 qR_1 qR_2 qR_3 qR_4 qR_5
        go_wp2_with fail
        clear qR_0 qR_1 qR_2 qR_3 qR_4 qR_5 lR fRF_0 fRF_1 fRF_2 fRF_3 fRF_4 fRF_5
        obtain ⟨w9,hW20⟩:∃x,x=putAll (w.heap.size+3) 0 [.int .i64 0,.slice none 0 0,.slice none 0 0,.slice none 0 0,.bool false,.slice none 0 0] w2:=⟨_,rfl⟩
        have hs20:w9.heap.size=w2.heap.size:=by rw [hW20];exact putAll_size
        have Hbel_21:=hd' (show Below w.heap.size w w9 by rw [hW20];exact putAll_below Hbel_16.out (by omega))
        have HT_22:=hd' (show Bx w9 (w.heap.size+2) [.slice AVt vt.length cvt,.slice At et.length ct] by rw [hW20];exact HT_17.out.put_else (by omega))
        have HR_23:=hd' (show Bx w9 (w.heap.size+3) [.int .i64 0,.slice none 0 0,.slice none 0 0,.slice none 0 0,.bool false,.slice none 0 0] by rw [hW20];have hq:=HR_18.out.put 0 [.int .i64 0,.slice none 0 0,.slice none 0 0,.slice none 0 0,.bool false,.slice none 0 0] (by simp);simpa using hq)
        have HRF_24:=hd' (show ∀o,w9.frozen? ⟨w.heap.size+3,o,none⟩=false from fun o=>by rw [hW20];exact (putAll_frozen _).trans (HRF_19.out o))
        simp only [putAll] at hW20
        rw [←hW20]
        have z_25:w2.heap.size≤w9.heap.size:=Nat.le_of_eq hs20.symm
        clear hW20 hs20 Hbel_16 HT_17 HR_18 HRF_19
        have qR_0:=HR_23.out 0 (by simp)
        have qR_1:=HR_23.out 1 (by simp)
        have qR_2:=HR_23.out 2 (by simp)
        have qR_3:=HR_23.out 3 (by simp)
        have qR_4:=HR_23.out 4 (by simp)
        have qR_5:=HR_23.out 5 (by simp)
        have lR:w.heap.size+3 < w9.heap.size:=by omega
        simp only [List.getElem_cons_succ,List.getElem_cons_zero] at qR_0 qR_1 qR_2 qR_3 qR_4 qR_5
        refine bodyPost_ret (v:=.tuple #[.agg #[.int .i64 0,.slice none 0 0,.slice none 0 0,.slice none 0 0,.bool false,.slice none 0 0],.bool false]) (by simp [results,Tryz.results83,qR_0,qR_1,qR_2,qR_3,qR_4,qR_5,go_sem]) rfl ?_
        exact WtPost.no (by first|rfl|(have hq:=HKK.out;rw [HC.out] at hq;exact hq)) ⟨none,0,none,0,none,0,none,0,rfl,dv_none _ _ _ (by omega),by omega,Hbel_21.out⟩
end Go.Proofs.YtckajeippfpojaaGreat
