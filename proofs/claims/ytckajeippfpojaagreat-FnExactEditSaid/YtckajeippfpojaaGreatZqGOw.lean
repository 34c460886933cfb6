import Derived.Test.YtckajeippfpojaaGreatZqDropS
import Derived.Test.YtckajeippfpojaaGreatZqNamesS
import Derived.Test.YtckajeippfpojaaGreatZqStep
namespace Go.Proofs.YtckajeippfpojaaGreat
open Go.RowKit Go.Maps
section
variable {P:Program} (w:World)
theorem run_append_noneC (t ty e:TypeId) (i:TypeInfo) (ht:P.underlying t=some (.slice e)) (hi:P.info? e=some i) (base size:Nat) (c:Nat)
    (v:Value) (n:Nat) (xs:List Value) (hown:w.ownsRow base e size v n xs) :
    (Builtin.append_ #[t,t] ty #[v,.slice none 0 c]).run P w=.ok v w:=by
  rcases hown.2 with ⟨rfl,rfl⟩|⟨g,cap,cur,rfl,hbg,hg,hnc,hcm,hcs,htake⟩
  · simp [Builtin.append_,run_underlying ht,sizeOf,typeInfo,hi,Builtin.lenOf,Builtin.firstCells]
  · simp [Builtin.append_,run_underlying ht,sizeOf,typeInfo,hi,Builtin.lenOf,Builtin.firstCells,storeCells,hnc]
def SrcAt (A:Option Addr) (m:Nat) (ys:List Value):Prop:=(A=none→m=0)∧∀ad,A=some ad→∀j u,ys[j]?=some u→w.cell? (ad.add j)=some u
theorem run_append_any (base:Nat) (t ty e:TypeId) (i:TypeInfo) (z:Value) (size bytes:Nat) (ht:P.underlying t=some (.slice e)) (hi:P.info? e=some i) (hz:i.zero=some z)
    (hsize:i.size=size) (hby:i.bytes=bytes) (hzs:z.cells.size=size) (hsz:0 < size)
    (v:Value) (n:Nat) (xs:List Value) (hown:w.ownsRow base e size v n xs)
    (A:Option Addr) (m c:Nat) (ys:List Value) (hl:ys.length=m*size) (hsrc:SrcAt w A m ys) (h1:∀u∈ys,u.oneCell'=true)
    (h63:n+m≤maxLen) (hbytes:(n+m)*bytes≤140737488355328) (hbase:base≤w.heap.size) :
    ∃A' cap w',(Builtin.append_ #[t,t] ty #[v,.slice A m c]).run P w=.ok (.slice A' (n+m) cap) w'∧w'.ownsRow base e size (.slice A' (n+m) cap) (n+m) (xs++ys)∧w.grownBy w' v.ownBlock∧(v≠.slice none 0 0→Value.slice A' (n+m) cap≠.slice none 0 0):=by
  cases A with
  | none =>
    have hm:=hsrc.1 rfl
    subst hm
    have hy:ys=[]:=List.eq_nil_of_length_eq_zero (by simpa using hl)
    subst hy
    have hr:=run_append_noneC (P:=P) w t ty e i ht hi base size c v n xs hown
    obtain ⟨A',c',rfl⟩:=row_shapeN hown
    exact ⟨A',c',w,hr,by simpa using hown,⟨rfl,rfl,rfl,Nat.le_refl _,fun _ _ _=>rfl⟩,fun h=>h⟩
  | some ad =>
    obtain ⟨v',w',hr,h2,h3,h4,_⟩:=run_append_own_at (P:=P) w base t ty e i z size bytes ht hi hz hsize hby hzs hsz v n xs hown ad m c ys hl (hsrc.2 ad rfl) h1 h63 hbytes hbase
    obtain ⟨A',c',rfl⟩:=row_shapeN h2
    exact ⟨A',c',w',hr,h2,h3,fun hv he=>hv (h4.1 he).1⟩
theorem wpList_append_any {ops:Array Oper} {rest:List Oper} {o:Oper} {a:Act} {Q:Exit→Act→World→Prop} (hgd:o.guard=none) (s x:Operand) (t:TypeId)
    (ho:o.op=.call { callee:=.builtin .append,args:=#[s,x],argTypes:=#[t,t] })
    (base:Nat) (e:TypeId) (i:TypeInfo) (z:Value) (size bytes:Nat) (ht:P.underlying t=some (.slice e)) (hi:P.info? e=some i) (hz:i.zero=some z)
    (hsize:i.size=size) (hby:i.bytes=bytes) (hzs:z.cells.size=size) (hsz:0 < size)
    (v:Value) (n:Nat) (xs:List Value) (hs:a.eval s=v) (hown:w.ownsRow base e size v n xs)
    (A:Option Addr) (m c:Nat) (ys:List Value) (hx:a.eval x=.slice A m c) (hl:ys.length=m*size) (hsrc:SrcAt w A m ys) (h1:∀u∈ys,u.oneCell'=true)
    (h63:n+m≤maxLen) (hbytes:(n+m)*bytes≤140737488355328) (hbase:base≤w.heap.size)
    (h:∀A' cap w',w'.ownsRow base e size (.slice A' (n+m) cap) (n+m) (xs++ys)→w.grownBy w' v.ownBlock→(v≠.slice none 0 0→Value.slice A' (n+m) cap≠.slice none 0 0)→wpList P ops Q rest (a.put o.dst (.slice A' (n+m) cap)) w') :
    wpList P ops Q (o :: rest) a w:=by
  refine wpList_plain hgd fun K hK=>?_
  obtain ⟨A',cap,w',hr,h2,h3,h4⟩:=run_append_any (P:=P) w base t o.type e i z size bytes ht hi hz hsize hby hzs hsz v n xs hown A m c ys hl hsrc h1 h63 hbytes hbase
  unfold Oper.wp execOp
  simp only [ho,resolve,invoke,builtin,Sem.run_bind,Sem.run_pure,Result.andThen_ok,List.map_toArray,List.map_cons,List.map_nil,hs,hx,hr]
  exact hK _ _ (h A' cap w' h2 h3 h4)
end
theorem ints_src {w:World} {L B:Nat} {A:Option Addr} {l:List Int} (h:IntsIn w L B A l):SrcAt w A l.length (l.map vint):=by
  refine ⟨fun e=>?_,fun ad e j u hu=>?_⟩
  · rcases Nat.eq_zero_or_pos l.length with hz|hp
    · exact hz
    · obtain ⟨b,o,e',_⟩:=h hp
      rw [e] at e';cases e'
  · have hj:j < l.length:=by
      have:=(List.getElem?_eq_some_iff.1 hu).1
      simpa using this
    obtain ⟨b,o,e',_,_,hc⟩:=h (by omega)
    rw [e] at e'
    cases e'
    rw [Addr.add_lit,hc j hj,←hu]
    simp [vint,hj]
theorem bytes_src {w:World} {L B:Nat} {A:Option Addr} {l:List UInt8} (h:BytesIn w L B A l):SrcAt w A l.length (vbytes l):=by
  refine ⟨fun e=>?_,fun ad e j u hu=>?_⟩
  · rcases Nat.eq_zero_or_pos l.length with hz|hp
    · exact hz
    · obtain ⟨b,o,e',_⟩:=h hp
      rw [e] at e';cases e'
  · have hj:j < l.length:=by
      have:=(List.getElem?_eq_some_iff.1 hu).1
      simpa [vbytes] using this
    obtain ⟨b,o,e',_,_,hc⟩:=h (by omega)
    rw [e] at e'
    cases e'
    rw [Addr.add_lit,hc j hj,←hu]
    simp [vbytes,hj]
theorem nameAt_own {w:World} {base:Nat} {A:Option Addr} {c:Nat} {l:List UInt8} (h:w.ownsRow base 5 1 (.slice A l.length c) l.length (vbytes l)) (hne:Value.slice A l.length c≠.slice none 0 0):∃g,A=some ⟨g,0,none⟩∧base≤g∧NameAt w g l:=by
  obtain ⟨_,hh|⟨g,cap,cur,hv,hg,hb,_,_,_,htk⟩⟩:=h
  · exact absurd hh.1 hne
  · injection hv with h1 _ _
    refine ⟨g,h1,hg,cur,(0,0),hb,.inl rfl,fun j hj=>?_⟩
    have hu:(vbytes l)[j]?=some (.int .u8 (l[j].toNat:Int)):=by simp [vbytes,hj]
    rw [←htk,List.getElem?_take,if_pos (by omega)] at hu
    simpa using hu
end Go.Proofs.YtckajeippfpojaaGreat
namespace Go.Proofs.YtckajeippfpojaaGreat
open Go.RowKit Go.Maps
theorem row_cap {w:World} {base size n c:Nat} {e:TypeId} {A:Option Addr} {xs:List Value} (h:w.ownsRow base e size (.slice A n c) n xs):n≤c:=by
  obtain ⟨_,hh|⟨g,cap,cur,hv,_,_,hle,_⟩⟩:=h
  · omega
  · injection hv with _ _ h3
    omega
def NewOw (vec:List Int) (es:List En) (w:World) (e:Ending) (w':World):Prop :=
  ∃AV cv A c vs G M,e=.returned (.agg #[.slice AV vec.length cv,.slice A es.length c])∧(w.heap.size≤M∧M≤w'.heap.size∧vec.length≤cv)∧IntsFr w' w.heap.size M AV vec∧w'.ownsRow M 180 4 (.slice A es.length c) es.length vs∧OutRel w' M es es.length vs G∧w.heap.size < w'.heap.size∧Below w.heap.size w w'
set_option maxRecDepth 100000 in
set_option maxHeartbeats 4000000 in
theorem l3own_row (AV:Option Addr) (vec:List Int) (cv:Nat) (A:Option Addr) (es:List En) (cA:Nat) (w:World) (hV:IntsIn w 0 w.heap.size AV vec) (hA:EnsIn w 0 w.heap.size A es) (hvl:vec.length≤1048576) (hn:es.length≤1048576) (hbk:ebulk es≤1048576) :
    Calls Tryz.prog 112 #[.agg #[.slice AV vec.length cv,.slice A es.length cA]] w (NewOw vec es w):=by
  have HV:=hd' hV
  have HA:=hd' hA
  clear hV hA
  go_enter Tryz.func112,Tryz.ntmps112
  obtain ⟨W0,hW0⟩:∃W0,W0=w.alloc (.cells #[.slice AV vec.length cv,.slice A es.length cA] 38):=⟨_,rfl⟩
  obtain ⟨W,hW⟩:∃W,W=W0.alloc (.cells #[.slice none 0 0,.slice none 0 0] 38):=⟨_,rfl⟩
  have hz0:W0.heap.size=w.heap.size+1:=by rw [hW0];simp
  have hz:w.heap.size+1 < W.heap.size:=by rw [hW];simp [hz0]
  have HY:=hd' (show Bx W w.heap.size [.slice AV vec.length cv,.slice A es.length cA] by rw [hW];exact Bx.alloc (by rw [hW0];exact Bx.new' _ _ _ _ rfl) (by omega) _)
  have HX:=hd' (show Bx W (w.heap.size+1) [.slice none 0 0,.slice none 0 0] by rw [hW,←hz0];exact Bx.new' _ _ _ _ rfl)
  have HF:=hd' (show ∀o,W.frozen? ⟨w.heap.size+1,o,none⟩=false from fun o=>by rw [hW,hW0];exact (((Fresh.refl w).alloc _ _).alloc _ _) ⟨w.heap.size+1,o,none⟩ (by show w.heap.size≤w.heap.size+1;omega))
  have HBel:=hd' (show Below w.heap.size w W by rw [hW,hW0];exact ((Below.refl _ _).alloc (Nat.le_refl _) _).alloc (by simp) _)
  obtain ⟨W5,hW5⟩:∃W5,W5=W.alloc (.cells #[] 3):=⟨_,rfl⟩
  have hzW:W.heap.size=w.heap.size+1+1:=by rw [hW];simp [hz0]
  have hE:W5.heap[w.heap.size+1+1]?=some (.cells #[] 3 (0,0)):=by rw [hW5,←hzW];exact heap_alloc_new W _
  have HE0:=hd' (owns_empty (base:=w.heap.size+1+1) (Nat.le_refl _) hE)
  have hb5:Below W.heap.size W W5:=by rw [hW5];exact (Below.refl _ _).alloc (Nat.le_refl _) _
  have HSrc:=hd' (show IntsIn W5 0 w.heap.size AV vec from HV.out.keep fun p _ hp=>(hb5.cell (by omega)).trans (HBel.out.cell hp))
  have HB5:=hd' (HBel.out.trans (hb5.mono (by omega)))
  have HY5:=hd' (HY.out.below hb5 (by omega))
  have HX5:=hd' (HX.out.below hb5 (by omega))
  have HF5:=hd' (show ∀o,W5.frozen? ⟨w.heap.size+1,o,none⟩=false from fun o=>(hb5.frozen (p:=⟨w.heap.size+1,o,none⟩) hz).trans (HF.out o))
  have HS5:=hd' (show W5.heap.size=w.heap.size+1+1+1 by rw [hW5];simp [hzW])
  obtain ⟨i0,hi,hq0,hq1,hq2⟩:=info_parts Tryz.infoInt
  clear hE hb5 hz0 hz hzW HY HX HF HBel
  rw [hW,hW0] at hW5
  clear hW hW0
  subst hW5
  go_wp2_with (at_builtin;refine wpList_append_any _ rfl _ _ 25 rfl (w.heap.size+1+1) 3 i0 (.int .i64 0) 1 8 Tryz.underlying25 hi hq0 hq1 hq2 rfl (by decide) _ _ _ rfl HE0.out AV vec.length cv (vec.map vint) rfl ?c0 ?c1 ?c2 ?c3 ?c4 ?c5 ?_)
  case c0=>first|rfl|simp
  case c1=>exact ints_src HSrc.out
  try case c2=>intro u hu;simp only [List.mem_map] at hu;obtain ⟨x,_,rfl⟩:=hu;rfl
  try case c3=>first|omega|(unfold maxLen;omega)
  try case c4=>omega
  try case c5=>first|omega|(simp;done)|(simp;omega)
  intro AV6 c6 w6 hrow6 hgr6 _
  try simp only [Nat.zero_add,List.nil_append] at hrow6
  have HV6:=hd' (show IntsFr w6 (w.heap.size+1+1) w6.heap.size AV6 vec from ints_of_row (l:=vec) hrow6)
  have HCv:=hd' (row_cap hrow6)
  have hb6:Below (w.heap.size+1+1) _ w6:=(Below.refl _ _).grown hgr6 (by have:=HS5.out;omega) (fun k hk=>by cases hk;exact Nat.le_refl _)
  have hz6:w.heap.size+1+1 < w6.heap.size:=by have:=hgr6.size;have:=HS5.out;omega
  have HB6:=hd' (HB5.out.trans (hb6.mono (by omega)))
  have HY6:=hd' (HY5.out.below hb6 (by omega))
  have HX6:=hd' (HX5.out.below hb6 (by omega))
  have HF6:=hd' (show ∀o,w6.frozen? ⟨w.heap.size+1,o,none⟩=false from fun o=>(hb6.frozen (p:=⟨w.heap.size+1,o,none⟩) (by show w.heap.size+1 < w.heap.size+1+1;omega)).trans (HF5.out o))
  clear hrow6 hgr6 hb6 HB5 HY5 HX5 HF5 HE0 HSrc HS5 i0 hi hq0 hq1 hq2 HV
  go_wp2_with fail
  obtain ⟨W7,hW7⟩:∃W7,W7=w6.alloc (.cells #[.slice AV6 vec.length c6,.slice none 0 0] 38):=⟨_,rfl⟩
  have HT7:=hd' (show W7.heap[w6.heap.size]?=some (.cells #[.slice AV6 vec.length c6,.slice none 0 0] 38 (0,0)) by rw [hW7];exact heap_alloc_new w6 _)
  have HB7:=hd' (show Below w6.heap.size w6 W7 by rw [hW7];exact (Below.refl _ _).alloc (Nat.le_refl _) _)
  have hz7:w6.heap.size < W7.heap.size:=by rw [hW7];simp
  rw [←hW7]
  clear hW7
  go_loopw [4] (fun i wr=>∃(k:Nat) (A':Option Addr) (c':Nat) (vs:List Value) (G:List Nat),k≤es.length∧i=.int .i64 k∧wr.heap[w6.heap.size]?=some (.cells #[.slice AV6 vec.length c6,.slice A' k c'] 38 (0,0))∧wr.ownsRow (w6.heap.size+1) 180 4 (.slice A' k c') k vs∧OutRel wr (w6.heap.size+1) es k vs G∧Below w6.heap.size w6 wr∧w6.heap.size+1≤wr.heap.size) (fun i _=>es.length - (intOf i).toNat)
  case atStart=>exact ⟨0,none,0,[],[],Nat.zero_le _,rfl,HT7.out,World.ownsRow_nil _ _ _ _,OutRel.nil _ _ _,HB7.out,by omega⟩
  case round =>
    obtain ⟨k,A',c',vs,G,hk,rfl,hheap,hown,hout,hbel,hzr⟩:=hrel
    have HHeap:=hd' hheap
    have HOwn:=hd' hown
    have HOut:=hd' hout
    have HBr:=hd' hbel
    have HO:=hd' (HB6.out.trans (hbel.mono (by omega)))
    have x1:=(hbel.cell (p:=⟨w.heap.size,1,none⟩) (by show w.heap.size < w6.heap.size;omega)).trans (HY6.out 1 (by simp))
    simp only [List.getElem_cons_succ,List.getElem_cons_zero] at x1
    clear hheap hown hout hbel
    by_cases hlt:k < es.length
    · obtain ⟨bA,oA,hAe,_,hbA,hcA⟩:=HA.out (by omega)
      obtain ⟨An,cn,c0,c1,c2,c3,hby⟩:=(hcA k hlt).keep (Nat.zero_le _) hbA (fun p _ hp=>HO.out.cell hp)
      obtain ⟨e,he⟩:∃e,e=es[k]:=⟨_,rfl⟩
      have hnl:=name_le_ebulk es k hlt
      rw [←he] at c0 c1 c2 c3 hby hnl
      have HE:=hd' (show es.getD k default=e by rw [he];simp [hlt])
      subst hAe
      clear hcA he
      obtain ⟨n1,v1,d1,m1⟩:=e
      simp only at c0 c1 c2 c3 hnl hby
      have HBy:=hd' hby
      have hlt':(k:Int) < (es.length:Int):=by omega
      have lq:w.heap.size < wr.heap.size:=by omega
      have lA:bA < wr.heap.size:=by omega
      obtain ⟨W9,hW9⟩:∃W9,W9=(wr.alloc (.cells #[.slice An n1.length cn,.int .i64 v1,.int .i64 d1,.int .i64 m1] 180)).alloc (.cells #[] 5):=⟨_,rfl⟩
      have hb9:Below wr.heap.size wr W9:=by rw [hW9];exact ((Below.refl _ _).alloc (Nat.le_refl _) _).alloc (by simp) _
      have hE:W9.heap[wr.heap.size+1]?=some (.cells #[] 5 (0,0)):=by
        have:=heap_alloc_new (wr.alloc (.cells #[.slice An n1.length cn,.int .i64 v1,.int .i64 d1,.int .i64 m1] 180)) (.cells #[] 5)
        rw [←hW9] at this
        simpa using this
      have HE9:=hd' (owns_empty (base:=wr.heap.size+1) (Nat.le_refl _) hE)
      have HSrc:=hd' (show BytesIn W9 0 w.heap.size An n1 from HBy.out.keep fun p _ hp=>hb9.cell (by omega))
      have HS9:=hd' (show W9.heap.size=wr.heap.size+1+1 by rw [hW9];simp)
      have HZ9:=hd' (show Bx W9 wr.heap.size [.slice An n1.length cn,.int .i64 v1,.int .i64 d1,.int .i64 m1] by rw [hW9];exact Bx.alloc (Bx.new' _ _ _ _ rfl) (by simp) _)
      have HZf:=hd' (show W9.frozen? ⟨wr.heap.size,0,none⟩=false by rw [hW9];exact (((Fresh.refl wr).alloc _ _).alloc _ _) ⟨wr.heap.size,0,none⟩ (Nat.le_refl _))
      have HB9:=hd' hb9
      obtain ⟨i0,hi,hq0,hq1,hq2⟩:=info_parts Tryz.info5
      clear hE hb9 hby
      subst hW9
      go_wp2_with (at_builtin;refine wpList_append_any _ rfl _ _ 61 rfl (wr.heap.size+1) 5 i0 (.int .u8 0) 1 1 Tryz.underlying61 hi hq0 hq1 hq2 rfl (by decide) _ _ _ rfl HE9.out An n1.length cn (vbytes n1) rfl ?c0 ?c1 ?c2 ?c3 ?c4 ?c5 ?_)
      case c0=>first|(rw [vb_length];omega)|simp [vb_length]
      case c1=>exact bytes_src HSrc.out
      try case c2=>exact vb_one _
      try case c3=>first|omega|(unfold maxLen;omega)
      try case c4=>omega
      try case c5=>first|omega|(simp;done)|(simp;omega)
      intro A10 c10 w10 hrow10 hgr10 hne10
      try simp only [Nat.zero_add,List.nil_append] at hrow10 hne10
      obtain ⟨gn,hgn,hgl,hnm⟩:=nameAt_own hrow10 (fun he=>by injection he with e1 e2 e3;exact hne10 e1 (List.length_eq_zero_iff.1 e2) e3)
      clear hne10
      subst hgn
      have hb10:Below (wr.heap.size+1) _ w10:=(Below.refl _ _).grown hgr10 (by have:=HS9.out;omega) (fun k hk=>by cases hk;exact Nat.le_refl _)
      have hz10:wr.heap.size+1 < w10.heap.size:=by have:=hgr10.size;have:=HS9.out;omega
      have HB10:=hd' (HB9.out.trans (hb10.mono (by omega)))
      have hZ10:=HZ9.out.below hb10 (by omega)
      have z0:=hZ10 0 (by simp)
      have z1:=hZ10 1 (by simp)
      have z2:=hZ10 2 (by simp)
      have z3:=hZ10 3 (by simp)
      simp only [List.getElem_cons_succ,List.getElem_cons_zero] at z0 z1 z2 z3
      have zf:=(hb10.frozen (p:=⟨wr.heap.size,0,none⟩) (by show wr.heap.size < wr.heap.size+1;omega)).trans HZf.out
      have HNm:=hd' hnm
      have HB11:=hd' (show Below wr.heap.size wr (w10.setCell ⟨wr.heap.size,0,none⟩ (.slice (some ⟨gn,0,none⟩) n1.length c10)) from HB10.out.setCell (show wr.heap.size≤wr.heap.size from Nat.le_refl _) _)
      have HHeap11:=hd' ((HB11.out.block _ (show w6.heap.size < wr.heap.size by omega)).trans HHeap.out)
      have HOwn11:=hd' (ownsRow_below HOwn.out HB11.out fun g hg=>(HOwn.out.lt g hg).2)
      have HOut11:=hd' (show OutRel _ (w6.heap.size+1) es k vs G from HOut.out.keep fun i hi=>HB11.out.block _ (HOut.out.nm i hi).2.lt)
      have HNm11:=hd' (show NameAt (w10.setCell ⟨wr.heap.size,0,none⟩ (.slice (some ⟨gn,0,none⟩) n1.length c10)) gn n1 from hnm.keep (Below.heap_setCell _ _ _ _ (by show gn≠wr.heap.size;omega)))
      have tc:(w10.setCell ⟨wr.heap.size,0,none⟩ (.slice (some ⟨gn,0,none⟩) n1.length c10)).cell? ⟨w6.heap.size,1,none⟩=some (.slice A' k c'):=by
        have:=HHeap11.out
        simp only [World.cell?,this]
        rfl
      have ne1:wr.heap.size≠w6.heap.size:=by omega
      obtain ⟨i1,hi1,hy0,hy1,hy2⟩:=info_parts Tryz.infoEntry
      have hkk:k≤1048576:=by omega
      have lw6:w6.heap.size < w10.heap.size:=by omega
      clear hrow10 hgr10 hb10 hZ10 hnm c0 c1 c2 c3 x1 lq lA i0 hi hq0 hq1 hq2 HE9 HSrc HZ9 HZf HB9 HBy
      go_wp2_with (at_builtin;refine wpList_append_own _ rfl _ _ 36 rfl (w6.heap.size+1) 180 i1 (.agg #[.slice none 0 0,.int .i64 0,.int .i64 0,.int .i64 0]) 4 48 Tryz.underlying36 hi1 hy0 hy1 hy2 rfl (by decide) _ _ _ rfl (HOwn11.out.alloc _) ⟨w10.heap.size,0,none⟩ 1 1 [.slice (some ⟨gn,0,none⟩) n1.length c10,.int .i64 v1,.int .i64 d1,.int .i64 m1] rfl rfl ?c1 ?c2 ?c3 ?c4 ?c5 ?_)
      case c1 =>
        intro j u hu
        have h:=new4 (w10.setCell ⟨wr.heap.size,0,none⟩ (.slice (some ⟨gn,0,none⟩) n1.length c10)) (.slice (some ⟨gn,0,none⟩) n1.length c10) (.int .i64 v1) (.int .i64 d1) (.int .i64 m1) 180 j u hu
        rwa [World.size_setCell] at h
      case c2=>intro u hu;simp at hu;rcases hu with rfl|rfl|rfl|rfl <;> rfl
      case c3=>unfold maxLen;omega
      case c4=>omega
      case c5=>simp;omega
      intro v12 w12 hrow12 hgr12 _
      obtain ⟨A12,c12,rfl⟩:=row_shapeN hrow12
      have hz12:w10.heap.size+1≤w12.heap.size:=by simpa using hgr12.size
      have HRow12:=hd' hrow12
      have hold:∀b,b < w10.heap.size→(∀g,(Value.slice A' k c').ownBlock=some g→b≠g)→w12.heap[b]?=(w10.setCell ⟨wr.heap.size,0,none⟩ (.slice (some ⟨gn,0,none⟩) n1.length c10)).heap[b]?:=fun b hb hne=>by
        rw [hgr12.block b (by simp;omega) (fun e=>hne b e.symm rfl),heap_alloc_old _ _ (by simp;omega)]
      have hheap12:w12.heap[w6.heap.size]?=some (.cells #[.slice AV6 vec.length c6,.slice A' k c'] 38 (0,0)):=(hold _ (by omega) fun g hg=>by have:=(HOwn.out.lt g hg).1;omega).trans HHeap11.out
      have HOut12:=hd' (show OutRel w12 (w6.heap.size+1) es k vs G from HOut11.out.keep fun i hi=>hold _ (by have:=(HOut.out.nm i hi).2.lt;omega) fun g hg e=>(HOut11.out.nm i hi).2.ne HOwn11.out (by rw [hg,e]))
      have HNm12:=hd' (show NameAt w12 gn n1 from HNm11.out.keep (hold _ (by have:=HNm.out.lt;omega) fun g hg e=>HNm11.out.ne HOwn11.out (by rw [hg,e])))
      have hb12:Below w6.heap.size w6 w12:=((HBr.out.trans (HB11.out.mono (by omega))).alloc (by simp;omega) (.cells #[.slice (some ⟨gn,0,none⟩) n1.length c10,.int .i64 v1,.int .i64 d1,.int .i64 m1] 180)).grown hgr12 (by simp;omega) (fun g hg=>by have:=(HOwn.out.lt g hg).1;omega)
      have HB12:=hd' hb12
      have u4:w12.cell? ⟨w6.heap.size,1,none⟩=some (.slice A' k c'):=by simp [World.cell?,hheap12]
      have uf:w12.frozen? ⟨w6.heap.size,1,none⟩=false:=by simp [World.frozen?,hheap12]
      have HHeap12:=hd' hheap12
      clear hrow12 hgr12 hold hheap12 hb12 z0 z1 z2 z3 zf tc i1 hi1 hy0 hy1 hy2
      go_wp2_with fail
      go_roundw
      case rel =>
        have ha:=HOut12.out.add (c:=c10) HE.out (by omega) HNm12.out fun i hi=>by have:=(HOut.out.nm i hi).2.lt;omega
        refine ⟨k+1,A12,c12,_,_,by omega,by go_num,?_,ownsRow_setCell_below HRow12.out (a:=⟨w6.heap.size,1,none⟩) (by show w6.heap.size < w6.heap.size+1;omega) _,ha.keep fun i hi=>Below.heap_setCell _ _ _ _ (fun e=>by have h1:=(ha.nm i hi).1;have h2:(G++[gn]).getD i 0=w6.heap.size:=e;omega),HB12.out.setCell (show w6.heap.size≤w6.heap.size from Nat.le_refl _) _,by simp;omega⟩
        have h:=heap_setCell_same w12 w6.heap.size 1 _ _ (.slice A12 (k+1) c12) HHeap12.out
        simpa using h
      case measure=>simp [intOf];omega
    · have hke:k=es.length:=by omega
      have HOu:=hd' (show OutRel wr (w6.heap.size+1) es es.length vs G∧wr.ownsRow (w6.heap.size+1) 180 4 (.slice A' es.length c') es.length vs by
        subst hke
        exact ⟨HOut.out,HOwn.out⟩)
      have HK:=hd' hke
      have hheap:=HHeap.out
      have t0:wr.cell? ⟨w6.heap.size,0,none⟩=some (.slice AV6 vec.length c6):=by simp [World.cell?,hheap]
      have t1:wr.cell? ⟨w6.heap.size,1,none⟩=some (.slice A' k c'):=by simp [World.cell?,hheap]
      have r0:=(HBr.out.cell (p:=⟨w.heap.size+1,0,none⟩) (by show w.heap.size+1 < w6.heap.size;omega)).trans (HX6.out 0 (by simp))
      have r1:=(HBr.out.cell (p:=⟨w.heap.size+1,1,none⟩) (by show w.heap.size+1 < w6.heap.size;omega)).trans (HX6.out 1 (by simp))
      simp only [List.getElem_cons_succ,List.getElem_cons_zero] at r0 r1
      have f0:=(HBr.out.frozen (p:=⟨w.heap.size+1,0,none⟩) (by show w.heap.size+1 < w6.heap.size;omega)).trans (HF6.out 0)
      have f1:=(HBr.out.frozen (p:=⟨w.heap.size+1,1,none⟩) (by show w.heap.size+1 < w6.heap.size;omega)).trans (HF6.out 1)
      have HVr:=hd' (show IntsFr wr (w.heap.size+1+1) w6.heap.size AV6 vec from HV6.out.keep fun p _ hp=>⟨HBr.out.cell hp,HBr.out.frozen hp⟩)
      obtain ⟨g0,g1⟩:=two_get (v0:=.slice AV6 vec.length c6) (v1:=.slice A' k c') r0 r1
      have HG:=hd' (And.intro g0 g1)
      clear hke hheap g0 g1
      go_wp2_with fail
      obtain ⟨g0,g1⟩:=HG.out
      refine bodyPost_ret (v:=.agg #[.slice AV6 vec.length c6,.slice A' k c']) (by simp [results,Tryz.results112,g0,g1,go_sem]) rfl ?_
      refine ⟨AV6,c6,A',c',vs,G,w6.heap.size+1,by rw [HK.out],⟨by omega,by simp;omega,HCv.out⟩,?_,?_,?_,by simp;omega,?_⟩
      · exact (((HVr.out.keep fun p hp _=>two_other (by omega)).low (by omega)).mono (by omega))
      · exact ownsRow_setCell_below (ownsRow_setCell_below HOu.out.2 (a:=⟨w.heap.size+1,0,none⟩) (by show w.heap.size+1 < w6.heap.size+1;omega) _) (a:=⟨w.heap.size+1,1,none⟩) (by show w.heap.size+1 < w6.heap.size+1;omega) _
      · exact HOu.out.1.keep fun i hi=>by
          have h1:=(HOu.out.1.nm i hi).1
          exact (Below.heap_setCell _ _ _ _ (show G.getD i 0≠w.heap.size+1 by omega)).trans (Below.heap_setCell _ _ _ _ (show G.getD i 0≠w.heap.size+1 by omega))
      · exact (HO.out.setCell (by simp) _).setCell (by simp) _
theorem l3own_gen (AV:Option Addr) (vec:List Int) (cv:Nat) (A:Option Addr) (es:List En) (cA:Nat) (w:World) (hV:IntsIn w 0 w.heap.size AV vec) (hA:EnsIn w 0 w.heap.size A es) (hvl:vec.length≤1048576) (hn:es.length≤1048576) (hbk:ebulk es≤1048576) :
    Calls Tryz.prog 112 #[.agg #[.slice AV vec.length cv,.slice A es.length cA]] w (NewTr vec es w) :=
  (l3own_row AV vec cv A es cA w hV hA hvl hn hbk).mono fun _ w' ⟨AV',cv',A',c',_,_,M,he,hM,hi,hr,ho,hz,hb⟩ =>
    ⟨AV',cv',A',c',he,⟨w.heap.size,M,M,w'.heap.size,Nat.le_refl _,hM.2.1,hM.1,Nat.le_refl _,.inl (Nat.le_refl _),hi,ho.own hr⟩,hz,hb⟩
theorem l3own_cap (AV:Option Addr) (vec:List Int) (cv:Nat) (A:Option Addr) (es:List En) (cA:Nat) (w:World) (hV:IntsIn w 0 w.heap.size AV vec) (hA:EnsIn w 0 w.heap.size A es) (hvl:vec.length≤1048576) (hn:es.length≤1048576) (hbk:ebulk es≤1048576) :
    Calls Tryz.prog 112 #[.agg #[.slice AV vec.length cv,.slice A es.length cA]] w (NewTrC vec es w) :=
  (l3own_row AV vec cv A es cA w hV hA hvl hn hbk).mono fun _ w' ⟨AV',cv',A',c',_,_,M,he,hM,hi,hr,ho,hz,hb⟩ =>
    ⟨AV',cv',A',c',he,⟨w.heap.size,M,M,w'.heap.size,Nat.le_refl _,hM.2.1,hM.1,Nat.le_refl _,.inl (Nat.le_refl _),hi,ho.own hr⟩,hz,row_cap hr,hb⟩
end Go.Proofs.YtckajeippfpojaaGreat
