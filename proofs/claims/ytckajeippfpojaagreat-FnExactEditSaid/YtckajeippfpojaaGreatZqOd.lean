import Derived.Test.YtckajeippfpojaaGreatZqHd
import Derived.Test.YtckajeippfpojaaGreatZqMr
import Derived.Test.YtckajeippfpojaaGreatZqGDn
import Derived.Deep.RegionLaw
import Derived.Deep.CutRange
import Derived.Deep.RegionHeld3
namespace Go.Proofs.YtckajeippfpojaaGreat
open Go.RowKit Go.Maps
structure OffB (b:Nat) (W X:World):Prop where
  os:X.os=W.os
  tape:X.tape=W.tape
  output:X.output=W.output
  size:W.heap.size≤X.heap.size
  block:∀k,k < W.heap.size→k≠b→X.heap[k]?=W.heap[k]?
section
variable {b:Nat} {W X Y:World}
theorem OffB.refl (b:Nat) (W:World):OffB b W W:=⟨rfl,rfl,rfl,Nat.le_refl _,fun _ _ _=>rfl⟩
theorem OffB.cell (h:OffB b W X) {p:Addr} (hp:p.block < W.heap.size) (hne:p.block≠b):X.cell? p=W.cell? p:=World.cell?_of_block (h.block _ hp hne)
theorem OffB.frozen (h:OffB b W X) {p:Addr} (hp:p.block < W.heap.size) (hne:p.block≠b):X.frozen? p=W.frozen? p:=World.frozen?_of_block (h.block _ hp hne)
theorem OffB.below (h:OffB b W X) (hb:Below X.heap.size X Y):OffB b W Y :=
  ⟨hb.os.trans h.os,hb.tape.trans h.tape,hb.output.trans h.output,Nat.le_trans h.size hb.size,fun k hk hne=>(hb.block k (Nat.lt_of_lt_of_le hk h.size)).trans (h.block k hk hne)⟩
theorem OffB.grown {row:Option Nat} (h:OffB b W X) (hg:X.grownBy Y row) (hr:∀k,row=some k→W.heap.size≤k):OffB b W Y :=
  ⟨hg.os.trans h.os,hg.tape.trans h.tape,hg.output.trans h.output,Nat.le_trans h.size hg.size,fun k hk hne=>(hg.block k (Nat.lt_of_lt_of_le hk h.size) (fun e=>by have:=hr _ e.symm;omega)).trans (h.block k hk hne)⟩
theorem OffB.set {o:Nat} (h:OffB b W X) (v:Value):OffB b W (X.setCell ⟨b,o,none⟩ v):=by
  have h2:Below b X (X.setCell ⟨b,o,none⟩ v):=(Below.refl b X).setCell (Nat.le_refl _) v
  exact ⟨h2.os.trans h.os,h2.tape.trans h.tape,h2.output.trans h.output,Nat.le_trans h.size h2.size,fun k hk hne=>(Below.heap_setCell _ _ _ _ hne).trans (h.block k hk hne)⟩
theorem OffB.trans (h:OffB b W X) (h2:OffB b X Y):OffB b W Y :=
  ⟨h2.os.trans h.os,h2.tape.trans h.tape,h2.output.trans h.output,Nat.le_trans h.size h2.size,fun k hk hne=>(h2.block k (Nat.lt_of_lt_of_le hk h.size) hne).trans (h.block k hk hne)⟩
theorem OffB.bel {B:Nat} {w:World} (h:OffB b W X) (hb:Below B w W) (h1:B≤W.heap.size) (h2:B≤b):Below B w X :=
  ⟨h.os.trans hb.os,h.tape.trans hb.tape,h.output.trans hb.output,Nat.le_trans hb.size h.size,fun k hk=>(h.block k (by omega) (by omega)).trans (hb.block k hk)⟩
end
def BxH (w:World) (b:Nat) (l:List Value):Prop:=Bx w b l∧(∀o,w.frozen? ⟨b,o,none⟩=false)∧b < w.heap.size
theorem BxH.below {w w':World} {b:Nat} {l:List Value} (h:BxH w b l) (hb:Below w.heap.size w w'):BxH w' b l :=
  ⟨h.1.below hb h.2.2,fun o=>(hb.frozen (p:=⟨b,o,none⟩) h.2.2).trans (h.2.1 o),Nat.lt_of_lt_of_le h.2.2 hb.size⟩
theorem BxH.grown {w w':World} {b:Nat} {l:List Value} {row:Option Nat} (h:BxH w b l) (hg:w.grownBy w' row) (hne:some b≠row):BxH w' b l :=
  ⟨fun j hj=>(World.cell?_of_block (hg.block _ h.2.2 hne)).trans (h.1 j hj),fun o=>(World.frozen?_of_block (a:=⟨b,o,none⟩) (hg.block _ h.2.2 hne)).trans (h.2.1 o),Nat.lt_of_lt_of_le h.2.2 hg.size⟩
theorem BxH.put {X:World} {b:Nat} {us vs:List Value} (h:BxH X b us) (hl:vs.length=us.length):BxH (putAll b 0 vs X) b vs :=
  ⟨putAll_bx h.1 hl,fun o=>(putAll_frozen _).trans (h.2.1 o),by rw [putAll_size];exact h.2.2⟩
theorem BxH.set {X:World} {b o:Nat} {us:List Value} (h:BxH X b us) (ho:o < us.length) (v:Value):BxH (X.setCell ⟨b,o,none⟩ v) b (us.set o v) :=
  ⟨fun j hj=>by
    by_cases e:j=o
    · subst e
      rw [World.cell?_setCell_same _ _ _ (h.1 j ho)]
      simp
    · rw [World.cell?_setCell_other _ _ _ _ (by intro e2;injection e2 with _ e3;exact e e3.symm),h.1 j (by simpa using hj)]
      simp [Ne.symm e],fun p=>(World.frozen?_setCell _ _ _ _).trans (h.2.1 p),by rw [World.size_setCell];exact h.2.2⟩
theorem BxH.new (X:World) (l:List Value) (t:TypeId):BxH (X.alloc (.cells l.toArray t)) X.heap.size l:=by
  refine ⟨?_,fun o=>((Fresh.refl X).alloc _ _) ⟨X.heap.size,o,none⟩ (Nat.le_refl _),by simp⟩
  intro j hj
  rw [World.cell?,heap_alloc_new]
  simp [hj]
theorem BxH.new1 {X wt:World} {l:List Value} {t:TypeId} (h:Below (X.alloc (.cells l.toArray t)).heap.size (X.alloc (.cells l.toArray t)) wt):BxH wt X.heap.size l:=(BxH.new X l t).below h
theorem BxH.new2 {X wt:World} {l:List Value} {t:TypeId} (h:Below (X.alloc (.cells l.toArray t)).drew.heap.size (X.alloc (.cells l.toArray t)).drew wt):BxH wt X.heap.size l:=(BxH.new X l t).below ((Below.refl _ _).drew.trans h)
def RelD (id:Int) (vec:List Int) (es:List En) (al:Bool) (W:World) (s:Value) (X:World):Prop :=
  ∃(b:Nat) (AV:Option Addr) (cv:Nat) (A:Option Addr) (c L1 B1:Nat),s=.pointer (some ⟨b,0,none⟩)∧W.heap.size≤b∧BxH X b [.int .i64 id,.slice AV vec.length cv,.slice A es.length c,.slice none 0 0,.bool al,.slice none 0 0]∧W.heap.size≤L1∧B1≤X.heap.size∧L1≤B1∧(b < L1∨B1≤b)∧TrOwn X L1 B1 AV vec A es∧Below W.heap.size W X
theorem relD_put {id:Int} {vec:List Int} {es:List En} {al:Bool} {W wt wi:World} {b L1:Nat} {AV A:Option Addr} {cv c:Nat} {us:List Value} (hO:TrOwn wt L1 wt.heap.size AV vec A es) (hti:Below wt.heap.size wt wi) (hq:BxH wi b us) (hl:us.length=6) (hb:W.heap.size≤b) (hL:W.heap.size≤L1) (hLt:L1≤wt.heap.size) (hap:b < L1∨wt.heap.size≤b) (hB:Below W.heap.size W wi) :
    RelD id vec es al W (.pointer (some ⟨b,0,none⟩)) (putAll b 0 [.int .i64 id,.slice AV vec.length cv,.slice A es.length c,.slice none 0 0,.bool al,.slice none 0 0] wi) :=
  ⟨b,AV,cv,A,c,L1,wt.heap.size,rfl,hb,hq.put (by rw [hl];rfl),hL,by rw [putAll_size];exact hti.size,hLt,hap,hO.keep fun p hp hq'=>⟨(putAll_other (by omega)).trans (hti.cell hq'),(putAll_frozen _).trans (hti.frozen hq')⟩,putAll_below hB hb⟩
theorem relD_new {id:Int} {vec:List Int} {es:List En} {al:Bool} {W wt wi:World} {L1:Nat} {AV A:Option Addr} {cv c:Nat} {t:TypeId} (hO:TrOwn wt L1 wt.heap.size AV vec A es) (hti:Below wt.heap.size wt wi) (hL:W.heap.size≤L1) (hLt:L1≤wt.heap.size) (hB:Below W.heap.size W wi) :
    RelD id vec es al W (.pointer (some ⟨wi.heap.size,0,none⟩)) (wi.alloc (.cells #[.int .i64 id,.slice AV vec.length cv,.slice A es.length c,.slice none 0 0,.bool al,.slice none 0 0] t)):=by
  have h1:=hti.size
  have h2:=hB.size
  have h3:Below wi.heap.size wi (wi.alloc (.cells #[.int .i64 id,.slice AV vec.length cv,.slice A es.length c,.slice none 0 0,.bool al,.slice none 0 0] t)):=(Below.refl _ _).alloc (Nat.le_refl _) _
  refine ⟨wi.heap.size,AV,cv,A,c,L1,wt.heap.size,rfl,by omega,BxH.new _ _ _,hL,by simp;omega,hLt,.inr h1,hO.keep fun p hp hq=>?_,hB.trans (h3.mono h2)⟩
  exact ⟨(h3.cell (by omega)).trans (hti.cell hq),(h3.frozen (by omega)).trans (hti.frozen hq)⟩
section
variable {P:Program} (w:World)
theorem step_append_at {ops:Array Oper} {o:Oper} {a:Act} {K:Act→World→Prop} {Q:Exit→Act→World→Prop} {E:Prop} (hgd:o.guard=none) (s x:Operand) (t:TypeId)
    (ho:o.op=.call { callee:=.builtin .append,args:=#[s,x],argTypes:=#[t,t] })
    (base:Nat) (e:TypeId) (i:TypeInfo) (z:Value) (size bytes:Nat) (ht:P.underlying t=some (.slice e)) (hi:P.info? e=some i) (hz:i.zero=some z)
    (hsize:i.size=size) (hby:i.bytes=bytes) (hzs:z.cells.size=size) (hsz:0 < size)
    (v:Value) (n:Nat) (xs:List Value) (hs:a.eval s=v) (hown:w.ownsRow base e size v n xs)
    (ad:Addr) (m c:Nat) (news:List Value) (hx:a.eval x=.slice (some ad) m c) (hl:news.length=m*size) (hnews:∀j u,news[j]?=some u→w.cell? (ad.add j)=some u) (h1:∀u∈news,u.oneCell'=true)
    (h63:n+m≤maxLen) (hbytes:(n+m)*bytes≤140737488355328) (hbase:base≤w.heap.size)
    (h:∀A' cap w',w'.ownsRow base e size (.slice A' (n+m) cap) (n+m) (xs++news)→w.grownBy w' v.ownBlock→((Value.slice A' (n+m) cap).ownBlock=v.ownBlock∨(Value.slice A' (n+m) cap).ownBlock=some w.heap.size)→K (a.put o.dst (.slice A' (n+m) cap)) w') :
    if Region.wanted o (yielded ops a.tmps)=true then Oper.wp P o a w K Q else E:=by
  have hw:Region.wanted o (yielded ops a.tmps)=true:=by simp [Region.wanted,hgd]
  rw [if_pos hw]
  obtain ⟨v',w',hr,h2,h3,_,h5⟩:=run_append_own_at (P:=P) w base t o.type e i z size bytes ht hi hz hsize hby hzs hsz v n xs hown ad m c news hl hnews h1 h63 hbytes hbase
  obtain ⟨A',c',rfl⟩:=row_shapeN h2
  unfold Oper.wp execOp
  simp only [ho,resolve,invoke,builtin,Sem.run_bind,Sem.run_pure,Result.andThen_ok,List.map_toArray,List.map_cons,List.map_nil,hs,hx,hr]
  exact h A' c' w' h2 h3 h5
end
theorem newsM {w:World} {x:Mx} {t:TypeId}:∀j u,(cellsM x)[j]?=some u→(w.alloc (.cells (cellsM x).toArray t)).cell? ((⟨w.heap.size,0,none⟩:Addr).add j)=some u:=fun j u hu=>by
  have h:=heap_alloc_new w (.cells (cellsM x).toArray t)
  rw [Addr.add_mid,Nat.zero_add,World.cell?,h]
  simpa using hu
theorem newsM_drew {w:World} {x:Mx} {t:TypeId}:∀j u,(cellsM x)[j]?=some u→(w.alloc (.cells (cellsM x).toArray t)).drew.cell? ((⟨w.heap.size,0,none⟩:Addr).add j)=some u:=fun j u hu=>newsM j u hu
theorem newsM_drew' {w:World} {x:Mx} {t:TypeId}:∀j u,(cellsM x)[j]?=some u→(w.drew.alloc (.cells (cellsM x).toArray t)).cell? ((⟨w.heap.size,0,none⟩:Addr).add j)=some u:=fun j u hu=>newsM (w:=w.drew) j u hu
structure MdSt (b f:Nat) (l:List Mn) (W:World) (us0:List Value) (k:Nat) (A:Option Addr) (c:Nat) (us:List Mx) (X:World):Prop where
  len':l.length=k
  ms:us.map (·.m)=l
  bx:BxH X b (us0.set f (.slice A k c))
  row:MxsIs X W.heap.size (.slice A k c) us
  off:OffB b W X
theorem MdSt.len {b f:Nat} {l:List Mn} {W:World} {us0:List Value} {k:Nat} {A:Option Addr} {c:Nat} {us:List Mx} {X:World} (h:MdSt b f l W us0 k A c us X):us.length=k:=by
  have:=congrArg List.length h.ms
  simp at this
  rw [this]
  exact h.len'
theorem MdSt.step {b f:Nat} {l:List Mn} {W:World} {us0:List Value} {k:Nat} {A:Option Addr} {c:Nat} {us:List Mx} {X w1 V w':World} {x:Mx} {A':Option Addr} {c':Nat} (h:MdSt b f l W us0 k A c us X) (hf:f < us0.length) (hbW:b < W.heap.size)
    (hb1:Below X.heap.size X w1) (ht:TrOwn w1 X.heap.size w1.heap.size x.AV x.m.vec x.A x.m.es) (hc:x.m.es.length≤x.c) (hb2:Below w1.heap.size w1 V)
    (hrow:w'.ownsRow W.heap.size 40 6 (.slice A' (k+1) c') (k+1) (rowM us++cellsM x)) (hg:V.grownBy w' (Value.slice A k c).ownBlock) (hv:(Value.slice A' (k+1) c').ownBlock=(Value.slice A k c).ownBlock∨(Value.slice A' (k+1) c').ownBlock=some V.heap.size) :
    MdSt b f (l++[x.m]) W us0 (k+1) A' c' (us++[x]) (w'.setCell ⟨b,f,none⟩ (.slice A' (k+1) c')):=by
  have hl:=h.len
  have hlt:∀g,(Value.slice A k c).ownBlock=some g→W.heap.size≤g:=fun g hg=>(h.row.lt g hg).1
  have hbw:=hb1.trans (hb2.mono hb1.size)
  have hne:some b≠(Value.slice A k c).ownBlock:=fun e=>by have:=hlt _ e.symm;omega
  refine ⟨by simp [h.len'],by rw [List.map_append,h.ms];rfl,?_,?_,((h.off.below hbw).grown hg hlt).set _⟩
  · have:=((h.bx.below hbw).grown hg hne).set (o:=f) (by simpa using hf) (.slice A' (k+1) c')
    simpa using this
  · refine MxsIs.set ?_ hbW _
    exact h.row.push hb1 ht hc hb2 (v':=.slice A' (k+1) c') (by rw [hl];exact hrow) hg hv
end Go.Proofs.YtckajeippfpojaaGreat
