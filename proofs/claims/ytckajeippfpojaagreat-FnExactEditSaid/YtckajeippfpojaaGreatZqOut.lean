import Derived.Test.YtckajeippfpojaaGreatZqTrNew
import Derived.Test.YtckajeippfpojaaGreatZqRdTr
import Derived.Lib.ConvBytes
namespace Go.Proofs.YtckajeippfpojaaGreat
open Go.RowKit Go.Maps
def NameAt (w:World) (g:Nat) (l:List UInt8):Prop :=
  ∃(cur:Array Value) (fz:Nat × Nat),w.heap[g]?=some (.cells cur 5 fz)∧(fz.2=0∨l.length≤fz.1)∧∀j (hj:j < l.length),cur[j]?=some (.int .u8 (l[j].toNat:Int))
theorem NameAt.keep {w w':World} {g:Nat} {l:List UInt8} (h:NameAt w g l) (hk:w'.heap[g]?=w.heap[g]?):NameAt w' g l:=by
  obtain ⟨cur,fz,h1,h2,h3⟩:=h
  exact ⟨cur,fz,hk.trans h1,h2,h3⟩
theorem NameAt.lt {w:World} {g:Nat} {l:List UInt8} (h:NameAt w g l):g < w.heap.size:=by
  obtain ⟨cur,fz,h1,_⟩:=h
  exact (Array.getElem?_eq_some_iff.1 h1).1
theorem NameAt.ne {w:World} {g base:Nat} {l:List UInt8} {v:Value} {n:Nat} {vs:List Value} (h:NameAt w g l) (ho:w.ownsRow base 180 4 v n vs):v.ownBlock≠some g:=by
  intro he
  obtain ⟨cur,fz,h1,_⟩:=h
  obtain ⟨_,⟨rfl,_⟩|⟨R,cap,cur',rfl,_,hb,_⟩⟩:=ho
  · simp [Value.ownBlock] at he
  · simp [Value.ownBlock] at he
    subst he
    rw [hb] at h1
    simp at h1
theorem NameAt.fr {w:World} {g:Nat} {l:List UInt8} (h:NameAt w g l):BytesFr w g (g+1) (some ⟨g,0,none⟩) l:=fun _=>by
  obtain ⟨cur,fz,h1,h2,h3⟩:=h
  refine ⟨g,0,rfl,Nat.le_refl _,by omega,fun j hj=>⟨?_,?_⟩⟩
  · rw [Nat.zero_add]
    simp only [World.cell?,h1]
    simpa using h3 j hj
  · simp only [World.frozen?,h1,Nat.zero_add]
    rcases h2 with h2|h2
    · simp [h2]
    · simp;omega
theorem nameAt_bytes (w:World) (l:List UInt8):NameAt (Lib.bytesWorld w 5 ⟨l.toArray⟩) w.heap.size l:=by
  refine ⟨_,_,Lib.bytesWorld_at_new _ _ _,?_,fun j hj=>?_⟩
  · exact .inr (by simp [Lib.bytesCells])
  · simp [Lib.bytesCells,Array.getElem?_append,hj]
structure OutRel (w:World) (base:Nat) (es:List En) (k:Nat) (vs:List Value) (G:List Nat):Prop where
  gl:G.length=k
  vl:vs.length=k*4
  cs:∀i,i < k→∃c,vs[i*4]?=some (.slice (some ⟨G.getD i 0,0,none⟩) (es.getD i default).name.length c)∧vs[i*4+1]?=some (.int .i64 (es.getD i default).val)∧vs[i*4+2]?=some (.int .i64 (es.getD i default).dev)∧vs[i*4+3]?=some (.int .i64 (es.getD i default).num)
  nm:∀i,i < k→base≤G.getD i 0∧NameAt w (G.getD i 0) (es.getD i default).name
  inc:∀i j,i < j→j < k→G.getD i 0 < G.getD j 0
theorem OutRel.nil (w:World) (base:Nat) (es:List En):OutRel w base es 0 [] [] :=
  ⟨rfl,rfl,fun i h=>absurd h (by omega),fun i h=>absurd h (by omega),fun i j _ h=>absurd h (by omega)⟩
theorem OutRel.keep {w w':World} {base:Nat} {es:List En} {k:Nat} {vs:List Value} {G:List Nat} (h:OutRel w base es k vs G) (hk:∀i,i < k→w'.heap[G.getD i 0]?=w.heap[G.getD i 0]?):OutRel w' base es k vs G :=
  ⟨h.gl,h.vl,h.cs,fun i hi=>⟨(h.nm i hi).1,(h.nm i hi).2.keep (hk i hi)⟩,h.inc⟩
theorem OutRel.add {w:World} {base:Nat} {es:List En} {k:Nat} {vs:List Value} {G:List Nat} (h:OutRel w base es k vs G) {g c:Nat} {e:En} (he:es.getD k default=e) (hg:base≤g) (hn:NameAt w g e.name) (hlt:∀i,i < k→G.getD i 0 < g) :
    OutRel w base es (k+1) (vs++[.slice (some ⟨g,0,none⟩) e.name.length c,.int .i64 e.val,.int .i64 e.dev,.int .i64 e.num]) (G++[g]) where
  gl:=by simp [h.gl]
  vl:=by simp [h.vl];omega
  cs i hi:=by
    have hv:=h.vl
    by_cases hik:i < k
    · obtain ⟨c',h0,h1,h2,h3⟩:=h.cs i hik
      have hG:(G++[g]).getD i 0=G.getD i 0:=by simp [List.getD,List.getElem?_append_left (show i < G.length by rw [h.gl];exact hik)]
      rw [hG]
      exact ⟨c',by rw [List.getElem?_append_left (by omega)];exact h0,by rw [List.getElem?_append_left (by omega)];exact h1,by rw [List.getElem?_append_left (by omega)];exact h2,by rw [List.getElem?_append_left (by omega)];exact h3⟩
    · obtain rfl:i=k:=by omega
      have hG:(G++[g]).getD i 0=g:=by simp [List.getD,h.gl]
      rw [hG,he]
      refine ⟨c,?_,?_,?_,?_⟩
      · rw [List.getElem?_append_right (by omega),hv,show i*4 - i*4=0 by omega];rfl
      · rw [List.getElem?_append_right (by omega),hv,show i*4+1 - i*4=1 by omega];rfl
      · rw [List.getElem?_append_right (by omega),hv,show i*4+2 - i*4=2 by omega];rfl
      · rw [List.getElem?_append_right (by omega),hv,show i*4+3 - i*4=3 by omega];rfl
  nm i hi:=by
    by_cases hik:i < k
    · have hG:(G++[g]).getD i 0=G.getD i 0:=by simp [List.getD,List.getElem?_append_left (show i < G.length by rw [h.gl];exact hik)]
      rw [hG]
      exact h.nm i hik
    · obtain rfl:i=k:=by omega
      have hG:(G++[g]).getD i 0=g:=by simp [List.getD,h.gl]
      rw [hG,he]
      exact ⟨hg,hn⟩
  inc i j hij hj:=by
    have hG:(G++[g]).getD i 0=G.getD i 0:=by simp [List.getD,List.getElem?_append_left (show i < G.length by rw [h.gl];omega)]
    rw [hG]
    by_cases hjk:j < k
    · have hG2:(G++[g]).getD j 0=G.getD j 0:=by simp [List.getD,List.getElem?_append_left (show j < G.length by rw [h.gl];exact hjk)]
      rw [hG2]
      exact h.inc i j hij hjk
    · obtain rfl:j=k:=by omega
      have hG2:(G++[g]).getD j 0=g:=by simp [List.getD,h.gl]
      rw [hG2]
      exact hlt i hij
theorem OutRel.own {w:World} {base:Nat} {es:List En} {vs:List Value} {G:List Nat} {A:Option Addr} {c:Nat} (h:OutRel w base es es.length vs G) (ho:w.ownsRow base 180 4 (.slice A es.length c) es.length vs):EnsOwn w base w.heap.size A es:=fun hl=>by
  have ho':=ho
  obtain ⟨_,hh|⟨R,cap,cur,hv,hR,hb,_,_,_,htk⟩⟩:=ho
  · omega
  injection hv with h1 _ _
  subst h1
  have hch:∀i,i < es.length→∃c,vs[i*4]?=some (.slice (some ⟨G.getD i 0,0,none⟩) (es.getD i default).name.length c)∧vs[i*4+1]?=some (.int .i64 (es.getD i default).val)∧vs[i*4+2]?=some (.int .i64 (es.getD i default).dev)∧vs[i*4+3]?=some (.int .i64 (es.getD i default).num):=h.cs
  obtain ⟨C,hC⟩:∃C:Nat→Nat,∀i,i < es.length→(vs[i*4]?=some (.slice (some ⟨G.getD i 0,0,none⟩) (es.getD i default).name.length (C i))∧vs[i*4+1]?=some (.int .i64 (es.getD i default).val)∧vs[i*4+2]?=some (.int .i64 (es.getD i default).dev)∧vs[i*4+3]?=some (.int .i64 (es.getD i default).num)) :=
    ⟨fun i=>if h:i < es.length then Classical.choose (hch i h) else 0,fun i hi=>by simp only [hi,dif_pos];exact Classical.choose_spec (hch i hi)⟩
  have hne:∀i,i < es.length→G.getD i 0≠R:=fun i hi e=>(h.nm i hi).2.ne ho' (show some R=some (G.getD i 0) from congrArg some e.symm)
  refine ⟨R,fun i=>some ⟨G.getD i 0,0,none⟩,fun i=>G.getD i 0,fun i=>G.getD i 0+1,C,rfl,⟨hR,(Array.getElem?_eq_some_iff.1 hb).1,fun i hi=>⟨(h.nm i hi).1,(h.nm i hi).2.lt,show R < G.getD i 0∨G.getD i 0+1≤R by have:=hne i hi;omega⟩,fun i j hij hj=>.inl (show G.getD i 0+1≤G.getD j 0 from h.inc i j hij hj)⟩,fun i hi=>?_⟩
  obtain ⟨c0,c1,c2,c3⟩:=hC i hi
  have hgd:es.getD i default=es[i]:=by simp [hi]
  rw [hgd] at c0 c1 c2 c3
  have hnm:=(h.nm i hi).2
  rw [hgd] at hnm
  have hcell:∀o u,o < 4→vs[i*4+o]?=some u→w.cell? ⟨R,i*4+o,none⟩=some u:=fun o u ho hu=>by
    rw [←htk,List.getElem?_take,if_pos (by omega)] at hu
    rw [World.cell?,hb]
    simpa using hu
  exact ⟨hcell 0 _ (by omega) c0,hcell 1 _ (by omega) c1,hcell 2 _ (by omega) c2,hcell 3 _ (by omega) c3,fun o _=>by simp [World.frozen?,hb],hnm.fr⟩
theorem below_bytesW (w:World) (e:TypeId) (s:ByteArray):Below w.heap.size w (Lib.bytesWorld w e s) :=
  ⟨rfl,rfl,rfl,by rw [Lib.bytesWorld_size];omega,fun k hk=>Lib.bytesWorld_at_old w e s k hk⟩
theorem row_capO {w:World} {base size n c:Nat} {e:TypeId} {A:Option Addr} {xs:List Value} (h:w.ownsRow base e size (.slice A n c) n xs):n≤c:=by
  obtain ⟨_,hh|⟨g,cap,cur,hv,_,_,hle,_⟩⟩:=h
  · omega
  · injection hv with _ _ h3
    omega
def NewTrC (vec:List Int) (es:List En) (w:World) (e:Ending) (w':World):Prop :=
  ∃AV cv A c,e=.returned (.agg #[.slice AV vec.length cv,.slice A es.length c])∧TrOwn w' w.heap.size w'.heap.size AV vec A es∧w.heap.size < w'.heap.size∧es.length≤c∧Below w.heap.size w w'
set_option maxRecDepth 100000 in
set_option maxHeartbeats 4000000 in
theorem out_cap (a b c d:Int) (A:Option Addr) (es:List En) (cap:Nat) (w:World) (hA:EvsIn w 0 w.heap.size A es) (hn:es.length≤1000) :
    Calls Tryz.prog 125 #[.agg #[.int .i64 a,.int .i64 b,.int .i64 c,.int .i64 d,.slice A es.length cap]] w (NewTrC [a,b,c,d] es w):=by
  have hli:=fun W=>vlist_any a b c d W
  unfold v4 at hli
  have HLi:=hd' hli
  have HA:=hd' hA
  clear hli hA
  go_enter Tryz.func125,Tryz.ntmps125
  go_wp2_with fail
  obtain ⟨W0,hW0⟩:∃W0,W0=w.alloc (.cells #[.int .i64 a,.int .i64 b,.int .i64 c,.int .i64 d,.slice A es.length cap] 101):=⟨_,rfl⟩
  obtain ⟨W,hW⟩:∃W,W=W0.alloc (.cells #[.slice none 0 0,.slice none 0 0] 38):=⟨_,rfl⟩
  have hz0:W0.heap.size=w.heap.size+1:=by rw [hW0];simp
  have hz:w.heap.size+1 < W.heap.size:=by rw [hW];simp [hz0]
  have HY:=hd' (show Bx W w.heap.size [.int .i64 a,.int .i64 b,.int .i64 c,.int .i64 d,.slice A es.length cap] by rw [hW];exact Bx.alloc (by rw [hW0];exact Bx.new' _ _ _ _ rfl) (by omega) _)
  have HX:=hd' (show Bx W (w.heap.size+1) [.slice none 0 0,.slice none 0 0] by rw [hW,←hz0];exact Bx.new' _ _ _ _ rfl)
  have HF:=hd' (show ∀o,W.frozen? ⟨w.heap.size+1,o,none⟩=false from fun o=>by rw [hW,hW0];exact (((Fresh.refl w).alloc _ _).alloc _ _) ⟨w.heap.size+1,o,none⟩ (by show w.heap.size≤w.heap.size+1;omega))
  have HBel:=hd' (show Below w.heap.size w W by rw [hW,hW0];exact ((Below.refl _ _).alloc (Nat.le_refl _) _).alloc (by simp) _)
  rw [←hW0,←hW]
  clear hW hW0 hz0
  go_loopw [3,9] (fun x i wr=>∃(k:Nat) (A':Option Addr) (c':Nat) (vs:List Value) (G:List Nat),k≤es.length∧i=.int .i64 k∧x=.slice A' k c'∧wr.ownsRow W.heap.size 180 4 (.slice A' k c') k vs∧OutRel wr W.heap.size es k vs G∧Below W.heap.size W wr∧W.heap.size≤wr.heap.size) (fun _ i _=>es.length - (intOf i).toNat)
  case atStart=>exact ⟨0,none,0,[],[],Nat.zero_le _,rfl,rfl,World.ownsRow_nil _ _ _ _,OutRel.nil _ _ _,Below.refl _ _,Nat.le_refl _⟩
  case round =>
    obtain ⟨k,A',c',vs,G,hk,rfl,rfl,hown,hout,hbel,hzr⟩:=hrel
    have HOwn:=hd' hown
    have HOut:=hd' hout
    have HBr:=hd' hbel
    have HO:=hd' (HBel.out.trans (hbel.mono (by omega)))
    clear hown hout hbel
    by_cases hlt:k < es.length
    · obtain ⟨bA,oA,hAe,_,hbA,hcA⟩:=HA.out (by omega)
      obtain ⟨c0,c1,c2,c3⟩:=(hcA k hlt).keep (w':=wr) fun o=>HO.out.cell hbA
      obtain ⟨e,he⟩:∃e,e=es[k]:=⟨_,rfl⟩
      rw [←he] at c0 c1 c2 c3
      have HE:=hd' (show es.getD k default=e by rw [he];simp [hlt])
      subst hAe
      clear hcA he
      obtain ⟨n1,v1,d1,m1⟩:=e
      simp only at c0 c1 c2 c3
      have hlt':(k:Int) < (es.length:Int):=by omega
      obtain ⟨W7,hW7⟩:∃W7,W7=wr.alloc (.cells #[.string ⟨n1.toArray⟩,.int .i64 v1,.int .i64 d1,.int .i64 m1] 192):=⟨_,rfl⟩
      have hZ7:Bx W7 wr.heap.size [.string ⟨n1.toArray⟩,.int .i64 v1,.int .i64 d1,.int .i64 m1]:=by rw [hW7];exact Bx.new' _ _ _ _ rfl
      have hb7:Below wr.heap.size wr W7:=by rw [hW7];exact (Below.refl _ _).alloc (Nat.le_refl _) _
      have hz7:wr.heap.size < W7.heap.size:=by rw [hW7];simp
      have hcv:=Lib.run_convert_string_bytes (P:=Tryz.prog) W7 9 61 5 ⟨n1.toArray⟩ Tryz.underlying9 Tryz.underlying61 Tryz.underlying5
      have hnm:=nameAt_bytes W7 n1
      obtain ⟨W9,hW9⟩:∃W9,W9=Lib.bytesWorld W7 5 ⟨n1.toArray⟩:=⟨_,rfl⟩
      obtain ⟨gc,hgc⟩:∃gc,gc=grownCap W7 (ByteArray.size ⟨n1.toArray⟩) 0 5:=⟨_,rfl⟩
      have hns:ByteArray.size ⟨n1.toArray⟩=n1.length:=by simp [ByteArray.size]
      rw [←hW9] at hnm
      rw [←hW9,←hgc,hns] at hcv
      have hb9:Below W7.heap.size W7 W9:=by rw [hW9];exact below_bytesW _ _ _
      have hz9:W9.heap.size=W7.heap.size+1:=by rw [hW9,Lib.bytesWorld_size]
      have hZ9:=hZ7.below hb9 hz7
      have z1:=hZ9 1 (by simp)
      have z2:=hZ9 2 (by simp)
      have z3:=hZ9 3 (by simp)
      simp only [List.getElem_cons_succ,List.getElem_cons_zero] at z1 z2 z3
      have HB9:=hd' (hb7.trans (hb9.mono (by omega)))
      have HOwn9:=hd' (ownsRow_below HOwn.out HB9.out fun g hg=>(HOwn.out.lt g hg).2)
      have HOut9:=hd' (show OutRel W9 W.heap.size es k vs G from HOut.out.keep fun i hi=>HB9.out.block _ (HOut.out.nm i hi).2.lt)
      have hz70:W7.heap.size=wr.heap.size+1:=by rw [hW7];simp
      rw [hz70] at hnm
      have HNm:=hd' hnm
      have hz79:wr.heap.size+1 < W9.heap.size:=by omega
      obtain ⟨i0,hi,hz0,hz1',hz2'⟩:=info_parts Tryz.infoEntry
      rw [hz70,hW7] at hcv
      clear hz9 hz70 hz7 hZ7 hb7 hgc hns hb9 hZ9 hnm hW9 hW7
      go_wp2_with (at_builtin;refine wpList_append_own _ rfl _ _ 36 rfl W.heap.size 180 i0 (.agg #[.slice none 0 0,.int .i64 0,.int .i64 0,.int .i64 0]) 4 48 Tryz.underlying36 hi hz0 hz1' hz2' rfl (by decide) _ _ _ rfl (HOwn9.out.alloc _) ⟨W9.heap.size,0,none⟩ 1 1 [.slice (some ⟨wr.heap.size+1,0,none⟩) n1.length gc,.int .i64 v1,.int .i64 d1,.int .i64 m1] rfl rfl ?c1 ?c2 ?c3 ?c4 ?c5 ?_)
      case c1=>exact new4 _ _ _ _ _ _
      case c2=>intro u hu;simp at hu;rcases hu with rfl|rfl|rfl|rfl <;> rfl
      case c3=>unfold maxLen;omega
      case c4=>omega
      case c5=>first|omega|(simp;omega)
      intro v' w5 hrow5 hgr5 _
      obtain ⟨A5,c5,rfl⟩:=row_shapeN hrow5
      have HRow5:=hd' hrow5
      have hz9a:W9.heap.size+1≤w5.heap.size:=by simpa using hgr5.size
      have HOut5:=hd' (show OutRel w5 W.heap.size es k vs G from HOut9.out.keep fun i hi=>by
        have hlt9:=(HOut9.out.nm i hi).2.lt
        have hne:=(HOut9.out.nm i hi).2.ne HOwn9.out
        rw [hgr5.block _ (by rw [World.size_alloc];omega) (fun e=>hne e.symm),heap_alloc_old _ _ hlt9])
      have hlt9n:=HNm.out.lt
      have HNm5:=hd' (show NameAt w5 (wr.heap.size+1) n1 from HNm.out.keep (by
        have hne:=HNm.out.ne HOwn9.out
        rw [hgr5.block _ (by rw [World.size_alloc];omega) (fun e=>hne e.symm),heap_alloc_old _ _ HNm.out.lt]))
      have HB5:=hd' (((HBr.out.trans (HB9.out.mono hzr)).alloc (by omega) (.cells #[.slice (some ⟨wr.heap.size+1,0,none⟩) n1.length gc,.int .i64 v1,.int .i64 d1,.int .i64 m1] 180)).grown hgr5 (by simp;omega) (fun g hg=>(HOwn9.out.lt g hg).1))
      clear hrow5 hgr5 z1 z2 z3 hcv c0 c1 c2 c3
      go_wp2_with fail
      go_roundw
      case rel =>
        exact ⟨k+1,A5,c5,_,_,by omega,by go_num,rfl,HRow5.out,HOut5.out.add (c:=gc) HE.out (by omega) HNm5.out fun i hi=>by have:=(HOut.out.nm i hi).2.lt;omega,HB5.out,by omega⟩
      case measure=>simp [intOf];omega
    · have hke:k=es.length:=by omega
      have HE:=hd' (show EnsOwn wr W.heap.size wr.heap.size A' es by
        subst hke
        exact HOut.out.own HOwn.out)
      have HCap:=hd' (show es.length≤c' by
        subst hke
        exact row_capO HOwn.out)
      have HK:=hd' hke
      have y0:=(HBr.out.cell (p:=⟨w.heap.size,0,none⟩) (by show w.heap.size < W.heap.size;omega)).trans (HY.out 0 (by simp))
      have y1:=(HBr.out.cell (p:=⟨w.heap.size,1,none⟩) (by show w.heap.size < W.heap.size;omega)).trans (HY.out 1 (by simp))
      have y2:=(HBr.out.cell (p:=⟨w.heap.size,2,none⟩) (by show w.heap.size < W.heap.size;omega)).trans (HY.out 2 (by simp))
      have y3:=(HBr.out.cell (p:=⟨w.heap.size,3,none⟩) (by show w.heap.size < W.heap.size;omega)).trans (HY.out 3 (by simp))
      simp only [List.getElem_cons_succ,List.getElem_cons_zero] at y0 y1 y2 y3
      clear hke
      go_wp2_with fail
      refine (HLi.out wr).mono ?_
      rintro e w1 ⟨AV,cv,rfl,hfr,hb⟩
      have HV:=hd' hfr
      have hz1:=hb.size
      have HB1:=hd' (HO.out.trans (hb.mono (by omega)))
      have HBw:=hd' (show Below W.heap.size W w1 from HBr.out.trans (hb.mono hzr))
      have HEw:=hd' (show EnsOwn w1 W.heap.size wr.heap.size A' es from HE.out.keep fun p _ hp=>⟨hb.cell hp,hb.frozen hp⟩)
      have r0:=(HBw.out.cell (p:=⟨w.heap.size+1,0,none⟩) hz).trans (HX.out 0 (by simp))
      have r1:=(HBw.out.cell (p:=⟨w.heap.size+1,1,none⟩) hz).trans (HX.out 1 (by simp))
      simp only [List.getElem_cons_succ,List.getElem_cons_zero] at r0 r1
      have f0:=(HBw.out.frozen (p:=⟨w.heap.size+1,0,none⟩) hz).trans (HF.out 0)
      have f1:=(HBw.out.frozen (p:=⟨w.heap.size+1,1,none⟩) hz).trans (HF.out 1)
      clear hb hfr y0 y1 y2 y3
      go_wp2_with fail
      refine bodyPost_ret (v:=.agg #[.slice AV 4 cv,.slice A' k c']) (by simp [results,Tryz.results125,r0,r1,go_sem]) rfl ?_
      refine ⟨AV,cv,A',c',by rw [HK.out];rfl,⟨wr.heap.size,w1.heap.size,W.heap.size,wr.heap.size,by omega,by simp,by omega,by simp;omega,.inr (Nat.le_refl _),?_,?_⟩,by simp;omega,HCap.out,?_⟩
      · exact HV.out.keep fun p hp _=>two_other (by omega)
      · exact HEw.out.keep fun p hp _=>two_other (by omega)
      · exact (HB1.out.setCell (by simp) _).setCell (by simp) _
theorem NewTrC.tr {vec:List Int} {es:List En} {w:World} {e:Ending} {w':World} (h:NewTrC vec es w e w'):NewTr vec es w e w':=by
  obtain ⟨AV,cv,A,c,h1,h2,h3,_,h5⟩:=h
  exact ⟨AV,cv,A,c,h1,h2,h3,h5⟩
theorem out_any (a b c d:Int) (A:Option Addr) (es:List En) (cap:Nat) (w:World) (hA:EvsIn w 0 w.heap.size A es) (hn:es.length≤1000) :
    Calls Tryz.prog 125 #[.agg #[.int .i64 a,.int .i64 b,.int .i64 c,.int .i64 d,.slice A es.length cap]] w (NewTr [a,b,c,d] es w) :=
  (out_cap a b c d A es cap w hA hn).mono fun _ _ h=>h.tr
end Go.Proofs.YtckajeippfpojaaGreat
