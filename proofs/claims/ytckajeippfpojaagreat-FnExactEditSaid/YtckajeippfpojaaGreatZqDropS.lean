import Derived.Test.YtckajeippfpojaaGreatZqDropI
import Derived.Test.YtckajeippfpojaaGreatZqGCmp
namespace Go.Proofs.YtckajeippfpojaaGreat
open Go.RowKit Go.Maps
structure WoRel (w:World) (B:Nat) (fs:List En) (vs:List Value):Prop where
  vl:vs.length=fs.length*4
  cs:∀i (hi:i < fs.length),∃A c,vs[i*4]?=some (.slice A fs[i].name.length c)∧vs[i*4+1]?=some (.int .i64 fs[i].val)∧vs[i*4+2]?=some (.int .i64 fs[i].dev)∧vs[i*4+3]?=some (.int .i64 fs[i].num)∧BytesIn w 0 B A fs[i].name
theorem WoRel.nil (w:World) (B:Nat):WoRel w B [] []:=⟨rfl,fun i hi=>absurd hi (by simp)⟩
theorem WoRel.keep {w w':World} {B:Nat} {fs:List En} {vs:List Value} (h:WoRel w B fs vs) (hk:∀p:Addr,p.block < B→w'.cell? p=w.cell? p):WoRel w' B fs vs :=
  ⟨h.vl,fun i hi=>by
    obtain ⟨A,c,h0,h1,h2,h3,h4⟩:=h.cs i hi
    exact ⟨A,c,h0,h1,h2,h3,h4.keep fun p _ hp=>hk p hp⟩⟩
theorem WoRel.add {w:World} {B:Nat} {fs:List En} {vs:List Value} (h:WoRel w B fs vs) {e:En} {A:Option Addr} {c:Nat} (hb:BytesIn w 0 B A e.name) :
    WoRel w B (fs++[e]) (vs++[.slice A e.name.length c,.int .i64 e.val,.int .i64 e.dev,.int .i64 e.num]) where
  vl:=by simp [h.vl];omega
  cs i hi:=by
    have hv:=h.vl
    by_cases hik:i < fs.length
    · obtain ⟨A',c',h0,h1,h2,h3,h4⟩:=h.cs i hik
      rw [List.getElem_append_left hik]
      exact ⟨A',c',by rw [List.getElem?_append_left (by omega)];exact h0,by rw [List.getElem?_append_left (by omega)];exact h1,by rw [List.getElem?_append_left (by omega)];exact h2,by rw [List.getElem?_append_left (by omega)];exact h3,h4⟩
    · obtain rfl:i=fs.length:=by simp at hi;omega
      have hg:(fs++[e])[fs.length]'hi=e:=by simp
      rw [hg]
      refine ⟨A,c,?_,?_,?_,?_,hb⟩
      · rw [List.getElem?_append_right (by omega),hv,show fs.length*4 - fs.length*4=0 by omega];rfl
      · rw [List.getElem?_append_right (by omega),hv,show fs.length*4+1 - fs.length*4=1 by omega];rfl
      · rw [List.getElem?_append_right (by omega),hv,show fs.length*4+2 - fs.length*4=2 by omega];rfl
      · rw [List.getElem?_append_right (by omega),hv,show fs.length*4+3 - fs.length*4=3 by omega];rfl
theorem WoRel.ens {w:World} {B base:Nat} {fs:List En} {vs:List Value} {A:Option Addr} {c:Nat} (h:WoRel w B fs vs) (hB:B≤w.heap.size) (ho:w.ownsRow base 180 4 (.slice A fs.length c) fs.length vs):EnsIn w 0 w.heap.size A fs:=fun hl=>by
  obtain ⟨_,hh|⟨R,cap,cur,hv,hR,hb,_,_,_,htk⟩⟩:=ho
  · omega
  injection hv with h1 _ _
  subst h1
  refine ⟨R,0,rfl,Nat.zero_le _,(Array.getElem?_eq_some_iff.1 hb).1,fun i hi=>?_⟩
  obtain ⟨A',c',c0,c1,c2,c3,hby⟩:=h.cs i hi
  have hcell:∀o u,o < 4→vs[i*4+o]?=some u→w.cell? ⟨R,i*4+o,none⟩=some u:=fun o u ho hu=>by
    rw [←htk,List.getElem?_take,if_pos (by omega)] at hu
    rw [World.cell?,hb]
    simpa using hu
  rw [Nat.zero_add]
  exact ⟨A',c',hcell 0 _ (by omega) c0,hcell 1 _ (by omega) c1,hcell 2 _ (by omega) c2,hcell 3 _ (by omega) c3,hby.mono hB⟩
def WoOut (w:World) (L B:Nat) (A:Option Addr) (fs:List En):Prop :=
  0 < fs.length→∃R,A=some ⟨R,0,none⟩∧L≤R∧R < w.heap.size∧∀i (hi:i < fs.length),EnIn w 0 B R (0+i*4) fs[i]∧EnIn w 0 B R (i*4) fs[i]
theorem WoOut.ens {w:World} {L B:Nat} {A:Option Addr} {fs:List En} (h:WoOut w L B A fs) (hB:B≤w.heap.size):EnsIn w 0 w.heap.size A fs:=fun hl=>by
  obtain ⟨R,e,_,hR,hc⟩:=h hl
  exact ⟨R,0,e,Nat.zero_le _,hR,fun i hi=>(hc i hi).1.mono hB⟩
theorem WoOut.keep {w w':World} {L B:Nat} {A:Option Addr} {fs:List En} (h:WoOut w L B A fs) (hs:w.heap.size≤w'.heap.size) (hk:∀p:Addr,p.block < B∨(L≤p.block∧p.block < w.heap.size)→w'.cell? p=w.cell? p):WoOut w' L B A fs:=fun hl=>by
  obtain ⟨R,e,hL,hR,hc⟩:=h hl
  refine ⟨R,e,hL,by omega,fun i hi=>?_⟩
  have hx:EnIn w' 0 B R (i*4) fs[i]:=by
    obtain ⟨A',c',h0,h1,h2,h3,h4⟩:=(hc i hi).2
    exact ⟨A',c',(hk _ (.inr ⟨hL,hR⟩)).trans h0,(hk _ (.inr ⟨hL,hR⟩)).trans h1,(hk _ (.inr ⟨hL,hR⟩)).trans h2,(hk _ (.inr ⟨hL,hR⟩)).trans h3,h4.keep fun p _ hp=>hk p (.inl hp)⟩
  exact ⟨by rw [Nat.zero_add];exact hx,hx⟩
theorem WoOut.lower {w:World} {L L' B:Nat} {A:Option Addr} {fs:List En} (h:WoOut w L B A fs) (hL:L'≤L):WoOut w L' B A fs:=fun hl=>by
  obtain ⟨R,e,h1,h2,h3⟩:=h hl
  exact ⟨R,e,by omega,h2,h3⟩
theorem WoRel.out {w:World} {B base:Nat} {fs:List En} {vs:List Value} {A:Option Addr} {c:Nat} (h:WoRel w B fs vs) (ho:w.ownsRow base 180 4 (.slice A fs.length c) fs.length vs):WoOut w base B A fs:=fun hl=>by
  obtain ⟨_,hh|⟨R,cap,cur,hv,hR,hb,_,_,_,htk⟩⟩:=ho
  · omega
  injection hv with h1 _ _
  subst h1
  refine ⟨R,rfl,hR,(Array.getElem?_eq_some_iff.1 hb).1,fun i hi=>?_⟩
  obtain ⟨A',c',c0,c1,c2,c3,hby⟩:=h.cs i hi
  have hcell:∀o u,o < 4→vs[i*4+o]?=some u→w.cell? ⟨R,i*4+o,none⟩=some u:=fun o u ho hu=>by
    rw [←htk,List.getElem?_take,if_pos (by omega)] at hu
    rw [World.cell?,hb]
    simpa using hu
  have hx:EnIn w 0 B R (i*4) fs[i]:=⟨A',c',hcell 0 _ (by omega) c0,hcell 1 _ (by omega) c1,hcell 2 _ (by omega) c2,hcell 3 _ (by omega) c3,hby⟩
  exact ⟨by rw [Nat.zero_add];exact hx,hx⟩
set_option maxRecDepth 100000 in
set_option maxHeartbeats 4000000 in
theorem l3without_own (A:Option Addr) (es:List En) (c:Nat) (Ab:Option Addr) (l:List UInt8) (cb B0:Nat) (w:World) (hA:EnsIn w 0 B0 A es) (hB0:B0≤w.heap.size) (hn:es.length≤1000) (hB:BytesIn w 0 w.heap.size Ab l) :
    Calls Tryz.prog 146 #[.slice A es.length c,.slice Ab l.length cb] w
      fun r w'=>∃A' c',r=.returned (.slice A' (notName l es).length c')∧(notName l es).length≤c'∧(A'=none∧c'=0∨∃g,A'=some ⟨g,0,none⟩)∧WoOut w' w.heap.size B0 A' (notName l es)∧Below w.heap.size w w':=by
  have HA:=hd' hA
  have HB:=hd' hB
  clear hA hB
  go_enter Tryz.func146,Tryz.ntmps146
  go_wp2_with fail
  go_loopw [5,6] (fun x i wr=>∃(k:Nat) (B:Option Addr) (cx:Nat) (vs:List Value),k≤es.length∧i=.int .i64 k∧x=.slice B (notName l (es.take k)).length cx∧wr.ownsRow w.heap.size 180 4 (.slice B (notName l (es.take k)).length cx) (notName l (es.take k)).length vs∧WoRel wr B0 (notName l (es.take k)) vs∧Below w.heap.size w wr∧w.heap.size≤wr.heap.size) (fun _ i _=>es.length - (intOf i).toNat)
  case atStart=>exact ⟨0,none,0,[],Nat.zero_le _,rfl,rfl,World.ownsRow_nil _ _ _ _,WoRel.nil _ _,Below.refl _ _,Nat.le_refl _⟩
  case round =>
    obtain ⟨k,B,cx,vs,hk,rfl,rfl,hown,hwo,hbel,hzr⟩:=hrel
    have HOwn:=hd' hown
    have HWo:=hd' hwo
    have HBr:=hd' hbel
    clear hown hwo hbel
    by_cases hlt:k < es.length
    · obtain ⟨bA,oA,hAe,_,hbA,hcA⟩:=HA.out (by omega)
      obtain ⟨An,cn,c0,c1,c2,c3,hby⟩:=(hcA k hlt).keep (Nat.zero_le _) hbA (fun p _ hp=>HBr.out.cell (by omega))
      obtain ⟨e,he⟩:∃e,e=es[k]:=⟨_,rfl⟩
      rw [←he] at c0 c1 c2 c3 hby
      have HS:=hd' (notName_succ l es k hlt)
      rw [←he] at HS
      have hkl:(notName l (es.take k)).length≤k:=Nat.le_trans (notName_le _ _) (by simp;omega)
      obtain ⟨F,hF⟩:∃F,F=notName l (es.take k):=⟨_,rfl⟩
      rw [←hF] at HS hkl HOwn HWo ⊢
      have HBy:=hd' hby
      subst hAe
      clear hcA he hF hby
      obtain ⟨n1,v1,d1,m1⟩:=e
      simp only at c0 c1 c2 c3
      have hlt':(k:Int) < (es.length:Int):=by omega
      have HC:=hd' (And.intro c0 (And.intro c1 (And.intro c2 c3)))
      have g0:=fun x:Kp wr=>x.cell c0
      have k1:=fun x:Kp wr=>run_str (w:=x.val) (HBy.out.keep fun p _ hp=>x.ok.cell (by omega)) cn
      have k2:=fun x:Kp wr=>run_str (w:=x.val) (HB.out.keep fun p _ hp=>(x.ok.cell (by omega)).trans (HBr.out.cell hp)) cb
      clear c0 c1 c2 c3
      cases hq:(n1 == l) with
      | true =>
        have HS2:=hd' (show notName l (es.take (k+1))=F by rw [HS.out];simp [hq])
        go_wp2_with fail
        refine wp_region_kept (by kernel_rfl) (by kernel_rfl) ?_
        repeat (go_big_quiet_step (fail))
        refine wpQuiet_nil ?_
        rintro _ ⟨x,rfl⟩
        clear k1 k2 g0
        obtain ⟨w7,hw7⟩:∃w7,w7=x.val:=⟨_,rfl⟩
        have HB7:=hd' (show Below wr.heap.size wr w7 by rw [hw7];exact x.ok)
        rw [←hw7]
        clear hw7 x
        have hz7:=HB7.out.size
        go_wp2_with fail
        go_roundw
        case rel =>
          refine ⟨k+1,B,cx,vs,by omega,by go_num,by rw [HS2.out],?_,?_,HBr.out.trans (HB7.out.mono hzr),by omega⟩
          · rw [HS2.out]
            exact ownsRow_below HOwn.out HB7.out fun g hg=>(HOwn.out.lt g hg).2
          · rw [HS2.out]
            exact HWo.out.keep fun p hp=>HB7.out.cell (by omega)
        case measure=>simp [intOf];omega
      | false =>
        have HS2:=hd' (show notName l (es.take (k+1))=F++[⟨n1,v1,d1,m1⟩] by rw [HS.out];simp [hq])
        go_wp2_with fail
        refine wp_region_kept (by kernel_rfl) (by kernel_rfl) ?_
        repeat (go_big_quiet_step (fail))
        refine wpQuiet_nil ?_
        rintro _ ⟨x,rfl⟩
        clear k1 k2 g0
        obtain ⟨w7,hw7⟩:∃w7,w7=x.val:=⟨_,rfl⟩
        have HB7:=hd' (show Below wr.heap.size wr w7 by rw [hw7];exact x.ok)
        rw [←hw7]
        clear hw7 x
        have hz7:=HB7.out.size
        obtain ⟨d0,d1',d2,d3⟩:=HC.out
        have c0:=(HB7.out.cell (p:=⟨bA,oA+k*4,none⟩) (by show bA < wr.heap.size;omega)).trans d0
        have c1:=(HB7.out.cell (p:=⟨bA,oA+k*4+1,none⟩) (by show bA < wr.heap.size;omega)).trans d1'
        have c2:=(HB7.out.cell (p:=⟨bA,oA+k*4+2,none⟩) (by show bA < wr.heap.size;omega)).trans d2
        have c3:=(HB7.out.cell (p:=⟨bA,oA+k*4+3,none⟩) (by show bA < wr.heap.size;omega)).trans d3
        have HOwn7:=hd' (ownsRow_below HOwn.out HB7.out fun g hg=>(HOwn.out.lt g hg).2)
        obtain ⟨i0,hi,hz0,hz1',hz2'⟩:=info_parts Tryz.infoEntry
        clear d0 d1' d2 d3
        go_wp2_with (at_builtin;refine wpList_append_own _ rfl _ _ 36 rfl w.heap.size 180 i0 (.agg #[.slice none 0 0,.int .i64 0,.int .i64 0,.int .i64 0]) 4 48 Tryz.underlying36 hi hz0 hz1' hz2' rfl (by decide) _ _ _ rfl (HOwn7.out.alloc _) ⟨w7.heap.size,0,none⟩ 1 1 [.slice An n1.length cn,.int .i64 v1,.int .i64 d1,.int .i64 m1] rfl rfl ?c1 ?c2 ?c3 ?c4 ?c5 ?_)
        case c1=>exact new4 _ _ _ _ _ _
        case c2=>intro u hu;simp at hu;rcases hu with rfl|rfl|rfl|rfl <;> rfl
        case c3=>unfold maxLen;omega
        case c4=>omega
        case c5=>first|omega|(simp;omega)
        intro v' w5 hrow5 hgr5 _
        obtain ⟨A5,c5,rfl⟩:=row_shapeN hrow5
        have HRow5:=hd' hrow5
        have HB5:=hd' (((HBr.out.trans (HB7.out.mono hzr)).alloc (by omega) (.cells #[.slice An n1.length cn,.int .i64 v1,.int .i64 d1,.int .i64 m1] 180)).grown hgr5 (by simp;omega) (fun g hg=>(HOwn7.out.lt g hg).1))
        have hz5:w7.heap.size+1≤w5.heap.size:=by simpa using hgr5.size
        clear hrow5 hgr5 c0 c1 c2 c3
        go_wp2_with fail
        go_roundw
        case rel =>
          have hr:=HRow5.out
          have hw:WoRel w5 B0 (F++[⟨n1,v1,d1,m1⟩]) (vs++[.slice An n1.length cn,.int .i64 v1,.int .i64 d1,.int .i64 m1]):=(HWo.out.keep fun p hp=>(HB5.out.cell (by omega)).trans (HBr.out.cell (by omega)).symm).add (HBy.out.keep fun p _ hp=>(HB5.out.cell (by omega)).trans (HBr.out.cell (by omega)).symm)
          refine ⟨k+1,A5,c5,_,by omega,by go_num,by rw [HS2.out];simp,?_,by rw [HS2.out];exact hw,HB5.out,by omega⟩
          rw [HS2.out]
          simpa using hr
        case measure=>simp [intOf];omega
    · have hke:k=es.length:=by omega
      have HR:=hd' (show notName l (es.take k)=notName l es by rw [hke,List.take_length])
      have HOwnE:=HOwn.out
      have HWoE:=HWo.out
      rw [HR.out] at HOwnE HWoE
      have HEn:=hd' (HWoE.out HOwnE)
      have hcap:(notName l es).length≤cx:=by
        obtain ⟨_,⟨hh,h2⟩|⟨g,cap,cur,hv,_,_,h1,_⟩⟩:=HOwnE
        · omega
        · injection hv with _ _ h3
          omega
      have hform:B=none∧cx=0∨∃g,B=some ⟨g,0,none⟩:=by
        obtain ⟨_,⟨hh,h2⟩|⟨g,cap,cur,hv,_,_,h1,_⟩⟩:=HOwnE
        · injection hh with e1 _ e3
          exact .inl ⟨e1,e3⟩
        · injection hv with e1 _ _
          exact .inr ⟨g,e1⟩
      clear hke HOwnE HWoE
      go_wp2_with fail
      go_ret
      exact ⟨B,cx,by rw [HR.out];rfl,hcap,hform,HEn.out,HBr.out⟩
end Go.Proofs.YtckajeippfpojaaGreat
