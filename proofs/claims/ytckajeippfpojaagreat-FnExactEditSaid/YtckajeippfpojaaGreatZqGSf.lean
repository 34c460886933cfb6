import Derived.Test.YtckajeippfpojaaGreatZqCmp
import Derived.Sort.Grow
import Derived.Test.YtckajeippfpojaaGreatZqOrd
import Derived.Shelf.SlSortCmp.Insertion
import Derived.Test.YtckajeippfpojaaGreatZqRdTr
import Derived.Shelf.GgSortFunc.InsertionK
import Derived.Test.YtckajeippfpojaaGreatZqSrf
import Derived.Shelf.SlSortCmp.WholeK
namespace Go.Proofs.YtckajeippfpojaaGreat
open Go.RowKit Go.Maps
set_option maxRecDepth 100000
set_option maxHeartbeats 2000000 in
theorem byPlace_grow (e f:En) (w:World):Calls Tryz.prog 186 #[ev e,ev f] w fun r w'=>r=.returned (.int .i64 (plaV e f))∧∃q os',w'=Sort.grow (w.drewN q) os':=by
  obtain ⟨n1,v1,d1,m1⟩:=e
  obtain ⟨n2,v2,d2,m2⟩:=f
  have HP:=hd' (show plaV ⟨n1,v1,d1,m1⟩ ⟨n2,v2,d2,m2⟩=or3 (Lib.compareBytes n1 n2) (cmpI m2 m1) (cmpI d1 d2) from rfl)
  unfold ev
  simp only
  go_enter Tryz.func186,Tryz.ntmps186
  go_wp2_with fail
  obtain ⟨W0,hW0⟩:∃W0,W0=w.alloc (.cells #[.string ⟨n1.toArray⟩,.int .i64 v1,.int .i64 d1,.int .i64 m1] 192):=⟨_,rfl⟩
  obtain ⟨W,hW⟩:∃W,W=W0.alloc (.cells #[.string ⟨n2.toArray⟩,.int .i64 v2,.int .i64 d2,.int .i64 m2] 192):=⟨_,rfl⟩
  have hz0:W0.heap.size=w.heap.size+1:=by rw [hW0];simp
  have hz:W.heap.size=w.heap.size+2:=by rw [hW];simp [hz0]
  have hX:Bx W w.heap.size [.string ⟨n1.toArray⟩,.int .i64 v1,.int .i64 d1,.int .i64 m1]:=by rw [hW];exact Bx.alloc (by rw [hW0];exact Bx.new' _ _ _ _ rfl) (by omega) _
  have hY:Bx W (w.heap.size+1) [.string ⟨n2.toArray⟩,.int .i64 v2,.int .i64 d2,.int .i64 m2]:=by rw [hW,←hz0];exact Bx.new' _ _ _ _ rfl
  have HG:=hd' (show ∃os,W=Sort.grow w os from ⟨_,by rw [hW,hW0,Sort.alloc_eq_grow,Sort.alloc_eq_grow,Sort.grow_grow]⟩)
  rw [←hW0,←hW]
  have hzW:w.heap.size+1 < W.heap.size:=by omega
  clear hW hW0 hz0 hz
  obtain ⟨x0,x1,x2,x3⟩:=hX.four
  obtain ⟨y0,y1,y2,y3⟩:=hY.four
  clear hX hY
  refine wp_region_still_tail 19 (by kernel_rfl) (by kernel_rfl) ?_
  simp only [List.take_succ_cons,List.take_zero,List.drop_succ_cons,List.drop_zero]
  repeat (first|still_step|(still_call (strCompare_any _ _ _))|(still_call (cmpInt_any _ _ _)))
  refine wpStill_nil ?_
  change wpList _ _ _ _ _ W.drew
  obtain ⟨a,ha⟩:∃a,a=Lib.compareBytes n1 n2:=⟨_,rfl⟩
  obtain ⟨b,hb⟩:∃b,b=cmpI m2 m1:=⟨_,rfl⟩
  obtain ⟨c,hc⟩:∃c,c=cmpI d1 d2:=⟨_,rfl⟩
  rw [←ha,←hb,←hc] at HP
  rw [←ha,←hb,←hc]
  clear x0 x1 x2 x3 y0 y1 y2 y3 ha hb hc
  go_wp2_with fail
  have hc0:∀o:Obj,(W.alloc o).drew.heap.size=W.heap.size+1:=fun o=>by simp [World.drew]
  clear hc0
  refine (cmpOr_any W.heap.size a b c _ ?_ ?_ ?_).mono ?_
  · simp
  · simp
  · simp
  rintro r w5 ⟨rfl,rfl⟩
  go_wp2_with fail
  go_ret
  obtain ⟨os,hos⟩:=HG.out
  exact ⟨ret_int HP.out.symm,1,_,by rw [hos,Sort.alloc_eq_grow,Sort.grow_grow,Sort.drew_grow];rfl⟩
end Go.Proofs.YtckajeippfpojaaGreat
namespace Go.Proofs.YtckajeippfpojaaGreat
open Go.RowKit Go.Maps
set_option maxRecDepth 100000
theorem pla_swo:Sort.SWO (Go.Proofs.ltOf plaV) where
  irrefl x:=by
    unfold Go.Proofs.ltOf
    rw [(pla_zero x x).2 ⟨rfl,rfl,rfl⟩]
    rfl
  trans x y z h1 h2:=by
    unfold Go.Proofs.ltOf at *
    simp only [decide_eq_true_eq] at *
    exact pla_trans h1 h2
  ntrans x y z h1 h2:=by
    unfold Go.Proofs.ltOf at *
    simp only [decide_eq_false_iff_not] at *
    intro h3
    have a1:=pla_anti y z
    have a2:=pla_anti x y
    rcases Int.lt_trichotomy (plaV y z) 0 with h|h|h
    · exact h2 h
    · obtain ⟨e1,e2,e3⟩:=(pla_zero y z).1 h
      apply h1
      rw [pla_neg] at h3 ⊢
      rw [e1,e2,e3]
      exact h3
    · exact h1 (pla_trans h3 (by omega))
theorem flat_get (d:Array En) (i r:Nat) (hi:i < d.size) (hr:r < 4):(Sort.flatK encE 4 d)[i*4+r]! =(encE d[i]!)[r]!:=by
  rw [Sort.get_flatK encE 4 d (i*4+r) (by omega),show (i*4+r) / 4=i by omega,show (i*4+r) % 4=r by omega]
theorem holds_of_row {w:World} {base:Nat} {e:TypeId} {A:Option Addr} {c:Nat} {es:List En} (h:w.ownsRow base e 4 (.slice A es.length c) es.length (es.flatMap encE)) (hne:0 < es.length) :
    ∃g,A=some ⟨g,0,none⟩∧base≤g∧g < w.heap.size∧Sort.HoldsK encE 4 w g 0 es.toArray:=by
  obtain ⟨_,hh|⟨g,cap,cur,hv,hg,hb,_,_,_,htk⟩⟩:=h
  · omega
  · injection hv with h1 _ _
    subst h1
    refine ⟨g,rfl,hg,(Array.getElem?_eq_some_iff.1 hb).1,fun t ht=>⟨?_,by simp [World.frozen?,hb]⟩⟩
    rw [Sort.size_flatK] at ht
    have hts:t / 4 < es.length:=by simp at ht;omega
    obtain ⟨h0,h1,h2,h3⟩:=encE_get es (t / 4) hts
    have hfl:=flat_get es.toArray (t / 4) (t % 4) (by simpa using hts) (by omega)
    rw [show t / 4*4+t % 4=t by omega] at hfl
    rw [hfl,Nat.zero_add,World.cell?,hb]
    have hd:es.toArray[t / 4]! =es[t / 4]:=by simp [hts]
    rw [hd]
    rw [←htk,List.getElem?_take,if_pos (by omega)] at h0 h1 h2 h3
    have hr:t % 4=0∨t % 4=1∨t % 4=2∨t % 4=3:=by omega
    rcases hr with hr|hr|hr|hr
    · rw [show t / 4*4=t by omega] at h0
      rw [hr];simpa [encE] using h0
    · rw [show t / 4*4+1=t by omega] at h1
      rw [hr];simpa [encE] using h1
    · rw [show t / 4*4+2=t by omega] at h2
      rw [hr];simpa [encE] using h2
    · rw [show t / 4*4+3=t by omega] at h3
      rw [hr];simpa [encE] using h3
section
variable {w:World} {g n:Nat} {d d':Array En} {os:Array Obj}
theorem sw_block (b:Nat) (hb:b < w.heap.size) (hne:b≠g):(sortWorldK encE 4 w g 0 n d' os).heap[b]?=w.heap[b]?:=by
  unfold sortWorldK Sort.putRowK Sort.putRow Sort.mapBlock Sort.grow Sort.ahead
  simp only
  rw [Array.getElem?_append_left (by simpa using hb),Array.getElem?_modify,if_neg (fun e=>hne e.symm)]
theorem sw_size:w.heap.size≤(sortWorldK encE 4 w g 0 n d' os).heap.size:=by
  unfold sortWorldK Sort.putRowK Sort.putRow Sort.mapBlock Sort.grow Sort.ahead
  simp
theorem sw_below {B:Nat} (hB:B≤g) (hw:B≤w.heap.size):Below B w (sortWorldK encE 4 w g 0 n d' os) :=
  ⟨rfl,rfl,rfl,sw_size,fun b hb=>sw_block b (by omega) (by omega)⟩
theorem sw_evs (hH:Sort.HoldsK encE 4 w g 0 d) (hs:d'.size=d.size) (hg:g < w.heap.size):EvsIn (sortWorldK encE 4 w g 0 n d' os) g (g+1) (some ⟨g,0,none⟩) d'.toList:=fun hl=>by
  refine ⟨g,0,rfl,Nat.le_refl _,by omega,fun i hi=>?_⟩
  have hi':i < d'.size:=by simpa using hi
  have hc:∀r,r < 4→(sortWorldK encE 4 w g 0 n d' os).cell? ⟨g,i*4+r,none⟩=some (encE d'[i]!)[r]!:=fun r hr=>by
    have h1:=Sort.cell?_putRow id (Sort.ahead w n) g 0 (Sort.flatK encE 4 d) (Sort.flatK encE 4 d') hH (by rw [Sort.size_flatK,Sort.size_flatK,hs]) (i*4+r) (by rw [Sort.size_flatK];omega)
    rw [Nat.zero_add,flat_get d' i r hi' hr] at h1
    refine Eq.trans (World.cell?_of_block ?_) h1
    show (Sort.grow (Sort.putRowK encE 4 (Sort.ahead w n) g 0 d') os).heap[g]?=(Sort.putRowK encE 4 (Sort.ahead w n) g 0 d').heap[g]?
    unfold Sort.grow
    simp only
    rw [Array.getElem?_append_left]
    unfold Sort.putRowK Sort.putRow Sort.mapBlock Sort.ahead
    simpa using hg
  have hd:d'[i]! =d'.toList[i]:=by simp [hi']
  rw [hd] at hc
  rw [Nat.zero_add]
  exact ⟨hc 0 (by omega),hc 1 (by omega),hc 2 (by omega),hc 3 (by omega)⟩
end
end Go.Proofs.YtckajeippfpojaaGreat
namespace Go.Proofs.YtckajeippfpojaaGreat
open Go.RowKit Go.Maps
set_option maxRecDepth 100000
theorem Tryz.isAggE (w:World):(isAgg 192).run Tryz.prog w=.ok true w:=by kernel_rfl
theorem Tryz.sizeOfE (w:World):(Go.sizeOf 192).run Tryz.prog w=.ok 4 w:=by kernel_rfl
theorem sorted_pair (d:Array En) (h:Sort.SortedIn (Go.Proofs.ltOf plaV) 0 d.size d):d.toList.Pairwise fun e f=>¬ plaV f e < 0:=by
  rw [List.pairwise_iff_getElem]
  intro i j hi hj hij
  have h1:=h i j (Nat.zero_le _) hij (by simpa using hj)
  have e1:d[i]! =d.toList[i]:=by simp at hi;simp [hi]
  have e2:d[j]! =d.toList[j]:=by simp at hj;simp [hj]
  rw [e1,e2] at h1
  unfold Go.Proofs.ltOf at h1
  simpa using h1
set_option maxHeartbeats 1000000 in
theorem sortFunc_any (es:List En) (A:Option Addr) (c base:Nat) (w:World) (hown:w.ownsRow base 192 4 (.slice A es.length c) es.length (es.flatMap encE)) (hne:0 < es.length) (hn:es.length≤1000) :
    Calls Tryz.prog 185 #[.slice A es.length c,.func (.func 186) #[] #[]] w fun e w'=>e=.returned (.tuple #[]) ∧
      ∃(es':List En) (g:Nat),es'.Perm es∧(es'.Pairwise fun e f=>¬ plaV f e < 0)∧A=some ⟨g,0,none⟩∧base≤g∧g < w.heap.size∧EvsIn w' g (g+1) A es'∧(∀b,b < w.heap.size→b≠g→w'.heap[b]?=w.heap[b]?)∧w.heap.size≤w'.heap.size∧∀B,B≤base→B≤w.heap.size→Below B w w':=by
  obtain ⟨g,rfl,hbg,hgs,hH⟩:=holds_of_row hown hne
  have eg:∀args w,(callFunc 186 args).run Tryz.prog w=.ok (.enter 186 args) w:=enters_of Tryz.func186 (by kernel_rfl) rfl
  have hcon:=AnyQ.slices_SortFunc sortEnt 4 Tryz.isAggE Tryz.sizeOfE encE (fun _=>rfl) (fun x v hv=>by simp [encE] at hv;rcases hv with rfl|rfl|rfl|rfl <;> rfl) plaV pla_swo 186 #[] g 0 c es.toArray w eg
    (fun _ _ _ _ x y=>byPlace_grow x y _) hH hgs (by simp;omega)
  change Calls Tryz.prog 185 _ _ _ at hcon
  rw [List.size_toArray] at hcon
  refine hcon.mono ?_
  rintro e w' ⟨rfl,d',n,os,hp,hs,rfl⟩
  obtain ⟨hsz,_,hpm⟩:=hp
  have hsz':d'.size=es.toArray.size:=hsz
  have hpm':d'.toList.Perm es:=by
    have h:=hpm
    rw [Array.extract_eq_self_of_le (by simp [hsz']),Array.extract_eq_self_of_le (by simp)] at h
    simpa using h
  refine ⟨rfl,d'.toList,g,hpm',sorted_pair d' (by rw [hsz'];simpa using hs),rfl,hbg,hgs,sw_evs hH hsz' hgs,fun b hb hne=>sw_block b hb hne,sw_size,fun B h1 h2=>sw_below (by omega) h2⟩
end Go.Proofs.YtckajeippfpojaaGreat
namespace Go.Proofs.YtckajeippfpojaaGreat
open Go.RowKit Go.Maps
set_option maxRecDepth 100000
def NewOrd (a b c d:Int) (es:List En) (A:Option Addr) (cap base:Nat) (w:World) (e:Ending) (w':World):Prop :=
  ∃es':List En,es'.Perm es∧(es'.Pairwise fun e f=>0≤plaV f e)∧e=.returned (.tuple #[.agg #[.int .i64 a,.int .i64 b,.int .i64 c,.int .i64 d,.slice A es.length cap],.bool (tokB a b c d es')])∧EvsIn w' base w'.heap.size A es'∧w.heap.size≤w'.heap.size∧Below base w w'
set_option maxHeartbeats 4000000 in
theorem ordered_any (x0 x1 x2 x3:Int) (es:List En) (A:Option Addr) (cap base:Nat) (w:World) (hown:w.ownsRow base 192 4 (.slice A es.length cap) es.length (es.flatMap encE)) (hne:0 < es.length) (hn:es.length≤1000) :
    Calls Tryz.prog 144 #[.agg #[.int .i64 x0,.int .i64 x1,.int .i64 x2,.int .i64 x3,.slice A es.length cap]] w (NewOrd x0 x1 x2 x3 es A cap base w):=by
  obtain ⟨g,rfl,hbg,hgs,_⟩:=holds_of_row hown hne
  go_enter Tryz.func144,Tryz.ntmps144
  obtain ⟨W0,hW0⟩:∃W0,W0=w.alloc (.cells #[.int .i64 x0,.int .i64 x1,.int .i64 x2,.int .i64 x3,.slice (some ⟨g,0,none⟩) es.length cap] 101):=⟨_,rfl⟩
  obtain ⟨W,hW⟩:∃W,W=W0.alloc (.cells #[.int .i64 0,.int .i64 0,.int .i64 0,.int .i64 0,.slice none 0 0] 101):=⟨_,rfl⟩
  have hz0:W0.heap.size=w.heap.size+1:=by rw [hW0];simp
  have hz:w.heap.size+1 < W.heap.size:=by rw [hW];simp [hz0]
  have HOwn:=hd' (show W.ownsRow base 192 4 (.slice (some ⟨g,0,none⟩) es.length cap) es.length (es.flatMap encE) by rw [hW,hW0];exact (hown.alloc _).alloc _)
  have HX:=hd' (show Bx W w.heap.size [.int .i64 x0,.int .i64 x1,.int .i64 x2,.int .i64 x3,.slice (some ⟨g,0,none⟩) es.length cap] by rw [hW];exact Bx.alloc (by rw [hW0];exact Bx.new' _ _ _ _ rfl) (by omega) _)
  have HY:=hd' (show Bx W (w.heap.size+1) [.int .i64 0,.int .i64 0,.int .i64 0,.int .i64 0,.slice none 0 0] by rw [hW,←hz0];exact Bx.new' _ _ _ _ rfl)
  have HF:=hd' (show ∀o,W.frozen? ⟨w.heap.size+1,o,none⟩=false from fun o=>by rw [hW,hW0];exact (((Fresh.refl w).alloc _ _).alloc _ _) ⟨w.heap.size+1,o,none⟩ (by show w.heap.size≤w.heap.size+1;omega))
  have HBel:=hd' (show Below w.heap.size w W by rw [hW,hW0];exact ((Below.refl _ _).alloc (Nat.le_refl _) _).alloc (by simp) _)
  have i4:W.cell? ⟨w.heap.size,4,none⟩=some (.slice (some ⟨g,0,none⟩) es.length cap):=HX.out 4 (by simp)
  clear hown
  go_upto_region 1 with fail
  rw [←hW0,←hW]
  clear hW hW0 hz0
  go_wp2_with fail
  refine (sortFunc_any es (some ⟨g,0,none⟩) cap base W HOwn.out hne hn).mono ?_
  rintro e ws ⟨rfl,es',g',hpm,hpw,hgg,_,_,hev,hblk,hsz,hbel⟩
  have hge:g'=g:=by injection hgg with h;injection h with h1;exact h1.symm
  subst hge
  clear hgg i4
  have hl:es'.length=es.length:=hpm.length_eq
  have HPm:=hd' hpm
  have HPw:=hd' hpw
  have HEv:=hd' hev
  have HBs:=hd' (show Below base w ws from (HBel.out.mono (by omega)).trans (hbel base (Nat.le_refl _) (by omega)))
  have HCell:=hd' (show ∀p:Addr,p.block < W.heap.size→p.block≠g'→ws.cell? p=W.cell? p from fun p h1 h2=>World.cell?_of_block (hblk _ h1 h2))
  have HFz:=hd' (show ∀p:Addr,p.block < W.heap.size→p.block≠g'→ws.frozen? p=W.frozen? p from fun p h1 h2=>World.frozen?_of_block (hblk _ h1 h2))
  have lne:w.heap.size≠w.heap.size+1:=by omega
  have lS:w.heap.size+1 < ws.heap.size:=by omega
  have hPack:∀wt,Below ws.heap.size ws wt →
      (wt.cell? ⟨w.heap.size,0,none⟩=some (.int .i64 x0)∧wt.cell? ⟨w.heap.size,1,none⟩=some (.int .i64 x1)∧wt.cell? ⟨w.heap.size,2,none⟩=some (.int .i64 x2)∧wt.cell? ⟨w.heap.size,3,none⟩=some (.int .i64 x3)∧wt.cell? ⟨w.heap.size,4,none⟩=some (.slice (some ⟨g',0,none⟩) es.length cap)) ∧
      (wt.cell? ⟨w.heap.size+1,0,none⟩=some (.int .i64 0)∧wt.cell? ⟨w.heap.size+1,1,none⟩=some (.int .i64 0)∧wt.cell? ⟨w.heap.size+1,2,none⟩=some (.int .i64 0)∧wt.cell? ⟨w.heap.size+1,3,none⟩=some (.int .i64 0)∧wt.cell? ⟨w.heap.size+1,4,none⟩=some (.slice none 0 0)) ∧
      (∀o,wt.frozen? ⟨w.heap.size+1,o,none⟩=false):=by
    intro wt hbt
    have hX:∀o,wt.cell? ⟨w.heap.size,o,none⟩=W.cell? ⟨w.heap.size,o,none⟩:=fun o=>(hbt.cell (p:=⟨w.heap.size,o,none⟩) (by show w.heap.size < _;omega)).trans (HCell.out _ (by show w.heap.size < _;omega) (by show w.heap.size≠_;omega))
    have hY:∀o,wt.cell? ⟨w.heap.size+1,o,none⟩=W.cell? ⟨w.heap.size+1,o,none⟩:=fun o=>(hbt.cell (p:=⟨w.heap.size+1,o,none⟩) (by show w.heap.size+1 < _;omega)).trans (HCell.out _ (by show w.heap.size+1 < _;omega) (by show w.heap.size+1≠_;omega))
    exact ⟨⟨(hX 0).trans (HX.out 0 (by simp)),(hX 1).trans (HX.out 1 (by simp)),(hX 2).trans (HX.out 2 (by simp)),(hX 3).trans (HX.out 3 (by simp)),(hX 4).trans (HX.out 4 (by simp))⟩,
      ⟨(hY 0).trans (HY.out 0 (by simp)),(hY 1).trans (HY.out 1 (by simp)),(hY 2).trans (HY.out 2 (by simp)),(hY 3).trans (HY.out 3 (by simp)),(hY 4).trans (HY.out 4 (by simp))⟩,
      fun o=>(hbt.frozen (p:=⟨w.heap.size+1,o,none⟩) (by show w.heap.size+1 < _;omega)).trans ((HFz.out _ (by show w.heap.size+1 < _;omega) (by show w.heap.size+1≠_;omega)).trans (HF.out o))⟩
  obtain ⟨⟨g0,g1,g2,g3,g4⟩,_,_⟩:=hPack ws (Below.refl _ _)
  have HPack:=hd' hPack
  have HE0:=hd' (show EvsIn ws 0 ws.heap.size (some ⟨g',0,none⟩) es' from (hev.low (Nat.zero_le _)).mono (by omega))
  obtain ⟨tb,htb⟩:∃tb,tb=tokB x0 x1 x2 x3 es':=⟨_,rfl⟩
  have HTk:=hd' (show ∀X:World,EvsIn X 0 X.heap.size (some ⟨g',0,none⟩) es'→Calls Tryz.prog 176 #[.agg #[.int .i64 x0,.int .i64 x1,.int .i64 x2,.int .i64 x3,.slice (some ⟨g',0,none⟩) es.length cap]] X fun r w'=>r=.returned (.bool tb)∧Below X.heap.size X w' from fun X hX=>by
    have h:=tok_any x0 x1 x2 x3 (some ⟨g',0,none⟩) es' cap X hX (by omega)
    rw [hl,←htb] at h
    exact h)
  have HTb:=hd' htb
  clear hPack htb hpm hpw hev hblk hbel HX HY HF HOwn HCell HFz hl
  go_wp2_with fail
  go_region_held3 (fun X=>X.cell? ⟨w.heap.size,0,none⟩=some (.int .i64 x0)∧X.cell? ⟨w.heap.size,1,none⟩=some (.int .i64 x1)∧X.cell? ⟨w.heap.size,2,none⟩=some (.int .i64 x2)∧X.cell? ⟨w.heap.size,3,none⟩=some (.int .i64 x3)∧X.cell? ⟨w.heap.size,4,none⟩=some (.slice (some ⟨g',0,none⟩) es.length cap))
    (first|with_reducible exact ⟨g0,g1,g2,g3,g4⟩|with_reducible exact ⟨s0,s1,s2,s3,s4⟩|with_reducible exact ⟨(other5 lne).trans s0,(other5 lne).trans s1,(other5 lne).trans s2,(other5 lne).trans s3,(other5 lne).trans s4⟩|with_reducible exact ⟨(cell_drew _ _).trans g0,(cell_drew _ _).trans g1,(cell_drew _ _).trans g2,(cell_drew _ _).trans g3,(cell_drew _ _).trans g4⟩)
    (first
      | (go_at_call 176
         refine (HTk.out _ ?_).mono ?_
         · exact HE0.out.keep fun p _ hp=>rfl
         rintro r wt ⟨rfl,hbt⟩
         have hbrt:Below ws.heap.size ws wt:=by first|with_reducible exact hbt|exact (Below.refl ws.heap.size ws).drew.trans hbt
         obtain ⟨⟨s0,s1,s2,s3,s4⟩,⟨y0,y1,y2,y3,y4⟩,f0⟩:=HPack.out wt hbrt
         have HRt:=hd' hbrt
         clear hbt hbrt))
  have hy:=set5_get (v0:=.int .i64 x0) (v1:=.int .i64 x1) (v2:=.int .i64 x2) (v3:=.int .i64 x3) (v4':=.slice (some ⟨g',0,none⟩) es.length cap) y0 y1 y2 y3 y4
  have hb9:=below_set5 (HBs.out.trans (HRt.out.mono (by omega))) (b:=w.heap.size+1) (by omega) (.int .i64 x0) (.int .i64 x1) (.int .i64 x2) (.int .i64 x3) (.slice (some ⟨g',0,none⟩) es.length cap)
  have hz9:=HRt.out.size
  have he9:EvsIn _ g' (g'+1) (some ⟨g',0,none⟩) es':=(HEv.out.keep fun p _ hp=>HRt.out.cell (by omega)).keep (w':=((((wt.setCell ⟨w.heap.size+1,0,none⟩ (.int .i64 x0)).setCell ⟨w.heap.size+1,1,none⟩ (.int .i64 x1)).setCell ⟨w.heap.size+1,2,none⟩ (.int .i64 x2)).setCell ⟨w.heap.size+1,3,none⟩ (.int .i64 x3)).setCell ⟨w.heap.size+1,4,none⟩ (.slice (some ⟨g',0,none⟩) es.length cap)) fun p hp hp2=>by
    have hne:p.block≠w.heap.size+1:=by omega
    exact cell_other' hne
  have hz9':ws.heap.size≤(((((wt.setCell ⟨w.heap.size+1,0,none⟩ (.int .i64 x0)).setCell ⟨w.heap.size+1,1,none⟩ (.int .i64 x1)).setCell ⟨w.heap.size+1,2,none⟩ (.int .i64 x2)).setCell ⟨w.heap.size+1,3,none⟩ (.int .i64 x3)).setCell ⟨w.heap.size+1,4,none⟩ (.slice (some ⟨g',0,none⟩) es.length cap)).heap.size:=by simp;omega
  clear y0 y1 y2 y3 y4 s0 s1 s2 s3 s4
  obtain ⟨W9,hW9⟩:∃W9,W9=((((wt.setCell ⟨w.heap.size+1,0,none⟩ (.int .i64 x0)).setCell ⟨w.heap.size+1,1,none⟩ (.int .i64 x1)).setCell ⟨w.heap.size+1,2,none⟩ (.int .i64 x2)).setCell ⟨w.heap.size+1,3,none⟩ (.int .i64 x3)).setCell ⟨w.heap.size+1,4,none⟩ (.slice (some ⟨g',0,none⟩) es.length cap):=⟨_,rfl⟩
  rw [←hW9] at hy hb9 he9 hz9' ⊢
  clear hW9
  have r0:=hy 0 (by simp)
  have r1:=hy 1 (by simp)
  have r2:=hy 2 (by simp)
  have r3:=hy 3 (by simp)
  have r4:=hy 4 (by simp)
  simp only [List.getElem_cons_succ,List.getElem_cons_zero] at r0 r1 r2 r3 r4
  have HB9:=hd' hb9
  have HE9:=hd' he9
  clear hy hb9 he9
  go_wp2_with fail
  refine bodyPost_ret (v:=.tuple #[.agg #[.int .i64 x0,.int .i64 x1,.int .i64 x2,.int .i64 x3,.slice (some ⟨g',0,none⟩) es.length cap],.bool tb]) (by simp [results,Tryz.results144,r0,r1,r2,r3,r4,go_sem]) rfl ?_
  exact ⟨es',HPm.out,HPw.out,by rw [HTb.out],(HE9.out.low hbg).mono (by omega),by omega,HB9.out⟩
end Go.Proofs.YtckajeippfpojaaGreat
