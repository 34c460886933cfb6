import Derived.Test.YtckajeippfpojaaGreatZqTokI
import Derived.Test.YtckajeippfpojaaGreatZqGVec
import Derived.Test.YtckajeippfpojaaGreatZqNameS
namespace Go.Proofs.YtckajeippfpojaaGreat
open Go.RowKit Go.Maps
def treeB (vec:List Int) (es:List En):Bool:=vecB vec && decide (es.length≤12) && es.all (fun e=>nameB e.name) && tokB (vec.getD 0 0) (vec.getD 1 0) (vec.getD 2 0) (vec.getD 3 0) es
def RdTree (vec:List Int) (es:List En) (w:World) (e:Ending) (w':World):Prop :=
  ∃(a b c d:Int) (A:Option Addr) (n cap:Nat),e=.returned (.tuple #[.agg #[.int .i64 a,.int .i64 b,.int .i64 c,.int .i64 d,.slice A n cap],.bool (treeB vec es)]) ∧
    (treeB vec es=true→vec=[a,b,c,d]∧n=es.length∧EvsIn w' w.heap.size w'.heap.size A es)∧Below w.heap.size w w'
def encE (e:En):List Value:=[.string ⟨e.name.toArray⟩,.int .i64 e.val,.int .i64 e.dev,.int .i64 e.num]
theorem Tryz.infoEnt:(Tryz.prog.info? 192).map (fun i=>(i.zero,i.size,i.bytes))=some (some (.agg #[.string ⟨#[]⟩,.int .i64 0,.int .i64 0,.int .i64 0]),4,40):=by kernel_rfl
theorem encE_get (es:List En) (i:Nat) (hi:i < es.length):(es.flatMap encE)[i*4]?=some (.string ⟨es[i].name.toArray⟩)∧(es.flatMap encE)[i*4+1]?=some (.int .i64 es[i].val)∧(es.flatMap encE)[i*4+2]?=some (.int .i64 es[i].dev)∧(es.flatMap encE)[i*4+3]?=some (.int .i64 es[i].num):=by
  induction es generalizing i with
  | nil=>simp at hi
  | cons e es ih =>
    rw [List.flatMap_cons]
    cases i with
    | zero=>simp [encE]
    | succ i =>
      obtain ⟨h0,h1,h2,h3⟩:=ih i (by simpa using hi)
      have hl:(encE e).length=4:=rfl
      simp only [List.getElem_cons_succ]
      refine ⟨?_,?_,?_,?_⟩
      · rw [List.getElem?_append_right (by omega),show (i+1)*4 - (encE e).length=i*4 by omega];exact h0
      · rw [List.getElem?_append_right (by omega),show (i+1)*4+1 - (encE e).length=i*4+1 by omega];exact h1
      · rw [List.getElem?_append_right (by omega),show (i+1)*4+2 - (encE e).length=i*4+2 by omega];exact h2
      · rw [List.getElem?_append_right (by omega),show (i+1)*4+3 - (encE e).length=i*4+3 by omega];exact h3
theorem evs_of_row {w:World} {base:Nat} {e:TypeId} {A:Option Addr} {c:Nat} {es:List En} (h:w.ownsRow base e 4 (.slice A es.length c) es.length (es.flatMap encE)):EvsIn w base w.heap.size A es:=fun hl=>by
  obtain ⟨_,hh|⟨g,cap,cur,hv,hg,hb,_,_,_,htk⟩⟩:=h
  · omega
  · injection hv with h1 _ _
    subst h1
    refine ⟨g,0,rfl,hg,(Array.getElem?_eq_some_iff.1 hb).1,fun i hi=>?_⟩
    obtain ⟨h0,h1,h2,h3⟩:=encE_get es i hi
    rw [←htk,List.getElem?_take,if_pos (by omega)] at h0 h1 h2 h3
    rw [Nat.zero_add]
    exact ⟨by rw [World.cell?,hb];simpa using h0,by rw [World.cell?,hb];simpa using h1,by rw [World.cell?,hb];simpa using h2,by rw [World.cell?,hb];simpa using h3⟩
theorem set5_get {w:World} {b:Nat} {o0 o1 o2 o3 o4 v0 v1 v2 v3 v4':Value} (h0:w.cell? ⟨b,0,none⟩=some o0) (h1:w.cell? ⟨b,1,none⟩=some o1) (h2:w.cell? ⟨b,2,none⟩=some o2) (h3:w.cell? ⟨b,3,none⟩=some o3) (h4:w.cell? ⟨b,4,none⟩=some o4) :
    Bx (((((w.setCell ⟨b,0,none⟩ v0).setCell ⟨b,1,none⟩ v1).setCell ⟨b,2,none⟩ v2).setCell ⟨b,3,none⟩ v3).setCell ⟨b,4,none⟩ v4') b [v0,v1,v2,v3,v4']:=by
  intro j hj
  have:j=0∨j=1∨j=2∨j=3∨j=4:=by simp at hj;omega
  rcases this with rfl|rfl|rfl|rfl|rfl
  · rw [World.cell?_setCell_other _ _ _ _ (by simp),World.cell?_setCell_other _ _ _ _ (by simp),World.cell?_setCell_other _ _ _ _ (by simp),World.cell?_setCell_other _ _ _ _ (by simp)]
    exact World.cell?_setCell_same _ _ _ h0
  · rw [World.cell?_setCell_other _ _ _ _ (by simp),World.cell?_setCell_other _ _ _ _ (by simp),World.cell?_setCell_other _ _ _ _ (by simp)]
    exact World.cell?_setCell_same _ _ _ ((World.cell?_setCell_other _ _ _ _ (by simp)).trans h1)
  · rw [World.cell?_setCell_other _ _ _ _ (by simp),World.cell?_setCell_other _ _ _ _ (by simp)]
    exact World.cell?_setCell_same _ _ _ ((World.cell?_setCell_other _ _ _ _ (by simp)).trans ((World.cell?_setCell_other _ _ _ _ (by simp)).trans h2))
  · rw [World.cell?_setCell_other _ _ _ _ (by simp)]
    exact World.cell?_setCell_same _ _ _ ((World.cell?_setCell_other _ _ _ _ (by simp)).trans ((World.cell?_setCell_other _ _ _ _ (by simp)).trans ((World.cell?_setCell_other _ _ _ _ (by simp)).trans h3)))
  · exact World.cell?_setCell_same _ _ _ ((World.cell?_setCell_other _ _ _ _ (by simp)).trans ((World.cell?_setCell_other _ _ _ _ (by simp)).trans ((World.cell?_setCell_other _ _ _ _ (by simp)).trans ((World.cell?_setCell_other _ _ _ _ (by simp)).trans h4))))
theorem cell_drew (w:World) (a:Addr):w.drew.cell? a=w.cell? a:=rfl
theorem other5 {w:World} {b b' o:Nat} {v0 v1 v2 v3 v4':Value} (hb:b'≠b) :
    (((((w.setCell ⟨b,0,none⟩ v0).setCell ⟨b,1,none⟩ v1).setCell ⟨b,2,none⟩ v2).setCell ⟨b,3,none⟩ v3).setCell ⟨b,4,none⟩ v4').cell? ⟨b',o,none⟩=w.cell? ⟨b',o,none⟩ :=
  ((((cell_other hb).trans (cell_other hb)).trans (cell_other hb)).trans (cell_other hb)).trans (cell_other hb)
theorem cell_other' {w:World} {b:Nat} {p:Addr} {v0 v1 v2 v3 v4':Value} (hb:p.block≠b) :
    (((((w.setCell ⟨b,0,none⟩ v0).setCell ⟨b,1,none⟩ v1).setCell ⟨b,2,none⟩ v2).setCell ⟨b,3,none⟩ v3).setCell ⟨b,4,none⟩ v4').cell? p=w.cell? p:=by
  have h:∀(W:World) (o:Nat) (v:Value),(W.setCell ⟨b,o,none⟩ v).cell? p=W.cell? p:=fun W o v=>World.cell?_setCell_other _ _ _ _ (fun e=>hb (by rw [←e]))
  rw [h,h,h,h,h]
theorem below_set5 {B:Nat} {a w:World} (h:Below B a w) {b:Nat} (hB:B≤b) (v0 v1 v2 v3 v4':Value) :
    Below B a (((((w.setCell ⟨b,0,none⟩ v0).setCell ⟨b,1,none⟩ v1).setCell ⟨b,2,none⟩ v2).setCell ⟨b,3,none⟩ v3).setCell ⟨b,4,none⟩ v4') :=
  ((((h.setCell hB _).setCell hB _).setCell hB _).setCell hB _).setCell hB _
theorem new4 (w:World) (v0 v1 v2 v3:Value) (t:TypeId):∀j u,[v0,v1,v2,v3][j]?=some u→(w.alloc (.cells #[v0,v1,v2,v3] t)).cell? ((⟨w.heap.size,0,none⟩:Addr).add j)=some u:=by
  intro j u hu
  have hj:=(List.getElem?_eq_some_iff.1 hu).1
  have:j=0∨j=1∨j=2∨j=3:=by simp at hj;omega
  rw [Addr.add_lit]
  rcases this with rfl|rfl|rfl|rfl <;> simp at hu <;> subst hu <;> simp
theorem treeB_name {vec:List Int} {es:List En} {k:Nat} (hk:k < es.length) (h:nameB es[k].name=false):treeB vec es=false:=by
  unfold treeB
  rw [Bool.and_eq_false_iff]
  refine .inl ?_
  rw [Bool.and_eq_false_iff]
  refine .inr ?_
  rw [List.all_eq_false]
  exact ⟨es[k],List.getElem_mem hk,by simp [h]⟩
theorem vecVal_four {vec:List Int} {a b c d:Int} (h:vecVal vec=v4 a b c d) (hv:vecB vec=true):vec=[a,b,c,d]:=by
  obtain ⟨x0,x1,x2,x3,rfl⟩:=vecB_four hv
  simp [vecVal,v4l,v4] at h
  obtain ⟨rfl,rfl,rfl,rfl⟩:=h
  rfl
set_option maxRecDepth 100000 in
set_option maxHeartbeats 4000000 in
theorem readTree_any (AV:Option Addr) (vec:List Int) (cv:Nat) (A:Option Addr) (es:List En) (c:Nat) (w:World) (hV:IntsIn w 0 w.heap.size AV vec) (hA:EnsIn w 0 w.heap.size A es) (hn:es.length≤1048576) (hbk:ebulk es≤1048576) :
    Calls Tryz.prog 116 #[.agg #[.slice AV vec.length cv,.slice A es.length c]] w (RdTree vec es w):=by
  have HV:=hd' hV
  have HA:=hd' hA
  clear hV hA
  have HTr:=hd' (show treeB vec es=(vecB vec && decide (es.length≤12) && es.all (fun e=>nameB e.name) && tokB (vec.getD 0 0) (vec.getD 1 0) (vec.getD 2 0) (vec.getD 3 0) es) from rfl)
  obtain ⟨x0,x1,x2,x3,hvv⟩:=vecVal_shape vec
  have HVv:=hd' hvv
  have hrv:=fun W hW=>readVec_any AV vec cv W hW
  rw [hvv] at hrv
  unfold v4 at hrv
  have HRv:=hd' hrv
  clear hvv hrv
  go_enter Tryz.func116,Tryz.ntmps116
  go_wp2_with fail
  obtain ⟨W0,hW0⟩:∃W0,W0=w.alloc (.cells #[.slice AV vec.length cv,.slice A es.length c] 38):=⟨_,rfl⟩
  obtain ⟨W,hW⟩:∃W,W=W0.alloc (.cells #[.int .i64 0,.int .i64 0,.int .i64 0,.int .i64 0,.slice none 0 0] 101):=⟨_,rfl⟩
  have hz0:W0.heap.size=w.heap.size+1:=by rw [hW0];simp
  have hz:W.heap.size=w.heap.size+2:=by rw [hW];simp [hz0]
  have HX:=hd' (show Bx W w.heap.size [.slice AV vec.length cv,.slice A es.length c] by rw [hW,hW0];exact Bx.alloc (Bx.new' _ _ _ _ rfl) (by simp) _)
  have HY:=hd' (show Bx W (w.heap.size+1) [.int .i64 0,.int .i64 0,.int .i64 0,.int .i64 0,.slice none 0 0] by rw [hW,←hz0];exact Bx.new' _ _ _ _ rfl)
  have HFr:=hd' (show ∀o,W.frozen? ⟨w.heap.size+1,o,none⟩=false from fun o=>by rw [hW,hW0];exact (((Fresh.refl w).alloc _ _).alloc _ _) ⟨w.heap.size+1,o,none⟩ (by show w.heap.size≤w.heap.size+1;omega))
  have HBel:=hd' (show Below w.heap.size w W by rw [hW,hW0];exact ((Below.refl _ _).alloc (Nat.le_refl _) _).alloc (by simp) _)
  rw [←hW0,←hW]
  have hzW:w.heap.size+1 < W.heap.size:=by omega
  clear hW hW0 hz0 hz
  refine (HRv.out W ((HV.out.keep fun p _ hp=>HBel.out.cell hp).mono (by omega))).mono ?_
  rintro r w1 ⟨rfl,hb1⟩
  have HX1:=hd' (HX.out.below hb1 (by omega))
  have HY1:=hd' (HY.out.below hb1 (by omega))
  have HFr1:=hd' (show ∀o,w1.frozen? ⟨w.heap.size+1,o,none⟩=false from fun o=>(hb1.frozen (by show w.heap.size+1 < _;omega)).trans (HFr.out o))
  have hz1:=hb1.size
  have HB1:=hd' (HBel.out.trans (hb1.mono (by omega)))
  clear hb1 HX HY HFr
  cases hv:vecB vec with
  | false =>
    have HT:=hd' (show treeB vec es=false by rw [HTr.out,hv];simp)
    clear hv
    have y0:=HY1.out 0 (by simp)
    have y1:=HY1.out 1 (by simp)
    have y2:=HY1.out 2 (by simp)
    have y3:=HY1.out 3 (by simp)
    have y4:=HY1.out 4 (by simp)
    simp only [List.getElem_cons_succ,List.getElem_cons_zero] at y0 y1 y2 y3 y4
    have f0:=HFr1.out
    have lq:w.heap.size+1 < w1.heap.size:=by omega
    go_wp2_with fail
    have hy:=set5_get (v0:=.int .i64 0) (v1:=.int .i64 0) (v2:=.int .i64 0) (v3:=.int .i64 0) (v4':=.slice none 0 0) y0 y1 y2 y3 y4
    have hb9:=below_set5 HB1.out (b:=w.heap.size+1) (by omega) (.int .i64 0) (.int .i64 0) (.int .i64 0) (.int .i64 0) (.slice none 0 0)
    obtain ⟨W9,hW9⟩:∃W9,W9=((((w1.setCell ⟨w.heap.size+1,0,none⟩ (.int .i64 0)).setCell ⟨w.heap.size+1,1,none⟩ (.int .i64 0)).setCell ⟨w.heap.size+1,2,none⟩ (.int .i64 0)).setCell ⟨w.heap.size+1,3,none⟩ (.int .i64 0)).setCell ⟨w.heap.size+1,4,none⟩ (.slice none 0 0):=⟨_,rfl⟩
    have hs9:W9.heap.size=w1.heap.size:=by rw [hW9];simp
    rw [←hW9] at hy hb9 ⊢
    obtain ⟨W10,hW10⟩:∃W10,W10=W9.alloc (.cells #[.int .i64 x0,.int .i64 x1,.int .i64 x2,.int .i64 x3] 98):=⟨_,rfl⟩
    have hy':Bx W10 (w.heap.size+1) [.int .i64 0,.int .i64 0,.int .i64 0,.int .i64 0,.slice none 0 0]:=by rw [hW10];exact hy.alloc (by omega) _
    have hb10:Below w.heap.size w W10:=by rw [hW10];exact hb9.alloc (by omega) _
    rw [←hW10]
    have r0:=hy' 0 (by simp)
    have r1:=hy' 1 (by simp)
    have r2:=hy' 2 (by simp)
    have r3:=hy' 3 (by simp)
    have r4:=hy' 4 (by simp)
    simp only [List.getElem_cons_succ,List.getElem_cons_zero] at r0 r1 r2 r3 r4
    refine bodyPost_ret (v:=.tuple #[.agg #[.int .i64 0,.int .i64 0,.int .i64 0,.int .i64 0,.slice none 0 0],.bool false]) (by simp [results,Tryz.results116,r0,r1,r2,r3,r4,go_sem]) rfl ?_
    exact ⟨0,0,0,0,none,0,0,by rw [HT.out],fun h=>(by rw [HT.out] at h;cases h),hb10⟩
  | true =>
  have HVt:=hd' hv
  have x1c:=HX1.out 1 (by simp)
  simp only [List.getElem_cons_succ,List.getElem_cons_zero] at x1c
  have lq0:w.heap.size < w1.heap.size:=by omega
  by_cases h12:(12:Int) < es.length
  · have HT:=hd' (show treeB vec es=false by rw [HTr.out];simp;omega)
    have y0:=HY1.out 0 (by simp)
    have y1:=HY1.out 1 (by simp)
    have y2:=HY1.out 2 (by simp)
    have y3:=HY1.out 3 (by simp)
    have y4:=HY1.out 4 (by simp)
    simp only [List.getElem_cons_succ,List.getElem_cons_zero] at y0 y1 y2 y3 y4
    have f0:=HFr1.out
    have lq:w.heap.size+1 < w1.heap.size:=by omega
    go_wp2_with fail
    have hy:=set5_get (v0:=.int .i64 0) (v1:=.int .i64 0) (v2:=.int .i64 0) (v3:=.int .i64 0) (v4':=.slice none 0 0) y0 y1 y2 y3 y4
    have hb9:=below_set5 HB1.out (b:=w.heap.size+1) (by omega) (.int .i64 0) (.int .i64 0) (.int .i64 0) (.int .i64 0) (.slice none 0 0)
    obtain ⟨W9,hW9⟩:∃W9,W9=((((w1.setCell ⟨w.heap.size+1,0,none⟩ (.int .i64 0)).setCell ⟨w.heap.size+1,1,none⟩ (.int .i64 0)).setCell ⟨w.heap.size+1,2,none⟩ (.int .i64 0)).setCell ⟨w.heap.size+1,3,none⟩ (.int .i64 0)).setCell ⟨w.heap.size+1,4,none⟩ (.slice none 0 0):=⟨_,rfl⟩
    have hs9:W9.heap.size=w1.heap.size:=by rw [hW9];simp
    rw [←hW9] at hy hb9 ⊢
    obtain ⟨W10,hW10⟩:∃W10,W10=W9.alloc (.cells #[.int .i64 x0,.int .i64 x1,.int .i64 x2,.int .i64 x3] 98):=⟨_,rfl⟩
    have hy':Bx W10 (w.heap.size+1) [.int .i64 0,.int .i64 0,.int .i64 0,.int .i64 0,.slice none 0 0]:=by rw [hW10];exact hy.alloc (by omega) _
    have hb10:Below w.heap.size w W10:=by rw [hW10];exact hb9.alloc (by omega) _
    rw [←hW10]
    have r0:=hy' 0 (by simp)
    have r1:=hy' 1 (by simp)
    have r2:=hy' 2 (by simp)
    have r3:=hy' 3 (by simp)
    have r4:=hy' 4 (by simp)
    simp only [List.getElem_cons_succ,List.getElem_cons_zero] at r0 r1 r2 r3 r4
    refine bodyPost_ret (v:=.tuple #[.agg #[.int .i64 0,.int .i64 0,.int .i64 0,.int .i64 0,.slice none 0 0],.bool false]) (by simp [results,Tryz.results116,r0,r1,r2,r3,r4,go_sem]) rfl ?_
    exact ⟨0,0,0,0,none,0,0,by rw [HT.out],fun h=>(by rw [HT.out] at h;cases h),hb10⟩
  have hle:es.length≤12:=by omega
  have HVec:=hd' (vecVal_four HVv.out hv)
  go_wp2_with fail
  obtain ⟨W5,hW5⟩:∃W5,W5=w1.alloc (.cells #[.int .i64 x0,.int .i64 x1,.int .i64 x2,.int .i64 x3] 98):=⟨_,rfl⟩
  obtain ⟨W6,hW6⟩:∃W6,W6=W5.alloc (.cells #[.int .i64 x0,.int .i64 x1,.int .i64 x2,.int .i64 x3,.slice none 0 0] 101):=⟨_,rfl⟩
  have hz5:W5.heap.size=w1.heap.size+1:=by rw [hW5];simp
  have hz6:w1.heap.size+1 < W6.heap.size:=by rw [hW6];simp [hz5]
  have HHeap6:=hd' (show W6.heap[w1.heap.size+1]?=some (.cells #[.int .i64 x0,.int .i64 x1,.int .i64 x2,.int .i64 x3,.slice none 0 0] 101 (0,0)) by rw [hW6,←hz5];exact heap_alloc_new W5 _)
  have HB16:=hd' (show Below w1.heap.size w1 W6 by rw [hW6,hW5];exact ((Below.refl _ _).alloc (Nat.le_refl _) _).alloc (by simp) _)
  rw [←hW5,←hW6]
  clear hW6 hW5 hz5 x1c lq0 hv
  have HOld:=hd' (HB1.out.trans (HB16.out.mono (by omega)))
  have hR:w.heap.size < w1.heap.size+1:=by omega
  go_loopw [29] (fun i wr=>∃(k:Nat) (A':Option Addr) (c':Nat),k≤es.length∧i=.int .i64 k∧(∀j (hj:j < es.length),j < k→nameB es[j].name=true)∧wr.heap[w1.heap.size+1]?=some (.cells #[.int .i64 x0,.int .i64 x1,.int .i64 x2,.int .i64 x3,.slice A' k c'] 101 (0,0))∧wr.ownsRow W6.heap.size 192 4 (.slice A' k c') k ((es.take k).flatMap encE)∧Below (w1.heap.size+1) W6 wr∧W6.heap.size≤wr.heap.size) (fun i _=>es.length - (intOf i).toNat)
  case atStart=>exact ⟨0,none,0,Nat.zero_le _,rfl,fun j _ hj=>absurd hj (by omega),HHeap6.out,by simpa using World.ownsRow_nil _ _ _ _,Below.refl _ _,Nat.le_refl _⟩
  case round =>
    obtain ⟨k,A',c',hk,rfl,hall,hheap,hown,hbel,hzr⟩:=hrel
    have HAll:=hd' hall
    have HHeap:=hd' hheap
    have HOwn:=hd' hown
    have HBr:=hd' hbel
    have HOr:=hd' (show Below w.heap.size w wr from HOld.out.trans (hbel.mono (by omega)))
    clear hall hheap hown hbel
    by_cases hlt:k < es.length
    · obtain ⟨bA,oA,hAe,_,hbA,hcA⟩:=HA.out (by omega)
      obtain ⟨An,cn,c0,c1,c2,c3,hby⟩:=(hcA k hlt).keep (Nat.zero_le _) hbA (fun p _ hp=>HOr.out.cell hp)
      have hnl:=name_le_ebulk es k hlt
      obtain ⟨e,he⟩:∃e,e=es[k]:=⟨_,rfl⟩
      rw [←he] at c0 c1 c2 c3 hby hnl
      have HBy:=hd' hby
      have HE:=hd' he
      subst hAe
      have hlt':(k:Int) < (es.length:Int):=by omega
      clear hcA hby he
      go_wp2_with fail
      obtain ⟨W7,hW7⟩:∃W7,W7=wr.alloc (.cells #[.slice An e.name.length cn,.int .i64 e.val,.int .i64 e.dev,.int .i64 e.num] 180):=⟨_,rfl⟩
      have HZ7:=hd' (show Bx W7 wr.heap.size [.slice An e.name.length cn,.int .i64 e.val,.int .i64 e.dev,.int .i64 e.num] by rw [hW7];exact Bx.new' _ _ _ _ rfl)
      have hb7:Below wr.heap.size wr W7:=by rw [hW7];exact (Below.refl _ _).alloc (Nat.le_refl _) _
      have hz7:wr.heap.size < W7.heap.size:=by rw [hW7];simp
      have HB7:=hd' hb7
      rw [←hW7]
      clear hW7 hb7 c0 c1 c2 c3
      refine (implNameOk_any An e.name cn W7 ((HBy.out.keep fun p _ hp=>HB7.out.cell (by omega)).mono (by omega)) (by omega)).mono ?_
      rintro r w8 ⟨rfl,hb8⟩
      have HZ8:=hd' (HZ7.out.below hb8 hz7)
      have HB8:=hd' (HB7.out.trans (hb8.mono (by omega)))
      have hz8:=hb8.size
      clear hb8
      have hheap8:w8.heap[w1.heap.size+1]?=some (.cells #[.int .i64 x0,.int .i64 x1,.int .i64 x2,.int .i64 x3,.slice A' k c'] 101 (0,0)):=(HB8.out.block _ (by omega)).trans HHeap.out
      cases hnb:nameB e.name with
      | false =>
        have HT:=hd' (show treeB vec es=false from treeB_name hlt (by rw [←HE.out];exact hnb))
        have hob:Below w1.heap.size w1 w8:=(HB16.out.trans (HBr.out.mono (by omega))).trans (HB8.out.mono (by omega))
        have y0:=(hob.cell (p:=⟨w.heap.size+1,0,none⟩) (by show w.heap.size+1 < w1.heap.size;omega)).trans (HY1.out 0 (by simp))
        have y1:=(hob.cell (p:=⟨w.heap.size+1,1,none⟩) (by show w.heap.size+1 < w1.heap.size;omega)).trans (HY1.out 1 (by simp))
        have y2:=(hob.cell (p:=⟨w.heap.size+1,2,none⟩) (by show w.heap.size+1 < w1.heap.size;omega)).trans (HY1.out 2 (by simp))
        have y3:=(hob.cell (p:=⟨w.heap.size+1,3,none⟩) (by show w.heap.size+1 < w1.heap.size;omega)).trans (HY1.out 3 (by simp))
        have y4:=(hob.cell (p:=⟨w.heap.size+1,4,none⟩) (by show w.heap.size+1 < w1.heap.size;omega)).trans (HY1.out 4 (by simp))
        simp only [List.getElem_cons_succ,List.getElem_cons_zero] at y0 y1 y2 y3 y4
        have f0:=fun o=>(hob.frozen (p:=⟨w.heap.size+1,o,none⟩) (by show w.heap.size+1 < w1.heap.size;omega)).trans (HFr1.out o)
        have HBw:=hd' (HB1.out.trans (hob.mono (by omega)))
        clear hob hheap8 hnb
        go_wp2_with fail
        obtain ⟨W8,hW8⟩:∃W8,W8=w8:=⟨_,rfl⟩
        have HB8:=hd' (show Below w.heap.size w W8 by rw [hW8];exact HBw.out)
        have hy:=set5_get (v0:=.int .i64 0) (v1:=.int .i64 0) (v2:=.int .i64 0) (v3:=.int .i64 0) (v4':=.slice none 0 0) (show W8.cell? ⟨w.heap.size+1,0,none⟩=_ by rw [hW8];exact y0) (show W8.cell? ⟨w.heap.size+1,1,none⟩=_ by rw [hW8];exact y1) (show W8.cell? ⟨w.heap.size+1,2,none⟩=_ by rw [hW8];exact y2) (show W8.cell? ⟨w.heap.size+1,3,none⟩=_ by rw [hW8];exact y3) (show W8.cell? ⟨w.heap.size+1,4,none⟩=_ by rw [hW8];exact y4)
        have hb9:=below_set5 HB8.out (b:=w.heap.size+1) (by omega) (.int .i64 0) (.int .i64 0) (.int .i64 0) (.int .i64 0) (.slice none 0 0)
        rw [←hW8]
        obtain ⟨W9,hW9⟩:∃W9,W9=((((W8.setCell ⟨w.heap.size+1,0,none⟩ (.int .i64 0)).setCell ⟨w.heap.size+1,1,none⟩ (.int .i64 0)).setCell ⟨w.heap.size+1,2,none⟩ (.int .i64 0)).setCell ⟨w.heap.size+1,3,none⟩ (.int .i64 0)).setCell ⟨w.heap.size+1,4,none⟩ (.slice none 0 0):=⟨_,rfl⟩
        rw [←hW9] at hy hb9 ⊢
        have r0:=hy 0 (by simp)
        have r1:=hy 1 (by simp)
        have r2:=hy 2 (by simp)
        have r3:=hy 3 (by simp)
        have r4:=hy 4 (by simp)
        simp only [List.getElem_cons_succ,List.getElem_cons_zero] at r0 r1 r2 r3 r4
        refine bodyPost_ret (v:=.tuple #[.agg #[.int .i64 0,.int .i64 0,.int .i64 0,.int .i64 0,.slice none 0 0],.bool false]) (by simp [results,Tryz.results116,r0,r1,r2,r3,r4,go_sem]) rfl ?_
        exact ⟨0,0,0,0,none,0,0,by rw [HT.out],fun h=>(by rw [HT.out] at h;cases h),hb9⟩
      | true =>
        have HNm:=hd' hnb
        have z0:=HZ8.out 0 (by simp)
        have z1:=HZ8.out 1 (by simp)
        have z2:=HZ8.out 2 (by simp)
        have z3:=HZ8.out 3 (by simp)
        simp only [List.getElem_cons_succ,List.getElem_cons_zero] at z0 z1 z2 z3
        have t4:w8.cell? ⟨w1.heap.size+1,4,none⟩=some (.slice A' k c'):=by simp [World.cell?,hheap8]
        have hcv:=run_str (w:=w8) ((HBy.out.keep fun p _ hp=>HB8.out.cell (by omega)):BytesIn w8 _ _ An e.name) cn
        have HHeap8:=hd' hheap8
        have HOwn8:=hd' (ownsRow_below HOwn.out HB8.out fun g hg=>(HOwn.out.lt g hg).2)
        obtain ⟨i0,hi,hz0,hz1',hz2'⟩:=info_parts Tryz.infoEnt
        clear hheap8 hnb
        go_wp2_with (at_builtin;refine wpList_append_own _ rfl _ _ 99 rfl W6.heap.size 192 i0 (.agg #[.string ⟨#[]⟩,.int .i64 0,.int .i64 0,.int .i64 0]) 4 40 Tryz.underlying99 hi hz0 hz1' hz2' rfl (by decide) _ _ _ rfl (HOwn8.out.alloc _) ⟨w8.heap.size,0,none⟩ 1 1 [.string ⟨e.name.toArray⟩,.int .i64 e.val,.int .i64 e.dev,.int .i64 e.num] rfl rfl ?c1 ?c2 ?c3 ?c4 ?c5 ?_)
        case c1=>exact new4 _ _ _ _ _ _
        case c2=>intro u hu;simp at hu;rcases hu with rfl|rfl|rfl|rfl <;> rfl
        case c3=>unfold maxLen;omega
        case c4=>omega
        case c5=>simp;omega
        intro v' w9 hrow9 hgr9 _
        obtain ⟨A9,c9,rfl⟩:=row_shapeN hrow9
        have hheap9:w9.heap[w1.heap.size+1]?=some (.cells #[.int .i64 x0,.int .i64 x1,.int .i64 x2,.int .i64 x3,.slice A' k c'] 101 (0,0)):=by
          rw [hgr9.block (w1.heap.size+1) (by simp;omega) (fun e=>by have:=(HOwn8.out.lt _ e.symm).1;omega),heap_alloc_old _ _ (by omega)]
          exact HHeap8.out
        have HRow9:=hd' hrow9
        have HHeap9:=hd' hheap9
        have u4:w9.cell? ⟨w1.heap.size+1,4,none⟩=some (.slice A' k c'):=by simp [World.cell?,hheap9]
        have uf:w9.frozen? ⟨w1.heap.size+1,4,none⟩=false:=by simp [World.frozen?,hheap9]
        have hz9:w8.heap.size+1≤w9.heap.size:=by simpa using hgr9.size
        have HB9:=hd' (((HBr.out.trans (HB8.out.mono (by omega))).alloc (by omega) (.cells #[.string ⟨e.name.toArray⟩,.int .i64 e.val,.int .i64 e.dev,.int .i64 e.num] 192)).grown hgr9 (by simp;omega) (fun g hg=>by have:=(HOwn8.out.lt g hg).1;omega))
        clear hrow9 hgr9 hheap9 z0 z1 z2 z3 t4 hcv
        go_wp2_with fail
        go_roundw
        case rel =>
          refine ⟨k+1,A9,c9,by omega,by go_num,fun j hj hjk=>?_,?_,?_,HB9.out.setCell (by show w1.heap.size+1≤w1.heap.size+1;omega) _,by simp;omega⟩
          · by_cases ej:j=k
            · subst ej;rw [←HE.out];exact HNm.out
            · exact HAll.out j hj (by omega)
          · have h:=heap_setCell_same w9 (w1.heap.size+1) 4 _ _ (.slice A9 (k+1) c9) HHeap9.out
            simpa using h
          · have h:=ownsRow_setCell_below HRow9.out (a:=⟨w1.heap.size+1,4,none⟩) (by show w1.heap.size+1 < W6.heap.size;omega) (.slice A9 (k+1) c9)
            rw [List.take_succ_eq_append_getElem hlt,List.flatMap_append,←HE.out]
            simpa [encE] using h
        case measure=>simp [intOf];omega
    · have hke:k=es.length:=by omega
      have HEv:=hd' (show EvsIn wr 0 wr.heap.size A' es from by
        have h:=HOwn.out
        rw [hke,List.take_length] at h
        subst hke
        exact (evs_of_row h).low (Nat.zero_le _))
      have HEv6:=hd' (show EvsIn wr W6.heap.size wr.heap.size A' es from by
        have h:=HOwn.out
        rw [hke,List.take_length] at h
        subst hke
        exact evs_of_row h)
      have hall:es.all (fun e=>nameB e.name)=true:=by
        rw [List.all_eq_true]
        intro x hx
        obtain ⟨j,hj,rfl⟩:=List.getElem_of_mem hx
        exact HAll.out j hj (by omega)
      have HT:=hd' (show treeB vec es=tokB x0 x1 x2 x3 es by
        rw [HTr.out,HVt.out,hall,HVec.out]
        simp [hle])
      have HK:=hd' hke
      obtain ⟨tb,htb⟩:∃tb,tb=tokB x0 x1 x2 x3 es:=⟨_,rfl⟩
      have htk:=fun W hW=>tok_any x0 x1 x2 x3 A' es c' W hW (by omega)
      rw [←htb] at htk HT
      have HTk:=hd' htk
      clear hall htb htk hke
      have hheap:=HHeap.out
      rw [HK.out] at hheap
      have g0:wr.cell? ⟨w1.heap.size+1,0,none⟩=some (.int .i64 x0):=by simp [World.cell?,hheap]
      have g1:wr.cell? ⟨w1.heap.size+1,1,none⟩=some (.int .i64 x1):=by simp [World.cell?,hheap]
      have g2:wr.cell? ⟨w1.heap.size+1,2,none⟩=some (.int .i64 x2):=by simp [World.cell?,hheap]
      have g3:wr.cell? ⟨w1.heap.size+1,3,none⟩=some (.int .i64 x3):=by simp [World.cell?,hheap]
      have g4:wr.cell? ⟨w1.heap.size+1,4,none⟩=some (.slice A' es.length c'):=by simp [World.cell?,hheap]
      have hge:¬ (k:Int) < (es.length:Int):=by have:=HK.out;omega
      have HOb:=hd' (show Below w1.heap.size w1 wr from HB16.out.trans (HBr.out.mono (by omega)))
      have lR:w1.heap.size+1 < wr.heap.size:=by omega
      have lne:w1.heap.size+1≠w.heap.size+1:=by omega
      have hPack:∀wt,Below wr.heap.size wr wt →
          (wt.cell? ⟨w1.heap.size+1,0,none⟩=some (.int .i64 x0)∧wt.cell? ⟨w1.heap.size+1,1,none⟩=some (.int .i64 x1)∧wt.cell? ⟨w1.heap.size+1,2,none⟩=some (.int .i64 x2)∧wt.cell? ⟨w1.heap.size+1,3,none⟩=some (.int .i64 x3)∧wt.cell? ⟨w1.heap.size+1,4,none⟩=some (.slice A' es.length c')) ∧
          (wt.cell? ⟨w.heap.size+1,0,none⟩=some (.int .i64 0)∧wt.cell? ⟨w.heap.size+1,1,none⟩=some (.int .i64 0)∧wt.cell? ⟨w.heap.size+1,2,none⟩=some (.int .i64 0)∧wt.cell? ⟨w.heap.size+1,3,none⟩=some (.int .i64 0)∧wt.cell? ⟨w.heap.size+1,4,none⟩=some (.slice none 0 0)) ∧
          (∀o,wt.frozen? ⟨w.heap.size+1,o,none⟩=false)∧Below w1.heap.size w1 wt:=by
        intro wt hbt
        have hot:Below w1.heap.size w1 wt:=HOb.out.trans (hbt.mono (by omega))
        have y0:=(hot.cell (p:=⟨w.heap.size+1,0,none⟩) (by show w.heap.size+1 < w1.heap.size;omega)).trans (HY1.out 0 (by simp))
        have y1:=(hot.cell (p:=⟨w.heap.size+1,1,none⟩) (by show w.heap.size+1 < w1.heap.size;omega)).trans (HY1.out 1 (by simp))
        have y2:=(hot.cell (p:=⟨w.heap.size+1,2,none⟩) (by show w.heap.size+1 < w1.heap.size;omega)).trans (HY1.out 2 (by simp))
        have y3:=(hot.cell (p:=⟨w.heap.size+1,3,none⟩) (by show w.heap.size+1 < w1.heap.size;omega)).trans (HY1.out 3 (by simp))
        have y4:=(hot.cell (p:=⟨w.heap.size+1,4,none⟩) (by show w.heap.size+1 < w1.heap.size;omega)).trans (HY1.out 4 (by simp))
        simp only [List.getElem_cons_succ,List.getElem_cons_zero] at y0 y1 y2 y3 y4
        exact ⟨⟨(hbt.cell lR).trans g0,(hbt.cell lR).trans g1,(hbt.cell lR).trans g2,(hbt.cell lR).trans g3,(hbt.cell lR).trans g4⟩,⟨y0,y1,y2,y3,y4⟩,fun o=>(hot.frozen (p:=⟨w.heap.size+1,o,none⟩) (by show w.heap.size+1 < w1.heap.size;omega)).trans (HFr1.out o),hot⟩
      have HPack:=hd' hPack
      have HB1':=hd' (show Below w.heap.size w w1 from HB1.out)
      clear hheap hPack HY1 HFr1 HOb HHeap HOwn HAll HBr HOr HOld HB16 HHeap6 HTr HVt
      go_wp2_with fail
      go_region_held3 (fun X=>X.cell? ⟨w1.heap.size+1,0,none⟩=some (.int .i64 x0)∧X.cell? ⟨w1.heap.size+1,1,none⟩=some (.int .i64 x1)∧X.cell? ⟨w1.heap.size+1,2,none⟩=some (.int .i64 x2)∧X.cell? ⟨w1.heap.size+1,3,none⟩=some (.int .i64 x3)∧X.cell? ⟨w1.heap.size+1,4,none⟩=some (.slice A' es.length c'))
        (first|with_reducible exact ⟨g0,g1,g2,g3,g4⟩|with_reducible exact ⟨s0,s1,s2,s3,s4⟩|with_reducible exact ⟨(other5 lne).trans s0,(other5 lne).trans s1,(other5 lne).trans s2,(other5 lne).trans s3,(other5 lne).trans s4⟩|with_reducible exact ⟨(cell_drew _ _).trans g0,(cell_drew _ _).trans g1,(cell_drew _ _).trans g2,(cell_drew _ _).trans g3,(cell_drew _ _).trans g4⟩)
        (first
          | (go_at_call 176
             refine (HTk.out _ ?_).mono ?_
             · exact HEv.out.keep fun p _ hp=>rfl
             rintro r wt ⟨rfl,hbt⟩
             have hbrt:Below wr.heap.size wr wt:=by first|with_reducible exact hbt|exact (Below.refl wr.heap.size wr).drew.trans hbt
             obtain ⟨⟨s0,s1,s2,s3,s4⟩,⟨y0,y1,y2,y3,y4⟩,f0,hot⟩:=HPack.out wt hbrt
             have HOt:=hd' hot
             have HRt:=hd' hbrt
             clear hot hbt hbrt))
      obtain ⟨wq,hwq⟩:∃wq,wq=wt:=⟨_,rfl⟩
      have hy:=set5_get (v0:=.int .i64 x0) (v1:=.int .i64 x1) (v2:=.int .i64 x2) (v3:=.int .i64 x3) (v4':=.slice A' es.length c') y0 y1 y2 y3 y4
      have hb9:=below_set5 (HB1'.out.trans (HOt.out.mono (by omega))) (b:=w.heap.size+1) (by omega) (.int .i64 x0) (.int .i64 x1) (.int .i64 x2) (.int .i64 x3) (.slice A' es.length c')
      have hz9:=HRt.out.size
      have he9:EvsIn _ W6.heap.size wr.heap.size A' es:=(HEv6.out.below HRt.out).keep (w':=((((wt.setCell ⟨w.heap.size+1,0,none⟩ (.int .i64 x0)).setCell ⟨w.heap.size+1,1,none⟩ (.int .i64 x1)).setCell ⟨w.heap.size+1,2,none⟩ (.int .i64 x2)).setCell ⟨w.heap.size+1,3,none⟩ (.int .i64 x3)).setCell ⟨w.heap.size+1,4,none⟩ (.slice A' es.length c')) fun p hp _=>by
        have hne:p.block≠w.heap.size+1:=by omega
        exact cell_other' hne
      have hz9':wr.heap.size≤(((((wt.setCell ⟨w.heap.size+1,0,none⟩ (.int .i64 x0)).setCell ⟨w.heap.size+1,1,none⟩ (.int .i64 x1)).setCell ⟨w.heap.size+1,2,none⟩ (.int .i64 x2)).setCell ⟨w.heap.size+1,3,none⟩ (.int .i64 x3)).setCell ⟨w.heap.size+1,4,none⟩ (.slice A' es.length c')).heap.size:=by simp;omega
      clear y0 y1 y2 y3 y4 s0 s1 s2 s3 s4 hwq
      obtain ⟨W9,hW9⟩:∃W9,W9=((((wt.setCell ⟨w.heap.size+1,0,none⟩ (.int .i64 x0)).setCell ⟨w.heap.size+1,1,none⟩ (.int .i64 x1)).setCell ⟨w.heap.size+1,2,none⟩ (.int .i64 x2)).setCell ⟨w.heap.size+1,3,none⟩ (.int .i64 x3)).setCell ⟨w.heap.size+1,4,none⟩ (.slice A' es.length c'):=⟨_,rfl⟩
      rw [←hW9] at hy hb9 he9 hz9' ⊢
      clear hW9
      have r0:=hy 0 (by simp)
      have r1:=hy 1 (by simp)
      have r2:=hy 2 (by simp)
      have r3:=hy 3 (by simp)
      have r4:=hy 4 (by simp)
      simp only [List.getElem_cons_succ,List.getElem_cons_zero] at r0 r1 r2 r3 r4
      have HB9:=hd' hb9
      have HE9:=hd' he9
      clear hy hb9 he9
      go_wp2_with fail
      refine bodyPost_ret (v:=.tuple #[.agg #[.int .i64 x0,.int .i64 x1,.int .i64 x2,.int .i64 x3,.slice A' es.length c'],.bool tb]) (by simp [results,Tryz.results116,r0,r1,r2,r3,r4,go_sem]) rfl ?_
      exact ⟨x0,x1,x2,x3,A',es.length,c',by rw [HT.out],fun _=>⟨HVec.out,rfl,(HE9.out.low (by omega)).mono hz9'⟩,HB9.out⟩
end Go.Proofs.YtckajeippfpojaaGreat
