import Derived.Test.YtckajeippfpojaaGreatZqByt
import Derived.Test.YtckajeippfpojaaGreatZqGA
import Derived.Test.YtckajeippfpojaaGreatZqGB
import Derived.Deep.RegionLaw
import Derived.Test.YtckajeippfpojaaGreatZqRdTr
import Derived.StillTailTactics
import Derived.Deep.RegionHeld3
import Derived.Test.YtckajeippfpojaaGreatZqRdM
import Derived.Test.YtckajeippfpojaaGreatZqGLed
namespace Go.Proofs.YtckajeippfpojaaGreat
open Go.RowKit Go.Maps
set_option maxRecDepth 100000
def lo8 (n:Int):UInt8:=UInt8.ofNat (n % 256).toNat
theorem lo8_val (n:Int):((lo8 n).toNat:Int)=n % 256:=by
  have h0:0≤n % 256:=Int.emod_nonneg _ (by decide)
  have h1:n % 256 < 256:=Int.emod_lt_of_pos _ (by decide)
  have h2:(lo8 n).toNat=(n % 256).toNat:=by
    unfold lo8
    simp
    omega
  rw [h2]
  omega
def b2 (n:Int):List UInt8:=[lo8 (n / 256),lo8 n]
theorem cells_append (l l2:List UInt8):Lib.byteCells (l++l2)=Lib.byteCells l++Lib.byteCells l2:=by simp [Lib.byteCells]
theorem cells_length (l:List UInt8):(Lib.byteCells l).length=l.length:=by simp [Lib.byteCells]
theorem cells_one (n:Int):Lib.byteCells [lo8 n]=[.int .u8 (n % 256)]:=by simp [Lib.byteCells,lo8_val]
theorem cells_two (n:Int):Lib.byteCells (b2 n)=[.int .u8 (n / 256 % 256),.int .u8 (n % 256)]:=by simp [Lib.byteCells,b2,lo8_val]
def Rw (w:World) (B:Nat) (v:Value) (l:List UInt8):Prop :=
  (v=.slice none 0 0∧l=[])∨Byt w B 5 v l.length (Lib.byteCells l)
theorem Rw.nil (w:World) (B:Nat):Rw w B (.slice none 0 0) []:=.inl ⟨rfl,rfl⟩
theorem Rw.alloc {w:World} {B:Nat} {v:Value} {l:List UInt8} (h:Rw w B v l) (o:Obj):Rw (w.alloc o) B v l:=h.imp id fun h=>h.alloc o
theorem Rw.drew {w:World} {B:Nat} {v:Value} {l:List UInt8} (h:Rw w B v l):Rw w.drew B v l:=h
theorem Rw.same {w w':World} {B:Nat} {v:Value} {l:List UInt8} (h:Rw w B v l) (hw:∀g,g < w.heap.size→w'.heap[g]?=w.heap[g]?):Rw w' B v l:=h.imp id fun h=>h.same hw
theorem Rw.lt {w:World} {B:Nat} {v:Value} {l:List UInt8} (h:Rw w B v l):∀k,v.ownBlock=some k→B≤k∧k < w.heap.size:=by
  rcases h with ⟨rfl,_⟩|h
  · intro k hk
    simp [Value.ownBlock] at hk
  · exact h.lt
theorem Rw.low {w:World} {B B':Nat} {v:Value} {l:List UInt8} (h:Rw w B v l) (hB:B'≤B):Rw w B' v l:=h.imp id fun h=>by
  obtain ⟨hl,g,cap,cur,fz,h1,h2,rest⟩:=h
  exact ⟨hl,g,cap,cur,fz,h1,Nat.le_trans hB h2,rest⟩
theorem Rw.ne {w:World} {B b:Nat} {v:Value} {l:List UInt8} {cs:Array Value} {t:TypeId} {fz:Nat × Nat} (h:Rw w B v l) (hb:w.heap[b]?=some (.cells cs t fz)) (ht:t≠5):v.ownBlock≠some b:=by
  rcases h with ⟨rfl,_⟩|h
  · simp [Value.ownBlock]
  · intro he
    obtain ⟨c,fz',h2⟩:=h.kind b he
    rw [hb] at h2
    injection h2 with h2
    injection h2 with _ h3 _
    exact ht h3
theorem src_built (w:World) (l2:List UInt8) (cs:Array Value) (hc:cs.toList=Lib.byteCells l2):Src Tryz.prog 1 61 (.slice (some ⟨w.heap.size,0,none⟩) l2.length l2.length) l2.length (Lib.byteCells l2) (w.alloc (.cells cs 5)):=by
  refine Src.ofSlice _ Tryz.underlying61 ⟨w.heap.size,0,none⟩ l2.length l2.length _ (by simp [cells_length]) (fun j u hj=>?_) (fun u hu=>?_)
  · rw [Addr.add_lit,Nat.zero_add]
    simp only [World.cell?,heap_alloc_new]
    rw [←hc] at hj
    simpa using hj
  · simp only [Lib.byteCells,List.mem_map] at hu
    obtain ⟨b,_,rfl⟩:=hu
    rfl
theorem src_built' (w:World) (b:Nat) (hb:w.heap.size=b) (l2:List UInt8) (cs:Array Value) (hc:cs.toList=Lib.byteCells l2):Src Tryz.prog 1 61 (.slice (some ⟨b,0,none⟩) l2.length l2.length) l2.length (Lib.byteCells l2) (w.alloc (.cells cs 5)):=by
  subst hb
  exact src_built w l2 cs hc
theorem src_built_drew (w:World) (b:Nat) (hb:w.heap.size=b) (l2:List UInt8) (cs:Array Value) (hc:cs.toList=Lib.byteCells l2):Src Tryz.prog 1 61 (.slice (some ⟨b,0,none⟩) l2.length l2.length) l2.length (Lib.byteCells l2) (w.alloc (.cells cs 5)).drew:=by
  subst hb
  refine Src.ofSlice _ Tryz.underlying61 ⟨w.heap.size,0,none⟩ l2.length l2.length _ (by simp [cells_length]) (fun j u hj=>?_) (fun u hu=>?_)
  · show (w.alloc (.cells cs 5)).cell? _=_
    rw [Addr.add_lit,Nat.zero_add]
    simp only [World.cell?,heap_alloc_new]
    rw [←hc] at hj
    simpa using hj
  · simp only [Lib.byteCells,List.mem_map] at hu
    obtain ⟨b,_,rfl⟩:=hu
    rfl
theorem wrap8 (n:Int):IntKind.u8.wrap n=n % 256:=by
  rw [IntKind.wrap_u8]
theorem src_str (w:World) (l:List UInt8):Src Tryz.prog 1 9 (.string ⟨l.toArray⟩) l.length (Lib.byteCells l) w :=
  Src.ofString (P:=Tryz.prog) w Tryz.underlying9 ⟨l.toArray⟩
theorem Rw.box {w w':World} {B b:Nat} {v:Value} {l:List UInt8} {cs:Array Value} {t:TypeId} {fz:Nat × Nat} (h:Rw w B v l) (hb:w.heap[b]?=some (.cells cs t fz)) (ht:t≠5) (hg:w.grownBy w' v.ownBlock):w'.heap[b]?=some (.cells cs t fz) :=
  (hg.block b (Array.getElem?_eq_some_iff.1 hb).1 (fun e=>h.ne hb ht e.symm)).trans hb
theorem run_append_rw (w:World) (B:Nat) (tx ty:TypeId) (v:Value) (l:List UInt8) (hown:Rw w B v l) (x:Value) (l2:List UInt8) (hs:Src Tryz.prog 1 tx x l2.length (Lib.byteCells l2) w) (hlim:l.length+l2.length≤100000000) (hp:0 < l2.length∨0 < l.length) (hB:B≤w.heap.size) :
    ∃v' w',(Builtin.append_ #[61,tx] ty #[v,x]).run Tryz.prog w=.ok v' w'∧Rw w' B v' (l++l2)∧w.grownBy w' v.ownBlock:=by
  obtain ⟨i0,hi,hz0,hz1,hz2⟩:=info_parts (show (Tryz.prog.info? 5).map (fun i=>(i.zero,i.size,i.bytes))=some (some (.int .u8 0),1,1) by kernel_rfl)
  rcases hown with ⟨rfl,rfl⟩|hown
  · have hm:0 < l2.length:=by
      rcases hp with h|h
      · exact h
      · simp at h
    have hr:=run_append_grow_src (P:=Tryz.prog) w 61 tx ty 5 i0 (.int .u8 0) Tryz.underlying61 hi hz0 none 0 0 [] (by simp [Builtin.firstCells]) x l2.length _ (by rw [hz1];exact hs) (by omega) (by omega) (by rw [hz2];exact growslice_fits (by omega) (by omega))
    have hge:=grownCap_ge w (0+l2.length) 0 5
    have hcm2:grownCap w (0+l2.length) 0 5≤maxLen:=grownCap_le_maxLen w (0+l2.length) 0 5 (by unfold maxLen;omega)
    refine ⟨_,_,hr,.inr ⟨cells_length _,w.heap.size,_,_,(0,0),by simp;rfl,hB,heap_alloc_new w.drew _,.inl rfl,by simpa using hge,by simpa using hcm2,?_,?_⟩,⟨rfl,rfl,rfl,by simp,fun k hk _=>heap_alloc_old w.drew _ hk⟩⟩
    · have hz1:(Value.int IntKind.u8 0).cells.size=1:=rfl
      simp only [Array.size_append,List.size_toArray,List.length_append,size_zeroCells,hz1,List.length_nil,cells_length]
      simp only [Nat.zero_add] at hge ⊢
      omega
    · have hlen:(Lib.byteCells l2).length=l2.length:=cells_length _
      simp only [List.nil_append]
      rw [Array.toList_append,←hlen]
      exact List.take_left
  · obtain ⟨v',w',h1,h2,h3⟩:=run_append_byt (P:=Tryz.prog) w B 61 tx ty 5 i0 Tryz.underlying61 hi hz0 hz1 hz2 v l.length _ hown x l2.length _ hs (by omega) hB
    exact ⟨v',w',h1,.inr (by rw [List.length_append,cells_append];exact h2),h3⟩
theorem wpList_append_rw (w:World) {ops:Array Oper} {rest:List Oper} {o:Oper} {a:Act} {Q:Exit→Act→World→Prop} (hgd:o.guard=none) (s x:Operand) (tx:TypeId)
    (ho:o.op=.call { callee:=.builtin .append,args:=#[s,x],argTypes:=#[61,tx] })
    (B:Nat) (v:Value) (l:List UInt8) (hv:a.eval s=v) (hown:Rw w B v l) (y:Value) (l2:List UInt8) (hx:a.eval x=y) (hs:Src Tryz.prog 1 tx y l2.length (Lib.byteCells l2) w) (hlim:l.length+l2.length≤100000000) (hp:0 < l2.length∨0 < l.length) (hB:B≤w.heap.size)
    (h:∀v' w',Rw w' B v' (l++l2)→w.grownBy w' v.ownBlock→wpList Tryz.prog ops Q rest (a.put o.dst v') w'):wpList Tryz.prog ops Q (o :: rest) a w:=by
  refine wpList_plain hgd fun K hK=>?_
  obtain ⟨v',w',hr,h2,h3⟩:=run_append_rw w B tx o.type v l hown y l2 hs hlim hp hB
  unfold Oper.wp execOp
  simp only [ho,resolve,invoke,builtin,Sem.run_bind,Sem.run_pure,Result.andThen_ok,List.map_toArray,List.map_cons,List.map_nil,hv,hx,hr]
  exact hK _ _ (h v' w' h2 h3)
theorem step_append_rw (w:World) {ops:Array Oper} {o:Oper} {a:Act} {K:Act→World→Prop} {Q:Exit→Act→World→Prop} {E:Prop} (hgd:o.guard=none) (s x:Operand) (tx:TypeId)
    (ho:o.op=.call { callee:=.builtin .append,args:=#[s,x],argTypes:=#[61,tx] })
    (B:Nat) (v:Value) (l:List UInt8) (hv:a.eval s=v) (hown:Rw w B v l) (y:Value) (l2:List UInt8) (hx:a.eval x=y) (hs:Src Tryz.prog 1 tx y l2.length (Lib.byteCells l2) w) (hlim:l.length+l2.length≤100000000) (hp:0 < l2.length∨0 < l.length) (hB:B≤w.heap.size)
    (h:∀v' w',Rw w' B v' (l++l2)→w.grownBy w' v.ownBlock→K (a.put o.dst v') w') :
    if Region.wanted o (yielded ops a.tmps)=true then Oper.wp Tryz.prog o a w K Q else E:=by
  have hw:Region.wanted o (yielded ops a.tmps)=true:=by simp [Region.wanted,hgd]
  rw [if_pos hw]
  obtain ⟨v',w',hr,h2,h3⟩:=run_append_rw w B tx o.type v l hown y l2 hs hlim hp hB
  unfold Oper.wp execOp
  simp only [ho,resolve,invoke,builtin,Sem.run_bind,Sem.run_pure,Result.andThen_ok,List.map_toArray,List.map_cons,List.map_nil,hv,hx,hr]
  exact h v' w' h2 h3
set_option maxHeartbeats 1000000 in
theorem appendTwo_any (v:Value) (l:List UInt8) (n:Int) (B:Nat) (w:World) (hr:Rw w B v l) (hl:l.length≤90000000) (hB:B≤w.heap.size) :
    Calls Tryz.prog 119 #[v,.int .i64 n] w fun e w'=>∃v',e=.returned v'∧Rw w' B v' (l++b2 n)∧w.grownBy w' v.ownBlock:=by
  have HR:=hd' hr
  clear hr
  go_enter Tryz.func119,Tryz.ntmps119
  go_wp2_with (at_builtin;refine wpList_append_rw _ rfl _ _ 61 rfl B v l rfl (HR.out.alloc _) _ (b2 n) rfl (src_built w (b2 n) _ (by rw [cells_two])) ?c1 ?c2 ?c3 ?_)
  case c1=>simp [b2];omega
  case c2=>exact .inl (by simp [b2])
  case c3=>simp;omega
  intro v' w' h1 h2
  have H1:=hd' h1
  have h3:=h2
  have H3:=hd' (show w.grownBy w' v.ownBlock from ⟨h2.os,h2.tape,h2.output,by have:=h2.size;simp at this;omega,fun k hk hne=>(h2.block k (by simp;omega) hne).trans (heap_alloc_old w _ hk)⟩)
  clear h1 h2 h3
  go_wp2_with fail
  go_ret
  exact ⟨v',rfl,H1.out,H3.out⟩
end Go.Proofs.YtckajeippfpojaaGreat
namespace Go.Proofs.YtckajeippfpojaaGreat
open Go.RowKit Go.Maps
set_option maxRecDepth 100000
def ebV (e:En):List UInt8:=[lo8 e.name.length]++(e.name++(b2 e.val++([lo8 e.dev]++b2 e.num)))
def tbV (vec:List Int) (es:List En):List UInt8:=vec.flatMap b2++([lo8 es.length]++es.flatMap ebV)
theorem ebV_length (e:En):(ebV e).length=e.name.length+6:=by
  simp [ebV,b2]
theorem ebs_length (es:List En):(es.flatMap ebV).length=ebulk es+6*es.length:=by
  induction es with
  | nil=>simp [ebulk]
  | cons e es ih =>
    rw [List.flatMap_cons,List.length_append,ih,ebV_length]
    simp [ebulk]
    omega
theorem b2s_length (vec:List Int):(vec.flatMap b2).length=2*vec.length:=by
  induction vec with
  | nil=>simp
  | cons v vs ih =>
    rw [List.flatMap_cons,List.length_append,ih]
    simp [b2]
    omega
theorem tbV_length (vec:List Int) (es:List En):(tbV vec es).length=2*vec.length+1+(ebulk es+6*es.length):=by
  unfold tbV
  rw [List.length_append,List.length_append,b2s_length,ebs_length]
  simp
  omega
theorem ebs_take_succ (es:List En) (k:Nat) (h:k < es.length):(es.take (k+1)).flatMap ebV=(es.take k).flatMap ebV++ebV es[k]:=by
  rw [List.take_succ_eq_append_getElem h,List.flatMap_append]
  simp
theorem b2s_take_succ (a b c d:Int) (k:Nat) (h:k < 4):([a,b,c,d].take (k+1)).flatMap b2=([a,b,c,d].take k).flatMap b2++b2 (nth4 a b c d k):=by
  match k,h with
  | 0,_=>simp [nth4]
  | 1,_=>simp [nth4]
  | 2,_=>simp [nth4]
  | 3,_=>simp [nth4]
def NewRw (l:List UInt8) (w:World) (e:Ending) (w':World):Prop:=∃v,e=.returned v∧Rw w' w.heap.size v l∧Below w.heap.size w w'
theorem below_grownRw {B:Nat} {a w w':World} {v:Value} {l:List UInt8} (h:Below B a w) (hr:Rw w B v l) (hg:w.grownBy w' v.ownBlock) (hB:B≤w.heap.size):Below B a w':=h.grown hg hB fun k hk=>(hr.lt k hk).1
set_option maxHeartbeats 4000000 in
theorem encoded_any (a b c d:Int) (A:Option Addr) (es:List En) (cap:Nat) (w:World) (hA:EvsIn w 0 w.heap.size A es) (hn:es.length≤1000) (hbk:ebulk es≤1048576) :
    Calls Tryz.prog 120 #[.agg #[.int .i64 a,.int .i64 b,.int .i64 c,.int .i64 d,.slice A es.length cap]] w (NewRw (tbV [a,b,c,d] es) w):=by
  have HA:=hd' hA
  clear hA
  go_enter Tryz.func120,Tryz.ntmps120
  go_wp2_with fail
  obtain ⟨W,hW⟩:∃W,W=w.alloc (.cells #[.int .i64 a,.int .i64 b,.int .i64 c,.int .i64 d,.slice A es.length cap] 101):=⟨_,rfl⟩
  have HX:=hd' (show Bx W w.heap.size [.int .i64 a,.int .i64 b,.int .i64 c,.int .i64 d,.slice A es.length cap] by rw [hW];exact Bx.new' _ _ _ _ rfl)
  have HBel:=hd' (show Below w.heap.size w W by rw [hW];exact (Below.refl _ _).alloc (Nat.le_refl _) _)
  have hz:w.heap.size < W.heap.size:=by rw [hW];simp
  rw [←hW]
  clear hW
  go_loopw [3,10] (fun x i wr=>∃k:Nat,k≤4∧i=.int .i64 k∧Rw wr W.heap.size x (([a,b,c,d].take k).flatMap b2)∧Below W.heap.size W wr) (fun _ i _=>4 - (intOf i).toNat)
  case atStart=>exact ⟨0,by omega,rfl,Rw.nil _ _,Below.refl _ _⟩
  case round =>
    obtain ⟨k,hk,rfl,hrw,hbel⟩:=hrel
    have HRw:=hd' hrw
    have HBr:=hd' hbel
    have hzr:=hbel.size
    clear hrw hbel
    by_cases hlt:k < 4
    · have hix:=Tryz.index4 a b c d k hlt
      have HS:=hd' (b2s_take_succ a b c d k hlt)
      have hl:=b2s_length ([a,b,c,d].take k)
      have hl2:([a,b,c,d].take k).length≤4:=by simp;omega
      obtain ⟨x,hx⟩:∃x,x=nth4 a b c d k:=⟨_,rfl⟩
      rw [←hx] at hix HS
      obtain ⟨F,hF⟩:∃F,F=([a,b,c,d].take k).flatMap b2:=⟨_,rfl⟩
      rw [←hF] at HRw HS hl
      have HS2:=hd' hF
      clear hx hF
      go_wp2_with fail
      refine (appendTwo_any _ F x W.heap.size wr HRw.out (by omega) hzr).mono ?_
      rintro e w1 ⟨v1,rfl,hr1,hg1⟩
      have HR1:=hd' hr1
      have HB1:=hd' (below_grownRw HBr.out HRw.out hg1 hzr)
      clear hr1 hg1
      go_wp2_with fail
      go_roundw
      case rel=>exact ⟨k+1,by omega,by go_num,by rw [HS.out];exact HR1.out,HB1.out⟩
      case measure=>simp [intOf];omega
    · have hke:k=4:=by omega
      subst hke
      have HF:=hd' (show ([a,b,c,d].take 4).flatMap b2=[a,b,c,d].flatMap b2 from rfl)
      rw [HF.out] at HRw
      have hl:=b2s_length [a,b,c,d]
      obtain ⟨F,hF⟩:∃F,F=[a,b,c,d].flatMap b2:=⟨_,rfl⟩
      rw [←hF] at HRw hl
      have HFe:=hd' hF
      clear hF HF
      have hl8:F.length=8:=by simpa using hl
      have x4:=(HBr.out.cell (p:=⟨w.heap.size,4,none⟩) hz).trans (HX.out 4 (by simp))
      simp only [List.getElem_cons_succ,List.getElem_cons_zero] at x4
      have lw:w.heap.size < wr.heap.size:=by omega
      go_wp2_with (at_builtin;refine wpList_append_rw _ rfl _ _ 61 rfl W.heap.size _ F rfl (HRw.out.alloc _) _ [lo8 es.length] rfl (src_built wr [lo8 es.length] _ (by rw [cells_one])) ?c1 ?c2 ?c3 ?_)
      case c1=>simp;omega
      case c2=>exact .inl (by simp)
      case c3=>simp;omega
      intro v1 w1 hr1 hg1
      have HR1:=hd' hr1
      have HB1:=hd' (below_grownRw (HBr.out.alloc hzr (.cells #[.int .u8 ((es.length:Int) % 256)] 5)) (HRw.out.alloc _) hg1 (by simp;omega))
      have x4:=(HB1.out.cell (p:=⟨w.heap.size,4,none⟩) hz).trans (HX.out 4 (by simp))
      simp only [List.getElem_cons_succ,List.getElem_cons_zero] at x4
      have hz1:=HB1.out.size
      have lw:w.heap.size < w1.heap.size:=by omega
      obtain ⟨P0,hP0⟩:∃P0,P0=F++[lo8 es.length]:=⟨_,rfl⟩
      have hPl:P0.length=9:=by rw [hP0];simp [hl8]
      rw [←hP0] at HR1
      have HP0:=hd' hP0
      clear hr1 hg1 hP0 hl hl8 HRw
      go_wp2_with fail
      go_loopw [3,27] (fun x i ww=>∃k:Nat,k≤es.length∧i=.int .i64 k∧Rw ww W.heap.size x (P0++(es.take k).flatMap ebV)∧Below W.heap.size W ww) (fun _ i _=>es.length - (intOf i).toNat)
      case atStart=>exact ⟨0,Nat.zero_le _,rfl,by simpa using HR1.out,HB1.out⟩
      case round =>
        rename World=>wq
        obtain ⟨k,hk,rfl,hrw,hbel⟩:=hrel
        have HRq:=hd' hrw
        have HBq:=hd' hbel
        have hzq:=hbel.size
        clear hrw hbel
        by_cases hlt:k < es.length
        · obtain ⟨bA,oA,hAe,_,hbA,hcA⟩:=HA.out (by omega)
          have HO:=hd' (HBel.out.trans (HBq.out.mono (by omega)))
          obtain ⟨c0,c1,c2,c3⟩:=(hcA k hlt).keep (w':=wq) fun o=>HO.out.cell hbA
          have HS:=hd' (ebs_take_succ es k hlt)
          have hql:=ebs_length (es.take k)
          have hqb:=ebulk_take_succ es k hlt
          have hqe:=ebulk_take_le es (k+1)
          obtain ⟨e,he⟩:∃e,e=es[k]:=⟨_,rfl⟩
          rw [←he] at c0 c1 c2 c3 HS hqb
          have htl:(es.take k).length≤1000:=by simp;omega
          obtain ⟨F,hF⟩:∃F,F=(es.take k).flatMap ebV:=⟨_,rfl⟩
          rw [←hF] at HRq HS hql
          have hnl:e.name.length≤1048576:=by omega
          have hFl:F.length≤2000000:=by omega
          clear hcA he hF hql hqb hqe
          subst hAe
          obtain ⟨n1,v1',d1,m1⟩:=e
          simp only at c0 c1 c2 c3 hnl
          have hlt':(k:Int) < (es.length:Int):=by omega
          obtain ⟨L1,hL1⟩:∃L1,L1=P0++F:=⟨_,rfl⟩
          have hl1:L1.length≤2000100:=by rw [hL1,List.length_append];omega
          rw [←hL1] at HRq
          have HL1:=hd' hL1
          clear hL1
          have HZ0:=hd' (show (wq.alloc (.cells #[.string ⟨n1.toArray⟩,.int .i64 v1',.int .i64 d1,.int .i64 m1] 192)).heap[wq.heap.size]?=some (.cells #[.string ⟨n1.toArray⟩,.int .i64 v1',.int .i64 d1,.int .i64 m1] 192 (0,0)) from heap_alloc_new _ _)
          have HZ1:=hd' (show ((wq.alloc (.cells #[.string ⟨n1.toArray⟩,.int .i64 v1',.int .i64 d1,.int .i64 m1] 192)).alloc (.cells #[.int .u8 ((n1.length:Int) % 256)] 5)).heap[wq.heap.size]?=some (.cells #[.string ⟨n1.toArray⟩,.int .i64 v1',.int .i64 d1,.int .i64 m1] 192 (0,0)) from (heap_alloc_old _ _ (by simp)).trans HZ0.out)
          go_wp2_with (at_builtin;refine wpList_append_rw _ rfl _ _ 61 rfl W.heap.size _ L1 rfl ((HRq.out.alloc _).alloc _) _ [lo8 n1.length] rfl (src_built' _ (wq.heap.size+1) (by simp) [lo8 n1.length] _ (by rw [cells_one])) ?c1 ?c2 ?c3 ?_)
          case c1=>simp;omega
          case c2=>exact .inl (by simp)
          case c3=>simp;omega
          intro v2 w2 hr2 hg2
          have HR2:=hd' hr2
          have HZ2:=hd' (((HRq.out.alloc _).alloc _).box HZ1.out (by decide) hg2)
          have HB2:=hd' (below_grownRw ((HBq.out.alloc hzq (.cells #[.string ⟨n1.toArray⟩,.int .i64 v1',.int .i64 d1,.int .i64 m1] 192)).alloc (by simp;omega) (.cells #[.int .u8 ((n1.length:Int) % 256)] 5)) ((HRq.out.alloc _).alloc _) hg2 (by simp;omega))
          have hz2:=HB2.out.size
          clear hr2 hg2 c0 c1 c2 c3 HZ0 HZ1
          obtain ⟨L2,hL2⟩:∃L2,L2=L1++[lo8 n1.length]:=⟨_,rfl⟩
          have hl2:L2.length=L1.length+1:=by rw [hL2,List.length_append];rfl
          have hl2p:0 < L2.length:=by omega
          rw [←hL2] at HR2
          have HL2:=hd' hL2
          clear hL2
          have z0:w2.cell? ⟨wq.heap.size,0,none⟩=some (.string ⟨n1.toArray⟩):=by have hh:=HZ2.out;simp [World.cell?,hh]
          have z1:w2.cell? ⟨wq.heap.size,1,none⟩=some (.int .i64 v1'):=by have hh:=HZ2.out;simp [World.cell?,hh]
          have z2:w2.cell? ⟨wq.heap.size,2,none⟩=some (.int .i64 d1):=by have hh:=HZ2.out;simp [World.cell?,hh]
          have z3:w2.cell? ⟨wq.heap.size,3,none⟩=some (.int .i64 m1):=by have hh:=HZ2.out;simp [World.cell?,hh]
          have lb2:wq.heap.size < w2.heap.size:=World.block_lt_of_cell? w2 _ z0
          go_wp2_with (at_builtin;refine wpList_append_rw _ rfl _ _ 9 rfl W.heap.size _ L2 rfl HR2.out _ n1 rfl (src_str _ n1) ?c1 ?c2 ?c3 ?_)
          case c1=>omega
          case c2=>exact .inr hl2p
          case c3=>exact hz2
          intro v3 w3 hr3 hg3
          have HR3:=hd' hr3
          have HZ3:=hd' (HR2.out.box HZ2.out (by decide) hg3)
          have HB3:=hd' (below_grownRw HB2.out HR2.out hg3 hz2)
          have hz3:=HB3.out.size
          clear hr3 hg3 z0 z1 z2 z3
          obtain ⟨L3,hL3⟩:∃L3,L3=L2++n1:=⟨_,rfl⟩
          have hl3:L3.length=L2.length+n1.length:=by rw [hL3,List.length_append]
          rw [←hL3] at HR3
          have HL3:=hd' hL3
          clear hL3
          have z0:w3.cell? ⟨wq.heap.size,0,none⟩=some (.string ⟨n1.toArray⟩):=by have hh:=HZ3.out;simp [World.cell?,hh]
          have z1:w3.cell? ⟨wq.heap.size,1,none⟩=some (.int .i64 v1'):=by have hh:=HZ3.out;simp [World.cell?,hh]
          have z2:w3.cell? ⟨wq.heap.size,2,none⟩=some (.int .i64 d1):=by have hh:=HZ3.out;simp [World.cell?,hh]
          have z3:w3.cell? ⟨wq.heap.size,3,none⟩=some (.int .i64 m1):=by have hh:=HZ3.out;simp [World.cell?,hh]
          have lb3:wq.heap.size < w3.heap.size:=World.block_lt_of_cell? w3 _ z0
          go_wp2_with fail
          refine (appendTwo_any v3 L3 v1' W.heap.size w3 HR3.out (by omega) hz3).mono ?_
          rintro e w4 ⟨v4,rfl,hr4,hg4⟩
          have HR4:=hd' hr4
          have HZ4:=hd' (HR3.out.box HZ3.out (by decide) hg4)
          have HB4:=hd' (below_grownRw HB3.out HR3.out hg4 hz3)
          have hz4:=HB4.out.size
          clear hr4 hg4 z0 z1 z2 z3
          obtain ⟨L4,hL4⟩:∃L4,L4=L3++b2 v1':=⟨_,rfl⟩
          have hl4:L4.length=L3.length+2:=by rw [hL4,List.length_append];rfl
          rw [←hL4] at HR4
          have HL4:=hd' hL4
          clear hL4
          have z0:w4.cell? ⟨wq.heap.size,0,none⟩=some (.string ⟨n1.toArray⟩):=by have hh:=HZ4.out;simp [World.cell?,hh]
          have z1:w4.cell? ⟨wq.heap.size,1,none⟩=some (.int .i64 v1'):=by have hh:=HZ4.out;simp [World.cell?,hh]
          have z2:w4.cell? ⟨wq.heap.size,2,none⟩=some (.int .i64 d1):=by have hh:=HZ4.out;simp [World.cell?,hh]
          have z3:w4.cell? ⟨wq.heap.size,3,none⟩=some (.int .i64 m1):=by have hh:=HZ4.out;simp [World.cell?,hh]
          have lb4:wq.heap.size < w4.heap.size:=World.block_lt_of_cell? w4 _ z0
          have HZ4a:=hd' (show (w4.alloc (.cells #[.int .u8 (d1 % 256)] 5)).heap[wq.heap.size]?=some (.cells #[.string ⟨n1.toArray⟩,.int .i64 v1',.int .i64 d1,.int .i64 m1] 192 (0,0)) from (heap_alloc_old _ _ lb4).trans HZ4.out)
          go_wp2_with (at_builtin;refine wpList_append_rw _ rfl _ _ 61 rfl W.heap.size _ L4 rfl (HR4.out.alloc _) _ [lo8 d1] rfl (src_built w4 [lo8 d1] _ (by rw [cells_one])) ?c1 ?c2 ?c3 ?_)
          case c1=>simp;omega
          case c2=>exact .inl (by simp)
          case c3=>simp;omega
          intro v5 w5 hr5 hg5
          have HR5:=hd' hr5
          have HZ5:=hd' ((HR4.out.alloc _).box HZ4a.out (by decide) hg5)
          have HB5:=hd' (below_grownRw (HB4.out.alloc hz4 (.cells #[.int .u8 (d1 % 256)] 5)) (HR4.out.alloc _) hg5 (by simp;omega))
          have hz5:=HB5.out.size
          clear hr5 hg5 z0 z1 z2 z3
          obtain ⟨L5,hL5⟩:∃L5,L5=L4++[lo8 d1]:=⟨_,rfl⟩
          have hl5:L5.length=L4.length+1:=by rw [hL5,List.length_append];rfl
          rw [←hL5] at HR5
          have HL5:=hd' hL5
          clear hL5
          have z0:w5.cell? ⟨wq.heap.size,0,none⟩=some (.string ⟨n1.toArray⟩):=by have hh:=HZ5.out;simp [World.cell?,hh]
          have z1:w5.cell? ⟨wq.heap.size,1,none⟩=some (.int .i64 v1'):=by have hh:=HZ5.out;simp [World.cell?,hh]
          have z2:w5.cell? ⟨wq.heap.size,2,none⟩=some (.int .i64 d1):=by have hh:=HZ5.out;simp [World.cell?,hh]
          have z3:w5.cell? ⟨wq.heap.size,3,none⟩=some (.int .i64 m1):=by have hh:=HZ5.out;simp [World.cell?,hh]
          have lb5:wq.heap.size < w5.heap.size:=World.block_lt_of_cell? w5 _ z0
          go_wp2_with fail
          refine (appendTwo_any v5 L5 m1 W.heap.size w5 HR5.out (by omega) hz5).mono ?_
          rintro e w6 ⟨v6,rfl,hr6,hg6⟩
          have HR6:=hd' hr6
          have HB6:=hd' (below_grownRw HB5.out HR5.out hg6 hz5)
          clear hr6 hg6 z0 z1 z2 z3
          go_wp2_with fail
          go_roundw
          case rel =>
            refine ⟨k+1,by omega,by go_num,?_,HB6.out⟩
            rw [HS.out]
            have h6:=HR6.out
            rw [HL5.out,HL4.out,HL3.out,HL2.out,HL1.out] at h6
            simpa [ebV,List.append_assoc] using h6
          case measure=>simp [intOf];omega
        · have hke:k=es.length:=by omega
          have HFin:=hd' (show Rw wq W.heap.size _ (tbV [a,b,c,d] es) from by
            have h6:=HRq.out
            rw [hke,List.take_length,HP0.out,HFe.out] at h6
            simpa [tbV,List.append_assoc] using h6)
          have HO:=hd' (HBel.out.trans (HBq.out.mono (by omega)))
          have hWw:w.heap.size≤W.heap.size:=by omega
          clear hke
          go_wp2_with fail
          go_ret
          exact ⟨_,rfl,HFin.out.low hWw,HO.out⟩
end Go.Proofs.YtckajeippfpojaaGreat
namespace Go.Proofs.YtckajeippfpojaaGreat
open Go.RowKit Go.Maps
set_option maxRecDepth 100000
theorem src_bytes (w:World) {L B g o:Nat} {l:List UInt8} (c:Nat) (h:BytesIn w L B (some ⟨g,o,none⟩) l):Src Tryz.prog 1 61 (.slice (some ⟨g,o,none⟩) l.length c) l.length (Lib.byteCells l) w:=by
  refine Src.ofSlice _ Tryz.underlying61 ⟨g,o,none⟩ l.length c _ (by simp [cells_length]) (fun j u hj=>?_) (fun u hu=>?_)
  · have hl:j < l.length:=by
      have:=(List.getElem?_eq_some_iff.1 hj).1
      rwa [cells_length] at this
    obtain ⟨b,o',e,_,_,hc⟩:=h (by omega)
    cases e
    rw [Addr.add_lit,hc j hl,←hj]
    simp [Lib.byteCells,hl]
  · simp only [Lib.byteCells,List.mem_map] at hu
    obtain ⟨b,_,rfl⟩:=hu
    rfl
theorem b2s_succ (vec:List Int) (k:Nat) (h:k < vec.length):(vec.take (k+1)).flatMap b2=(vec.take k).flatMap b2++b2 vec[k]:=by
  rw [List.take_succ_eq_append_getElem h,List.flatMap_append]
  simp
theorem cells_five (v d m:Int):Lib.byteCells (b2 v++([lo8 d]++b2 m))=[.int .u8 (v / 256 % 256),.int .u8 (v % 256),.int .u8 (d % 256),.int .u8 (m / 256 % 256),.int .u8 (m % 256)]:=by
  rw [cells_append,cells_append,cells_two,cells_two,cells_one]
  rfl
set_option maxHeartbeats 4000000 in
theorem l3bytes_any (AV:Option Addr) (vec:List Int) (cv:Nat) (A:Option Addr) (es:List En) (c:Nat) (w:World) (hV:IntsIn w 0 w.heap.size AV vec) (hA:EnsIn w 0 w.heap.size A es) (hv:vec.length≤1000) (hn:es.length≤1000) (hbk:ebulk es≤1048576) (hnp:∀i (hi:i < es.length),0 < es[i].name.length) :
    Calls Tryz.prog 173 #[.agg #[.slice AV vec.length cv,.slice A es.length c]] w (NewRw (tbV vec es) w):=by
  have HV:=hd' hV
  have HA:=hd' hA
  have HNp:=hd' hnp
  clear hV hA hnp
  go_enter Tryz.func173,Tryz.ntmps173
  go_wp2_with fail
  obtain ⟨W,hW⟩:∃W,W=w.alloc (.cells #[.slice AV vec.length cv,.slice A es.length c] 38):=⟨_,rfl⟩
  have HX:=hd' (show Bx W w.heap.size [.slice AV vec.length cv,.slice A es.length c] by rw [hW];exact Bx.new' _ _ _ _ rfl)
  have HBel:=hd' (show Below w.heap.size w W by rw [hW];exact (Below.refl _ _).alloc (Nat.le_refl _) _)
  have hz:w.heap.size < W.heap.size:=by rw [hW];simp
  rw [←hW]
  clear hW
  go_loopw [3,4] (fun x i wr=>∃k:Nat,k≤vec.length∧i=.int .i64 k∧Rw wr W.heap.size x ((vec.take k).flatMap b2)∧Below W.heap.size W wr) (fun _ i _=>vec.length - (intOf i).toNat)
  case atStart=>exact ⟨0,by omega,rfl,by simpa using Rw.nil _ _,Below.refl _ _⟩
  case round =>
    obtain ⟨k,hk,rfl,hrw,hbel⟩:=hrel
    have HRw:=hd' hrw
    have HBr:=hd' hbel
    have hzr:=hbel.size
    have x0:=(hbel.cell (p:=⟨w.heap.size,0,none⟩) hz).trans (HX.out 0 (by simp))
    have x1:=(hbel.cell (p:=⟨w.heap.size,1,none⟩) hz).trans (HX.out 1 (by simp))
    simp only [List.getElem_cons_succ,List.getElem_cons_zero] at x0 x1
    have lw:w.heap.size < wr.heap.size:=by omega
    clear hrw hbel
    by_cases hlt:k < vec.length
    · obtain ⟨bV,oV,hAe,_,hbV,hcV⟩:=HV.out (by omega)
      have hcell:=(HBr.out.cell (p:=⟨bV,oV+k,none⟩) (by show bV < _;omega)).trans ((HBel.out.cell (p:=⟨bV,oV+k,none⟩) hbV).trans (hcV k hlt))
      have HS:=hd' (b2s_succ vec k hlt)
      have hl:=b2s_length (vec.take k)
      have hl2:(vec.take k).length≤1000:=by simp;omega
      obtain ⟨x,hx⟩:∃x,x=vec[k]:=⟨_,rfl⟩
      rw [←hx] at hcell HS
      obtain ⟨F,hF⟩:∃F,F=(vec.take k).flatMap b2:=⟨_,rfl⟩
      rw [←hF] at HRw HS hl
      subst hAe
      have lb:bV < wr.heap.size:=by omega
      clear hx hF hcV
      have hlt':(k:Int) < (vec.length:Int):=by omega
      go_wp2_with fail
      have HCell:=hd' (show ∀X,Below W.heap.size W X→X.cell? ⟨w.heap.size,0,none⟩=some (.slice (some ⟨bV,oV,none⟩) vec.length cv)∧X.cell? ⟨bV,oV+k,none⟩=some (.int .i64 x) from fun X hX=>⟨(hX.cell (p:=⟨w.heap.size,0,none⟩) hz).trans ((HBr.out.cell (p:=⟨w.heap.size,0,none⟩) hz).symm.trans x0),(hX.cell (p:=⟨bV,oV+k,none⟩) (by show bV < _;omega)).trans ((HBr.out.cell (p:=⟨bV,oV+k,none⟩) (by show bV < _;omega)).symm.trans hcell)⟩)
      have hpos2:0 < (b2 x).length:=by simp [b2]
      have hlim2:F.length+(b2 x).length≤100000000:=by have:(b2 x).length=2:=rfl;omega
      go_region_held3 (fun X=>X.cell? ⟨w.heap.size,0,none⟩=some (.slice (some ⟨bV,oV,none⟩) vec.length cv)∧X.cell? ⟨bV,oV+k,none⟩=some (.int .i64 x))
        (first|(refine HCell.out _ ?_;repeat first|with_reducible exact HBr.out|with_reducible exact hb5|with_reducible apply Below.drew|with_reducible refine Below.alloc ?_ (by first|omega|(simp;done)|(simp;omega)) _))
        (first
          | (refine step_append_rw _ (by rfl) _ _ 61 (by rfl) W.heap.size _ F (by rfl) (HRw.out.alloc _).drew (.slice (some ⟨wr.heap.size,0,none⟩) 2 2) (b2 x) (by rfl) (src_built_drew _ wr.heap.size rfl (b2 x) _ (by rw [cells_two,←wrap8,←wrap8])) hlim2 (Or.inl hpos2) (by simp;omega) ?_
             intro v1 w1 hr1 hg1
             have HR1:=hd' hr1
             have hb5:Below W.heap.size W w1:=below_grownRw (HBr.out.alloc hzr _).drew (HRw.out.alloc _).drew hg1 (by simp;omega)
             have HB1:=hd' hb5
             clear hr1 hg1))
      go_wp2_with fail
      go_roundw
      case rel=>exact ⟨k+1,by omega,by go_num,by rw [HS.out];exact HR1.out,HB1.out⟩
      case measure=>simp [intOf];omega
    · have hke:k=vec.length:=by omega
      subst hke
      rw [List.take_length] at HRw
      have hl:=b2s_length vec
      obtain ⟨F,hF⟩:∃F,F=vec.flatMap b2:=⟨_,rfl⟩
      rw [←hF] at HRw hl
      have HFe:=hd' hF
      clear hF
      have hge:¬ (vec.length:Int) < (vec.length:Int):=by omega
      go_wp2_with (at_builtin;refine wpList_append_rw _ rfl _ _ 61 rfl W.heap.size _ F rfl (HRw.out.alloc _) _ [lo8 es.length] rfl (src_built wr [lo8 es.length] _ (by rw [cells_one])) ?c1 ?c2 ?c3 ?_)
      try case c1=>first|omega|(simp;omega)
      try case c2=>exact .inl (by simp)
      try case c3=>first|omega|(simp;omega)
      intro v1 w1 hr1 hg1
      have HR1:=hd' hr1
      have HB1:=hd' (below_grownRw (HBr.out.alloc hzr (.cells #[.int .u8 ((es.length:Int) % 256)] 5)) (HRw.out.alloc _) hg1 (by simp;omega))
      have hz1:=HB1.out.size
      obtain ⟨P0,hP0⟩:∃P0,P0=F++[lo8 es.length]:=⟨_,rfl⟩
      have hPl:P0.length=F.length+1:=by rw [hP0,List.length_append];rfl
      rw [←hP0] at HR1
      have HP0:=hd' hP0
      clear hr1 hg1 hP0 HRw x0 x1
      go_wp2_with fail
      go_loopw [3,5] (fun x i ww=>∃k:Nat,k≤es.length∧i=.int .i64 k∧Rw ww W.heap.size x (P0++(es.take k).flatMap ebV)∧Below W.heap.size W ww) (fun _ i _=>es.length - (intOf i).toNat)
      case atStart=>exact ⟨0,Nat.zero_le _,rfl,by simpa using HR1.out,HB1.out⟩
      case round =>
        rename World=>wq
        obtain ⟨k,hk,rfl,hrw,hbel⟩:=hrel
        have HRq:=hd' hrw
        have HBq:=hd' hbel
        have hzq:=hbel.size
        have x1:=(hbel.cell (p:=⟨w.heap.size,1,none⟩) hz).trans (HX.out 1 (by simp))
        simp only [List.getElem_cons_succ,List.getElem_cons_zero] at x1
        have lq:w.heap.size < wq.heap.size:=by omega
        clear hrw hbel
        by_cases hlt:k < es.length
        · obtain ⟨bA,oA,hAe,_,hbA,hcA⟩:=HA.out (by omega)
          have HO:=hd' (HBel.out.trans (HBq.out.mono (by omega)))
          obtain ⟨An,cn,c0,c1,c2,c3,hby⟩:=(hcA k hlt).keep (Nat.zero_le _) hbA (fun p _ hp=>HO.out.cell hp)
          have HS:=hd' (ebs_take_succ es k hlt)
          have hql:=ebs_length (es.take k)
          have hqb:=ebulk_take_succ es k hlt
          have hqe:=ebulk_take_le es (k+1)
          have hnp:=HNp.out k hlt
          obtain ⟨e,he⟩:∃e,e=es[k]:=⟨_,rfl⟩
          rw [←he] at c0 c1 c2 c3 HS hqb hby hnp
          have htl:(es.take k).length≤1000:=by simp;omega
          obtain ⟨F2,hF2⟩:∃F2,F2=(es.take k).flatMap ebV:=⟨_,rfl⟩
          rw [←hF2] at HRq HS hql
          have hnl:e.name.length≤1048576:=by omega
          have hFl:F2.length≤2000000:=by omega
          clear hcA he hF2 hql hqb hqe
          subst hAe
          obtain ⟨n1,v1',d1,m1⟩:=e
          simp only at c0 c1 c2 c3 hnl hby hnp
          obtain ⟨gN,oN,hgN,_,hgb,_⟩:=hby hnp
          subst hgN
          have HBy:=hd' hby
          clear hby
          have hlt':(k:Int) < (es.length:Int):=by omega
          have lA:bA < wq.heap.size:=by omega
          obtain ⟨L1,hL1⟩:∃L1,L1=P0++F2:=⟨_,rfl⟩
          have hl1:L1.length≤2100000:=by rw [hL1,List.length_append];omega
          rw [←hL1] at HRq
          have HL1:=hd' hL1
          clear hL1
          go_wp2_with fail
          obtain ⟨Wb,hWb⟩:∃Wb,Wb=wq.alloc (.cells #[.slice (some ⟨gN,oN,none⟩) n1.length cn,.int .i64 v1',.int .i64 d1,.int .i64 m1] 180):=⟨_,rfl⟩
          have HRb:=hd' (show Rw Wb W.heap.size _ L1 by rw [hWb];exact HRq.out.alloc _)
          have HZb:=hd' (show Wb.heap[wq.heap.size]?=some (.cells #[.slice (some ⟨gN,oN,none⟩) n1.length cn,.int .i64 v1',.int .i64 d1,.int .i64 m1] 180 (0,0)) by rw [hWb];exact heap_alloc_new _ _)
          have HBb:=hd' (show Below W.heap.size W Wb by rw [hWb];exact HBq.out.alloc hzq _)
          have HByb:=hd' (show BytesIn Wb 0 w.heap.size (some ⟨gN,oN,none⟩) n1 from HBy.out.keep fun p _ hp=>by rw [hWb];exact World.cell?_alloc_lt _ _ _ (by omega))
          have hzb:=HBb.out.size
          have hlb:wq.heap.size < Wb.heap.size:=by rw [hWb];simp
          rw [←hWb]
          clear hWb c0 c1 c2 c3 x1 HRq HBq HBy
          have q0:Wb.cell? ⟨wq.heap.size,0,none⟩=some (.slice (some ⟨gN,oN,none⟩) n1.length cn):=by have hh:=HZb.out;simp [World.cell?,hh]
          have hpos:0 < ([lo8 n1.length]:List UInt8).length:=by simp
          have hlim:L1.length+([lo8 n1.length]:List UInt8).length≤100000000:=by simp;omega
          have HZc:=hd' (show (Wb.alloc (.cells #[.int .u8 (IntKind.u8.wrap (n1.length:Int))] 5)).drew.heap[wq.heap.size]?=some (.cells #[.slice (some ⟨gN,oN,none⟩) n1.length cn,.int .i64 v1',.int .i64 d1,.int .i64 m1] 180 (0,0)) from (heap_alloc_old Wb _ hlb).trans HZb.out)
          go_region_held3 (fun X=>X.cell? ⟨wq.heap.size,0,none⟩=some (.slice (some ⟨gN,oN,none⟩) n1.length cn))
            (first|with_reducible exact q0|with_reducible exact q5|with_reducible exact q6|exact q0|exact (World.cell?_alloc_lt Wb _ ⟨wq.heap.size,0,none⟩ hlb).trans q0)
            (first
              | (refine step_append_rw _ (by rfl) _ _ 61 (by rfl) W.heap.size _ L1 (by rfl) (HRb.out.alloc _).drew (.slice (some ⟨Wb.heap.size,0,none⟩) 1 1) [lo8 n1.length] (by rfl) (src_built_drew _ Wb.heap.size rfl [lo8 n1.length] _ (by rw [cells_one,←wrap8])) hlim (Or.inl hpos) (by simp;omega) ?_
                 intro v5 w5 hr5 hg5
                 have HR5:=hd' hr5
                 have HZ5:=hd' ((HRb.out.alloc _).drew.box HZc.out (by decide) hg5)
                 have HB5:=hd' (below_grownRw (HBb.out.alloc hzb _).drew (HRb.out.alloc _).drew hg5 (by simp;omega))
                 have hz5:=HB5.out.size
                 have q5:w5.cell? ⟨wq.heap.size,0,none⟩=some (.slice (some ⟨gN,oN,none⟩) n1.length cn):=by have hh:=HZ5.out;simp [World.cell?,hh]
                 have HBy5:=hd' (show BytesIn w5 0 w.heap.size (some ⟨gN,oN,none⟩) n1 from HByb.out.keep fun p _ hp=>(HB5.out.cell (by omega)).trans (HBb.out.cell (by omega)).symm)
                 have hl5:(L1++[lo8 n1.length]).length=L1.length+1:=by rw [List.length_append];rfl
                 clear hr5 hg5)
              | (refine step_append_rw _ (by rfl) _ _ 61 (by rfl) W.heap.size v5 (L1++[lo8 n1.length]) (by rfl) HR5.out (.slice (some ⟨gN,oN,none⟩) n1.length cn) n1 (by rfl) (src_bytes _ cn HBy5.out) (by omega) (Or.inl hnp) hz5 ?_
                 intro v6 w6 hr6 hg6
                 have HR6:=hd' hr6
                 have HZ6:=hd' (HR5.out.box HZ5.out (by decide) hg6)
                 have HB6:=hd' (below_grownRw HB5.out HR5.out hg6 hz5)
                 have hz6:=HB6.out.size
                 have q6:w6.cell? ⟨wq.heap.size,0,none⟩=some (.slice (some ⟨gN,oN,none⟩) n1.length cn):=by have hh:=HZ6.out;simp [World.cell?,hh]
                 clear hr6 hg6))
          obtain ⟨L3,hL3⟩:∃L3,L3=L1++[lo8 n1.length]++n1:=⟨_,rfl⟩
          have hl3:L3.length=L1.length+1+n1.length:=by rw [hL3,List.length_append,hl5]
          rw [←hL3] at HR6
          have HL3:=hd' hL3
          clear hL3 q0 q5
          have z1:w6.cell? ⟨wq.heap.size,1,none⟩=some (.int .i64 v1'):=by have hh:=HZ6.out;simp [World.cell?,hh]
          have z2:w6.cell? ⟨wq.heap.size,2,none⟩=some (.int .i64 d1):=by have hh:=HZ6.out;simp [World.cell?,hh]
          have z3:w6.cell? ⟨wq.heap.size,3,none⟩=some (.int .i64 m1):=by have hh:=HZ6.out;simp [World.cell?,hh]
          have lb6:wq.heap.size < w6.heap.size:=World.block_lt_of_cell? w6 _ z1
          obtain ⟨L4,hL4⟩:∃L4,L4=b2 v1'++([lo8 d1]++b2 m1):=⟨_,rfl⟩
          have hl4:L4.length=5:=by rw [hL4];rfl
          have hc4:Lib.byteCells L4=[.int .u8 (v1' / 256 % 256),.int .u8 (v1' % 256),.int .u8 (d1 % 256),.int .u8 (m1 / 256 % 256),.int .u8 (m1 % 256)]:=by rw [hL4];exact cells_five v1' d1 m1
          have HL4:=hd' hL4
          have HC4:=hd' hc4
          have hs4:Src Tryz.prog 1 61 (.slice (some ⟨w6.heap.size,0,none⟩) 5 5) L4.length (Lib.byteCells L4) (w6.alloc (.cells #[.int .u8 (v1' / 256 % 256),.int .u8 (v1' % 256),.int .u8 (d1 % 256),.int .u8 (m1 / 256 % 256),.int .u8 (m1 % 256)] 5)):=by
            have h:=src_built w6 L4 #[.int .u8 (v1' / 256 % 256),.int .u8 (v1' % 256),.int .u8 (d1 % 256),.int .u8 (m1 / 256 % 256),.int .u8 (m1 % 256)] (by rw [HC4.out])
            rw [hl4] at h ⊢
            exact h
          have HS4:=hd' hs4
          clear hL4 hc4 hs4 q6
          go_wp2_with (at_builtin;refine wpList_append_rw _ rfl _ _ 61 rfl W.heap.size _ L3 rfl (HR6.out.alloc _) _ L4 rfl HS4.out ?d1 ?d2 ?d3 ?_)
          try case d1=>first|omega|(simp;omega)
          try case d2=>exact .inl (by omega)
          try case d3=>first|omega|(simp;omega)
          intro v7 w7 hr7 hg7
          have HR7:=hd' hr7
          have HB7:=hd' (below_grownRw (HB6.out.alloc hz6 _) (HR6.out.alloc _) hg7 (by simp;omega))
          clear hr7 hg7 z1 z2 z3
          go_wp2_with fail
          go_roundw
          case rel =>
            refine ⟨k+1,by omega,by go_num,?_,HB7.out⟩
            rw [HS.out]
            have h6:=HR7.out
            rw [HL4.out,HL3.out,HL1.out] at h6
            simpa [ebV,List.append_assoc] using h6
          case measure=>simp [intOf];omega
        · have hke:k=es.length:=by omega
          have HFin:=hd' (show Rw wq W.heap.size _ (tbV vec es) from by
            have h6:=HRq.out
            rw [hke,List.take_length,HP0.out,HFe.out] at h6
            simpa [tbV,List.append_assoc] using h6)
          have HO:=hd' (HBel.out.trans (HBq.out.mono (by omega)))
          have hWw:w.heap.size≤W.heap.size:=by omega
          clear hke
          go_wp2_with fail
          go_ret
          exact ⟨_,rfl,HFin.out.low hWw,HO.out⟩
end Go.Proofs.YtckajeippfpojaaGreat
namespace Go.Proofs.YtckajeippfpojaaGreat
open Go.RowKit Go.Maps
set_option maxRecDepth 100000
def bdV (au sq pv:Int) (vec:List Int) (es:List En):List UInt8:=[lo8 au,lo8 sq]++b2 pv++tbV vec es
theorem bdV_length (au sq pv:Int) (vec:List Int) (es:List En):(bdV au sq pv vec es).length=4+(tbV vec es).length:=by
  unfold bdV
  rw [List.length_append,List.length_append]
  rfl
theorem cells_pair (a b:Int):Lib.byteCells [lo8 a,lo8 b]=[.int .u8 (a % 256),.int .u8 (b % 256)]:=by simp [Lib.byteCells,lo8_val]
theorem rw_built (w:World) (B b:Nat) (hb:w.heap.size=b) (l:List UInt8) (cs:Array Value) (hc:cs.toList=Lib.byteCells l) (hB:B≤w.heap.size) (hl:l.length≤1000000):Rw (w.alloc (.cells cs 5)) B (.slice (some ⟨b,0,none⟩) l.length l.length) l:=by
  subst hb
  have hs:cs.size=l.length:=by rw [←Array.length_toList,hc,cells_length]
  exact .inr ⟨cells_length l,w.heap.size,l.length,cs,(0,0),rfl,hB,heap_alloc_new w _,.inl rfl,Nat.le_refl _,by unfold maxLen;omega,hs,by rw [hc,←cells_length l,List.take_length]⟩
theorem Rw.src {w:World} {B:Nat} {v:Value} {l:List UInt8} (h:Rw w B v l) (hl:0 < l.length):Src Tryz.prog 1 61 v l.length (Lib.byteCells l) w:=by
  rcases h with ⟨_,rfl⟩|h
  · simp at hl
  · obtain ⟨g,cap,rfl,_,_,_,_,hc⟩:=h.cells
    exact Src.ofSlice _ Tryz.underlying61 ⟨g,0,none⟩ l.length cap _ (by simp [cells_length]) hc (fun u hu=>by
      simp only [Lib.byteCells,List.mem_map] at hu
      obtain ⟨b,_,rfl⟩:=hu
      rfl)
theorem Rw.below {w w':World} {B:Nat} {v:Value} {l:List UInt8} (h:Rw w B v l) (hb:Below w.heap.size w w'):Rw w' B v l:=h.same fun g hg=>hb.block g hg
theorem Rw.fr {w:World} {B:Nat} {v:Value} {l:List UInt8} (h:Rw w B v l):∃A c,v=.slice A l.length c∧BytesFr w B w.heap.size A l:=by
  rcases h with ⟨rfl,rfl⟩|⟨_,g,cap,cur,fz,rfl,hb,hg,hfz,hnc,_,hcs,htk⟩
  · exact ⟨none,0,rfl,fun h=>absurd h (by simp)⟩
  · refine ⟨some ⟨g,0,none⟩,cap,rfl,fun _=>⟨g,0,rfl,hb,(Array.getElem?_eq_some_iff.1 hg).1,fun j hj=>⟨?_,?_⟩⟩⟩
    · have hu:(Lib.byteCells l)[j]?=some (.int .u8 (l[j].toNat:Int)):=by simp [Lib.byteCells,hj]
      rw [←htk,List.getElem?_take,if_pos (by omega)] at hu
      rw [Nat.zero_add,World.cell?,hg]
      simpa using hu
    · rw [Nat.zero_add]
      simp only [World.frozen?,hg]
      rcases hfz with h2|h2
      · simp [h2]
      · simp
        omega
theorem treeB_names0 {vec:List Int} {es:List En} (h:treeB vec es=true):∀i (hi:i < es.length),0 < es[i].name.length:=by
  intro i hi
  unfold treeB at h
  simp only [Bool.and_eq_true,decide_eq_true_eq] at h
  have hn:=List.all_eq_true.1 h.1.2 _ (List.getElem_mem hi)
  cases hx:es[i].name with
  | nil=>rw [hx] at hn;exact absurd hn (by decide)
  | cons x xs=>simp
set_option maxHeartbeats 2000000 in
theorem bodyEnc_any (au sq pv a b c d:Int) (A:Option Addr) (es:List En) (cap:Nat) (w:World) (hA:EvsIn w 0 w.heap.size A es) (hn:es.length≤1000) (hbk:ebulk es≤1048576) :
    Calls Tryz.prog 64 #[.agg #[.int .i64 au,.int .i64 sq,.int .i64 pv,.int .i64 a,.int .i64 b,.int .i64 c,.int .i64 d,.slice A es.length cap]] w (NewRw (bdV au sq pv [a,b,c,d] es) w):=by
  have HA:=hd' hA
  have HT:=hd' (tbV_length [a,b,c,d] es)
  clear hA
  go_enter Tryz.func64,Tryz.ntmps64
  go_wp2_with fail
  obtain ⟨W,hW⟩:∃W,W=w.alloc (.cells #[.int .i64 au,.int .i64 sq,.int .i64 pv,.int .i64 a,.int .i64 b,.int .i64 c,.int .i64 d,.slice A es.length cap] 103):=⟨_,rfl⟩
  have HX:=hd' (show Bx W w.heap.size [.int .i64 au,.int .i64 sq,.int .i64 pv,.int .i64 a,.int .i64 b,.int .i64 c,.int .i64 d,.slice A es.length cap] by rw [hW];exact Bx.new' _ _ _ _ rfl)
  have HBel:=hd' (show Below w.heap.size w W by rw [hW];exact (Below.refl _ _).alloc (Nat.le_refl _) _)
  have hz:W.heap.size=w.heap.size+1:=by rw [hW];simp
  obtain ⟨W2,hW2⟩:∃W2,W2=W.alloc (.cells #[.int .u8 (au % 256),.int .u8 (sq % 256)] 5):=⟨_,rfl⟩
  have HR2:=hd' (show Rw W2 W.heap.size (.slice (some ⟨w.heap.size+1,0,none⟩) 2 2) [lo8 au,lo8 sq] by rw [hW2];exact rw_built W W.heap.size (w.heap.size+1) hz [lo8 au,lo8 sq] _ (by rw [cells_pair]) (Nat.le_refl _) (by simp))
  have HBW2:=hd' (show Below W.heap.size W W2 by rw [hW2];exact (Below.refl _ _).alloc (Nat.le_refl _) _)
  rw [←hW,←hW2]
  have hzw:w.heap.size < W.heap.size:=by omega
  have hz2:=HBW2.out.size
  clear hW hW2 hz
  refine (appendTwo_any _ [lo8 au,lo8 sq] pv W.heap.size W2 HR2.out (by simp) hz2).mono ?_
  rintro e w3 ⟨v3,rfl,hr3,hg3⟩
  have HR3:=hd' hr3
  have HB3:=hd' (below_grownRw HBW2.out HR2.out hg3 hz2)
  have hz3:=HB3.out.size
  have x3:=(HB3.out.cell (p:=⟨w.heap.size,3,none⟩) hzw).trans (HX.out 3 (by simp))
  have x4:=(HB3.out.cell (p:=⟨w.heap.size,4,none⟩) hzw).trans (HX.out 4 (by simp))
  have x5:=(HB3.out.cell (p:=⟨w.heap.size,5,none⟩) hzw).trans (HX.out 5 (by simp))
  have x6:=(HB3.out.cell (p:=⟨w.heap.size,6,none⟩) hzw).trans (HX.out 6 (by simp))
  have x7:=(HB3.out.cell (p:=⟨w.heap.size,7,none⟩) hzw).trans (HX.out 7 (by simp))
  simp only [List.getElem_cons_succ,List.getElem_cons_zero] at x3 x4 x5 x6 x7
  have lw:w.heap.size < w3.heap.size:=by omega
  clear hr3 hg3
  go_wp2_with fail
  refine (encoded_any a b c d A es cap w3 ((HA.out.below (HBel.out.trans (HB3.out.mono (by omega)))).mono (by omega)) hn hbk).mono ?_
  rintro e w4 ⟨v4,rfl,hr4,hb4⟩
  have HR4:=hd' hr4
  have HR3b:=hd' (HR3.out.below hb4)
  have HB4:=hd' (HB3.out.trans (hb4.mono hz3))
  have hz4:=HB4.out.size
  obtain ⟨T,hT⟩:∃T,T=tbV [a,b,c,d] es:=⟨_,rfl⟩
  rw [←hT] at HR4 HT
  have hTl:T.length=2*[a,b,c,d].length+1+(ebulk es+6*es.length):=HT.out
  have hT0:0 < T.length:=by omega
  have hT1:T.length≤2000000:=by
    have:[a,b,c,d].length=4:=rfl
    omega
  have HTe:=hd' hT
  obtain ⟨L3,hL3⟩:∃L3,L3=[lo8 au,lo8 sq]++b2 pv:=⟨_,rfl⟩
  have hl3:L3.length=4:=by rw [hL3];rfl
  rw [←hL3] at HR3b
  have HL3:=hd' hL3
  clear hr4 hb4 hT hTl hL3 HT x3 x4 x5 x6 x7 HR3 HR2 HX
  go_wp2_with (at_builtin;refine wpList_append_rw _ rfl _ _ 61 rfl W.heap.size v3 L3 rfl HR3b.out v4 T rfl (HR4.out.src hT0) ?c1 ?c2 ?c3 ?_)
  try case c1=>omega
  try case c2=>exact .inl hT0
  try case c3=>exact hz4
  intro v5 w5 hr5 hg5
  have HR5:=hd' hr5
  have HB5:=hd' (HBel.out.trans ((below_grownRw HB4.out HR3b.out hg5 hz4).mono (by omega)))
  clear hr5 hg5
  have hWw:w.heap.size≤W.heap.size:=by omega
  go_wp2_with fail
  go_ret
  refine ⟨v5,rfl,?_,HB5.out⟩
  have h:=HR5.out
  rw [HL3.out,HTe.out] at h
  exact h.low hWw
end Go.Proofs.YtckajeippfpojaaGreat
namespace Go.Proofs.YtckajeippfpojaaGreat
open Go.RowKit Go.Maps
set_option maxRecDepth 100000
theorem treeB_vec0 {vec:List Int} {es:List En} (h:treeB vec es=true):vec.length=4:=by
  unfold treeB at h
  simp only [Bool.and_eq_true] at h
  obtain ⟨a,b,c,d,e⟩:=vecB_four h.1.1.1
  rw [e]
  rfl
theorem Rw.kept {w w':World} {B:Nat} {v:Value} {l:List UInt8} {row:Option Nat} (h:Rw w B v l) (hg:w.grownBy w' row) (hne:v.ownBlock≠row):Rw w' B v l:=h.imp id fun h=>h.kept hg hne
set_option maxHeartbeats 1000000 in
theorem l4two_any (v:Value) (l:List UInt8) (n:Int) (B:Nat) (w:World) (hr:Rw w B v l) (hl:l.length≤90000000) (hB:B≤w.heap.size) :
    Calls Tryz.prog 172 #[v,.int .i64 n] w fun e w'=>∃v',e=.returned v'∧Rw w' B v' (l++b2 n)∧w.grownBy w' v.ownBlock:=by
  have HR:=hd' hr
  clear hr
  go_enter Tryz.func172,Tryz.ntmps172
  go_wp2_with (at_builtin;refine wpList_append_rw _ rfl _ _ 61 rfl B v l rfl (HR.out.alloc _) _ (b2 n) rfl (src_built w (b2 n) _ (by rw [cells_two])) ?c1 ?c2 ?c3 ?_)
  case c1=>simp [b2];omega
  case c2=>exact .inl (by simp [b2])
  case c3=>simp;omega
  intro v' w' h1 h2
  have H1:=hd' h1
  have h3:=h2
  have H3:=hd' (show w.grownBy w' v.ownBlock from ⟨h2.os,h2.tape,h2.output,by have:=h2.size;simp at this;omega,fun k hk hne=>(h2.block k (by simp;omega) hne).trans (heap_alloc_old w _ hk)⟩)
  clear h1 h2 h3
  go_wp2_with fail
  go_ret
  exact ⟨v',rfl,H1.out,H3.out⟩
set_option maxHeartbeats 4000000 in
theorem l4body_any (au sq pv:Int) (AV:Option Addr) (vec:List Int) (cv:Nat) (A:Option Addr) (es:List En) (c:Nat) (sg:Int) (w:World) (hV:IntsIn w 0 w.heap.size AV vec) (hA:EnsIn w 0 w.heap.size A es) (hv:vec.length≤1000) (hn:es.length≤1000) (hbk:ebulk es≤1048576) (hnp:∀i (hi:i < es.length),0 < es[i].name.length) :
    Calls Tryz.prog 108 #[.agg #[.int .i64 au,.int .i64 sq,.int .i64 pv,.slice AV vec.length cv,.slice A es.length c,.int .i64 sg]] w (NewRw (bdV au sq pv vec es) w):=by
  have hl3:=fun (X:World) (hX:Below w.heap.size w X)=>l3bytes_any AV vec cv A es c X ((hV.keep fun p _ hp=>hX.cell hp).mono hX.size) ((hA.below hX).mono hX.size) hv hn hbk hnp
  have hTl:=tbV_length vec es
  obtain ⟨T,hT⟩:∃T,T=tbV vec es:=⟨_,rfl⟩
  rw [←hT] at hl3 hTl
  have hT0:0 < T.length:=by omega
  have hT1:T.length≤2000000:=by omega
  have HTe:=hd' hT
  have HL3w:=hd' hl3
  clear hl3 hV hA hT hTl
  go_enter Tryz.func108,Tryz.ntmps108
  go_wp2_with fail
  obtain ⟨W,hW⟩:∃W,W=w.alloc (.cells #[.int .i64 au,.int .i64 sq,.int .i64 pv,.slice AV vec.length cv,.slice A es.length c,.int .i64 sg] 40):=⟨_,rfl⟩
  have HX:=hd' (show Bx W w.heap.size [.int .i64 au,.int .i64 sq,.int .i64 pv,.slice AV vec.length cv,.slice A es.length c,.int .i64 sg] by rw [hW];exact Bx.new' _ _ _ _ rfl)
  have HBel:=hd' (show Below w.heap.size w W by rw [hW];exact (Below.refl _ _).alloc (Nat.le_refl _) _)
  have hzW:w.heap.size < W.heap.size:=by rw [hW];simp
  rw [←hW]
  clear hW
  have HL3:=hd' (fun (X:World) (hX:Below W.heap.size W X)=>HL3w.out X (HBel.out.trans (hX.mono (by omega))))
  have HCell:=hd' (show ∀X,Below W.heap.size W X→X.cell? ⟨w.heap.size,0,none⟩=some (.int .i64 au)∧X.cell? ⟨w.heap.size,1,none⟩=some (.int .i64 sq)∧X.cell? ⟨w.heap.size,2,none⟩=some (.int .i64 pv)∧X.cell? ⟨w.heap.size,3,none⟩=some (.slice AV vec.length cv)∧X.cell? ⟨w.heap.size,4,none⟩=some (.slice A es.length c) from fun X hX=>⟨(hX.cell (p:=⟨w.heap.size,0,none⟩) hzW).trans (HX.out 0 (by simp)),(hX.cell (p:=⟨w.heap.size,1,none⟩) hzW).trans (HX.out 1 (by simp)),(hX.cell (p:=⟨w.heap.size,2,none⟩) hzW).trans (HX.out 2 (by simp)),(hX.cell (p:=⟨w.heap.size,3,none⟩) hzW).trans (HX.out 3 (by simp)),(hX.cell (p:=⟨w.heap.size,4,none⟩) hzW).trans (HX.out 4 (by simp))⟩)
  have hp2:0 < ([lo8 au,lo8 sq]:List UInt8).length:=by simp
  have hl2:([lo8 au,lo8 sq]:List UInt8).length≤90000000:=by simp
  have hl2b:([lo8 au,lo8 sq]:List UInt8).length≤1000000:=by simp
  obtain ⟨L2,hL2⟩:∃L2,L2=[lo8 au,lo8 sq]++b2 pv:=⟨_,rfl⟩
  have hl4:L2.length=4:=by rw [hL2];rfl
  have HL2:=hd' hL2
  have hlim:L2.length+T.length≤100000000:=by omega
  have HW2:=hd' (rw_built W W.heap.size W.heap.size rfl [lo8 au,lo8 sq] #[.int .u8 (IntKind.u8.wrap au),.int .u8 (IntKind.u8.wrap sq)] (by rw [cells_pair,←wrap8,←wrap8]) (Nat.le_refl _) hl2b).drew
  have HWb:=hd' (show ∀X:World,W.heap.size≤X.heap.size→Rw (X.alloc (.cells #[.int .u8 (IntKind.u8.wrap au),.int .u8 (IntKind.u8.wrap sq)] 5)) W.heap.size (.slice (some ⟨X.heap.size,0,none⟩) 2 2) [lo8 au,lo8 sq] from fun X hX=>rw_built X W.heap.size X.heap.size rfl [lo8 au,lo8 sq] #[.int .u8 (IntKind.u8.wrap au),.int .u8 (IntKind.u8.wrap sq)] (by rw [cells_pair,←wrap8,←wrap8]) hX hl2b)
  clear hL2 HX HL3w
  go_region_held3 (fun X=>X.cell? ⟨w.heap.size,0,none⟩=some (.int .i64 au)∧X.cell? ⟨w.heap.size,1,none⟩=some (.int .i64 sq)∧X.cell? ⟨w.heap.size,2,none⟩=some (.int .i64 pv)∧X.cell? ⟨w.heap.size,3,none⟩=some (.slice AV vec.length cv)∧X.cell? ⟨w.heap.size,4,none⟩=some (.slice A es.length c))
    (first|(refine HCell.out _ ?_;repeat first|with_reducible exact Below.refl _ _|with_reducible exact hb3w|with_reducible exact hb2w|with_reducible exact hb5w|with_reducible apply Below.drew|with_reducible refine Below.alloc ?_ (by first|exact Nat.le_refl _|omega|(simp;done)|(simp;omega)) _))
    (first
      | (go_at_call 172
         have hrow:∀(X:World) (v:Value),Rw X W.heap.size v [lo8 au,lo8 sq]→Below W.heap.size W X→Calls Tryz.prog 172 #[v,.int .i64 pv] X fun e w'=>∃v',e=.returned v'∧Rw w' W.heap.size v' L2∧X.grownBy w' v.ownBlock∧Below W.heap.size W w':=fun X v hr hX=>(l4two_any v [lo8 au,lo8 sq] pv W.heap.size X hr hl2 hX.size).mono fun e w' ⟨v',h1,h2,h3⟩=>⟨v',h1,by rw [HL2.out];exact h2,h3,below_grownRw hX hr h3 hX.size⟩
         refine (hrow _ _ (by first|exact HW2.out|exact HRk.out|exact HWb.out _ hz3w) (by repeat first|with_reducible exact Below.refl _ _|with_reducible exact hb3w|with_reducible exact hb2w|with_reducible apply Below.drew|with_reducible refine Below.alloc ?_ (by first|exact Nat.le_refl _|omega|(simp;done)|(simp;omega)) _)).mono ?_
         rintro r w2 ⟨v2,rfl,hr2,hg2,hb2w⟩
         have hz2w:=hb2w.size
         have HR2:=hd' hr2
         try (have hr3k:=HR3.out.kept hg2 (fun e=>by have h9:=(HR3l.out.lt W.heap.size e).1;simp at h9);have HR3k:=hd' hr3k;clear hr3k)
         try (have hr3k:=(HR3.out.alloc _).kept hg2 (fun e=>by have h9:=(HR3.out.lt _ e).2;omega);have HR3k:=hd' hr3k;clear hr3k)
         clear hrow hr2)
      | (go_at_call 173
         refine (HL3.out _ (by repeat first|with_reducible exact Below.refl _ _|with_reducible exact hb3w|with_reducible exact hb2w|with_reducible apply Below.drew|with_reducible refine Below.alloc ?_ (by first|exact Nat.le_refl _|omega|(simp;done)|(simp;omega)) _)).mono ?_
         rintro r w3 ⟨v3,rfl,hr3,hb3⟩
         have hb3w:Below W.heap.size W w3:=Below.trans (by repeat first|with_reducible exact Below.refl _ _|with_reducible exact hb3w|with_reducible exact hb2w|with_reducible apply Below.drew|with_reducible refine Below.alloc ?_ (by first|exact Nat.le_refl _|omega|(simp;done)|(simp;omega)) _) (hb3.mono (by first|exact Nat.le_refl _|omega|(simp;done)|(simp;omega)))
         have hz3w:=hb3w.size
         have HR3l:=hd' hr3
         have HR3:=hd' (show Rw w3 W.heap.size v3 T from hr3.low (by first|exact Nat.le_refl _|omega|(simp;done)|(simp;omega)))
         try (have hk:=HR2.out.below hb3;have HR2k:=hd' hk;clear hk)
         try (have hk:=HW2.out.below hb3;have HRk:=hd' hk;clear hk)
         clear hr3 hb3)
      | (refine step_append_rw _ (by rfl) _ _ 61 (by rfl) W.heap.size v2 L2 (by rfl) (by first|exact HR2k.out|exact HR2.out) v3 T (by rfl) (by first|exact HR3k.out.src hT0|exact HR3.out.src hT0) hlim (Or.inl hT0) (by first|exact hz2w|exact hz3w) ?_
         intro v5 w5 hr5 hg5
         have HR5:=hd' hr5
         have hb5w:Below W.heap.size W w5:=by
           first
             | exact below_grownRw hb3w HR2k.out hg5 hz3w
             | exact below_grownRw hb2w HR2.out hg5 hz2w
         have HB5:=hd' (HBel.out.trans (hb5w.mono (by omega)))
         clear hr5 hg5))
  have hWw:w.heap.size≤W.heap.size:=by omega
  have HFin:=hd' (show Rw w5 w.heap.size v5 (bdV au sq pv vec es) from by
    have h:=HR5.out
    rw [HL2.out,HTe.out] at h
    exact h.low hWw)
  clear HCell
  go_wp2_with fail
  go_ret
  exact ⟨v5,rfl,HFin.out,HB5.out⟩
end Go.Proofs.YtckajeippfpojaaGreat
namespace Go.Proofs.YtckajeippfpojaaGreat
open Go.RowKit Go.Maps
set_option maxRecDepth 100000
def bdT (au sq pv:Int) (vec:List Int) (es:List En):Tm:=⟨2,0,0,bdV au sq pv vec es⟩
def NewTx (l:List UInt8) (w:World) (e:Ending) (w':World):Prop :=
  ∃A c,e=.returned (.agg #[.int .i64 2,.int .i64 0,.int .i64 0,.slice A l.length c])∧BytesIn w' 0 w'.heap.size A l∧Below w.heap.size w w'
theorem put4_get {w:World} {b:Nat} {u0 u1 u2 u3 v0 v1 v2 v3:Value} (h:Bx w b [u0,u1,u2,u3]) :
    Bx ((((w.setCell ⟨b,0,none⟩ v0).setCell ⟨b,1,none⟩ v1).setCell ⟨b,2,none⟩ v2).setCell ⟨b,3,none⟩ v3) b [v0,v1,v2,v3]:=putAll_bx (vs:=[v0,v1,v2,v3]) h rfl
theorem put4_other {w:World} {b:Nat} {v0 v1 v2 v3:Value} {p:Addr} (hp:p.block≠b) :
    ((((w.setCell ⟨b,0,none⟩ v0).setCell ⟨b,1,none⟩ v1).setCell ⟨b,2,none⟩ v2).setCell ⟨b,3,none⟩ v3).cell? p=w.cell? p:=putAll_other (o:=0) (vs:=[v0,v1,v2,v3]) hp
theorem put4_below {w a:World} {b B:Nat} {v0 v1 v2 v3:Value} (h:Below B a w) (hB:B≤b) :
    Below B a ((((w.setCell ⟨b,0,none⟩ v0).setCell ⟨b,1,none⟩ v1).setCell ⟨b,2,none⟩ v2).setCell ⟨b,3,none⟩ v3):=putAll_below (o:=0) (vs:=[v0,v1,v2,v3]) h hB
set_option maxHeartbeats 2000000 in
theorem l4term_any (au sq pv:Int) (AV:Option Addr) (vec:List Int) (cv:Nat) (A:Option Addr) (es:List En) (c:Nat) (sg:Int) (w:World) (hV:IntsIn w 0 w.heap.size AV vec) (hA:EnsIn w 0 w.heap.size A es) (hv:vec.length≤1000) (hn:es.length≤1000) (hbk:ebulk es≤1048576) (hnp:∀i (hi:i < es.length),0 < es[i].name.length) :
    Calls Tryz.prog 111 #[.agg #[.int .i64 au,.int .i64 sq,.int .i64 pv,.slice AV vec.length cv,.slice A es.length c,.int .i64 sg]] w (NewTx (bdV au sq pv vec es) w):=by
  have HV:=hd' hV
  have HA:=hd' hA
  obtain ⟨T,hT⟩:∃T,T=bdV au sq pv vec es:=⟨_,rfl⟩
  have hl3:=fun (X:World) (hX:Below w.heap.size w X)=>l4body_any au sq pv AV vec cv A es c sg X ((hV.keep fun p _ hp=>hX.cell hp).mono hX.size) ((hA.below hX).mono hX.size) hv hn hbk hnp
  rw [←hT] at hl3 ⊢
  have HB4:=hd' hl3
  clear hl3 hT hV hA
  go_enter Tryz.func111,Tryz.ntmps111
  go_wp2_with fail
  obtain ⟨W0,hW0⟩:∃W0,W0=w.alloc (.cells #[.int .i64 au,.int .i64 sq,.int .i64 pv,.slice AV vec.length cv,.slice A es.length c,.int .i64 sg] 40):=⟨_,rfl⟩
  obtain ⟨W,hW⟩:∃W,W=W0.alloc (.cells #[.int .i64 0,.int .i64 0,.int .i64 0,.slice none 0 0] 112):=⟨_,rfl⟩
  have hz0:W0.heap.size=w.heap.size+1:=by rw [hW0];simp
  have hz:w.heap.size+1 < W.heap.size:=by rw [hW];simp [hz0]
  have HX:=hd' (show Bx W (w.heap.size+1) [.int .i64 0,.int .i64 0,.int .i64 0,.slice none 0 0] by rw [hW,←hz0];exact Bx.new' _ _ _ _ rfl)
  have HF:=hd' (show ∀o,W.frozen? ⟨w.heap.size+1,o,none⟩=false from fun o=>by rw [hW,hW0];exact (((Fresh.refl w).alloc _ _).alloc _ _) ⟨w.heap.size+1,o,none⟩ (by show w.heap.size≤w.heap.size+1;omega))
  have HBel:=hd' (show Below w.heap.size w W by rw [hW,hW0];exact ((Below.refl _ _).alloc (Nat.le_refl _) _).alloc (by simp) _)
  rw [←hW0,←hW]
  clear hW hW0 hz0
  refine (HB4.out W HBel.out).mono ?_
  rintro e w1 ⟨v1,rfl,hr1,hb1⟩
  obtain ⟨A1,c1,rfl,hfr⟩:=hr1.fr
  have HFr:=hd' hfr
  have HX1:=hd' (HX.out.below hb1 hz)
  have HB1:=hd' (HBel.out.trans (hb1.mono (by omega)))
  have lw1:w.heap.size+1 < w1.heap.size:=by have:=hb1.size;omega
  have r0:=HX1.out 0 (by simp)
  have r1:=HX1.out 1 (by simp)
  have r2:=HX1.out 2 (by simp)
  have r3:=HX1.out 3 (by simp)
  simp only [List.getElem_cons_succ,List.getElem_cons_zero] at r0 r1 r2 r3
  have f0:=(hb1.frozen (p:=⟨w.heap.size+1,0,none⟩) hz).trans (HF.out 0)
  have f1:=(hb1.frozen (p:=⟨w.heap.size+1,1,none⟩) hz).trans (HF.out 1)
  have f2:=(hb1.frozen (p:=⟨w.heap.size+1,2,none⟩) hz).trans (HF.out 2)
  have f3:=(hb1.frozen (p:=⟨w.heap.size+1,3,none⟩) hz).trans (HF.out 3)
  clear hr1 hfr hb1 HX HF
  go_wp2_with fail
  have hq:=put4_get (v0:=.int .i64 2) (v1:=.int .i64 0) (v2:=.int .i64 0) (v3:=.slice A1 T.length c1) HX1.out
  have hqb:=put4_below (v0:=.int .i64 2) (v1:=.int .i64 0) (v2:=.int .i64 0) (v3:=.slice A1 T.length c1) HB1.out (show w.heap.size≤w.heap.size+1 by omega)
  have hqo:=fun (p:Addr) (hp:p.block≠w.heap.size+1)=>put4_other (w:=w1) (v0:=.int .i64 2) (v1:=.int .i64 0) (v2:=.int .i64 0) (v3:=.slice A1 T.length c1) hp
  have hqs:((((w1.setCell ⟨w.heap.size+1,0,none⟩ (.int .i64 2)).setCell ⟨w.heap.size+1,1,none⟩ (.int .i64 0)).setCell ⟨w.heap.size+1,2,none⟩ (.int .i64 0)).setCell ⟨w.heap.size+1,3,none⟩ (.slice A1 T.length c1)).heap.size=w1.heap.size:=by simp
  obtain ⟨W9,hW9⟩:∃W9,W9=(((w1.setCell ⟨w.heap.size+1,0,none⟩ (.int .i64 2)).setCell ⟨w.heap.size+1,1,none⟩ (.int .i64 0)).setCell ⟨w.heap.size+1,2,none⟩ (.int .i64 0)).setCell ⟨w.heap.size+1,3,none⟩ (.slice A1 T.length c1):=⟨_,rfl⟩
  rw [←hW9] at hq hqb hqo hqs ⊢
  have q0:=hq 0 (by simp)
  have q1:=hq 1 (by simp)
  have q2:=hq 2 (by simp)
  have q3:=hq 3 (by simp)
  simp only [List.getElem_cons_succ,List.getElem_cons_zero] at q0 q1 q2 q3
  refine bodyPost_ret (v:=.agg #[.int .i64 2,.int .i64 0,.int .i64 0,.slice A1 T.length c1]) (by simp [results,Tryz.results111,q0,q1,q2,q3,go_sem]) rfl ?_
  refine ⟨A1,c1,rfl,?_,hqb⟩
  exact ((HFr.out.bytes.keep (w':=W9) fun p hp _=>hqo p (by omega)).low (Nat.zero_le _)).mono (by omega)
end Go.Proofs.YtckajeippfpojaaGreat
namespace Go.Proofs.YtckajeippfpojaaGreat
open Go.RowKit Go.Maps
set_option maxRecDepth 100000
set_option maxHeartbeats 2000000 in
theorem text_any (au sq pv a b c d:Int) (A:Option Addr) (es:List En) (cap:Nat) (w:World) (hA:EvsIn w 0 w.heap.size A es) (hn:es.length≤1000) (hbk:ebulk es≤1048576) :
    Calls Tryz.prog 67 #[.agg #[.int .i64 au,.int .i64 sq,.int .i64 pv,.int .i64 a,.int .i64 b,.int .i64 c,.int .i64 d,.slice A es.length cap]] w (NewTx (bdV au sq pv [a,b,c,d] es) w):=by
  obtain ⟨T,hT⟩:∃T,T=bdV au sq pv [a,b,c,d] es:=⟨_,rfl⟩
  have hl3:=fun (X:World) (hX:Below w.heap.size w X)=>bodyEnc_any au sq pv a b c d A es cap X ((hA.below hX).mono hX.size) hn hbk
  rw [←hT] at hl3 ⊢
  have HB4:=hd' hl3
  clear hl3 hT hA
  go_enter Tryz.func67,Tryz.ntmps67
  go_wp2_with fail
  obtain ⟨W0,hW0⟩:∃W0,W0=w.alloc (.cells #[.int .i64 au,.int .i64 sq,.int .i64 pv,.int .i64 a,.int .i64 b,.int .i64 c,.int .i64 d,.slice A es.length cap] 103):=⟨_,rfl⟩
  obtain ⟨W,hW⟩:∃W,W=W0.alloc (.cells #[.int .i64 0,.int .i64 0,.int .i64 0,.slice none 0 0] 112):=⟨_,rfl⟩
  have hz0:W0.heap.size=w.heap.size+1:=by rw [hW0];simp
  have hz:w.heap.size+1 < W.heap.size:=by rw [hW];simp [hz0]
  have HX:=hd' (show Bx W (w.heap.size+1) [.int .i64 0,.int .i64 0,.int .i64 0,.slice none 0 0] by rw [hW,←hz0];exact Bx.new' _ _ _ _ rfl)
  have HF:=hd' (show ∀o,W.frozen? ⟨w.heap.size+1,o,none⟩=false from fun o=>by rw [hW,hW0];exact (((Fresh.refl w).alloc _ _).alloc _ _) ⟨w.heap.size+1,o,none⟩ (by show w.heap.size≤w.heap.size+1;omega))
  have HBel:=hd' (show Below w.heap.size w W by rw [hW,hW0];exact ((Below.refl _ _).alloc (Nat.le_refl _) _).alloc (by simp) _)
  rw [←hW0,←hW]
  clear hW hW0 hz0
  refine (HB4.out W HBel.out).mono ?_
  rintro e w1 ⟨v1,rfl,hr1,hb1⟩
  obtain ⟨A1,c1,rfl,hfr⟩:=hr1.fr
  have HFr:=hd' hfr
  have HX1:=hd' (HX.out.below hb1 hz)
  have HB1:=hd' (HBel.out.trans (hb1.mono (by omega)))
  have lw1:w.heap.size+1 < w1.heap.size:=by have:=hb1.size;omega
  have r0:=HX1.out 0 (by simp)
  have r1:=HX1.out 1 (by simp)
  have r2:=HX1.out 2 (by simp)
  have r3:=HX1.out 3 (by simp)
  simp only [List.getElem_cons_succ,List.getElem_cons_zero] at r0 r1 r2 r3
  have f0:=(hb1.frozen (p:=⟨w.heap.size+1,0,none⟩) hz).trans (HF.out 0)
  have f1:=(hb1.frozen (p:=⟨w.heap.size+1,1,none⟩) hz).trans (HF.out 1)
  have f2:=(hb1.frozen (p:=⟨w.heap.size+1,2,none⟩) hz).trans (HF.out 2)
  have f3:=(hb1.frozen (p:=⟨w.heap.size+1,3,none⟩) hz).trans (HF.out 3)
  clear hr1 hfr hb1 HX HF
  go_wp2_with fail
  have hq:=put4_get (v0:=.int .i64 2) (v1:=.int .i64 0) (v2:=.int .i64 0) (v3:=.slice A1 T.length c1) HX1.out
  have hqb:=put4_below (v0:=.int .i64 2) (v1:=.int .i64 0) (v2:=.int .i64 0) (v3:=.slice A1 T.length c1) HB1.out (show w.heap.size≤w.heap.size+1 by omega)
  have hqo:=fun (p:Addr) (hp:p.block≠w.heap.size+1)=>put4_other (w:=w1) (v0:=.int .i64 2) (v1:=.int .i64 0) (v2:=.int .i64 0) (v3:=.slice A1 T.length c1) hp
  have hqs:((((w1.setCell ⟨w.heap.size+1,0,none⟩ (.int .i64 2)).setCell ⟨w.heap.size+1,1,none⟩ (.int .i64 0)).setCell ⟨w.heap.size+1,2,none⟩ (.int .i64 0)).setCell ⟨w.heap.size+1,3,none⟩ (.slice A1 T.length c1)).heap.size=w1.heap.size:=by simp
  obtain ⟨W9,hW9⟩:∃W9,W9=(((w1.setCell ⟨w.heap.size+1,0,none⟩ (.int .i64 2)).setCell ⟨w.heap.size+1,1,none⟩ (.int .i64 0)).setCell ⟨w.heap.size+1,2,none⟩ (.int .i64 0)).setCell ⟨w.heap.size+1,3,none⟩ (.slice A1 T.length c1):=⟨_,rfl⟩
  rw [←hW9] at hq hqb hqo hqs ⊢
  have q0:=hq 0 (by simp)
  have q1:=hq 1 (by simp)
  have q2:=hq 2 (by simp)
  have q3:=hq 3 (by simp)
  simp only [List.getElem_cons_succ,List.getElem_cons_zero] at q0 q1 q2 q3
  refine bodyPost_ret (v:=.agg #[.int .i64 2,.int .i64 0,.int .i64 0,.slice A1 T.length c1]) (by simp [results,Tryz.results67,q0,q1,q2,q3,go_sem]) rfl ?_
  refine ⟨A1,c1,rfl,?_,hqb⟩
  exact ((HFr.out.bytes.keep (w':=W9) fun p hp _=>hqo p (by omega)).low (Nat.zero_le _)).mono (by omega)
theorem map_below {P:Program} {w w':World} {k:TypeId} {R:Value→Option (DataW Unit × List MemPlace)} {b n:Nat} {D:DataW Unit} (h:w.ownsMap P k R b n D) (hb:Below w.heap.size w w'):w'.ownsMap P k R b n D :=
  h.kept (row:=none) ⟨hb.os,hb.tape,hb.output,hb.size,fun g hg _=>hb.block g hg⟩ (by simp)
end Go.Proofs.YtckajeippfpojaaGreat
