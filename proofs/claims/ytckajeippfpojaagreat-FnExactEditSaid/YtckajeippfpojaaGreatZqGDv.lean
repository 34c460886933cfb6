import Derived.Test.YtckajeippfpojaaGreatZqFolS
import Derived.Test.YtckajeippfpojaaGreatZqGB
import Derived.Test.YtckajeippfpojaaGreatZqFit
import Derived.Test.YtckajeippfpojaaGreatZqGDn
import Derived.Test.YtckajeippfpojaaGreatZqGFol
import Derived.BigRegion
import Derived.Deep.CutRange
import Derived.Deep.RegionHeld3
namespace Go.Proofs.YtckajeippfpojaaGreat
open Go.RowKit Go.Maps
set_option maxRecDepth 100000
noncomputable def hdsB (ts:List Tm) (hs:List Mn) (vec:List Int) (i:Nat):Bool :=
  manB (hs.getD i default).au (hs.getD i default).sq (hs.getD i default).pv (hs.getD i default).vec (hs.getD i default).es (hs.getD i default).sg &&
  mkB ts (hs.getD i default).au (hs.getD i default).sq (hs.getD i default).pv (hs.getD i default).vec (hs.getD i default).es (hs.getD i default).sg &&
  (decide (i=0) || decide ((hs.getD (i - 1) default).au < (hs.getD i default).au)) && belVV (hs.getD i default).vec vec
noncomputable def prfB (ts:List Tm) (al:Bool) (ps:List Mn):Bool :=
  if al then frkB ts (ps.getD 0 default).au (ps.getD 0 default).sq (ps.getD 0 default).pv (ps.getD 0 default).vec (ps.getD 0 default).es (ps.getD 0 default).sg
    (ps.getD 1 default).au (ps.getD 1 default).sq (ps.getD 1 default).pv (ps.getD 1 default).vec (ps.getD 1 default).es (ps.getD 1 default).sg
  else decide (ps.length=0)
noncomputable def dokB (ts:List Tm) (id:Int) (vec:List Int) (es:List En) (hs:List Mn) (al:Bool) (ps:List Mn):Bool :=
  lokB ts && devB id && treeB vec es && decide (hs.length≤4) && (al == decide (ps.length=2)) && decide (ps.length≤2) && (List.range hs.length).all (hdsB ts hs vec) && prfB ts al ps
theorem dok_heads {ts:List Tm} {hs:List Mn} {vec:List Int} (h:∀i,i < hs.length→hdsB ts hs vec i=true):(List.range hs.length).all (hdsB ts hs vec)=true:=by
  rw [List.all_eq_true]
  intro i hi
  exact h i (List.mem_range.1 hi)
theorem dok_bad {ts:List Tm} {id:Int} {vec:List Int} {es:List En} {hs:List Mn} {al:Bool} {ps:List Mn} {i:Nat} (hi:i < hs.length) (h:hdsB ts hs vec i=false):dokB ts id vec es hs al ps=false:=by
  have hb:(List.range hs.length).all (hdsB ts hs vec)=false:=by
    rw [List.all_eq_false]
    exact ⟨i,List.mem_range.2 hi,by rw [h];simp⟩
  unfold dokB
  rw [hb]
  simp
theorem dok_led {ts:List Tm} {id:Int} {vec:List Int} {es:List En} {hs:List Mn} {al:Bool} {ps:List Mn} (h:lokB ts=false):dokB ts id vec es hs al ps=false:=by unfold dokB;simp [h]
theorem dok_id {ts:List Tm} {id:Int} {vec:List Int} {es:List En} {hs:List Mn} {al:Bool} {ps:List Mn} (h:devB id=false):dokB ts id vec es hs al ps=false:=by unfold dokB;simp [h]
theorem dok_tree {ts:List Tm} {id:Int} {vec:List Int} {es:List En} {hs:List Mn} {al:Bool} {ps:List Mn} (h:treeB vec es=false):dokB ts id vec es hs al ps=false:=by unfold dokB;simp [h]
theorem dok_len {ts:List Tm} {id:Int} {vec:List Int} {es:List En} {hs:List Mn} {al:Bool} {ps:List Mn} (h:¬ hs.length≤4):dokB ts id vec es hs al ps=false:=by unfold dokB;simp [h]
theorem dok_al {ts:List Tm} {id:Int} {vec:List Int} {es:List En} {hs:List Mn} {al:Bool} {ps:List Mn} (h:(al == decide (ps.length=2))=false):dokB ts id vec es hs al ps=false:=by unfold dokB;rw [h];simp
theorem dok_two {ts:List Tm} {id:Int} {vec:List Int} {es:List En} {hs:List Mn} {al:Bool} {ps:List Mn} (h:¬ ps.length≤2):dokB ts id vec es hs al ps=false:=by unfold dokB;simp [h]
theorem dok_end {ts:List Tm} {id:Int} {vec:List Int} {es:List En} {hs:List Mn} {al:Bool} {ps:List Mn} (h1:lokB ts=true) (h2:devB id=true) (h3:treeB vec es=true) (h4:hs.length≤4) (h5:(al == decide (ps.length=2))=true) (h6:ps.length≤2) (h7:∀i,i < hs.length→hdsB ts hs vec i=true):dokB ts id vec es hs al ps=prfB ts al ps:=by
  unfold dokB
  rw [h1,h2,h3,h5,dok_heads h7,decide_eq_true h4,decide_eq_true h6]
  simp
end Go.Proofs.YtckajeippfpojaaGreat
namespace Go.Proofs.YtckajeippfpojaaGreat
open Go.RowKit Go.Maps
set_option maxRecDepth 100000
def zMn:Mn:=⟨0,0,0,[0,0,0,0],[],0⟩
def slM (hs:List Mn) (a:Int):Mn:=(hs.find? fun m=>m.au == a).getD zMn
theorem slM_nil (a:Int):slM [] a=zMn:=rfl
theorem slM_cons_eq (m:Mn) (hs:List Mn):slM (m :: hs) m.au=m:=by simp [slM]
theorem slM_cons_ne {m:Mn} {hs:List Mn} {a:Int} (h:m.au≠a):slM (m :: hs) a=slM hs a:=by simp [slM,h]
theorem slM_none {hs:List Mn} {a:Int} (h:∀m∈hs,m.au≠a):slM hs a=zMn:=by
  unfold slM
  rw [List.find?_eq_none.2 (fun m hm=>by simpa using h m hm)]
  rfl
theorem slM_snoc_ne {m:Mn} {hs:List Mn} {a:Int} (h:m.au≠a):slM (hs++[m]) a=slM hs a:=by
  unfold slM
  rw [List.find?_append]
  simp [h]
theorem slM_snoc_eq {m:Mn} {hs:List Mn} (h:∀x∈hs,x.au≠m.au):slM (hs++[m]) m.au=m:=by
  unfold slM
  rw [List.find?_append,List.find?_eq_none.2 (fun x hx=>by simpa using h x hx)]
  simp
theorem slM_mem {hs:List Mn} {a:Int}:slM hs a=zMn∨(slM hs a∈hs∧(slM hs a).au=a):=by
  unfold slM
  cases h:hs.find? fun m=>m.au == a with
  | none=>exact .inl rfl
  | some m =>
    right
    have h1:=List.find?_some h
    exact ⟨List.mem_of_find?_eq_some h,by simpa using h1⟩
def AscH (n:Int) (hs:List Mn):Prop:=hs.Pairwise (fun a b=>a.au < b.au)∧∀m∈hs,n≤m.au∧m.au < 4∧1≤m.sq
def outL (f:Int→Mn):Nat→Int→List Mn
  | 0,_=>[]
  | k+1,n=>(if 0 < (f n).sq then [f n] else [])++outL f k (n+1)
theorem outL_congr {f g:Int→Mn}:∀(k:Nat) (n:Int),(∀a,n≤a→a < n+k→f a=g a)→outL f k n=outL g k n
  | 0,_,_=>rfl
  | k+1,n,h=>by
    unfold outL
    rw [h n (by omega) (by omega),outL_congr k (n+1) fun a h1 h2=>h a (by omega) (by omega)]
theorem outL_sl:∀(k:Nat) (n:Int) (hs:List Mn),n+k=4→AscH n hs→outL (slM hs) k n=hs
  | 0,n,hs,hk,h=>by
    cases hs with
    | nil=>rfl
    | cons m ms=>have:=h.2 m (by simp);omega
  | k+1,n,hs,hk,h=>by
    unfold outL
    cases hs with
    | nil =>
      have:=outL_sl k (n+1) [] (by omega) ⟨by simp,by simp⟩
      rw [this,slM_nil]
      simp [zMn]
    | cons m ms =>
      obtain ⟨hp,hm⟩:=h
      rw [List.pairwise_cons] at hp
      have h0:=hm m (by simp)
      by_cases e:m.au=n
      · subst e
        rw [slM_cons_eq,if_pos (by omega),outL_congr (g:=slM ms) k _ fun a ha _=>slM_cons_ne (by omega),
          outL_sl k _ ms (by omega) ⟨hp.2,fun x hx=>by have:=hm x (by simp [hx]);have:=hp.1 x hx;omega⟩]
        rfl
      · have hz:slM (m :: ms) n=zMn:=slM_none fun x hx=>by
          rcases List.mem_cons.1 hx with rfl|hx
          · exact e
          · have:=hp.1 x hx;omega
        rw [hz,outL_sl k _ (m :: ms) (by omega) ⟨by rw [List.pairwise_cons];exact hp,fun x hx=>by
          have:=hm x hx
          rcases List.mem_cons.1 hx with rfl|hx
          · omega
          · have:=hp.1 x hx;omega⟩]
        simp [zMn]
def HsAt (w:World) (L B:Nat) (l:List Value) (m:Mn):Prop :=
  ∃(x0 x1 x2 x3:Int) (E:Option Addr) (k:Nat),m.vec=[x0,x1,x2,x3]∧l=[.int .i64 m.au,.int .i64 m.sq,.int .i64 m.pv,.int .i64 x0,.int .i64 x1,.int .i64 x2,.int .i64 x3,.slice E m.es.length k,.int .i64 m.sg]∧EvsIn w L B E m.es
def z9l:List Value:=[.int .i64 0,.int .i64 0,.int .i64 0,.int .i64 0,.int .i64 0,.int .i64 0,.int .i64 0,.slice none 0 0,.int .i64 0]
section
variable {w w':World} {L L' B B':Nat} {l:List Value} {m:Mn}
theorem HsAt.len (h:HsAt w L B l m):l.length=9:=by obtain ⟨_,_,_,_,_,_,_,rfl,_⟩:=h;rfl
theorem HsAt.keep (h:HsAt w L B l m) (hk:∀p:Addr,L≤p.block→p.block < B→w'.cell? p=w.cell? p):HsAt w' L B l m:=by
  obtain ⟨x0,x1,x2,x3,E,k,e1,e2,e3⟩:=h
  exact ⟨x0,x1,x2,x3,E,k,e1,e2,e3.keep hk⟩
theorem HsAt.mono (h:HsAt w L B l m) (hB:B≤B'):HsAt w L B' l m:=by
  obtain ⟨x0,x1,x2,x3,E,k,e1,e2,e3⟩:=h
  exact ⟨x0,x1,x2,x3,E,k,e1,e2,e3.mono hB⟩
theorem HsAt.low (h:HsAt w L B l m) (hL:L'≤L):HsAt w L' B l m:=by
  obtain ⟨x0,x1,x2,x3,E,k,e1,e2,e3⟩:=h
  exact ⟨x0,x1,x2,x3,E,k,e1,e2,e3.low hL⟩
theorem HsAt.up (h:HsAt w L w.heap.size l m) (hb:Below w.heap.size w w'):HsAt w' L w'.heap.size l m:=(h.keep fun _ _ hp=>hb.cell hp).mono hb.size
theorem HsAt.zero (w:World) (L B:Nat):HsAt w L B z9l zMn:=⟨0,0,0,0,none,0,rfl,rfl,fun h=>absurd h (by simp [zMn])⟩
theorem HsAt.one (h:HsAt w L B l m):∀u∈l,u.oneCell'=true:=by
  obtain ⟨x0,x1,x2,x3,E,k,e1,rfl,e3⟩:=h
  intro u hu
  simp at hu
  rcases hu with rfl|rfl|rfl|rfl|rfl|rfl|rfl|rfl|rfl <;> rfl
end
def PsAt (w:World) (L B:Nat) (A:Option Addr) (ps:List Mn):Prop :=
  0 < ps.length→∃b o,A=some ⟨b,o,none⟩∧L≤b∧b < B∧∀i (hi:i < ps.length),∃l,HsAt w L B l ps[i]∧w.rangeAt b (o+i*9) l
section
variable {w w':World} {L L' B B':Nat} {A:Option Addr} {ps:List Mn}
theorem PsAt.keep (h:PsAt w L B A ps) (hk:∀p:Addr,L≤p.block→p.block < B→w'.cell? p=w.cell? p):PsAt w' L B A ps:=fun hp=>by
  obtain ⟨b,o,e,h1,h2,h3⟩:=h hp
  refine ⟨b,o,e,h1,h2,fun i hi=>?_⟩
  obtain ⟨l,h4,h5⟩:=h3 i hi
  exact ⟨l,h4.keep hk,fun j v hv=>(hk ⟨b,_,none⟩ h1 h2).trans (h5 j v hv)⟩
theorem PsAt.mono (h:PsAt w L B A ps) (hB:B≤B'):PsAt w L B' A ps:=fun hp=>by
  obtain ⟨b,o,e,h1,h2,h3⟩:=h hp
  refine ⟨b,o,e,h1,by omega,fun i hi=>?_⟩
  obtain ⟨l,h4,h5⟩:=h3 i hi
  exact ⟨l,h4.mono hB,h5⟩
theorem PsAt.low (h:PsAt w L B A ps) (hL:L'≤L):PsAt w L' B A ps:=fun hp=>by
  obtain ⟨b,o,e,h1,h2,h3⟩:=h hp
  refine ⟨b,o,e,by omega,h2,fun i hi=>?_⟩
  obtain ⟨l,h4,h5⟩:=h3 i hi
  exact ⟨l,h4.low hL,h5⟩
theorem PsAt.nil:PsAt w L B A []:=fun h=>absurd h (by simp)
end
def DrAt (w:World) (L B:Nat) (D:List Value) (id:Int) (vec:List Int) (es:List En) (f:Int→Mn) (ps:List Mn):Prop :=
  ∃(x0 x1 x2 x3:Int) (E:Option Addr) (k:Nat) (l0 l1 l2 l3:List Value) (P:Option Addr) (cp:Nat),vec=[x0,x1,x2,x3] ∧
    D=[.int .i64 id,.int .i64 x0,.int .i64 x1,.int .i64 x2,.int .i64 x3,.slice E es.length k]++(l0++l1++l2++l3)++[.slice P ps.length cp] ∧
    EvsIn w L B E es∧HsAt w L B l0 (f 0)∧HsAt w L B l1 (f 1)∧HsAt w L B l2 (f 2)∧HsAt w L B l3 (f 3)∧PsAt w L B P ps
section
variable {w w':World} {L L' B B':Nat} {D:List Value} {id:Int} {vec:List Int} {es:List En} {f g:Int→Mn} {ps:List Mn}
theorem DrAt.len (h:DrAt w L B D id vec es f ps):D.length=43:=by
  obtain ⟨x0,x1,x2,x3,E,k,l0,l1,l2,l3,P,cp,h1,rfl,h3,h4,h5,h6,h7,h8⟩:=h
  simp [h4.len,h5.len,h6.len,h7.len]
theorem DrAt.keep (h:DrAt w L B D id vec es f ps) (hk:∀p:Addr,L≤p.block→p.block < B→w'.cell? p=w.cell? p):DrAt w' L B D id vec es f ps:=by
  obtain ⟨x0,x1,x2,x3,E,k,l0,l1,l2,l3,P,cp,h1,h2,h3,h4,h5,h6,h7,h8⟩:=h
  exact ⟨x0,x1,x2,x3,E,k,l0,l1,l2,l3,P,cp,h1,h2,h3.keep hk,h4.keep hk,h5.keep hk,h6.keep hk,h7.keep hk,h8.keep hk⟩
theorem DrAt.mono (h:DrAt w L B D id vec es f ps) (hB:B≤B'):DrAt w L B' D id vec es f ps:=by
  obtain ⟨x0,x1,x2,x3,E,k,l0,l1,l2,l3,P,cp,h1,h2,h3,h4,h5,h6,h7,h8⟩:=h
  exact ⟨x0,x1,x2,x3,E,k,l0,l1,l2,l3,P,cp,h1,h2,h3.mono hB,h4.mono hB,h5.mono hB,h6.mono hB,h7.mono hB,h8.mono hB⟩
theorem DrAt.low (h:DrAt w L B D id vec es f ps) (hL:L'≤L):DrAt w L' B D id vec es f ps:=by
  obtain ⟨x0,x1,x2,x3,E,k,l0,l1,l2,l3,P,cp,h1,h2,h3,h4,h5,h6,h7,h8⟩:=h
  exact ⟨x0,x1,x2,x3,E,k,l0,l1,l2,l3,P,cp,h1,h2,h3.low hL,h4.low hL,h5.low hL,h6.low hL,h7.low hL,h8.low hL⟩
theorem DrAt.up (h:DrAt w L w.heap.size D id vec es f ps) (hb:Below w.heap.size w w'):DrAt w' L w'.heap.size D id vec es f ps:=(h.keep fun _ _ hp=>hb.cell hp).mono hb.size
theorem DrAt.one (h:DrAt w L B D id vec es f ps):∀u∈D,u.oneCell'=true:=by
  obtain ⟨x0,x1,x2,x3,E,k,l0,l1,l2,l3,P,cp,h1,rfl,h3,h4,h5,h6,h7,h8⟩:=h
  intro u hu
  simp only [List.mem_append,List.mem_cons,List.not_mem_nil,or_false] at hu
  rcases hu with ((rfl|rfl|rfl|rfl|rfl|rfl)|(((hu|hu)|hu)|hu))|rfl
  all_goals first|rfl|exact h4.one _ hu|exact h5.one _ hu|exact h6.one _ hu|exact h7.one _ hu
end
noncomputable def sdM (f:Tm→Int) (m:Mn):Bool:=sdB f m.au m.sq m.pv m.vec m.es m.sg
def fkM (a b:Mn):Bool:=fkB a.au a.sq a.pv a.vec a.es b.au b.sq b.pv b.vec b.es
noncomputable def hdP (f:Tm→Int) (hs:List Mn) (vec:List Int) (i:Nat):Bool :=
  sdM f (hs.getD i default) && (decide (i=0) || decide ((hs.getD (i - 1) default).au < (hs.getD i default).au)) && belVV (hs.getD i default).vec vec
noncomputable def rhB (f:Tm→Int) (hs:List Mn) (vec:List Int):Bool:=(List.range hs.length).all (hdP f hs vec)
noncomputable def prP (f:Tm→Int) (al:Bool) (ps:List Mn):Bool :=
  if al then decide (ps.length=2) && (sdM f (ps.getD 0 default) && sdM f (ps.getD 1 default) && fkM (ps.getD 0 default) (ps.getD 1 default)) else decide (ps.length=0)
noncomputable def rdB (f:Tm→Int) (id:Int) (vec:List Int) (es:List En) (hs:List Mn) (al:Bool) (ps:List Mn):Bool :=
  treeB vec es && devB id && rhB f hs vec && prP f al ps
theorem sdM_man {f:Tm→Int} {m:Mn} (h:sdM f m=true):manB m.au m.sq m.pv m.vec m.es m.sg=true:=by
  unfold sdM sdB at h
  simp only [Bool.and_eq_true] at h
  exact h.1
theorem rhB_true {f:Tm→Int} {hs:List Mn} {vec:List Int}:rhB f hs vec=true ↔ ∀i,i < hs.length→hdP f hs vec i=true:=by
  unfold rhB
  rw [List.all_eq_true]
  exact ⟨fun h i hi=>h i (List.mem_range.2 hi),fun h i hi=>h i (List.mem_range.1 hi)⟩
theorem rhB_false {f:Tm→Int} {hs:List Mn} {vec:List Int} {i:Nat} (hi:i < hs.length) (h:hdP f hs vec i=false):rhB f hs vec=false:=by
  cases hr:rhB f hs vec with
  | false=>rfl
  | true=>have:=rhB_true.1 hr i hi;rw [h] at this;cases this
theorem getD_at {hs:List Mn} {i:Nat} (hi:i < hs.length):hs.getD i default=hs[i]:=by simp [List.getD,hi]
theorem asc_of_steps:∀{hs:List Mn},(∀i (h:i+1 < hs.length),hs[i].au < hs[i+1].au)→hs.Pairwise (fun a b=>a.au < b.au)
  | [],_=>.nil
  | [_],_=>by simp
  | a :: b :: t,h=>by
    have ih:=asc_of_steps (hs:=b :: t) fun i hi=>by
      have:=h (i+1) (by simp at hi ⊢;omega)
      simpa using this
    have h0:=h 0 (by simp)
    simp at h0
    rw [List.pairwise_cons]
    refine ⟨fun x hx=>?_,ih⟩
    rw [List.pairwise_cons] at ih
    rcases List.mem_cons.1 hx with rfl|hx
    · exact h0
    · have:=ih.1 x hx;omega
theorem rhB_asc {f:Tm→Int} {hs:List Mn} {vec:List Int} (h:rhB f hs vec=true):AscH 0 hs:=by
  rw [rhB_true] at h
  refine ⟨asc_of_steps fun i hi=>?_,fun m hm=>?_⟩
  · have:=h (i+1) hi
    unfold hdP at this
    simp only [Bool.and_eq_true,Bool.or_eq_true,decide_eq_true_eq,Nat.add_sub_cancel,getD_at hi,getD_at (show i < hs.length by omega)] at this
    rcases this.1.2 with h|h
    · omega
    · exact h
  · obtain ⟨i,hi,rfl⟩:=List.getElem_of_mem hm
    have:=h i hi
    unfold hdP at this
    simp only [Bool.and_eq_true,getD_at hi] at this
    have:=manB_said (sdM_man this.1.1)
    omega
theorem asc_len {hs:List Mn}:∀{n:Int},n≤4→AscH n hs→(hs.length:Int)≤4 - n:=by
  induction hs with
  | nil=>intro n hn _;simp;omega
  | cons m ms ih =>
    intro n hn h
    obtain ⟨hp,hm⟩:=h
    rw [List.pairwise_cons] at hp
    have h0:=hm m (by simp)
    have:=ih (n:=m.au+1) (by omega) ⟨hp.2,fun x hx=>by have:=hm x (by simp [hx]);have:=hp.1 x hx;omega⟩
    simp only [List.length_cons]
    omega
theorem hds_hdP {ts:List Tm} (hl:LOk ts) {hs:List Mn} {vec:List Int} {i:Nat}:hdsB ts hs vec i=hdP (lookI ts) hs vec i:=by
  unfold hdsB hdP sdM sdB
  generalize hs.getD i default=m
  cases h:manB m.au m.sq m.pv m.vec m.es m.sg with
  | false=>rfl
  | true=>rw [mk_eq hl (manB_said h).2.2.2.2.2.2.2.1]
theorem dok_rd {ts:List Tm} {id:Int} {vec:List Int} {es:List En} {hs:List Mn} {al:Bool} {ps:List Mn} (hlk:lokB ts=true):dokB ts id vec es hs al ps=rdB (lookI ts) id vec es hs al ps:=by
  have hl:=lok_of hlk
  have hh:(List.range hs.length).all (hdsB ts hs vec)=rhB (lookI ts) hs vec:=by
    unfold rhB
    congr 1
    funext i
    exact hds_hdP hl
  have h4:rhB (lookI ts) hs vec=true→hs.length≤4:=fun h=>by have:=asc_len (n:=0) (by omega) (rhB_asc h);omega
  have hf:∀a b:Mn,frkB ts a.au a.sq a.pv a.vec a.es a.sg b.au b.sq b.pv b.vec b.es b.sg=(sdM (lookI ts) a && sdM (lookI ts) b && fkM a b):=fun a b=>by
    unfold frkB sdM fkM
    rw [sig_eq hl,sig_eq hl]
  unfold dokB rdB prfB prP
  rw [hh,hlk,hf]
  cases hr:rhB (lookI ts) hs vec with
  | false=>simp
  | true =>
    rw [decide_eq_true (h4 hr)]
    cases al with
    | false =>
      by_cases h2:ps.length=0
      · simp [h2]
        cases treeB vec es <;> cases devB id <;> rfl
      · simp [h2]
    | true =>
      by_cases h2:ps.length=2
      · simp [h2]
        cases treeB vec es <;> cases devB id <;> rfl
      · simp [h2]
end Go.Proofs.YtckajeippfpojaaGreat
namespace Go.Proofs.YtckajeippfpojaaGreat
open Go.RowKit Go.Maps
set_option maxRecDepth 100000
theorem la43_of {l:List Value} (hl:l.length=43) {X:World} {b:Nat} (h:X.rangeAt b 0 l):(LA43 (.pointer (some ⟨b,0,none⟩))).run Tryz.prog X=.ok (.agg l.toArray) X:=by
  obtain ⟨d,hd,hr⟩:=Option.map_eq_some_iff.1 u43
  exact run_loadAt_mid X b 0 129 l d h hd hr (by rw [hl];exact i43)
theorem lv43_of {l:List Value} (hl:l.length=43) {X:World} {b:Nat} (h:X.rangeAt b 0 l):(LV43 ⟨b,0,none⟩).run Tryz.prog X=.ok (.agg l.toArray) X:=by
  obtain ⟨d,hd,hr⟩:=Option.map_eq_some_iff.1 u43
  exact run_loadVar_mid X b 0 129 l d h hd hr (by rw [hl];exact i43)
theorem la36_of {l:List Value} (hl:l.length=36) {X:World} {b o:Nat} (h:X.rangeAt b o l):(LA36 (.pointer (some ⟨b,o,none⟩))).run Tryz.prog X=.ok (.agg l.toArray) X:=by
  obtain ⟨d,hd,hr⟩:=Option.map_eq_some_iff.1 u36
  exact run_loadAt_mid X b o 126 l d h hd hr (by rw [hl];exact i36)
theorem lv36_of {l:List Value} (hl:l.length=36) {X:World} {b o:Nat} (h:X.rangeAt b o l):(LV36 ⟨b,o,none⟩).run Tryz.prog X=.ok (.agg l.toArray) X:=by
  obtain ⟨d,hd,hr⟩:=Option.map_eq_some_iff.1 u36
  exact run_loadVar_mid X b o 126 l d h hd hr (by rw [hl];exact i36)
def SA43 (v u:Value):Sem Unit:=Instr.storeAt 129 v u
theorem sa43_name (v u:Value):Instr.storeAt 129 v u=SA43 v u:=rfl
theorem sa43_of {l:List Value} (hl:l.length=43) (h1:∀u∈l,u.oneCell'=true) {X:World} {b:Nat} (ht:X.there b 0 43):(SA43 (.pointer (some ⟨b,0,none⟩)) (.agg l.toArray)).run Tryz.prog X=.ok () (X.setCells b 0 l):=by
  have h:=run_storeAt_mid (P:=Tryz.prog) X b 0 129 l.toArray (by rw [List.size_toArray,hl];exact ht) (by rw [List.size_toArray,hl];exact i43) (all_oneCell_toArray h1)
  exact h
def SA36 (v u:Value):Sem Unit:=Instr.storeAt 126 v u
theorem sa36_name (v u:Value):Instr.storeAt 126 v u=SA36 v u:=rfl
theorem sa36_of {l:List Value} (hl:l.length=36) (h1:∀u∈l,u.oneCell'=true) {X:World} {b o:Nat} (ht:X.there b o 36):(SA36 (.pointer (some ⟨b,o,none⟩)) (.agg l.toArray)).run Tryz.prog X=.ok () (X.setCells b o l):=by
  have h:=run_storeAt_mid (P:=Tryz.prog) X b o 126 l.toArray (by rw [List.size_toArray,hl];exact ht) (by rw [List.size_toArray,hl];exact i36) (all_oneCell_toArray h1)
  exact h
def BD43 (ps:Array (Nat × Value)):Sem Value:=Instr.build 129 ps
theorem bd43_name (ps:Array (Nat × Value)):Instr.build 129 ps=BD43 ps:=rfl
theorem list_cons {l:List Value} {n:Nat} (h:l.length=n+1):∃a t,l=a :: t∧t.length=n:=by
  cases l with
  | nil=>simp at h
  | cons a t=>exact ⟨a,t,rfl,by simpa using h⟩
theorem bd43_of {l:List Value} (hl:l.length=36) (id x0 x1 x2 x3:Int) (E:Option Addr) (n k:Nat) (P:Option Addr) (m c:Nat) (X:World) :
    (BD43 #[(0,.int .i64 id),(1,.agg #[.int .i64 x0,.int .i64 x1,.int .i64 x2,.int .i64 x3,.slice E n k]),(2,.agg l.toArray),(3,.slice P m c)]).run Tryz.prog X=.ok (.agg (([.int .i64 id,.int .i64 x0,.int .i64 x1,.int .i64 x2,.int .i64 x3,.slice E n k]:List Value)++l++([.slice P m c]:List Value)).toArray) X:=by
  obtain ⟨a0,t0,rfl,h0⟩:=list_cons hl
  obtain ⟨a1,t1,rfl,h1⟩:=list_cons h0
  obtain ⟨a2,t2,rfl,h2⟩:=list_cons h1
  obtain ⟨a3,t3,rfl,h3⟩:=list_cons h2
  obtain ⟨a4,t4,rfl,h4⟩:=list_cons h3
  obtain ⟨a5,t5,rfl,h5⟩:=list_cons h4
  obtain ⟨a6,t6,rfl,h6⟩:=list_cons h5
  obtain ⟨a7,t7,rfl,h7⟩:=list_cons h6
  obtain ⟨a8,t8,rfl,h8⟩:=list_cons h7
  obtain ⟨a9,t9,rfl,h9⟩:=list_cons h8
  obtain ⟨a10,t10,rfl,h10⟩:=list_cons h9
  obtain ⟨a11,t11,rfl,h11⟩:=list_cons h10
  obtain ⟨a12,t12,rfl,h12⟩:=list_cons h11
  obtain ⟨a13,t13,rfl,h13⟩:=list_cons h12
  obtain ⟨a14,t14,rfl,h14⟩:=list_cons h13
  obtain ⟨a15,t15,rfl,h15⟩:=list_cons h14
  obtain ⟨a16,t16,rfl,h16⟩:=list_cons h15
  obtain ⟨a17,t17,rfl,h17⟩:=list_cons h16
  obtain ⟨a18,t18,rfl,h18⟩:=list_cons h17
  obtain ⟨a19,t19,rfl,h19⟩:=list_cons h18
  obtain ⟨a20,t20,rfl,h20⟩:=list_cons h19
  obtain ⟨a21,t21,rfl,h21⟩:=list_cons h20
  obtain ⟨a22,t22,rfl,h22⟩:=list_cons h21
  obtain ⟨a23,t23,rfl,h23⟩:=list_cons h22
  obtain ⟨a24,t24,rfl,h24⟩:=list_cons h23
  obtain ⟨a25,t25,rfl,h25⟩:=list_cons h24
  obtain ⟨a26,t26,rfl,h26⟩:=list_cons h25
  obtain ⟨a27,t27,rfl,h27⟩:=list_cons h26
  obtain ⟨a28,t28,rfl,h28⟩:=list_cons h27
  obtain ⟨a29,t29,rfl,h29⟩:=list_cons h28
  obtain ⟨a30,t30,rfl,h30⟩:=list_cons h29
  obtain ⟨a31,t31,rfl,h31⟩:=list_cons h30
  obtain ⟨a32,t32,rfl,h32⟩:=list_cons h31
  obtain ⟨a33,t33,rfl,h33⟩:=list_cons h32
  obtain ⟨a34,t34,rfl,h34⟩:=list_cons h33
  obtain ⟨a35,t35,rfl,h35⟩:=list_cons h34
  obtain rfl:=List.eq_nil_of_length_eq_zero h35
  kernel_rfl
theorem bd43_zero (X:World):(BD43 #[]).run Tryz.prog X=.ok (.agg (d43 0).toArray) X:=by kernel_rfl
theorem setCells_put {b:Nat}:∀(vs:List Value) (o:Nat) (w:World),w.setCells b o vs=putAll b o vs w
  | [],_,_=>rfl
  | _ :: vs,o,_=>setCells_put vs (o+1) _
theorem setCells_size {w:World} {b o:Nat} {vs:List Value}:(w.setCells b o vs).heap.size=w.heap.size:=by rw [setCells_put];exact putAll_size
theorem setCells_below {B:Nat} {a w:World} {b o:Nat} {vs:List Value} (h:Below B a w) (hb:B≤b):Below B a (w.setCells b o vs):=by rw [setCells_put];exact putAll_below h hb
theorem results_ct {P:Program} {fn:Func} {tmps:Array Value} {s t:Nat} {ty:TypeId} {p:Addr} {u v:Value} {w:World} (hr:fn.results=#[.cell s ty,.tmp t])
    (hs:tmps.getD s undef=.pointer (some p)) (ht:tmps.getD t undef=v) (hl:(loadVar ty p).run P w=.ok u w):(results fn tmps).run P w=.ok (.tuple #[u,v]) w:=by
  unfold results
  rw [hr]
  rw [Array.getD_eq_getD_getElem?] at hs ht
  simp [hs,ht,asAddr,hl]
theorem results_cct {P:Program} {fn:Func} {tmps:Array Value} {s s2 t:Nat} {ty ty2:TypeId} {p p2:Addr} {u u2 v:Value} {w:World} (hr:fn.results=#[.cell s ty,.cell s2 ty2,.tmp t])
    (hs:tmps.getD s undef=.pointer (some p)) (hl:(loadVar ty p).run P w=.ok u w) (hs2:tmps.getD s2 undef=.pointer (some p2)) (hl2:(loadVar ty2 p2).run P w=.ok u2 w) (ht:tmps.getD t undef=v):(results fn tmps).run P w=.ok (.tuple #[u,u2,v]) w:=by
  unfold results
  rw [hr]
  rw [Array.getD_eq_getD_getElem?] at hs hs2 ht
  simp [hs,hs2,ht,asAddr,hl,hl2]
structure BigBx (w:World) (b:Nat) (l:List Value):Prop where
  at_:w.rangeAt b 0 l
  fr:∀o,w.frozen? ⟨b,o,none⟩=false
  lt:b < w.heap.size
section
variable {w w':World} {b b':Nat} {l l':List Value}
theorem BigBx.below (h:BigBx w b l) (hb:Below w.heap.size w w'):BigBx w' b l :=
  ⟨range_below h.at_ hb h.lt,fun o=>(hb.frozen (p:=⟨b,o,none⟩) h.lt).trans (h.fr o),Nat.lt_of_lt_of_le h.lt hb.size⟩
theorem BigBx.there (h:BigBx w b l) {n:Nat} (hn:l.length=n):w.there b 0 n:=fun j hj=>by
  obtain ⟨v,hv⟩:∃v,l[j]?=some v:=⟨_,List.getElem?_eq_getElem (by omega)⟩
  exact ⟨by rw [h.at_ j v hv];rfl,h.fr _⟩
theorem BigBx.new (w:World) (l:List Value) (t:TypeId):BigBx (w.alloc (.cells l.toArray t)) w.heap.size l:=by
  have h:=heap_alloc_new w (.cells l.toArray t)
  refine ⟨fun j v hv=>?_,fun o=>by rw [World.frozen?,h];rfl,by simp⟩
  rw [World.cell?,h,Nat.zero_add]
  simpa using hv
theorem BigBx.drew (h:BigBx w b l):BigBx w.drew b l:=⟨h.at_,h.fr,h.lt⟩
theorem BigBx.alloc (h:BigBx w b l) (o:Obj):BigBx (w.alloc o) b l:=h.below ((Below.refl _ _).alloc (Nat.le_refl _) _)
theorem BigBx.put (h:BigBx w b l) (hl:l'.length=l.length):BigBx (w.setCells b 0 l') b l' :=
  ⟨World.rangeAt_setCells_same _ _ _ _ (h.there hl.symm),fun o=>(World.frozen?_setCells _ _ _ _ _).trans (h.fr o),by rw [setCells_size];exact h.lt⟩
theorem BigBx.put_else (h:BigBx w b l) (hne:b≠b') (vs:List Value) (o:Nat):BigBx (w.setCells b' o vs) b l :=
  ⟨World.rangeAt_setCells_apart h.at_ _ _ _ (.inl hne),fun o=>(World.frozen?_setCells _ _ _ _ _).trans (h.fr o),by rw [setCells_size];exact h.lt⟩
theorem BigBx.other (h:BigBx w b l) (hne:b≠b') (vs:List Value) (o:Nat):BigBx (putAll b' o vs w) b l:=by rw [←setCells_put];exact h.put_else hne vs o
theorem BigBx.some (h:BigBx w b l) {j:Nat} (hj:j < l.length):∃v,w.cell? ⟨b,j,none⟩=Option.some v:=⟨l[j],by have:=h.at_ j l[j] (List.getElem?_eq_getElem hj);rwa [Nat.zero_add] at this⟩
theorem BigBx.mid {a c:List Value} {o:Nat} (h:BigBx w b (a++(l++c))) (ho:a.length=o) (hl:l'.length=l.length):BigBx (putAll b o l' w) b (a++(l'++c)):=by
  rw [←setCells_put]
  refine ⟨fun j v hv=>?_,fun p=>(World.frozen?_setCells _ _ _ _ _).trans (h.fr p),by rw [setCells_size];exact h.lt⟩
  have hth:∀i,i < l'.length→(w.cell? ⟨b,o+i,none⟩).isSome=true:=fun i hi=>by
    obtain ⟨u,hu⟩:=h.some (j:=o+i) (by simp;omega)
    rw [hu];rfl
  by_cases h1:j < o
  · rw [World.cell?_setCells_out _ _ _ _ _ (fun _ _=>.inl (by show 0+j < o;omega))]
    refine h.at_ j v ?_
    rw [List.getElem?_append_left (by omega)] at hv ⊢
    exact hv
  · by_cases h2:j < o+l'.length
    · have h3:=World.cell?_setCells_in b l' o w hth (j - o) (by omega)
      have e:o+(j - o)=0+j:=by omega
      rw [e] at h3
      rw [h3,←hv,List.getElem?_append_right (by omega),List.getElem?_append_left (by omega),ho,List.getElem?_eq_getElem (by omega)]
    · rw [World.cell?_setCells_out _ _ _ _ _ (fun _ _=>.inr (by show o+l'.length≤0+j;omega))]
      refine h.at_ j v ?_
      rw [List.getElem?_append_right (by omega),List.getElem?_append_right (by omega)] at hv ⊢
      rw [←hv]
      congr 1
      omega
theorem BigBx.set (h:BigBx w b l) {p:Addr} (hne:p.block≠b) (v:Value):BigBx (w.setCell p v) b l :=
  ⟨fun j u hu=>(World.cell?_setCell_other _ _ _ _ (by rintro rfl;exact hne rfl)).trans (h.at_ j u hu),fun o=>(World.frozen?_setCell _ _ _ _).trans (h.fr o),by rw [World.size_setCell];exact h.lt⟩
end
end Go.Proofs.YtckajeippfpojaaGreat
namespace Go.Proofs.YtckajeippfpojaaGreat
open Go.RowKit Go.Maps
set_option maxRecDepth 100000
def HdsAt (w:World) (L B:Nat) (l:List Value) (f:Int→Mn):Prop :=
  ∃l0 l1 l2 l3,l=l0++(l1++(l2++l3))∧HsAt w L B l0 (f 0)∧HsAt w L B l1 (f 1)∧HsAt w L B l2 (f 2)∧HsAt w L B l3 (f 3)
section
variable {w w':World} {L L' B B':Nat} {l:List Value} {f g:Int→Mn}
theorem HdsAt.len (h:HdsAt w L B l f):l.length=36:=by
  obtain ⟨l0,l1,l2,l3,rfl,h0,h1,h2,h3⟩:=h
  simp [h0.len,h1.len,h2.len,h3.len]
theorem HdsAt.one (h:HdsAt w L B l f):∀u∈l,u.oneCell'=true:=by
  obtain ⟨l0,l1,l2,l3,rfl,h0,h1,h2,h3⟩:=h
  intro u hu
  simp only [List.mem_append] at hu
  rcases hu with hu|hu|hu|hu
  · exact h0.one u hu
  · exact h1.one u hu
  · exact h2.one u hu
  · exact h3.one u hu
theorem HdsAt.keep (h:HdsAt w L B l f) (hk:∀p:Addr,L≤p.block→p.block < B→w'.cell? p=w.cell? p):HdsAt w' L B l f:=by
  obtain ⟨l0,l1,l2,l3,e,h0,h1,h2,h3⟩:=h
  exact ⟨l0,l1,l2,l3,e,h0.keep hk,h1.keep hk,h2.keep hk,h3.keep hk⟩
theorem HdsAt.mono (h:HdsAt w L B l f) (hB:B≤B'):HdsAt w L B' l f:=by
  obtain ⟨l0,l1,l2,l3,e,h0,h1,h2,h3⟩:=h
  exact ⟨l0,l1,l2,l3,e,h0.mono hB,h1.mono hB,h2.mono hB,h3.mono hB⟩
theorem HdsAt.low (h:HdsAt w L B l f) (hL:L'≤L):HdsAt w L' B l f:=by
  obtain ⟨l0,l1,l2,l3,e,h0,h1,h2,h3⟩:=h
  exact ⟨l0,l1,l2,l3,e,h0.low hL,h1.low hL,h2.low hL,h3.low hL⟩
theorem HdsAt.congr (h:HdsAt w L B l f) (h0:g 0=f 0) (h1:g 1=f 1) (h2:g 2=f 2) (h3:g 3=f 3):HdsAt w L B l g:=by
  obtain ⟨l0,l1,l2,l3,e,a0,a1,a2,a3⟩:=h
  exact ⟨l0,l1,l2,l3,e,h0 ▸ a0,h1 ▸ a1,h2 ▸ a2,h3 ▸ a3⟩
theorem HdsAt.zero (w:World) (L B:Nat):HdsAt w L B z36 (slM []):=⟨z9l,z9l,z9l,z9l,rfl,HsAt.zero _ _ _,HsAt.zero _ _ _,HsAt.zero _ _ _,HsAt.zero _ _ _⟩
theorem HdsAt.set {b:Nat} (h:HdsAt w L B l f) (hx:BigBx w b l) {j:Nat} (hj:j < 4) {l':List Value} {m:Mn} (hm:HsAt w L B l' m) (hb:b < L) :
    ∃l2,BigBx (putAll b (9*j) l' w) b l2∧HdsAt (putAll b (9*j) l' w) L B l2 (fun a=>if a=j then m else f a):=by
  have hk:∀p:Addr,L≤p.block→p.block < B→(putAll b (9*j) l' w).cell? p=w.cell? p:=fun p hp _=>putAll_other (by omega)
  obtain ⟨l0,l1,l2,l3,rfl,h0,h1,h2,h3⟩:=h
  have e0:=h0.len
  have e1:=h1.len
  have e2:=h2.len
  have e3:=h3.len
  have em:=hm.len
  have:j=0∨j=1∨j=2∨j=3:=by omega
  rcases this with rfl|rfl|rfl|rfl
  · refine ⟨l'++(l1++(l2++l3)),?_,l',l1,l2,l3,rfl,(by simpa using hm.keep hk),(by simpa using h1.keep hk),(by simpa using h2.keep hk),(by simpa using h3.keep hk)⟩
    have:=BigBx.mid (a:=[]) (l:=l0) (c:=l1++(l2++l3)) (l':=l') (o:=9*0) (by simpa using hx) rfl (by omega)
    simpa using this
  · refine ⟨l0++(l'++(l2++l3)),?_,l0,l',l2,l3,rfl,(by simpa using h0.keep hk),(by simpa using hm.keep hk),(by simpa using h2.keep hk),(by simpa using h3.keep hk)⟩
    exact BigBx.mid (a:=l0) (l:=l1) (c:=l2++l3) (l':=l') (o:=9*1) hx (by omega) (by omega)
  · refine ⟨l0++(l1++(l'++l3)),?_,l0,l1,l',l3,rfl,(by simpa using h0.keep hk),(by simpa using h1.keep hk),(by simpa using hm.keep hk),(by simpa using h3.keep hk)⟩
    have:=BigBx.mid (a:=l0++l1) (l:=l2) (c:=l3) (l':=l') (o:=9*2) (by simpa [List.append_assoc] using hx) (by simp;omega) (by omega)
    simpa [List.append_assoc] using this
  · refine ⟨l0++(l1++(l2++l')),?_,l0,l1,l2,l',rfl,(by simpa using h0.keep hk),(by simpa using h1.keep hk),(by simpa using h2.keep hk),(by simpa using hm.keep hk)⟩
    have:=BigBx.mid (a:=l0++(l1++l2)) (l:=l3) (c:=[]) (l':=l') (o:=9*3) (by simpa [List.append_assoc] using hx) (by simp;omega) (by omega)
    simpa [List.append_assoc] using this
end
def lastA (hs:List Mn) (k:Nat):Int:=if k=0 then -1 else (hs.getD (k - 1) default).au
theorem lastA_succ {hs:List Mn} {k:Nat} (hk:k < hs.length):lastA hs (k+1)=hs[k].au:=by simp [lastA,hk]
theorem hdP_of {f:Tm→Int} {hs:List Mn} {vec:List Int} {k:Nat} (hk:k < hs.length) (h1:sdM f hs[k]=true) (h2:lastA hs k < hs[k].au) (h3:belVV hs[k].vec vec=true):hdP f hs vec k=true:=by
  unfold hdP
  rw [getD_at hk,h1,h3]
  unfold lastA at h2
  by_cases e:k=0
  · simp [e]
  · rw [if_neg e] at h2
    rw [decide_eq_true h2];simp
theorem hdP_not {f:Tm→Int} {hs:List Mn} {vec:List Int} {k:Nat} (hk:k < hs.length) (h:sdM f hs[k]=false∨(sdM f hs[k]=true∧hs[k].au≤lastA hs k)∨belVV hs[k].vec vec=false):hdP f hs vec k=false:=by
  unfold hdP
  rw [getD_at hk]
  rcases h with h|h|h
  · rw [h];rfl
  · have h0:=manB_said (sdM_man h.1)
    have h2:=h.2
    unfold lastA at h2
    by_cases e:k=0
    · rw [if_pos e] at h2;omega
    · rw [if_neg e] at h2
      have h3:¬ (hs.getD (k - 1) default).au < hs[k].au:=by omega
      rw [decide_eq_false e,decide_eq_false h3];simp
  · rw [h];simp
theorem asc_ahead {f:Tm→Int} {hs:List Mn} {vec:List Int} {k:Nat} (hk:k≤hs.length) (h:∀i,i < k→hdP f hs vec i=true):∀x∈hs.take k,x.au≤lastA hs k:=by
  have hr:rhB f (hs.take k) vec=true:=by
    rw [rhB_true]
    intro i hi
    have hik:i < k:=by simp at hi;omega
    have:=h i hik
    unfold hdP at this ⊢
    have e1:(hs.take k).getD i default=hs.getD i default:=by rw [getD_at hi,getD_at (by omega),List.getElem_take]
    have e2:(hs.take k).getD (i - 1) default=hs.getD (i - 1) default:=by rw [getD_at (by simp;omega),getD_at (by omega),List.getElem_take]
    rw [e1,e2]
    exact this
  obtain ⟨hp,_⟩:=rhB_asc hr
  intro x hx
  obtain ⟨i,hi,rfl⟩:=List.getElem_of_mem hx
  have hik:i < k:=by simp at hi;omega
  unfold lastA
  rw [if_neg (by omega),getD_at (by omega)]
  by_cases e:i=k - 1
  · subst e;simp
  · have:=List.pairwise_iff_getElem.1 hp i (k - 1) hi (by simp;omega) (by omega)
    simp at this ⊢
    omega
def RdHds (f:Tm→Int) (hs:List Mn) (vec:List Int) (w:World) (e:Ending) (w':World):Prop :=
  ∃l:List Value,e=.returned (.tuple #[.agg l.toArray,.bool (rhB f hs vec)])∧l.length=36∧(∀u∈l,u.oneCell'=true)∧(rhB f hs vec=true→HdsAt w' w.heap.size w'.heap.size l (slM hs))∧Below w.heap.size w w'
attribute [local simp ↓] la36_name lv36_name sa36_name
set_option maxHeartbeats 2000000 in
theorem readHeads_any (V1 V2:Value) (f:Tm→Int) (AH:Option Addr) (hs:List Mn) (ch:Nat) (a b c d:Int) (w:World) (hM:BkAt w V2 f) (hfw:∀t,(Lit.int .i64 (f t)).wf=true) (hH:MnsRd w 0 w.heap.size AH hs) (hhl:hs.length≤1048576) (hhb:mbulk hs≤1048576) :
    Calls Tryz.prog 167 #[.agg #[V1,V2],.slice AH hs.length ch,.agg #[.int .i64 a,.int .i64 b,.int .i64 c,.int .i64 d]] w (RdHds f hs [a,b,c,d] w):=by
  have HH:=hd' hH
  clear hH
  have HSd:=hd' (fun (m:Mn) AV cv A c W (hX:Below w.heap.size w W) (hV:IntsIn W 0 W.heap.size AV m.vec) (hA:EnsIn W 0 W.heap.size A m.es) (hn:m.es.length≤1048576) (hbk:ebulk m.es≤1048576)=>readSaid_any V1 V2 f m.au m.sq m.pv AV m.vec cv A m.es c m.sg W (hM.below hX) hfw hV hA hn hbk)
  clear hM
  go_enter Tryz.func167,Tryz.ntmps167
  go_wp2_with fail
  obtain ⟨W1_0,hW1_0⟩:∃x,x=w.alloc (.cells #[V1,V2] 125):=⟨_,rfl⟩
  obtain ⟨W1_1,hW1_1⟩:∃x,x=W1_0.alloc (.cells #[.int .i64 a,.int .i64 b,.int .i64 c,.int .i64 d] 98):=⟨_,rfl⟩
  obtain ⟨W1_2,hW1_2⟩:∃x,x=W1_1.alloc (.cells #[.int .i64 0,.int .i64 0,.int .i64 0,.int .i64 0,.int .i64 0,.int .i64 0,.int .i64 0,.slice none 0 0,.int .i64 0,.int .i64 0,.int .i64 0,.int .i64 0,.int .i64 0,.int .i64 0,.int .i64 0,.int .i64 0,.slice none 0 0,.int .i64 0,.int .i64 0,.int .i64 0,.int .i64 0,.int .i64 0,.int .i64 0,.int .i64 0,.int .i64 0,.slice none 0 0,.int .i64 0,.int .i64 0,.int .i64 0,.int .i64 0,.int .i64 0,.int .i64 0,.int .i64 0,.int .i64 0,.slice none 0 0,.int .i64 0] 126):=⟨_,rfl⟩
  obtain ⟨W1_3,hW1_3⟩:∃x,x=W1_2.alloc (.cells #[.int .i64 0,.int .i64 0,.int .i64 0,.int .i64 0,.int .i64 0,.int .i64 0,.int .i64 0,.slice none 0 0,.int .i64 0,.int .i64 0,.int .i64 0,.int .i64 0,.int .i64 0,.int .i64 0,.int .i64 0,.int .i64 0,.slice none 0 0,.int .i64 0,.int .i64 0,.int .i64 0,.int .i64 0,.int .i64 0,.int .i64 0,.int .i64 0,.int .i64 0,.slice none 0 0,.int .i64 0,.int .i64 0,.int .i64 0,.int .i64 0,.int .i64 0,.int .i64 0,.int .i64 0,.int .i64 0,.slice none 0 0,.int .i64 0] 126):=⟨_,rfl⟩
  have hZ1_0:W1_0.heap.size=w.heap.size+1:=by rw [hW1_0];simp
  have hZ1_1:W1_1.heap.size=w.heap.size+2:=by rw [hW1_1];simp [hZ1_0]
  have hZ1_2:W1_2.heap.size=w.heap.size+3:=by rw [hW1_2];simp [hZ1_1]
  have hZ1_3:W1_3.heap.size=w.heap.size+4:=by rw [hW1_3];simp [hZ1_2]
  have hx0:Bx W1_0 (w.heap.size) [V1,V2]:=by rw [hW1_0];exact Bx.new' _ _ _ _ rfl
  replace hx0:Bx W1_1 (w.heap.size) [V1,V2]:=by rw [hW1_1];exact hx0.alloc (by omega) _
  replace hx0:Bx W1_2 (w.heap.size) [V1,V2]:=by rw [hW1_2];exact hx0.alloc (by omega) _
  replace hx0:Bx W1_3 (w.heap.size) [V1,V2]:=by rw [hW1_3];exact hx0.alloc (by omega) _
  have hx1:Bx W1_1 (w.heap.size+1) [.int .i64 a,.int .i64 b,.int .i64 c,.int .i64 d]:=by rw [hW1_1,←hZ1_0];exact Bx.new' _ _ _ _ rfl
  replace hx1:Bx W1_2 (w.heap.size+1) [.int .i64 a,.int .i64 b,.int .i64 c,.int .i64 d]:=by rw [hW1_2];exact hx1.alloc (by omega) _
  replace hx1:Bx W1_3 (w.heap.size+1) [.int .i64 a,.int .i64 b,.int .i64 c,.int .i64 d]:=by rw [hW1_3];exact hx1.alloc (by omega) _
  have hx2:Bx W1_2 (w.heap.size+2) [.int .i64 0,.int .i64 0,.int .i64 0,.int .i64 0,.int .i64 0,.int .i64 0,.int .i64 0,.slice none 0 0,.int .i64 0,.int .i64 0,.int .i64 0,.int .i64 0,.int .i64 0,.int .i64 0,.int .i64 0,.int .i64 0,.slice none 0 0,.int .i64 0,.int .i64 0,.int .i64 0,.int .i64 0,.int .i64 0,.int .i64 0,.int .i64 0,.int .i64 0,.slice none 0 0,.int .i64 0,.int .i64 0,.int .i64 0,.int .i64 0,.int .i64 0,.int .i64 0,.int .i64 0,.int .i64 0,.slice none 0 0,.int .i64 0]:=by rw [hW1_2,←hZ1_1];exact Bx.new' _ _ _ _ rfl
  replace hx2:Bx W1_3 (w.heap.size+2) [.int .i64 0,.int .i64 0,.int .i64 0,.int .i64 0,.int .i64 0,.int .i64 0,.int .i64 0,.slice none 0 0,.int .i64 0,.int .i64 0,.int .i64 0,.int .i64 0,.int .i64 0,.int .i64 0,.int .i64 0,.int .i64 0,.slice none 0 0,.int .i64 0,.int .i64 0,.int .i64 0,.int .i64 0,.int .i64 0,.int .i64 0,.int .i64 0,.int .i64 0,.slice none 0 0,.int .i64 0,.int .i64 0,.int .i64 0,.int .i64 0,.int .i64 0,.int .i64 0,.int .i64 0,.int .i64 0,.slice none 0 0,.int .i64 0]:=by rw [hW1_3];exact hx2.alloc (by omega) _
  have hx3:Bx W1_3 (w.heap.size+3) [.int .i64 0,.int .i64 0,.int .i64 0,.int .i64 0,.int .i64 0,.int .i64 0,.int .i64 0,.slice none 0 0,.int .i64 0,.int .i64 0,.int .i64 0,.int .i64 0,.int .i64 0,.int .i64 0,.int .i64 0,.int .i64 0,.slice none 0 0,.int .i64 0,.int .i64 0,.int .i64 0,.int .i64 0,.int .i64 0,.int .i64 0,.int .i64 0,.int .i64 0,.slice none 0 0,.int .i64 0,.int .i64 0,.int .i64 0,.int .i64 0,.int .i64 0,.int .i64 0,.int .i64 0,.int .i64 0,.slice none 0 0,.int .i64 0]:=by rw [hW1_3,←hZ1_2];exact Bx.new' _ _ _ _ rfl
  have hb0:Below w.heap.size w W1_3:=by rw [hW1_3,hW1_2,hW1_1,hW1_0];exact (((((Below.refl _ _).alloc (by first|exact Nat.le_refl _|(simp;done)|(simp;omega)) _).alloc (by first|exact Nat.le_refl _|(simp;done)|(simp;omega)) _).alloc (by first|exact Nat.le_refl _|(simp;done)|(simp;omega)) _).alloc (by first|exact Nat.le_refl _|(simp;done)|(simp;omega)) _)
  have hf2:∀o,W1_3.frozen? ⟨w.heap.size+2,o,none⟩=false:=fun o=>by rw [hW1_3,hW1_2,hW1_1,hW1_0];exact (((((Fresh.refl w).alloc _ _).alloc _ _).alloc _ _).alloc _ _) ⟨w.heap.size+2,o,none⟩ (by show w.heap.size≤w.heap.size+2;omega)
  have hf3:∀o,W1_3.frozen? ⟨w.heap.size+3,o,none⟩=false:=fun o=>by rw [hW1_3,hW1_2,hW1_1,hW1_0];exact (((((Fresh.refl w).alloc _ _).alloc _ _).alloc _ _).alloc _ _) ⟨w.heap.size+3,o,none⟩ (by show w.heap.size≤w.heap.size+3;omega)
  have hlt:w.heap.size+3 < W1_3.heap.size:=by omega
  rw [←hW1_0,←hW1_1,←hW1_2,←hW1_3]
  clear hW1_0 hZ1_0 hW1_1 hZ1_1 hW1_2 hZ1_2 hW1_3 hZ1_3
  have z_2:=hb0.size
  have Hbel_3:=hd' (hb0)
  have HB_4:=hd' (hx0)
  have HK_5:=hd' (hx1)
  have HR_6:=hd' (hx2)
  have HRF_7:=hd' (hf2)
  clear hf2
  have HH_8:=hd' (hx3)
  have HHF_9:=hd' (hf3)
  clear hf3
  clear hb0 hx0 hx1 hx2 hx3
  have hl_10:=hlt
  clear hlt
  have HRB_11:=hd' (show BigBx W1_3 (w.heap.size+2) z36 from ⟨bx_range HR_6.out,HRF_7.out,by omega⟩)
  clear HR_6 HRF_7
  have HHB_12:=hd' (show BigBx W1_3 (w.heap.size+3) z36 from ⟨bx_range HH_8.out,HHF_9.out,by omega⟩)
  clear HH_8 HHF_9
  have HZero:=hd' (HdsAt.zero W1_3 (w.heap.size+4) W1_3.heap.size)
  go_loopw [9,16] (fun last i wr=>∃(k:Nat) (l:List Value),k≤hs.length∧i=.int .i64 k∧last=.int .i64 (lastA hs k)∧(∀j,j < k→hdP f hs [a,b,c,d] j=true)∧BigBx wr (w.heap.size+3) l∧HdsAt wr (w.heap.size+4) wr.heap.size l (slM (hs.take k))∧Below (w.heap.size+3) W1_3 wr∧W1_3.heap.size≤wr.heap.size) (fun _ i _=>hs.length - (intOf i).toNat)
  case atStart=>exact ⟨0,z36,Nat.zero_le _,rfl,rfl,fun j h=>absurd h (by omega),HHB_12.out,by simpa using HZero.out,Below.refl _ _,Nat.le_refl _⟩
  case round =>
    obtain ⟨k,l,hk,rfl,rfl,hok,hbox,hsl,hbel,hzr⟩:=hrel
    have HOk:=hd' hok
    have HBox:=hd' hbox
    have HSl:=hd' hsl
    have HBW:=hd' hbel
    have Hbel_13:=hd' (Hbel_3.out.trans (hbel.mono (by omega)))
    have HB_14:=hd' (show Bx wr (w.heap.size) [V1,V2] from fun j hj=>(hbel.cell (p:=⟨w.heap.size,j,none⟩) (by show w.heap.size < _;omega)).trans (HB_4.out j hj))
    have HK_15:=hd' (show Bx wr (w.heap.size+1) [.int .i64 a,.int .i64 b,.int .i64 c,.int .i64 d] from fun j hj=>(hbel.cell (p:=⟨w.heap.size+1,j,none⟩) (by show w.heap.size+1 < _;omega)).trans (HK_5.out j hj))
    have HRB_16:=hd' (show BigBx wr (w.heap.size+2) z36 from ⟨range_below HRB_11.out.at_ hbel (by omega),fun o=>(hbel.frozen (p:=⟨w.heap.size+2,o,none⟩) (by show w.heap.size+2 < _;omega)).trans (HRB_11.out.fr o),by omega⟩)
    clear Hbel_3 HB_4 HK_5 HRB_11 HHB_12
    clear hok hbox hsl hbel HZero
    by_cases hkl:k < hs.length
    · obtain ⟨m,hm⟩:∃m,m=hs[k]:=⟨_,rfl⟩
      have hle:=one_le_mbulk hs k hkl
      obtain ⟨bA,oA,rfl,_,hbA,hc⟩:=HH.out (by omega)
      obtain ⟨AV,cv,A,c0,d0,d1,d2,d3,d4,d5,hv0,he0,_⟩:=(hc k hkl).keep (w':=wr) (Nat.zero_le _) hbA (fun p _ hp=>Hbel_13.out.cell hp)
      rw [←hm] at d0 d1 d2 d3 d4 d5 hv0 he0 hle
      have HM:=hd' hm
      have HV0:=hd' hv0
      have HE0:=hd' he0
      have hk':(k:Int) < (hs.length:Int):=by omega
      have lA:bA < wr.heap.size:=by omega
      clear hc hm hv0 he0
      go_upto_region 6 with fail
      clear d0 d1 d2 d3 d4 d5
      obtain ⟨W17_0,hW17_0⟩:∃x,x=wr.alloc (.cells #[.int .i64 m.au,.int .i64 m.sq,.int .i64 m.pv,.slice AV m.vec.length cv,.slice A m.es.length c0,.int .i64 m.sg] 40):=⟨_,rfl⟩
      have hZ17_0:W17_0.heap.size=wr.heap.size+1:=by rw [hW17_0];simp
      have hx0:Bx W17_0 (wr.heap.size) [.int .i64 m.au,.int .i64 m.sq,.int .i64 m.pv,.slice AV m.vec.length cv,.slice A m.es.length c0,.int .i64 m.sg]:=by rw [hW17_0];exact Bx.new' _ _ _ _ rfl
      have hb0:Below wr.heap.size wr W17_0:=by rw [hW17_0];exact ((Below.refl _ _).alloc (by first|exact Nat.le_refl _|(simp;done)|(simp;omega)) _)
      have hlt:wr.heap.size+0 < W17_0.heap.size:=by omega
      rw [←hW17_0]
      clear hW17_0 hZ17_0
      have z_18:=hb0.size
      have Hbel_19:=hd' (Hbel_13.out.trans (hb0.mono (by omega)))
      have HB_20:=hd' (HB_14.out.below hb0 (by omega))
      have HK_21:=hd' (HK_15.out.below hb0 (by omega))
      have HRB_22:=hd' (HRB_16.out.below hb0)
      have Hsl_23:=hd' ((HSl.out.keep fun _ _ hp=>hb0.cell hp).mono hb0.size)
      have Hhb_24:=hd' (HBox.out.below hb0)
      have Hbw_25:=hd' (HBW.out.trans (hb0.mono (by omega)))
      have Hv0_26:=hd' ((HV0.out.keep fun p _ hp=>hb0.cell (by omega)))
      have He0_27:=hd' ((HE0.out.keep fun p _ hp=>hb0.cell (by omega)))
      clear Hbel_13 HB_14 HK_15 HRB_16 HSl HBox HBW HV0 HE0
      have HM_28:=hd' (hx0)
      clear hb0 hx0
      have hl_29:=hlt
      clear hlt
      have qB_0:=HB_20.out 0 (by simp)
      have qB_1:=HB_20.out 1 (by simp)
      have lB:w.heap.size < W17_0.heap.size:=by omega
      have qM_0:=HM_28.out 0 (by simp)
      have qM_1:=HM_28.out 1 (by simp)
      have qM_2:=HM_28.out 2 (by simp)
      have qM_3:=HM_28.out 3 (by simp)
      have qM_4:=HM_28.out 4 (by simp)
      have qM_5:=HM_28.out 5 (by simp)
      have lM:wr.heap.size < W17_0.heap.size:=by omega
      simp only [List.getElem_cons_succ,List.getElem_cons_zero] at qB_0 qB_1 qM_0 qM_1 qM_2 qM_3 qM_4 qM_5
      go_wp2_with fail
      refine (HSd.out m AV cv A c0 W17_0 Hbel_19.out (Hv0_26.out.mono (by omega)) (He0_27.out.mono (by omega)) (by omega) (by omega)).mono ?_
      rintro e w1 ⟨x0,x1,x2,x3,E,n,c',rfl,htr,hb⟩
      clear qB_0 qB_1 lB qM_0 qM_1 qM_2 qM_3 qM_4 qM_5 lM
      have z_30:=hb.size
      have Hbel_31:=hd' (Hbel_19.out.trans (hb.mono (by omega)))
      have HB_32:=hd' (HB_20.out.below hb (by omega))
      have HK_33:=hd' (HK_21.out.below hb (by omega))
      have HRB_34:=hd' (HRB_22.out.below hb)
      have Hsl_35:=hd' ((Hsl_23.out.keep fun _ _ hp=>hb.cell hp).mono hb.size)
      have Hhb_36:=hd' (Hhb_24.out.below hb)
      have Hbw_37:=hd' (Hbw_25.out.trans (hb.mono (by omega)))
      clear Hbel_19 HB_20 HK_21 HRB_22 Hsl_23 Hhb_24 Hbw_25 Hv0_26 He0_27 HM_28
      have Htr_38:=hd' (show (treeB m.vec m.es=true→m.vec=[x0,x1,x2,x3]∧n=m.es.length∧EvsIn w1 (w.heap.size+4) w1.heap.size E m.es) from fun h=>⟨(htr h).1,(htr h).2.1,(htr h).2.2.low (by omega)⟩)
      clear hb
      clear htr
      obtain ⟨q,hq⟩:∃q,q=sdM f m:=⟨_,rfl⟩
      have HQ:=hd' hq
      unfold sdM at hq
      rw [←hq]
      clear hq
      go_upto_region 7 with fail
      obtain ⟨W39_0,hW39_0⟩:∃x,x=w1.alloc (.cells #[.int .i64 m.au,.int .i64 m.sq,.int .i64 m.pv,.int .i64 x0,.int .i64 x1,.int .i64 x2,.int .i64 x3,.slice E n c',.int .i64 m.sg] 105):=⟨_,rfl⟩
      have hZ39_0:W39_0.heap.size=w1.heap.size+1:=by rw [hW39_0];simp
      have hx0:Bx W39_0 (w1.heap.size) [.int .i64 m.au,.int .i64 m.sq,.int .i64 m.pv,.int .i64 x0,.int .i64 x1,.int .i64 x2,.int .i64 x3,.slice E n c',.int .i64 m.sg]:=by rw [hW39_0];exact Bx.new' _ _ _ _ rfl
      have hb0:Below w1.heap.size w1 W39_0:=by rw [hW39_0];exact ((Below.refl _ _).alloc (by first|exact Nat.le_refl _|(simp;done)|(simp;omega)) _)
      have hlt:w1.heap.size+0 < W39_0.heap.size:=by omega
      rw [←hW39_0]
      clear hW39_0 hZ39_0
      have z_40:=hb0.size
      have Hbel_41:=hd' (Hbel_31.out.trans (hb0.mono (by omega)))
      have HB_42:=hd' (HB_32.out.below hb0 (by omega))
      have HK_43:=hd' (HK_33.out.below hb0 (by omega))
      have HRB_44:=hd' (HRB_34.out.below hb0)
      have Hsl_45:=hd' ((Hsl_35.out.keep fun _ _ hp=>hb0.cell hp).mono hb0.size)
      have Hhb_46:=hd' (Hhb_36.out.below hb0)
      have Hbw_47:=hd' (Hbw_37.out.trans (hb0.mono (by omega)))
      have Htr_48:=hd' (show (treeB m.vec m.es=true→m.vec=[x0,x1,x2,x3]∧n=m.es.length∧EvsIn W39_0 (w.heap.size+4) W39_0.heap.size E m.es) from fun h=>⟨(Htr_38.out h).1,(Htr_38.out h).2.1,((Htr_38.out h).2.2.below hb0).mono hb0.size⟩)
      clear Hbel_31 HB_32 HK_33 HRB_34 Hsl_35 Hhb_36 Hbw_37 Htr_38
      have HX_49:=hd' (hx0)
      clear hb0 hx0
      have hl_50:=hlt
      clear hlt
      have qX_0:=HX_49.out 0 (by simp)
      have qX_1:=HX_49.out 1 (by simp)
      have qX_2:=HX_49.out 2 (by simp)
      have qX_3:=HX_49.out 3 (by simp)
      have qX_4:=HX_49.out 4 (by simp)
      have qX_5:=HX_49.out 5 (by simp)
      have qX_6:=HX_49.out 6 (by simp)
      have qX_7:=HX_49.out 7 (by simp)
      have qX_8:=HX_49.out 8 (by simp)
      have lX:w1.heap.size < W39_0.heap.size:=by omega
      have qK_0:=HK_43.out 0 (by simp)
      have qK_1:=HK_43.out 1 (by simp)
      have qK_2:=HK_43.out 2 (by simp)
      have qK_3:=HK_43.out 3 (by simp)
      have lK:w.heap.size+1 < W39_0.heap.size:=by omega
      simp only [List.getElem_cons_succ,List.getElem_cons_zero] at qX_0 qX_1 qX_2 qX_3 qX_4 qX_5 qX_6 qX_7 qX_8 qK_0 qK_1 qK_2 qK_3
      cases q with
      | false =>
        have HF:=hd' (show rhB f hs [a,b,c,d]=false from rhB_false hkl (hdP_not hkl (.inl (by rw [←HM.out];exact HQ.out.symm))))
        have hl36:=Hsl_45.out.len
        have h1s:=Hsl_45.out.one
        have hld:=la36_of hl36 Hhb_46.out.at_
        have hst:=sa36_of hl36 h1s (HRB_44.out.there rfl)
        obtain ⟨w9,hw9⟩:∃x,x=W39_0.setCells (w.heap.size+2) 0 l:=⟨_,rfl⟩
        rw [←hw9] at hst
        have hbx9:BigBx w9 (w.heap.size+2) l:=by rw [hw9];exact HRB_44.out.put (hl36.trans rfl)
        have hbel9:Below w.heap.size w w9:=by rw [hw9];exact setCells_below Hbel_41.out (by omega)
        have HB9:=hd' hbel9
        have hlv:=lv36_of hl36 hbx9.at_
        have HLv:=hd' hlv
        have H36:=hd' hl36
        have H1s:=hd' h1s
        clear hw9 hbel9 hlv hbx9 hl36 h1s
        go_wp2_with fail
        have hlv:=HLv.out
        refine bodyPost_ret (v:=.tuple #[.agg l.toArray,.bool false]) (results_ct Tryz.results167 (p:=⟨w.heap.size+2,0,none⟩) (by first|rfl|simp) (by first|rfl|simp) hlv) rfl ⟨l,by rw [HF.out],H36.out,H1s.out,(fun h=>by rw [HF.out] at h;cases h),HB9.out⟩
      | true =>
      have hman:=sdM_man HQ.out.symm
      have hsd:=manB_said hman
      have hmt:=manB_tree hman
      clear hman
      by_cases hal:m.au≤lastA hs k
      · have HF:=hd' (show rhB f hs [a,b,c,d]=false from rhB_false hkl (hdP_not hkl (.inr (.inl ⟨by rw [←HM.out];exact HQ.out.symm,by rw [←HM.out];exact hal⟩))))
        have hl36:=Hsl_45.out.len
        have h1s:=Hsl_45.out.one
        have hld:=la36_of hl36 Hhb_46.out.at_
        have hst:=sa36_of hl36 h1s (HRB_44.out.there rfl)
        obtain ⟨w9,hw9⟩:∃x,x=W39_0.setCells (w.heap.size+2) 0 l:=⟨_,rfl⟩
        rw [←hw9] at hst
        have hbx9:BigBx w9 (w.heap.size+2) l:=by rw [hw9];exact HRB_44.out.put (hl36.trans rfl)
        have hbel9:Below w.heap.size w w9:=by rw [hw9];exact setCells_below Hbel_41.out (by omega)
        have HB9:=hd' hbel9
        have hlv:=lv36_of hl36 hbx9.at_
        have HLv:=hd' hlv
        have H36:=hd' hl36
        have H1s:=hd' h1s
        clear hw9 hbel9 hlv hbx9 hl36 h1s
        go_wp2_with fail
        have hlv:=HLv.out
        refine bodyPost_ret (v:=.tuple #[.agg l.toArray,.bool false]) (results_ct Tryz.results167 (p:=⟨w.heap.size+2,0,none⟩) (by first|rfl|simp) (by first|rfl|simp) hlv) rfl ⟨l,by rw [HF.out],H36.out,H1s.out,(fun h=>by rw [HF.out] at h;cases h),HB9.out⟩
      have hal2:lastA hs k < m.au:=by omega
      clear hal
      have hvx:=(Htr_48.out hmt).1
      go_wp2_with fail
      refine (vbelow_any x0 x1 x2 x3 a b c d W39_0).mono ?_
      rintro e w2 ⟨rfl,hb⟩
      clear qX_0 qX_1 qX_2 qX_3 qX_4 qX_5 qX_6 qX_7 qX_8 lX qK_0 qK_1 qK_2 qK_3 lK
      have z_51:=hb.size
      have Hbel_52:=hd' (Hbel_41.out.trans (hb.mono (by omega)))
      have HB_53:=hd' (HB_42.out.below hb (by omega))
      have HK_54:=hd' (HK_43.out.below hb (by omega))
      have HRB_55:=hd' (HRB_44.out.below hb)
      have Hsl_56:=hd' ((Hsl_45.out.keep fun _ _ hp=>hb.cell hp).mono hb.size)
      have Hhb_57:=hd' (Hhb_46.out.below hb)
      have Hbw_58:=hd' (Hbw_47.out.trans (hb.mono (by omega)))
      have Htr_59:=hd' (show (treeB m.vec m.es=true→m.vec=[x0,x1,x2,x3]∧n=m.es.length∧EvsIn w2 (w.heap.size+4) w2.heap.size E m.es) from fun h=>⟨(Htr_48.out h).1,(Htr_48.out h).2.1,((Htr_48.out h).2.2.below hb).mono hb.size⟩)
      have HX_60:=hd' (HX_49.out.below hb (by omega))
      clear Hbel_41 HB_42 HK_43 HRB_44 Hsl_45 Hhb_46 Hbw_47 Htr_48 HX_49
      clear hb
      obtain ⟨q2,hq2⟩:∃q,q=belB x0 x1 x2 x3 a b c d:=⟨_,rfl⟩
      have HQ2:=hd' (show q2=belVV m.vec [a,b,c,d] by rw [hq2,hvx];rfl)
      rw [←hq2]
      clear hq2
      have qX_0:=HX_60.out 0 (by simp)
      have qX_1:=HX_60.out 1 (by simp)
      have qX_2:=HX_60.out 2 (by simp)
      have qX_3:=HX_60.out 3 (by simp)
      have qX_4:=HX_60.out 4 (by simp)
      have qX_5:=HX_60.out 5 (by simp)
      have qX_6:=HX_60.out 6 (by simp)
      have qX_7:=HX_60.out 7 (by simp)
      have qX_8:=HX_60.out 8 (by simp)
      have lX:w1.heap.size < w2.heap.size:=by omega
      simp only [List.getElem_cons_succ,List.getElem_cons_zero] at qX_0 qX_1 qX_2 qX_3 qX_4 qX_5 qX_6 qX_7 qX_8
      cases q2 with
      | false =>
        have HF:=hd' (show rhB f hs [a,b,c,d]=false from rhB_false hkl (hdP_not hkl (.inr (.inr (by rw [←HM.out];exact HQ2.out.symm)))))
        have hl36:=Hsl_56.out.len
        have h1s:=Hsl_56.out.one
        have hld:=la36_of hl36 Hhb_57.out.at_
        have hst:=sa36_of hl36 h1s (HRB_55.out.there rfl)
        obtain ⟨w9,hw9⟩:∃x,x=w2.setCells (w.heap.size+2) 0 l:=⟨_,rfl⟩
        rw [←hw9] at hst
        have hbx9:BigBx w9 (w.heap.size+2) l:=by rw [hw9];exact HRB_55.out.put (hl36.trans rfl)
        have hbel9:Below w.heap.size w w9:=by rw [hw9];exact setCells_below Hbel_52.out (by omega)
        have HB9:=hd' hbel9
        have hlv:=lv36_of hl36 hbx9.at_
        have HLv:=hd' hlv
        have H36:=hd' hl36
        have H1s:=hd' h1s
        clear hw9 hbel9 hlv hbx9 hl36 h1s
        go_wp2_with fail
        have hlv:=HLv.out
        refine bodyPost_ret (v:=.tuple #[.agg l.toArray,.bool false]) (results_ct Tryz.results167 (p:=⟨w.heap.size+2,0,none⟩) (by first|rfl|simp) (by first|rfl|simp) hlv) rfl ⟨l,by rw [HF.out],H36.out,H1s.out,(fun h=>by rw [HF.out] at h;cases h),HB9.out⟩
      | true =>
      have HStep:=hd' (hdP_of (f:=f) (vec:=[a,b,c,d]) hkl (by rw [←HM.out];exact HQ.out.symm) (by rw [←HM.out];exact hal2) (by rw [←HM.out];exact HQ2.out.symm))
      have hl36:=Hsl_56.out.len
      obtain ⟨hau0,hau4,_⟩:=hsd
      obtain ⟨ja,hja⟩:∃j:Nat,m.au=(j:Int)∧j < 4:=⟨m.au.toNat,by omega,by omega⟩
      obtain ⟨hja,hj4⟩:=hja
      have HNew:=hd' (show HsAt w2 (w.heap.size+4) w2.heap.size [.int .i64 m.au,.int .i64 m.sq,.int .i64 m.pv,.int .i64 x0,.int .i64 x1,.int .i64 x2,.int .i64 x3,.slice E n c',.int .i64 m.sg] m from ⟨x0,x1,x2,x3,E,c',hvx,by rw [(Htr_59.out hmt).2.1],(Htr_59.out hmt).2.2⟩)
      have HSet:=hd' (Hsl_56.out.set Hhb_57.out (j:=ja) hj4 HNew.out (by omega))
      have hap:∀x∈hs.take k,x.au≠m.au:=fun x hx=>by have:=asc_ahead hk HOk.out x hx;omega
      have HAp:=hd' hap
      clear hap hvx
      clear qX_0 qX_1 qX_2 qX_3 qX_4 qX_5 qX_6 qX_7 qX_8 lX
      have hcase:ja=0∨ja=1∨ja=2∨ja=3:=by omega
      rcases hcase with rfl|rfl|rfl|rfl
      · obtain ⟨o0,ho0⟩:=Hhb_57.out.some (j:=0) (by omega)
        obtain ⟨o1,ho1⟩:=Hhb_57.out.some (j:=1) (by omega)
        obtain ⟨o2,ho2⟩:=Hhb_57.out.some (j:=2) (by omega)
        obtain ⟨o3,ho3⟩:=Hhb_57.out.some (j:=3) (by omega)
        obtain ⟨o4,ho4⟩:=Hhb_57.out.some (j:=4) (by omega)
        obtain ⟨o5,ho5⟩:=Hhb_57.out.some (j:=5) (by omega)
        obtain ⟨o6,ho6⟩:=Hhb_57.out.some (j:=6) (by omega)
        obtain ⟨o7,ho7⟩:=Hhb_57.out.some (j:=7) (by omega)
        obtain ⟨o8,ho8⟩:=Hhb_57.out.some (j:=8) (by omega)
        have hf0:=Hhb_57.out.fr 0
        have hf1:=Hhb_57.out.fr 1
        have hf2:=Hhb_57.out.fr 2
        have hf3:=Hhb_57.out.fr 3
        have hf4:=Hhb_57.out.fr 4
        have hf5:=Hhb_57.out.fr 5
        have hf6:=Hhb_57.out.fr 6
        have hf7:=Hhb_57.out.fr 7
        have hf8:=Hhb_57.out.fr 8
        have lh:w.heap.size+3 < w2.heap.size:=by omega
        have qX_0:=HX_60.out 0 (by simp)
        have qX_1:=HX_60.out 1 (by simp)
        have qX_2:=HX_60.out 2 (by simp)
        have qX_3:=HX_60.out 3 (by simp)
        have qX_4:=HX_60.out 4 (by simp)
        have qX_5:=HX_60.out 5 (by simp)
        have qX_6:=HX_60.out 6 (by simp)
        have qX_7:=HX_60.out 7 (by simp)
        have qX_8:=HX_60.out 8 (by simp)
        have lX:w1.heap.size < w2.heap.size:=by omega
        simp only [List.getElem_cons_succ,List.getElem_cons_zero] at qX_0 qX_1 qX_2 qX_3 qX_4 qX_5 qX_6 qX_7 qX_8
        have hau:m.au=0:=by omega
        have HAu:=hd' hau
        rw [hau] at qX_0
        clear hau hja
        go_upto_region 10 with fail
        clear qX_0 qX_1 qX_2 qX_3 qX_4 qX_5 qX_6 qX_7 qX_8 lX
        clear ho0 hf0 ho1 hf1 ho2 hf2 ho3 hf3 ho4 hf4 ho5 hf5 ho6 hf6 ho7 hf7 ho8 hf8 lh
        obtain ⟨w5,hW61⟩:∃x,x=putAll (w.heap.size+3) 0 [.int .i64 0,.int .i64 m.sq,.int .i64 m.pv,.int .i64 x0,.int .i64 x1,.int .i64 x2,.int .i64 x3,.slice E n c',.int .i64 m.sg] w2:=⟨_,rfl⟩
        have hz5:w5.heap.size=w2.heap.size:=by rw [hW61];exact putAll_size
        have hbel5:Below w.heap.size w w5:=by rw [hW61];exact putAll_below Hbel_52.out (by omega)
        have hbelW:Below (w.heap.size+3) W1_3 w5:=by rw [hW61];exact putAll_below Hbw_58.out (by omega)
        have hX5:Bx w5 (w1.heap.size) [.int .i64 m.au,.int .i64 m.sq,.int .i64 m.pv,.int .i64 x0,.int .i64 x1,.int .i64 x2,.int .i64 x3,.slice E n c',.int .i64 m.sg]:=by rw [hW61];exact HX_60.out.put_else (by omega)
        obtain ⟨l2,hb2,hd2⟩:∃l2,BigBx w5 (w.heap.size+3) l2∧HdsAt w5 (w.heap.size+4) w2.heap.size l2 (fun a=>if a=(0:Int) then m else slM (hs.take k) a):=by
          have h:=HSet.out
          rw [HAu.out] at h
          rw [hW61]
          exact h
        have HRel:=hd' (And.intro hb2 (And.intro hd2 (And.intro hbelW hz5)))
        simp only [putAll] at hW61
        rw [←hW61]
        have q0:=hX5 0 (by simp)
        have q1:=hX5 1 (by simp)
        have q2:=hX5 2 (by simp)
        have q3:=hX5 3 (by simp)
        have q4:=hX5 4 (by simp)
        have q5:=hX5 5 (by simp)
        have q6:=hX5 6 (by simp)
        have q7:=hX5 7 (by simp)
        have q8:=hX5 8 (by simp)
        simp only [List.getElem_cons_succ,List.getElem_cons_zero] at q0 q1 q2 q3 q4 q5 q6 q7 q8
        have lx:w1.heap.size < w5.heap.size:=by omega
        clear hW61 hb2 hd2 hbelW hbel5 hX5
        go_wp2_with fail
        go_roundw
        case rel =>
          obtain ⟨hb2,hd2,hbelW,hz⟩:=HRel.out
          refine ⟨k+1,l2,by omega,by go_num,by rw [lastA_succ hkl,←HM.out],fun i hi=>?_,hb2,?_,hbelW,by omega⟩
          · by_cases e:i=k
            · subst e;exact HStep.out
            · exact HOk.out i (by omega)
          · rw [List.take_succ_eq_append_getElem hkl,←HM.out]
            refine (hd2.mono (by omega)).congr ?_ ?_ ?_ ?_
            · have e:=slM_snoc_eq HAp.out
              rw [HAu.out] at e
              simpa using e
            · have e:=slM_snoc_ne (m:=m) (hs:=hs.take k) (a:=1) (by rw [HAu.out];decide)
              simpa using e
            · have e:=slM_snoc_ne (m:=m) (hs:=hs.take k) (a:=2) (by rw [HAu.out];decide)
              simpa using e
            · have e:=slM_snoc_ne (m:=m) (hs:=hs.take k) (a:=3) (by rw [HAu.out];decide)
              simpa using e
        case measure=>simp [intOf];omega
      · obtain ⟨o0,ho0⟩:=Hhb_57.out.some (j:=9) (by omega)
        obtain ⟨o1,ho1⟩:=Hhb_57.out.some (j:=10) (by omega)
        obtain ⟨o2,ho2⟩:=Hhb_57.out.some (j:=11) (by omega)
        obtain ⟨o3,ho3⟩:=Hhb_57.out.some (j:=12) (by omega)
        obtain ⟨o4,ho4⟩:=Hhb_57.out.some (j:=13) (by omega)
        obtain ⟨o5,ho5⟩:=Hhb_57.out.some (j:=14) (by omega)
        obtain ⟨o6,ho6⟩:=Hhb_57.out.some (j:=15) (by omega)
        obtain ⟨o7,ho7⟩:=Hhb_57.out.some (j:=16) (by omega)
        obtain ⟨o8,ho8⟩:=Hhb_57.out.some (j:=17) (by omega)
        have hf0:=Hhb_57.out.fr 9
        have hf1:=Hhb_57.out.fr 10
        have hf2:=Hhb_57.out.fr 11
        have hf3:=Hhb_57.out.fr 12
        have hf4:=Hhb_57.out.fr 13
        have hf5:=Hhb_57.out.fr 14
        have hf6:=Hhb_57.out.fr 15
        have hf7:=Hhb_57.out.fr 16
        have hf8:=Hhb_57.out.fr 17
        have lh:w.heap.size+3 < w2.heap.size:=by omega
        have qX_0:=HX_60.out 0 (by simp)
        have qX_1:=HX_60.out 1 (by simp)
        have qX_2:=HX_60.out 2 (by simp)
        have qX_3:=HX_60.out 3 (by simp)
        have qX_4:=HX_60.out 4 (by simp)
        have qX_5:=HX_60.out 5 (by simp)
        have qX_6:=HX_60.out 6 (by simp)
        have qX_7:=HX_60.out 7 (by simp)
        have qX_8:=HX_60.out 8 (by simp)
        have lX:w1.heap.size < w2.heap.size:=by omega
        simp only [List.getElem_cons_succ,List.getElem_cons_zero] at qX_0 qX_1 qX_2 qX_3 qX_4 qX_5 qX_6 qX_7 qX_8
        have hau:m.au=1:=by omega
        have HAu:=hd' hau
        rw [hau] at qX_0
        clear hau hja
        go_upto_region 10 with fail
        clear qX_0 qX_1 qX_2 qX_3 qX_4 qX_5 qX_6 qX_7 qX_8 lX
        clear ho0 hf0 ho1 hf1 ho2 hf2 ho3 hf3 ho4 hf4 ho5 hf5 ho6 hf6 ho7 hf7 ho8 hf8 lh
        obtain ⟨w5,hW61⟩:∃x,x=putAll (w.heap.size+3) 9 [.int .i64 1,.int .i64 m.sq,.int .i64 m.pv,.int .i64 x0,.int .i64 x1,.int .i64 x2,.int .i64 x3,.slice E n c',.int .i64 m.sg] w2:=⟨_,rfl⟩
        have hz5:w5.heap.size=w2.heap.size:=by rw [hW61];exact putAll_size
        have hbel5:Below w.heap.size w w5:=by rw [hW61];exact putAll_below Hbel_52.out (by omega)
        have hbelW:Below (w.heap.size+3) W1_3 w5:=by rw [hW61];exact putAll_below Hbw_58.out (by omega)
        have hX5:Bx w5 (w1.heap.size) [.int .i64 m.au,.int .i64 m.sq,.int .i64 m.pv,.int .i64 x0,.int .i64 x1,.int .i64 x2,.int .i64 x3,.slice E n c',.int .i64 m.sg]:=by rw [hW61];exact HX_60.out.put_else (by omega)
        obtain ⟨l2,hb2,hd2⟩:∃l2,BigBx w5 (w.heap.size+3) l2∧HdsAt w5 (w.heap.size+4) w2.heap.size l2 (fun a=>if a=(1:Int) then m else slM (hs.take k) a):=by
          have h:=HSet.out
          rw [HAu.out] at h
          rw [hW61]
          exact h
        have HRel:=hd' (And.intro hb2 (And.intro hd2 (And.intro hbelW hz5)))
        simp only [putAll] at hW61
        rw [←hW61]
        have q0:=hX5 0 (by simp)
        have q1:=hX5 1 (by simp)
        have q2:=hX5 2 (by simp)
        have q3:=hX5 3 (by simp)
        have q4:=hX5 4 (by simp)
        have q5:=hX5 5 (by simp)
        have q6:=hX5 6 (by simp)
        have q7:=hX5 7 (by simp)
        have q8:=hX5 8 (by simp)
        simp only [List.getElem_cons_succ,List.getElem_cons_zero] at q0 q1 q2 q3 q4 q5 q6 q7 q8
        have lx:w1.heap.size < w5.heap.size:=by omega
        clear hW61 hb2 hd2 hbelW hbel5 hX5
        go_wp2_with fail
        go_roundw
        case rel =>
          obtain ⟨hb2,hd2,hbelW,hz⟩:=HRel.out
          refine ⟨k+1,l2,by omega,by go_num,by rw [lastA_succ hkl,←HM.out],fun i hi=>?_,hb2,?_,hbelW,by omega⟩
          · by_cases e:i=k
            · subst e;exact HStep.out
            · exact HOk.out i (by omega)
          · rw [List.take_succ_eq_append_getElem hkl,←HM.out]
            refine (hd2.mono (by omega)).congr ?_ ?_ ?_ ?_
            · have e:=slM_snoc_ne (m:=m) (hs:=hs.take k) (a:=0) (by rw [HAu.out];decide)
              simpa using e
            · have e:=slM_snoc_eq HAp.out
              rw [HAu.out] at e
              simpa using e
            · have e:=slM_snoc_ne (m:=m) (hs:=hs.take k) (a:=2) (by rw [HAu.out];decide)
              simpa using e
            · have e:=slM_snoc_ne (m:=m) (hs:=hs.take k) (a:=3) (by rw [HAu.out];decide)
              simpa using e
        case measure=>simp [intOf];omega
      · obtain ⟨o0,ho0⟩:=Hhb_57.out.some (j:=18) (by omega)
        obtain ⟨o1,ho1⟩:=Hhb_57.out.some (j:=19) (by omega)
        obtain ⟨o2,ho2⟩:=Hhb_57.out.some (j:=20) (by omega)
        obtain ⟨o3,ho3⟩:=Hhb_57.out.some (j:=21) (by omega)
        obtain ⟨o4,ho4⟩:=Hhb_57.out.some (j:=22) (by omega)
        obtain ⟨o5,ho5⟩:=Hhb_57.out.some (j:=23) (by omega)
        obtain ⟨o6,ho6⟩:=Hhb_57.out.some (j:=24) (by omega)
        obtain ⟨o7,ho7⟩:=Hhb_57.out.some (j:=25) (by omega)
        obtain ⟨o8,ho8⟩:=Hhb_57.out.some (j:=26) (by omega)
        have hf0:=Hhb_57.out.fr 18
        have hf1:=Hhb_57.out.fr 19
        have hf2:=Hhb_57.out.fr 20
        have hf3:=Hhb_57.out.fr 21
        have hf4:=Hhb_57.out.fr 22
        have hf5:=Hhb_57.out.fr 23
        have hf6:=Hhb_57.out.fr 24
        have hf7:=Hhb_57.out.fr 25
        have hf8:=Hhb_57.out.fr 26
        have lh:w.heap.size+3 < w2.heap.size:=by omega
        have qX_0:=HX_60.out 0 (by simp)
        have qX_1:=HX_60.out 1 (by simp)
        have qX_2:=HX_60.out 2 (by simp)
        have qX_3:=HX_60.out 3 (by simp)
        have qX_4:=HX_60.out 4 (by simp)
        have qX_5:=HX_60.out 5 (by simp)
        have qX_6:=HX_60.out 6 (by simp)
        have qX_7:=HX_60.out 7 (by simp)
        have qX_8:=HX_60.out 8 (by simp)
        have lX:w1.heap.size < w2.heap.size:=by omega
        simp only [List.getElem_cons_succ,List.getElem_cons_zero] at qX_0 qX_1 qX_2 qX_3 qX_4 qX_5 qX_6 qX_7 qX_8
        have hau:m.au=2:=by omega
        have HAu:=hd' hau
        rw [hau] at qX_0
        clear hau hja
        go_upto_region 10 with fail
        clear qX_0 qX_1 qX_2 qX_3 qX_4 qX_5 qX_6 qX_7 qX_8 lX
        clear ho0 hf0 ho1 hf1 ho2 hf2 ho3 hf3 ho4 hf4 ho5 hf5 ho6 hf6 ho7 hf7 ho8 hf8 lh
        obtain ⟨w5,hW61⟩:∃x,x=putAll (w.heap.size+3) 18 [.int .i64 2,.int .i64 m.sq,.int .i64 m.pv,.int .i64 x0,.int .i64 x1,.int .i64 x2,.int .i64 x3,.slice E n c',.int .i64 m.sg] w2:=⟨_,rfl⟩
        have hz5:w5.heap.size=w2.heap.size:=by rw [hW61];exact putAll_size
        have hbel5:Below w.heap.size w w5:=by rw [hW61];exact putAll_below Hbel_52.out (by omega)
        have hbelW:Below (w.heap.size+3) W1_3 w5:=by rw [hW61];exact putAll_below Hbw_58.out (by omega)
        have hX5:Bx w5 (w1.heap.size) [.int .i64 m.au,.int .i64 m.sq,.int .i64 m.pv,.int .i64 x0,.int .i64 x1,.int .i64 x2,.int .i64 x3,.slice E n c',.int .i64 m.sg]:=by rw [hW61];exact HX_60.out.put_else (by omega)
        obtain ⟨l2,hb2,hd2⟩:∃l2,BigBx w5 (w.heap.size+3) l2∧HdsAt w5 (w.heap.size+4) w2.heap.size l2 (fun a=>if a=(2:Int) then m else slM (hs.take k) a):=by
          have h:=HSet.out
          rw [HAu.out] at h
          rw [hW61]
          exact h
        have HRel:=hd' (And.intro hb2 (And.intro hd2 (And.intro hbelW hz5)))
        simp only [putAll] at hW61
        rw [←hW61]
        have q0:=hX5 0 (by simp)
        have q1:=hX5 1 (by simp)
        have q2:=hX5 2 (by simp)
        have q3:=hX5 3 (by simp)
        have q4:=hX5 4 (by simp)
        have q5:=hX5 5 (by simp)
        have q6:=hX5 6 (by simp)
        have q7:=hX5 7 (by simp)
        have q8:=hX5 8 (by simp)
        simp only [List.getElem_cons_succ,List.getElem_cons_zero] at q0 q1 q2 q3 q4 q5 q6 q7 q8
        have lx:w1.heap.size < w5.heap.size:=by omega
        clear hW61 hb2 hd2 hbelW hbel5 hX5
        go_wp2_with fail
        go_roundw
        case rel =>
          obtain ⟨hb2,hd2,hbelW,hz⟩:=HRel.out
          refine ⟨k+1,l2,by omega,by go_num,by rw [lastA_succ hkl,←HM.out],fun i hi=>?_,hb2,?_,hbelW,by omega⟩
          · by_cases e:i=k
            · subst e;exact HStep.out
            · exact HOk.out i (by omega)
          · rw [List.take_succ_eq_append_getElem hkl,←HM.out]
            refine (hd2.mono (by omega)).congr ?_ ?_ ?_ ?_
            · have e:=slM_snoc_ne (m:=m) (hs:=hs.take k) (a:=0) (by rw [HAu.out];decide)
              simpa using e
            · have e:=slM_snoc_ne (m:=m) (hs:=hs.take k) (a:=1) (by rw [HAu.out];decide)
              simpa using e
            · have e:=slM_snoc_eq HAp.out
              rw [HAu.out] at e
              simpa using e
            · have e:=slM_snoc_ne (m:=m) (hs:=hs.take k) (a:=3) (by rw [HAu.out];decide)
              simpa using e
        case measure=>simp [intOf];omega
      · obtain ⟨o0,ho0⟩:=Hhb_57.out.some (j:=27) (by omega)
        obtain ⟨o1,ho1⟩:=Hhb_57.out.some (j:=28) (by omega)
        obtain ⟨o2,ho2⟩:=Hhb_57.out.some (j:=29) (by omega)
        obtain ⟨o3,ho3⟩:=Hhb_57.out.some (j:=30) (by omega)
        obtain ⟨o4,ho4⟩:=Hhb_57.out.some (j:=31) (by omega)
        obtain ⟨o5,ho5⟩:=Hhb_57.out.some (j:=32) (by omega)
        obtain ⟨o6,ho6⟩:=Hhb_57.out.some (j:=33) (by omega)
        obtain ⟨o7,ho7⟩:=Hhb_57.out.some (j:=34) (by omega)
        obtain ⟨o8,ho8⟩:=Hhb_57.out.some (j:=35) (by omega)
        have hf0:=Hhb_57.out.fr 27
        have hf1:=Hhb_57.out.fr 28
        have hf2:=Hhb_57.out.fr 29
        have hf3:=Hhb_57.out.fr 30
        have hf4:=Hhb_57.out.fr 31
        have hf5:=Hhb_57.out.fr 32
        have hf6:=Hhb_57.out.fr 33
        have hf7:=Hhb_57.out.fr 34
        have hf8:=Hhb_57.out.fr 35
        have lh:w.heap.size+3 < w2.heap.size:=by omega
        have qX_0:=HX_60.out 0 (by simp)
        have qX_1:=HX_60.out 1 (by simp)
        have qX_2:=HX_60.out 2 (by simp)
        have qX_3:=HX_60.out 3 (by simp)
        have qX_4:=HX_60.out 4 (by simp)
        have qX_5:=HX_60.out 5 (by simp)
        have qX_6:=HX_60.out 6 (by simp)
        have qX_7:=HX_60.out 7 (by simp)
        have qX_8:=HX_60.out 8 (by simp)
        have lX:w1.heap.size < w2.heap.size:=by omega
        simp only [List.getElem_cons_succ,List.getElem_cons_zero] at qX_0 qX_1 qX_2 qX_3 qX_4 qX_5 qX_6 qX_7 qX_8
        have hau:m.au=3:=by omega
        have HAu:=hd' hau
        rw [hau] at qX_0
        clear hau hja
        go_upto_region 10 with fail
        clear qX_0 qX_1 qX_2 qX_3 qX_4 qX_5 qX_6 qX_7 qX_8 lX
        clear ho0 hf0 ho1 hf1 ho2 hf2 ho3 hf3 ho4 hf4 ho5 hf5 ho6 hf6 ho7 hf7 ho8 hf8 lh
        obtain ⟨w5,hW61⟩:∃x,x=putAll (w.heap.size+3) 27 [.int .i64 3,.int .i64 m.sq,.int .i64 m.pv,.int .i64 x0,.int .i64 x1,.int .i64 x2,.int .i64 x3,.slice E n c',.int .i64 m.sg] w2:=⟨_,rfl⟩
        have hz5:w5.heap.size=w2.heap.size:=by rw [hW61];exact putAll_size
        have hbel5:Below w.heap.size w w5:=by rw [hW61];exact putAll_below Hbel_52.out (by omega)
        have hbelW:Below (w.heap.size+3) W1_3 w5:=by rw [hW61];exact putAll_below Hbw_58.out (by omega)
        have hX5:Bx w5 (w1.heap.size) [.int .i64 m.au,.int .i64 m.sq,.int .i64 m.pv,.int .i64 x0,.int .i64 x1,.int .i64 x2,.int .i64 x3,.slice E n c',.int .i64 m.sg]:=by rw [hW61];exact HX_60.out.put_else (by omega)
        obtain ⟨l2,hb2,hd2⟩:∃l2,BigBx w5 (w.heap.size+3) l2∧HdsAt w5 (w.heap.size+4) w2.heap.size l2 (fun a=>if a=(3:Int) then m else slM (hs.take k) a):=by
          have h:=HSet.out
          rw [HAu.out] at h
          rw [hW61]
          exact h
        have HRel:=hd' (And.intro hb2 (And.intro hd2 (And.intro hbelW hz5)))
        simp only [putAll] at hW61
        rw [←hW61]
        have q0:=hX5 0 (by simp)
        have q1:=hX5 1 (by simp)
        have q2:=hX5 2 (by simp)
        have q3:=hX5 3 (by simp)
        have q4:=hX5 4 (by simp)
        have q5:=hX5 5 (by simp)
        have q6:=hX5 6 (by simp)
        have q7:=hX5 7 (by simp)
        have q8:=hX5 8 (by simp)
        simp only [List.getElem_cons_succ,List.getElem_cons_zero] at q0 q1 q2 q3 q4 q5 q6 q7 q8
        have lx:w1.heap.size < w5.heap.size:=by omega
        clear hW61 hb2 hd2 hbelW hbel5 hX5
        go_wp2_with fail
        go_roundw
        case rel =>
          obtain ⟨hb2,hd2,hbelW,hz⟩:=HRel.out
          refine ⟨k+1,l2,by omega,by go_num,by rw [lastA_succ hkl,←HM.out],fun i hi=>?_,hb2,?_,hbelW,by omega⟩
          · by_cases e:i=k
            · subst e;exact HStep.out
            · exact HOk.out i (by omega)
          · rw [List.take_succ_eq_append_getElem hkl,←HM.out]
            refine (hd2.mono (by omega)).congr ?_ ?_ ?_ ?_
            · have e:=slM_snoc_ne (m:=m) (hs:=hs.take k) (a:=0) (by rw [HAu.out];decide)
              simpa using e
            · have e:=slM_snoc_ne (m:=m) (hs:=hs.take k) (a:=1) (by rw [HAu.out];decide)
              simpa using e
            · have e:=slM_snoc_ne (m:=m) (hs:=hs.take k) (a:=2) (by rw [HAu.out];decide)
              simpa using e
            · have e:=slM_snoc_eq HAp.out
              rw [HAu.out] at e
              simpa using e
        case measure=>simp [intOf];omega
    · have hke:k=hs.length:=by omega
      have HFull:=hd' (show HdsAt wr (w.heap.size+4) wr.heap.size l (slM hs) by have:=HSl.out;rw [hke,List.take_length] at this;exact this)
      have HF:=hd' (show rhB f hs [a,b,c,d]=true from rhB_true.2 fun i hi=>HOk.out i (by omega))
      clear hke
      have hl36:=HSl.out.len
      have h1s:=HSl.out.one
      have hld:=la36_of hl36 HBox.out.at_
      have hst:=sa36_of hl36 h1s (HRB_16.out.there rfl)
      obtain ⟨w9,hw9⟩:∃x,x=wr.setCells (w.heap.size+2) 0 l:=⟨_,rfl⟩
      rw [←hw9] at hst
      have hbx9:BigBx w9 (w.heap.size+2) l:=by rw [hw9];exact HRB_16.out.put (hl36.trans rfl)
      have hbel9:Below w.heap.size w w9:=by rw [hw9];exact setCells_below Hbel_13.out (by omega)
      have hsl9:HdsAt w9 w.heap.size w9.heap.size l (slM hs):=by rw [hw9,setCells_size];exact (HFull.out.keep fun p hp _=>World.cell?_setCells_out _ _ _ _ _ (fun hb _=>absurd hb (by omega))).low (by omega)
      have HB9:=hd' hbel9
      have HS9:=hd' hsl9
      have hlv:=lv36_of hl36 hbx9.at_
      have HLv:=hd' hlv
      have H36:=hd' hl36
      have H1s:=hd' h1s
      clear hsl9
      clear hw9 hbel9 hlv hbx9 hl36 h1s
      go_wp2_with fail
      have hlv:=HLv.out
      refine bodyPost_ret (v:=.tuple #[.agg l.toArray,.bool true]) (results_ct Tryz.results167 (p:=⟨w.heap.size+2,0,none⟩) (by first|rfl|simp) (by first|rfl|simp) hlv) rfl ⟨l,by rw [HF.out],H36.out,H1s.out,fun _=>HS9.out,HB9.out⟩
end Go.Proofs.YtckajeippfpojaaGreat
namespace Go.Proofs.YtckajeippfpojaaGreat
open Go.RowKit Go.Maps
set_option maxRecDepth 100000
def BxG (w:World) (b:Nat) (l:List Value):Prop:=Bx w b l∧(∀o,w.frozen? ⟨b,o,none⟩=false)∧b < w.heap.size
theorem bxG_below {w w':World} {b:Nat} {l:List Value} (h:BxG w b l) (hb:Below w.heap.size w w'):BxG w' b l :=
  ⟨h.1.below hb h.2.2,fun o=>(hb.frozen (p:=⟨b,o,none⟩) h.2.2).trans (h.2.1 o),Nat.lt_of_lt_of_le h.2.2 hb.size⟩
theorem bxG_at {X:World} {v0 v1 v2 v3 v4 v5 v6 v7 v8:Value} {t:TypeId}:BxG (X.alloc (.cells #[v0,v1,v2,v3,v4,v5,v6,v7,v8] t)) X.heap.size [v0,v1,v2,v3,v4,v5,v6,v7,v8] :=
  ⟨Bx.new' _ _ _ _ rfl,fun o=>((Fresh.refl X).alloc _ _) ⟨X.heap.size,o,none⟩ (Nat.le_refl _),by simp⟩
theorem bxG_new {X wt:World} {v0 v1 v2 v3 v4 v5 v6 v7 v8:Value} {t:TypeId} (h:Below (X.alloc (.cells #[v0,v1,v2,v3,v4,v5,v6,v7,v8] t)).drew.heap.size (X.alloc (.cells #[v0,v1,v2,v3,v4,v5,v6,v7,v8] t)).drew wt):BxG wt X.heap.size [v0,v1,v2,v3,v4,v5,v6,v7,v8] :=
  bxG_below bxG_at ((Below.refl _ _).drew.trans h)
theorem bxG_new' {X wt:World} {v0 v1 v2 v3 v4 v5 v6 v7 v8:Value} {t:TypeId} (h:Below (X.alloc (.cells #[v0,v1,v2,v3,v4,v5,v6,v7,v8] t)).heap.size (X.alloc (.cells #[v0,v1,v2,v3,v4,v5,v6,v7,v8] t)) wt):BxG wt X.heap.size [v0,v1,v2,v3,v4,v5,v6,v7,v8] :=
  bxG_below bxG_at h
theorem bxG_cells {w:World} {b:Nat} {v0 v1 v2 v3 v4 v5 v6 v7 v8:Value} (h:BxG w b [v0,v1,v2,v3,v4,v5,v6,v7,v8]) :
    w.cell? ⟨b,0,none⟩=some v0∧w.cell? ⟨b,1,none⟩=some v1∧w.cell? ⟨b,2,none⟩=some v2∧w.cell? ⟨b,3,none⟩=some v3∧w.cell? ⟨b,4,none⟩=some v4∧w.cell? ⟨b,5,none⟩=some v5∧w.cell? ⟨b,6,none⟩=some v6∧w.cell? ⟨b,7,none⟩=some v7∧w.cell? ⟨b,8,none⟩=some v8∧w.frozen? ⟨b,0,none⟩=false∧w.frozen? ⟨b,1,none⟩=false∧w.frozen? ⟨b,2,none⟩=false∧w.frozen? ⟨b,3,none⟩=false∧w.frozen? ⟨b,4,none⟩=false∧w.frozen? ⟨b,5,none⟩=false∧w.frozen? ⟨b,6,none⟩=false∧w.frozen? ⟨b,7,none⟩=false∧w.frozen? ⟨b,8,none⟩=false :=
  ⟨h.1 0 (by simp),h.1 1 (by simp),h.1 2 (by simp),h.1 3 (by simp),h.1 4 (by simp),h.1 5 (by simp),h.1 6 (by simp),h.1 7 (by simp),h.1 8 (by simp),h.2.1 0,h.2.1 1,h.2.1 2,h.2.1 3,h.2.1 4,h.2.1 5,h.2.1 6,h.2.1 7,h.2.1 8⟩
theorem bxG_put {X:World} {b:Nat} {us vs:List Value} (h:BxG X b us) (hl:vs.length=us.length):BxG (putAll b 0 vs X) b vs :=
  ⟨putAll_bx h.1 hl,fun o=>(putAll_frozen _).trans (h.2.1 o),by rw [putAll_size];exact h.2.2⟩
def RelM (f:Tm→Int) (m:Mn) (W:World) (s q:Value) (X:World):Prop :=
  ∃(b:Nat) (x0 x1 x2 x3:Int) (E:Option Addr) (n k:Nat),s=.pointer (some ⟨b,0,none⟩)∧q=.bool (sdB f m.au m.sq m.pv m.vec m.es m.sg)∧W.heap.size≤b∧b < X.heap.size∧Bx X b [.int .i64 m.au,.int .i64 m.sq,.int .i64 m.pv,.int .i64 x0,.int .i64 x1,.int .i64 x2,.int .i64 x3,.slice E n k,.int .i64 m.sg] ∧
    (treeB m.vec m.es=true→m.vec=[x0,x1,x2,x3]∧n=m.es.length∧EvsIn X W.heap.size X.heap.size E m.es)∧Below W.heap.size W X
theorem relM_put {f:Tm→Int} {m:Mn} {W w1:World} {b L:Nat} {x0 x1 x2 x3:Int} {E:Option Addr} {n k:Nat} {us:List Value}
    (htr:treeB m.vec m.es=true→m.vec=[x0,x1,x2,x3]∧n=m.es.length∧EvsIn w1 L w1.heap.size E m.es) (hL:W.heap.size≤L) (hbL:b < L) (hB:Below W.heap.size W w1) (hb:W.heap.size≤b) (hq:BxG w1 b us) (hl:us.length=9) :
    RelM f m W (.pointer (some ⟨b,0,none⟩)) (.bool (sdB f m.au m.sq m.pv m.vec m.es m.sg)) (putAll b 0 [.int .i64 m.au,.int .i64 m.sq,.int .i64 m.pv,.int .i64 x0,.int .i64 x1,.int .i64 x2,.int .i64 x3,.slice E n k,.int .i64 m.sg] w1) :=
  ⟨b,x0,x1,x2,x3,E,n,k,rfl,rfl,hb,by rw [putAll_size];exact hq.2.2,(bxG_put hq (by rw [hl];rfl)).1,fun h=>⟨(htr h).1,(htr h).2.1,by rw [putAll_size];exact ((htr h).2.2.keep fun p hp _=>putAll_other (by omega)).low hL⟩,putAll_below hB hb⟩
theorem relM_new {f:Tm→Int} {m:Mn} {W w1:World} {L:Nat} {x0 x1 x2 x3:Int} {E:Option Addr} {n k:Nat} {t:TypeId}
    (htr:treeB m.vec m.es=true→m.vec=[x0,x1,x2,x3]∧n=m.es.length∧EvsIn w1 L w1.heap.size E m.es) (hL:W.heap.size≤L) (hB:Below W.heap.size W w1) :
    RelM f m W (.pointer (some ⟨w1.heap.size,0,none⟩)) (.bool (sdB f m.au m.sq m.pv m.vec m.es m.sg)) (w1.alloc (.cells #[.int .i64 m.au,.int .i64 m.sq,.int .i64 m.pv,.int .i64 x0,.int .i64 x1,.int .i64 x2,.int .i64 x3,.slice E n k,.int .i64 m.sg] t)):=by
  have h3:Below w1.heap.size w1 (w1.alloc (.cells #[.int .i64 m.au,.int .i64 m.sq,.int .i64 m.pv,.int .i64 x0,.int .i64 x1,.int .i64 x2,.int .i64 x3,.slice E n k,.int .i64 m.sg] t)):=(Below.refl _ _).alloc (Nat.le_refl _) _
  exact ⟨w1.heap.size,x0,x1,x2,x3,E,n,k,rfl,rfl,hB.size,by simp,Bx.new' _ _ _ _ rfl,fun h=>⟨(htr h).1,(htr h).2.1,(((htr h).2.2.below h3).mono h3.size).low hL⟩,hB.trans (h3.mono hB.size)⟩
def RdPrf (f:Tm→Int) (al:Bool) (ps:List Mn) (w:World) (e:Ending) (w':World):Prop :=
  ∃(A:Option Addr) (n c:Nat),e=.returned (.tuple #[.slice A n c,.bool (prP f al ps)])∧(prP f al ps=true→n=ps.length∧PsAt w' w.heap.size w'.heap.size A ps)∧Below w.heap.size w w'
def Row18 (w:World) (b:Nat) (l0 l1:List Value):Prop:=w.rangeAt b 0 l0∧w.rangeAt b 9 l1∧b < w.heap.size
theorem row18_at {X:World} {v0 v1 v2 v3 v4 v5 v6 v7 v8 v9 v10 v11 v12 v13 v14 v15 v16 v17:Value} {t:TypeId}:Row18 (X.alloc (.cells #[v0,v1,v2,v3,v4,v5,v6,v7,v8,v9,v10,v11,v12,v13,v14,v15,v16,v17] t)) X.heap.size [v0,v1,v2,v3,v4,v5,v6,v7,v8] [v9,v10,v11,v12,v13,v14,v15,v16,v17]:=by
  have h:=heap_alloc_new X (.cells #[v0,v1,v2,v3,v4,v5,v6,v7,v8,v9,v10,v11,v12,v13,v14,v15,v16,v17] t)
  refine ⟨fun j v hv=>?_,fun j v hv=>?_,by simp⟩
  · have hj:j < 9:=(List.getElem?_eq_some_iff.1 hv).1
    rw [World.cell?,h,Nat.zero_add]
    have e:j=0∨j=1∨j=2∨j=3∨j=4∨j=5∨j=6∨j=7∨j=8:=by omega
    rcases e with rfl|rfl|rfl|rfl|rfl|rfl|rfl|rfl|rfl <;> exact hv
  · have hj:j < 9:=(List.getElem?_eq_some_iff.1 hv).1
    rw [World.cell?,h]
    have e:j=0∨j=1∨j=2∨j=3∨j=4∨j=5∨j=6∨j=7∨j=8:=by omega
    rcases e with rfl|rfl|rfl|rfl|rfl|rfl|rfl|rfl|rfl <;> exact hv
theorem Row18.below {w w':World} {b:Nat} {l0 l1:List Value} (h:Row18 w b l0 l1) (hb:Below w.heap.size w w'):Row18 w' b l0 l1 :=
  ⟨fun j v hv=>(hb.cell (p:=⟨b,0+j,none⟩) h.2.2).trans (h.1 j v hv),fun j v hv=>(hb.cell (p:=⟨b,9+j,none⟩) h.2.2).trans (h.2.1 j v hv),Nat.lt_of_lt_of_le h.2.2 hb.size⟩
theorem row18_new {X wt:World} {v0 v1 v2 v3 v4 v5 v6 v7 v8 v9 v10 v11 v12 v13 v14 v15 v16 v17:Value} {t:TypeId} (h:Below (X.alloc (.cells #[v0,v1,v2,v3,v4,v5,v6,v7,v8,v9,v10,v11,v12,v13,v14,v15,v16,v17] t)).drew.heap.size (X.alloc (.cells #[v0,v1,v2,v3,v4,v5,v6,v7,v8,v9,v10,v11,v12,v13,v14,v15,v16,v17] t)).drew wt):Row18 wt X.heap.size [v0,v1,v2,v3,v4,v5,v6,v7,v8] [v9,v10,v11,v12,v13,v14,v15,v16,v17] :=
  row18_at.below ((Below.refl _ _).drew.trans h)
theorem row18_new' {X wt:World} {v0 v1 v2 v3 v4 v5 v6 v7 v8 v9 v10 v11 v12 v13 v14 v15 v16 v17:Value} {t:TypeId} (h:Below (X.alloc (.cells #[v0,v1,v2,v3,v4,v5,v6,v7,v8,v9,v10,v11,v12,v13,v14,v15,v16,v17] t)).heap.size (X.alloc (.cells #[v0,v1,v2,v3,v4,v5,v6,v7,v8,v9,v10,v11,v12,v13,v14,v15,v16,v17] t)) wt):Row18 wt X.heap.size [v0,v1,v2,v3,v4,v5,v6,v7,v8] [v9,v10,v11,v12,v13,v14,v15,v16,v17] :=
  row18_at.below h
theorem ps_of18 {w2 w:World} {L0 L1 b L:Nat} {ps:List Mn} (h2:ps.length=2) {m0 m1:Mn} (hm0:m0=ps[0]) (hm1:m1=ps[1]) {x00 x01 x02 x03 x10 x11 x12 x13:Int} {E0 E1:Option Addr} {k0 k1:Nat}
    (hv0:m0.vec=[x00,x01,x02,x03]) (hv1:m1.vec=[x10,x11,x12,x13]) (he0:EvsIn w2 L0 w2.heap.size E0 m0.es) (he1:EvsIn w2 L1 w2.heap.size E1 m1.es) (hL0:L≤L0) (hL1:L≤L1) (hb:Below w2.heap.size w2 w)
    (hr:Row18 w b [.int .i64 m0.au,.int .i64 m0.sq,.int .i64 m0.pv,.int .i64 x00,.int .i64 x01,.int .i64 x02,.int .i64 x03,.slice E0 m0.es.length k0,.int .i64 m0.sg] [.int .i64 m1.au,.int .i64 m1.sq,.int .i64 m1.pv,.int .i64 x10,.int .i64 x11,.int .i64 x12,.int .i64 x13,.slice E1 m1.es.length k1,.int .i64 m1.sg]) (hLb:L≤b):PsAt w L w.heap.size (some ⟨b,0,none⟩) ps:=by
  subst hm0 hm1
  intro _
  refine ⟨b,0,rfl,hLb,hr.2.2,fun i hi=>?_⟩
  have:i=0∨i=1:=by omega
  rcases this with rfl|rfl
  · exact ⟨_,⟨x00,x01,x02,x03,E0,k0,hv0,rfl,((he0.below hb).mono hb.size).low hL0⟩,by simpa using hr.1⟩
  · exact ⟨_,⟨x10,x11,x12,x13,E1,k1,hv1,rfl,((he1.below hb).mono hb.size).low hL1⟩,by simpa using hr.2.1⟩
set_option maxHeartbeats 600000 in
theorem readProof_any (V1 V2:Value) (f:Tm→Int) (id:Int) (AV:Option Addr) (nv cv:Nat) (A:Option Addr) (ne c:Nat) (AH:Option Addr) (nh ch:Nat) (al:Bool) (AP:Option Addr) (ps:List Mn) (cp:Nat) (w:World) (hM:BkAt w V2 f) (hfw:∀t,(Lit.int .i64 (f t)).wf=true) (hP:MnsRd w 0 w.heap.size AP ps) (hpl:ps.length≤1048576) (hpb:mbulk ps≤1048576) :
    Calls Tryz.prog 168 #[.agg #[V1,V2],.agg #[.int .i64 id,.slice AV nv cv,.slice A ne c,.slice AH nh ch,.bool al,.slice AP ps.length cp]] w (RdPrf f al ps w):=by
  have HP:=hd' hP
  clear hP
  have HSd:=hd' (fun (m:Mn) AV cv A c W (hX:Below w.heap.size w W) (hV:IntsIn W 0 W.heap.size AV m.vec) (hA:EnsIn W 0 W.heap.size A m.es) (hn:m.es.length≤1048576) (hbk:ebulk m.es≤1048576)=>readSaid_any V1 V2 f m.au m.sq m.pv AV m.vec cv A m.es c m.sg W (hM.below hX) hfw hV hA hn hbk)
  clear hM
  go_enter Tryz.func168,Tryz.ntmps168
  cases al with
  | false =>
    by_cases h0:ps.length=0
    · have hi:((ps.length:Int) == 0)=true:=by rw [h0];rfl
      have HF:=hd' (show prP f false ps=true by unfold prP;simp [h0])
      have H0:=hd' h0
      clear h0
      go_wp2_with fail
      obtain ⟨W1_0,hW1_0⟩:∃x,x=w.alloc (.cells #[V1,V2] 125):=⟨_,rfl⟩
      obtain ⟨W1_1,hW1_1⟩:∃x,x=W1_0.alloc (.cells #[.int .i64 id,.slice AV nv cv,.slice A ne c,.slice AH nh ch,.bool false,.slice AP ps.length cp] 57):=⟨_,rfl⟩
      have hZ1_0:W1_0.heap.size=w.heap.size+1:=by rw [hW1_0];simp
      have hZ1_1:W1_1.heap.size=w.heap.size+2:=by rw [hW1_1];simp [hZ1_0]
      have hx0:Bx W1_0 (w.heap.size) [V1,V2]:=by rw [hW1_0];exact Bx.new' _ _ _ _ rfl
      replace hx0:Bx W1_1 (w.heap.size) [V1,V2]:=by rw [hW1_1];exact hx0.alloc (by omega) _
      have hx1:Bx W1_1 (w.heap.size+1) [.int .i64 id,.slice AV nv cv,.slice A ne c,.slice AH nh ch,.bool false,.slice AP ps.length cp]:=by rw [hW1_1,←hZ1_0];exact Bx.new' _ _ _ _ rfl
      have hb0:Below w.heap.size w W1_1:=by rw [hW1_1,hW1_0];exact (((Below.refl _ _).alloc (by first|exact Nat.le_refl _|(simp;done)|(simp;omega)) _).alloc (by first|exact Nat.le_refl _|(simp;done)|(simp;omega)) _)
      have hlt:w.heap.size+1 < W1_1.heap.size:=by omega
      rw [←hW1_0,←hW1_1]
      clear hW1_0 hZ1_0 hW1_1 hZ1_1
      have z_2:=hb0.size
      have Hbel_3:=hd' (hb0)
      have HB_4:=hd' (hx0)
      have HD_5:=hd' (hx1)
      clear hb0 hx0 hx1
      have hl_6:=hlt
      clear hlt
      have qD_0:=HD_5.out 0 (by simp)
      have qD_1:=HD_5.out 1 (by simp)
      have qD_2:=HD_5.out 2 (by simp)
      have qD_3:=HD_5.out 3 (by simp)
      have qD_4:=HD_5.out 4 (by simp)
      have qD_5:=HD_5.out 5 (by simp)
      have lD:w.heap.size+1 < W1_1.heap.size:=by omega
      simp only [List.getElem_cons_succ,List.getElem_cons_zero] at qD_0 qD_1 qD_2 qD_3 qD_4 qD_5
      go_quiet (fail)
      go_wp2_with fail
      refine bodyPost_ret (v:=.tuple #[.slice none 0 0,.bool true]) (by simp [results,Tryz.results168,go_sem]) rfl ?_
      exact ⟨none,0,0,by rw [HF.out],fun _=>⟨H0.out.symm,fun h=>absurd h (by rw [H0.out];simp)⟩,below_drewN Hbel_3.out _⟩
    · have hi:((ps.length:Int) == 0)=false:=by rw [beq_eq_false_iff_ne];omega
      have HF:=hd' (show prP f false ps=false by unfold prP;simp [h0])
      have H0:=hd' h0
      clear h0
      go_wp2_with fail
      obtain ⟨W1_0,hW1_0⟩:∃x,x=w.alloc (.cells #[V1,V2] 125):=⟨_,rfl⟩
      obtain ⟨W1_1,hW1_1⟩:∃x,x=W1_0.alloc (.cells #[.int .i64 id,.slice AV nv cv,.slice A ne c,.slice AH nh ch,.bool false,.slice AP ps.length cp] 57):=⟨_,rfl⟩
      have hZ1_0:W1_0.heap.size=w.heap.size+1:=by rw [hW1_0];simp
      have hZ1_1:W1_1.heap.size=w.heap.size+2:=by rw [hW1_1];simp [hZ1_0]
      have hx0:Bx W1_0 (w.heap.size) [V1,V2]:=by rw [hW1_0];exact Bx.new' _ _ _ _ rfl
      replace hx0:Bx W1_1 (w.heap.size) [V1,V2]:=by rw [hW1_1];exact hx0.alloc (by omega) _
      have hx1:Bx W1_1 (w.heap.size+1) [.int .i64 id,.slice AV nv cv,.slice A ne c,.slice AH nh ch,.bool false,.slice AP ps.length cp]:=by rw [hW1_1,←hZ1_0];exact Bx.new' _ _ _ _ rfl
      have hb0:Below w.heap.size w W1_1:=by rw [hW1_1,hW1_0];exact (((Below.refl _ _).alloc (by first|exact Nat.le_refl _|(simp;done)|(simp;omega)) _).alloc (by first|exact Nat.le_refl _|(simp;done)|(simp;omega)) _)
      have hlt:w.heap.size+1 < W1_1.heap.size:=by omega
      rw [←hW1_0,←hW1_1]
      clear hW1_0 hZ1_0 hW1_1 hZ1_1
      have z_2:=hb0.size
      have Hbel_3:=hd' (hb0)
      have HB_4:=hd' (hx0)
      have HD_5:=hd' (hx1)
      clear hb0 hx0 hx1
      have hl_6:=hlt
      clear hlt
      have qD_0:=HD_5.out 0 (by simp)
      have qD_1:=HD_5.out 1 (by simp)
      have qD_2:=HD_5.out 2 (by simp)
      have qD_3:=HD_5.out 3 (by simp)
      have qD_4:=HD_5.out 4 (by simp)
      have qD_5:=HD_5.out 5 (by simp)
      have lD:w.heap.size+1 < W1_1.heap.size:=by omega
      simp only [List.getElem_cons_succ,List.getElem_cons_zero] at qD_0 qD_1 qD_2 qD_3 qD_4 qD_5
      go_quiet (fail)
      go_wp2_with fail
      refine bodyPost_ret (v:=.tuple #[.slice none 0 0,.bool false]) (by simp [results,Tryz.results168,go_sem]) rfl ?_
      exact ⟨none,0,0,by rw [HF.out],(fun h=>by rw [HF.out] at h;cases h),below_drewN Hbel_3.out _⟩
  | true =>
  by_cases h2:ps.length=2
  case neg =>
    have hi:((ps.length:Int) != 2)=true:=by rw [bne_iff_ne];omega
    have HF:=hd' (show prP f true ps=false by unfold prP;simp [h2])
    go_wp2_with fail
    refine bodyPost_ret (v:=.tuple #[.slice none 0 0,.bool false]) (by simp [results,Tryz.results168,go_sem]) rfl ?_
    exact ⟨none,0,0,by rw [HF.out],(fun h=>by rw [HF.out] at h;cases h),(by repeat first|exact Below.refl _ _|(refine Below.alloc ?_ (by first|exact Nat.le_refl _|(simp;done)|(simp;omega)) _))⟩
  have hi:((ps.length:Int) != 2)=false:=by rw [h2];rfl
  have hi0:(0:Int) < (ps.length:Int):=by omega
  have hi1:(1:Int) < (ps.length:Int):=by omega
  have hn0:0 < ps.length:=by omega
  have hn1:1 < ps.length:=by omega
  have hnn:ps≠[]:=by rintro rfl;simp at hn0
  have H2:=hd' h2
  clear h2
  go_wp2_with fail
  obtain ⟨W1_0,hW1_0⟩:∃x,x=w.alloc (.cells #[V1,V2] 125):=⟨_,rfl⟩
  obtain ⟨W1_1,hW1_1⟩:∃x,x=W1_0.alloc (.cells #[.int .i64 id,.slice AV nv cv,.slice A ne c,.slice AH nh ch,.bool true,.slice AP ps.length cp] 57):=⟨_,rfl⟩
  have hZ1_0:W1_0.heap.size=w.heap.size+1:=by rw [hW1_0];simp
  have hZ1_1:W1_1.heap.size=w.heap.size+2:=by rw [hW1_1];simp [hZ1_0]
  have hx0:Bx W1_0 (w.heap.size) [V1,V2]:=by rw [hW1_0];exact Bx.new' _ _ _ _ rfl
  replace hx0:Bx W1_1 (w.heap.size) [V1,V2]:=by rw [hW1_1];exact hx0.alloc (by omega) _
  have hx1:Bx W1_1 (w.heap.size+1) [.int .i64 id,.slice AV nv cv,.slice A ne c,.slice AH nh ch,.bool true,.slice AP ps.length cp]:=by rw [hW1_1,←hZ1_0];exact Bx.new' _ _ _ _ rfl
  have hb0:Below w.heap.size w W1_1:=by rw [hW1_1,hW1_0];exact (((Below.refl _ _).alloc (by first|exact Nat.le_refl _|(simp;done)|(simp;omega)) _).alloc (by first|exact Nat.le_refl _|(simp;done)|(simp;omega)) _)
  have hlt:w.heap.size+1 < W1_1.heap.size:=by omega
  rw [←hW1_0,←hW1_1]
  clear hW1_0 hZ1_0 hW1_1 hZ1_1
  have z_2:=hb0.size
  have Hbel_3:=hd' (hb0)
  have HB_4:=hd' (hx0)
  have HD_5:=hd' (hx1)
  clear hb0 hx0 hx1
  have hl_6:=hlt
  clear hlt
  obtain ⟨bP,oP,rfl,_,hbP,hcP⟩:=HP.out (by omega)
  obtain ⟨m0,hm0⟩:∃m,m=ps[0]:=⟨_,rfl⟩
  have hle0:=one_le_mbulk ps 0 (by omega)
  obtain ⟨AV0,cv0,A0,c0,d00,d01,d02,d03,d04,d05,hv0,he0,_⟩:=(hcP 0 (by omega)).keep (w':=W1_1) (Nat.zero_le _) hbP (fun p _ hp=>Hbel_3.out.cell hp)
  rw [←hm0] at d00 d01 d02 d03 d04 d05 hv0 he0 hle0
  have HM0:=hd' hm0
  have HV0:=hd' hv0
  have HE0:=hd' he0
  obtain ⟨m1,hm1⟩:∃m,m=ps[1]:=⟨_,rfl⟩
  have hle1:=one_le_mbulk ps 1 (by omega)
  obtain ⟨AV1,cv1,A1,c1,d10,d11,d12,d13,d14,d15,hv1,he1,_⟩:=(hcP 1 (by omega)).keep (w':=W1_1) (Nat.zero_le _) hbP (fun p _ hp=>Hbel_3.out.cell hp)
  rw [←hm1] at d10 d11 d12 d13 d14 d15 hv1 he1 hle1
  have HM1:=hd' hm1
  have HV1:=hd' hv1
  have HE1:=hd' he1
  simp only [Nat.zero_mul,Nat.one_mul,Nat.add_zero] at d00 d01 d02 d03 d04 d05 d10 d11 d12 d13 d14 d15
  clear hcP hm0 hm1 hv0 hv1 he0 he1 HP
  have lB:w.heap.size < W1_1.heap.size:=by omega
  have lD:w.heap.size+1 < W1_1.heap.size:=by omega
  have lP:bP < W1_1.heap.size:=by omega
  have HCell:=hd' (show ∀X,Below W1_1.heap.size W1_1 X→X.cell? ⟨w.heap.size,0,none⟩=some (V1)∧X.cell? ⟨w.heap.size,1,none⟩=some (V2)∧X.cell? ⟨w.heap.size+1,0,none⟩=some (.int .i64 id)∧X.cell? ⟨w.heap.size+1,1,none⟩=some (.slice AV nv cv)∧X.cell? ⟨w.heap.size+1,2,none⟩=some (.slice A ne c)∧X.cell? ⟨w.heap.size+1,3,none⟩=some (.slice AH nh ch)∧X.cell? ⟨w.heap.size+1,4,none⟩=some (.bool true)∧X.cell? ⟨w.heap.size+1,5,none⟩=some (.slice (some ⟨bP,oP,none⟩) ps.length cp)∧X.cell? ⟨bP,oP,none⟩=some (.int .i64 m0.au)∧X.cell? ⟨bP,oP+1,none⟩=some (.int .i64 m0.sq)∧X.cell? ⟨bP,oP+2,none⟩=some (.int .i64 m0.pv)∧X.cell? ⟨bP,oP+3,none⟩=some (.slice AV0 m0.vec.length cv0)∧X.cell? ⟨bP,oP+4,none⟩=some (.slice A0 m0.es.length c0)∧X.cell? ⟨bP,oP+5,none⟩=some (.int .i64 m0.sg)∧X.cell? ⟨bP,oP+6,none⟩=some (.int .i64 m1.au)∧X.cell? ⟨bP,oP+6+1,none⟩=some (.int .i64 m1.sq)∧X.cell? ⟨bP,oP+6+2,none⟩=some (.int .i64 m1.pv)∧X.cell? ⟨bP,oP+6+3,none⟩=some (.slice AV1 m1.vec.length cv1)∧X.cell? ⟨bP,oP+6+4,none⟩=some (.slice A1 m1.es.length c1)∧X.cell? ⟨bP,oP+6+5,none⟩=some (.int .i64 m1.sg) from fun X hX=>⟨(hX.cell (p:=⟨w.heap.size,0,none⟩) lB).trans (HB_4.out 0 (by simp)),(hX.cell (p:=⟨w.heap.size,1,none⟩) lB).trans (HB_4.out 1 (by simp)),(hX.cell (p:=⟨w.heap.size+1,0,none⟩) lD).trans (HD_5.out 0 (by simp)),(hX.cell (p:=⟨w.heap.size+1,1,none⟩) lD).trans (HD_5.out 1 (by simp)),(hX.cell (p:=⟨w.heap.size+1,2,none⟩) lD).trans (HD_5.out 2 (by simp)),(hX.cell (p:=⟨w.heap.size+1,3,none⟩) lD).trans (HD_5.out 3 (by simp)),(hX.cell (p:=⟨w.heap.size+1,4,none⟩) lD).trans (HD_5.out 4 (by simp)),(hX.cell (p:=⟨w.heap.size+1,5,none⟩) lD).trans (HD_5.out 5 (by simp)),(hX.cell (p:=⟨bP,oP,none⟩) lP).trans d00,(hX.cell (p:=⟨bP,oP+1,none⟩) lP).trans d01,(hX.cell (p:=⟨bP,oP+2,none⟩) lP).trans d02,(hX.cell (p:=⟨bP,oP+3,none⟩) lP).trans d03,(hX.cell (p:=⟨bP,oP+4,none⟩) lP).trans d04,(hX.cell (p:=⟨bP,oP+5,none⟩) lP).trans d05,(hX.cell (p:=⟨bP,oP+6,none⟩) lP).trans d10,(hX.cell (p:=⟨bP,oP+6+1,none⟩) lP).trans d11,(hX.cell (p:=⟨bP,oP+6+2,none⟩) lP).trans d12,(hX.cell (p:=⟨bP,oP+6+3,none⟩) lP).trans d13,(hX.cell (p:=⟨bP,oP+6+4,none⟩) lP).trans d14,(hX.cell (p:=⟨bP,oP+6+5,none⟩) lP).trans d15⟩)
  clear d00 d01 d02 d03 d04 d05 d10 d11 d12 d13 d14 d15
  obtain ⟨s0,s1,s2,s3,s4,s5,s6,s7,s8,s9,s10,s11,s12,s13,s14,s15,s16,s17,s18,s19⟩:=HCell.out W1_1 (Below.refl _ _)
  go_upto_region 5 with fail
  go_cut [6,7] from 21 to 29 (fun a b wx=>RelM f m0 W1_1 a b wx)
  case first =>
    go_region_held3 (fun X=>X.cell? ⟨w.heap.size,0,none⟩=some (V1)∧X.cell? ⟨w.heap.size,1,none⟩=some (V2)∧X.cell? ⟨w.heap.size+1,0,none⟩=some (.int .i64 id)∧X.cell? ⟨w.heap.size+1,1,none⟩=some (.slice AV nv cv)∧X.cell? ⟨w.heap.size+1,2,none⟩=some (.slice A ne c)∧X.cell? ⟨w.heap.size+1,3,none⟩=some (.slice AH nh ch)∧X.cell? ⟨w.heap.size+1,4,none⟩=some (.bool true)∧X.cell? ⟨w.heap.size+1,5,none⟩=some (.slice (some ⟨bP,oP,none⟩) ps.length cp)∧X.cell? ⟨bP,oP,none⟩=some (.int .i64 m0.au)∧X.cell? ⟨bP,oP+1,none⟩=some (.int .i64 m0.sq)∧X.cell? ⟨bP,oP+2,none⟩=some (.int .i64 m0.pv)∧X.cell? ⟨bP,oP+3,none⟩=some (.slice AV0 m0.vec.length cv0)∧X.cell? ⟨bP,oP+4,none⟩=some (.slice A0 m0.es.length c0)∧X.cell? ⟨bP,oP+5,none⟩=some (.int .i64 m0.sg)∧X.cell? ⟨bP,oP+6,none⟩=some (.int .i64 m1.au)∧X.cell? ⟨bP,oP+6+1,none⟩=some (.int .i64 m1.sq)∧X.cell? ⟨bP,oP+6+2,none⟩=some (.int .i64 m1.pv)∧X.cell? ⟨bP,oP+6+3,none⟩=some (.slice AV1 m1.vec.length cv1)∧X.cell? ⟨bP,oP+6+4,none⟩=some (.slice A1 m1.es.length c1)∧X.cell? ⟨bP,oP+6+5,none⟩=some (.int .i64 m1.sg))
      (first|(refine HCell.out _ ?_;repeat first|with_reducible exact Below.refl _ _|with_reducible exact hbt|with_reducible apply Below.drew|with_reducible refine Below.setCell ?_ (by first|exact Nat.le_refl _|(simp;done)|(simp;omega)|omega) _|with_reducible refine Below.alloc ?_ (by first|exact Nat.le_refl _|(simp;done)|(simp;omega)|omega) _))
      (first
        | (go_at_call 197
           refine (HSd.out m0 AV0 cv0 A0 c0 _ (?_) ((HV0.out.keep fun p _ hp=>?_).mono ?_) ((HE0.out.keep fun p _ hp=>?_).mono ?_) (by omega) (by omega)).mono ?_
           · refine Below.trans Hbel_3.out (Below.mono (B:=W1_1.heap.size) ?_ (by omega))
             repeat first|with_reducible exact Below.refl _ _|with_reducible exact hbt|with_reducible apply Below.drew|with_reducible refine Below.setCell ?_ (by first|exact Nat.le_refl _|(simp;done)|(simp;omega)|omega) _|with_reducible refine Below.alloc ?_ (by first|exact Nat.le_refl _|(simp;done)|(simp;omega)|omega) _
           · refine Below.cell (B:=W1_1.heap.size) (w:=W1_1) ?_ (by omega)
             repeat first|with_reducible exact Below.refl _ _|with_reducible exact hbt|with_reducible apply Below.drew|with_reducible refine Below.setCell ?_ (by first|exact Nat.le_refl _|(simp;done)|(simp;omega)|omega) _|with_reducible refine Below.alloc ?_ (by first|exact Nat.le_refl _|(simp;done)|(simp;omega)|omega) _
           · refine Nat.le_trans (show w.heap.size≤W1_1.heap.size by omega) (Below.size (B:=W1_1.heap.size) (w:=W1_1) ?_)
             repeat first|with_reducible exact Below.refl _ _|with_reducible exact hbt|with_reducible apply Below.drew|with_reducible refine Below.setCell ?_ (by first|exact Nat.le_refl _|(simp;done)|(simp;omega)|omega) _|with_reducible refine Below.alloc ?_ (by first|exact Nat.le_refl _|(simp;done)|(simp;omega)|omega) _
           · refine Below.cell (B:=W1_1.heap.size) (w:=W1_1) ?_ (by omega)
             repeat first|with_reducible exact Below.refl _ _|with_reducible exact hbt|with_reducible apply Below.drew|with_reducible refine Below.setCell ?_ (by first|exact Nat.le_refl _|(simp;done)|(simp;omega)|omega) _|with_reducible refine Below.alloc ?_ (by first|exact Nat.le_refl _|(simp;done)|(simp;omega)|omega) _
           · refine Nat.le_trans (show w.heap.size≤W1_1.heap.size by omega) (Below.size (B:=W1_1.heap.size) (w:=W1_1) ?_)
             repeat first|with_reducible exact Below.refl _ _|with_reducible exact hbt|with_reducible apply Below.drew|with_reducible refine Below.setCell ?_ (by first|exact Nat.le_refl _|(simp;done)|(simp;omega)|omega) _|with_reducible refine Below.alloc ?_ (by first|exact Nat.le_refl _|(simp;done)|(simp;omega)|omega) _
           rintro r wt ⟨x0,x1,x2,x3,E,n,k,rfl,htr,hbt0⟩
           have hbt:Below W1_1.heap.size W1_1 wt:=Below.trans (by repeat first|with_reducible exact Below.refl _ _|with_reducible exact hbt|with_reducible apply Below.drew|with_reducible refine Below.setCell ?_ (by first|exact Nat.le_refl _|(simp;done)|(simp;omega)|omega) _|with_reducible refine Below.alloc ?_ (by first|exact Nat.le_refl _|(simp;done)|(simp;omega)|omega) _) (hbt0.mono (by first|exact Nat.le_refl _|(simp;done)|(simp;omega)))
           have hzt:=hbt.size
           have HTr:=hd' htr
           try first|have hq:=bxG_new hbt0|have hq:=bxG_new' hbt0
           try (have hz:=bxG_cells hq;obtain ⟨q0,q1,q2,q3,q4,q5,q6,q7,q8,k0,k1,k2,k3,k4,k5,k6,k7,k8⟩:=hz)
           clear htr))
    all_goals go_wp2_with fail
    all_goals go_meet
    all_goals first
      | with_reducible exact relM_new HTr.out (by first|exact Nat.le_refl _|(simp;done)|(simp;omega)) hbt
      | (have hr:=fun (kk:Nat)=>relM_put (f:=f) (k:=kk) (W:=W1_1) HTr.out (by first|exact Nat.le_refl _|(simp;done)|(simp;omega)) (by first|(simp;done)|(simp;omega)) hbt (by first|exact Nat.le_refl _|omega) hq rfl
         simp only [putAll] at hr
         with_reducible exact hr _)
  case rest =>
    obtain ⟨b0,x00,x01,x02,x03,E0,n0,k0,rfl,rfl,hb0,hl0,hbx0,htr0,hbel0⟩:=hcut
    rename World=>w1
    clear s0 s1 s2 s3 s4 s5 s6 s7 s8 s9 s10 s11 s12 s13 s14 s15 s16 s17 s18 s19
    have z_7:=hbel0.size
    have Hbel_8:=hd' (Hbel_3.out.trans (hbel0.mono (by omega)))
    have Hc_9:=hd' (show ∀X,Below w1.heap.size w1 X→X.cell? ⟨w.heap.size,0,none⟩=some (V1)∧X.cell? ⟨w.heap.size,1,none⟩=some (V2)∧X.cell? ⟨w.heap.size+1,0,none⟩=some (.int .i64 id)∧X.cell? ⟨w.heap.size+1,1,none⟩=some (.slice AV nv cv)∧X.cell? ⟨w.heap.size+1,2,none⟩=some (.slice A ne c)∧X.cell? ⟨w.heap.size+1,3,none⟩=some (.slice AH nh ch)∧X.cell? ⟨w.heap.size+1,4,none⟩=some (.bool true)∧X.cell? ⟨w.heap.size+1,5,none⟩=some (.slice (some ⟨bP,oP,none⟩) ps.length cp)∧X.cell? ⟨bP,oP,none⟩=some (.int .i64 m0.au)∧X.cell? ⟨bP,oP+1,none⟩=some (.int .i64 m0.sq)∧X.cell? ⟨bP,oP+2,none⟩=some (.int .i64 m0.pv)∧X.cell? ⟨bP,oP+3,none⟩=some (.slice AV0 m0.vec.length cv0)∧X.cell? ⟨bP,oP+4,none⟩=some (.slice A0 m0.es.length c0)∧X.cell? ⟨bP,oP+5,none⟩=some (.int .i64 m0.sg)∧X.cell? ⟨bP,oP+6,none⟩=some (.int .i64 m1.au)∧X.cell? ⟨bP,oP+6+1,none⟩=some (.int .i64 m1.sq)∧X.cell? ⟨bP,oP+6+2,none⟩=some (.int .i64 m1.pv)∧X.cell? ⟨bP,oP+6+3,none⟩=some (.slice AV1 m1.vec.length cv1)∧X.cell? ⟨bP,oP+6+4,none⟩=some (.slice A1 m1.es.length c1)∧X.cell? ⟨bP,oP+6+5,none⟩=some (.int .i64 m1.sg) from fun X hX=>HCell.out X (hbel0.trans (hX.mono hbel0.size)))
    have Hv1_10:=hd' (HV1.out.keep fun p _ hp=>hbel0.cell (by omega))
    have He1_11:=hd' (HE1.out.keep fun p _ hp=>hbel0.cell (by omega))
    clear Hbel_3 HB_4 HD_5 HCell HV0 HE0 HV1 HE1
    have Hx0_12:=hd' (hbx0)
    have Ht0_13:=hd' (htr0)
    clear hbel0 hbx0 htr0
    obtain ⟨s0,s1,s2,s3,s4,s5,s6,s7,s8,s9,s10,s11,s12,s13,s14,s15,s16,s17,s18,s19⟩:=Hc_9.out w1 (Below.refl _ _)
    have HV1:=hd' Hv1_10.out
    have HE1:=hd' He1_11.out
    go_upto_region 6 with fail
    go_cut [8,9] from 30 to 38 (fun a b wx=>RelM f m1 w1 a b wx)
    case first =>
      go_region_held3 (fun X=>X.cell? ⟨w.heap.size,0,none⟩=some (V1)∧X.cell? ⟨w.heap.size,1,none⟩=some (V2)∧X.cell? ⟨w.heap.size+1,0,none⟩=some (.int .i64 id)∧X.cell? ⟨w.heap.size+1,1,none⟩=some (.slice AV nv cv)∧X.cell? ⟨w.heap.size+1,2,none⟩=some (.slice A ne c)∧X.cell? ⟨w.heap.size+1,3,none⟩=some (.slice AH nh ch)∧X.cell? ⟨w.heap.size+1,4,none⟩=some (.bool true)∧X.cell? ⟨w.heap.size+1,5,none⟩=some (.slice (some ⟨bP,oP,none⟩) ps.length cp)∧X.cell? ⟨bP,oP,none⟩=some (.int .i64 m0.au)∧X.cell? ⟨bP,oP+1,none⟩=some (.int .i64 m0.sq)∧X.cell? ⟨bP,oP+2,none⟩=some (.int .i64 m0.pv)∧X.cell? ⟨bP,oP+3,none⟩=some (.slice AV0 m0.vec.length cv0)∧X.cell? ⟨bP,oP+4,none⟩=some (.slice A0 m0.es.length c0)∧X.cell? ⟨bP,oP+5,none⟩=some (.int .i64 m0.sg)∧X.cell? ⟨bP,oP+6,none⟩=some (.int .i64 m1.au)∧X.cell? ⟨bP,oP+6+1,none⟩=some (.int .i64 m1.sq)∧X.cell? ⟨bP,oP+6+2,none⟩=some (.int .i64 m1.pv)∧X.cell? ⟨bP,oP+6+3,none⟩=some (.slice AV1 m1.vec.length cv1)∧X.cell? ⟨bP,oP+6+4,none⟩=some (.slice A1 m1.es.length c1)∧X.cell? ⟨bP,oP+6+5,none⟩=some (.int .i64 m1.sg))
        (first|(refine Hc_9.out _ ?_;repeat first|with_reducible exact Below.refl _ _|with_reducible exact hbt|with_reducible apply Below.drew|with_reducible refine Below.setCell ?_ (by first|exact Nat.le_refl _|(simp;done)|(simp;omega)|omega) _|with_reducible refine Below.alloc ?_ (by first|exact Nat.le_refl _|(simp;done)|(simp;omega)|omega) _))
        (first
          | (go_at_call 197
             refine (HSd.out m1 AV1 cv1 A1 c1 _ (?_) ((HV1.out.keep fun p _ hp=>?_).mono ?_) ((HE1.out.keep fun p _ hp=>?_).mono ?_) (by omega) (by omega)).mono ?_
             · refine Below.trans Hbel_8.out (Below.mono (B:=w1.heap.size) ?_ (by omega))
               repeat first|with_reducible exact Below.refl _ _|with_reducible exact hbt|with_reducible apply Below.drew|with_reducible refine Below.setCell ?_ (by first|exact Nat.le_refl _|(simp;done)|(simp;omega)|omega) _|with_reducible refine Below.alloc ?_ (by first|exact Nat.le_refl _|(simp;done)|(simp;omega)|omega) _
             · refine Below.cell (B:=w1.heap.size) (w:=w1) ?_ (by omega)
               repeat first|with_reducible exact Below.refl _ _|with_reducible exact hbt|with_reducible apply Below.drew|with_reducible refine Below.setCell ?_ (by first|exact Nat.le_refl _|(simp;done)|(simp;omega)|omega) _|with_reducible refine Below.alloc ?_ (by first|exact Nat.le_refl _|(simp;done)|(simp;omega)|omega) _
             · refine Nat.le_trans (show w.heap.size≤w1.heap.size by omega) (Below.size (B:=w1.heap.size) (w:=w1) ?_)
               repeat first|with_reducible exact Below.refl _ _|with_reducible exact hbt|with_reducible apply Below.drew|with_reducible refine Below.setCell ?_ (by first|exact Nat.le_refl _|(simp;done)|(simp;omega)|omega) _|with_reducible refine Below.alloc ?_ (by first|exact Nat.le_refl _|(simp;done)|(simp;omega)|omega) _
             · refine Below.cell (B:=w1.heap.size) (w:=w1) ?_ (by omega)
               repeat first|with_reducible exact Below.refl _ _|with_reducible exact hbt|with_reducible apply Below.drew|with_reducible refine Below.setCell ?_ (by first|exact Nat.le_refl _|(simp;done)|(simp;omega)|omega) _|with_reducible refine Below.alloc ?_ (by first|exact Nat.le_refl _|(simp;done)|(simp;omega)|omega) _
             · refine Nat.le_trans (show w.heap.size≤w1.heap.size by omega) (Below.size (B:=w1.heap.size) (w:=w1) ?_)
               repeat first|with_reducible exact Below.refl _ _|with_reducible exact hbt|with_reducible apply Below.drew|with_reducible refine Below.setCell ?_ (by first|exact Nat.le_refl _|(simp;done)|(simp;omega)|omega) _|with_reducible refine Below.alloc ?_ (by first|exact Nat.le_refl _|(simp;done)|(simp;omega)|omega) _
             rintro r wt ⟨x0,x1,x2,x3,E,n,k,rfl,htr,hbt0⟩
             have hbt:Below w1.heap.size w1 wt:=Below.trans (by repeat first|with_reducible exact Below.refl _ _|with_reducible exact hbt|with_reducible apply Below.drew|with_reducible refine Below.setCell ?_ (by first|exact Nat.le_refl _|(simp;done)|(simp;omega)|omega) _|with_reducible refine Below.alloc ?_ (by first|exact Nat.le_refl _|(simp;done)|(simp;omega)|omega) _) (hbt0.mono (by first|exact Nat.le_refl _|(simp;done)|(simp;omega)))
             have hzt:=hbt.size
             have HTr:=hd' htr
             try first|have hq:=bxG_new hbt0|have hq:=bxG_new' hbt0
             try (have hz:=bxG_cells hq;obtain ⟨q0,q1,q2,q3,q4,q5,q6,q7,q8,k0,k1,k2,k3,k4,k5,k6,k7,k8⟩:=hz)
             clear htr))
      all_goals go_wp2_with fail
      all_goals go_meet
      all_goals first
        | with_reducible exact relM_new HTr.out (by first|exact Nat.le_refl _|(simp;done)|(simp;omega)) hbt
        | (have hr:=fun (kk:Nat)=>relM_put (f:=f) (k:=kk) (W:=w1) HTr.out (by first|exact Nat.le_refl _|(simp;done)|(simp;omega)) (by first|(simp;done)|(simp;omega)) hbt (by first|exact Nat.le_refl _|omega) hq rfl
           simp only [putAll] at hr
           with_reducible exact hr _)
    case rest =>
      obtain ⟨b1,x10,x11,x12,x13,E1,n1,k1,rfl,rfl,hb1,hl1,hbx1,htr1,hbel1⟩:=hcut
      rename World=>w2
      clear HV1 HE1 s0 s1 s2 s3 s4 s5 s6 s7 s8 s9 s10 s11 s12 s13 s14 s15 s16 s17 s18 s19
      have z_14:=hbel1.size
      have Hbel_15:=hd' (Hbel_8.out.trans (hbel1.mono (by omega)))
      have Hx0_16:=hd' (Hx0_12.out.below hbel1 (by omega))
      have Ht0_17:=hd' (show (treeB m0.vec m0.es=true→m0.vec=[x00,x01,x02,x03]∧n0=m0.es.length∧EvsIn w2 (W1_1.heap.size) w2.heap.size E0 m0.es) from fun h=>⟨(Ht0_13.out h).1,(Ht0_13.out h).2.1,((Ht0_13.out h).2.2.below hbel1).mono hbel1.size⟩)
      clear Hbel_8 Hc_9 Hv1_10 He1_11 Hx0_12 Ht0_13
      have Hx1_18:=hd' (hbx1)
      have Ht1_19:=hd' (htr1)
      clear hbel1 hbx1 htr1 HSd
      have hPr:prP f true ps=(sdM f m0 && sdM f m1 && fkM m0 m1):=by unfold prP;rw [getD_at (show 0 < ps.length by omega),getD_at (show 1 < ps.length by omega),←HM0.out,←HM1.out];simp [H2.out]
      have HPr:=hd' hPr
      clear hPr
      obtain ⟨q0,hq0⟩:∃q,q=sdM f m0:=⟨_,rfl⟩
      have HQ0:=hd' hq0
      unfold sdM at hq0
      rw [←hq0]
      clear hq0
      obtain ⟨q1,hq1⟩:∃q,q=sdM f m1:=⟨_,rfl⟩
      have HQ1:=hd' hq1
      unfold sdM at hq1
      rw [←hq1]
      clear hq1
      have l0:b0 < w2.heap.size:=by omega
      have l1:b1 < w2.heap.size:=by omega
      have HC7:=hd' (show ∀X,Below w2.heap.size w2 X→X.cell? ⟨b0,0,none⟩=some (.int .i64 m0.au)∧X.cell? ⟨b0,1,none⟩=some (.int .i64 m0.sq)∧X.cell? ⟨b0,2,none⟩=some (.int .i64 m0.pv)∧X.cell? ⟨b0,3,none⟩=some (.int .i64 x00)∧X.cell? ⟨b0,4,none⟩=some (.int .i64 x01)∧X.cell? ⟨b0,5,none⟩=some (.int .i64 x02)∧X.cell? ⟨b0,6,none⟩=some (.int .i64 x03)∧X.cell? ⟨b0,7,none⟩=some (.slice E0 n0 k0)∧X.cell? ⟨b0,8,none⟩=some (.int .i64 m0.sg)∧X.cell? ⟨b1,0,none⟩=some (.int .i64 m1.au)∧X.cell? ⟨b1,1,none⟩=some (.int .i64 m1.sq)∧X.cell? ⟨b1,2,none⟩=some (.int .i64 m1.pv)∧X.cell? ⟨b1,3,none⟩=some (.int .i64 x10)∧X.cell? ⟨b1,4,none⟩=some (.int .i64 x11)∧X.cell? ⟨b1,5,none⟩=some (.int .i64 x12)∧X.cell? ⟨b1,6,none⟩=some (.int .i64 x13)∧X.cell? ⟨b1,7,none⟩=some (.slice E1 n1 k1)∧X.cell? ⟨b1,8,none⟩=some (.int .i64 m1.sg) from fun X hX=>⟨(hX.cell (p:=⟨b0,0,none⟩) l0).trans (Hx0_16.out 0 (by simp)),(hX.cell (p:=⟨b0,1,none⟩) l0).trans (Hx0_16.out 1 (by simp)),(hX.cell (p:=⟨b0,2,none⟩) l0).trans (Hx0_16.out 2 (by simp)),(hX.cell (p:=⟨b0,3,none⟩) l0).trans (Hx0_16.out 3 (by simp)),(hX.cell (p:=⟨b0,4,none⟩) l0).trans (Hx0_16.out 4 (by simp)),(hX.cell (p:=⟨b0,5,none⟩) l0).trans (Hx0_16.out 5 (by simp)),(hX.cell (p:=⟨b0,6,none⟩) l0).trans (Hx0_16.out 6 (by simp)),(hX.cell (p:=⟨b0,7,none⟩) l0).trans (Hx0_16.out 7 (by simp)),(hX.cell (p:=⟨b0,8,none⟩) l0).trans (Hx0_16.out 8 (by simp)),(hX.cell (p:=⟨b1,0,none⟩) l1).trans (Hx1_18.out 0 (by simp)),(hX.cell (p:=⟨b1,1,none⟩) l1).trans (Hx1_18.out 1 (by simp)),(hX.cell (p:=⟨b1,2,none⟩) l1).trans (Hx1_18.out 2 (by simp)),(hX.cell (p:=⟨b1,3,none⟩) l1).trans (Hx1_18.out 3 (by simp)),(hX.cell (p:=⟨b1,4,none⟩) l1).trans (Hx1_18.out 4 (by simp)),(hX.cell (p:=⟨b1,5,none⟩) l1).trans (Hx1_18.out 5 (by simp)),(hX.cell (p:=⟨b1,6,none⟩) l1).trans (Hx1_18.out 6 (by simp)),(hX.cell (p:=⟨b1,7,none⟩) l1).trans (Hx1_18.out 7 (by simp)),(hX.cell (p:=⟨b1,8,none⟩) l1).trans (Hx1_18.out 8 (by simp))⟩)
      cases q0 with
      | false =>
        have HF:=hd' (show prP f true ps=false by rw [HPr.out,←HQ0.out];simp)
        go_upto_region 7 with fail
        obtain ⟨s0,s1,s2,s3,s4,s5,s6,s7,s8,s9,s10,s11,s12,s13,s14,s15,s16,s17⟩:=HC7.out w2 (Below.refl _ _)
        go_big_region
        all_goals go_wp2_with fail
        all_goals refine bodyPost_ret (v:=.tuple #[.slice (some ⟨_,0,none⟩) 2 2,.bool (false)]) (by simp [results,Tryz.results168,go_sem];rfl) rfl ?_
        all_goals exact ⟨_,_,_,by rw [HF.out],(fun h=>by rw [HF.out] at h;cases h),Hbel_15.out.trans (Below.mono (B:=w2.heap.size) (by repeat first|with_reducible exact Below.refl _ _|with_reducible exact hbu|with_reducible apply Below.drew|with_reducible refine Below.setCell ?_ (by first|exact Nat.le_refl _|(simp;done)|(simp;omega)|omega) _|with_reducible refine Below.alloc ?_ (by first|exact Nat.le_refl _|(simp;done)|(simp;omega)|omega) _) (by omega))⟩
      | true =>
      cases q1 with
      | false =>
        have HF:=hd' (show prP f true ps=false by rw [HPr.out,←HQ0.out,←HQ1.out];simp)
        go_upto_region 7 with fail
        obtain ⟨s0,s1,s2,s3,s4,s5,s6,s7,s8,s9,s10,s11,s12,s13,s14,s15,s16,s17⟩:=HC7.out w2 (Below.refl _ _)
        go_big_region
        all_goals go_wp2_with fail
        all_goals refine bodyPost_ret (v:=.tuple #[.slice (some ⟨_,0,none⟩) 2 2,.bool (false)]) (by simp [results,Tryz.results168,go_sem];rfl) rfl ?_
        all_goals exact ⟨_,_,_,by rw [HF.out],(fun h=>by rw [HF.out] at h;cases h),Hbel_15.out.trans (Below.mono (B:=w2.heap.size) (by repeat first|with_reducible exact Below.refl _ _|with_reducible exact hbu|with_reducible apply Below.drew|with_reducible refine Below.setCell ?_ (by first|exact Nat.le_refl _|(simp;done)|(simp;omega)|omega) _|with_reducible refine Below.alloc ?_ (by first|exact Nat.le_refl _|(simp;done)|(simp;omega)|omega) _) (by omega))⟩
      | true =>
      have hman0:=sdM_man HQ0.out.symm
      have hsd0:=manB_said hman0
      obtain ⟨hvx0,hnx0,hex0⟩:=Ht0_17.out (manB_tree hman0)
      subst hnx0
      have HEx0:=hd' hex0
      have HVx0:=hd' hvx0
      clear hman0 hex0 hvx0
      have hman1:=sdM_man HQ1.out.symm
      have hsd1:=manB_said hman1
      obtain ⟨hvx1,hnx1,hex1⟩:=Ht1_19.out (manB_tree hman1)
      subst hnx1
      have HEx1:=hd' hex1
      have HVx1:=hd' hvx1
      clear hman1 hex1 hvx1
      have HPs:=hd' (show prP f true ps=fkM m0 m1 by rw [HPr.out,←HQ0.out,←HQ1.out];rfl)
      have HFk:=hd' (fun X (hX:Below w2.heap.size w2 X)=>forks_any m0.au m0.sq m0.pv x00 x01 x02 x03 E0 m0.es k0 m1.au m1.sq m1.pv x10 x11 x12 x13 E1 m1.es k1 X (((HEx0.out.below hX).mono hX.size).low (Nat.zero_le _)) (by omega) (by omega) (((HEx1.out.below hX).mono hX.size).low (Nat.zero_le _)) (by omega) (by omega))
      have HFe:=hd' (show fkB m0.au m0.sq m0.pv [x00,x01,x02,x03] m0.es m1.au m1.sq m1.pv [x10,x11,x12,x13] m1.es=prP f true ps by rw [HPs.out];unfold fkM;rw [HVx0.out,HVx1.out])
      go_upto_region 7 with fail
      obtain ⟨s0,s1,s2,s3,s4,s5,s6,s7,s8,s9,s10,s11,s12,s13,s14,s15,s16,s17⟩:=HC7.out w2 (Below.refl _ _)
      go_region_held3 (fun X=>X.cell? ⟨b0,0,none⟩=some (.int .i64 m0.au)∧X.cell? ⟨b0,1,none⟩=some (.int .i64 m0.sq)∧X.cell? ⟨b0,2,none⟩=some (.int .i64 m0.pv)∧X.cell? ⟨b0,3,none⟩=some (.int .i64 x00)∧X.cell? ⟨b0,4,none⟩=some (.int .i64 x01)∧X.cell? ⟨b0,5,none⟩=some (.int .i64 x02)∧X.cell? ⟨b0,6,none⟩=some (.int .i64 x03)∧X.cell? ⟨b0,7,none⟩=some (.slice E0 m0.es.length k0)∧X.cell? ⟨b0,8,none⟩=some (.int .i64 m0.sg)∧X.cell? ⟨b1,0,none⟩=some (.int .i64 m1.au)∧X.cell? ⟨b1,1,none⟩=some (.int .i64 m1.sq)∧X.cell? ⟨b1,2,none⟩=some (.int .i64 m1.pv)∧X.cell? ⟨b1,3,none⟩=some (.int .i64 x10)∧X.cell? ⟨b1,4,none⟩=some (.int .i64 x11)∧X.cell? ⟨b1,5,none⟩=some (.int .i64 x12)∧X.cell? ⟨b1,6,none⟩=some (.int .i64 x13)∧X.cell? ⟨b1,7,none⟩=some (.slice E1 m1.es.length k1)∧X.cell? ⟨b1,8,none⟩=some (.int .i64 m1.sg))
        (first|(refine HC7.out _ ?_;repeat first|with_reducible exact Below.refl _ _|with_reducible exact hbu|with_reducible apply Below.drew|with_reducible refine Below.setCell ?_ (by first|exact Nat.le_refl _|(simp;done)|(simp;omega)|omega) _|with_reducible refine Below.alloc ?_ (by first|exact Nat.le_refl _|(simp;done)|(simp;omega)|omega) _))
        (first
          | (go_at_call 100
             refine (HFk.out _ ?_).mono ?_
             · repeat first|with_reducible exact Below.refl _ _|with_reducible exact hbu|with_reducible apply Below.drew|with_reducible refine Below.setCell ?_ (by first|exact Nat.le_refl _|(simp;done)|(simp;omega)|omega) _|with_reducible refine Below.alloc ?_ (by first|exact Nat.le_refl _|(simp;done)|(simp;omega)|omega) _
             rintro r u2 ⟨rfl,hbu0⟩
             have hbu:Below w2.heap.size w2 u2:=Below.trans (by repeat first|with_reducible exact Below.refl _ _|with_reducible exact hbu|with_reducible apply Below.drew|with_reducible refine Below.setCell ?_ (by first|exact Nat.le_refl _|(simp;done)|(simp;omega)|omega) _|with_reducible refine Below.alloc ?_ (by first|exact Nat.le_refl _|(simp;done)|(simp;omega)|omega) _) (hbu0.mono (by first|exact Nat.le_refl _|(simp;done)|(simp;omega)))
             have hzu:=hbu.size
             try first|have hrw:=row18_new hbu0|have hrw:=row18_new' hbu0))
      all_goals go_wp2_with fail
      all_goals refine bodyPost_ret (v:=.tuple #[.slice (some ⟨_,0,none⟩) 2 2,.bool (fkB m0.au m0.sq m0.pv [x00,x01,x02,x03] m0.es m1.au m1.sq m1.pv [x10,x11,x12,x13] m1.es)]) (by simp [results,Tryz.results168,go_sem];rfl) rfl ?_
      all_goals
        refine ⟨_,_,_,by rw [HFe.out],fun _=>⟨H2.out.symm,ps_of18 H2.out HM0.out HM1.out HVx0.out HVx1.out HEx0.out HEx1.out (by omega) (by omega) (by repeat first|with_reducible exact Below.refl _ _|with_reducible exact hbu|with_reducible apply Below.drew|with_reducible refine Below.setCell ?_ (by first|exact Nat.le_refl _|(simp;done)|(simp;omega)|omega) _|with_reducible refine Below.alloc ?_ (by first|exact Nat.le_refl _|(simp;done)|(simp;omega)|omega) _) (by first|exact hrw|exact row18_at) (by first|omega|(simp;omega))⟩,Hbel_15.out.trans (Below.mono (B:=w2.heap.size) (by repeat first|with_reducible exact Below.refl _ _|with_reducible exact hbu|with_reducible apply Below.drew|with_reducible refine Below.setCell ?_ (by first|exact Nat.le_refl _|(simp;done)|(simp;omega)|omega) _|with_reducible refine Below.alloc ?_ (by first|exact Nat.le_refl _|(simp;done)|(simp;omega)|omega) _) (by omega))⟩
end Go.Proofs.YtckajeippfpojaaGreat
namespace Go.Proofs.YtckajeippfpojaaGreat
open Go.RowKit Go.Maps
set_option maxRecDepth 100000
theorem d43_one (id:Int):∀u∈d43 id,u.oneCell'=true:=by
  intro u hu
  simp only [d43,List.mem_cons,List.not_mem_nil,or_false] at hu
  rcases hu with rfl|rfl|rfl|rfl|rfl|rfl|rfl|rfl|rfl|rfl|rfl|rfl|rfl|rfl|rfl|rfl|rfl|rfl|rfl|rfl|rfl|rfl|rfl|rfl|rfl|rfl|rfl|rfl|rfl|rfl|rfl|rfl|rfl|rfl|rfl|rfl|rfl|rfl|rfl|rfl|rfl|rfl|rfl <;> rfl
def RdDev (f:Tm→Int) (id:Int) (vec:List Int) (es:List En) (hs:List Mn) (al:Bool) (ps:List Mn) (w:World) (e:Ending) (w':World):Prop :=
  ∃l:List Value,e=.returned (.tuple #[.agg l.toArray,.bool (rdB f id vec es hs al ps)])∧l.length=43∧(∀u∈l,u.oneCell'=true)∧(rdB f id vec es hs al ps=true→DrAt w' w.heap.size w'.heap.size l id vec es (slM hs) ps)∧Below w.heap.size w w'
theorem d43_parts {id x0 x1 x2 x3:Int} {E:Option Addr} {n k:Nat} {lh:List Value} {P:Option Addr} {m c:Nat} (h:∀u∈lh,u.oneCell'=true):∀u∈([.int .i64 id,.int .i64 x0,.int .i64 x1,.int .i64 x2,.int .i64 x3,.slice E n k]:List Value)++lh++([.slice P m c]:List Value),u.oneCell'=true:=by
  intro u hu
  simp only [List.mem_append,List.mem_cons,List.not_mem_nil,or_false] at hu
  rcases hu with ((rfl|rfl|rfl|rfl|rfl|rfl)|hu)|rfl
  all_goals first|rfl|exact h _ hu
theorem drAt_of {w:World} {L B:Nat} {D:List Value} {id:Int} {vec:List Int} {es:List En} {f:Int→Mn} {ps:List Mn} {x0 x1 x2 x3:Int} {E:Option Addr} {k:Nat} {lh:List Value} {P:Option Addr} {cp:Nat} (hv:vec=[x0,x1,x2,x3])
    (hD:D=([.int .i64 id,.int .i64 x0,.int .i64 x1,.int .i64 x2,.int .i64 x3,.slice E es.length k]:List Value)++lh++([.slice P ps.length cp]:List Value)) (he:EvsIn w L B E es) (hh:HdsAt w L B lh f) (hp:PsAt w L B P ps):DrAt w L B D id vec es f ps:=by
  obtain ⟨l0,l1,l2,l3,e,h0,h1,h2,h3⟩:=hh
  exact ⟨x0,x1,x2,x3,E,k,l0,l1,l2,l3,P,cp,hv,by rw [hD,e];simp [List.append_assoc],he,h0,h1,h2,h3,hp⟩
theorem DrAt.parts {w:World} {L B:Nat} {D:List Value} {id:Int} {vec:List Int} {es:List En} {f:Int→Mn} {ps:List Mn} (h:DrAt w L B D id vec es f ps) :
    ∃(x0 x1 x2 x3:Int) (E:Option Addr) (k:Nat) (lh:List Value) (P:Option Addr) (cp:Nat),vec=[x0,x1,x2,x3]∧D=([.int .i64 id,.int .i64 x0,.int .i64 x1,.int .i64 x2,.int .i64 x3,.slice E es.length k]:List Value)++lh++([.slice P ps.length cp]:List Value) ∧
      EvsIn w L B E es∧HdsAt w L B lh f∧PsAt w L B P ps:=by
  obtain ⟨x0,x1,x2,x3,E,k,l0,l1,l2,l3,P,cp,h1,h2,h3,h4,h5,h6,h7,h8⟩:=h
  exact ⟨x0,x1,x2,x3,E,k,l0++(l1++(l2++l3)),P,cp,h1,by rw [h2];simp [List.append_assoc],h3,⟨l0,l1,l2,l3,rfl,h4,h5,h6,h7⟩,h8⟩
attribute [local simp ↓] la36_name lv36_name sa36_name la43_name lv43_name sa43_name bd43_name
set_option maxHeartbeats 600000 in
theorem readDevice_any (V1 V2:Value) (f:Tm→Int) (id:Int) (AV:Option Addr) (vec:List Int) (cv:Nat) (A:Option Addr) (es:List En) (c:Nat) (AH:Option Addr) (hs:List Mn) (ch:Nat) (al:Bool) (AP:Option Addr) (ps:List Mn) (cp:Nat) (w:World) (hM:BkAt w V2 f) (hfw:∀t,(Lit.int .i64 (f t)).wf=true) (hV:IntsIn w 0 w.heap.size AV vec) (hA:EnsIn w 0 w.heap.size A es) (hH:MnsRd w 0 w.heap.size AH hs) (hP:MnsRd w 0 w.heap.size AP ps) (_hv:vec.length≤1048576) (hn:es.length≤1048576) (hbk:ebulk es≤1048576) (hhl:hs.length≤1048576) (hhb:mbulk hs≤1048576) (hpl:ps.length≤1048576) (hpb:mbulk ps≤1048576) :
    Calls Tryz.prog 99 #[.agg #[V1,V2],.agg #[.int .i64 id,.slice AV vec.length cv,.slice A es.length c,.slice AH hs.length ch,.bool al,.slice AP ps.length cp]] w (RdDev f id vec es hs al ps w):=by
  have HV:=hd' hV
  have HA:=hd' hA
  have HH:=hd' hH
  have HP:=hd' hP
  have HM:=hd' hM
  clear hV hA hH hP hM
  obtain ⟨tb,htb⟩:∃b,b=treeB vec es:=⟨_,rfl⟩
  obtain ⟨db,hdb⟩:∃b,b=devB id:=⟨_,rfl⟩
  obtain ⟨hb1,hhb1⟩:∃b,b=rhB f hs vec:=⟨_,rfl⟩
  obtain ⟨pb,hpb1⟩:∃b,b=prP f al ps:=⟨_,rfl⟩
  have HR:=hd' (show rdB f id vec es hs al ps=(tb && db && hb1 && pb) by rw [htb,hdb,hhb1,hpb1];rfl)
  have HTb:=hd' htb
  have HDb:=hd' hdb
  have HHb:=hd' hhb1
  have HPb:=hd' hpb1
  clear htb hdb hhb1 hpb1
  go_enter Tryz.func99,Tryz.ntmps99
  go_wp2_with fail
  obtain ⟨W1_0,hW1_0⟩:∃x,x=w.alloc (.cells #[V1,V2] 125):=⟨_,rfl⟩
  obtain ⟨W1_1,hW1_1⟩:∃x,x=W1_0.alloc (.cells #[.int .i64 id,.slice AV vec.length cv,.slice A es.length c,.slice AH hs.length ch,.bool al,.slice AP ps.length cp] 57):=⟨_,rfl⟩
  obtain ⟨W1_2,hW1_2⟩:∃x,x=W1_1.alloc (.cells #[.int .i64 0,.int .i64 0,.int .i64 0,.int .i64 0,.int .i64 0,.slice none 0 0,.int .i64 0,.int .i64 0,.int .i64 0,.int .i64 0,.int .i64 0,.int .i64 0,.int .i64 0,.slice none 0 0,.int .i64 0,.int .i64 0,.int .i64 0,.int .i64 0,.int .i64 0,.int .i64 0,.int .i64 0,.int .i64 0,.slice none 0 0,.int .i64 0,.int .i64 0,.int .i64 0,.int .i64 0,.int .i64 0,.int .i64 0,.int .i64 0,.int .i64 0,.slice none 0 0,.int .i64 0,.int .i64 0,.int .i64 0,.int .i64 0,.int .i64 0,.int .i64 0,.int .i64 0,.int .i64 0,.slice none 0 0,.int .i64 0,.slice none 0 0] 129):=⟨_,rfl⟩
  have hZ1_0:W1_0.heap.size=w.heap.size+1:=by rw [hW1_0];simp
  have hZ1_1:W1_1.heap.size=w.heap.size+2:=by rw [hW1_1];simp [hZ1_0]
  have hZ1_2:W1_2.heap.size=w.heap.size+3:=by rw [hW1_2];simp [hZ1_1]
  have hx0:Bx W1_0 (w.heap.size) [V1,V2]:=by rw [hW1_0];exact Bx.new' _ _ _ _ rfl
  replace hx0:Bx W1_1 (w.heap.size) [V1,V2]:=by rw [hW1_1];exact hx0.alloc (by omega) _
  replace hx0:Bx W1_2 (w.heap.size) [V1,V2]:=by rw [hW1_2];exact hx0.alloc (by omega) _
  have hx1:Bx W1_1 (w.heap.size+1) [.int .i64 id,.slice AV vec.length cv,.slice A es.length c,.slice AH hs.length ch,.bool al,.slice AP ps.length cp]:=by rw [hW1_1,←hZ1_0];exact Bx.new' _ _ _ _ rfl
  replace hx1:Bx W1_2 (w.heap.size+1) [.int .i64 id,.slice AV vec.length cv,.slice A es.length c,.slice AH hs.length ch,.bool al,.slice AP ps.length cp]:=by rw [hW1_2];exact hx1.alloc (by omega) _
  have hx2:Bx W1_2 (w.heap.size+2) [.int .i64 0,.int .i64 0,.int .i64 0,.int .i64 0,.int .i64 0,.slice none 0 0,.int .i64 0,.int .i64 0,.int .i64 0,.int .i64 0,.int .i64 0,.int .i64 0,.int .i64 0,.slice none 0 0,.int .i64 0,.int .i64 0,.int .i64 0,.int .i64 0,.int .i64 0,.int .i64 0,.int .i64 0,.int .i64 0,.slice none 0 0,.int .i64 0,.int .i64 0,.int .i64 0,.int .i64 0,.int .i64 0,.int .i64 0,.int .i64 0,.int .i64 0,.slice none 0 0,.int .i64 0,.int .i64 0,.int .i64 0,.int .i64 0,.int .i64 0,.int .i64 0,.int .i64 0,.int .i64 0,.slice none 0 0,.int .i64 0,.slice none 0 0]:=by rw [hW1_2,←hZ1_1];exact Bx.new' _ _ _ _ rfl
  have hb0:Below w.heap.size w W1_2:=by rw [hW1_2,hW1_1,hW1_0];exact ((((Below.refl _ _).alloc (by first|exact Nat.le_refl _|(simp;done)|(simp;omega)) _).alloc (by first|exact Nat.le_refl _|(simp;done)|(simp;omega)) _).alloc (by first|exact Nat.le_refl _|(simp;done)|(simp;omega)) _)
  have hf2:∀o,W1_2.frozen? ⟨w.heap.size+2,o,none⟩=false:=fun o=>by rw [hW1_2,hW1_1,hW1_0];exact ((((Fresh.refl w).alloc _ _).alloc _ _).alloc _ _) ⟨w.heap.size+2,o,none⟩ (by show w.heap.size≤w.heap.size+2;omega)
  have hlt:w.heap.size+2 < W1_2.heap.size:=by omega
  rw [←hW1_0,←hW1_1,←hW1_2]
  clear hW1_0 hZ1_0 hW1_1 hZ1_1 hW1_2 hZ1_2
  have z_2:=hb0.size
  have Hbel_3:=hd' (hb0)
  have HB_4:=hd' (hx0)
  have HD_5:=hd' (hx1)
  have HR_6:=hd' (hx2)
  have HRF_7:=hd' (hf2)
  clear hf2
  clear hb0 hx0 hx1 hx2
  have hl_8:=hlt
  clear hlt
  have HRB_9:=hd' (show BigBx W1_2 (w.heap.size+2) (d43 0) from ⟨bx_range HR_6.out,HRF_7.out,by omega⟩)
  clear HR_6 HRF_7
  have hW3:w.heap.size+3≤W1_2.heap.size:=by omega
  refine (readTree_any AV vec cv A es c W1_2 ((HV.out.keep fun p _ hp=>Hbel_3.out.cell hp).mono (by omega)) ((HA.out.keep fun p _ hp=>Hbel_3.out.cell hp).mono (by omega)) hn hbk).mono ?_
  rintro e w1 ⟨x0,x1,x2,x3,E,n,k,rfl,htr,hb⟩
  have z_10:=hb.size
  have Hbel_11:=hd' (Hbel_3.out.trans (hb.mono (by omega)))
  have HB_12:=hd' (HB_4.out.below hb (by omega))
  have HD_13:=hd' (HD_5.out.below hb (by omega))
  have HRB_14:=hd' (HRB_9.out.below hb)
  clear Hbel_3 HB_4 HD_5 HRB_9
  have Htr_15:=hd' (show (treeB vec es=true→vec=[x0,x1,x2,x3]∧n=es.length∧EvsIn w1 (w.heap.size+3) w1.heap.size E es) from fun h=>⟨(htr h).1,(htr h).2.1,(htr h).2.2.low (by omega)⟩)
  clear hb
  clear htr
  rw [←HTb.out]
  go_upto_region 2 with fail
  obtain ⟨W16_0,hW16_0⟩:∃x,x=w1.alloc (.cells #[.int .i64 x0,.int .i64 x1,.int .i64 x2,.int .i64 x3,.slice E n k] 101):=⟨_,rfl⟩
  have hZ16_0:W16_0.heap.size=w1.heap.size+1:=by rw [hW16_0];simp
  have hx0:Bx W16_0 (w1.heap.size) [.int .i64 x0,.int .i64 x1,.int .i64 x2,.int .i64 x3,.slice E n k]:=by rw [hW16_0];exact Bx.new' _ _ _ _ rfl
  have hb0:Below w1.heap.size w1 W16_0:=by rw [hW16_0];exact ((Below.refl _ _).alloc (by first|exact Nat.le_refl _|(simp;done)|(simp;omega)) _)
  have hlt:w1.heap.size+0 < W16_0.heap.size:=by omega
  rw [←hW16_0]
  clear hW16_0 hZ16_0
  have z_17:=hb0.size
  have Hbel_18:=hd' (Hbel_11.out.trans (hb0.mono (by omega)))
  have HB_19:=hd' (HB_12.out.below hb0 (by omega))
  have HD_20:=hd' (HD_13.out.below hb0 (by omega))
  have HRB_21:=hd' (HRB_14.out.below hb0)
  have Htr_22:=hd' (show (treeB vec es=true→vec=[x0,x1,x2,x3]∧n=es.length∧EvsIn W16_0 (w.heap.size+3) W16_0.heap.size E es) from fun h=>⟨(Htr_15.out h).1,(Htr_15.out h).2.1,((Htr_15.out h).2.2.below hb0).mono hb0.size⟩)
  clear Hbel_11 HB_12 HD_13 HRB_14 Htr_15
  have HT_23:=hd' (hx0)
  clear hb0 hx0
  have hl_24:=hlt
  clear hlt
  have qD_0:=HD_20.out 0 (by simp)
  have qD_1:=HD_20.out 1 (by simp)
  have qD_2:=HD_20.out 2 (by simp)
  have qD_3:=HD_20.out 3 (by simp)
  have qD_4:=HD_20.out 4 (by simp)
  have qD_5:=HD_20.out 5 (by simp)
  have lD:w.heap.size+1 < W16_0.heap.size:=by omega
  have qT_0:=HT_23.out 0 (by simp)
  have qT_1:=HT_23.out 1 (by simp)
  have qT_2:=HT_23.out 2 (by simp)
  have qT_3:=HT_23.out 3 (by simp)
  have qT_4:=HT_23.out 4 (by simp)
  have lT:w1.heap.size < W16_0.heap.size:=by omega
  simp only [List.getElem_cons_succ,List.getElem_cons_zero] at qD_0 qD_1 qD_2 qD_3 qD_4 qD_5 qT_0 qT_1 qT_2 qT_3 qT_4
  cases tb with
  | false =>
    have HF:=hd' (show rdB f id vec es hs al ps=false by rw [HR.out];rfl)
    have hst:=sa43_of (d43_len 0) (d43_one 0) (HRB_21.out.there (d43_len 0))
    obtain ⟨w9,hw9⟩:∃x,x=W16_0.setCells (w.heap.size+2) 0 (d43 0):=⟨_,rfl⟩
    rw [←hw9] at hst
    have hbx9:BigBx w9 (w.heap.size+2) (d43 0):=by rw [hw9];exact HRB_21.out.put ((d43_len 0).trans (d43_len 0).symm)
    have hbel9:Below w.heap.size w w9:=by rw [hw9];exact setCells_below Hbel_18.out (by omega)
    have HB9:=hd' hbel9
    have hlv:=lv43_of (d43_len 0) hbx9.at_
    have HLv:=hd' hlv
    have hbz:=bd43_zero
    clear hw9 hbel9 hlv hbx9
    go_wp2_with fail
    have hlv:=HLv.out
    refine bodyPost_ret (v:=.tuple #[.agg ((d43 0)).toArray,.bool false]) (results_ct Tryz.results99 (p:=⟨w.heap.size+2,0,none⟩) (by first|rfl|simp) (by first|rfl|simp) hlv) rfl ⟨(d43 0),by rw [HF.out],d43_len 0,d43_one 0,(fun h=>by rw [HF.out] at h;cases h),HB9.out⟩
  | true =>
  go_wp2_with fail
  refine (isDevice_any id W16_0).mono ?_
  rintro e wx ⟨rfl,rfl⟩
  rw [←HDb.out]
  cases db with
  | false =>
    have HF:=hd' (show rdB f id vec es hs al ps=false by rw [HR.out];rfl)
    have hst:=sa43_of (d43_len 0) (d43_one 0) (HRB_21.out.there (d43_len 0))
    obtain ⟨w9,hw9⟩:∃x,x=W16_0.setCells (w.heap.size+2) 0 (d43 0):=⟨_,rfl⟩
    rw [←hw9] at hst
    have hbx9:BigBx w9 (w.heap.size+2) (d43 0):=by rw [hw9];exact HRB_21.out.put ((d43_len 0).trans (d43_len 0).symm)
    have hbel9:Below w.heap.size w w9:=by rw [hw9];exact setCells_below Hbel_18.out (by omega)
    have HB9:=hd' hbel9
    have hlv:=lv43_of (d43_len 0) hbx9.at_
    have HLv:=hd' hlv
    have hbz:=bd43_zero
    clear hw9 hbel9 hlv hbx9
    go_wp2_with fail
    have hlv:=HLv.out
    refine bodyPost_ret (v:=.tuple #[.agg ((d43 0)).toArray,.bool false]) (results_ct Tryz.results99 (p:=⟨w.heap.size+2,0,none⟩) (by first|rfl|simp) (by first|rfl|simp) hlv) rfl ⟨(d43 0),by rw [HF.out],d43_len 0,d43_one 0,(fun h=>by rw [HF.out] at h;cases h),HB9.out⟩
  | true =>
  obtain ⟨hvx,hnx,hex⟩:=Htr_22.out HTb.out.symm
  have HVx:=hd' hvx
  have HNx:=hd' hnx
  clear hvx hnx hex
  clear qD_0 qD_1 qD_2 qD_3 qD_4 qD_5 lD qT_0 qT_1 qT_2 qT_3 qT_4 lT
  have qB_0:=HB_19.out 0 (by simp)
  have qB_1:=HB_19.out 1 (by simp)
  have lB:w.heap.size < W16_0.heap.size:=by omega
  have qD_0:=HD_20.out 0 (by simp)
  have qD_1:=HD_20.out 1 (by simp)
  have qD_2:=HD_20.out 2 (by simp)
  have qD_3:=HD_20.out 3 (by simp)
  have qD_4:=HD_20.out 4 (by simp)
  have qD_5:=HD_20.out 5 (by simp)
  have lD:w.heap.size+1 < W16_0.heap.size:=by omega
  have qT_0:=HT_23.out 0 (by simp)
  have qT_1:=HT_23.out 1 (by simp)
  have qT_2:=HT_23.out 2 (by simp)
  have qT_3:=HT_23.out 3 (by simp)
  have qT_4:=HT_23.out 4 (by simp)
  have lT:w1.heap.size < W16_0.heap.size:=by omega
  simp only [List.getElem_cons_succ,List.getElem_cons_zero] at qB_0 qB_1 qD_0 qD_1 qD_2 qD_3 qD_4 qD_5 qT_0 qT_1 qT_2 qT_3 qT_4
  go_wp2_with fail
  refine (readHeads_any V1 V2 f AH hs ch x0 x1 x2 x3 W16_0 (HM.out.below Hbel_18.out) hfw ((HH.out.keep fun p _ hp=>Hbel_18.out.cell hp).mono (Nat.le_refl _) (by omega)) hhl hhb).mono ?_
  rintro e w2 ⟨lh,rfl,hlh,hl1,hlt,hb⟩
  rw [←HVx.out] at hlt ⊢
  rw [←HHb.out]
  clear qB_0 qB_1 lB qD_0 qD_1 qD_2 qD_3 qD_4 qD_5 lD qT_0 qT_1 qT_2 qT_3 qT_4 lT
  have z_25:=hb.size
  have Hbel_26:=hd' (Hbel_18.out.trans (hb.mono (by omega)))
  have HB_27:=hd' (HB_19.out.below hb (by omega))
  have HD_28:=hd' (HD_20.out.below hb (by omega))
  have HRB_29:=hd' (HRB_21.out.below hb)
  have Htr_30:=hd' (show (treeB vec es=true→vec=[x0,x1,x2,x3]∧n=es.length∧EvsIn w2 (w.heap.size+3) w2.heap.size E es) from fun h=>⟨(Htr_22.out h).1,(Htr_22.out h).2.1,((Htr_22.out h).2.2.below hb).mono hb.size⟩)
  have HT_31:=hd' (HT_23.out.below hb (by omega))
  clear Hbel_18 HB_19 HD_20 HRB_21 Htr_22 HT_23
  have Hhd_32:=hd' (show (rhB f hs vec=true→HdsAt w2 (w.heap.size+3) w2.heap.size lh (slM hs)) from fun h=>(hlt h).low (by omega))
  clear hb hlt
  have HL36:=hd' hlh
  have HL1:=hd' hl1
  clear hlh hl1
  have hba:BigBx (w2.alloc (.cells #[.int .i64 0,.int .i64 0,.int .i64 0,.int .i64 0,.int .i64 0,.int .i64 0,.int .i64 0,.slice none 0 0,.int .i64 0,.int .i64 0,.int .i64 0,.int .i64 0,.int .i64 0,.int .i64 0,.int .i64 0,.int .i64 0,.slice none 0 0,.int .i64 0,.int .i64 0,.int .i64 0,.int .i64 0,.int .i64 0,.int .i64 0,.int .i64 0,.int .i64 0,.slice none 0 0,.int .i64 0,.int .i64 0,.int .i64 0,.int .i64 0,.int .i64 0,.int .i64 0,.int .i64 0,.int .i64 0,.slice none 0 0,.int .i64 0] 126)) w2.heap.size z36:=BigBx.new w2 z36 _
  obtain ⟨w3,hwN⟩:∃x,x=(w2.alloc (.cells #[.int .i64 0,.int .i64 0,.int .i64 0,.int .i64 0,.int .i64 0,.int .i64 0,.int .i64 0,.slice none 0 0,.int .i64 0,.int .i64 0,.int .i64 0,.int .i64 0,.int .i64 0,.int .i64 0,.int .i64 0,.int .i64 0,.slice none 0 0,.int .i64 0,.int .i64 0,.int .i64 0,.int .i64 0,.int .i64 0,.int .i64 0,.int .i64 0,.int .i64 0,.slice none 0 0,.int .i64 0,.int .i64 0,.int .i64 0,.int .i64 0,.int .i64 0,.int .i64 0,.int .i64 0,.int .i64 0,.slice none 0 0,.int .i64 0] 126)).setCells w2.heap.size 0 lh:=⟨_,rfl⟩
  have hst:(SA36 (.pointer (some ⟨w2.heap.size,0,none⟩)) (.agg (lh).toArray)).run Tryz.prog (w2.alloc (.cells #[.int .i64 0,.int .i64 0,.int .i64 0,.int .i64 0,.int .i64 0,.int .i64 0,.int .i64 0,.slice none 0 0,.int .i64 0,.int .i64 0,.int .i64 0,.int .i64 0,.int .i64 0,.int .i64 0,.int .i64 0,.int .i64 0,.slice none 0 0,.int .i64 0,.int .i64 0,.int .i64 0,.int .i64 0,.int .i64 0,.int .i64 0,.int .i64 0,.int .i64 0,.slice none 0 0,.int .i64 0,.int .i64 0,.int .i64 0,.int .i64 0,.int .i64 0,.int .i64 0,.int .i64 0,.int .i64 0,.slice none 0 0,.int .i64 0] 126))=.ok () w3:=by rw [hwN];exact sa36_of (HL36.out) (HL1.out) (hba.there rfl)
  have hbN:BigBx w3 w2.heap.size lh:=by rw [hwN];exact hba.put (HL36.out)
  have hbel:Below w2.heap.size w2 w3:=by rw [hwN];exact setCells_below ((Below.refl _ _).alloc (Nat.le_refl _) _) (Nat.le_refl _)
  have HbN:=hd' hbN
  have HbelN:=hd' hbel
  clear hwN hba hbN hbel
  go_upto_region 5 with fail
  clear hst
  have hbelN:=HbelN.out
  clear HbelN
  have z_33:=hbelN.size
  have Hbel_34:=hd' (Hbel_26.out.trans (hbelN.mono (by omega)))
  have HB_35:=hd' (HB_27.out.below hbelN (by omega))
  have HD_36:=hd' (HD_28.out.below hbelN (by omega))
  have HRB_37:=hd' (HRB_29.out.below hbelN)
  have Htr_38:=hd' (show (treeB vec es=true→vec=[x0,x1,x2,x3]∧n=es.length∧EvsIn w3 (w.heap.size+3) w3.heap.size E es) from fun h=>⟨(Htr_30.out h).1,(Htr_30.out h).2.1,((Htr_30.out h).2.2.below hbelN).mono hbelN.size⟩)
  have HT_39:=hd' (HT_31.out.below hbelN (by omega))
  have Hhd_40:=hd' (show (rhB f hs vec=true→HdsAt w3 (w.heap.size+3) w3.heap.size lh (slM hs)) from fun h=>((Hhd_32.out h).keep fun _ _ hp=>hbelN.cell hp).mono hbelN.size)
  clear Hbel_26 HB_27 HD_28 HRB_29 Htr_30 HT_31 Hhd_32
  clear hbelN
  have hlN:w2.heap.size < w3.heap.size:=HbN.out.lt
  have qB_0:=HB_35.out 0 (by simp)
  have qB_1:=HB_35.out 1 (by simp)
  have lB:w.heap.size < w3.heap.size:=by omega
  have qD_0:=HD_36.out 0 (by simp)
  have qD_1:=HD_36.out 1 (by simp)
  have qD_2:=HD_36.out 2 (by simp)
  have qD_3:=HD_36.out 3 (by simp)
  have qD_4:=HD_36.out 4 (by simp)
  have qD_5:=HD_36.out 5 (by simp)
  have lD:w.heap.size+1 < w3.heap.size:=by omega
  simp only [List.getElem_cons_succ,List.getElem_cons_zero] at qB_0 qB_1 qD_0 qD_1 qD_2 qD_3 qD_4 qD_5
  go_wp2_with fail
  refine (readProof_any V1 V2 f id AV vec.length cv A es.length c AH hs.length ch al AP ps cp w3 (HM.out.below Hbel_34.out) hfw ((HP.out.keep fun p _ hp=>Hbel_34.out.cell hp).mono (Nat.le_refl _) (by omega)) hpl hpb).mono ?_
  rintro e w4 ⟨AQ,nq,cq,rfl,hpr,hb⟩
  clear qB_0 qB_1 lB qD_0 qD_1 qD_2 qD_3 qD_4 qD_5 lD
  have z_41:=hb.size
  have Hbel_42:=hd' (Hbel_34.out.trans (hb.mono (by omega)))
  have HB_43:=hd' (HB_35.out.below hb (by omega))
  have HD_44:=hd' (HD_36.out.below hb (by omega))
  have HRB_45:=hd' (HRB_37.out.below hb)
  have Htr_46:=hd' (show (treeB vec es=true→vec=[x0,x1,x2,x3]∧n=es.length∧EvsIn w4 (w.heap.size+3) w4.heap.size E es) from fun h=>⟨(Htr_38.out h).1,(Htr_38.out h).2.1,((Htr_38.out h).2.2.below hb).mono hb.size⟩)
  have HT_47:=hd' (HT_39.out.below hb (by omega))
  have Hhd_48:=hd' (show (rhB f hs vec=true→HdsAt w4 (w.heap.size+3) w4.heap.size lh (slM hs)) from fun h=>((Hhd_40.out h).keep fun _ _ hp=>hb.cell hp).mono hb.size)
  have HH_49:=hd' (HbN.out.below hb)
  clear Hbel_34 HB_35 HD_36 HRB_37 Htr_38 HT_39 Hhd_40 HbN
  have Hpr_50:=hd' (show (prP f al ps=true→nq=ps.length∧PsAt w4 (w.heap.size+3) w4.heap.size AQ ps) from fun h=>⟨(hpr h).1,(hpr h).2.low (by omega)⟩)
  clear hb
  clear hpr
  rw [←HPb.out]
  obtain ⟨l,hl⟩:∃l:List Value,l=([.int .i64 id,.int .i64 x0,.int .i64 x1,.int .i64 x2,.int .i64 x3,.slice E n k]:List Value)++lh++([.slice AQ nq cq]:List Value):=⟨_,rfl⟩
  have hl43:l.length=43:=by rw [hl];simp [HL36.out]
  have hl1:∀u∈l,u.oneCell'=true:=by rw [hl];exact d43_parts HL1.out
  have hla:=la36_of HL36.out HH_49.out.at_
  have hbd:=fun X=>bd43_of HL36.out id x0 x1 x2 x3 E n k AQ nq cq X
  rw [←hl] at hbd
  have HLl:=hd' hl
  have H43:=hd' hl43
  have H1:=hd' hl1
  clear hl hl43 hl1
  go_upto_region 6 with fail
  have qD_0:=HD_44.out 0 (by simp)
  have qD_1:=HD_44.out 1 (by simp)
  have qD_2:=HD_44.out 2 (by simp)
  have qD_3:=HD_44.out 3 (by simp)
  have qD_4:=HD_44.out 4 (by simp)
  have qD_5:=HD_44.out 5 (by simp)
  have lD:w.heap.size+1 < w4.heap.size:=by omega
  have qT_0:=HT_47.out 0 (by simp)
  have qT_1:=HT_47.out 1 (by simp)
  have qT_2:=HT_47.out 2 (by simp)
  have qT_3:=HT_47.out 3 (by simp)
  have qT_4:=HT_47.out 4 (by simp)
  have lT:w1.heap.size < w4.heap.size:=by omega
  simp only [List.getElem_cons_succ,List.getElem_cons_zero] at qD_0 qD_1 qD_2 qD_3 qD_4 qD_5 qT_0 qT_1 qT_2 qT_3 qT_4
  cases hb1 with
  | false =>
    have HF:=hd' (show rdB f id vec es hs al ps=false by rw [HR.out];rfl)
    have hst:=sa43_of (H43.out) (H1.out) (HRB_45.out.there (d43_len 0))
    obtain ⟨w9,hw9⟩:∃x,x=w4.setCells (w.heap.size+2) 0 l:=⟨_,rfl⟩
    rw [←hw9] at hst
    have hbx9:BigBx w9 (w.heap.size+2) l:=by rw [hw9];exact HRB_45.out.put ((H43.out).trans (d43_len 0).symm)
    have hbel9:Below w.heap.size w w9:=by rw [hw9];exact setCells_below Hbel_42.out (by omega)
    have HB9:=hd' hbel9
    have hlv:=lv43_of (H43.out) hbx9.at_
    have HLv:=hd' hlv
    clear hw9 hbel9 hlv hbx9
    go_wp2_with fail
    have hlv:=HLv.out
    refine bodyPost_ret (v:=.tuple #[.agg (l).toArray,.bool false]) (results_ct Tryz.results99 (p:=⟨w.heap.size+2,0,none⟩) (by first|rfl|simp) (by first|rfl|simp) hlv) rfl ⟨l,by rw [HF.out],H43.out,H1.out,(fun h=>by rw [HF.out] at h;cases h),HB9.out⟩
  | true =>
  cases pb with
  | false =>
    have HF:=hd' (show rdB f id vec es hs al ps=false by rw [HR.out];rfl)
    have hst:=sa43_of (H43.out) (H1.out) (HRB_45.out.there (d43_len 0))
    obtain ⟨w9,hw9⟩:∃x,x=w4.setCells (w.heap.size+2) 0 l:=⟨_,rfl⟩
    rw [←hw9] at hst
    have hbx9:BigBx w9 (w.heap.size+2) l:=by rw [hw9];exact HRB_45.out.put ((H43.out).trans (d43_len 0).symm)
    have hbel9:Below w.heap.size w w9:=by rw [hw9];exact setCells_below Hbel_42.out (by omega)
    have HB9:=hd' hbel9
    have hlv:=lv43_of (H43.out) hbx9.at_
    have HLv:=hd' hlv
    clear hw9 hbel9 hlv hbx9
    go_wp2_with fail
    have hlv:=HLv.out
    refine bodyPost_ret (v:=.tuple #[.agg (l).toArray,.bool false]) (results_ct Tryz.results99 (p:=⟨w.heap.size+2,0,none⟩) (by first|rfl|simp) (by first|rfl|simp) hlv) rfl ⟨l,by rw [HF.out],H43.out,H1.out,(fun h=>by rw [HF.out] at h;cases h),HB9.out⟩
  | true =>
  have HF:=hd' (show rdB f id vec es hs al ps=true by rw [HR.out];rfl)
  have hst:=sa43_of (H43.out) (H1.out) (HRB_45.out.there (d43_len 0))
  obtain ⟨w9,hw9⟩:∃x,x=w4.setCells (w.heap.size+2) 0 l:=⟨_,rfl⟩
  rw [←hw9] at hst
  have hbx9:BigBx w9 (w.heap.size+2) l:=by rw [hw9];exact HRB_45.out.put ((H43.out).trans (d43_len 0).symm)
  have hbel9:Below w.heap.size w w9:=by rw [hw9];exact setCells_below Hbel_42.out (by omega)
  have HDr:=hd' (show (rdB f id vec es hs al ps=true→DrAt w9 w.heap.size w9.heap.size l id vec es (slM hs) ps) from fun _=>by
    obtain ⟨hvx,hnx,hex⟩:=Htr_46.out HTb.out.symm
    obtain ⟨hnq,hps⟩:=Hpr_50.out HPb.out.symm
    subst hnx hnq
    rw [hw9,setCells_size]
    exact ((drAt_of hvx HLl.out hex (Hhd_48.out HHb.out.symm) hps).keep fun p hp _=>World.cell?_setCells_out _ _ _ _ _ (fun hb _=>absurd hb (by omega))).low (by omega))
  have HB9:=hd' hbel9
  have hlv:=lv43_of (H43.out) hbx9.at_
  have HLv:=hd' hlv
  clear hw9 hbel9 hlv hbx9
  go_wp2_with fail
  have hlv:=HLv.out
  refine bodyPost_ret (v:=.tuple #[.agg (l).toArray,.bool true]) (results_ct Tryz.results99 (p:=⟨w.heap.size+2,0,none⟩) (by first|rfl|simp) (by first|rfl|simp) hlv) rfl ⟨l,by rw [HF.out],H43.out,H1.out,HDr.out,HB9.out⟩
end Go.Proofs.YtckajeippfpojaaGreat
namespace Go.Proofs.YtckajeippfpojaaGreat
open Go.RowKit Go.Maps
set_option maxRecDepth 100000
theorem uBook:(Tryz.prog.underlying 125).map TypeDesc.isRow=some true:=by kernel_rfl
theorem iBook:(Tryz.prog.info? 125).map (·.size)=some 2:=by kernel_rfl
theorem lvBook {v0 v1:Value} {X:World} {b:Nat} (h:X.rangeAt b 0 [v0,v1]):(loadVar 125 ⟨b,0,none⟩).run Tryz.prog X=.ok (.agg #[v0,v1]) X:=by
  obtain ⟨d,hd,hr⟩:=Option.map_eq_some_iff.1 uBook
  exact run_loadVar_mid X b 0 125 [v0,v1] d h hd hr iBook
theorem range2 {X:World} {b:Nat} {v0 v1:Value} (h0:X.cell? ⟨b,0,none⟩=some v0) (h1:X.cell? ⟨b,1,none⟩=some v1):X.rangeAt b 0 [v0,v1]:=by
  intro j v hv
  have hj:j < 2:=(List.getElem?_eq_some_iff.1 hv).1
  have:j=0∨j=1:=by omega
  rcases this with rfl|rfl
  · cases hv;exact h0
  · cases hv;exact h1
theorem BkAt.cells {w:World} {V:Value} {f:Tm→Int} {b:Nat} {l:List Value} {o:Nat} {v:Value} (h:BkAt w V f) (hp:w.cell? ⟨b,o,none⟩=some v):BkAt (w.setCells b 0 l) V f:=by
  rw [setCells_put];exact h.put hp
def RdWith (ts:List Tm) (id:Int) (vec:List Int) (es:List En) (hs:List Mn) (al:Bool) (ps:List Mn) (w:World) (e:Ending) (w':World):Prop :=
  ∃(AB:Option Addr) (nB cB:Nat) (MB:Option Nat) (f:Tm→Int) (l:List Value),e=.returned (.tuple #[.agg #[.slice AB nB cB,.map MB],.agg l.toArray,.bool (dokB ts id vec es hs al ps)])∧BkAt w' (.map MB) f∧(∀t,(Lit.int .i64 (f t)).wf=true) ∧
    l.length=43∧(∀u∈l,u.oneCell'=true)∧(dokB ts id vec es hs al ps=true→lokB ts=true∧f=lookI ts∧DrAt w' w.heap.size w'.heap.size l id vec es (slM hs) ps)∧Below w.heap.size w w'
attribute [local simp ↓] la36_name lv36_name sa36_name la43_name lv43_name sa43_name bd43_name
set_option maxHeartbeats 600000 in
theorem readWith_any (AL:Option Addr) (ts:List Tm) (cL:Nat) (id:Int) (AV:Option Addr) (vec:List Int) (cv:Nat) (A:Option Addr) (es:List En) (c:Nat) (AH:Option Addr) (hs:List Mn) (ch:Nat) (al:Bool) (AP:Option Addr) (ps:List Mn) (cp:Nat) (w:World) (hT:TmsIn w 0 w.heap.size AL ts) (ht:ts.length≤1048576) (htb:bulk ts≤1048576) (hV:IntsIn w 0 w.heap.size AV vec) (hA:EnsIn w 0 w.heap.size A es) (hH:MnsRd w 0 w.heap.size AH hs) (hP:MnsRd w 0 w.heap.size AP ps) (hv:vec.length≤1048576) (hn:es.length≤1048576) (hbk:ebulk es≤1048576) (hhl:hs.length≤1048576) (hhb:mbulk hs≤1048576) (hpl:ps.length≤1048576) (hpb:mbulk ps≤1048576) :
    Calls Tryz.prog 79 #[.agg #[.slice AL ts.length cL],.agg #[.int .i64 id,.slice AV vec.length cv,.slice A es.length c,.slice AH hs.length ch,.bool al,.slice AP ps.length cp]] w (RdWith ts id vec es hs al ps w):=by
  have HT:=hd' hT
  have HV:=hd' hV
  have HA:=hd' hA
  have HH:=hd' hH
  have HP:=hd' hP
  clear hV hA hH hP hT
  obtain ⟨I,hI⟩:∃I,I=dokB ts id vec es hs al ps:=⟨_,rfl⟩
  go_enter Tryz.func79,Tryz.ntmps79
  go_wp2_with fail
  obtain ⟨W1_0,hW1_0⟩:∃x,x=w.alloc (.cells #[.slice AL ts.length cL] 35):=⟨_,rfl⟩
  obtain ⟨W1_1,hW1_1⟩:∃x,x=W1_0.alloc (.cells #[.int .i64 id,.slice AV vec.length cv,.slice A es.length c,.slice AH hs.length ch,.bool al,.slice AP ps.length cp] 57):=⟨_,rfl⟩
  obtain ⟨W1_2,hW1_2⟩:∃x,x=W1_1.alloc (.cells #[.slice none 0 0,.map none] 125):=⟨_,rfl⟩
  obtain ⟨W1_3,hW1_3⟩:∃x,x=W1_2.alloc (.cells #[.int .i64 0,.int .i64 0,.int .i64 0,.int .i64 0,.int .i64 0,.slice none 0 0,.int .i64 0,.int .i64 0,.int .i64 0,.int .i64 0,.int .i64 0,.int .i64 0,.int .i64 0,.slice none 0 0,.int .i64 0,.int .i64 0,.int .i64 0,.int .i64 0,.int .i64 0,.int .i64 0,.int .i64 0,.int .i64 0,.slice none 0 0,.int .i64 0,.int .i64 0,.int .i64 0,.int .i64 0,.int .i64 0,.int .i64 0,.int .i64 0,.int .i64 0,.slice none 0 0,.int .i64 0,.int .i64 0,.int .i64 0,.int .i64 0,.int .i64 0,.int .i64 0,.int .i64 0,.int .i64 0,.slice none 0 0,.int .i64 0,.slice none 0 0] 129):=⟨_,rfl⟩
  have hZ1_0:W1_0.heap.size=w.heap.size+1:=by rw [hW1_0];simp
  have hZ1_1:W1_1.heap.size=w.heap.size+2:=by rw [hW1_1];simp [hZ1_0]
  have hZ1_2:W1_2.heap.size=w.heap.size+3:=by rw [hW1_2];simp [hZ1_1]
  have hZ1_3:W1_3.heap.size=w.heap.size+4:=by rw [hW1_3];simp [hZ1_2]
  have hx0:Bx W1_0 (w.heap.size) [.slice AL ts.length cL]:=by rw [hW1_0];exact Bx.new' _ _ _ _ rfl
  replace hx0:Bx W1_1 (w.heap.size) [.slice AL ts.length cL]:=by rw [hW1_1];exact hx0.alloc (by omega) _
  replace hx0:Bx W1_2 (w.heap.size) [.slice AL ts.length cL]:=by rw [hW1_2];exact hx0.alloc (by omega) _
  replace hx0:Bx W1_3 (w.heap.size) [.slice AL ts.length cL]:=by rw [hW1_3];exact hx0.alloc (by omega) _
  have hx1:Bx W1_1 (w.heap.size+1) [.int .i64 id,.slice AV vec.length cv,.slice A es.length c,.slice AH hs.length ch,.bool al,.slice AP ps.length cp]:=by rw [hW1_1,←hZ1_0];exact Bx.new' _ _ _ _ rfl
  replace hx1:Bx W1_2 (w.heap.size+1) [.int .i64 id,.slice AV vec.length cv,.slice A es.length c,.slice AH hs.length ch,.bool al,.slice AP ps.length cp]:=by rw [hW1_2];exact hx1.alloc (by omega) _
  replace hx1:Bx W1_3 (w.heap.size+1) [.int .i64 id,.slice AV vec.length cv,.slice A es.length c,.slice AH hs.length ch,.bool al,.slice AP ps.length cp]:=by rw [hW1_3];exact hx1.alloc (by omega) _
  have hx2:Bx W1_2 (w.heap.size+2) [.slice none 0 0,.map none]:=by rw [hW1_2,←hZ1_1];exact Bx.new' _ _ _ _ rfl
  replace hx2:Bx W1_3 (w.heap.size+2) [.slice none 0 0,.map none]:=by rw [hW1_3];exact hx2.alloc (by omega) _
  have hx3:Bx W1_3 (w.heap.size+3) [.int .i64 0,.int .i64 0,.int .i64 0,.int .i64 0,.int .i64 0,.slice none 0 0,.int .i64 0,.int .i64 0,.int .i64 0,.int .i64 0,.int .i64 0,.int .i64 0,.int .i64 0,.slice none 0 0,.int .i64 0,.int .i64 0,.int .i64 0,.int .i64 0,.int .i64 0,.int .i64 0,.int .i64 0,.int .i64 0,.slice none 0 0,.int .i64 0,.int .i64 0,.int .i64 0,.int .i64 0,.int .i64 0,.int .i64 0,.int .i64 0,.int .i64 0,.slice none 0 0,.int .i64 0,.int .i64 0,.int .i64 0,.int .i64 0,.int .i64 0,.int .i64 0,.int .i64 0,.int .i64 0,.slice none 0 0,.int .i64 0,.slice none 0 0]:=by rw [hW1_3,←hZ1_2];exact Bx.new' _ _ _ _ rfl
  have hb0:Below w.heap.size w W1_3:=by rw [hW1_3,hW1_2,hW1_1,hW1_0];exact (((((Below.refl _ _).alloc (by first|exact Nat.le_refl _|(simp;done)|(simp;omega)) _).alloc (by first|exact Nat.le_refl _|(simp;done)|(simp;omega)) _).alloc (by first|exact Nat.le_refl _|(simp;done)|(simp;omega)) _).alloc (by first|exact Nat.le_refl _|(simp;done)|(simp;omega)) _)
  have hf2:∀o,W1_3.frozen? ⟨w.heap.size+2,o,none⟩=false:=fun o=>by rw [hW1_3,hW1_2,hW1_1,hW1_0];exact (((((Fresh.refl w).alloc _ _).alloc _ _).alloc _ _).alloc _ _) ⟨w.heap.size+2,o,none⟩ (by show w.heap.size≤w.heap.size+2;omega)
  have hf3:∀o,W1_3.frozen? ⟨w.heap.size+3,o,none⟩=false:=fun o=>by rw [hW1_3,hW1_2,hW1_1,hW1_0];exact (((((Fresh.refl w).alloc _ _).alloc _ _).alloc _ _).alloc _ _) ⟨w.heap.size+3,o,none⟩ (by show w.heap.size≤w.heap.size+3;omega)
  have hlt:w.heap.size+3 < W1_3.heap.size:=by omega
  rw [←hW1_0,←hW1_1,←hW1_2,←hW1_3]
  clear hW1_0 hZ1_0 hW1_1 hZ1_1 hW1_2 hZ1_2 hW1_3 hZ1_3
  have z_2:=hb0.size
  have Hbel_3:=hd' (hb0)
  have HL_4:=hd' (hx0)
  have HD_5:=hd' (hx1)
  have HQ_6:=hd' (hx2)
  have HQF_7:=hd' (hf2)
  clear hf2
  have HR_8:=hd' (hx3)
  have HRF_9:=hd' (hf3)
  clear hf3
  clear hb0 hx0 hx1 hx2 hx3
  have hl_10:=hlt
  clear hlt
  have HRB_11:=hd' (show BigBx W1_3 (w.heap.size+3) (d43 0) from ⟨bx_range HR_8.out,HRF_9.out,by omega⟩)
  clear HR_8 HRF_9
  refine (readLedger_bk AL ts cL W1_3 ((HT.out.keep fun p _ hp=>Hbel_3.out.cell hp).mono (by omega)) ht htb).mono ?_
  rintro e w1 ⟨AB,nB,cB,MB,f,rfl,hbk0,hfw,hlk,hb⟩
  have z_12:=hb.size
  have Hbel_13:=hd' (Hbel_3.out.trans (hb.mono (by omega)))
  have HD_14:=hd' (HD_5.out.below hb (by omega))
  have HQ_15:=hd' (HQ_6.out.below hb (by omega))
  have HQF_16:=hd' (show ∀o,w1.frozen? ⟨w.heap.size+2,o,none⟩=false from fun o=>(hb.frozen (p:=⟨w.heap.size+2,o,none⟩) (by show w.heap.size+2 < _;omega)).trans (HQF_7.out o))
  have HRB_17:=hd' (HRB_11.out.below hb)
  clear Hbel_3 HL_4 HD_5 HQ_6 HQF_7 HRB_11
  have Hbk_18:=hd' (hbk0)
  clear hb
  have HFw:=hd' hfw
  clear hbk0 hfw
  obtain ⟨lb,hlb⟩:∃b,b=lokB ts:=⟨_,rfl⟩
  have HLb:=hd' hlb
  rw [←hlb] at hlk ⊢
  clear hlb
  cases lb with
  | false =>
    have HF:=hd' (show dokB ts id vec es hs al ps=false from dok_led HLb.out.symm)
    go_upto_region 3 with fail
    obtain ⟨W19_0,hW19_0⟩:∃x,x=w1.alloc (.cells #[.slice AB nB cB,.map MB] 125):=⟨_,rfl⟩
    have hZ19_0:W19_0.heap.size=w1.heap.size+1:=by rw [hW19_0];simp
    have hx0:Bx W19_0 (w1.heap.size) [.slice AB nB cB,.map MB]:=by rw [hW19_0];exact Bx.new' _ _ _ _ rfl
    have hb0:Below w1.heap.size w1 W19_0:=by rw [hW19_0];exact ((Below.refl _ _).alloc (by first|exact Nat.le_refl _|(simp;done)|(simp;omega)) _)
    have hlt:w1.heap.size+0 < W19_0.heap.size:=by omega
    rw [←hW19_0]
    clear hW19_0 hZ19_0
    have z_20:=hb0.size
    have Hbel_21:=hd' (Hbel_13.out.trans (hb0.mono (by omega)))
    have HD_22:=hd' (HD_14.out.below hb0 (by omega))
    have HQ_23:=hd' (HQ_15.out.below hb0 (by omega))
    have HQF_24:=hd' (show ∀o,W19_0.frozen? ⟨w.heap.size+2,o,none⟩=false from fun o=>(hb0.frozen (p:=⟨w.heap.size+2,o,none⟩) (by show w.heap.size+2 < _;omega)).trans (HQF_16.out o))
    have HRB_25:=hd' (HRB_17.out.below hb0)
    have Hbk_26:=hd' (Hbk_18.out.below hb0)
    clear Hbel_13 HD_14 HQ_15 HQF_16 HRB_17 Hbk_18
    have HK_27:=hd' (hx0)
    clear hb0 hx0
    have hl_28:=hlt
    clear hlt
    obtain ⟨w8,hw8⟩:∃x,x=((W19_0.setCell ⟨w.heap.size+2,0,none⟩ (.slice none 0 0)).setCell ⟨w.heap.size+2,1,none⟩ (.map none)):=⟨_,rfl⟩
    have hw8p:w8=(putAll (w.heap.size+2) 0 [.slice none 0 0,.map none] W19_0):=hw8
    have hR8:BigBx w8 (w.heap.size+3) (d43 0):=by rw [hw8p];exact (HRB_25.out.other (by omega) _ _)
    have hQ8:Bx w8 (w.heap.size+2) [.slice none 0 0,.map none]:=by rw [hw8p];exact (putAll_bx (vs:=[.slice none 0 0,.map none]) (HQ_23.out) rfl)
    have hb8:Below w.heap.size w w8:=by rw [hw8p];exact (putAll_below Hbel_21.out (by omega))
    obtain ⟨w9,hw9⟩:∃x,x=w8.setCells (w.heap.size+3) 0 (d43 0):=⟨_,rfl⟩
    have hst:(SA43 (.pointer (some ⟨w.heap.size+3,0,none⟩)) (.agg ((d43 0)).toArray)).run Tryz.prog w8=.ok () w9:=by rw [hw9];exact sa43_of (d43_len 0) (d43_one 0) (hR8.there (d43_len 0))
    rw [hw8] at hst
    have hR9:BigBx w9 (w.heap.size+3) (d43 0):=by rw [hw9];exact hR8.put ((d43_len 0).trans (d43_len 0).symm)
    have hQ9:Bx w9 (w.heap.size+2) [.slice none 0 0,.map none]:=by rw [hw9,setCells_put];exact hQ8.put_else (by omega)
    have hb9:Below w.heap.size w w9:=by rw [hw9];exact setCells_below hb8 (by omega)
    have HLv:=hd' (lv43_of (d43_len 0) hR9.at_)
    have HBkv:=hd' (range2 (hQ9 0 (by simp)) (hQ9 1 (by simp)))
    have HB9:=hd' hb9
    have hbz:=bd43_zero
    clear hR8 hQ8 hb8 hR9 hQ9 hb9 hw8 hw8p hw9
    have qQ_0:=HQ_23.out 0 (by simp)
    have qQ_1:=HQ_23.out 1 (by simp)
    have lQ:w.heap.size+2 < W19_0.heap.size:=by omega
    have fQF_0:=HQF_24.out 0
    have fQF_1:=HQF_24.out 1
    simp only [List.getElem_cons_succ,List.getElem_cons_zero] at qQ_0 qQ_1
    go_wp2_with fail
    refine bodyPost_ret (v:=.tuple #[.agg #[.slice none 0 0,.map none],.agg ((d43 0)).toArray,.bool false]) (results_cct Tryz.results79 (p:=⟨w.heap.size+2,0,none⟩) (p2:=⟨w.heap.size+3,0,none⟩) (by first|rfl|simp) (lvBook HBkv.out) (by first|rfl|simp) HLv.out (by first|rfl|simp)) rfl ?_
    exact ⟨none,0,0,none,fun _=>-1,d43 0,by rw [HF.out],.inr ⟨rfl,rfl⟩,fun _=>rfl,d43_len 0,d43_one 0,(fun h=>by rw [HF.out] at h;cases h),HB9.out⟩
  | true =>
  obtain rfl:=hlk rfl
  clear hlk
  go_upto_region 4 with fail
  obtain ⟨W19_0,hW19_0⟩:∃x,x=w1.alloc (.cells #[.slice AB nB cB,.map MB] 125):=⟨_,rfl⟩
  have hZ19_0:W19_0.heap.size=w1.heap.size+1:=by rw [hW19_0];simp
  have hx0:Bx W19_0 (w1.heap.size) [.slice AB nB cB,.map MB]:=by rw [hW19_0];exact Bx.new' _ _ _ _ rfl
  have hb0:Below w1.heap.size w1 W19_0:=by rw [hW19_0];exact ((Below.refl _ _).alloc (by first|exact Nat.le_refl _|(simp;done)|(simp;omega)) _)
  have hlt:w1.heap.size+0 < W19_0.heap.size:=by omega
  rw [←hW19_0]
  clear hW19_0 hZ19_0
  have z_20:=hb0.size
  have Hbel_21:=hd' (Hbel_13.out.trans (hb0.mono (by omega)))
  have HD_22:=hd' (HD_14.out.below hb0 (by omega))
  have HQ_23:=hd' (HQ_15.out.below hb0 (by omega))
  have HQF_24:=hd' (show ∀o,W19_0.frozen? ⟨w.heap.size+2,o,none⟩=false from fun o=>(hb0.frozen (p:=⟨w.heap.size+2,o,none⟩) (by show w.heap.size+2 < _;omega)).trans (HQF_16.out o))
  have HRB_25:=hd' (HRB_17.out.below hb0)
  have Hbk_26:=hd' (Hbk_18.out.below hb0)
  clear Hbel_13 HD_14 HQ_15 HQF_16 HRB_17 Hbk_18
  have HK_27:=hd' (hx0)
  clear hb0 hx0
  have hl_28:=hlt
  clear hlt
  have qK_0:=HK_27.out 0 (by simp)
  have qK_1:=HK_27.out 1 (by simp)
  have lK:w1.heap.size < W19_0.heap.size:=by omega
  have qD_0:=HD_22.out 0 (by simp)
  have qD_1:=HD_22.out 1 (by simp)
  have qD_2:=HD_22.out 2 (by simp)
  have qD_3:=HD_22.out 3 (by simp)
  have qD_4:=HD_22.out 4 (by simp)
  have qD_5:=HD_22.out 5 (by simp)
  have lD:w.heap.size+1 < W19_0.heap.size:=by omega
  simp only [List.getElem_cons_succ,List.getElem_cons_zero] at qK_0 qK_1 qD_0 qD_1 qD_2 qD_3 qD_4 qD_5
  go_wp2_with fail
  refine (readDevice_any (.slice AB nB cB) (.map MB) (lookI ts) id AV vec cv A es c AH hs ch al AP ps cp W19_0 Hbk_26.out HFw.out ((HV.out.keep fun p _ hp=>Hbel_21.out.cell hp).mono (by omega)) ((HA.out.keep fun p _ hp=>Hbel_21.out.cell hp).mono (by omega)) ((HH.out.keep fun p _ hp=>Hbel_21.out.cell hp).mono (Nat.le_refl _) (by omega)) ((HP.out.keep fun p _ hp=>Hbel_21.out.cell hp).mono (Nat.le_refl _) (by omega)) hv hn hbk hhl hhb hpl hpb).mono ?_
  rintro e w2 ⟨l,rfl,hl43,hl1,hdr,hb⟩
  clear qK_0 qK_1 lK qD_0 qD_1 qD_2 qD_3 qD_4 qD_5 lD
  have z_29:=hb.size
  have Hbel_30:=hd' (Hbel_21.out.trans (hb.mono (by omega)))
  have HQ_31:=hd' (HQ_23.out.below hb (by omega))
  have HQF_32:=hd' (show ∀o,w2.frozen? ⟨w.heap.size+2,o,none⟩=false from fun o=>(hb.frozen (p:=⟨w.heap.size+2,o,none⟩) (by show w.heap.size+2 < _;omega)).trans (HQF_24.out o))
  have HRB_33:=hd' (HRB_25.out.below hb)
  have Hbk_34:=hd' (Hbk_26.out.below hb)
  have HK_35:=hd' (HK_27.out.below hb (by omega))
  clear Hbel_21 HD_22 HQ_23 HQF_24 HRB_25 Hbk_26 HK_27
  have Hdr_36:=hd' (show (rdB (lookI ts) id vec es hs al ps=true→DrAt w2 (w.heap.size+4) w2.heap.size l id vec es (slM hs) ps) from fun h=>(hdr h).low (by omega))
  clear hb
  have H43:=hd' hl43
  have H1:=hd' hl1
  clear hl43 hl1 hdr
  rw [←dok_rd HLb.out.symm]
  have hba:BigBx (w2.alloc (.cells #[.int .i64 0,.int .i64 0,.int .i64 0,.int .i64 0,.int .i64 0,.slice none 0 0,.int .i64 0,.int .i64 0,.int .i64 0,.int .i64 0,.int .i64 0,.int .i64 0,.int .i64 0,.slice none 0 0,.int .i64 0,.int .i64 0,.int .i64 0,.int .i64 0,.int .i64 0,.int .i64 0,.int .i64 0,.int .i64 0,.slice none 0 0,.int .i64 0,.int .i64 0,.int .i64 0,.int .i64 0,.int .i64 0,.int .i64 0,.int .i64 0,.int .i64 0,.slice none 0 0,.int .i64 0,.int .i64 0,.int .i64 0,.int .i64 0,.int .i64 0,.int .i64 0,.int .i64 0,.int .i64 0,.slice none 0 0,.int .i64 0,.slice none 0 0] 129)) w2.heap.size (d43 0):=BigBx.new w2 (d43 0) _
  obtain ⟨w3,hwN⟩:∃x,x=(w2.alloc (.cells #[.int .i64 0,.int .i64 0,.int .i64 0,.int .i64 0,.int .i64 0,.slice none 0 0,.int .i64 0,.int .i64 0,.int .i64 0,.int .i64 0,.int .i64 0,.int .i64 0,.int .i64 0,.slice none 0 0,.int .i64 0,.int .i64 0,.int .i64 0,.int .i64 0,.int .i64 0,.int .i64 0,.int .i64 0,.int .i64 0,.slice none 0 0,.int .i64 0,.int .i64 0,.int .i64 0,.int .i64 0,.int .i64 0,.int .i64 0,.int .i64 0,.int .i64 0,.slice none 0 0,.int .i64 0,.int .i64 0,.int .i64 0,.int .i64 0,.int .i64 0,.int .i64 0,.int .i64 0,.int .i64 0,.slice none 0 0,.int .i64 0,.slice none 0 0] 129)).setCells w2.heap.size 0 l:=⟨_,rfl⟩
  have hst:(SA43 (.pointer (some ⟨w2.heap.size,0,none⟩)) (.agg (l).toArray)).run Tryz.prog (w2.alloc (.cells #[.int .i64 0,.int .i64 0,.int .i64 0,.int .i64 0,.int .i64 0,.slice none 0 0,.int .i64 0,.int .i64 0,.int .i64 0,.int .i64 0,.int .i64 0,.int .i64 0,.int .i64 0,.slice none 0 0,.int .i64 0,.int .i64 0,.int .i64 0,.int .i64 0,.int .i64 0,.int .i64 0,.int .i64 0,.int .i64 0,.slice none 0 0,.int .i64 0,.int .i64 0,.int .i64 0,.int .i64 0,.int .i64 0,.int .i64 0,.int .i64 0,.int .i64 0,.slice none 0 0,.int .i64 0,.int .i64 0,.int .i64 0,.int .i64 0,.int .i64 0,.int .i64 0,.int .i64 0,.int .i64 0,.slice none 0 0,.int .i64 0,.slice none 0 0] 129))=.ok () w3:=by rw [hwN];exact sa43_of (H43.out) (H1.out) (hba.there rfl)
  have hbN:BigBx w3 w2.heap.size l:=by rw [hwN];exact hba.put (H43.out)
  have hbel:Below w2.heap.size w2 w3:=by rw [hwN];exact setCells_below ((Below.refl _ _).alloc (Nat.le_refl _) _) (Nat.le_refl _)
  have HbN:=hd' hbN
  have HbelN:=hd' hbel
  clear hwN hba hbN hbel
  go_upto_region 5 with fail
  clear hst
  have hbelN:=HbelN.out
  clear HbelN
  have z_37:=hbelN.size
  have Hbel_38:=hd' (Hbel_30.out.trans (hbelN.mono (by omega)))
  have HQ_39:=hd' (HQ_31.out.below hbelN (by omega))
  have HQF_40:=hd' (show ∀o,w3.frozen? ⟨w.heap.size+2,o,none⟩=false from fun o=>(hbelN.frozen (p:=⟨w.heap.size+2,o,none⟩) (by show w.heap.size+2 < _;omega)).trans (HQF_32.out o))
  have HRB_41:=hd' (HRB_33.out.below hbelN)
  have Hbk_42:=hd' (Hbk_34.out.below hbelN)
  have HK_43:=hd' (HK_35.out.below hbelN (by omega))
  have Hdr_44:=hd' (show (rdB (lookI ts) id vec es hs al ps=true→DrAt w3 (w.heap.size+4) w3.heap.size l id vec es (slM hs) ps) from fun h=>((Hdr_36.out h).keep fun _ _ hp=>hbelN.cell hp).mono hbelN.size)
  clear Hbel_30 HQ_31 HQF_32 HRB_33 Hbk_34 HK_35 Hdr_36
  clear hbelN
  have hlN:w2.heap.size < w3.heap.size:=HbN.out.lt
  have hdk:=dok_rd (id:=id) (vec:=vec) (es:=es) (hs:=hs) (al:=al) (ps:=ps) HLb.out.symm
  have HDk:=hd' hdk
  clear hdk
  have hla:(LA43 (.pointer (some ⟨w2.heap.size,0,none⟩))).run Tryz.prog w3.drew=.ok (.agg l.toArray) w3.drew:=la43_of H43.out (HbN.out.drew.at_)
  obtain ⟨w8,hw8⟩:∃x,x=((w3.setCell ⟨w.heap.size+2,0,none⟩ (.slice AB nB cB)).setCell ⟨w.heap.size+2,1,none⟩ (.map MB)).drew:=⟨_,rfl⟩
  have hw8p:w8=(putAll (w.heap.size+2) 0 [.slice AB nB cB,.map MB] w3).drew:=hw8
  have hR8:BigBx w8 (w.heap.size+3) (d43 0):=by rw [hw8p];exact (HRB_41.out.other (by omega) _ _).drew
  have hQ8:Bx w8 (w.heap.size+2) [.slice AB nB cB,.map MB]:=by rw [hw8p];exact (putAll_bx (vs:=[.slice AB nB cB,.map MB]) (HQ_39.out) rfl).drew'
  have hb8:Below w.heap.size w w8:=by rw [hw8p];exact (putAll_below Hbel_38.out (by omega)).drew
  obtain ⟨w9,hw9⟩:∃x,x=w8.setCells (w.heap.size+3) 0 l:=⟨_,rfl⟩
  have hst:(SA43 (.pointer (some ⟨w.heap.size+3,0,none⟩)) (.agg (l).toArray)).run Tryz.prog w8=.ok () w9:=by rw [hw9];exact sa43_of (H43.out) (H1.out) (hR8.there (d43_len 0))
  rw [hw8] at hst
  have hR9:BigBx w9 (w.heap.size+3) l:=by rw [hw9];exact hR8.put ((H43.out).trans (d43_len 0).symm)
  have hQ9:Bx w9 (w.heap.size+2) [.slice AB nB cB,.map MB]:=by rw [hw9,setCells_put];exact hQ8.put_else (by omega)
  have hb9:Below w.heap.size w w9:=by rw [hw9];exact setCells_below hb8 (by omega)
  have HLv:=hd' (lv43_of (H43.out) hR9.at_)
  have HBkv:=hd' (range2 (hQ9 0 (by simp)) (hQ9 1 (by simp)))
  have HB9:=hd' hb9
  have hla2:(LA43 (.pointer (some ⟨w2.heap.size,0,none⟩))).run Tryz.prog w8=.ok (.agg l.toArray) w8:=la43_of H43.out (by rw [hw8p];exact ((HbN.out.other (by omega) _ _).drew).at_)
  rw [hw8] at hla2
  have hbk9:BkAt w9 (.map MB) (lookI ts):=by rw [hw9];exact BkAt.cells (by rw [hw8p];exact (Hbk_42.out.put (HQ_39.out 0 (by simp))).drew) (hR8.some (j:=0) (by simp [d43])).choose_spec
  have HBk9:=hd' hbk9
  have HDr9:=hd' (show (rdB (lookI ts) id vec es hs al ps=true→DrAt w9 w.heap.size w9.heap.size l id vec es (slM hs) ps) from fun h=>by
    have h1:=Hdr_44.out h
    have h2:DrAt w9 (w.heap.size+4) w3.heap.size l id vec es (slM hs) ps:=h1.keep fun p hp _=>by
      rw [hw9,World.cell?_setCells_out _ _ _ _ _ (fun hb _=>absurd hb (by omega)),hw8p]
      exact putAll_other (by omega)
    have e:w9.heap.size=w3.heap.size:=by rw [hw9,setCells_size,hw8p];exact putAll_size
    rw [e]
    exact h2.low (by omega))
  clear hR8 hQ8 hb8 hR9 hQ9 hb9 hw8 hw8p hw9 hbk9
  have qK_0:=HK_43.out 0 (by simp)
  have qK_1:=HK_43.out 1 (by simp)
  have lK:w1.heap.size < w3.heap.size:=by omega
  have qQ_0:=HQ_39.out 0 (by simp)
  have qQ_1:=HQ_39.out 1 (by simp)
  have lQ:w.heap.size+2 < w3.heap.size:=by omega
  have fQF_0:=HQF_40.out 0
  have fQF_1:=HQF_40.out 1
  simp only [List.getElem_cons_succ,List.getElem_cons_zero] at qK_0 qK_1 qQ_0 qQ_1
  go_big_region
  go_wp2_with fail
  refine bodyPost_ret (v:=.tuple #[.agg #[.slice AB nB cB,.map MB],.agg (l).toArray,.bool (dokB ts id vec es hs al ps)]) (results_cct Tryz.results79 (p:=⟨w.heap.size+2,0,none⟩) (p2:=⟨w.heap.size+3,0,none⟩) (by first|rfl|simp) (lvBook HBkv.out) (by first|rfl|simp) HLv.out (by first|rfl|simp)) rfl ?_
  exact ⟨AB,nB,cB,MB,lookI ts,l,rfl,HBk9.out,HFw.out,H43.out,H1.out,(fun h=>⟨HLb.out.symm,rfl,HDr9.out (HDk.out.symm.trans h)⟩),HB9.out⟩
end Go.Proofs.YtckajeippfpojaaGreat
namespace Go.Proofs.YtckajeippfpojaaGreat
open Go.RowKit Go.Maps
set_option maxRecDepth 100000
theorem list4 {l:List Int} (h:l.length=4):∃a b c d,l=[a,b,c,d]:=by
  match l,h with
  | [a,b,c,d],_=>exact ⟨a,b,c,d,rfl⟩
theorem kp_hold {w W:World} (h:Below w.heap.size w W) (x:Kp W):Below w.heap.size w x.val:=h.trans (x.ok.mono h.size)
set_option maxHeartbeats 800000 in
theorem specDeviceOk_true (AL:Option Addr) (ts:List Tm) (cL:Nat) (id:Int) (AV:Option Addr) (vec:List Int) (cv:Nat) (A:Option Addr) (es:List En) (c:Nat) (AH:Option Addr) (hs:List Mn) (ch:Nat) (AP:Option Addr) (ps:List Mn) (cp:Nat) (w:World) (hT:TmsIn w 0 w.heap.size AL ts) (ht:ts.length≤1048576) (htb_:bulk ts≤1048576) (hV:IntsIn w 0 w.heap.size AV vec) (hA:EnsIn w 0 w.heap.size A es) (hH:MnsRd w 0 w.heap.size AH hs) (hP:MnsRd w 0 w.heap.size AP ps) (hv:vec.length≤1048576) (hn:es.length≤1048576) (hbk:ebulk es≤1048576) (hhl:hs.length≤1048576) (hhb:mbulk hs≤1048576) (hpl:ps.length≤1048576) (hpb:mbulk ps≤1048576) (hc:es.length≤c:=by omega) :
    Calls Tryz.prog 25 #[.agg #[.slice AL ts.length cL],.agg #[.int .i64 id,.slice AV vec.length cv,.slice A es.length c,.slice AH hs.length ch,.bool true,.slice AP ps.length cp]] w fun e w'=>e=.returned (.bool (dokB ts id vec es hs true ps))∧Below w.heap.size w w':=by
  have HT:=hd' hT
  have HV:=hd' hV
  have HA:=hd' hA
  have HH:=hd' hH
  have HP:=hd' hP
  clear hV hA hH hP hT
  obtain ⟨I,hI⟩:∃I,I=dokB ts id vec es hs true ps:=⟨_,rfl⟩
  have HI:=hd' hI
  rw [←hI]
  clear hI
  obtain ⟨lb,hlb⟩:∃b,b=lokB ts:=⟨_,rfl⟩
  obtain ⟨tb,htb⟩:∃b,b=treeB vec es:=⟨_,rfl⟩
  have HLb:=hd' hlb
  have HTb:=hd' htb
  have HLo:=hd' (fun X (hX:Below w.heap.size w X)=>hlb ▸ specLedgerOk_any AL ts cL 0 w.heap.size X (HT.out.keep fun p _ hp=>hX.cell hp) hX.size ht htb_)
  have HTo:=hd' (fun X (hX:Below w.heap.size w X)=>htb ▸ specTreeOk_any AV vec cv A es c X ((HV.out.keep fun p _ hp=>hX.cell hp).mono hX.size) ((HA.out.keep fun p _ hp=>hX.cell hp).mono hX.size) hv hn hbk hc)
  clear hlb htb
  go_enter Tryz.func25,Tryz.ntmps25
  go_wp2_with fail
  obtain ⟨W1_0,hW1_0⟩:∃x,x=w.alloc (.cells #[.slice AL ts.length cL] 35):=⟨_,rfl⟩
  obtain ⟨W1_1,hW1_1⟩:∃x,x=W1_0.alloc (.cells #[.int .i64 id,.slice AV vec.length cv,.slice A es.length c,.slice AH hs.length ch,.bool true,.slice AP ps.length cp] 57):=⟨_,rfl⟩
  have hZ1_0:W1_0.heap.size=w.heap.size+1:=by rw [hW1_0];simp
  have hZ1_1:W1_1.heap.size=w.heap.size+2:=by rw [hW1_1];simp [hZ1_0]
  have hx0:Bx W1_0 (w.heap.size) [.slice AL ts.length cL]:=by rw [hW1_0];exact Bx.new' _ _ _ _ rfl
  replace hx0:Bx W1_1 (w.heap.size) [.slice AL ts.length cL]:=by rw [hW1_1];exact hx0.alloc (by omega) _
  have hx1:Bx W1_1 (w.heap.size+1) [.int .i64 id,.slice AV vec.length cv,.slice A es.length c,.slice AH hs.length ch,.bool true,.slice AP ps.length cp]:=by rw [hW1_1,←hZ1_0];exact Bx.new' _ _ _ _ rfl
  have hb0:Below w.heap.size w W1_1:=by rw [hW1_1,hW1_0];exact (((Below.refl _ _).alloc (by first|exact Nat.le_refl _|(simp;done)|(simp;omega)) _).alloc (by first|exact Nat.le_refl _|(simp;done)|(simp;omega)) _)
  have hlt:w.heap.size+1 < W1_1.heap.size:=by omega
  rw [←hW1_0,←hW1_1]
  clear hW1_0 hZ1_0 hW1_1 hZ1_1
  have z_2:=hb0.size
  have Hbel_3:=hd' (hb0)
  have HL_4:=hd' (hx0)
  have HD_5:=hd' (hx1)
  clear hb0 hx0 hx1
  have hl_6:=hlt
  clear hlt
  refine (HLo.out W1_1 Hbel_3.out).mono ?_
  rintro e w1 ⟨rfl,hb⟩
  have z_7:=hb.size
  have Hbel_8:=hd' (Hbel_3.out.trans (hb.mono (by omega)))
  have HL_9:=hd' (HL_4.out.below hb (by omega))
  have HD_10:=hd' (HD_5.out.below hb (by omega))
  clear Hbel_3 HL_4 HD_5
  clear hb
  have qD_0:=HD_10.out 0 (by simp)
  have qD_1:=HD_10.out 1 (by simp)
  have qD_2:=HD_10.out 2 (by simp)
  have qD_3:=HD_10.out 3 (by simp)
  have qD_4:=HD_10.out 4 (by simp)
  have qD_5:=HD_10.out 5 (by simp)
  have lD:w.heap.size+1 < w1.heap.size:=by omega
  simp only [List.getElem_cons_succ,List.getElem_cons_zero] at qD_0 qD_1 qD_2 qD_3 qD_4 qD_5
  cases lb with
  | false =>
    have HF:=hd' (show I=false from HI.out.trans (dok_led HLb.out.symm))
    go_wp2_with fail
    go_ret
    exact ⟨ret_bool (a:=false) HF.out.symm,Hbel_8.out⟩
  | true =>
  by_cases h1:id < 0
  · have h1p:decide (id < 0)=true:=by simp;omega
    have HF:=hd' (show I=false from HI.out.trans (dok_id (by unfold devB;simp;omega)))
    go_wp2_with fail
    go_ret
    exact ⟨ret_bool (a:=false) HF.out.symm,Hbel_8.out⟩
  have h1n:0≤id:=by omega
  have h1d:decide (id < 0)=false:=by simp;omega
  by_cases h2:4≤id
  · have h2p:decide (4≤id)=true:=by simp;omega
    have HF:=hd' (show I=false from HI.out.trans (dok_id (by unfold devB;simp;omega)))
    go_wp2_with fail
    go_ret
    exact ⟨ret_bool (a:=false) HF.out.symm,Hbel_8.out⟩
  have h2n:id < 4:=by omega
  have h2d:decide (4≤id)=false:=by simp;omega
  have HId:=hd' (show devB id=true by unfold devB;simp;omega)
  go_wp2_with fail
  refine (HTo.out w1 Hbel_8.out).mono ?_
  rintro e w2 ⟨rfl,hb⟩
  clear qD_0 qD_1 qD_2 qD_3 qD_4 qD_5 lD
  have z_11:=hb.size
  have Hbel_12:=hd' (Hbel_8.out.trans (hb.mono (by omega)))
  have HL_13:=hd' (HL_9.out.below hb (by omega))
  have HD_14:=hd' (HD_10.out.below hb (by omega))
  clear Hbel_8 HL_9 HD_10
  clear hb
  have qD_0:=HD_14.out 0 (by simp)
  have qD_1:=HD_14.out 1 (by simp)
  have qD_2:=HD_14.out 2 (by simp)
  have qD_3:=HD_14.out 3 (by simp)
  have qD_4:=HD_14.out 4 (by simp)
  have qD_5:=HD_14.out 5 (by simp)
  have lD:w.heap.size+1 < w2.heap.size:=by omega
  simp only [List.getElem_cons_succ,List.getElem_cons_zero] at qD_0 qD_1 qD_2 qD_3 qD_4 qD_5
  cases tb with
  | false =>
    have HF:=hd' (show I=false from HI.out.trans (dok_tree HTb.out.symm))
    go_wp2_with fail
    go_ret
    exact ⟨ret_bool (a:=false) HF.out.symm,Hbel_12.out⟩
  | true =>
  by_cases h3:(4:Int) < (hs.length:Int)
  · have h3p:decide ((4:Int) < (hs.length:Int))=true:=by simp;omega
    have HF:=hd' (show I=false from HI.out.trans (dok_len (by omega)))
    go_wp2_with fail
    go_ret
    exact ⟨ret_bool (a:=false) HF.out.symm,Hbel_12.out⟩
  have h3n:¬ (4:Int) < (hs.length:Int):=by omega
  have h3d:decide ((4:Int) < (hs.length:Int))=false:=by simp;omega
  by_cases e2:ps.length=2
  case neg =>
    have hi:((ps.length:Int) == 2)=false:=by rw [beq_eq_false_iff_ne];omega
    have HAl:=hd' (show (true == decide (ps.length=2))=false by simp [e2])
    have HE2:=hd' e2
    clear e2
    have HF:=hd' (show I=false from HI.out.trans (dok_al HAl.out))
    go_wp2_with fail
    go_ret
    exact ⟨ret_bool (a:=false) HF.out.symm,Hbel_12.out⟩
  have hi:((ps.length:Int) == 2)=true:=by rw [e2];rfl
  have hl2:decide ((2:Int) < (ps.length:Int))=false:=by simp;omega
  have HAl:=hd' (show (true == decide (ps.length=2))=true by simp [e2])
  have HE2:=hd' e2
  clear e2
  have HPl:=hd' (show ps.length≤2 by have:=HE2.out;omega)
  obtain ⟨va,vb,vc,vd,hvec⟩:=list4 (treeB_vec0 HTb.out.symm)
  subst hvec
  go_wp2_with fail
  clear qD_0 qD_1 qD_2 qD_3 qD_4 qD_5 lD
  clear hi h3 h1 h2 h1d h2d h3d hl2
  go_loopw [5] (fun i wr=>∃k:Nat,k≤hs.length∧i=.int .i64 k∧(∀j,j < k→hdsB ts hs [va,vb,vc,vd] j=true)∧Below w2.heap.size w2 wr) (fun i _=>hs.length - (intOf i).toNat)
  case atStart=>exact ⟨0,Nat.zero_le _,rfl,fun j h=>absurd h (by omega),Below.refl _ _⟩
  case round =>
    obtain ⟨k,hk,rfl,hok,hbel⟩:=hrel
    have hbelW:=hbel
    have HOk:=hd' hok
    clear hok
    have z_15:=hbel.size
    have Hbel_16:=hd' (Hbel_12.out.trans (hbel.mono (by omega)))
    have HL_17:=hd' (HL_13.out.below hbel (by omega))
    have HD_18:=hd' (HD_14.out.below hbel (by omega))
    clear Hbel_12 HL_13 HD_14
    clear hbel
    by_cases hkl:k < hs.length
    · have hle:=one_le_mbulk hs k hkl
      obtain ⟨bA,oA,rfl,_,hbA,hcH⟩:=HH.out (by omega)
      have hcw:=fun i (hi:i < hs.length)=>(hcH i hi).keep (w':=wr) (Nat.zero_le _) hbA (fun p _ hp=>Hbel_16.out.cell hp)
      obtain ⟨AVm,cvm,Am,cm,d0,d1,d2,d3,d4,d5,hv0,he0,hcm⟩:=hcw k hkl
      have HPrev:=hd' (fun i (hi:i < hs.length)=>show wr.cell? ⟨bA,oA+i*6,none⟩=some (.int .i64 hs[i].au) from by obtain ⟨_,_,_,_,q,_⟩:=hcw i hi;exact q)
      have HHd:=hd' (show hdsB ts hs [va,vb,vc,vd] k=(manB hs[k].au hs[k].sq hs[k].pv hs[k].vec hs[k].es hs[k].sg && mkB ts hs[k].au hs[k].sq hs[k].pv hs[k].vec hs[k].es hs[k].sg && (decide (k=0) || decide ((hs.getD (k - 1) default).au < hs[k].au)) && belVV hs[k].vec [va,vb,vc,vd]) by unfold hdsB;rw [getD_at hkl])
      obtain ⟨m,hm⟩:∃m,m=hs[k]:=⟨_,rfl⟩
      rw [←hm] at d0 d1 d2 d3 d4 d5 hv0 he0 hle hcm HHd
      clear hcH hcw hm
      obtain ⟨au,sq,pv,mv,me,sg⟩:=m
      simp only at d0 d1 d2 d3 d4 d5 hv0 he0 hle hcm HHd
      have HV0:=hd' hv0
      have HE0:=hd' he0
      clear hv0 he0
      have hk':(k:Int) < (hs.length:Int):=by omega
      have lA:bA < wr.heap.size:=by omega
      have HBelr:=hd' (Hbel_16.out)
      have HBl0:=hd' hbelW
      have HMo:=hd' (fun X (hX:Below wr.heap.size wr X)=>specManifestOk_any au sq pv AVm mv cvm Am me cm sg X ((HV0.out.keep fun p _ hp=>hX.cell (by omega)).mono (by have:=hX.size;omega)) ((HE0.out.keep fun p _ hp=>hX.cell (by omega)).mono (by have:=hX.size;omega)) (by omega) (by omega) (by omega) hcm)
      obtain ⟨mb,hmb⟩:∃b,b=manB au sq pv mv me sg:=⟨_,rfl⟩
      have HMb:=hd' hmb
      rw [←hmb] at HMo HHd
      clear hmb
      have qD_0:=HD_18.out 0 (by simp)
      have qD_1:=HD_18.out 1 (by simp)
      have qD_2:=HD_18.out 2 (by simp)
      have qD_3:=HD_18.out 3 (by simp)
      have qD_4:=HD_18.out 4 (by simp)
      have qD_5:=HD_18.out 5 (by simp)
      have lD:w.heap.size+1 < wr.heap.size:=by omega
      simp only [List.getElem_cons_succ,List.getElem_cons_zero] at qD_0 qD_1 qD_2 qD_3 qD_4 qD_5
      go_upto_region 7 with fail
      clear d0 d1 d2 d3 d4 d5
      clear qD_0 qD_1 qD_2 qD_3 qD_4 qD_5 lD
      have hbw:Below wr.heap.size wr wr:=Below.refl _ _
      obtain ⟨W19_0,hW19_0⟩:∃x,x=wr.alloc (.cells #[.int .i64 au,.int .i64 sq,.int .i64 pv,.slice AVm mv.length cvm,.slice Am me.length cm,.int .i64 sg] 40):=⟨_,rfl⟩
      have hZ19_0:W19_0.heap.size=wr.heap.size+1:=by rw [hW19_0];simp
      have hx0:Bx W19_0 (wr.heap.size) [.int .i64 au,.int .i64 sq,.int .i64 pv,.slice AVm mv.length cvm,.slice Am me.length cm,.int .i64 sg]:=by rw [hW19_0];exact Bx.new' _ _ _ _ rfl
      have hb0:Below wr.heap.size wr W19_0:=by rw [hW19_0];exact ((Below.refl _ _).alloc (by first|exact Nat.le_refl _|(simp;done)|(simp;omega)) _)
      have hlt:wr.heap.size+0 < W19_0.heap.size:=by omega
      have HBw4:=hd' hb0
      have HBl:=hd' (HBl0.out.trans (hb0.mono (by have:=HBl0.out.size;omega)))
      rw [←hW19_0]
      clear hW19_0 hZ19_0
      have z_20:=hb0.size
      have Hbel_21:=hd' (Hbel_16.out.trans (hb0.mono (by omega)))
      have HL_22:=hd' (HL_17.out.below hb0 (by omega))
      have HD_23:=hd' (HD_18.out.below hb0 (by omega))
      clear Hbel_16 HL_17 HD_18
      have HM_24:=hd' (hx0)
      clear hb0 hx0
      have hl_25:=hlt
      clear hlt
      have HBx:=hd' (fun x:Kp W19_0=>show Below wr.heap.size wr x.val from HBw4.out.trans (x.ok.mono (by omega)))
      cases mb with
      | false =>
        have HF:=hd' (show I=false from HI.out.trans (dok_bad hkl (by rw [HHd.out];rfl)))
        have gL0:=fun x:Kp W19_0=>x.cell (HL_22.out 0 (by simp))
        have gD0:=fun x:Kp W19_0=>x.cell (HD_23.out 0 (by simp))
        have gD1:=fun x:Kp W19_0=>x.cell (HD_23.out 1 (by simp))
        have gD2:=fun x:Kp W19_0=>x.cell (HD_23.out 2 (by simp))
        have gD3:=fun x:Kp W19_0=>x.cell (HD_23.out 3 (by simp))
        have gD4:=fun x:Kp W19_0=>x.cell (HD_23.out 4 (by simp))
        have gD5:=fun x:Kp W19_0=>x.cell (HD_23.out 5 (by simp))
        have gM0:=fun x:Kp W19_0=>x.cell (HM_24.out 0 (by simp))
        have gM1:=fun x:Kp W19_0=>x.cell (HM_24.out 1 (by simp))
        have gM2:=fun x:Kp W19_0=>x.cell (HM_24.out 2 (by simp))
        have gM3:=fun x:Kp W19_0=>x.cell (HM_24.out 3 (by simp))
        have gM4:=fun x:Kp W19_0=>x.cell (HM_24.out 4 (by simp))
        have gM5:=fun x:Kp W19_0=>x.cell (HM_24.out 5 (by simp))
        simp only [List.getElem_cons_succ,List.getElem_cons_zero] at gD0 gM0 gD1 gM1 gD2 gM2 gD3 gM3 gD4 gM4 gD5 gM5 gL0
        refine wp_region_kept (by kernel_rfl) (by kernel_rfl) ?_
        repeat (go_big_quiet_step ((first|(go_at_call 55;exact kept_of (v:=.bool _) (HMo.out _ (HBx.out _))))))
        refine wpQuiet_nil ?_
        rintro _ ⟨x,rfl⟩
        obtain ⟨w7,hw7⟩:∃w7,w7=x.val:=⟨_,rfl⟩
        have HB7:=hd' (show Below W19_0.heap.size W19_0 w7 by rw [hw7];exact x.ok)
        rw [←hw7]
        clear hw7 x gL0 gD0 gM0 gD1 gM1 gD2 gM2 gD3 gM3 gD4 gM4 gD5 gM5
        go_wp2_with fail
        go_ret
        exact ⟨ret_bool (a:=false) HF.out.symm,Hbel_21.out.trans (HB7.out.mono (by omega))⟩
      | true =>
      obtain ⟨y0,y1,y2,y3,hmv⟩:=list4 (treeB_vec0 (manB_tree HMb.out.symm))
      subst hmv
      have hsd:=manB_said HMb.out.symm
      have HSg0:=hd' (fun X (hX:Below wr.heap.size wr X)=>l4sigOk_any AL ts cL au sq pv AVm [y0,y1,y2,y3] cvm Am me cm sg X ((HT.out.keep fun p _ hp=>(hX.cell (by omega)).trans (HBelr.out.cell hp)).mono (by have:=hX.size;omega)) ht ((HV0.out.keep fun p _ hp=>hX.cell (by omega)).mono (by have:=hX.size;omega)) ((HE0.out.keep fun p _ hp=>hX.cell (by omega)).mono (by have:=hX.size;omega)) (by simp) (by omega) (by omega) (treeB_names0 (manB_tree HMb.out.symm)))
      obtain ⟨sb,hsb⟩:∃b,b=mkB ts au sq pv [y0,y1,y2,y3] me sg:=⟨_,rfl⟩
      rw [←hsb] at HSg0 HHd
      clear hsb
      have HSg:=hd' (fun x:Kp W19_0=>HSg0.out x.val (HBx.out x))
      obtain ⟨bb,hbb⟩:∃b,b=belB y0 y1 y2 y3 va vb vc vd:=⟨_,rfl⟩
      have HHb:=hd' (show belVV [y0,y1,y2,y3] [va,vb,vc,vd]=bb from hbb.symm)
      rw [HHb.out] at HHd
      have HBe:=hd' (fun x:Kp W19_0=>hbb ▸ l3below_any AVm AV y0 y1 y2 y3 va vb vc vd cvm cv x.val ((HV0.out.keep fun p _ hp=>(HBx.out x).cell (by omega)).mono (by have:=(HBx.out x).size;omega)) ((HV.out.keep fun p _ hp=>((HBx.out x).cell (by omega)).trans (HBelr.out.cell hp)).mono (by have:=(HBx.out x).size;omega)))
      clear hbb HSg0
      cases sb with
      | false =>
        have HF:=hd' (show I=false from HI.out.trans (dok_bad hkl (by rw [HHd.out];rfl)))
        have gL0:=fun x:Kp W19_0=>x.cell (HL_22.out 0 (by simp))
        have gD0:=fun x:Kp W19_0=>x.cell (HD_23.out 0 (by simp))
        have gD1:=fun x:Kp W19_0=>x.cell (HD_23.out 1 (by simp))
        have gD2:=fun x:Kp W19_0=>x.cell (HD_23.out 2 (by simp))
        have gD3:=fun x:Kp W19_0=>x.cell (HD_23.out 3 (by simp))
        have gD4:=fun x:Kp W19_0=>x.cell (HD_23.out 4 (by simp))
        have gD5:=fun x:Kp W19_0=>x.cell (HD_23.out 5 (by simp))
        have gM0:=fun x:Kp W19_0=>x.cell (HM_24.out 0 (by simp))
        have gM1:=fun x:Kp W19_0=>x.cell (HM_24.out 1 (by simp))
        have gM2:=fun x:Kp W19_0=>x.cell (HM_24.out 2 (by simp))
        have gM3:=fun x:Kp W19_0=>x.cell (HM_24.out 3 (by simp))
        have gM4:=fun x:Kp W19_0=>x.cell (HM_24.out 4 (by simp))
        have gM5:=fun x:Kp W19_0=>x.cell (HM_24.out 5 (by simp))
        simp only [List.getElem_cons_succ,List.getElem_cons_zero] at gD0 gM0 gD1 gM1 gD2 gM2 gD3 gM3 gD4 gM4 gD5 gM5 gL0
        refine wp_region_kept (by kernel_rfl) (by kernel_rfl) ?_
        repeat (go_big_quiet_step ((first|(go_at_call 55;exact kept_of (v:=.bool _) (HMo.out _ (HBx.out _)))|(go_at_call 76;exact kept_of (v:=.bool _) (HSg.out _)))))
        refine wpQuiet_nil ?_
        rintro _ ⟨x,rfl⟩
        obtain ⟨w7,hw7⟩:∃w7,w7=x.val:=⟨_,rfl⟩
        have HB7:=hd' (show Below W19_0.heap.size W19_0 w7 by rw [hw7];exact x.ok)
        rw [←hw7]
        clear hw7 x gL0 gD0 gM0 gD1 gM1 gD2 gM2 gD3 gM3 gD4 gM4 gD5 gM5
        go_wp2_with fail
        go_ret
        exact ⟨ret_bool (a:=false) HF.out.symm,Hbel_21.out.trans (HB7.out.mono (by omega))⟩
      | true =>
      by_cases hk0:k=0
      · subst hk0
        cases bb with
        | false =>
          have HF:=hd' (show I=false from HI.out.trans (dok_bad hkl (by rw [HHd.out];simp)))
          have gL0:=fun x:Kp W19_0=>x.cell (HL_22.out 0 (by simp))
          have gD0:=fun x:Kp W19_0=>x.cell (HD_23.out 0 (by simp))
          have gD1:=fun x:Kp W19_0=>x.cell (HD_23.out 1 (by simp))
          have gD2:=fun x:Kp W19_0=>x.cell (HD_23.out 2 (by simp))
          have gD3:=fun x:Kp W19_0=>x.cell (HD_23.out 3 (by simp))
          have gD4:=fun x:Kp W19_0=>x.cell (HD_23.out 4 (by simp))
          have gD5:=fun x:Kp W19_0=>x.cell (HD_23.out 5 (by simp))
          have gM0:=fun x:Kp W19_0=>x.cell (HM_24.out 0 (by simp))
          have gM1:=fun x:Kp W19_0=>x.cell (HM_24.out 1 (by simp))
          have gM2:=fun x:Kp W19_0=>x.cell (HM_24.out 2 (by simp))
          have gM3:=fun x:Kp W19_0=>x.cell (HM_24.out 3 (by simp))
          have gM4:=fun x:Kp W19_0=>x.cell (HM_24.out 4 (by simp))
          have gM5:=fun x:Kp W19_0=>x.cell (HM_24.out 5 (by simp))
          simp only [List.getElem_cons_succ,List.getElem_cons_zero] at gD0 gM0 gD1 gM1 gD2 gM2 gD3 gM3 gD4 gM4 gD5 gM5 gL0
          refine wp_region_kept (by kernel_rfl) (by kernel_rfl) ?_
          repeat (go_big_quiet_step ((first|(go_at_call 55;exact kept_of (v:=.bool _) (HMo.out _ (HBx.out _)))|(go_at_call 76;exact kept_of (v:=.bool _) (HSg.out _))|(go_at_call 77;exact kept_of (v:=.bool _) (HBe.out _)))))
          refine wpQuiet_nil ?_
          rintro _ ⟨x,rfl⟩
          obtain ⟨w7,hw7⟩:∃w7,w7=x.val:=⟨_,rfl⟩
          have HB7:=hd' (show Below W19_0.heap.size W19_0 w7 by rw [hw7];exact x.ok)
          rw [←hw7]
          clear hw7 x gL0 gD0 gM0 gD1 gM1 gD2 gM2 gD3 gM3 gD4 gM4 gD5 gM5
          go_wp2_with fail
          go_ret
          exact ⟨ret_bool (a:=false) HF.out.symm,Hbel_21.out.trans (HB7.out.mono (by omega))⟩
        | true =>
          have HM:=hd' (show hdsB ts hs [va,vb,vc,vd] 0=true by rw [HHd.out];simp)
          have gL0:=fun x:Kp W19_0=>x.cell (HL_22.out 0 (by simp))
          have gD0:=fun x:Kp W19_0=>x.cell (HD_23.out 0 (by simp))
          have gD1:=fun x:Kp W19_0=>x.cell (HD_23.out 1 (by simp))
          have gD2:=fun x:Kp W19_0=>x.cell (HD_23.out 2 (by simp))
          have gD3:=fun x:Kp W19_0=>x.cell (HD_23.out 3 (by simp))
          have gD4:=fun x:Kp W19_0=>x.cell (HD_23.out 4 (by simp))
          have gD5:=fun x:Kp W19_0=>x.cell (HD_23.out 5 (by simp))
          have gM0:=fun x:Kp W19_0=>x.cell (HM_24.out 0 (by simp))
          have gM1:=fun x:Kp W19_0=>x.cell (HM_24.out 1 (by simp))
          have gM2:=fun x:Kp W19_0=>x.cell (HM_24.out 2 (by simp))
          have gM3:=fun x:Kp W19_0=>x.cell (HM_24.out 3 (by simp))
          have gM4:=fun x:Kp W19_0=>x.cell (HM_24.out 4 (by simp))
          have gM5:=fun x:Kp W19_0=>x.cell (HM_24.out 5 (by simp))
          simp only [List.getElem_cons_succ,List.getElem_cons_zero] at gD0 gM0 gD1 gM1 gD2 gM2 gD3 gM3 gD4 gM4 gD5 gM5 gL0
          refine wp_region_kept (by kernel_rfl) (by kernel_rfl) ?_
          repeat (go_big_quiet_step ((first|(go_at_call 55;exact kept_of (v:=.bool _) (HMo.out _ (HBx.out _)))|(go_at_call 76;exact kept_of (v:=.bool _) (HSg.out _))|(go_at_call 77;exact kept_of (v:=.bool _) (HBe.out _)))))
          refine wpQuiet_nil ?_
          rintro _ ⟨x,rfl⟩
          obtain ⟨w7,hw7⟩:∃w7,w7=x.val:=⟨_,rfl⟩
          have HB7:=hd' (show Below W19_0.heap.size W19_0 w7 by rw [hw7];exact x.ok)
          rw [←hw7]
          clear hw7 x gL0 gD0 gM0 gD1 gM1 gD2 gM2 gD3 gM3 gD4 gM4 gD5 gM5
          have hz7:=HB7.out.size
          go_wp2_with fail
          go_roundw
          case rel =>
            refine ⟨0+1,by omega,by go_num,fun i hi=>?_,HBl.out.trans (HB7.out.mono (by omega))⟩
            by_cases ei:i=0
            · rw [ei];exact HM.out
            · exact HOk.out i (by omega)
          case measure=>simp [intOf];omega
      · obtain ⟨j,rfl⟩:∃j,k=j+1:=⟨k - 1,by omega⟩
        obtain ⟨pa,hpa⟩:∃a,a=hs[j].au:=⟨_,rfl⟩
        have hgp:W19_0.cell? ⟨bA,oA+j*6,none⟩=some (.int .i64 pa):=(HBw4.out.cell (p:=⟨bA,oA+j*6,none⟩) lA).trans (by rw [hpa];exact HPrev.out j (by omega))
        have HGp:=hd' hgp
        have hgd:(hs.getD (j+1 - 1) default).au=pa:=by rw [Nat.add_sub_cancel,getD_at (by omega)];exact hpa.symm
        rw [hgd] at HHd
        have hj0:(0:Int) < ((j+1:Nat):Int):=by omega
        have hj1:(j:Int) < (hs.length:Int):=by omega
        have hj2:((j+1:Nat):Int) - 1=(j:Int):=by omega
        clear hpa hgd hk0 hgp
        by_cases hlt:au≤pa
        · have HF:=hd' (show I=false from HI.out.trans (dok_bad hkl (by rw [HHd.out];simp;omega)))
          have gL0:=fun x:Kp W19_0=>x.cell (HL_22.out 0 (by simp))
          have gD0:=fun x:Kp W19_0=>x.cell (HD_23.out 0 (by simp))
          have gD1:=fun x:Kp W19_0=>x.cell (HD_23.out 1 (by simp))
          have gD2:=fun x:Kp W19_0=>x.cell (HD_23.out 2 (by simp))
          have gD3:=fun x:Kp W19_0=>x.cell (HD_23.out 3 (by simp))
          have gD4:=fun x:Kp W19_0=>x.cell (HD_23.out 4 (by simp))
          have gD5:=fun x:Kp W19_0=>x.cell (HD_23.out 5 (by simp))
          have gM0:=fun x:Kp W19_0=>x.cell (HM_24.out 0 (by simp))
          have gM1:=fun x:Kp W19_0=>x.cell (HM_24.out 1 (by simp))
          have gM2:=fun x:Kp W19_0=>x.cell (HM_24.out 2 (by simp))
          have gM3:=fun x:Kp W19_0=>x.cell (HM_24.out 3 (by simp))
          have gM4:=fun x:Kp W19_0=>x.cell (HM_24.out 4 (by simp))
          have gM5:=fun x:Kp W19_0=>x.cell (HM_24.out 5 (by simp))
          simp only [List.getElem_cons_succ,List.getElem_cons_zero] at gD0 gM0 gD1 gM1 gD2 gM2 gD3 gM3 gD4 gM4 gD5 gM5 gL0
          have gP:=fun x:Kp W19_0=>x.cell HGp.out
          refine wp_region_kept (by kernel_rfl) (by kernel_rfl) ?_
          repeat (go_big_quiet_step ((first|(go_at_call 55;exact kept_of (v:=.bool _) (HMo.out _ (HBx.out _)))|(go_at_call 76;exact kept_of (v:=.bool _) (HSg.out _))|(go_at_call 77;exact kept_of (v:=.bool _) (HBe.out _)))))
          refine wpQuiet_nil ?_
          rintro _ ⟨x,rfl⟩
          obtain ⟨w7,hw7⟩:∃w7,w7=x.val:=⟨_,rfl⟩
          have HB7:=hd' (show Below W19_0.heap.size W19_0 w7 by rw [hw7];exact x.ok)
          rw [←hw7]
          clear hw7 x gL0 gD0 gM0 gD1 gM1 gD2 gM2 gD3 gM3 gD4 gM4 gD5 gM5 gP
          go_wp2_with fail
          go_ret
          exact ⟨ret_bool (a:=false) HF.out.symm,Hbel_21.out.trans (HB7.out.mono (by omega))⟩
        have hltn:¬ au≤pa:=hlt
        cases bb with
        | false =>
          have HF:=hd' (show I=false from HI.out.trans (dok_bad hkl (by rw [HHd.out];simp)))
          have gL0:=fun x:Kp W19_0=>x.cell (HL_22.out 0 (by simp))
          have gD0:=fun x:Kp W19_0=>x.cell (HD_23.out 0 (by simp))
          have gD1:=fun x:Kp W19_0=>x.cell (HD_23.out 1 (by simp))
          have gD2:=fun x:Kp W19_0=>x.cell (HD_23.out 2 (by simp))
          have gD3:=fun x:Kp W19_0=>x.cell (HD_23.out 3 (by simp))
          have gD4:=fun x:Kp W19_0=>x.cell (HD_23.out 4 (by simp))
          have gD5:=fun x:Kp W19_0=>x.cell (HD_23.out 5 (by simp))
          have gM0:=fun x:Kp W19_0=>x.cell (HM_24.out 0 (by simp))
          have gM1:=fun x:Kp W19_0=>x.cell (HM_24.out 1 (by simp))
          have gM2:=fun x:Kp W19_0=>x.cell (HM_24.out 2 (by simp))
          have gM3:=fun x:Kp W19_0=>x.cell (HM_24.out 3 (by simp))
          have gM4:=fun x:Kp W19_0=>x.cell (HM_24.out 4 (by simp))
          have gM5:=fun x:Kp W19_0=>x.cell (HM_24.out 5 (by simp))
          simp only [List.getElem_cons_succ,List.getElem_cons_zero] at gD0 gM0 gD1 gM1 gD2 gM2 gD3 gM3 gD4 gM4 gD5 gM5 gL0
          have gP:=fun x:Kp W19_0=>x.cell HGp.out
          refine wp_region_kept (by kernel_rfl) (by kernel_rfl) ?_
          repeat (go_big_quiet_step ((first|(go_at_call 55;exact kept_of (v:=.bool _) (HMo.out _ (HBx.out _)))|(go_at_call 76;exact kept_of (v:=.bool _) (HSg.out _))|(go_at_call 77;exact kept_of (v:=.bool _) (HBe.out _)))))
          refine wpQuiet_nil ?_
          rintro _ ⟨x,rfl⟩
          obtain ⟨w7,hw7⟩:∃w7,w7=x.val:=⟨_,rfl⟩
          have HB7:=hd' (show Below W19_0.heap.size W19_0 w7 by rw [hw7];exact x.ok)
          rw [←hw7]
          clear hw7 x gL0 gD0 gM0 gD1 gM1 gD2 gM2 gD3 gM3 gD4 gM4 gD5 gM5 gP
          go_wp2_with fail
          go_ret
          exact ⟨ret_bool (a:=false) HF.out.symm,Hbel_21.out.trans (HB7.out.mono (by omega))⟩
        | true =>
          have HM:=hd' (show hdsB ts hs [va,vb,vc,vd] (j+1)=true by rw [HHd.out];simp;omega)
          have gL0:=fun x:Kp W19_0=>x.cell (HL_22.out 0 (by simp))
          have gD0:=fun x:Kp W19_0=>x.cell (HD_23.out 0 (by simp))
          have gD1:=fun x:Kp W19_0=>x.cell (HD_23.out 1 (by simp))
          have gD2:=fun x:Kp W19_0=>x.cell (HD_23.out 2 (by simp))
          have gD3:=fun x:Kp W19_0=>x.cell (HD_23.out 3 (by simp))
          have gD4:=fun x:Kp W19_0=>x.cell (HD_23.out 4 (by simp))
          have gD5:=fun x:Kp W19_0=>x.cell (HD_23.out 5 (by simp))
          have gM0:=fun x:Kp W19_0=>x.cell (HM_24.out 0 (by simp))
          have gM1:=fun x:Kp W19_0=>x.cell (HM_24.out 1 (by simp))
          have gM2:=fun x:Kp W19_0=>x.cell (HM_24.out 2 (by simp))
          have gM3:=fun x:Kp W19_0=>x.cell (HM_24.out 3 (by simp))
          have gM4:=fun x:Kp W19_0=>x.cell (HM_24.out 4 (by simp))
          have gM5:=fun x:Kp W19_0=>x.cell (HM_24.out 5 (by simp))
          simp only [List.getElem_cons_succ,List.getElem_cons_zero] at gD0 gM0 gD1 gM1 gD2 gM2 gD3 gM3 gD4 gM4 gD5 gM5 gL0
          have gP:=fun x:Kp W19_0=>x.cell HGp.out
          refine wp_region_kept (by kernel_rfl) (by kernel_rfl) ?_
          repeat (go_big_quiet_step ((first|(go_at_call 55;exact kept_of (v:=.bool _) (HMo.out _ (HBx.out _)))|(go_at_call 76;exact kept_of (v:=.bool _) (HSg.out _))|(go_at_call 77;exact kept_of (v:=.bool _) (HBe.out _)))))
          refine wpQuiet_nil ?_
          rintro _ ⟨x,rfl⟩
          obtain ⟨w7,hw7⟩:∃w7,w7=x.val:=⟨_,rfl⟩
          have HB7:=hd' (show Below W19_0.heap.size W19_0 w7 by rw [hw7];exact x.ok)
          rw [←hw7]
          clear hw7 x gL0 gD0 gM0 gD1 gM1 gD2 gM2 gD3 gM3 gD4 gM4 gD5 gM5 gP
          have hz7:=HB7.out.size
          go_wp2_with fail
          go_roundw
          case rel =>
            refine ⟨(j+1)+1,by omega,by go_num,fun i hi=>?_,HBl.out.trans (HB7.out.mono (by omega))⟩
            by_cases ei:i=(j+1)
            · rw [ei];exact HM.out
            · exact HOk.out i (by omega)
          case measure=>simp [intOf];omega
    · have hke:¬ k < hs.length:=hkl
      have HF:=hd' (show I=prfB ts true ps from HI.out.trans (dok_end HLb.out.symm HId.out HTb.out.symm (by omega) HAl.out HPl.out fun i hi=>HOk.out i (by omega)))
      have qD_0:=HD_18.out 0 (by simp)
      have qD_1:=HD_18.out 1 (by simp)
      have qD_2:=HD_18.out 2 (by simp)
      have qD_3:=HD_18.out 3 (by simp)
      have qD_4:=HD_18.out 4 (by simp)
      have qD_5:=HD_18.out 5 (by simp)
      have lD:w.heap.size+1 < wr.heap.size:=by omega
      have qL_0:=HL_17.out 0 (by simp)
      have lL:w.heap.size < wr.heap.size:=by omega
      simp only [List.getElem_cons_succ,List.getElem_cons_zero] at qD_0 qD_1 qD_2 qD_3 qD_4 qD_5 qL_0
      have h2:ps.length=2:=HE2.out
      obtain ⟨bP,oP,rfl,_,hbP,hcP⟩:=HP.out (by omega)
      obtain ⟨m0,hm0⟩:∃m,m=ps[0]:=⟨_,rfl⟩
      have hle0:=one_le_mbulk ps 0 (by omega)
      obtain ⟨AV0,cv0,A0,c0,d00,d01,d02,d03,d04,d05,hv0,he0,hcc0⟩:=(hcP 0 (by omega)).keep (w':=wr) (Nat.zero_le _) hbP (fun p _ hp=>Hbel_16.out.cell hp)
      rw [←hm0] at d00 d01 d02 d03 d04 d05 hv0 he0 hle0 hcc0
      have HV0:=hd' hv0
      have HE0:=hd' he0
      obtain ⟨m1,hm1⟩:∃m,m=ps[1]:=⟨_,rfl⟩
      have hle1:=one_le_mbulk ps 1 (by omega)
      obtain ⟨AV1,cv1,A1,c1,d10,d11,d12,d13,d14,d15,hv1,he1,hcc1⟩:=(hcP 1 (by omega)).keep (w':=wr) (Nat.zero_le _) hbP (fun p _ hp=>Hbel_16.out.cell hp)
      rw [←hm1] at d10 d11 d12 d13 d14 d15 hv1 he1 hle1 hcc1
      have HV1:=hd' hv1
      have HE1:=hd' he1
      simp only [Nat.zero_mul,Nat.one_mul,Nat.add_zero] at d00 d01 d02 d03 d04 d05 d10 d11 d12 d13 d14 d15
      have HFk:=hd' (show I=frkB ts m0.au m0.sq m0.pv m0.vec m0.es m0.sg m1.au m1.sq m1.pv m1.vec m1.es m1.sg by rw [HF.out,hm0,hm1,←getD_at (show 0 < ps.length by omega),←getD_at (show 1 < ps.length by omega)];rfl)
      have hi0:(0:Int) < (ps.length:Int):=by omega
      have hi1:(1:Int) < (ps.length:Int):=by omega
      have hn0:0 < ps.length:=by omega
      have hn1:1 < ps.length:=by omega
      have hnn:ps≠[]:=by rintro rfl;simp at hn0
      have HFo:=hd' (fun x:Kp wr=>specForked_any AL ts cL m0.au m0.sq m0.pv AV0 m0.vec cv0 A0 m0.es c0 m0.sg m1.au m1.sq m1.pv AV1 m1.vec cv1 A1 m1.es c1 m1.sg x.val ((HT.out.keep fun p _ hp=>(kp_hold Hbel_16.out x).cell hp).mono (kp_hold Hbel_16.out x).size) ht htb_ ((HV0.out.keep fun p _ hp=>x.ok.cell (by omega)).mono (by have:=x.ok.size;omega)) ((HE0.out.keep fun p _ hp=>x.ok.cell (by omega)).mono (by have:=x.ok.size;omega)) (by omega) (by omega) (by omega) ((HV1.out.keep fun p _ hp=>x.ok.cell (by omega)).mono (by have:=x.ok.size;omega)) ((HE1.out.keep fun p _ hp=>x.ok.cell (by omega)).mono (by have:=x.ok.size;omega)) (by omega) (by omega) (by omega) hcc0 hcc1)
      go_upto_region 10 with fail
      have p00:=fun x:Kp wr=>x.cell d00
      have p01:=fun x:Kp wr=>x.cell d01
      have p02:=fun x:Kp wr=>x.cell d02
      have p03:=fun x:Kp wr=>x.cell d03
      have p04:=fun x:Kp wr=>x.cell d04
      have p05:=fun x:Kp wr=>x.cell d05
      have p10:=fun x:Kp wr=>x.cell d10
      have p11:=fun x:Kp wr=>x.cell d11
      have p12:=fun x:Kp wr=>x.cell d12
      have p13:=fun x:Kp wr=>x.cell d13
      have p14:=fun x:Kp wr=>x.cell d14
      have p15:=fun x:Kp wr=>x.cell d15
      have gD0:=fun x:Kp wr=>x.cell (HD_18.out 0 (by simp))
      have gD1:=fun x:Kp wr=>x.cell (HD_18.out 1 (by simp))
      have gD2:=fun x:Kp wr=>x.cell (HD_18.out 2 (by simp))
      have gD3:=fun x:Kp wr=>x.cell (HD_18.out 3 (by simp))
      have gD4:=fun x:Kp wr=>x.cell (HD_18.out 4 (by simp))
      have gD5:=fun x:Kp wr=>x.cell (HD_18.out 5 (by simp))
      have gL0:=fun x:Kp wr=>x.cell (HL_17.out 0 (by simp))
      simp only [List.getElem_cons_succ,List.getElem_cons_zero] at gD0 gD1 gD2 gD3 gD4 gD5 gL0
      clear h2 hm0 hm1 hcP hv0 he0 hv1 he1
      refine wp_region_kept (by kernel_rfl) (by kernel_rfl) ?_
      repeat (go_big_quiet_step ((go_at_call 78;exact kept_of (v:=.bool _) (HFo.out _))))
      refine wpQuiet_nil ?_
      rintro _ ⟨x,rfl⟩
      obtain ⟨w7,hw7⟩:∃w7,w7=x.val:=⟨_,rfl⟩
      have HB7:=hd' (show Below wr.heap.size wr w7 by rw [hw7];exact x.ok)
      rw [←hw7]
      clear hw7 x
      go_wp2_with fail
      go_ret
      exact ⟨ret_bool HFk.out.symm,Hbel_16.out.trans (HB7.out.mono (by omega))⟩
set_option maxHeartbeats 800000 in
theorem specDeviceOk_false (AL:Option Addr) (ts:List Tm) (cL:Nat) (id:Int) (AV:Option Addr) (vec:List Int) (cv:Nat) (A:Option Addr) (es:List En) (c:Nat) (AH:Option Addr) (hs:List Mn) (ch:Nat) (AP:Option Addr) (ps:List Mn) (cp:Nat) (w:World) (hT:TmsIn w 0 w.heap.size AL ts) (ht:ts.length≤1048576) (htb_:bulk ts≤1048576) (hV:IntsIn w 0 w.heap.size AV vec) (hA:EnsIn w 0 w.heap.size A es) (hH:MnsRd w 0 w.heap.size AH hs) (hP:MnsRd w 0 w.heap.size AP ps) (hv:vec.length≤1048576) (hn:es.length≤1048576) (hbk:ebulk es≤1048576) (hhl:hs.length≤1048576) (hhb:mbulk hs≤1048576) (hpl:ps.length≤1048576) (_hpb:mbulk ps≤1048576) (hc:es.length≤c:=by omega) :
    Calls Tryz.prog 25 #[.agg #[.slice AL ts.length cL],.agg #[.int .i64 id,.slice AV vec.length cv,.slice A es.length c,.slice AH hs.length ch,.bool false,.slice AP ps.length cp]] w fun e w'=>e=.returned (.bool (dokB ts id vec es hs false ps))∧Below w.heap.size w w':=by
  have HT:=hd' hT
  have HV:=hd' hV
  have HA:=hd' hA
  have HH:=hd' hH
  have HP:=hd' hP
  clear hV hA hH hP hT
  obtain ⟨I,hI⟩:∃I,I=dokB ts id vec es hs false ps:=⟨_,rfl⟩
  have HI:=hd' hI
  rw [←hI]
  clear hI
  obtain ⟨lb,hlb⟩:∃b,b=lokB ts:=⟨_,rfl⟩
  obtain ⟨tb,htb⟩:∃b,b=treeB vec es:=⟨_,rfl⟩
  have HLb:=hd' hlb
  have HTb:=hd' htb
  have HLo:=hd' (fun X (hX:Below w.heap.size w X)=>hlb ▸ specLedgerOk_any AL ts cL 0 w.heap.size X (HT.out.keep fun p _ hp=>hX.cell hp) hX.size ht htb_)
  have HTo:=hd' (fun X (hX:Below w.heap.size w X)=>htb ▸ specTreeOk_any AV vec cv A es c X ((HV.out.keep fun p _ hp=>hX.cell hp).mono hX.size) ((HA.out.keep fun p _ hp=>hX.cell hp).mono hX.size) hv hn hbk hc)
  clear hlb htb
  go_enter Tryz.func25,Tryz.ntmps25
  go_wp2_with fail
  obtain ⟨W1_0,hW1_0⟩:∃x,x=w.alloc (.cells #[.slice AL ts.length cL] 35):=⟨_,rfl⟩
  obtain ⟨W1_1,hW1_1⟩:∃x,x=W1_0.alloc (.cells #[.int .i64 id,.slice AV vec.length cv,.slice A es.length c,.slice AH hs.length ch,.bool false,.slice AP ps.length cp] 57):=⟨_,rfl⟩
  have hZ1_0:W1_0.heap.size=w.heap.size+1:=by rw [hW1_0];simp
  have hZ1_1:W1_1.heap.size=w.heap.size+2:=by rw [hW1_1];simp [hZ1_0]
  have hx0:Bx W1_0 (w.heap.size) [.slice AL ts.length cL]:=by rw [hW1_0];exact Bx.new' _ _ _ _ rfl
  replace hx0:Bx W1_1 (w.heap.size) [.slice AL ts.length cL]:=by rw [hW1_1];exact hx0.alloc (by omega) _
  have hx1:Bx W1_1 (w.heap.size+1) [.int .i64 id,.slice AV vec.length cv,.slice A es.length c,.slice AH hs.length ch,.bool false,.slice AP ps.length cp]:=by rw [hW1_1,←hZ1_0];exact Bx.new' _ _ _ _ rfl
  have hb0:Below w.heap.size w W1_1:=by rw [hW1_1,hW1_0];exact (((Below.refl _ _).alloc (by first|exact Nat.le_refl _|(simp;done)|(simp;omega)) _).alloc (by first|exact Nat.le_refl _|(simp;done)|(simp;omega)) _)
  have hlt:w.heap.size+1 < W1_1.heap.size:=by omega
  rw [←hW1_0,←hW1_1]
  clear hW1_0 hZ1_0 hW1_1 hZ1_1
  have z_2:=hb0.size
  have Hbel_3:=hd' (hb0)
  have HL_4:=hd' (hx0)
  have HD_5:=hd' (hx1)
  clear hb0 hx0 hx1
  have hl_6:=hlt
  clear hlt
  refine (HLo.out W1_1 Hbel_3.out).mono ?_
  rintro e w1 ⟨rfl,hb⟩
  have z_7:=hb.size
  have Hbel_8:=hd' (Hbel_3.out.trans (hb.mono (by omega)))
  have HL_9:=hd' (HL_4.out.below hb (by omega))
  have HD_10:=hd' (HD_5.out.below hb (by omega))
  clear Hbel_3 HL_4 HD_5
  clear hb
  have qD_0:=HD_10.out 0 (by simp)
  have qD_1:=HD_10.out 1 (by simp)
  have qD_2:=HD_10.out 2 (by simp)
  have qD_3:=HD_10.out 3 (by simp)
  have qD_4:=HD_10.out 4 (by simp)
  have qD_5:=HD_10.out 5 (by simp)
  have lD:w.heap.size+1 < w1.heap.size:=by omega
  simp only [List.getElem_cons_succ,List.getElem_cons_zero] at qD_0 qD_1 qD_2 qD_3 qD_4 qD_5
  cases lb with
  | false =>
    have HF:=hd' (show I=false from HI.out.trans (dok_led HLb.out.symm))
    go_wp2_with fail
    go_ret
    exact ⟨ret_bool (a:=false) HF.out.symm,Hbel_8.out⟩
  | true =>
  by_cases h1:id < 0
  · have h1p:decide (id < 0)=true:=by simp;omega
    have HF:=hd' (show I=false from HI.out.trans (dok_id (by unfold devB;simp;omega)))
    go_wp2_with fail
    go_ret
    exact ⟨ret_bool (a:=false) HF.out.symm,Hbel_8.out⟩
  have h1n:0≤id:=by omega
  have h1d:decide (id < 0)=false:=by simp;omega
  by_cases h2:4≤id
  · have h2p:decide (4≤id)=true:=by simp;omega
    have HF:=hd' (show I=false from HI.out.trans (dok_id (by unfold devB;simp;omega)))
    go_wp2_with fail
    go_ret
    exact ⟨ret_bool (a:=false) HF.out.symm,Hbel_8.out⟩
  have h2n:id < 4:=by omega
  have h2d:decide (4≤id)=false:=by simp;omega
  have HId:=hd' (show devB id=true by unfold devB;simp;omega)
  go_wp2_with fail
  refine (HTo.out w1 Hbel_8.out).mono ?_
  rintro e w2 ⟨rfl,hb⟩
  clear qD_0 qD_1 qD_2 qD_3 qD_4 qD_5 lD
  have z_11:=hb.size
  have Hbel_12:=hd' (Hbel_8.out.trans (hb.mono (by omega)))
  have HL_13:=hd' (HL_9.out.below hb (by omega))
  have HD_14:=hd' (HD_10.out.below hb (by omega))
  clear Hbel_8 HL_9 HD_10
  clear hb
  have qD_0:=HD_14.out 0 (by simp)
  have qD_1:=HD_14.out 1 (by simp)
  have qD_2:=HD_14.out 2 (by simp)
  have qD_3:=HD_14.out 3 (by simp)
  have qD_4:=HD_14.out 4 (by simp)
  have qD_5:=HD_14.out 5 (by simp)
  have lD:w.heap.size+1 < w2.heap.size:=by omega
  simp only [List.getElem_cons_succ,List.getElem_cons_zero] at qD_0 qD_1 qD_2 qD_3 qD_4 qD_5
  cases tb with
  | false =>
    have HF:=hd' (show I=false from HI.out.trans (dok_tree HTb.out.symm))
    go_wp2_with fail
    go_ret
    exact ⟨ret_bool (a:=false) HF.out.symm,Hbel_12.out⟩
  | true =>
  by_cases h3:(4:Int) < (hs.length:Int)
  · have h3p:decide ((4:Int) < (hs.length:Int))=true:=by simp;omega
    have HF:=hd' (show I=false from HI.out.trans (dok_len (by omega)))
    go_wp2_with fail
    go_ret
    exact ⟨ret_bool (a:=false) HF.out.symm,Hbel_12.out⟩
  have h3n:¬ (4:Int) < (hs.length:Int):=by omega
  have h3d:decide ((4:Int) < (hs.length:Int))=false:=by simp;omega
  by_cases e2:ps.length=2
  case pos =>
    have hi:((ps.length:Int) == 2)=true:=by rw [e2];rfl
    have hl2:decide ((2:Int) < (ps.length:Int))=false:=by simp;omega
    have HAl:=hd' (show (false == decide (ps.length=2))=false by simp [e2])
    have HE2:=hd' e2
    clear e2
    have HF:=hd' (show I=false from HI.out.trans (dok_al HAl.out))
    go_wp2_with fail
    go_ret
    exact ⟨ret_bool (a:=false) HF.out.symm,Hbel_12.out⟩
  have hi:((ps.length:Int) == 2)=false:=by rw [beq_eq_false_iff_ne];omega
  have HAl:=hd' (show (false == decide (ps.length=2))=true by simp [e2])
  have HE2:=hd' e2
  clear e2
  by_cases h5:(2:Int) < (ps.length:Int)
  · have h5p:decide ((2:Int) < (ps.length:Int))=true:=by simp;omega
    have HF:=hd' (show I=false from HI.out.trans (dok_two (by omega)))
    go_wp2_with fail
    go_ret
    exact ⟨ret_bool (a:=false) HF.out.symm,Hbel_12.out⟩
  have h5n:¬ (2:Int) < (ps.length:Int):=by omega
  have h5d:decide ((2:Int) < (ps.length:Int))=false:=by simp;omega
  have HPl:=hd' (show ps.length≤2 by have:=HE2.out;omega)
  obtain ⟨va,vb,vc,vd,hvec⟩:=list4 (treeB_vec0 HTb.out.symm)
  subst hvec
  go_wp2_with fail
  clear qD_0 qD_1 qD_2 qD_3 qD_4 qD_5 lD
  clear hi h3 h1 h2 h1d h2d h3d h5 h5n h5d
  go_loopw [5] (fun i wr=>∃k:Nat,k≤hs.length∧i=.int .i64 k∧(∀j,j < k→hdsB ts hs [va,vb,vc,vd] j=true)∧Below w2.heap.size w2 wr) (fun i _=>hs.length - (intOf i).toNat)
  case atStart=>exact ⟨0,Nat.zero_le _,rfl,fun j h=>absurd h (by omega),Below.refl _ _⟩
  case round =>
    obtain ⟨k,hk,rfl,hok,hbel⟩:=hrel
    have hbelW:=hbel
    have HOk:=hd' hok
    clear hok
    have z_15:=hbel.size
    have Hbel_16:=hd' (Hbel_12.out.trans (hbel.mono (by omega)))
    have HL_17:=hd' (HL_13.out.below hbel (by omega))
    have HD_18:=hd' (HD_14.out.below hbel (by omega))
    clear Hbel_12 HL_13 HD_14
    clear hbel
    by_cases hkl:k < hs.length
    · have hle:=one_le_mbulk hs k hkl
      obtain ⟨bA,oA,rfl,_,hbA,hcH⟩:=HH.out (by omega)
      have hcw:=fun i (hi:i < hs.length)=>(hcH i hi).keep (w':=wr) (Nat.zero_le _) hbA (fun p _ hp=>Hbel_16.out.cell hp)
      obtain ⟨AVm,cvm,Am,cm,d0,d1,d2,d3,d4,d5,hv0,he0,hcm⟩:=hcw k hkl
      have HPrev:=hd' (fun i (hi:i < hs.length)=>show wr.cell? ⟨bA,oA+i*6,none⟩=some (.int .i64 hs[i].au) from by obtain ⟨_,_,_,_,q,_⟩:=hcw i hi;exact q)
      have HHd:=hd' (show hdsB ts hs [va,vb,vc,vd] k=(manB hs[k].au hs[k].sq hs[k].pv hs[k].vec hs[k].es hs[k].sg && mkB ts hs[k].au hs[k].sq hs[k].pv hs[k].vec hs[k].es hs[k].sg && (decide (k=0) || decide ((hs.getD (k - 1) default).au < hs[k].au)) && belVV hs[k].vec [va,vb,vc,vd]) by unfold hdsB;rw [getD_at hkl])
      obtain ⟨m,hm⟩:∃m,m=hs[k]:=⟨_,rfl⟩
      rw [←hm] at d0 d1 d2 d3 d4 d5 hv0 he0 hle hcm HHd
      clear hcH hcw hm
      obtain ⟨au,sq,pv,mv,me,sg⟩:=m
      simp only at d0 d1 d2 d3 d4 d5 hv0 he0 hle hcm HHd
      have HV0:=hd' hv0
      have HE0:=hd' he0
      clear hv0 he0
      have hk':(k:Int) < (hs.length:Int):=by omega
      have lA:bA < wr.heap.size:=by omega
      have HBelr:=hd' (Hbel_16.out)
      have HBl0:=hd' hbelW
      have HMo:=hd' (fun X (hX:Below wr.heap.size wr X)=>specManifestOk_any au sq pv AVm mv cvm Am me cm sg X ((HV0.out.keep fun p _ hp=>hX.cell (by omega)).mono (by have:=hX.size;omega)) ((HE0.out.keep fun p _ hp=>hX.cell (by omega)).mono (by have:=hX.size;omega)) (by omega) (by omega) (by omega) hcm)
      obtain ⟨mb,hmb⟩:∃b,b=manB au sq pv mv me sg:=⟨_,rfl⟩
      have HMb:=hd' hmb
      rw [←hmb] at HMo HHd
      clear hmb
      have qD_0:=HD_18.out 0 (by simp)
      have qD_1:=HD_18.out 1 (by simp)
      have qD_2:=HD_18.out 2 (by simp)
      have qD_3:=HD_18.out 3 (by simp)
      have qD_4:=HD_18.out 4 (by simp)
      have qD_5:=HD_18.out 5 (by simp)
      have lD:w.heap.size+1 < wr.heap.size:=by omega
      simp only [List.getElem_cons_succ,List.getElem_cons_zero] at qD_0 qD_1 qD_2 qD_3 qD_4 qD_5
      go_upto_region 7 with fail
      clear d0 d1 d2 d3 d4 d5
      clear qD_0 qD_1 qD_2 qD_3 qD_4 qD_5 lD
      have hbw:Below wr.heap.size wr wr:=Below.refl _ _
      obtain ⟨W19_0,hW19_0⟩:∃x,x=wr.alloc (.cells #[.int .i64 au,.int .i64 sq,.int .i64 pv,.slice AVm mv.length cvm,.slice Am me.length cm,.int .i64 sg] 40):=⟨_,rfl⟩
      have hZ19_0:W19_0.heap.size=wr.heap.size+1:=by rw [hW19_0];simp
      have hx0:Bx W19_0 (wr.heap.size) [.int .i64 au,.int .i64 sq,.int .i64 pv,.slice AVm mv.length cvm,.slice Am me.length cm,.int .i64 sg]:=by rw [hW19_0];exact Bx.new' _ _ _ _ rfl
      have hb0:Below wr.heap.size wr W19_0:=by rw [hW19_0];exact ((Below.refl _ _).alloc (by first|exact Nat.le_refl _|(simp;done)|(simp;omega)) _)
      have hlt:wr.heap.size+0 < W19_0.heap.size:=by omega
      have HBw4:=hd' hb0
      have HBl:=hd' (HBl0.out.trans (hb0.mono (by have:=HBl0.out.size;omega)))
      rw [←hW19_0]
      clear hW19_0 hZ19_0
      have z_20:=hb0.size
      have Hbel_21:=hd' (Hbel_16.out.trans (hb0.mono (by omega)))
      have HL_22:=hd' (HL_17.out.below hb0 (by omega))
      have HD_23:=hd' (HD_18.out.below hb0 (by omega))
      clear Hbel_16 HL_17 HD_18
      have HM_24:=hd' (hx0)
      clear hb0 hx0
      have hl_25:=hlt
      clear hlt
      have HBx:=hd' (fun x:Kp W19_0=>show Below wr.heap.size wr x.val from HBw4.out.trans (x.ok.mono (by omega)))
      cases mb with
      | false =>
        have HF:=hd' (show I=false from HI.out.trans (dok_bad hkl (by rw [HHd.out];rfl)))
        have gL0:=fun x:Kp W19_0=>x.cell (HL_22.out 0 (by simp))
        have gD0:=fun x:Kp W19_0=>x.cell (HD_23.out 0 (by simp))
        have gD1:=fun x:Kp W19_0=>x.cell (HD_23.out 1 (by simp))
        have gD2:=fun x:Kp W19_0=>x.cell (HD_23.out 2 (by simp))
        have gD3:=fun x:Kp W19_0=>x.cell (HD_23.out 3 (by simp))
        have gD4:=fun x:Kp W19_0=>x.cell (HD_23.out 4 (by simp))
        have gD5:=fun x:Kp W19_0=>x.cell (HD_23.out 5 (by simp))
        have gM0:=fun x:Kp W19_0=>x.cell (HM_24.out 0 (by simp))
        have gM1:=fun x:Kp W19_0=>x.cell (HM_24.out 1 (by simp))
        have gM2:=fun x:Kp W19_0=>x.cell (HM_24.out 2 (by simp))
        have gM3:=fun x:Kp W19_0=>x.cell (HM_24.out 3 (by simp))
        have gM4:=fun x:Kp W19_0=>x.cell (HM_24.out 4 (by simp))
        have gM5:=fun x:Kp W19_0=>x.cell (HM_24.out 5 (by simp))
        simp only [List.getElem_cons_succ,List.getElem_cons_zero] at gD0 gM0 gD1 gM1 gD2 gM2 gD3 gM3 gD4 gM4 gD5 gM5 gL0
        refine wp_region_kept (by kernel_rfl) (by kernel_rfl) ?_
        repeat (go_big_quiet_step ((first|(go_at_call 55;exact kept_of (v:=.bool _) (HMo.out _ (HBx.out _))))))
        refine wpQuiet_nil ?_
        rintro _ ⟨x,rfl⟩
        obtain ⟨w7,hw7⟩:∃w7,w7=x.val:=⟨_,rfl⟩
        have HB7:=hd' (show Below W19_0.heap.size W19_0 w7 by rw [hw7];exact x.ok)
        rw [←hw7]
        clear hw7 x gL0 gD0 gM0 gD1 gM1 gD2 gM2 gD3 gM3 gD4 gM4 gD5 gM5
        go_wp2_with fail
        go_ret
        exact ⟨ret_bool (a:=false) HF.out.symm,Hbel_21.out.trans (HB7.out.mono (by omega))⟩
      | true =>
      obtain ⟨y0,y1,y2,y3,hmv⟩:=list4 (treeB_vec0 (manB_tree HMb.out.symm))
      subst hmv
      have hsd:=manB_said HMb.out.symm
      have HSg0:=hd' (fun X (hX:Below wr.heap.size wr X)=>l4sigOk_any AL ts cL au sq pv AVm [y0,y1,y2,y3] cvm Am me cm sg X ((HT.out.keep fun p _ hp=>(hX.cell (by omega)).trans (HBelr.out.cell hp)).mono (by have:=hX.size;omega)) ht ((HV0.out.keep fun p _ hp=>hX.cell (by omega)).mono (by have:=hX.size;omega)) ((HE0.out.keep fun p _ hp=>hX.cell (by omega)).mono (by have:=hX.size;omega)) (by simp) (by omega) (by omega) (treeB_names0 (manB_tree HMb.out.symm)))
      obtain ⟨sb,hsb⟩:∃b,b=mkB ts au sq pv [y0,y1,y2,y3] me sg:=⟨_,rfl⟩
      rw [←hsb] at HSg0 HHd
      clear hsb
      have HSg:=hd' (fun x:Kp W19_0=>HSg0.out x.val (HBx.out x))
      obtain ⟨bb,hbb⟩:∃b,b=belB y0 y1 y2 y3 va vb vc vd:=⟨_,rfl⟩
      have HHb:=hd' (show belVV [y0,y1,y2,y3] [va,vb,vc,vd]=bb from hbb.symm)
      rw [HHb.out] at HHd
      have HBe:=hd' (fun x:Kp W19_0=>hbb ▸ l3below_any AVm AV y0 y1 y2 y3 va vb vc vd cvm cv x.val ((HV0.out.keep fun p _ hp=>(HBx.out x).cell (by omega)).mono (by have:=(HBx.out x).size;omega)) ((HV.out.keep fun p _ hp=>((HBx.out x).cell (by omega)).trans (HBelr.out.cell hp)).mono (by have:=(HBx.out x).size;omega)))
      clear hbb HSg0
      cases sb with
      | false =>
        have HF:=hd' (show I=false from HI.out.trans (dok_bad hkl (by rw [HHd.out];rfl)))
        have gL0:=fun x:Kp W19_0=>x.cell (HL_22.out 0 (by simp))
        have gD0:=fun x:Kp W19_0=>x.cell (HD_23.out 0 (by simp))
        have gD1:=fun x:Kp W19_0=>x.cell (HD_23.out 1 (by simp))
        have gD2:=fun x:Kp W19_0=>x.cell (HD_23.out 2 (by simp))
        have gD3:=fun x:Kp W19_0=>x.cell (HD_23.out 3 (by simp))
        have gD4:=fun x:Kp W19_0=>x.cell (HD_23.out 4 (by simp))
        have gD5:=fun x:Kp W19_0=>x.cell (HD_23.out 5 (by simp))
        have gM0:=fun x:Kp W19_0=>x.cell (HM_24.out 0 (by simp))
        have gM1:=fun x:Kp W19_0=>x.cell (HM_24.out 1 (by simp))
        have gM2:=fun x:Kp W19_0=>x.cell (HM_24.out 2 (by simp))
        have gM3:=fun x:Kp W19_0=>x.cell (HM_24.out 3 (by simp))
        have gM4:=fun x:Kp W19_0=>x.cell (HM_24.out 4 (by simp))
        have gM5:=fun x:Kp W19_0=>x.cell (HM_24.out 5 (by simp))
        simp only [List.getElem_cons_succ,List.getElem_cons_zero] at gD0 gM0 gD1 gM1 gD2 gM2 gD3 gM3 gD4 gM4 gD5 gM5 gL0
        refine wp_region_kept (by kernel_rfl) (by kernel_rfl) ?_
        repeat (go_big_quiet_step ((first|(go_at_call 55;exact kept_of (v:=.bool _) (HMo.out _ (HBx.out _)))|(go_at_call 76;exact kept_of (v:=.bool _) (HSg.out _)))))
        refine wpQuiet_nil ?_
        rintro _ ⟨x,rfl⟩
        obtain ⟨w7,hw7⟩:∃w7,w7=x.val:=⟨_,rfl⟩
        have HB7:=hd' (show Below W19_0.heap.size W19_0 w7 by rw [hw7];exact x.ok)
        rw [←hw7]
        clear hw7 x gL0 gD0 gM0 gD1 gM1 gD2 gM2 gD3 gM3 gD4 gM4 gD5 gM5
        go_wp2_with fail
        go_ret
        exact ⟨ret_bool (a:=false) HF.out.symm,Hbel_21.out.trans (HB7.out.mono (by omega))⟩
      | true =>
      by_cases hk0:k=0
      · subst hk0
        cases bb with
        | false =>
          have HF:=hd' (show I=false from HI.out.trans (dok_bad hkl (by rw [HHd.out];simp)))
          have gL0:=fun x:Kp W19_0=>x.cell (HL_22.out 0 (by simp))
          have gD0:=fun x:Kp W19_0=>x.cell (HD_23.out 0 (by simp))
          have gD1:=fun x:Kp W19_0=>x.cell (HD_23.out 1 (by simp))
          have gD2:=fun x:Kp W19_0=>x.cell (HD_23.out 2 (by simp))
          have gD3:=fun x:Kp W19_0=>x.cell (HD_23.out 3 (by simp))
          have gD4:=fun x:Kp W19_0=>x.cell (HD_23.out 4 (by simp))
          have gD5:=fun x:Kp W19_0=>x.cell (HD_23.out 5 (by simp))
          have gM0:=fun x:Kp W19_0=>x.cell (HM_24.out 0 (by simp))
          have gM1:=fun x:Kp W19_0=>x.cell (HM_24.out 1 (by simp))
          have gM2:=fun x:Kp W19_0=>x.cell (HM_24.out 2 (by simp))
          have gM3:=fun x:Kp W19_0=>x.cell (HM_24.out 3 (by simp))
          have gM4:=fun x:Kp W19_0=>x.cell (HM_24.out 4 (by simp))
          have gM5:=fun x:Kp W19_0=>x.cell (HM_24.out 5 (by simp))
          simp only [List.getElem_cons_succ,List.getElem_cons_zero] at gD0 gM0 gD1 gM1 gD2 gM2 gD3 gM3 gD4 gM4 gD5 gM5 gL0
          refine wp_region_kept (by kernel_rfl) (by kernel_rfl) ?_
          repeat (go_big_quiet_step ((first|(go_at_call 55;exact kept_of (v:=.bool _) (HMo.out _ (HBx.out _)))|(go_at_call 76;exact kept_of (v:=.bool _) (HSg.out _))|(go_at_call 77;exact kept_of (v:=.bool _) (HBe.out _)))))
          refine wpQuiet_nil ?_
          rintro _ ⟨x,rfl⟩
          obtain ⟨w7,hw7⟩:∃w7,w7=x.val:=⟨_,rfl⟩
          have HB7:=hd' (show Below W19_0.heap.size W19_0 w7 by rw [hw7];exact x.ok)
          rw [←hw7]
          clear hw7 x gL0 gD0 gM0 gD1 gM1 gD2 gM2 gD3 gM3 gD4 gM4 gD5 gM5
          go_wp2_with fail
          go_ret
          exact ⟨ret_bool (a:=false) HF.out.symm,Hbel_21.out.trans (HB7.out.mono (by omega))⟩
        | true =>
          have HM:=hd' (show hdsB ts hs [va,vb,vc,vd] 0=true by rw [HHd.out];simp)
          have gL0:=fun x:Kp W19_0=>x.cell (HL_22.out 0 (by simp))
          have gD0:=fun x:Kp W19_0=>x.cell (HD_23.out 0 (by simp))
          have gD1:=fun x:Kp W19_0=>x.cell (HD_23.out 1 (by simp))
          have gD2:=fun x:Kp W19_0=>x.cell (HD_23.out 2 (by simp))
          have gD3:=fun x:Kp W19_0=>x.cell (HD_23.out 3 (by simp))
          have gD4:=fun x:Kp W19_0=>x.cell (HD_23.out 4 (by simp))
          have gD5:=fun x:Kp W19_0=>x.cell (HD_23.out 5 (by simp))
          have gM0:=fun x:Kp W19_0=>x.cell (HM_24.out 0 (by simp))
          have gM1:=fun x:Kp W19_0=>x.cell (HM_24.out 1 (by simp))
          have gM2:=fun x:Kp W19_0=>x.cell (HM_24.out 2 (by simp))
          have gM3:=fun x:Kp W19_0=>x.cell (HM_24.out 3 (by simp))
          have gM4:=fun x:Kp W19_0=>x.cell (HM_24.out 4 (by simp))
          have gM5:=fun x:Kp W19_0=>x.cell (HM_24.out 5 (by simp))
          simp only [List.getElem_cons_succ,List.getElem_cons_zero] at gD0 gM0 gD1 gM1 gD2 gM2 gD3 gM3 gD4 gM4 gD5 gM5 gL0
          refine wp_region_kept (by kernel_rfl) (by kernel_rfl) ?_
          repeat (go_big_quiet_step ((first|(go_at_call 55;exact kept_of (v:=.bool _) (HMo.out _ (HBx.out _)))|(go_at_call 76;exact kept_of (v:=.bool _) (HSg.out _))|(go_at_call 77;exact kept_of (v:=.bool _) (HBe.out _)))))
          refine wpQuiet_nil ?_
          rintro _ ⟨x,rfl⟩
          obtain ⟨w7,hw7⟩:∃w7,w7=x.val:=⟨_,rfl⟩
          have HB7:=hd' (show Below W19_0.heap.size W19_0 w7 by rw [hw7];exact x.ok)
          rw [←hw7]
          clear hw7 x gL0 gD0 gM0 gD1 gM1 gD2 gM2 gD3 gM3 gD4 gM4 gD5 gM5
          have hz7:=HB7.out.size
          go_wp2_with fail
          go_roundw
          case rel =>
            refine ⟨0+1,by omega,by go_num,fun i hi=>?_,HBl.out.trans (HB7.out.mono (by omega))⟩
            by_cases ei:i=0
            · rw [ei];exact HM.out
            · exact HOk.out i (by omega)
          case measure=>simp [intOf];omega
      · obtain ⟨j,rfl⟩:∃j,k=j+1:=⟨k - 1,by omega⟩
        obtain ⟨pa,hpa⟩:∃a,a=hs[j].au:=⟨_,rfl⟩
        have hgp:W19_0.cell? ⟨bA,oA+j*6,none⟩=some (.int .i64 pa):=(HBw4.out.cell (p:=⟨bA,oA+j*6,none⟩) lA).trans (by rw [hpa];exact HPrev.out j (by omega))
        have HGp:=hd' hgp
        have hgd:(hs.getD (j+1 - 1) default).au=pa:=by rw [Nat.add_sub_cancel,getD_at (by omega)];exact hpa.symm
        rw [hgd] at HHd
        have hj0:(0:Int) < ((j+1:Nat):Int):=by omega
        have hj1:(j:Int) < (hs.length:Int):=by omega
        have hj2:((j+1:Nat):Int) - 1=(j:Int):=by omega
        clear hpa hgd hk0 hgp
        by_cases hlt:au≤pa
        · have HF:=hd' (show I=false from HI.out.trans (dok_bad hkl (by rw [HHd.out];simp;omega)))
          have gL0:=fun x:Kp W19_0=>x.cell (HL_22.out 0 (by simp))
          have gD0:=fun x:Kp W19_0=>x.cell (HD_23.out 0 (by simp))
          have gD1:=fun x:Kp W19_0=>x.cell (HD_23.out 1 (by simp))
          have gD2:=fun x:Kp W19_0=>x.cell (HD_23.out 2 (by simp))
          have gD3:=fun x:Kp W19_0=>x.cell (HD_23.out 3 (by simp))
          have gD4:=fun x:Kp W19_0=>x.cell (HD_23.out 4 (by simp))
          have gD5:=fun x:Kp W19_0=>x.cell (HD_23.out 5 (by simp))
          have gM0:=fun x:Kp W19_0=>x.cell (HM_24.out 0 (by simp))
          have gM1:=fun x:Kp W19_0=>x.cell (HM_24.out 1 (by simp))
          have gM2:=fun x:Kp W19_0=>x.cell (HM_24.out 2 (by simp))
          have gM3:=fun x:Kp W19_0=>x.cell (HM_24.out 3 (by simp))
          have gM4:=fun x:Kp W19_0=>x.cell (HM_24.out 4 (by simp))
          have gM5:=fun x:Kp W19_0=>x.cell (HM_24.out 5 (by simp))
          simp only [List.getElem_cons_succ,List.getElem_cons_zero] at gD0 gM0 gD1 gM1 gD2 gM2 gD3 gM3 gD4 gM4 gD5 gM5 gL0
          have gP:=fun x:Kp W19_0=>x.cell HGp.out
          refine wp_region_kept (by kernel_rfl) (by kernel_rfl) ?_
          repeat (go_big_quiet_step ((first|(go_at_call 55;exact kept_of (v:=.bool _) (HMo.out _ (HBx.out _)))|(go_at_call 76;exact kept_of (v:=.bool _) (HSg.out _))|(go_at_call 77;exact kept_of (v:=.bool _) (HBe.out _)))))
          refine wpQuiet_nil ?_
          rintro _ ⟨x,rfl⟩
          obtain ⟨w7,hw7⟩:∃w7,w7=x.val:=⟨_,rfl⟩
          have HB7:=hd' (show Below W19_0.heap.size W19_0 w7 by rw [hw7];exact x.ok)
          rw [←hw7]
          clear hw7 x gL0 gD0 gM0 gD1 gM1 gD2 gM2 gD3 gM3 gD4 gM4 gD5 gM5 gP
          go_wp2_with fail
          go_ret
          exact ⟨ret_bool (a:=false) HF.out.symm,Hbel_21.out.trans (HB7.out.mono (by omega))⟩
        have hltn:¬ au≤pa:=hlt
        cases bb with
        | false =>
          have HF:=hd' (show I=false from HI.out.trans (dok_bad hkl (by rw [HHd.out];simp)))
          have gL0:=fun x:Kp W19_0=>x.cell (HL_22.out 0 (by simp))
          have gD0:=fun x:Kp W19_0=>x.cell (HD_23.out 0 (by simp))
          have gD1:=fun x:Kp W19_0=>x.cell (HD_23.out 1 (by simp))
          have gD2:=fun x:Kp W19_0=>x.cell (HD_23.out 2 (by simp))
          have gD3:=fun x:Kp W19_0=>x.cell (HD_23.out 3 (by simp))
          have gD4:=fun x:Kp W19_0=>x.cell (HD_23.out 4 (by simp))
          have gD5:=fun x:Kp W19_0=>x.cell (HD_23.out 5 (by simp))
          have gM0:=fun x:Kp W19_0=>x.cell (HM_24.out 0 (by simp))
          have gM1:=fun x:Kp W19_0=>x.cell (HM_24.out 1 (by simp))
          have gM2:=fun x:Kp W19_0=>x.cell (HM_24.out 2 (by simp))
          have gM3:=fun x:Kp W19_0=>x.cell (HM_24.out 3 (by simp))
          have gM4:=fun x:Kp W19_0=>x.cell (HM_24.out 4 (by simp))
          have gM5:=fun x:Kp W19_0=>x.cell (HM_24.out 5 (by simp))
          simp only [List.getElem_cons_succ,List.getElem_cons_zero] at gD0 gM0 gD1 gM1 gD2 gM2 gD3 gM3 gD4 gM4 gD5 gM5 gL0
          have gP:=fun x:Kp W19_0=>x.cell HGp.out
          refine wp_region_kept (by kernel_rfl) (by kernel_rfl) ?_
          repeat (go_big_quiet_step ((first|(go_at_call 55;exact kept_of (v:=.bool _) (HMo.out _ (HBx.out _)))|(go_at_call 76;exact kept_of (v:=.bool _) (HSg.out _))|(go_at_call 77;exact kept_of (v:=.bool _) (HBe.out _)))))
          refine wpQuiet_nil ?_
          rintro _ ⟨x,rfl⟩
          obtain ⟨w7,hw7⟩:∃w7,w7=x.val:=⟨_,rfl⟩
          have HB7:=hd' (show Below W19_0.heap.size W19_0 w7 by rw [hw7];exact x.ok)
          rw [←hw7]
          clear hw7 x gL0 gD0 gM0 gD1 gM1 gD2 gM2 gD3 gM3 gD4 gM4 gD5 gM5 gP
          go_wp2_with fail
          go_ret
          exact ⟨ret_bool (a:=false) HF.out.symm,Hbel_21.out.trans (HB7.out.mono (by omega))⟩
        | true =>
          have HM:=hd' (show hdsB ts hs [va,vb,vc,vd] (j+1)=true by rw [HHd.out];simp;omega)
          have gL0:=fun x:Kp W19_0=>x.cell (HL_22.out 0 (by simp))
          have gD0:=fun x:Kp W19_0=>x.cell (HD_23.out 0 (by simp))
          have gD1:=fun x:Kp W19_0=>x.cell (HD_23.out 1 (by simp))
          have gD2:=fun x:Kp W19_0=>x.cell (HD_23.out 2 (by simp))
          have gD3:=fun x:Kp W19_0=>x.cell (HD_23.out 3 (by simp))
          have gD4:=fun x:Kp W19_0=>x.cell (HD_23.out 4 (by simp))
          have gD5:=fun x:Kp W19_0=>x.cell (HD_23.out 5 (by simp))
          have gM0:=fun x:Kp W19_0=>x.cell (HM_24.out 0 (by simp))
          have gM1:=fun x:Kp W19_0=>x.cell (HM_24.out 1 (by simp))
          have gM2:=fun x:Kp W19_0=>x.cell (HM_24.out 2 (by simp))
          have gM3:=fun x:Kp W19_0=>x.cell (HM_24.out 3 (by simp))
          have gM4:=fun x:Kp W19_0=>x.cell (HM_24.out 4 (by simp))
          have gM5:=fun x:Kp W19_0=>x.cell (HM_24.out 5 (by simp))
          simp only [List.getElem_cons_succ,List.getElem_cons_zero] at gD0 gM0 gD1 gM1 gD2 gM2 gD3 gM3 gD4 gM4 gD5 gM5 gL0
          have gP:=fun x:Kp W19_0=>x.cell HGp.out
          refine wp_region_kept (by kernel_rfl) (by kernel_rfl) ?_
          repeat (go_big_quiet_step ((first|(go_at_call 55;exact kept_of (v:=.bool _) (HMo.out _ (HBx.out _)))|(go_at_call 76;exact kept_of (v:=.bool _) (HSg.out _))|(go_at_call 77;exact kept_of (v:=.bool _) (HBe.out _)))))
          refine wpQuiet_nil ?_
          rintro _ ⟨x,rfl⟩
          obtain ⟨w7,hw7⟩:∃w7,w7=x.val:=⟨_,rfl⟩
          have HB7:=hd' (show Below W19_0.heap.size W19_0 w7 by rw [hw7];exact x.ok)
          rw [←hw7]
          clear hw7 x gL0 gD0 gM0 gD1 gM1 gD2 gM2 gD3 gM3 gD4 gM4 gD5 gM5 gP
          have hz7:=HB7.out.size
          go_wp2_with fail
          go_roundw
          case rel =>
            refine ⟨(j+1)+1,by omega,by go_num,fun i hi=>?_,HBl.out.trans (HB7.out.mono (by omega))⟩
            by_cases ei:i=(j+1)
            · rw [ei];exact HM.out
            · exact HOk.out i (by omega)
          case measure=>simp [intOf];omega
    · have hke:¬ k < hs.length:=hkl
      have HF:=hd' (show I=prfB ts false ps from HI.out.trans (dok_end HLb.out.symm HId.out HTb.out.symm (by omega) HAl.out HPl.out fun i hi=>HOk.out i (by omega)))
      have qD_0:=HD_18.out 0 (by simp)
      have qD_1:=HD_18.out 1 (by simp)
      have qD_2:=HD_18.out 2 (by simp)
      have qD_3:=HD_18.out 3 (by simp)
      have qD_4:=HD_18.out 4 (by simp)
      have qD_5:=HD_18.out 5 (by simp)
      have lD:w.heap.size+1 < wr.heap.size:=by omega
      have qL_0:=HL_17.out 0 (by simp)
      have lL:w.heap.size < wr.heap.size:=by omega
      simp only [List.getElem_cons_succ,List.getElem_cons_zero] at qD_0 qD_1 qD_2 qD_3 qD_4 qD_5 qL_0
      have HF0:=hd' (show I=((ps.length:Int) == 0) by rw [HF.out];unfold prfB;by_cases h0:ps.length=0 <;> simp [h0] <;> omega)
      go_wp2_with fail
      go_ret
      exact ⟨ret_bool HF0.out.symm,Hbel_16.out⟩
theorem specDeviceOk_any (AL:Option Addr) (ts:List Tm) (cL:Nat) (id:Int) (AV:Option Addr) (vec:List Int) (cv:Nat) (A:Option Addr) (es:List En) (c:Nat) (AH:Option Addr) (hs:List Mn) (ch:Nat) (al:Bool) (AP:Option Addr) (ps:List Mn) (cp:Nat) (w:World) (hT:TmsIn w 0 w.heap.size AL ts) (ht:ts.length≤1048576) (htb_:bulk ts≤1048576) (hV:IntsIn w 0 w.heap.size AV vec) (hA:EnsIn w 0 w.heap.size A es) (hH:MnsRd w 0 w.heap.size AH hs) (hP:MnsRd w 0 w.heap.size AP ps) (hv:vec.length≤1048576) (hn:es.length≤1048576) (hbk:ebulk es≤1048576) (hhl:hs.length≤1048576) (hhb:mbulk hs≤1048576) (hpl:ps.length≤1048576) (hpb:mbulk ps≤1048576) (hc:es.length≤c:=by omega) :
    Calls Tryz.prog 25 #[.agg #[.slice AL ts.length cL],.agg #[.int .i64 id,.slice AV vec.length cv,.slice A es.length c,.slice AH hs.length ch,.bool al,.slice AP ps.length cp]] w fun e w'=>e=.returned (.bool (dokB ts id vec es hs al ps))∧Below w.heap.size w w':=by
  cases al with
  | true=>exact specDeviceOk_true AL ts cL id AV vec cv A es c AH hs ch AP ps cp w hT ht htb_ hV hA hH hP hv hn hbk hhl hhb hpl hpb hc
  | false=>exact specDeviceOk_false AL ts cL id AV vec cv A es c AH hs ch AP ps cp w hT ht htb_ hV hA hH hP hv hn hbk hhl hhb hpl hpb hc
end Go.Proofs.YtckajeippfpojaaGreat
