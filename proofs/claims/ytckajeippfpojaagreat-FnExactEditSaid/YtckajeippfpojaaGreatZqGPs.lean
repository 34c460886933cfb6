import Derived.Test.YtckajeippfpojaaGreatZqPutP
import Derived.Test.YtckajeippfpojaaGreatZqDropS
import Derived.Test.YtckajeippfpojaaGreatZqInsS
import Derived.Test.YtckajeippfpojaaGreatZqGOw
import Derived.Deep.RegionHeld3
namespace Go.Proofs.YtckajeippfpojaaGreat
open Go.RowKit Go.Maps
set_option maxRecDepth 100000
theorem treeB_four {vec:List Int} {es:List En} (h:treeB vec es=true):∃a b c d,vec=[a,b,c,d]:=by
  unfold treeB at h
  simp only [Bool.and_eq_true] at h
  exact vecB_four h.1.1.1
theorem ins_len (l:List En) (e:En):(insE l e).length=l.length+1:=by rw [(ins_perm l e).length_eq];simp
theorem name_24 {l:List UInt8} (h:nameB l=true):l.length≤24:=by
  unfold nameB at h
  split at h
  · cases h
  · simp only [Bool.and_eq_true,decide_eq_true_eq] at h
    exact h.2
theorem bulk_24:∀{es:List En},(∀e∈es,nameB e.name=true)→ebulk es≤24*es.length
  | [],_=>Nat.le_refl _
  | e :: es,h=>by
    have h1:=name_24 (h e (by simp))
    have h2:=bulk_24 (es:=es) (fun x hx=>h x (by simp [hx]))
    simp only [ebulk,List.length_cons]
    omega
theorem tree_names {vec:List Int} {es:List En} (h:treeB vec es=true):∀e∈es,nameB e.name=true:=by
  unfold treeB at h
  simp only [Bool.and_eq_true,List.all_eq_true] at h
  exact fun e he=>h.1.2 e he
theorem puE_len {vec:List Int} {es:List En} {b:Int} {l:List UInt8} {val:Int}:(puE vec es b l val).length=(notName l es).length+1:=ins_len _ _
theorem puE_names {vec:List Int} {es:List En} {b:Int} {l:List UInt8} {val:Int} (h:treeB vec es=true) (hl:nameB l=true):∀e∈puE vec es b l val,nameB e.name=true:=by
  intro e he
  rcases List.mem_cons.1 ((ins_perm _ _).mem_iff.1 he) with rfl|he
  · exact hl
  · exact tree_names h e (List.mem_filter.1 he).1
theorem puE_bulk {vec:List Int} {es:List En} {b:Int} {l:List UInt8} {val:Int} (h:treeB vec es=true) (hl:nameB l=true):ebulk (puE vec es b l val)≤1048576:=by
  have h1:=bulk_24 (puE_names (b:=b) (val:=val) h hl)
  have h2:=treeB_len3 h
  have h3:=notName_le l es
  rw [puE_len] at h1
  omega
theorem tok_fit {a b c d:Int} {es:List En} (h:tokB a b c d es=true):∀e∈es,fitB a b c d e=true:=by
  intro e he
  obtain ⟨i,hi,rfl⟩:=List.getElem_of_mem he
  unfold tokB at h
  simp only [Bool.and_eq_true,List.all_eq_true,List.mem_range] at h
  have h1:=h.2 i hi
  unfold goodB at h1
  simp only [Bool.and_eq_true] at h1
  have h2:=h1.1.1
  rwa [List.getD_eq_getElem?_getD,List.getElem?_eq_getElem hi] at h2
theorem tok_vec {a b c d:Int} {es:List En} (h:tokB a b c d es=true):vecB [a,b,c,d]=true∧es.length≤12:=by
  unfold tokB at h
  simp only [Bool.and_eq_true,decide_eq_true_eq] at h
  exact h.1
theorem pu_model {vec:List Int} {es:List En} {b:Int} {l:List UInt8} {val:Int} (ht:treeB vec es=true) (hb:devB b=true) (hl:nameB l=true) :
    puOk vec es b l val=(decide (0≤val) && decide (val≤999) && decide (vec.getD b.toNat 0 < 1000) && treeB (puV vec b) (puE vec es b l val)):=by
  obtain ⟨v0,v1,v2,v3,rfl⟩:=treeB_four ht
  unfold devB at hb
  simp only [Bool.and_eq_true,decide_eq_true_eq] at hb
  have hp4:∃a b' c d,puV [v0,v1,v2,v3] b=[a,b',c,d]:=by
    have h4:(puV [v0,v1,v2,v3] b).length=4:=by simp [puV]
    match hq:puV [v0,v1,v2,v3] b,h4 with
    | [a,b',c,d],_=>exact ⟨a,b',c,d,rfl⟩
  obtain ⟨p0,p1,p2,p3,hp⟩:=hp4
  have hpu:puOk [v0,v1,v2,v3] es b l val=tokB p0 p1 p2 p3 (puE [v0,v1,v2,v3] es b l val):=by
    unfold puOk
    rw [ht,hl,hp]
    simp [devB,hb.1,hb.2]
  have hall:(puE [v0,v1,v2,v3] es b l val).all (fun e=>nameB e.name)=true:=by
    rw [List.all_eq_true]
    exact puE_names ht hl
  rw [hpu]
  cases ht2:tokB p0 p1 p2 p3 (puE [v0,v1,v2,v3] es b l val) with
  | false =>
    have:treeB (puV [v0,v1,v2,v3] b) (puE [v0,v1,v2,v3] es b l val)=false:=by
      unfold treeB
      rw [hp]
      simp [ht2]
    rw [this]
    simp
  | true =>
    obtain ⟨hv,h12⟩:=tok_vec ht2
    have hn:newE [v0,v1,v2,v3] b l val∈puE [v0,v1,v2,v3] es b l val:=(ins_perm _ _).mem_iff.2 (by simp)
    have hf:=tok_fit ht2 _ hn
    unfold fitB newE at hf
    simp only [Bool.and_eq_true,decide_eq_true_eq] at hf
    have hx:([v0,v1,v2,v3].getD b.toNat 0)+1∈puV [v0,v1,v2,v3] b:=by
      unfold puV
      exact List.mem_iff_getElem.2 ⟨b.toNat,by simp;omega,by simp⟩
    rw [hp] at hx
    have hle:([v0,v1,v2,v3].getD b.toNat 0)+1≤1000:=by
      unfold vecB at hv
      simp only [Bool.and_eq_true,List.all_eq_true,decide_eq_true_eq] at hv
      exact (hv.2 _ hx).2
    have htr:treeB (puV [v0,v1,v2,v3] b) (puE [v0,v1,v2,v3] es b l val)=true:=by
      unfold treeB
      rw [hp,hv,hall]
      simp [ht2,h12]
    rw [htr]
    have h1:decide ([v0,v1,v2,v3].getD b.toNat 0 < 1000)=true:=by rw [decide_eq_true_eq];omega
    rw [h1]
    simp [hf.1.1.1.1,hf.1.1.1.2]
theorem pur_no {vec:List Int} {es:List En} {b:Int} {l:List UInt8} {val:Int} (h:puOk vec es b l val=false):puVec vec es b l val=[]∧puEs vec es b l val=[]:=by
  unfold puVec puEs
  rw [h]
  simp
theorem pur_yes {vec:List Int} {es:List En} {b:Int} {l:List UInt8} {val:Int} (h:puOk vec es b l val=true):puVec vec es b l val=puV vec b∧puEs vec es b l val=puE vec es b l val:=by
  unfold puVec puEs
  rw [h]
  simp
theorem pur_f1 {vec:List Int} {es:List En} {b:Int} {l:List UInt8} {val:Int} (h:treeB vec es=false):puOk vec es b l val=false:=by simp [puOk,h]
theorem pur_f2 {vec:List Int} {es:List En} {b:Int} {l:List UInt8} {val:Int} (h:devB b=false):puOk vec es b l val=false:=by simp [puOk,h]
theorem pur_f3 {vec:List Int} {es:List En} {b:Int} {l:List UInt8} {val:Int} (h:nameB l=false):puOk vec es b l val=false:=by simp [puOk,h]
theorem puVec_len {vec:List Int} {es:List En} {b:Int} {l:List UInt8} {val:Int} (h:vec.length≤1048576):(puVec vec es b l val).length≤1048576:=by
  unfold puVec
  split
  · simpa [puV] using h
  · simp
theorem puEs_len {vec:List Int} {es:List En} {b:Int} {l:List UInt8} {val:Int} (_h:es.length≤1048576):(puEs vec es b l val).length≤1048576:=by
  unfold puEs
  split
  · rename_i h2
    unfold puOk at h2
    simp only [Bool.and_eq_true] at h2
    have:=treeB_len3 h2.1.1.1
    have:=notName_le l es
    rw [puE_len]
    omega
  · simp
theorem puEs_bulk {vec:List Int} {es:List En} {b:Int} {l:List UInt8} {val:Int} (_h:ebulk es≤1048576):ebulk (puEs vec es b l val)≤1048576:=by
  unfold puEs
  split
  · rename_i h2
    unfold puOk at h2
    simp only [Bool.and_eq_true] at h2
    exact puE_bulk h2.1.1.1 h2.1.2
  · simp [ebulk]
end Go.Proofs.YtckajeippfpojaaGreat
namespace Go.Proofs.YtckajeippfpojaaGreat
open Go.RowKit Go.Maps
set_option maxRecDepth 100000
def S4 (W X:World):Prop:=Below W.heap.size W X
theorem S4.refl (W:World):S4 W W:=Below.refl _ _
theorem S4.drew {W X:World} (h:S4 W X):S4 W X.drew:=Below.drew h
theorem S4.alloc {W X:World} (h:S4 W X) (o:Obj):S4 W (X.alloc o):=Below.alloc h (Below.size h) o
theorem S4.below {W X Y:World} (h:S4 W X) (hb:Below X.heap.size X Y):S4 W Y:=Below.trans h (hb.mono (Below.size h))
theorem S4.grown {W X Y:World} (h:S4 W X) {row:Option Nat} (hg:X.grownBy Y row) (hr:∀k,row=some k→W.heap.size≤k):S4 W Y:=Below.grown h hg (Below.size h) hr
def N6 (A:Option Addr) (l:List UInt8) (X:World):Prop:=BytesIn X 0 X.heap.size A l
theorem N6.drew {A:Option Addr} {l:List UInt8} {X:World} (h:N6 A l X):N6 A l X.drew:=h
theorem N6.below {A:Option Addr} {l:List UInt8} {X Y:World} (h:N6 A l X) (hb:Below X.heap.size X Y):N6 A l Y:=(BytesIn.keep h fun _ _ hp=>hb.cell hp).mono hb.size
def E6 (B L s:Nat) (A:Option Addr) (F:List En) (X:World):Prop :=
  B≤L∧L≤s∧s≤X.heap.size∧(0 < F.length→∃R,A=some ⟨R,0,none⟩∧L≤R∧R < s∧∀i (hi:i < F.length),EnIn X 0 B R (i*4) F[i])
section
variable {B L s:Nat} {A:Option Addr} {F:List En} {X Y:World}
theorem E6.keep (h:E6 B L s A F X) (hs:X.heap.size≤Y.heap.size) (hk:∀p:Addr,p.block < B∨(L≤p.block∧p.block < s)→Y.cell? p=X.cell? p):E6 B L s A F Y:=by
  obtain ⟨h1,h2,h3,h4⟩:=h
  refine ⟨h1,h2,by omega,fun hl=>?_⟩
  obtain ⟨R,e,hL,hR,hc⟩:=h4 hl
  refine ⟨R,e,hL,hR,fun i hi=>?_⟩
  obtain ⟨A',c',k0,k1,k2,k3,k4⟩:=hc i hi
  exact ⟨A',c',(hk _ (.inr ⟨hL,hR⟩)).trans k0,(hk _ (.inr ⟨hL,hR⟩)).trans k1,(hk _ (.inr ⟨hL,hR⟩)).trans k2,(hk _ (.inr ⟨hL,hR⟩)).trans k3,k4.keep fun p _ hp=>hk p (.inl hp)⟩
theorem E6.drew (h:E6 B L s A F X):E6 B L s A F X.drew:=h
theorem E6.alloc (h:E6 B L s A F X) (o:Obj):E6 B L s A F (X.alloc o):=h.keep (by simp) fun p hp=>World.cell?_alloc_lt X o p (by obtain ⟨h1,h2,h3,_⟩:=h;omega)
theorem E6.below (h:E6 B L s A F X) (hb:Below X.heap.size X Y):E6 B L s A F Y:=h.keep hb.size fun p hp=>hb.cell (by obtain ⟨h1,h2,h3,_⟩:=h;omega)
theorem E6.grown (h:E6 B L s A F X) {row:Option Nat} (hg:X.grownBy Y row) (hr:∀k,row=some k→B≤k∧(k < L∨s≤k)):E6 B L s A F Y :=
  h.keep hg.size fun p hp=>World.cell?_of_block (hg.block _ (by obtain ⟨h1,h2,h3,_⟩:=h;omega) (fun e=>by have:=hr _ e.symm;omega))
theorem E6.ens (h:E6 B L s A F X):EnsIn X 0 X.heap.size A F:=fun hl=>by
  obtain ⟨h1,h2,h3,h4⟩:=h
  obtain ⟨R,e,hL,hR,hc⟩:=h4 hl
  exact ⟨R,0,e,Nat.zero_le _,by omega,fun i hi=>by rw [Nat.zero_add];exact (hc i hi).mono (by omega)⟩
end
theorem WoOut.e6 {w:World} {L B B':Nat} {A:Option Addr} {F:List En} (h:WoOut w L B A F) (hB:B≤B') (hL:B'≤L) (hs:L≤w.heap.size):E6 B' L w.heap.size A F w :=
  ⟨hL,hs,Nat.le_refl _,fun hl=>by
    obtain ⟨R,e,h1,h2,hc⟩:=h hl
    exact ⟨R,e,h1,h2,fun i hi=>(hc i hi).2.mono hB⟩⟩
theorem bytes_set1 {w:World} {L B:Nat} {A:Option Addr} {l:List UInt8} (h:BytesIn w L B A l) {p:Addr} {A':Option Addr} {n c:Nat} (hp:w.cell? p=some (.slice A' n c)) (v:Value):BytesIn (w.setCell p v) L B A l:=fun hl=>by
  obtain ⟨b,o,e,h1,h2,hc⟩:=h hl
  refine ⟨b,o,e,h1,h2,fun j hj=>?_⟩
  rw [World.cell?_setCell_other _ _ _ _ (fun e2=>?_)]
  · exact hc j hj
  · have h3:=hc j hj
    rw [←e2,hp] at h3
    simp at h3
theorem ens_set1 {w:World} {L B:Nat} {A:Option Addr} {es:List En} (h:EnsIn w L B A es) {p:Addr} {A':Option Addr} {n c:Nat} (hp:w.cell? p=some (.slice A' n c)) (hne:∀b o,A=some ⟨b,o,none⟩→b≠p.block) (v:Value):EnsIn (w.setCell p v) L B A es:=fun hl=>by
  obtain ⟨b,o,e,h1,h2,hc⟩:=h hl
  have hb:=hne b o e
  have hk:∀q:Addr,q.block=b→(w.setCell p v).cell? q=w.cell? q:=fun q hq=>World.cell?_setCell_other _ _ _ _ (fun e2=>hb (by rw [e2];exact hq.symm))
  refine ⟨b,o,e,h1,h2,fun i hi=>?_⟩
  obtain ⟨A2,c2,k0,k1,k2,k3,k4⟩:=hc i hi
  exact ⟨A2,c2,(hk _ rfl).trans k0,(hk _ rfl).trans k1,(hk _ rfl).trans k2,(hk _ rfl).trans k3,bytes_set1 k4 hp v⟩
theorem ints_set {w:World} {L B b o m:Nat} {vec:List Int} (h:∀j (hj:j < vec.length),w.cell? ⟨b,o+j,none⟩=some (.int .i64 vec[j])) (hL:L≤b) (hB:b < B) (hm:m < vec.length) (y:Int) :
    IntsIn (w.setCell ⟨b,o+m,none⟩ (.int .i64 y)) L B (some ⟨b,o,none⟩) (vec.set m y):=fun _=>by
  refine ⟨b,o,rfl,hL,hB,fun j hj=>?_⟩
  have hj':j < vec.length:=by simpa using hj
  by_cases e:j=m
  · subst e
    rw [World.cell?_setCell_same _ _ _ (h j hj')]
    simp
  · rw [World.cell?_setCell_other _ _ _ _ (fun e2=>e (by injection e2;omega)),h j hj']
    simp [Ne.symm e]
set_option maxHeartbeats 4000000 in
theorem l3put_own (AV:Option Addr) (vec:List Int) (cv:Nat) (A:Option Addr) (es:List En) (cA:Nat) (Ab:Option Addr) (l:List UInt8) (cb m:Nat) (val:Int) (w:World) (hV:IntsIn w 0 w.heap.size AV vec) (hA:EnsIn w 0 w.heap.size A es) (hB:BytesIn w 0 w.heap.size Ab l) (hvl:vec.length≤1048576) (hn:es.length≤999) (hm:m < vec.length) (hx0:0≤vec.getD m 0) (hx1:vec.getD m 0≤1000000) (hll:l.length≤1048576) :
    Calls Tryz.prog 140 #[.agg #[.slice AV vec.length cv,.slice A es.length cA],.int .i64 m,.slice Ab l.length cb,.int .i64 val] w
      fun r w'=>∃AV' cv' A' c',r=.returned (.agg #[.slice AV' vec.length cv',.slice A' (puE vec es m l val).length c'])∧(puE vec es m l val).length≤c'∧IntsIn w' 0 w'.heap.size AV' (puV vec m)∧EnsIn w' 0 w'.heap.size A' (puE vec es m l val)∧(∃g,A'=some ⟨g,0,none⟩)∧Below w.heap.size w w':=by
  have HV:=hd' hV
  have HA:=hd' hA
  have HB:=hd' hB
  clear hV hA hB
  go_enter Tryz.func140,Tryz.ntmps140
  obtain ⟨W0,hW0⟩:∃W0,W0=w.alloc (.cells #[.slice AV vec.length cv,.slice A es.length cA] 38):=⟨_,rfl⟩
  obtain ⟨W,hW⟩:∃W,W=W0.alloc (.cells #[.slice none 0 0,.slice none 0 0] 38):=⟨_,rfl⟩
  have hz0:W0.heap.size=w.heap.size+1:=by rw [hW0];simp
  have hz:w.heap.size+1 < W.heap.size:=by rw [hW];simp [hz0]
  have HY:=hd' (show Bx W w.heap.size [.slice AV vec.length cv,.slice A es.length cA] by rw [hW];exact Bx.alloc (by rw [hW0];exact Bx.new' _ _ _ _ rfl) (by omega) _)
  have HX:=hd' (show Bx W (w.heap.size+1) [.slice none 0 0,.slice none 0 0] by rw [hW,←hz0];exact Bx.new' _ _ _ _ rfl)
  have HF:=hd' (show ∀o,W.frozen? ⟨w.heap.size+1,o,none⟩=false from fun o=>by rw [hW,hW0];exact (((Fresh.refl w).alloc _ _).alloc _ _) ⟨w.heap.size+1,o,none⟩ (by show w.heap.size≤w.heap.size+1;omega))
  have HBel:=hd' (show Below w.heap.size w W by rw [hW,hW0];exact ((Below.refl _ _).alloc (Nat.le_refl _) _).alloc (by simp) _)
  obtain ⟨W5,hW5⟩:∃W5,W5=W.alloc (.cells #[] 3):=⟨_,rfl⟩
  have hzW:W.heap.size=w.heap.size+1+1:=by rw [hW];simp [hz0]
  have hE:W5.heap[w.heap.size+1+1]?=some (.cells #[] 3 (0,0)):=by rw [hW5,←hzW];exact heap_alloc_new W _
  have HE0:=hd' (owns_empty (base:=w.heap.size+1+1) (Nat.le_refl _) hE)
  have hb5:Below W.heap.size W W5:=by rw [hW5];exact (Below.refl _ _).alloc (Nat.le_refl _) _
  have HSrc:=hd' (show IntsIn W5 0 w.heap.size AV vec from HV.out.keep fun p _ hp=>(hb5.cell (by omega)).trans (HBel.out.cell hp))
  have HB5:=hd' (HBel.out.trans (hb5.mono (by omega)))
  have HY5:=hd' (HY.out.below hb5 (by omega))
  have HX5:=hd' (HX.out.below hb5 (by omega))
  have HF5:=hd' (show ∀o,W5.frozen? ⟨w.heap.size+1,o,none⟩=false from fun o=>(hb5.frozen (p:=⟨w.heap.size+1,o,none⟩) hz).trans (HF.out o))
  have HS5:=hd' (show W5.heap.size=w.heap.size+1+1+1 by rw [hW5];simp [hzW])
  obtain ⟨i0,hi,hq0,hq1,hq2⟩:=info_parts Tryz.infoInt
  clear hE hb5 hz0 hz hzW HY HX HF HBel
  rw [hW,hW0] at hW5
  clear hW hW0
  subst hW5
  go_wp2_with (at_builtin;refine wpList_append_any _ rfl _ _ 25 rfl (w.heap.size+1+1) 3 i0 (.int .i64 0) 1 8 Tryz.underlying25 hi hq0 hq1 hq2 rfl (by decide) _ _ _ rfl HE0.out AV vec.length cv (vec.map vint) rfl ?c0 ?c1 ?c2 ?c3 ?c4 ?c5 ?_)
  case c0=>first|rfl|simp
  case c1=>exact ints_src HSrc.out
  try case c2=>intro u hu;simp only [List.mem_map] at hu;obtain ⟨x,_,rfl⟩:=hu;rfl
  try case c3=>first|omega|(unfold maxLen;omega)
  try case c4=>omega
  try case c5=>first|omega|(simp;done)|(simp;omega)
  intro AV6 c6 w6 hrow6 hgr6 _
  try simp only [Nat.zero_add,List.nil_append] at hrow6
  have HV6:=hd' (show IntsFr w6 (w.heap.size+1+1) w6.heap.size AV6 vec from ints_of_row (l:=vec) hrow6)
  have hb6:Below (w.heap.size+1+1) _ w6:=(Below.refl _ _).grown hgr6 (by have:=HS5.out;omega) (fun k hk=>by cases hk;exact Nat.le_refl _)
  have hz6:w.heap.size+1+1 < w6.heap.size:=by have:=hgr6.size;have:=HS5.out;omega
  have HB6:=hd' (HB5.out.trans (hb6.mono (by omega)))
  have HY6:=hd' (HY5.out.below hb6 (by omega))
  have HX6:=hd' (HX5.out.below hb6 (by omega))
  have HF6:=hd' (show ∀o,w6.frozen? ⟨w.heap.size+1,o,none⟩=false from fun o=>(hb6.frozen (p:=⟨w.heap.size+1,o,none⟩) (by show w.heap.size+1 < w.heap.size+1+1;omega)).trans (HF5.out o))
  clear hrow6 hgr6 hb6 HB5 HY5 HX5 HF5 HE0 HSrc HS5 i0 hi hq0 hq1 hq2 HV
  go_upto_region 2 with fail
  obtain ⟨W7,hW7⟩:∃W7,W7=w6.alloc (.cells #[.slice AV6 vec.length c6,.slice none 0 0] 38):=⟨_,rfl⟩
  have HT7:=hd' (show W7.heap[w6.heap.size]?=some (.cells #[.slice AV6 vec.length c6,.slice none 0 0] 38 (0,0)) by rw [hW7];exact heap_alloc_new w6 _)
  have HB7:=hd' (show Below w6.heap.size w6 W7 by rw [hW7];exact (Below.refl _ _).alloc (Nat.le_refl _) _)
  have hz7:w6.heap.size < W7.heap.size:=by rw [hW7];simp
  rw [←hW7]
  clear hW7
  obtain ⟨g,o,hAe,hgL,hgB,hrow⟩:=HV6.out (by omega)
  have hrow':∀j (hj:j < vec.length),W7.cell? ⟨g,o+j,none⟩=some (.int .i64 vec[j]):=fun j hj=>(HB7.out.cell (p:=⟨g,o+j,none⟩) hgB).trans (hrow j hj).1
  have hxm:vec[m]=vec.getD m 0:=by simp [hm]
  obtain ⟨x,hx⟩:∃x,x=vec.getD m 0:=⟨_,rfl⟩
  have v0:W7.cell? ⟨g,o+m,none⟩=some (.int .i64 x):=by rw [hrow' m hm,hxm,hx]
  have vf:W7.frozen? ⟨g,o+m,none⟩=false:=(HB7.out.frozen (p:=⟨g,o+m,none⟩) hgB).trans (hrow m hm).2
  have q0:W7.cell? ⟨w6.heap.size,0,none⟩=some (.slice AV6 vec.length c6):=by simp [World.cell?,HT7.out]
  have hIs:=hd' (ints_set hrow' (Nat.le_refl _) (Nat.lt_succ_self _) hm (x+1))
  have hpuv:=hd' (show puV vec m=vec.set m (x+1) by unfold puV;rw [hx];rfl)
  have HNe:=hd' (show newE vec m l val=⟨l,val,m,x+1⟩ by unfold newE;rw [hx];rfl)
  rw [←hx] at hx0 hx1
  have hmi:(m:Int) < (vec.length:Int):=by omega
  subst hAe
  clear hrow hrow' hxm hx HV6
  go_upto_region 3 with fail
  obtain ⟨W4,hW4⟩:∃X,X=W7.setCell ⟨g,o+m,none⟩ (.int .i64 (x+1)):=⟨_,rfl⟩
  have hz4:W7.heap.size≤W4.heap.size:=by rw [hW4];simp
  have hb74:Below w6.heap.size w6 W7:=HB7.out
  have hb64:Below (w.heap.size+1+1) w6 W4:=by rw [hW4];exact (hb74.mono (by omega)).setCell (show w.heap.size+1+1≤g from hgL) _
  have HB4:=hd' (show Below w.heap.size w W4 from HB6.out.trans (hb64.mono (by omega)))
  have hfz:∀p,W4.frozen? p=W7.frozen? p:=fun p=>by rw [hW4,World.frozen?_setCell]
  have y1:W4.cell? ⟨w.heap.size,1,none⟩=some (.slice A es.length cA):=(hb64.cell (p:=⟨w.heap.size,1,none⟩) (by show w.heap.size < w.heap.size+1+1;omega)).trans (HY6.out 1 (by simp))
  have r0:W4.cell? ⟨w.heap.size+1,0,none⟩=some (.slice none 0 0):=(hb64.cell (p:=⟨w.heap.size+1,0,none⟩) (by show w.heap.size+1 < w.heap.size+1+1;omega)).trans (HX6.out 0 (by simp))
  have r1:W4.cell? ⟨w.heap.size+1,1,none⟩=some (.slice none 0 0):=(hb64.cell (p:=⟨w.heap.size+1,1,none⟩) (by show w.heap.size+1 < w.heap.size+1+1;omega)).trans (HX6.out 1 (by simp))
  have s0:W4.cell? ⟨w6.heap.size,0,none⟩=some (.slice (some ⟨g,o,none⟩) vec.length c6):=by
    rw [hW4,World.cell?_setCell_other _ _ _ _ (fun e=>by injection e;omega)]
    exact q0
  have s1:W4.cell? ⟨w6.heap.size,1,none⟩=some (.slice none 0 0):=by
    rw [hW4,World.cell?_setCell_other _ _ _ _ (fun e=>by injection e;omega)]
    simp [World.cell?,HT7.out]
  have sv:W4.cell? ⟨g,o+m,none⟩=some (.int .i64 (x+1)):=by rw [hW4];exact World.cell?_setCell_same _ _ _ v0
  have sf:W4.frozen? ⟨w6.heap.size,1,none⟩=false:=by rw [hfz];simp [World.frozen?,HT7.out]
  have f0:W4.frozen? ⟨w.heap.size+1,0,none⟩=false:=(hb64.frozen (p:=⟨w.heap.size+1,0,none⟩) (by show w.heap.size+1 < w.heap.size+1+1;omega)).trans (HF6.out 0)
  have f1:W4.frozen? ⟨w.heap.size+1,1,none⟩=false:=(hb64.frozen (p:=⟨w.heap.size+1,1,none⟩) (by show w.heap.size+1 < w.heap.size+1+1;omega)).trans (HF6.out 1)
  rw [←hW4] at hIs ⊢
  have lh:w.heap.size < W4.heap.size:=by omega
  have lq:w6.heap.size < W4.heap.size:=by omega
  have lg:g < W4.heap.size:=by omega
  have HC4:=hd' (fun (X:World) (hX:S4 W4 X)=>show X.cell? ⟨w.heap.size,1,none⟩=some (.slice A es.length cA)∧X.cell? ⟨w6.heap.size,0,none⟩=some (.slice (some ⟨g,o,none⟩) vec.length c6)∧X.cell? ⟨w6.heap.size,1,none⟩=some (.slice none 0 0)∧X.cell? ⟨g,o+m,none⟩=some (.int .i64 (x+1))∧X.frozen? ⟨w6.heap.size,1,none⟩=false from
    ⟨(Below.cell hX (p:=⟨w.heap.size,1,none⟩) lh).trans y1,(Below.cell hX (p:=⟨w6.heap.size,0,none⟩) lq).trans s0,(Below.cell hX (p:=⟨w6.heap.size,1,none⟩) lq).trans s1,(Below.cell hX (p:=⟨g,o+m,none⟩) lg).trans sv,(Below.frozen hX (p:=⟨w6.heap.size,1,none⟩) lq).trans sf⟩)
  have HCell:=hd' (show ∀X,S4 W4 X→X.cell? ⟨w.heap.size,1,none⟩=some (.slice A es.length cA)∧X.cell? ⟨w6.heap.size,0,none⟩=some (.slice (some ⟨g,o,none⟩) vec.length c6)∧X.cell? ⟨g,o+m,none⟩=some (.int .i64 (x+1)) from fun X hX=>⟨(HC4.out X hX).1,(HC4.out X hX).2.1,(HC4.out X hX).2.2.2.1⟩)
  have HCellS:=hd' (show ∀(X:World) (v:Value),S4 W4 X→(X.setCell ⟨w6.heap.size,1,none⟩ v).cell? ⟨w.heap.size,1,none⟩=some (.slice A es.length cA)∧(X.setCell ⟨w6.heap.size,1,none⟩ v).cell? ⟨w6.heap.size,0,none⟩=some (.slice (some ⟨g,o,none⟩) vec.length c6)∧(X.setCell ⟨w6.heap.size,1,none⟩ v).cell? ⟨g,o+m,none⟩=some (.int .i64 (x+1)) from fun X v hX=>⟨(World.cell?_setCell_other _ _ _ _ (fun e=>by injection e;omega)).trans (HCell.out X hX).1,(World.cell?_setCell_other _ _ _ _ (fun e=>by injection e;omega)).trans (HCell.out X hX).2.1,(World.cell?_setCell_other _ _ _ _ (fun e=>by injection e;omega)).trans (HCell.out X hX).2.2⟩)
  have HR4:=hd' (And.intro r0 (And.intro r1 (And.intro f0 f1)))
  have HS0:=hd' (S4.refl W4)
  obtain ⟨nn,hnn⟩:∃y,y=(notName l es).length:=⟨_,rfl⟩
  have hnl:nn≤999:=by rw [hnn];have:=notName_le l es;omega
  have HWt:=hd' (fun (X:World) (hX:S4 W4 X)=>show Calls Tryz.prog 146 #[.slice A es.length cA,.slice Ab l.length cb] X (fun r w'=>∃A5 c5,r=.returned (.slice A5 nn c5)∧nn≤c5∧(A5=none∧c5=0∨∃g,A5=some ⟨g,0,none⟩)∧E6 W4.heap.size X.heap.size w'.heap.size A5 (notName l es) w'∧Below X.heap.size X w') from by
    have hXs:=Below.size hX
    have hk:∀p:Addr,p.block < w.heap.size→X.cell? p=w.cell? p:=fun p hp=>(Below.cell hX (by omega)).trans (HB4.out.cell hp)
    rw [hnn]
    refine (l3without_own A es cA Ab l cb w.heap.size X (HA.out.keep fun p _ hp=>hk p hp) (by omega) (by omega) ((HB.out.keep fun p _ hp=>hk p hp).mono (by omega))).mono ?_
    rintro r w' ⟨A5,c5,rfl,h1,h2,h3,h4⟩
    exact ⟨A5,c5,rfl,h1,h2,h3.e6 (by omega) hXs h4.size,h4⟩)
  have HIn:=hd' (fun (X:World) (A5:Option Addr) (c5:Nat) (A7:Option Addr) (c7:Nat) (hE:EnsIn X 0 X.heap.size A5 (notName l es)) (hN:N6 A7 l X) (hc:nn≤c5) (hf:A5=none∧c5=0∨∃g,A5=some ⟨g,0,none⟩)=>show Calls Tryz.prog 182 #[.slice A5 nn c5,.agg #[.slice A7 l.length c7,.int .i64 val,.int .i64 m,.int .i64 (x+1)]] X (fun r w'=>∃A8 c8,r=.returned (.slice A8 (puE vec es m l val).length c8)∧(puE vec es m l val).length≤c8∧(∃R,A8=some ⟨R,0,none⟩∧X.heap.size≤R)∧EnsIn w' 0 w'.heap.size A8 (puE vec es m l val)∧Below X.heap.size X w') from by
    rw [hnn] at hc ⊢
    have h:=l3insert_any A5 (notName l es) c5 (newE vec m l val) A7 c7 X.heap.size X hE (Nat.le_refl _) (by omega) hc (by rcases hf with h|⟨g,h⟩;exact .inl h;exact .inr ⟨g,0,h⟩) (by rw [HNe.out];exact hN)
    unfold enV at h
    rw [HNe.out] at h
    refine h.mono ?_
    rintro r w' ⟨A8,c8,rfl,h1,⟨R,hR⟩,h3,h4⟩
    have hp:puE vec es m l val=insE (notName l es) ⟨l,val,m,x+1⟩:=by unfold puE;rw [HNe.out]
    rw [hp]
    refine ⟨A8,c8,rfl,h1,⟨R,hR,?_⟩,h3.ens h4.size,h4⟩
    obtain ⟨R',e,hL,_⟩:=h3 (by rw [(ins_perm _ _).length_eq];simp)
    rw [hR] at e
    injection e with e
    injection e with e
    omega)
  have HS1:=hd' (fun (X:World) (hX:S4 W4 X)=>show SrcAt X Ab l.length (vbytes l) from bytes_src (HB.out.keep fun p _ hp=>(Below.cell hX (by omega)).trans (HB4.out.cell hp)))
  obtain ⟨i0,hi,hq0,hq1,hq2⟩:=info_parts Tryz.info5
  have hvb:=vb_length l
  have hvb':(vbytes l).length=l.length*1:=by omega
  have hm1:0+l.length≤maxLen:=by unfold maxLen;omega
  have hm2:(0+l.length)*1≤140737488355328:=by omega
  obtain ⟨pn,hpn⟩:∃y,y=(puE vec es m l val).length:=⟨_,rfl⟩
  rw [←hpn] at HIn
  have HPn:=hd' hpn
  clear hvb hW4 hb74 hb64 hfz r0 r1 f0 f1 HB6 HY6 HX6 HF6 HB7 HT7 v0 vf q0 hnn hpn
  go_region_held3 (fun X=>X.cell? ⟨w.heap.size,1,none⟩=some (.slice A es.length cA)∧X.cell? ⟨w6.heap.size,0,none⟩=some (.slice (some ⟨g,o,none⟩) vec.length c6)∧X.cell? ⟨g,o+m,none⟩=some (.int .i64 (x+1)))
    (first|(refine HCellS.out _ _ ?_;with_reducible exact HS8.out)|(refine HCell.out _ ?_;repeat first|with_reducible exact HS0.out|with_reducible exact HS5.out|with_reducible exact HS7.out|with_reducible exact HS8.out|with_reducible apply S4.drew|with_reducible apply S4.alloc))
    (first
      | (go_simp
         go_at_call 146
         refine (HWt.out _ ?_).mono ?_
         · repeat first|with_reducible exact HS0.out|with_reducible exact HS5.out|with_reducible exact HS7.out|with_reducible exact HS8.out|with_reducible apply S4.drew|with_reducible apply S4.alloc
         rintro r w5 ⟨A5,c5,rfl,hc5,hf5,he5,hb5⟩
         have HE5:=hd' he5
         have HBx5:=hd' hb5
         have HK5:=hd' (fun (n:Nat) (ob:Obj) (h:_=some ob)=>(hb5.block n (Array.getElem?_eq_some_iff.1 h).1).trans h)
         have HF5:=hd' (And.intro hc5 hf5)
         have HS5:=hd' (show S4 W4 w5 from S4.below (by repeat first|with_reducible exact HS0.out|with_reducible exact HS5.out|with_reducible exact HS7.out|with_reducible exact HS8.out|with_reducible apply S4.drew|with_reducible apply S4.alloc) hb5)
         obtain ⟨y1,s0,s1,sv,sf⟩:=HC4.out w5 HS5.out
         have hz5:=Below.size HS5.out
         have lh5:w.heap.size < w5.heap.size:=by omega
         have lq5:w6.heap.size < w5.heap.size:=by omega
         have lg5:g < w5.heap.size:=by omega
         clear hc5 hf5 he5 hb5
         go_wp2_with fail)
      | (refine step_append_anyE (by rfl) _ _ _ (by rfl) W4.heap.size 5 i0 _ 1 1 Tryz.underlying61 hi hq0 hq1 hq2 rfl (by decide) (.slice (some ⟨_,0,none⟩) 0 0) 0 [] (by rfl) (owns_empty ?_ ?_) Ab l.length cb (vbytes l) (by rfl) hvb' (HS1.out _ ?_) (vb_one l) hm1 hm2 ?_ ?_
         · first|exact Nat.le_refl _|omega|(simp;done)|(simp;omega)
         · first|exact heap_alloc_new _ _|exact heap_oldE (heap_alloc_new _ _)|(refine heap_newF _ ?_;first|rfl|(simp;done))|(refine heap_drewF (heap_newF _ ?_);first|rfl|(simp;done))|(refine HK5.out _ _ ?_;first|exact heap_alloc_new _ _|(refine heap_newF _ ?_;first|rfl|(simp;done)))
         · repeat first|with_reducible exact HS0.out|with_reducible exact HS5.out|with_reducible exact HS7.out|with_reducible exact HS8.out|with_reducible apply S4.drew|with_reducible apply S4.alloc
         · first|omega|(simp;done)|(simp;omega)
         intro A7 c7 w7 hown7 hgr7
         rw [Nat.zero_add,List.nil_append] at hown7
         have HS7:=hd' (show S4 W4 w7 from S4.grown (by repeat first|with_reducible exact HS0.out|with_reducible exact HS5.out|with_reducible exact HS7.out|with_reducible exact HS8.out|with_reducible apply S4.drew|with_reducible apply S4.alloc) hgr7 (fun g hg=>by simp [Value.ownBlock] at hg;omega))
         have HN7:=hd' (show N6 A7 l w7 from fun hl=>by
           obtain ⟨b,o,e,hL,hb,hc⟩:=bytes_of_row hown7 hl
           exact ⟨b,o,e,Nat.zero_le _,hb,fun j hj=>(hc j hj).1⟩)
         have HG7:=hd' hgr7
         obtain ⟨y1,s0,s1,sv,sf⟩:=HC4.out w7 HS7.out
         have hz7:=Below.size HS7.out
         have lh7:w.heap.size < w7.heap.size:=by omega
         have lq7:w6.heap.size < w7.heap.size:=by omega
         have lg7:g < w7.heap.size:=by omega
         clear hgr7 hown7)
      | (go_simp
         go_at_call 182
         refine (HIn.out _ A5 c5 A7 c7 ?_ ?_ HF5.out.1 HF5.out.2).mono ?_
         · apply E6.ens
           first
             | with_reducible exact HE5.out
             | (apply E6.grown (hg:=HG7.out)
                case h=>repeat first|with_reducible exact HE5.out|with_reducible apply E6.drew|with_reducible apply E6.alloc
                case hr =>
                  intro k hk
                  simp [Value.ownBlock] at hk
                  subst hk
                  first|(simp;done)|(simp;omega))
         · repeat first|with_reducible exact HN7.out|with_reducible apply N6.drew|with_reducible refine N6.below ?_ HBx5.out
         rintro r w8 ⟨A8,c8,rfl,hc8,hR8,he8,hb8⟩
         have HC8:=hd' hc8
         have HR8:=hd' (show ∃R,A8=some ⟨R,0,none⟩∧W4.heap.size≤R from by
           obtain ⟨R,e,hR⟩:=hR8
           first|exact ⟨R,e,Nat.le_trans hz7 hR⟩|exact ⟨R,e,Nat.le_trans hz5 hR⟩)
         have HE8:=hd' he8
         have HS8:=hd' (show S4 W4 w8 from S4.below (by repeat first|with_reducible exact HS0.out|with_reducible exact HS5.out|with_reducible exact HS7.out|with_reducible exact HS8.out|with_reducible apply S4.drew|with_reducible apply S4.alloc) hb8)
         obtain ⟨y1,s0,s1,sv,sf⟩:=HC4.out w8 HS8.out
         have hz8:=Below.size HS8.out
         have lh8:w.heap.size < w8.heap.size:=by omega
         have lq8:w6.heap.size < w8.heap.size:=by omega
         have lg8:g < w8.heap.size:=by omega
         clear hR8 he8 hb8 hc8
         go_wp2_with fail))
  all_goals
    obtain ⟨W9,hW9⟩:∃X,X=w8.setCell ⟨w6.heap.size,1,none⟩ (.slice A8 pn c8):=⟨_,rfl⟩
    obtain ⟨y1,s0,s1,sv,sf⟩:=HC4.out w8 HS8.out
    obtain ⟨r0,r1,f0,f1⟩:=HR4.out
    obtain ⟨R,hRe,hRl⟩:=HR8.out
    have HRow:=hd' (show ∃g,A8=some ⟨g,0,none⟩ from ⟨R,hRe⟩)
    have hb48:Below W4.heap.size W4 w8:=HS8.out
    have lh1:w.heap.size+1 < W4.heap.size:=by omega
    have x0:w8.cell? ⟨w.heap.size+1,0,none⟩=some (.slice none 0 0):=(hb48.cell (p:=⟨w.heap.size+1,0,none⟩) lh1).trans r0
    have x1:w8.cell? ⟨w.heap.size+1,1,none⟩=some (.slice none 0 0):=(hb48.cell (p:=⟨w.heap.size+1,1,none⟩) lh1).trans r1
    have p0:W9.cell? ⟨w6.heap.size,0,none⟩=some (.slice (some ⟨g,o,none⟩) vec.length c6):=by rw [hW9];exact (HCellS.out w8 _ HS8.out).2.1
    have p1:W9.cell? ⟨w6.heap.size,1,none⟩=some (.slice A8 pn c8):=by rw [hW9];exact World.cell?_setCell_same _ _ _ s1
    have t0:W9.cell? ⟨w.heap.size+1,0,none⟩=some (.slice none 0 0):=by rw [hW9,World.cell?_setCell_other _ _ _ _ (fun e=>by injection e;omega)];exact x0
    have t1:W9.cell? ⟨w.heap.size+1,1,none⟩=some (.slice none 0 0):=by rw [hW9,World.cell?_setCell_other _ _ _ _ (fun e=>by injection e;omega)];exact x1
    have z0:W9.frozen? ⟨w.heap.size+1,0,none⟩=false:=by rw [hW9,World.frozen?_setCell];exact (hb48.frozen (p:=⟨w.heap.size+1,0,none⟩) lh1).trans f0
    have z1:W9.frozen? ⟨w.heap.size+1,1,none⟩=false:=by rw [hW9,World.frozen?_setCell];exact (hb48.frozen (p:=⟨w.heap.size+1,1,none⟩) lh1).trans f1
    have hneR:∀b,b < W4.heap.size→∀b' o',A8=some ⟨b',o',none⟩→b'≠b:=fun b hb b' o' e=>by
      rw [hRe] at e
      injection e with e
      injection e with e
      omega
    have HE9:=hd' (show EnsIn W9 0 w8.heap.size A8 (puE vec es m l val) from by rw [hW9];exact ens_set1 HE8.out s1 (fun b' o' e=>hneR w6.heap.size lq b' o' e) _)
    have HI9:=hd' (show IntsIn W9 g (g+1) (some ⟨g,o,none⟩) (vec.set m (x+1)) from by
      rw [hW9]
      exact hIs.out.keep fun p h1 h2=>(World.cell?_setCell_other _ _ _ _ (fun e=>by rw [←e] at h2;have h3:w6.heap.size < g+1:=h2;omega)).trans (hb48.cell (by omega)))
    have HB9:=hd' (show Below w.heap.size w W9 from by rw [hW9];exact (HB4.out.trans (hb48.mono (by omega))).setCell (show w.heap.size≤w6.heap.size by omega) _)
    have HT9:=hd' (And.intro t0 t1)
    have hz9:W9.heap.size=w8.heap.size:=by rw [hW9];simp
    have HZ9:=hd' hz9
    have HNR:=hd' (hneR (w.heap.size+1) lh1)
    obtain ⟨g0,g1⟩:=two_get (v0:=.slice (some ⟨g,o,none⟩) vec.length c6) (v1:=.slice A8 pn c8) t0 t1
    have HG:=hd' (And.intro g0 g1)
    rw [←hW9]
    clear hW9 y1 s0 s1 sv sf r0 r1 f0 f1 hRe x0 x1 hneR hz9 g0 g1 hb48
    go_wp2_with fail
    obtain ⟨g0,g1⟩:=HG.out
    refine bodyPost_ret (v:=.agg #[.slice (some ⟨g,o,none⟩) vec.length c6,.slice A8 pn c8]) (by simp [results,Tryz.results140,g0,g1,go_sem]) rfl ?_
    refine ⟨some ⟨g,o,none⟩,c6,A8,c8,by rw [HPn.out],by rw [←HPn.out];exact HC8.out,fun hl=>?_,?_,HRow.out,?_⟩
    · rw [hpuv.out] at hl ⊢
      obtain ⟨b,o',e,h1,h2,hc⟩:=(HI9.out.keep fun p h1 h2=>(two_other (w:=W9) (b:=w.heap.size+1) (p:=p) (by omega)).1) hl
      exact ⟨b,o',e,Nat.zero_le _,by have:=HZ9.out;simp;omega,hc⟩
    · have h1:=ens_set1 HE9.out HT9.out.1 (fun b' o' e=>HNR.out b' o' e) (.slice (some ⟨g,o,none⟩) vec.length c6)
      have h2:=ens_set1 (p:=⟨w.heap.size+1,1,none⟩) h1 ((World.cell?_setCell_other _ _ _ _ (by simp)).trans HT9.out.2) (fun b' o' e=>HNR.out b' o' e) (.slice A8 pn c8)
      exact h2.mono (by have:=HZ9.out;simp;omega)
    · exact (HB9.out.setCell (show w.heap.size≤w.heap.size+1 by omega) _).setCell (show w.heap.size≤w.heap.size+1 by omega) _
theorem l3put_any (AV:Option Addr) (vec:List Int) (cv:Nat) (A:Option Addr) (es:List En) (cA:Nat) (Ab:Option Addr) (l:List UInt8) (cb m:Nat) (val:Int) (w:World) (hV:IntsIn w 0 w.heap.size AV vec) (hA:EnsIn w 0 w.heap.size A es) (hB:BytesIn w 0 w.heap.size Ab l) (hvl:vec.length≤1048576) (hn:es.length≤999) (hm:m < vec.length) (hx0:0≤vec.getD m 0) (hx1:vec.getD m 0≤1000000) (hll:l.length≤1048576) :
    Calls Tryz.prog 140 #[.agg #[.slice AV vec.length cv,.slice A es.length cA],.int .i64 m,.slice Ab l.length cb,.int .i64 val] w
      fun r w'=>∃AV' cv' A' c',r=.returned (.agg #[.slice AV' vec.length cv',.slice A' (puE vec es m l val).length c'])∧(puE vec es m l val).length≤c'∧IntsIn w' 0 w'.heap.size AV' (puV vec m)∧EnsIn w' 0 w'.heap.size A' (puE vec es m l val)∧Below w.heap.size w w' :=
  (l3put_own AV vec cv A es cA Ab l cb m val w hV hA hB hvl hn hm hx0 hx1 hll).mono fun _ _ ⟨AV',cv',A',c',h1,h2,h3,h4,_,h5⟩=>⟨AV',cv',A',c',h1,h2,h3,h4,h5⟩
end Go.Proofs.YtckajeippfpojaaGreat
namespace Go.Proofs.YtckajeippfpojaaGreat
open Go.RowKit Go.Maps
set_option maxRecDepth 100000
set_option maxHeartbeats 4000000 in
theorem specPut_any (AV:Option Addr) (vec:List Int) (cv:Nat) (A:Option Addr) (es:List En) (c:Nat) (b:Int) (Ab:Option Addr) (l:List UInt8) (cb:Nat) (val:Int) (w:World) (hV:IntsIn w 0 w.heap.size AV vec) (hA:EnsIn w 0 w.heap.size A es) (hv:vec.length≤1048576) (hn:es.length≤1048576) (hbk:ebulk es≤1048576) (hB:BytesIn w 0 w.heap.size Ab l) (hbl:l.length≤1048576) (hc:es.length≤c:=by omega) :
    Calls Tryz.prog 80 #[.agg #[.slice AV vec.length cv,.slice A es.length c],.int .i64 b,.slice Ab l.length cb,.int .i64 val] w (NewTrB (puVec vec es b l val) (puEs vec es b l val) (puOk vec es b l val) w):=by
  have HV:=hd' hV
  have HA:=hd' hA
  have HB:=hd' hB
  clear hV hA hB
  go_enter Tryz.func80,Tryz.ntmps80
  go_wp2_with fail
  obtain ⟨W0,hW0⟩:∃W0,W0=w.alloc (.cells #[.slice AV vec.length cv,.slice A es.length c] 38):=⟨_,rfl⟩
  obtain ⟨W,hW⟩:∃W,W=W0.alloc (.cells #[.slice none 0 0,.slice none 0 0] 38):=⟨_,rfl⟩
  have hz0:W0.heap.size=w.heap.size+1:=by rw [hW0];simp
  have hz:w.heap.size+1 < W.heap.size:=by rw [hW];simp [hz0]
  have HY:=hd' (show Bx W w.heap.size [.slice AV vec.length cv,.slice A es.length c] by rw [hW];exact Bx.alloc (by rw [hW0];exact Bx.new' _ _ _ _ rfl) (by omega) _)
  have HX:=hd' (show Bx W (w.heap.size+1) [.slice none 0 0,.slice none 0 0] by rw [hW,←hz0];exact Bx.new' _ _ _ _ rfl)
  have HF:=hd' (show ∀o,W.frozen? ⟨w.heap.size+1,o,none⟩=false from fun o=>by rw [hW,hW0];exact (((Fresh.refl w).alloc _ _).alloc _ _) ⟨w.heap.size+1,o,none⟩ (by show w.heap.size≤w.heap.size+1;omega))
  have HBel:=hd' (show Below w.heap.size w W by rw [hW,hW0];exact ((Below.refl _ _).alloc (Nat.le_refl _) _).alloc (by simp) _)
  rw [←hW0,←hW]
  clear hW hW0 hz0
  refine (specTreeOk_any AV vec cv A es c W ((HV.out.keep fun p _ hp=>HBel.out.cell hp).mono (by omega)) ((HA.out.below HBel.out).mono (by omega)) hv hn hbk hc).mono ?_
  rintro e w1 ⟨rfl,hb1⟩
  have HB1:=hd' (HBel.out.trans (hb1.mono (by omega)))
  have HX1:=hd' (HX.out.below hb1 hz)
  have HY1:=hd' (HY.out.below hb1 (by omega))
  have HF1:=hd' (show ∀o,w1.frozen? ⟨w.heap.size+1,o,none⟩=false from fun o=>(hb1.frozen (p:=⟨w.heap.size+1,o,none⟩) hz).trans (HF.out o))
  have hz1:=hb1.size
  clear hb1
  have lw1:w.heap.size+1 < w1.heap.size:=by omega
  have r0:=HX1.out 0 (by simp)
  have r1:=HX1.out 1 (by simp)
  have y0:=HY1.out 0 (by simp)
  have y1:=HY1.out 1 (by simp)
  simp only [List.getElem_cons_succ,List.getElem_cons_zero] at r0 r1 y0 y1
  have f0:=HF1.out 0
  have f1:=HF1.out 1
  cases htb:treeB vec es with
  | false =>
    have HTb:=hd' htb
    clear htb
    have HO:=hd' (show puOk vec es b l val=false from pur_f1 HTb.out)
    have HN:=hd' (pur_no HO.out)
    have HQ:=hd' (two_get (v0:=.slice none 0 0) (v1:=.slice none 0 0) r0 r1)
    have HB2:=hd' (show Below w.heap.size w ((w1.setCell ⟨w.heap.size+1,0,none⟩ (.slice none 0 0)).setCell ⟨w.heap.size+1,1,none⟩ (.slice none 0 0)) from (HB1.out.setCell (by simp) _).setCell (by simp) _)
    go_wp2_with fail
    have hB3:=HB2.out
    obtain ⟨q0,q1⟩:=HQ.out
    have hsz:w.heap.size < ((w1.setCell ⟨w.heap.size+1,0,none⟩ (.slice none 0 0)).setCell ⟨w.heap.size+1,1,none⟩ (.slice none 0 0)).heap.size:=by simp;omega
    obtain ⟨W9,hW9⟩:∃W9,W9=(w1.setCell ⟨w.heap.size+1,0,none⟩ (.slice none 0 0)).setCell ⟨w.heap.size+1,1,none⟩ (.slice none 0 0):=⟨_,rfl⟩
    rw [←hW9] at q0 q1 hB3 hsz ⊢
    refine bodyPost_ret (v:=.tuple #[.agg #[.slice none 0 0,.slice none 0 0],.bool false]) (by simp [results,Tryz.results80,q0,q1,go_sem]) rfl ?_
    rw [HN.out.1,HN.out.2,HO.out]
    exact ⟨none,0,none,0,rfl,TrOwn.none _ _ _ (by omega),hsz,hB3⟩
  | true =>
  have HTb:=hd' htb
  have hl12:=treeB_len3 htb
  obtain ⟨x0,x1,x2,x3,rfl⟩:=treeB_four htb
  clear htb
  simp only [List.length_cons,List.length_nil] at y0
  by_cases hb0:b < 0
  · have HDv:=hd' (show devB b=false from by unfold devB;simp;omega)
    have HO:=hd' (show puOk [x0,x1,x2,x3] es b l val=false from pur_f2 HDv.out)
    have HN:=hd' (pur_no HO.out)
    have HQ:=hd' (two_get (v0:=.slice none 0 0) (v1:=.slice none 0 0) r0 r1)
    have HB2:=hd' (show Below w.heap.size w ((w1.setCell ⟨w.heap.size+1,0,none⟩ (.slice none 0 0)).setCell ⟨w.heap.size+1,1,none⟩ (.slice none 0 0)) from (HB1.out.setCell (by simp) _).setCell (by simp) _)
    go_wp2_with fail
    have hB3:=HB2.out
    obtain ⟨q0,q1⟩:=HQ.out
    have hsz:w.heap.size < ((w1.setCell ⟨w.heap.size+1,0,none⟩ (.slice none 0 0)).setCell ⟨w.heap.size+1,1,none⟩ (.slice none 0 0)).heap.size:=by simp;omega
    obtain ⟨W9,hW9⟩:∃W9,W9=(w1.setCell ⟨w.heap.size+1,0,none⟩ (.slice none 0 0)).setCell ⟨w.heap.size+1,1,none⟩ (.slice none 0 0):=⟨_,rfl⟩
    rw [←hW9] at q0 q1 hB3 hsz ⊢
    refine bodyPost_ret (v:=.tuple #[.agg #[.slice none 0 0,.slice none 0 0],.bool false]) (by simp [results,Tryz.results80,q0,q1,go_sem]) rfl ?_
    rw [HN.out.1,HN.out.2,HO.out]
    exact ⟨none,0,none,0,rfl,TrOwn.none _ _ _ (by omega),hsz,hB3⟩
  by_cases hb4:4≤b
  · have HDv:=hd' (show devB b=false from by unfold devB;simp;omega)
    have HO:=hd' (show puOk [x0,x1,x2,x3] es b l val=false from pur_f2 HDv.out)
    have HN:=hd' (pur_no HO.out)
    have HQ:=hd' (two_get (v0:=.slice none 0 0) (v1:=.slice none 0 0) r0 r1)
    have HB2:=hd' (show Below w.heap.size w ((w1.setCell ⟨w.heap.size+1,0,none⟩ (.slice none 0 0)).setCell ⟨w.heap.size+1,1,none⟩ (.slice none 0 0)) from (HB1.out.setCell (by simp) _).setCell (by simp) _)
    go_wp2_with fail
    have hB3:=HB2.out
    obtain ⟨q0,q1⟩:=HQ.out
    have hsz:w.heap.size < ((w1.setCell ⟨w.heap.size+1,0,none⟩ (.slice none 0 0)).setCell ⟨w.heap.size+1,1,none⟩ (.slice none 0 0)).heap.size:=by simp;omega
    obtain ⟨W9,hW9⟩:∃W9,W9=(w1.setCell ⟨w.heap.size+1,0,none⟩ (.slice none 0 0)).setCell ⟨w.heap.size+1,1,none⟩ (.slice none 0 0):=⟨_,rfl⟩
    rw [←hW9] at q0 q1 hB3 hsz ⊢
    refine bodyPost_ret (v:=.tuple #[.agg #[.slice none 0 0,.slice none 0 0],.bool false]) (by simp [results,Tryz.results80,q0,q1,go_sem]) rfl ?_
    rw [HN.out.1,HN.out.2,HO.out]
    exact ⟨none,0,none,0,rfl,TrOwn.none _ _ _ (by omega),hsz,hB3⟩
  obtain ⟨m,rfl⟩:=Int.eq_ofNat_of_zero_le (show 0≤b by omega)
  have hm4:m < 4:=by omega
  have hmi:(m:Int) < 4:=by omega
  have hbn:¬ ((m:Int) < 0):=by omega
  have HDv:=hd' (show devB (m:Int)=true from by unfold devB;simp;omega)
  have hz1':w.heap.size≤w1.heap.size:=by omega
  go_wp2_with fail
  refine (specNameOk_any Ab l cb w1 ((HB.out.keep fun p _ hp=>HB1.out.cell hp).mono (by omega)) (by omega)).mono ?_
  rintro e w2 ⟨rfl,hb2⟩
  have HB2':=hd' (HB1.out.trans (hb2.mono (by omega)))
  have hz2:=hb2.size
  have HX2:=hd' (HX1.out.below hb2 (by omega))
  have HY2:=hd' (HY1.out.below hb2 (by omega))
  have HF2:=hd' (show ∀o,w2.frozen? ⟨w.heap.size+1,o,none⟩=false from fun o=>(hb2.frozen (p:=⟨w.heap.size+1,o,none⟩) (by omega)).trans (HF1.out o))
  clear hb2 r0 r1 y0 y1 f0 f1
  have lw2:w.heap.size+1 < w2.heap.size:=by omega
  have r0:=HX2.out 0 (by simp)
  have r1:=HX2.out 1 (by simp)
  have y0:=HY2.out 0 (by simp)
  have y1:=HY2.out 1 (by simp)
  simp only [List.getElem_cons_succ,List.getElem_cons_zero,List.length_cons,List.length_nil] at r0 r1 y0 y1
  have f0:=HF2.out 0
  have f1:=HF2.out 1
  cases hnb:nameB l with
  | false =>
    have HNb:=hd' hnb
    clear hnb
    have HO:=hd' (show puOk [x0,x1,x2,x3] es m l val=false from pur_f3 HNb.out)
    have HN:=hd' (pur_no HO.out)
    have HQ:=hd' (two_get (v0:=.slice none 0 0) (v1:=.slice none 0 0) r0 r1)
    have HB2:=hd' (show Below w.heap.size w ((w2.setCell ⟨w.heap.size+1,0,none⟩ (.slice none 0 0)).setCell ⟨w.heap.size+1,1,none⟩ (.slice none 0 0)) from (HB2'.out.setCell (by simp) _).setCell (by simp) _)
    go_wp2_with fail
    have hB3:=HB2.out
    obtain ⟨q0,q1⟩:=HQ.out
    have hsz:w.heap.size < ((w2.setCell ⟨w.heap.size+1,0,none⟩ (.slice none 0 0)).setCell ⟨w.heap.size+1,1,none⟩ (.slice none 0 0)).heap.size:=by simp;omega
    obtain ⟨W9,hW9⟩:∃W9,W9=(w2.setCell ⟨w.heap.size+1,0,none⟩ (.slice none 0 0)).setCell ⟨w.heap.size+1,1,none⟩ (.slice none 0 0):=⟨_,rfl⟩
    rw [←hW9] at q0 q1 hB3 hsz ⊢
    refine bodyPost_ret (v:=.tuple #[.agg #[.slice none 0 0,.slice none 0 0],.bool false]) (by simp [results,Tryz.results80,q0,q1,go_sem]) rfl ?_
    rw [HN.out.1,HN.out.2,HO.out]
    exact ⟨none,0,none,0,rfl,TrOwn.none _ _ _ (by omega),hsz,hB3⟩
  | true =>
  have HNb:=hd' hnb
  have HM:=hd' (pu_model (val:=val) HTb.out HDv.out hnb)
  clear hnb
  by_cases hv0:val < 0
  · have HV0:=hd' hv0
    have HO:=hd' (show puOk [x0,x1,x2,x3] es m l val=false from by rw [HM.out];have:=HV0.out;simp;omega)
    have HN:=hd' (pur_no HO.out)
    have HQ:=hd' (two_get (v0:=.slice none 0 0) (v1:=.slice none 0 0) r0 r1)
    have HB2:=hd' (show Below w.heap.size w ((w2.setCell ⟨w.heap.size+1,0,none⟩ (.slice none 0 0)).setCell ⟨w.heap.size+1,1,none⟩ (.slice none 0 0)) from (HB2'.out.setCell (by simp) _).setCell (by simp) _)
    go_wp2_with fail
    have hB3:=HB2.out
    obtain ⟨q0,q1⟩:=HQ.out
    have hsz:w.heap.size < ((w2.setCell ⟨w.heap.size+1,0,none⟩ (.slice none 0 0)).setCell ⟨w.heap.size+1,1,none⟩ (.slice none 0 0)).heap.size:=by simp;omega
    obtain ⟨W9,hW9⟩:∃W9,W9=(w2.setCell ⟨w.heap.size+1,0,none⟩ (.slice none 0 0)).setCell ⟨w.heap.size+1,1,none⟩ (.slice none 0 0):=⟨_,rfl⟩
    rw [←hW9] at q0 q1 hB3 hsz ⊢
    refine bodyPost_ret (v:=.tuple #[.agg #[.slice none 0 0,.slice none 0 0],.bool false]) (by simp [results,Tryz.results80,q0,q1,go_sem]) rfl ?_
    rw [HN.out.1,HN.out.2,HO.out]
    exact ⟨none,0,none,0,rfl,TrOwn.none _ _ _ (by omega),hsz,hB3⟩
  by_cases hv9:999 < val
  · have HV0:=hd' hv9
    have HO:=hd' (show puOk [x0,x1,x2,x3] es m l val=false from by rw [HM.out];have:=HV0.out;simp;omega)
    have HN:=hd' (pur_no HO.out)
    have HQ:=hd' (two_get (v0:=.slice none 0 0) (v1:=.slice none 0 0) r0 r1)
    have HB2:=hd' (show Below w.heap.size w ((w2.setCell ⟨w.heap.size+1,0,none⟩ (.slice none 0 0)).setCell ⟨w.heap.size+1,1,none⟩ (.slice none 0 0)) from (HB2'.out.setCell (by simp) _).setCell (by simp) _)
    go_wp2_with fail
    have hB3:=HB2.out
    obtain ⟨q0,q1⟩:=HQ.out
    have hsz:w.heap.size < ((w2.setCell ⟨w.heap.size+1,0,none⟩ (.slice none 0 0)).setCell ⟨w.heap.size+1,1,none⟩ (.slice none 0 0)).heap.size:=by simp;omega
    obtain ⟨W9,hW9⟩:∃W9,W9=(w2.setCell ⟨w.heap.size+1,0,none⟩ (.slice none 0 0)).setCell ⟨w.heap.size+1,1,none⟩ (.slice none 0 0):=⟨_,rfl⟩
    rw [←hW9] at q0 q1 hB3 hsz ⊢
    refine bodyPost_ret (v:=.tuple #[.agg #[.slice none 0 0,.slice none 0 0],.bool false]) (by simp [results,Tryz.results80,q0,q1,go_sem]) rfl ?_
    rw [HN.out.1,HN.out.2,HO.out]
    exact ⟨none,0,none,0,rfl,TrOwn.none _ _ _ (by omega),hsz,hB3⟩
  obtain ⟨bA,oA,hAe,_,hbA,hcA⟩:=HV.out (by simp)
  subst hAe
  obtain ⟨x,hx⟩:∃x,x=[x0,x1,x2,x3].getD m 0:=⟨_,rfl⟩
  have HXm:=hd' hx
  have HXr:=hd' (show 0≤x∧x≤1000 from by
    have hvb:vecB [x0,x1,x2,x3]=true:=by
      have:=HTb.out
      unfold treeB at this
      simp only [Bool.and_eq_true] at this
      exact this.1.1.1
    unfold vecB at hvb
    simp only [Bool.and_eq_true,List.all_eq_true,decide_eq_true_eq] at hvb
    exact hvb.2 x (by rw [hx,List.getD_eq_getElem?_getD,List.getElem?_eq_getElem (by simpa using hm4)];exact List.getElem_mem _))
  have sx:w2.cell? ⟨bA,oA+m,none⟩=some (.int .i64 x):=by
    rw [HB2'.out.cell (p:=⟨bA,oA+m,none⟩) hbA,hcA m (by simpa using hm4),hx]
    congr 2
    simp [hm4]
  clear hcA hx
  by_cases hx9:1000≤x
  · have HV0:=hd' hx9
    have HO:=hd' (show puOk [x0,x1,x2,x3] es m l val=false from by rw [HM.out,show [x0,x1,x2,x3].getD (Int.toNat (m:Int)) 0=x from by rw [Int.toNat_natCast];exact HXm.out.symm,show decide (x < 1000)=false from by have:=HV0.out;simp;omega];simp)
    have HN:=hd' (pur_no HO.out)
    have HQ:=hd' (two_get (v0:=.slice none 0 0) (v1:=.slice none 0 0) r0 r1)
    have HB2:=hd' (show Below w.heap.size w ((w2.setCell ⟨w.heap.size+1,0,none⟩ (.slice none 0 0)).setCell ⟨w.heap.size+1,1,none⟩ (.slice none 0 0)) from (HB2'.out.setCell (by simp) _).setCell (by simp) _)
    go_wp2_with fail
    have hB3:=HB2.out
    obtain ⟨q0,q1⟩:=HQ.out
    have hsz:w.heap.size < ((w2.setCell ⟨w.heap.size+1,0,none⟩ (.slice none 0 0)).setCell ⟨w.heap.size+1,1,none⟩ (.slice none 0 0)).heap.size:=by simp;omega
    obtain ⟨W9,hW9⟩:∃W9,W9=(w2.setCell ⟨w.heap.size+1,0,none⟩ (.slice none 0 0)).setCell ⟨w.heap.size+1,1,none⟩ (.slice none 0 0):=⟨_,rfl⟩
    rw [←hW9] at q0 q1 hB3 hsz ⊢
    refine bodyPost_ret (v:=.tuple #[.agg #[.slice none 0 0,.slice none 0 0],.bool false]) (by simp [results,Tryz.results80,q0,q1,go_sem]) rfl ?_
    rw [HN.out.1,HN.out.2,HO.out]
    exact ⟨none,0,none,0,rfl,TrOwn.none _ _ _ (by omega),hsz,hB3⟩
  have hx0:=HXr.out.1
  have hv0':(decide (val < 0))=false:=by simp;omega
  have hv9':(decide (999 < val))=false:=by simp;omega
  have hx9':(decide (1000≤x))=false:=by simp;omega
  go_wp2_with fail
  refine (l3put_any (some ⟨bA,oA,none⟩) [x0,x1,x2,x3] cv A es c Ab l cb m val w2 ((HV.out.keep fun p _ hp=>HB2'.out.cell hp).mono (by omega)) ((HA.out.below HB2'.out).mono (by omega)) ((HB.out.keep fun p _ hp=>HB2'.out.cell hp).mono (by omega)) (by simp) (by omega) (by simpa using hm4) (by rw [←HXm.out];exact hx0) (by rw [←HXm.out];omega) hbl).mono ?_
  rintro r w3 ⟨AV',cv',A',c',rfl,hcap,hi3,he3,hb3⟩
  have hE12:(puE [x0,x1,x2,x3] es m l val).length≤13:=by rw [puE_len];have:=notName_le l es;omega
  have HBk:=hd' (puE_bulk (b:=(m:Int)) (val:=val) HTb.out HNb.out)
  obtain ⟨E,hE⟩:∃E,E=puE [x0,x1,x2,x3] es m l val:=⟨_,rfl⟩
  have hp4:(puV [x0,x1,x2,x3] m).length=4:=by simp [puV]
  obtain ⟨p0,p1,p2,p3,hP⟩:∃p0 p1 p2 p3,puV [x0,x1,x2,x3] m=[p0,p1,p2,p3]:=by
    match hq:puV [x0,x1,x2,x3] m,hp4 with
    | [a,b',c,d],_=>exact ⟨a,b',c,d,rfl⟩
  rw [←hE] at hcap he3 hE12 HBk HM ⊢
  rw [hP] at hi3 HM
  have HE:=hd' hE
  have HP:=hd' hP
  clear hE hP hp4
  have hz3:=hb3.size
  have lw3:w.heap.size+1 < w3.heap.size:=by omega
  have HI3:=hd' hi3
  have HE3:=hd' he3
  have HB3:=hd' (HB2'.out.trans (hb3.mono (by omega)))
  have HX3:=hd' (HX2.out.below hb3 (by omega))
  have HF3:=hd' (show ∀o,w3.frozen? ⟨w.heap.size+1,o,none⟩=false from fun o=>(hb3.frozen (p:=⟨w.heap.size+1,o,none⟩) (by omega)).trans (HF2.out o))
  clear hi3 he3 hb3 r0 r1 y0 y1 f0 f1 sx
  go_wp2_with fail
  obtain ⟨W4,hW4⟩:∃W4,W4=w3.alloc (.cells #[.slice AV' 4 cv',.slice A' E.length c'] 38):=⟨_,rfl⟩
  have hb4':Below w3.heap.size w3 W4:=by rw [hW4];exact (Below.refl _ _).alloc (Nat.le_refl _) _
  have hz4:w3.heap.size < W4.heap.size:=by rw [hW4];simp
  have lw4:w.heap.size+1 < W4.heap.size:=by omega
  have HZ4:=hd' (show Bx W4 w3.heap.size [.slice AV' 4 cv',.slice A' E.length c'] by rw [hW4];exact Bx.new' _ _ _ _ rfl)
  have HI4:=hd' (show IntsIn W4 0 W4.heap.size AV' [p0,p1,p2,p3] from (HI3.out.keep fun p _ hp=>hb4'.cell hp).mono (by omega))
  have HE4:=hd' (show EnsIn W4 0 W4.heap.size A' E from (HE3.out.below hb4').mono (by omega))
  have HB4:=hd' (HB3.out.trans (hb4'.mono (by omega)))
  have HX4:=hd' (HX3.out.below hb4' lw3)
  have HF4:=hd' (show ∀o,W4.frozen? ⟨w.heap.size+1,o,none⟩=false from fun o=>(hb4'.frozen (p:=⟨w.heap.size+1,o,none⟩) lw3).trans (HF3.out o))
  rw [←hW4]
  clear hW4 hb4'
  refine (specTreeOk_any AV' [p0,p1,p2,p3] cv' A' E c' W4 HI4.out HE4.out (by simp) (by omega) HBk.out hcap).mono ?_
  rintro e w5 ⟨rfl,hb5⟩
  have hz5:=hb5.size
  have HB5:=hd' (HB4.out.trans (hb5.mono (by omega)))
  have HX5:=hd' (HX4.out.below hb5 lw4)
  have HZ5:=hd' (HZ4.out.below hb5 (by omega))
  have HF5:=hd' (show ∀o,w5.frozen? ⟨w.heap.size+1,o,none⟩=false from fun o=>(hb5.frozen (p:=⟨w.heap.size+1,o,none⟩) lw4).trans (HF4.out o))
  have HI5:=hd' (show IntsIn w5 0 w5.heap.size AV' [p0,p1,p2,p3] from (HI4.out.keep fun p _ hp=>hb5.cell hp).mono (by omega))
  have HE5:=hd' (show EnsIn w5 0 w5.heap.size A' E from (HE4.out.below hb5).mono (by omega))
  clear hb5
  have lw5:w.heap.size+1 < w5.heap.size:=by omega
  have r0:=HX5.out 0 (by simp)
  have r1:=HX5.out 1 (by simp)
  have z0:=HZ5.out 0 (by simp)
  have z1:=HZ5.out 1 (by simp)
  simp only [List.getElem_cons_succ,List.getElem_cons_zero] at r0 r1 z0 z1
  have f0:=HF5.out 0
  have f1:=HF5.out 1
  cases htn:treeB [p0,p1,p2,p3] E with
  | false =>
    have HTn:=hd' htn
    clear htn
    have HO:=hd' (show puOk [x0,x1,x2,x3] es m l val=false from by rw [HM.out,HTn.out];simp)
    have HN:=hd' (pur_no HO.out)
    have HQ:=hd' (two_get (v0:=.slice none 0 0) (v1:=.slice none 0 0) r0 r1)
    have HB2:=hd' (show Below w.heap.size w ((w5.setCell ⟨w.heap.size+1,0,none⟩ (.slice none 0 0)).setCell ⟨w.heap.size+1,1,none⟩ (.slice none 0 0)) from (HB5.out.setCell (by simp) _).setCell (by simp) _)
    go_wp2_with fail
    have hB3:=HB2.out
    obtain ⟨q0,q1⟩:=HQ.out
    have hsz:w.heap.size < ((w5.setCell ⟨w.heap.size+1,0,none⟩ (.slice none 0 0)).setCell ⟨w.heap.size+1,1,none⟩ (.slice none 0 0)).heap.size:=by simp;omega
    obtain ⟨W9,hW9⟩:∃W9,W9=(w5.setCell ⟨w.heap.size+1,0,none⟩ (.slice none 0 0)).setCell ⟨w.heap.size+1,1,none⟩ (.slice none 0 0):=⟨_,rfl⟩
    rw [←hW9] at q0 q1 hB3 hsz ⊢
    refine bodyPost_ret (v:=.tuple #[.agg #[.slice none 0 0,.slice none 0 0],.bool false]) (by simp [results,Tryz.results80,q0,q1,go_sem]) rfl ?_
    rw [HN.out.1,HN.out.2,HO.out]
    exact ⟨none,0,none,0,rfl,TrOwn.none _ _ _ (by omega),hsz,hB3⟩
  | true =>
  have HO:=hd' (show puOk [x0,x1,x2,x3] es m l val=true from by rw [HM.out,htn,Bool.and_true,show [x0,x1,x2,x3].getD (Int.toNat (m:Int)) 0=x from by rw [Int.toNat_natCast];exact HXm.out.symm];simp;omega)
  clear htn
  go_wp2_with fail
  refine (l3own_gen AV' [p0,p1,p2,p3] cv' A' E c' w5 HI5.out HE5.out (by simp) (by omega) HBk.out).mono ?_
  rintro r w6 ⟨AV5,cv5,A5,c5,rfl,htr,hlt6,hb6⟩
  have HTr:=hd' htr
  have HB6:=hd' (HB5.out.trans (hb6.mono (by omega)))
  have q0:=(hb6.cell (p:=⟨w.heap.size+1,0,none⟩) lw5).trans r0
  have q1:=(hb6.cell (p:=⟨w.heap.size+1,1,none⟩) lw5).trans r1
  have qf0:=(hb6.frozen (p:=⟨w.heap.size+1,0,none⟩) lw5).trans f0
  have qf1:=(hb6.frozen (p:=⟨w.heap.size+1,1,none⟩) lw5).trans f1
  have HQ:=hd' (two_get (v0:=.slice AV5 4 cv5) (v1:=.slice A5 E.length c5) q0 q1)
  clear htr hb6 r0 r1 f0 f1 z0 z1
  go_wp2_with fail
  obtain ⟨g0,g1⟩:=HQ.out
  have hB9:Below w.heap.size w ((w6.setCell ⟨w.heap.size+1,0,none⟩ (.slice AV5 4 cv5)).setCell ⟨w.heap.size+1,1,none⟩ (.slice A5 E.length c5)):=(HB6.out.setCell (by simp) _).setCell (by simp) _
  have hT9:TrOwn ((w6.setCell ⟨w.heap.size+1,0,none⟩ (.slice AV5 4 cv5)).setCell ⟨w.heap.size+1,1,none⟩ (.slice A5 E.length c5)) w5.heap.size w6.heap.size AV5 [p0,p1,p2,p3] A5 E:=HTr.out.keep fun p hp _=>two_other (by omega)
  have hs9:((w6.setCell ⟨w.heap.size+1,0,none⟩ (.slice AV5 4 cv5)).setCell ⟨w.heap.size+1,1,none⟩ (.slice A5 E.length c5)).heap.size=w6.heap.size:=by simp
  obtain ⟨W9,hW9⟩:∃W9,W9=(w6.setCell ⟨w.heap.size+1,0,none⟩ (.slice AV5 4 cv5)).setCell ⟨w.heap.size+1,1,none⟩ (.slice A5 E.length c5):=⟨_,rfl⟩
  rw [←hW9] at g0 g1 hB9 hT9 hs9 ⊢
  refine bodyPost_ret (v:=.tuple #[.agg #[.slice AV5 4 cv5,.slice A5 E.length c5],.bool true]) (by simp [results,Tryz.results80,g0,g1,go_sem]) rfl ?_
  rw [(pur_yes HO.out).1,(pur_yes HO.out).2,HO.out,HP.out,←HE.out]
  exact ⟨AV5,cv5,A5,c5,rfl,hT9.mono (show w.heap.size≤w5.heap.size by omega) (show w6.heap.size≤W9.heap.size by omega),by omega,hB9⟩
end Go.Proofs.YtckajeippfpojaaGreat
