import Derived.Deep.AppendSrc
import Derived.Laws.IdiomStrings
import Derived.Lib.OthersKept
namespace Go.Proofs.YtckajeippfpojaaGreat
open Go.RowKit
theorem byt_alloc_old (w:World) (o:Obj) {r:Nat} (h:r < w.heap.size):(w.alloc o).heap[r]?=w.heap[r]?:=by
  show (w.heap.push o)[r]?=_
  rw [Array.getElem?_push_lt h,Array.getElem?_eq_getElem h]
def Byt (w:World) (B:Nat) (e:TypeId) (v:Value) (n:Nat) (xs:List Value):Prop :=
  xs.length=n∧∃g cap cur fz,v=.slice (some ⟨g,0,none⟩) n cap∧B≤g∧w.heap[g]?=some (.cells cur e fz)∧(fz.2=0∨cap≤fz.1)∧n≤cap∧cap≤maxLen∧cur.size=cap∧cur.toList.take n=xs
theorem setCells_row (g:Nat) (e:TypeId) (fz:Nat × Nat):∀(vs:List Value) (o:Nat) (cur:Array Value) (w:World),w.heap[g]?=some (.cells cur e fz)→o+vs.length≤cur.size →
    ∃cur',(w.setCells g o vs).heap[g]?=some (.cells cur' e fz)∧cur'.size=cur.size∧cur'.toList.take (o+vs.length)=cur.toList.take o++vs
  | [],o,cur,w,hg,_=>⟨cur,hg,rfl,by simp⟩
  | v :: r,o,cur,w,hg,hl=>by
    simp only [List.length_cons] at hl
    have hg':(w.setCell ⟨g,o,none⟩ v).heap[g]?=some (.cells (cur.setIfInBounds o v) e fz):=by
      simp [World.setCell,Array.getElem?_modify,hg]
    obtain ⟨cur',h1,h2,h3⟩:=setCells_row g e fz r (o+1) (cur.setIfInBounds o v) _ hg' (by simp;omega)
    refine ⟨cur',h1,by simpa using h2,?_⟩
    have hlt:o < cur.toList.length:=by simp;omega
    have hset:(cur.toList.set o v).take (o+1)=cur.toList.take o++[v]:=by
      rw [List.take_add_one,List.getElem?_set_self hlt]
      simp [List.take_set_of_le]
    rw [List.length_cons,show o+(r.length+1)=o+1+r.length by omega,h3,Array.toList_setIfInBounds,hset,List.append_assoc]
    rfl
theorem setCells_grown (g:Nat):∀(vs:List Value) (o:Nat) (w:World),w.grownBy (w.setCells g o vs) (some g)
  | [],_,_=>⟨rfl,rfl,rfl,Nat.le_refl _,fun _ _ _=>rfl⟩
  | v :: r,o,w=>by
    have h:=setCells_grown g r (o+1) (w.setCell ⟨g,o,none⟩ v)
    have hs:(w.setCell ⟨g,o,none⟩ v).heap.size=w.heap.size:=by simp [World.setCell]
    refine ⟨h.os,h.tape,h.output,by rw [←hs];exact h.size,fun k hk hne=>?_⟩
    rw [World.setCells,h.block k (by omega) hne]
    exact Below.heap_setCell _ _ _ _ (fun e=>hne (by rw [e]))
section
variable {w:World} {B:Nat} {e:TypeId} {v:Value} {n:Nat} {xs:List Value}
theorem Byt.lt (h:Byt w B e v n xs):∀k,v.ownBlock=some k→B≤k∧k < w.heap.size:=by
  intro k hk
  obtain ⟨_,g,cap,cur,fz,rfl,hb,hg,_⟩:=h
  simp [Value.ownBlock] at hk
  subst hk
  exact ⟨hb,(Array.getElem?_eq_some_iff.1 hg).1⟩
theorem Byt.kept {w':World} {row:Option Nat} (h:Byt w B e v n xs) (hg:w.grownBy w' row) (hne:v.ownBlock≠row):Byt w' B e v n xs:=by
  obtain ⟨hl,g,cap,cur,fz,rfl,hb,hgg,rest⟩:=h
  refine ⟨hl,g,cap,cur,fz,rfl,hb,?_,rest⟩
  rw [hg.block g (Array.getElem?_eq_some_iff.1 hgg).1 (by simpa [Value.ownBlock] using hne)]
  exact hgg
theorem Byt.same {w':World} (h:Byt w B e v n xs) (hw:∀g,g < w.heap.size→w'.heap[g]?=w.heap[g]?):Byt w' B e v n xs:=by
  obtain ⟨hl,g,cap,cur,fz,rfl,hb,hgg,rest⟩:=h
  exact ⟨hl,g,cap,cur,fz,rfl,hb,(hw g (Array.getElem?_eq_some_iff.1 hgg).1).trans hgg,rest⟩
theorem Byt.drew (h:Byt w B e v n xs):Byt w.drew B e v n xs:=h
theorem Byt.alloc (h:Byt w B e v n xs) (o:Obj):Byt (w.alloc o) B e v n xs:=h.same fun _ hg=>byt_alloc_old w o hg
theorem Byt.kind (h:Byt w B e v n xs):∀g,v.ownBlock=some g→∃c fz,w.heap[g]?=some (.cells c e fz):=by
  intro k hk
  obtain ⟨_,g,cap,cur,fz,rfl,hb,hg,_⟩:=h
  simp [Value.ownBlock] at hk
  subst hk
  exact ⟨cur,fz,hg⟩
theorem Byt.cells (h:Byt w B e v n xs):∃g cap,v=.slice (some ⟨g,0,none⟩) n cap∧n≤cap∧cap≤maxLen∧B≤g∧g < w.heap.size∧∀j u,xs[j]?=some u→w.cell? ((⟨g,0,none⟩:Addr).add j)=some u:=by
  obtain ⟨hl,g,cap,cur,fz,rfl,hb,hgg,_,hnc,hcm,_,htake⟩:=h
  refine ⟨g,cap,rfl,hnc,hcm,hb,(Array.getElem?_eq_some_iff.1 hgg).1,fun j u hu=>?_⟩
  have hadd:(⟨g,0,none⟩:Addr).add j=⟨g,j,none⟩:=by unfold Addr.add;split <;> simp_all
  rw [hadd,cell_of_row w g j cur e fz hgg]
  rw [←htake,List.getElem?_take] at hu
  split at hu
  · simpa using hu
  · cases hu
theorem Byt.of (h:w.ownsRow B e 1 v n xs) (hv:v≠.slice none 0 0):Byt w B e v n xs:=by
  rcases h.2 with ⟨rfl,_⟩|⟨g,cap,cur,rfl,hb,hg,hnc,hcm,hcs,htake⟩
  · exact absurd rfl hv
  · exact ⟨by simpa using h.1,g,cap,cur,(0,0),rfl,hb,hg,.inl rfl,hnc,hcm,by simpa using hcs,by simpa using htake⟩
theorem Byt.ofString (w:World) (e:TypeId) (s:ByteArray) (hB:B≤w.heap.size) (hs:s.size≤maxLen) :
    Byt (w.drew.alloc (.cells (bytesRow s (grownCap w s.size 0 e)) e ((bytesRow s (grownCap w s.size 0 e)).size,(bytesRow s (grownCap w s.size 0 e)).size+1))) B e
      (.slice (some ⟨w.heap.size,0,none⟩) s.size (grownCap w s.size 0 e)) s.size (byteCells s):=by
  have hge:=grownCap_ge w s.size 0 e
  have hsz:(bytesRow s (grownCap w s.size 0 e)).size=grownCap w s.size 0 e:=by
    have hd:s.data.size=s.size:=rfl
    simp only [bytesRow,Array.size_append,Array.size_map,Array.size_replicate,hd]
    omega
  refine ⟨byteCells_length s,w.heap.size,grownCap w s.size 0 e,_,_,rfl,hB,heap_alloc_new w.drew _,.inr (by simp [hsz]),hge,grownCap_le_maxLen w s.size 0 e hs,hsz,?_⟩
  have hl:(byteCells s).length=s.size:=byteCells_length s
  have e1:(bytesRow s (grownCap w s.size 0 e)).toList=byteCells s++List.replicate (grownCap w s.size 0 e - s.size) (.int .u8 0):=by simp [bytesRow,byteCells]
  rw [e1,←hl]
  exact List.take_left
end
section
variable {P:Program} (w:World)
theorem run_append_byt (B:Nat) (t tx ty e:TypeId) (i:TypeInfo) (ht:P.underlying t=some (.slice e)) (hi:P.info? e=some i) (hz:i.zero=some (.int .u8 0)) (hsize:i.size=1) (hby:i.bytes=1)
    (v:Value) (n:Nat) (xs:List Value) (hown:Byt w B e v n xs) (x:Value) (m:Nat) (news:List Value) (hs:Src P 1 tx x m news w) (hlim:n+m≤140737488355328) (hB:B≤w.heap.size) :
    ∃v' w',(Builtin.append_ #[t,tx] ty #[v,x]).run P w=.ok v' w'∧Byt w' B e v' (n+m) (xs++news)∧w.grownBy w' v.ownBlock:=by
  have hown0:=hown
  obtain ⟨hl,g,cap,cur,fz,rfl,hb,hgg,hfz,hnc,hcm,hcs,htake⟩:=hown
  obtain ⟨g0,cap0,e0,_,_,_,_,hcell⟩:=hown0.cells
  injection e0 with e0 _ _
  injection e0 with e0
  injection e0 with e0 _ _
  subst e0
  have hm:news.length=m:=by simpa using hs.newsLen
  by_cases hroom:n+m≤cap
  · have hr:=run_append_room_src (P:=P) w t tx ty e i ht hi g 0 n cap x m news (by rw [hsize];exact hs) hroom
      (fun j hj=>by
        have:n+j < cur.size:=by omega
        simp [World.cell?,hgg,hsize,this])
      (fun j hj=>by
        obtain ⟨lo,hi'⟩:=fz
        simp only [World.frozen?,hgg,hsize,Bool.and_eq_false_iff,decide_eq_false_iff_not]
        simp only at hfz
        omega)
    obtain ⟨cur',h1,h2,h3⟩:=setCells_row g e fz news (0+n*i.size) cur w hgg (by rw [hsize];omega)
    refine ⟨_,_,hr,⟨by simp [hl,hm],g,cap,cur',fz,rfl,hb,h1,hfz,hroom,hcm,by omega,?_⟩,setCells_grown g news _ w⟩
    rw [hsize,hm] at h3
    simpa [htake] using h3
  · have hr:=run_append_grow_src (P:=P) w t tx ty e i (.int .u8 0) ht hi hz (some ⟨g,0,none⟩) n cap xs
      (by rw [hsize];exact run_firstCells_some w.drew 1 n _ n cap xs (by omega) (by simpa using hcell)) x m news (by rw [hsize];exact hs) (by omega) (by omega) (by rw [hby];exact growslice_fits (by omega) (by omega))
    have hge:=grownCap_ge w (n+m) cap e
    have hcm2:grownCap w (n+m) cap e≤maxLen:=grownCap_le_maxLen w (n+m) cap e (by unfold maxLen;omega)
    refine ⟨_,_,hr,⟨by simp [hl,hm],w.heap.size,_,_,(0,0),rfl,hB,heap_alloc_new w.drew _,.inl rfl,hge,hcm2,?_,?_⟩,⟨rfl,rfl,rfl,by simp,fun k hk _=>byt_alloc_old w.drew _ hk⟩⟩
    · have hz1:(Value.int IntKind.u8 0).cells.size=1:=rfl
      simp only [Array.size_append,List.size_toArray,List.length_append,size_zeroCells,hz1,hl,hm]
      omega
    · have hlen:(xs++news).length=n+m:=by simp [hl,hm]
      rw [Array.toList_append,←hlen]
      exact List.take_left
end
end Go.Proofs.YtckajeippfpojaaGreat
