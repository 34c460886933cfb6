import Derived.Test.YtckajeippfpojaaGreatZqPutP
import Derived.Test.YtckajeippfpojaaGreatZqDropS
import Derived.Test.YtckajeippfpojaaGreatZqGOw
namespace Go.Proofs.YtckajeippfpojaaGreat
open Go.RowKit Go.Maps
theorem ins_split:∀(es:List En) (e:En) (k:Nat),k≤es.length→(∀j (hj:j < es.length),j < k→plaV es[j] e < 0)→(∀hk:k < es.length,¬ plaV es[k] e < 0)→insE es e=es.take k++e :: es.drop k
  | [],e,k,hk,_,_=>by
    have:k=0:=by simpa using hk
    subst this
    rfl
  | x :: es,e,0,_,_,h0=>by
    have h:=h0 (by simp)
    simp only [List.getElem_cons_zero] at h
    unfold insE
    rw [if_neg h]
    rfl
  | x :: es,e,k+1,hk,hlt,h0=>by
    have h:=hlt 0 (by simp) (by omega)
    simp only [List.getElem_cons_zero] at h
    unfold insE
    rw [if_pos h,ins_split es e k (by simpa using hk) (fun j hj hjk=>by have:=hlt (j+1) (by simp;omega) (by omega);simpa using this) (fun hk2=>by have:=h0 (by simp;omega);simpa using this)]
    rfl
theorem WoRel.take {w:World} {B k:Nat} {fs:List En} {vs:List Value} (h:WoRel w B fs vs) (hk:k≤fs.length):WoRel w B (fs.take k) (vs.take (k*4)) where
  vl:=by have:=h.vl;simp;omega
  cs i hi:=by
    have hi':i < k:=by simp at hi;omega
    obtain ⟨A,c,h0,h1,h2,h3,h4⟩:=h.cs i (by omega)
    have hg:(fs.take k)[i]'hi=fs[i]'(by omega):=by simp
    rw [hg]
    exact ⟨A,c,by rw [List.getElem?_take,if_pos (by omega)];exact h0,by rw [List.getElem?_take,if_pos (by omega)];exact h1,by rw [List.getElem?_take,if_pos (by omega)];exact h2,by rw [List.getElem?_take,if_pos (by omega)];exact h3,h4⟩
theorem WoRel.drop {w:World} {B k:Nat} {fs:List En} {vs:List Value} (h:WoRel w B fs vs) (hk:k≤fs.length):WoRel w B (fs.drop k) (vs.drop (k*4)) where
  vl:=by have:=h.vl;simp;omega
  cs i hi:=by
    have hi':k+i < fs.length:=by simp at hi;omega
    obtain ⟨A,c,h0,h1,h2,h3,h4⟩:=h.cs (k+i) hi'
    have hg:(fs.drop k)[i]'hi=fs[k+i]'hi':=by simp
    rw [hg]
    exact ⟨A,c,by rw [List.getElem?_drop,show k*4+i*4=(k+i)*4 by omega];exact h0,by rw [List.getElem?_drop,show k*4+(i*4+1)=(k+i)*4+1 by omega];exact h1,by rw [List.getElem?_drop,show k*4+(i*4+2)=(k+i)*4+2 by omega];exact h2,by rw [List.getElem?_drop,show k*4+(i*4+3)=(k+i)*4+3 by omega];exact h3,h4⟩
theorem WoRel.app {w:World} {B:Nat} {fs gs:List En} {vs us:List Value} (h:WoRel w B fs vs) (k:WoRel w B gs us):WoRel w B (fs++gs) (vs++us) where
  vl:=by simp [h.vl,k.vl];omega
  cs i hi:=by
    have hv:=h.vl
    by_cases hik:i < fs.length
    · obtain ⟨A',c',h0,h1,h2,h3,h4⟩:=h.cs i hik
      rw [List.getElem_append_left hik]
      exact ⟨A',c',by rw [List.getElem?_append_left (by omega)];exact h0,by rw [List.getElem?_append_left (by omega)];exact h1,by rw [List.getElem?_append_left (by omega)];exact h2,by rw [List.getElem?_append_left (by omega)];exact h3,h4⟩
    · have hi2:i - fs.length < gs.length:=by simp at hi;omega
      obtain ⟨A',c',h0,h1,h2,h3,h4⟩:=k.cs (i - fs.length) hi2
      rw [List.getElem_append_right (by omega)]
      refine ⟨A',c',?_,?_,?_,?_,h4⟩
      · rw [List.getElem?_append_right (by omega),hv,show i*4 - fs.length*4=(i - fs.length)*4 by omega];exact h0
      · rw [List.getElem?_append_right (by omega),hv,show i*4+1 - fs.length*4=(i - fs.length)*4+1 by omega];exact h1
      · rw [List.getElem?_append_right (by omega),hv,show i*4+2 - fs.length*4=(i - fs.length)*4+2 by omega];exact h2
      · rw [List.getElem?_append_right (by omega),hv,show i*4+3 - fs.length*4=(i - fs.length)*4+3 by omega];exact h3
theorem rel_of_ens {w:World} {B0:Nat} {A:Option Addr}:∀{es:List En},EnsIn w 0 B0 A es→∃vs,WoRel w B0 es vs∧(∀u∈vs,u.oneCell'=true)∧(0 < es.length→∃b o,A=some ⟨b,o,none⟩∧b < B0∧∀j u,vs[j]?=some u→w.cell? ⟨b,o+j,none⟩=some u):=by
  intro es h
  by_cases hne:0 < es.length
  · obtain ⟨b,o,rfl,_,hb,hc⟩:=h hne
    have hk:∀k,k≤es.length→∃vs,WoRel w B0 (es.take k) vs∧(∀u∈vs,u.oneCell'=true)∧∀j u,vs[j]?=some u→w.cell? ⟨b,o+j,none⟩=some u:=by
      intro k
      induction k with
      | zero=>exact fun _=>⟨[],by simpa using WoRel.nil w B0,by simp,fun j u hj=>by simp at hj⟩
      | succ k ih =>
        intro hk
        obtain ⟨vs,hr,h1,hs⟩:=ih (by omega)
        obtain ⟨A',c',c0,c1,c2,c3,hby⟩:=hc k (by omega)
        refine ⟨vs++[.slice A' es[k].name.length c',.int .i64 es[k].val,.int .i64 es[k].dev,.int .i64 es[k].num],?_,fun u hu=>?_,fun j u hj=>?_⟩
        · rw [List.take_succ_eq_append_getElem (by omega)]
          exact hr.add (by first|exact hby|exact hby.low (Nat.zero_le _))
        · rcases List.mem_append.1 hu with h|h
          · exact h1 u h
          · simp at h
            rcases h with rfl|rfl|rfl|rfl <;> rfl
        · have hvl:=hr.vl
          have hvl':vs.length=k*4:=by rw [hvl];simp;omega
          by_cases hjl:j < vs.length
          · rw [List.getElem?_append_left hjl] at hj
            exact hs j u hj
          · rw [List.getElem?_append_right (by omega),hvl'] at hj
            have hj4:j - k*4=0∨j - k*4=1∨j - k*4=2∨j - k*4=3:=by
              have:=(List.getElem?_eq_some_iff.1 hj).1
              simp at this
              omega
            rcases hj4 with e|e|e|e
            · rw [e] at hj;simp at hj;subst hj;rw [show o+j=o+k*4 by omega];exact c0
            · rw [e] at hj;simp at hj;subst hj;rw [show o+j=o+k*4+1 by omega];exact c1
            · rw [e] at hj;simp at hj;subst hj;rw [show o+j=o+k*4+2 by omega];exact c2
            · rw [e] at hj;simp at hj;subst hj;rw [show o+j=o+k*4+3 by omega];exact c3
    obtain ⟨vs,hr,h1,hs⟩:=hk es.length (Nat.le_refl _)
    rw [List.take_length] at hr
    exact ⟨vs,hr,h1,fun _=>⟨b,o,rfl,hb,hs⟩⟩
  · have:es=[]:=by
      cases es with
      | nil=>rfl
      | cons x l=>simp at hne
    subst this
    exact ⟨[],WoRel.nil w B0,by simp,fun h=>absurd h (by simp)⟩
theorem step_append_anyE {P:Program} {w:World} {ops:Array Oper} {o:Oper} {a:Act} {K:Act→World→Prop} {Q:Exit→Act→World→Prop} {E:Prop} (hgd:o.guard=none) (s x:Operand) (t:TypeId)
    (ho:o.op=.call { callee:=.builtin .append,args:=#[s,x],argTypes:=#[t,t] })
    (base:Nat) (e:TypeId) (i:TypeInfo) (z:Value) (size bytes:Nat) (ht:P.underlying t=some (.slice e)) (hi:P.info? e=some i) (hz:i.zero=some z)
    (hsize:i.size=size) (hby:i.bytes=bytes) (hzs:z.cells.size=size) (hsz:0 < size)
    (v:Value) (n:Nat) (xs:List Value) (hs:a.eval s=v) (hown:w.ownsRow base e size v n xs)
    (A:Option Addr) (m c:Nat) (ys:List Value) (hx:a.eval x=.slice A m c) (hl:ys.length=m*size) (hsrc:SrcAt w A m ys) (h1:∀u∈ys,u.oneCell'=true)
    (h63:n+m≤maxLen) (hbytes:(n+m)*bytes≤140737488355328) (hbase:base≤w.heap.size)
    (h:∀A' cap w',w'.ownsRow base e size (.slice A' (n+m) cap) (n+m) (xs++ys)→w.grownBy w' v.ownBlock→K (a.put o.dst (.slice A' (n+m) cap)) w') :
    if Region.wanted o (yielded ops a.tmps)=true then Oper.wp P o a w K Q else E:=by
  have hw:Region.wanted o (yielded ops a.tmps)=true:=by simp [Region.wanted,hgd]
  rw [if_pos hw]
  obtain ⟨A',cap,w',hr,h2,h3,_⟩:=run_append_any (P:=P) w base t o.type e i z size bytes ht hi hz hsize hby hzs hsz v n xs hown A m c ys hl hsrc h1 h63 hbytes hbase
  unfold Oper.wp execOp
  simp only [ho,resolve,invoke,builtin,Sem.run_bind,Sem.run_pure,Result.andThen_ok,List.map_toArray,List.map_cons,List.map_nil,hs,hx,hr]
  exact h A' cap w' h2 h3
end Go.Proofs.YtckajeippfpojaaGreat
