import Derived.Maps.AppendAt
import Derived.Deep.RegionHeld3
import Derived.Test.YtckajeippfpojaaGreatZqGA
namespace Go.Proofs.YtckajeippfpojaaGreat
open Go.RowKit Go.Maps
section
variable {P:Program} (w:World)
theorem run_append_none (t ty e:TypeId) (i:TypeInfo) (ht:P.underlying t=some (.slice e)) (hi:P.info? e=some i) (base size:Nat)
    (v:Value) (n:Nat) (xs:List Value) (hown:w.ownsRow base e size v n xs) :
    (Builtin.append_ #[t,t] ty #[v,.slice none 0 0]).run P w=.ok v w:=by
  rcases hown.2 with ⟨rfl,rfl⟩|⟨g,cap,cur,rfl,hbg,hg,hnc,hcm,hcs,htake⟩
  · simp [Builtin.append_,run_underlying ht,sizeOf,typeInfo,hi,Builtin.lenOf,Builtin.firstCells]
  · simp [Builtin.append_,run_underlying ht,sizeOf,typeInfo,hi,Builtin.lenOf,Builtin.firstCells,storeCells,hnc]
theorem run_append_row (base base2:Nat) (t ty e:TypeId) (i:TypeInfo) (z:Value) (size bytes:Nat) (ht:P.underlying t=some (.slice e)) (hi:P.info? e=some i) (hz:i.zero=some z)
    (hsize:i.size=size) (hby:i.bytes=bytes) (hzs:z.cells.size=size) (hsz:0 < size)
    (v:Value) (n:Nat) (xs:List Value) (hown:w.ownsRow base e size v n xs)
    (x:Value) (m:Nat) (ys:List Value) (hsrc:w.ownsRow base2 e size x m ys) (h1:∀u∈ys,u.oneCell'=true)
    (h63:n+m≤maxLen) (hbytes:(n+m)*bytes≤140737488355328) (hbase:base≤w.heap.size) :
    ∃A cap w',(Builtin.append_ #[t,t] ty #[v,x]).run P w=.ok (.slice A (n+m) cap) w'∧w'.ownsRow base e size (.slice A (n+m) cap) (n+m) (xs++ys)∧w.grownBy w' v.ownBlock:=by
  rcases hsrc.2 with ⟨rfl,rfl⟩|⟨g,cap,cur,rfl,hbg,hg,hnc,hcm,hcs,htake⟩
  · have hr:=run_append_none w t ty e i ht hi base size v n xs hown
    have hy:ys=[]:=List.eq_nil_of_length_eq_zero (by simpa using hsrc.1)
    subst hy
    obtain ⟨A,c,rfl⟩:=row_shapeN hown
    exact ⟨A,c,w,hr,by simpa using hown,⟨rfl,rfl,rfl,Nat.le_refl _,fun _ _ _=>rfl⟩⟩
  · obtain ⟨v',w',hr,h2,h3,_⟩:=run_append_own_at (P:=P) w base t ty e i z size bytes ht hi hz hsize hby hzs hsz v n xs hown ⟨g,0,none⟩ m cap ys hsrc.1 (hsrc.cells (g:=g) rfl) h1 h63 hbytes hbase
    obtain ⟨A,c,rfl⟩:=row_shapeN h2
    exact ⟨A,c,w',hr,h2,h3⟩
theorem step_append_row {ops:Array Oper} {o:Oper} {a:Act} {K:Act→World→Prop} {Q:Exit→Act→World→Prop} {E:Prop} (hgd:o.guard=none) (s x:Operand) (t:TypeId)
    (ho:o.op=.call { callee:=.builtin .append,args:=#[s,x],argTypes:=#[t,t] })
    (base base2:Nat) (e:TypeId) (i:TypeInfo) (z:Value) (size bytes:Nat) (ht:P.underlying t=some (.slice e)) (hi:P.info? e=some i) (hz:i.zero=some z)
    (hsize:i.size=size) (hby:i.bytes=bytes) (hzs:z.cells.size=size) (hsz:0 < size)
    (v:Value) (n:Nat) (xs:List Value) (hs:a.eval s=v) (hown:w.ownsRow base e size v n xs)
    (y:Value) (m:Nat) (ys:List Value) (hx:a.eval x=y) (hsrc:w.ownsRow base2 e size y m ys) (h1:∀u∈ys,u.oneCell'=true)
    (h63:n+m≤maxLen) (hbytes:(n+m)*bytes≤140737488355328) (hbase:base≤w.heap.size)
    (h:∀A cap w',w'.ownsRow base e size (.slice A (n+m) cap) (n+m) (xs++ys)→w.grownBy w' v.ownBlock→K (a.put o.dst (.slice A (n+m) cap)) w') :
    if Region.wanted o (yielded ops a.tmps)=true then Oper.wp P o a w K Q else E:=by
  have hw:Region.wanted o (yielded ops a.tmps)=true:=by simp [Region.wanted,hgd]
  rw [if_pos hw]
  obtain ⟨A,cap,w',hr,h2,h3⟩:=run_append_row (P:=P) w base base2 t o.type e i z size bytes ht hi hz hsize hby hzs hsz v n xs hown y m ys hsrc h1 h63 hbytes hbase
  unfold Oper.wp execOp
  simp only [ho,resolve,invoke,builtin,Sem.run_bind,Sem.run_pure,Result.andThen_ok,List.map_toArray,List.map_cons,List.map_nil,hs,hx,hr]
  exact h A cap w' h2 h3
end
end Go.Proofs.YtckajeippfpojaaGreat
