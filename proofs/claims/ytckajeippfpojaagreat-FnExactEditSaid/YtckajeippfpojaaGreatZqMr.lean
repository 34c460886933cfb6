import Derived.Test.YtckajeippfpojaaGreatZqGDn
import Derived.Test.YtckajeippfpojaaGreatZqGOw
namespace Go.Proofs.YtckajeippfpojaaGreat
open Go.RowKit Go.Maps
structure Mx where
  m:Mn
  AV:Option Addr
  cv:Nat
  A:Option Addr
  c:Nat
def cellsM (x:Mx):List Value:=[.int .i64 x.m.au,.int .i64 x.m.sq,.int .i64 x.m.pv,.slice x.AV x.m.vec.length x.cv,.slice x.A x.m.es.length x.c,.int .i64 x.m.sg]
def rowM (us:List Mx):List Value:=us.flatMap cellsM
theorem rowM_snoc (us:List Mx) (x:Mx):rowM (us++[x])=rowM us++cellsM x:=by simp [rowM]
theorem rowM_get (us:List Mx) (i:Nat) (hi:i < us.length) (j:Nat) (hj:j < 6):(rowM us)[i*6+j]?=(cellsM us[i])[j]?:=by
  induction us generalizing i with
  | nil=>simp at hi
  | cons x xs ih =>
    have hl:(cellsM x).length=6:=rfl
    cases i with
    | zero =>
      simp only [rowM,List.flatMap_cons,Nat.zero_mul,Nat.zero_add,List.getElem_cons_zero]
      rw [List.getElem?_append_left (by omega)]
    | succ i =>
      have:=ih i (by simpa using hi)
      simp only [rowM,List.flatMap_cons,List.getElem_cons_succ] at this ⊢
      rw [List.getElem?_append_right (by omega),←this,hl]
      congr 1
      omega
theorem cellsM_one (x:Mx):∀u∈cellsM x,u.oneCell'=true:=by
  intro u hu
  simp [cellsM] at hu
  rcases hu with rfl|rfl|rfl|rfl|rfl|rfl <;> rfl
structure MxAt (w:World) (L B:Nat) (R:Option Nat) (us:List Mx) (lo hi:Nat→Nat):Prop where
  le:L≤B
  at_:∀i,i < us.length→L≤lo i∧hi i≤B∧∀r,R=some r→r < lo i∨hi i≤r
  inc:∀i j,i < j→j < us.length→hi i≤lo j
  tr:∀i (hi':i < us.length),TrOwn w (lo i) (hi i) us[i].AV us[i].m.vec us[i].A us[i].m.es
  cb:∀i (hi':i < us.length),us[i].m.es.length≤us[i].c
section
variable {w w':World} {L L' B B':Nat} {R R':Option Nat} {us:List Mx} {lo hi:Nat→Nat}
theorem MxAt.keep (h:MxAt w L B R us lo hi) (hk:∀p:Addr,L≤p.block→p.block < B→some p.block≠R→w'.cell? p=w.cell? p∧w'.frozen? p=w.frozen? p):MxAt w' L B R us lo hi where
  le:=h.le
  at_:=h.at_
  inc:=h.inc
  cb:=h.cb
  tr i hi':=by
    obtain ⟨h1,h2,h3⟩:=h.at_ i hi'
    exact (h.tr i hi').keep fun p hp hq=>hk p (by omega) (by omega) fun e=>by
      have:=h3 p.block e.symm
      omega
theorem MxAt.row (h:MxAt w L B R us lo hi) (hR:R'=R∨∃k,R'=some k∧B≤k):MxAt w L B R' us lo hi where
  le:=h.le
  at_ i hi':=by
    obtain ⟨h1,h2,h3⟩:=h.at_ i hi'
    refine ⟨h1,h2,fun r e=>?_⟩
    rcases hR with rfl|⟨k,rfl,hk⟩
    · exact h3 r e
    · cases e;omega
  inc:=h.inc
  cb:=h.cb
  tr:=h.tr
theorem MxAt.mono (h:MxAt w L B R us lo hi) (hB:B≤B'):MxAt w L B' R us lo hi where
  le:=by have:=h.le;omega
  at_ i hi':=by
    obtain ⟨h1,h2,h3⟩:=h.at_ i hi'
    exact ⟨h1,by omega,h3⟩
  inc:=h.inc
  cb:=h.cb
  tr:=h.tr
theorem MxAt.snoc {x:Mx} (h:MxAt w L B R us lo hi) (ht:TrOwn w B B' x.AV x.m.vec x.A x.m.es) (hB:B≤B') (hR:∀r,R=some r→r < B∨B'≤r) (hc:x.m.es.length≤x.c):MxAt w L B' R (us++[x]) (fun i=>if i=us.length then B else lo i) (fun i=>if i=us.length then B' else hi i) where
  le:=by have:=h.le;omega
  at_ i hi':=by
    have hl:=h.le
    by_cases e:i=us.length
    · simp only [if_pos e];exact ⟨hl,Nat.le_refl _,hR⟩
    · simp only [if_neg e]
      obtain ⟨h1,h2,h3⟩:=h.at_ i (by simp at hi';omega)
      exact ⟨h1,by omega,h3⟩
  inc i j hij hj:=by
    simp at hj
    by_cases e:j=us.length
    · simp only [if_pos e,if_neg (show i≠us.length by omega)]
      exact (h.at_ i (by omega)).2.1
    · simp only [if_neg e,if_neg (show i≠us.length by omega)]
      exact h.inc i j hij (by omega)
  tr i hi':=by
    by_cases e:i=us.length
    · subst e
      simp only [if_true,List.getElem_append_right (Nat.le_refl _),Nat.sub_self,List.getElem_cons_zero]
      exact ht
    · have hl:i < us.length:=by simp at hi';omega
      simp only [if_neg e,List.getElem_append_left hl]
      exact h.tr i hl
  cb i hi':=by
    by_cases e:i=us.length
    · subst e
      simp only [List.getElem_append_right (Nat.le_refl _),Nat.sub_self,List.getElem_cons_zero]
      exact hc
    · have hl:i < us.length:=by simp at hi';omega
      simp only [List.getElem_append_left hl]
      exact h.cb i hl
end
def MxsIs (w:World) (L:Nat) (v:Value) (us:List Mx):Prop :=
  w.ownsRow L 40 6 v us.length (rowM us)∧∃lo hi,MxAt w L w.heap.size v.ownBlock us lo hi
section
variable {w w' w1 W:World} {L:Nat} {v v':Value} {us:List Mx}
theorem MxsIs.nil (h:L≤w.heap.size):MxsIs w L (.slice none 0 0) [] :=
  ⟨World.ownsRow_nil _ _ _ _,fun _=>0,fun _=>0,h,fun i h=>absurd h (by simp),fun i j _ h=>absurd h (by simp),fun i h=>absurd h (by simp),fun i h=>absurd h (by simp)⟩
theorem MxsIs.lt (h:MxsIs w L v us):∀g,v.ownBlock=some g→L≤g∧g < w.heap.size:=fun g hg=>h.1.lt g hg
theorem MxsIs.below (h:MxsIs w L v us) (hb:Below w.heap.size w w'):MxsIs w' L v us:=by
  obtain ⟨h1,lo,hi,h2⟩:=h
  exact ⟨ownsRow_below h1 hb fun g hg=>(h1.lt g hg).2,lo,hi,(h2.keep fun p _ hq _=>⟨hb.cell hq,hb.frozen hq⟩).mono hb.size⟩
theorem MxsIs.set (h:MxsIs w L v us) {b o:Nat} (hb:b < L) (u:Value):MxsIs (w.setCell ⟨b,o,none⟩ u) L v us:=by
  obtain ⟨h1,lo,hi,h2⟩:=h
  refine ⟨ownsRow_setCell_below h1 (a:=⟨b,o,none⟩) hb _,lo,hi,?_⟩
  rw [World.size_setCell]
  exact h2.keep fun p hp _ _=>⟨World.cell?_setCell_other _ _ _ _ (fun e=>by rw [←e] at hp;exact absurd hp (by show ¬ L≤b;omega)),World.frozen?_setCell _ _ _ _⟩
theorem MxsIs.push {x:Mx} (h:MxsIs w L v us) (hb1:Below w.heap.size w w1) (ht:TrOwn w1 w.heap.size w1.heap.size x.AV x.m.vec x.A x.m.es) (hc:x.m.es.length≤x.c) (hb2:Below w1.heap.size w1 W)
    (hrow:w'.ownsRow L 40 6 v' (us.length+1) (rowM us++cellsM x)) (hg:W.grownBy w' v.ownBlock) (hv:v'.ownBlock=v.ownBlock∨v'.ownBlock=some W.heap.size):MxsIs w' L v' (us++[x]):=by
  have hz1:=hb1.size
  have hz2:=hb2.size
  have hz3:=hg.size
  have hbw:=hb1.trans (hb2.mono hz1)
  obtain ⟨h1,lo,hi,h2⟩:=h
  have hlt:∀g,v.ownBlock=some g→g < w.heap.size:=fun g hg=>(h1.lt g hg).2
  have hold:∀p:Addr,p.block < W.heap.size→some p.block≠v.ownBlock→w'.cell? p=W.cell? p∧w'.frozen? p=W.frozen? p:=fun p hp hne =>
    ⟨World.cell?_of_block (hg.block _ hp hne),World.frozen?_of_block (hg.block _ hp hne)⟩
  have h3:MxAt w' L w.heap.size v.ownBlock us lo hi:=h2.keep fun p _ hq hne =>
    ⟨(hold p (by omega) hne).1.trans (hbw.cell hq),(hold p (by omega) hne).2.trans (hbw.frozen hq)⟩
  have ht':TrOwn w' w.heap.size w1.heap.size x.AV x.m.vec x.A x.m.es:=ht.keep fun p hp hq=>by
    have hne:some p.block≠v.ownBlock:=fun e=>by have:=hlt _ e.symm;omega
    exact ⟨(hold p (by omega) hne).1.trans (hb2.cell hq),(hold p (by omega) hne).2.trans (hb2.frozen hq)⟩
  have h4:=h3.snoc ht' hz1 (fun r e=>.inl (hlt r e)) hc
  have h5:=h4.row (R':=v'.ownBlock) (by
    rcases hv with e|e
    · exact .inl e
    · exact .inr ⟨_,e,hz2⟩)
  exact ⟨by rw [rowM_snoc];simpa using hrow,_,_,h5.mono (by omega)⟩
theorem MxsIs.own {A:Option Addr} {c n:Nat} {ms:List Mn} (h:MxsIs w L (.slice A n c) us) (hm:us.map (·.m)=ms):MnsOwn w L w.heap.size A ms:=fun hp=>by
  subst hm
  obtain ⟨h1,lo,hi,h2⟩:=h
  obtain ⟨_,hh|⟨R,cap,cur,hv,hR,hb,_,_,_,htk⟩⟩:=h1
  · simp at hp;omega
  injection hv with e1 e2 e3
  subst e1
  have hcell:∀i j u (hi':i < us.length),j < 6→(cellsM us[i])[j]?=some u→w.cell? ⟨R,i*6+j,none⟩=some u:=fun i j u hi' hj hu=>by
    rw [←rowM_get us i hi' j hj,←htk,List.getElem?_take,if_pos (by omega)] at hu
    rw [World.cell?,hb]
    simpa using hu
  refine ⟨R,lo,hi,fun i=>((us.map (·.AV)).getD i none),fun i=>((us.map (·.cv)).getD i 0),fun i=>((us.map (·.A)).getD i none),fun i=>((us.map (·.c)).getD i 0),rfl,⟨hR,(Array.getElem?_eq_some_iff.1 hb).1,fun i hi'=>?_,fun i j hij hj=>.inl (h2.inc i j hij (by simpa using hj))⟩,fun i hi'=>?_⟩
  · obtain ⟨a1,a2,a3⟩:=h2.at_ i (by simpa using hi')
    exact ⟨a1,a2,a3 R rfl⟩
  · have hi2:i < us.length:=by simpa using hi'
    have e1:(us.map (·.AV)).getD i none=us[i].AV:=by simp [List.getD,hi2]
    have e2:(us.map (·.cv)).getD i 0=us[i].cv:=by simp [List.getD,hi2]
    have e3:(us.map (·.A)).getD i none=us[i].A:=by simp [List.getD,hi2]
    have e4:(us.map (·.c)).getD i 0=us[i].c:=by simp [List.getD,hi2]
    simp only [e1,e2,e3,e4,List.getElem_map]
    refine ⟨⟨hcell i 0 _ hi2 (by omega) rfl,hcell i 1 _ hi2 (by omega) rfl,hcell i 2 _ hi2 (by omega) rfl,hcell i 3 _ hi2 (by omega) rfl,hcell i 4 _ hi2 (by omega) rfl,hcell i 5 _ hi2 (by omega) rfl,fun o _=>?_,h2.cb i hi2⟩,h2.tr i hi2⟩
    simp [World.frozen?,hb]
end
end Go.Proofs.YtckajeippfpojaaGreat
