import Derived.Test.YtckajeippfpojaaGreatZqStep
import Derived.Maps.OwnSet
import Derived.Test.YtckajeippfpojaaGreatZqKept
import Derived.Test.YtckajeippfpojaaGreatZqGA
namespace Go.Proofs.YtckajeippfpojaaGreat
open Go.RowKit Go.Maps
section
variable {α:Type}
def smap (kl:α→Lit) (us:List α):DataW Unit:=us.foldl (fun m u=>m.put (kl u) (.lit (.bool true))) (.map [])
theorem smap_snoc (kl:α→Lit) (us:List α) (u:α):smap kl (us++[u])=(smap kl us).put (kl u) (.lit (.bool true)):=by
  simp [smap,List.foldl_append]
theorem snoc_rec {p:List α→Prop} (h0:p []) (h1:∀xs x,p xs→p (xs++[x])) (l:List α):p l:=by
  rw [←List.reverse_reverse l]
  induction l.reverse with
  | nil=>exact h0
  | cons x xs ih=>simpa using h1 _ x ih
theorem isMap_smap (kl:α→Lit) (us:List α):IsMap (smap kl us):=by
  induction us using snoc_rec with
  | h0=>exact isMap_empty
  | h1 us u ih=>rw [smap_snoc];exact ih.put _ _
variable [DecidableEq α] {kl:α→Lit} {Wf:α→Prop}
def inB (us:List α) (u:α):Bool:=decide (u∈us)
theorem has_smap (hinj:∀x y,Wf x→Wf y→kl x=kl y→x=y) (hk:∀x,WideAt.IsKeyLit (kl x)) (us:List α) (u:α) (hus:∀x∈us,Wf x) (hu:Wf u):has (smap kl us) (kl u)=decide (u∈us):=by
  induction us using snoc_rec with
  | h0=>rfl
  | h1 us x ih =>
    rw [smap_snoc]
    by_cases e:u=x
    · subst e
      rw [has_put_same (isMap_smap kl us) (hk u)]
      simp
    · rw [has_put_other (fun h=>e (hinj u x hu (hus x (by simp)) h)),ih (fun y hy=>hus y (by simp [hy]))]
      simp [e]
theorem at_smap (hinj:∀x y,Wf x→Wf y→kl x=kl y→x=y) (hk:∀x,WideAt.IsKeyLit (kl x)) (us:List α) (u:α) (hus:∀x∈us,Wf x) (hu:Wf u) (hm:u∈us) (z:DataW Unit):(smap kl us).atKey (kl u) z=.lit (.bool true):=by
  induction us using snoc_rec with
  | h0=>simp at hm
  | h1 us x ih =>
    rw [smap_snoc]
    by_cases e:u=x
    · subst e
      exact atKey_put_same (isMap_smap kl us) (hk u) _ _
    · rw [atKey_put_other (fun h=>e (hinj u x hu (hus x (by simp)) h))]
      exact ih (fun y hy=>hus y (by simp [hy])) (by simpa [e] using hm)
theorem bool_elem_inv {P:Program} {e:TypeId} (he:P.underlying e=some .bool) {v:Value} {x:Bool} {ps:List MemPlace} (h:plainElem (H:=Unit) P e v=some (.lit (.bool x),ps)):v=.bool x:=by
  unfold plainElem at h
  rw [he] at h
  cases v with
  | bool y =>
    simp at h
    rw [h.1]
  | _=>simp at h
theorem look_smap {P:Program} {K T E:TypeId} {w:World} {M n:Nat} {us:List α} (hinj:∀x y,Wf x→Wf y→kl x=kl y→x=y) (hk:∀x,WideAt.IsKeyLit (kl x)) (hM:w.ownsMap (H:=Unit) P K (plainElem P E) M n (smap kl us)) (hKd:Keyed P K) (ht:P.underlying T=some (.map K E)) (he:P.underlying E=some .bool)
    (hz:(zeroValue E).run P w=.ok (.bool false) w) {key:Value} {u:α} (hkey:keyOf P K key=some (kl u)) (hus:∀x∈us,Wf x) (hu:Wf u) :
    (Instr.lookup T (.map (some M)) key false).run P w=.ok (.bool (inB us u)) w:=by
  unfold inB
  obtain ⟨v,ps,hrun,hv⟩:=hM.lookup hKd ht hz (plainElem_bool he false) hkey
  rw [hrun]
  by_cases hm:u∈us
  · rw [at_smap hinj hk us u hus hu hm] at hv
    rw [bool_elem_inv he hv,decide_eq_true hm]
  · rw [atKey_of_not_has (by rw [has_smap hinj hk us u hus hu];exact decide_eq_false hm)] at hv
    rw [bool_elem_inv he hv,decide_eq_false hm]
end
theorem ownsRow_below {w w':World} {base size n:Nat} {e:TypeId} {v:Value} {xs:List Value} (h:w.ownsRow base e size v n xs) {B:Nat} (hb:Below B w w') (hlt:∀g,v.ownBlock=some g→g < B):w'.ownsRow base e size v n xs:=by
  obtain ⟨h1,h2|⟨g,cap,cur,hv,hg,hh,h3,h4,h5,h6⟩⟩:=h
  · exact ⟨h1,.inl h2⟩
  · subst hv
    exact ⟨h1,.inr ⟨g,cap,cur,rfl,hg,(hb.block g (hlt g rfl)).trans hh,h3,h4,h5,h6⟩⟩
section
variable {w w':World} {row:Option Nat} {p:Addr} {v:Value} {n:Nat} {x:Obj}
theorem heapN_new (o:Obj) (h:w.heap.size=n):(w.alloc o).heap[n]?=some o:=by
  subst h
  exact heap_alloc_new w o
theorem heapN_drew (h:w.heap[n]?=some x):w.drew.heap[n]?=some x:=h
theorem cellN_alloc (o:Obj) (h:w.cell? p=some v):(w.alloc o).cell? p=some v:=(World.cell?_alloc_lt w o p (World.block_lt_of_cell? w _ h)).trans h
theorem cellN_drew (h:w.cell? p=some v):w.drew.cell? p=some v:=h
theorem cellN_grown (hg:w.grownBy w' row) (h:w.cell? p=some v) (hne:some p.block≠row):w'.cell? p=some v :=
  (World.cell?_of_block (hg.block p.block (World.block_lt_of_cell? w _ h) hne)).trans h
end
structure Zx (P:Program) (K E T:TypeId) {α:Type} (kl:α→Lit) (w0:World) (M:Nat) (v:Value) (us:List α) (W:World):Prop where
  obj:W.heap[M+1]?=some (.cells #[v,.map (some M)] T (0,0))
  map:W.ownsMap (H:=Unit) P K (plainElem P E) M us.length (smap kl us)
  bel:Below M w0 W
  sz:w0.heap.size≤W.heap.size
section
variable {P:Program} {K E T:TypeId} {α:Type} {kl:α→Lit} {w0 W W':World} {M:Nat} {v:Value} {us:List α}
theorem Zx.drew (h:Zx P K E T kl w0 M v us W):Zx P K E T kl w0 M v us W.drew:=⟨h.obj,h.map.drew,h.bel.drew,h.sz⟩
theorem Zx.lt (h:Zx P K E T kl w0 M v us W):M+1 < W.heap.size:=(Array.getElem?_eq_some_iff.1 h.obj).1
theorem Zx.alloc (h:Zx P K E T kl w0 M v us W) (o:Obj):Zx P K E T kl w0 M v us (W.alloc o) :=
  ⟨(heap_alloc_old W o h.lt).trans h.obj,h.map.alloc o,h.bel.alloc (by have:=h.lt;omega) o,by simp;have:=h.sz;omega⟩
theorem Zx.grown (h:Zx P K E T kl w0 M v us W) {row:Option Nat} (hg:W.grownBy W' row) (hr:∀g,row=some g→M+2≤g):Zx P K E T kl w0 M v us W' :=
  ⟨(hg.block (M+1) h.lt (fun e=>by have:=hr _ e.symm;omega)).trans h.obj,h.map.kept hg (fun e=>by have:=hr _ e.symm;omega),h.bel.grown hg (by have:=h.lt;omega) (fun g e=>by have:=hr g e;omega),Nat.le_trans h.sz hg.size⟩
theorem Zx.cell (h:Zx P K E T kl w0 M v us W):W.cell? ⟨M+1,0,none⟩=some v:=by simp [World.cell?,h.obj]
theorem Zx.free (h:Zx P K E T kl w0 M v us W):W.frozen? ⟨M+1,0,none⟩=false:=by simp [World.frozen?,h.obj]
theorem Zx.set (h:Zx P K E T kl w0 M v us W) (v':Value):Zx P K E T kl w0 M v' us (W.setCell ⟨M+1,0,none⟩ v') :=
  ⟨by have:=heap_setCell_same W (M+1) 0 _ _ v' h.obj;simpa using this,h.map.setCell (by show M≠M+1;omega) _,h.bel.setCell (by show M≤M+1;omega) _,by simpa using h.sz⟩
end
structure SetIn (P:Program) (K E T:TypeId) (size:Nat) {α:Type} (kl:α→Lit) (enc:α→List Value) (w:World) (M:Nat) (us:List α) (v:Value):Prop where
  obj:w.heap[M+1]?=some (.cells #[v,.map (some M)] T (0,0))
  map:w.ownsMap (H:=Unit) P K (plainElem P E) M us.length (smap kl us)
  row:w.ownsRow (M+2) K size v us.length (us.flatMap enc)
section
variable {P:Program} {K E T:TypeId} {size:Nat} {α:Type} {kl:α→Lit} {enc:α→List Value} {w w':World} {M:Nat} {us:List α} {v:Value}
theorem SetIn.lt (h:SetIn P K E T size kl enc w M us v):M+1 < w.heap.size:=(Array.getElem?_eq_some_iff.1 h.obj).1
theorem SetIn.below (h:SetIn P K E T size kl enc w M us v) (hb:Below w.heap.size w w'):SetIn P K E T size kl enc w' M us v where
  obj:=(hb.block _ h.lt).trans h.obj
  map:=h.map.kept (row:=none) ⟨hb.os,hb.tape,hb.output,hb.size,fun k hk _=>hb.block k hk⟩ (by simp)
  row:=ownsRow_below h.row hb fun g hg=>(h.row.lt g hg).2
theorem SetIn.drew (h:SetIn P K E T size kl enc w M us v):SetIn P K E T size kl enc w.drew M us v:=⟨h.obj,h.map.drew,h.row⟩
theorem SetIn.cell1 (h:SetIn P K E T size kl enc w M us v):w.cell? ⟨M+1,1,none⟩=some (.map (some M)):=by
  simp [World.cell?,h.obj]
theorem SetIn.free (h:SetIn P K E T size kl enc w M us v) (o:Nat):w.frozen? ⟨M+1,o,none⟩=false:=by
  simp [World.frozen?,h.obj]
end
end Go.Proofs.YtckajeippfpojaaGreat
