import Derived.Test.YtckajeippfpojaaGreatZqOrd
import Derived.Test.YtckajeippfpojaaGreatZqOutIf
namespace Go.Proofs.YtckajeippfpojaaGreat
open Go.RowKit Go.Maps
def newE (vec:List Int) (b:Int) (l:List UInt8) (val:Int):En:=⟨l,val,b,vec.getD b.toNat 0+1⟩
def puV (vec:List Int) (b:Int):List Int:=vec.set b.toNat (vec.getD b.toNat 0+1)
def insE:List En→En→List En
  | [],e=>[e]
  | x :: l,e=>if plaV x e < 0 then x :: insE l e else e :: x :: l
def puE (vec:List Int) (es:List En) (b:Int) (l:List UInt8) (val:Int):List En:=insE (notName l es) (newE vec b l val)
def puOk (vec:List Int) (es:List En) (b:Int) (l:List UInt8) (val:Int):Bool :=
  treeB vec es && devB b && nameB l && tokB ((puV vec b).getD 0 0) ((puV vec b).getD 1 0) ((puV vec b).getD 2 0) ((puV vec b).getD 3 0) (puE vec es b l val)
def puVec (vec:List Int) (es:List En) (b:Int) (l:List UInt8) (val:Int):List Int:=if puOk vec es b l val=true then puV vec b else []
def puEs (vec:List Int) (es:List En) (b:Int) (l:List UInt8) (val:Int):List En:=if puOk vec es b l val=true then puE vec es b l val else []
theorem ins_perm (l:List En) (e:En):(insE l e).Perm (e :: l):=by
  induction l with
  | nil=>exact List.Perm.refl _
  | cons x l ih =>
    unfold insE
    split
    · exact (List.Perm.cons x ih).trans (List.Perm.swap e x l)
    · exact List.Perm.refl _
theorem ins_ord {l:List En} {e:En} (h:InOrd l) (hne:∀x∈l,plaV x e≠0):InOrd (insE l e):=by
  unfold InOrd at *
  induction l with
  | nil=>simp [insE]
  | cons x l ih =>
    rw [List.pairwise_cons] at h
    have hx:=hne x (by simp)
    have ih':=ih h.2 (fun y hy=>hne y (by simp [hy]))
    unfold insE
    split
    · rename_i hlt
      rw [List.pairwise_cons]
      refine ⟨fun y hy=>?_,ih'⟩
      rcases List.mem_cons.1 ((ins_perm l e).mem_iff.1 hy) with rfl|hy
      · exact hlt
      · exact h.1 y hy
    · rename_i hlt
      have hex:plaV e x < 0:=by have:=pla_anti x e;omega
      rw [List.pairwise_cons]
      refine ⟨fun y hy=>?_,List.pairwise_cons.2 h⟩
      rcases List.mem_cons.1 hy with rfl|hy
      · exact hex
      · exact pla_trans hex (h.1 y hy)
theorem tok_ord {a b c d:Int} {es:List En} (h:tokB a b c d es=true):InOrd es:=by
  unfold tokB at h
  simp only [Bool.and_eq_true,decide_eq_true_eq,List.all_eq_true,List.mem_range] at h
  have hadj:∀i (hi:i+1 < es.length),plaV es[i] es[i+1] < 0:=fun i hi=>by
    have h1:=h.2 (i+1) hi
    unfold goodB at h1
    simp only [Bool.and_eq_true,Bool.or_eq_true,decide_eq_true_eq] at h1
    rcases h1.2 with h2|h2
    · omega
    · rw [List.getD_eq_getElem?_getD,List.getD_eq_getElem?_getD,List.getElem?_eq_getElem (by omega),List.getElem?_eq_getElem hi] at h2
      simpa using h2
  unfold InOrd
  rw [List.pairwise_iff_getElem]
  intro i j hi hj hij
  obtain ⟨m,rfl⟩:∃m,j=i+1+m:=⟨j - (i+1),by omega⟩
  induction m with
  | zero=>exact hadj i hj
  | succ m ih =>
    exact pla_trans (ih (by omega) (by omega)) (hadj (i+1+m) hj)
theorem nn_ord {es:List En} (l:List UInt8) (h:InOrd es):InOrd (notName l es):=List.Pairwise.filter _ h
theorem nn_ne {es:List En} {l:List UInt8} {x:En} (h:x∈notName l es):x.name≠l:=by
  unfold notName at h
  have h2:=(List.mem_filter.1 h).2
  simpa using h2
theorem tree_tok {vec:List Int} {es:List En} (h:treeB vec es=true):InOrd es:=by
  unfold treeB at h
  simp only [Bool.and_eq_true] at h
  exact tok_ord h.2
theorem sorted_put {vec:List Int} {es es':List En} {l:List UInt8} {e:En} (hv:treeB vec es=true) (he:e.name=l) (hp:es'.Perm (notName l es++[e])) (hs:es'.Pairwise fun e f=>0≤plaV f e):es'=insE (notName l es) e:=by
  have hne:∀x∈notName l es,plaV x e≠0:=fun x hx h0=>nn_ne hx (by rw [((pla_zero x e).1 h0).1,he])
  have hin:InOrd (insE (notName l es) e):=ins_ord (nn_ord l (tree_tok hv)) hne
  have hpp:es'.Perm (insE (notName l es) e):=hp.trans ((List.perm_append_comm (l₁:=notName l es) (l₂:=[e])).trans (ins_perm _ _).symm)
  have hR:(insE (notName l es) e).Pairwise fun e f=>plaV e f≠0:=List.Pairwise.imp (fun h=>by omega) hin
  have hR':es'.Pairwise fun e f=>plaV e f≠0:=(hpp.pairwise_iff (fun {a b} h=>by have:=pla_anti a b;omega)).2 hR
  refine ord_one hpp ?_ hin
  unfold InOrd
  refine List.Pairwise.imp (fun {a b} h=>?_) (hs.and hR')
  have:=pla_anti a b
  omega
end Go.Proofs.YtckajeippfpojaaGreat
