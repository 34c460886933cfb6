import Derived.Test.YtckajeippfpojaaGreatZrNamesI
import Derived.Test.YtckajeippfpojaaGreatZrGCmp
import Derived.Test.YtckajeippfpojaaGreatZrGA
namespace Go.Proofs.YtckajeippfpojaaGreat
open Go.RowKit Go.Maps
theorem vb_length (l:List UInt8):(vbytes l).length=l.length:=by simp [vbytes]
theorem vb_one (l:List UInt8):∀u∈vbytes l,u.oneCell'=true:=by
  intro u hu
  simp only [vbytes,List.mem_map] at hu
  obtain ⟨b,_,rfl⟩:=hu
  rfl
theorem vbytes_at' {w:World} {L B g o:Nat} {l:List UInt8} (h:BytesIn w L B (some ⟨g,o,none⟩) l):∀j u,(vbytes l)[j]?=some u→w.cell? ((⟨g,o,none⟩:Addr).add j)=some u:=by
  intro j u hu
  have hj:j < l.length:=by
    have:=(List.getElem?_eq_some_iff.1 hu).1
    rwa [vb_length] at this
  obtain ⟨b,o',e,_,_,hc⟩:=h (by omega)
  cases e
  rw [Addr.add_lit,hc j hj]
  rw [←hu]
  simp [vbytes,hj]
theorem nameB_pos {l:List UInt8} (h:nameB l=true):0 < l.length:=by
  cases l with
  | nil=>exact absurd h (by decide)
  | cons x xs=>simp
theorem treeB_names {vec:List Int} {es:List En} (h:treeB vec es=true):∀i (hi:i < es.length),0 < es[i].name.length:=by
  intro i hi
  unfold treeB at h
  simp only [Bool.and_eq_true,decide_eq_true_eq] at h
  exact nameB_pos (List.all_eq_true.1 h.1.2 _ (List.getElem_mem hi))
end Go.Proofs.YtckajeippfpojaaGreat
