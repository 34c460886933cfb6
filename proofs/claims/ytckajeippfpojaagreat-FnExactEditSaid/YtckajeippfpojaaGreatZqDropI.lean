import Derived.Test.YtckajeippfpojaaGreatZqOut
import Derived.Test.YtckajeippfpojaaGreatZqThoseN
namespace Go.Proofs.YtckajeippfpojaaGreat
open Go.RowKit Go.Maps
def NewTrB (vec:List Int) (es:List En) (b:Bool) (w:World) (e:Ending) (w':World):Prop :=
  ∃AV cv A c,e=.returned (.tuple #[.agg #[.slice AV vec.length cv,.slice A es.length c],.bool b])∧TrOwn w' w.heap.size w'.heap.size AV vec A es∧w.heap.size < w'.heap.size∧Below w.heap.size w w'
theorem treeB_len3 {vec:List Int} {es:List En} (h:treeB vec es=true):es.length≤12:=by
  unfold treeB at h
  simp only [Bool.and_eq_true,decide_eq_true_eq] at h
  exact h.1.1.2
theorem TrOwn.none (w:World) (L B:Nat) (h:L≤B):TrOwn w L B none [] none [] :=
  ⟨L,L,L,L,Nat.le_refl _,h,Nat.le_refl _,h,.inl (Nat.le_refl _),fun h=>absurd h (by simp),EnsOwn.nil⟩
theorem two_get {w:World} {b:Nat} {o0 o1 v0 v1:Value} (h0:w.cell? ⟨b,0,none⟩=some o0) (h1:w.cell? ⟨b,1,none⟩=some o1) :
    ((w.setCell ⟨b,0,none⟩ v0).setCell ⟨b,1,none⟩ v1).cell? ⟨b,0,none⟩=some v0∧((w.setCell ⟨b,0,none⟩ v0).setCell ⟨b,1,none⟩ v1).cell? ⟨b,1,none⟩=some v1 :=
  ⟨(World.cell?_setCell_other _ _ _ _ (by simp)).trans (World.cell?_setCell_same _ _ _ h0),World.cell?_setCell_same _ _ _ ((World.cell?_setCell_other _ _ _ _ (by simp)).trans h1)⟩
end Go.Proofs.YtckajeippfpojaaGreat
