import Derived.Test.YtckajeippfpojaaGreatZqGB
import Derived.Test.YtckajeippfpojaaGreatZqGVec
import Derived.Outline
namespace Go.Proofs.YtckajeippfpojaaGreat
open Go.RowKit Go.Maps
def NewTr (vec:List Int) (es:List En) (w:World) (e:Ending) (w':World):Prop :=
  ∃AV cv A c,e=.returned (.agg #[.slice AV vec.length cv,.slice A es.length c])∧TrOwn w' w.heap.size w'.heap.size AV vec A es∧w.heap.size < w'.heap.size∧Below w.heap.size w w'
theorem two_other {w:World} {b:Nat} {v0 v1:Value} {p:Addr} (hp:p.block≠b):((w.setCell ⟨b,0,none⟩ v0).setCell ⟨b,1,none⟩ v1).cell? p=w.cell? p∧((w.setCell ⟨b,0,none⟩ v0).setCell ⟨b,1,none⟩ v1).frozen? p=w.frozen? p :=
  ⟨by rw [World.cell?_setCell_other _ _ _ _ (by rintro rfl;exact hp rfl),World.cell?_setCell_other _ _ _ _ (by rintro rfl;exact hp rfl)],by rw [World.frozen?_setCell,World.frozen?_setCell]⟩
end Go.Proofs.YtckajeippfpojaaGreat
