import Derived.Test.YtckajeippfpojaaGreatZrPutP
import Derived.Test.YtckajeippfpojaaGreatZrDropS
import Derived.Test.YtckajeippfpojaaGreatZrGOw
namespace Go.Proofs.YtckajeippfpojaaGreat
open Go.RowKit Go.Maps
theorem WoRel.take {w:World} {B k:Nat} {fs:List En} {vs:List Value} (h:WoRel w B fs vs) (hk:k≤fs.length):WoRel w B (fs.take k) (vs.take (k*4)) where
  vl:=by have:=h.vl;simp;omega
  cs i hi:=by
    have hi':i < k:=by simp at hi;omega
    obtain ⟨A,c,h0,h1,h2,h3,h4⟩:=h.cs i (by omega)
    have hg:(fs.take k)[i]'hi=fs[i]'(by omega):=by simp
    rw [hg]
    exact ⟨A,c,by rw [List.getElem?_take,if_pos (by omega)];exact h0,by rw [List.getElem?_take,if_pos (by omega)];exact h1,by rw [List.getElem?_take,if_pos (by omega)];exact h2,by rw [List.getElem?_take,if_pos (by omega)];exact h3,h4⟩
theorem WoRel.drop {w:World} {B k:Nat} {fs:List En} {vs:List Value} (h:WoRel w B fs vs) (hk:k≤fs.length):WoRel w B (fs.drop k) (vs.drop (k*4)) where
  vl:=by have:=h.vl;simp;omega
  cs i hi:=by
    have hi':k+i < fs.length:=by simp at hi;omega
    obtain ⟨A,c,h0,h1,h2,h3,h4⟩:=h.cs (k+i) hi'
    have hg:(fs.drop k)[i]'hi=fs[k+i]'hi':=by simp
    rw [hg]
    exact ⟨A,c,by rw [List.getElem?_drop,show k*4+i*4=(k+i)*4 by omega];exact h0,by rw [List.getElem?_drop,show k*4+(i*4+1)=(k+i)*4+1 by omega];exact h1,by rw [List.getElem?_drop,show k*4+(i*4+2)=(k+i)*4+2 by omega];exact h2,by rw [List.getElem?_drop,show k*4+(i*4+3)=(k+i)*4+3 by omega];exact h3,h4⟩
end Go.Proofs.YtckajeippfpojaaGreat
