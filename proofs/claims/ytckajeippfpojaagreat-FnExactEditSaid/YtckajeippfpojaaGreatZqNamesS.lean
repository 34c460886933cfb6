import Derived.Test.YtckajeippfpojaaGreatZqNamesI
import Derived.Test.YtckajeippfpojaaGreatZqGCmp
import Derived.Test.YtckajeippfpojaaGreatZqGA
namespace Go.Proofs.YtckajeippfpojaaGreat
open Go.RowKit Go.Maps
theorem vb_length (l:List UInt8):(vbytes l).length=l.length:=by simp [vbytes]
theorem vb_one (l:List UInt8):∀u∈vbytes l,u.oneCell'=true:=by
  intro u hu
  simp only [vbytes,List.mem_map] at hu
  obtain ⟨b,_,rfl⟩:=hu
  rfl
end Go.Proofs.YtckajeippfpojaaGreat
