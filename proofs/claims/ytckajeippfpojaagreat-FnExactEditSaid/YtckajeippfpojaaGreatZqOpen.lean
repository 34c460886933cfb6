import Derived.Test.YtckajeippfpojaaGreatZqGLed
namespace Go.Proofs.YtckajeippfpojaaGreat
open Go.RowKit Go.Maps
def tmAt (ts:List Tm) (i:Int):Tm:=ts[i.toNat]?.getD default
theorem tmAt_nat (ts:List Tm) (i:Nat) (h:i < ts.length):tmAt ts i=ts[i]:=by simp [tmAt,h]
theorem hasB_iff (n:Nat) (i:Int):hasB n i=true ↔ 0≤i∧i < n:=by simp [hasB]
end Go.Proofs.YtckajeippfpojaaGreat
