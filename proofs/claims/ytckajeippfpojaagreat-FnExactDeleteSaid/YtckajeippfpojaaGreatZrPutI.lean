import Derived.Test.YtckajeippfpojaaGreatZrPutP
import Derived.Test.YtckajeippfpojaaGreatZrGSf
import Derived.Test.YtckajeippfpojaaGreatZrThoO
import Derived.Test.YtckajeippfpojaaGreatZrFit
import Derived.Test.YtckajeippfpojaaGreatZrNameS
import Derived.Test.YtckajeippfpojaaGreatZrStep
import Derived.Deep.RegionLaw
namespace Go.Proofs.YtckajeippfpojaaGreat
open Go.RowKit Go.Maps
structure P5 (W4:World) (bt base:Nat) (v0 v1 v2 v3:Int) (sl:Value) (j:Nat) (y:Int) (X:World):Prop where
  c:Bx X bt [.int .i64 v0,.int .i64 v1,.int .i64 v2,.int .i64 v3,sl]
  cj:X.cell? ⟨bt,j,none⟩=some (.int .i64 y)
  f:∀o,X.frozen? ⟨bt,o,none⟩=false
  bel:Below base W4 X
  lt:bt < base
  le:base≤X.heap.size
section
variable {W4 X Y:World} {bt base j:Nat} {v0 v1 v2 v3 y:Int} {sl:Value}
theorem P5.below (h:P5 W4 bt base v0 v1 v2 v3 sl j y X) (hb:Below X.heap.size X Y):P5 W4 bt base v0 v1 v2 v3 sl j y Y :=
  have hl:=h.lt
  have he:=h.le
  ⟨h.c.below hb (by omega),(hb.cell (p:=⟨bt,j,none⟩) (by show bt < _;omega)).trans h.cj,fun o=>(hb.frozen (p:=⟨bt,o,none⟩) (by show bt < _;omega)).trans (h.f o),h.bel.trans (hb.mono he),hl,Nat.le_trans he hb.size⟩
theorem P5.alloc (h:P5 W4 bt base v0 v1 v2 v3 sl j y X) (o:Obj):P5 W4 bt base v0 v1 v2 v3 sl j y (X.alloc o):=h.below ((Below.refl _ _).alloc (Nat.le_refl _) o)
theorem P5.drew (h:P5 W4 bt base v0 v1 v2 v3 sl j y X):P5 W4 bt base v0 v1 v2 v3 sl j y X.drew:=h.below (Below.refl _ _).drew
theorem P5.grown (h:P5 W4 bt base v0 v1 v2 v3 sl j y X) {row:Option Nat} (hg:X.grownBy Y row) (hr:∀k,row=some k→base≤k):P5 W4 bt base v0 v1 v2 v3 sl j y Y:=by
  have hl:=h.lt
  have he:=h.le
  have hblk:Y.heap[bt]?=X.heap[bt]?:=hg.block bt (by omega) (fun e=>by have:=hr bt e.symm;omega)
  exact ⟨fun i hi=>(World.cell?_of_block hblk).trans (h.c i hi),(World.cell?_of_block hblk).trans h.cj,fun o=>(World.frozen?_of_block hblk).trans (h.f o),h.bel.grown hg he (fun k hk=>hr k hk),hl,Nat.le_trans he hg.size⟩
end
end Go.Proofs.YtckajeippfpojaaGreat
