import Derived.WalkKit
import Derived.WalkSpells
import Derived.WalkLawsBesides
import Derived.Deep.QuietTactic
import Derived.BigQuiet
import Derived.Lib.Hide
namespace Go.Proofs.YtckajeippfpojaaGreat
open Go.RowKit
structure Kp (w0:World) where
  val:World
  ok:Below w0.heap.size w0 val
instance (w0:World):Nonempty (Kp w0):=⟨⟨w0,Below.refl _ _⟩⟩
theorem Kp.cell {w0:World} (x:Kp w0) {b o:Nat} {v:Value} (h:w0.cell? ⟨b,o,none⟩=some v):x.val.cell? ⟨b,o,none⟩=some v :=
  (x.ok.cell (p:=⟨b,o,none⟩) (World.block_lt_of_cell? w0 _ h)).trans h
theorem wp_region_kept {P:Program} {id:Nat} {Q:Exit→Act→World→Prop} {a:Act} {w:World} {l:List Oper} (hm:P.follows .mixedOrders=true) (hB:Region.lexB .any l.toArray=true)
    (h:wpQuiet P l.toArray (fun W=>∃x:Kp w,W=x.val) (fun a'=>∀W,(∃x:Kp w,W=x.val)→Q .normal a' W) l a):(Code.region id l.toArray true).wp P Q a w :=
  wp_region_quiet (C:=fun W=>∃x:Kp w,W=x.val) hm hB ⟨⟨{ w with drawn:=w.drawn+1 },(Below.refl _ w).drew⟩,rfl⟩ (by simpa using h)
theorem kept_of {P:Program} {f:FuncId} {args:Array Value} {w0:World} {x:Kp w0} {v:Value} (h:Calls P f args x.val fun e w'=>e=.returned v∧Below x.val.heap.size x.val w') :
    Calls P f args x.val fun e w''=>e=.returned v∧∃y:Kp w0,w''=y.val :=
  h.mono fun _ _ ⟨he,hb⟩=>⟨he,⟨_,x.ok.trans (hb.mono x.ok.size)⟩,rfl⟩
end Go.Proofs.YtckajeippfpojaaGreat
