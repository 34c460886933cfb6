import Derived.Test.YtckajeippfpojaaGreatRows
import Derived.Test.YtckajeippfpojaaGreatZqGA
import Derived.Test.YtckajeippfpojaaGreatZqKept
import Derived.BigGuardPart
namespace Go.Proofs.YtckajeippfpojaaGreat
open Go.RowKit
def okB (n:Nat) (t:Tm):Bool :=
  if t.kind=0∨t.kind=1 then decide (0≤t.a) && decide (t.a < 1000) && (t.b == 0) && ((t.text.length:Int) == 0)
  else if t.kind=2 then (t.a == 0) && (t.b == 0) && decide (t.text.length≤300)
  else if t.kind=4 then decide (0≤t.a) && decide (t.a < n) && (t.b == 0) && ((t.text.length:Int) == 0)
  else if t.kind=3∨t.kind=5∨t.kind=6 then decide (0≤t.a) && decide (t.a < n) && decide (0≤t.b) && decide (t.b < n) && ((t.text.length:Int) == 0)
  else false
def keyedB (ts:List Tm) (t:Tm):Bool:=((t.kind != 5) && (t.kind != 6)) || ((ts[t.a.toNat]?.getD default).kind == 1)
set_option maxHeartbeats 4000000 in
theorem l1ok_any (n:Nat) (t:Tm) (A:Option Addr) (c:Nat) (w:World) (hn:t.text.length≤1048576) :
    Calls Tryz.prog 105 #[.int .i64 n,.agg #[.int .i64 t.kind,.int .i64 t.a,.int .i64 t.b,.slice A t.text.length c]] w fun e w'=>e=.returned (.bool (okB n t))∧Below w.heap.size w w':=by
  obtain ⟨k,a,b,l⟩:=t
  simp only at *
  go_enter Tryz.func105,Tryz.ntmps105
  go_wp2
  all_goals go_ret
  all_goals refine ⟨ret_bool ?_,(Below.refl _ _).alloc (Nat.le_refl _) _⟩
  all_goals first|(simp_all [okB];done)|(simp_all [okB];omega)
end Go.Proofs.YtckajeippfpojaaGreat
