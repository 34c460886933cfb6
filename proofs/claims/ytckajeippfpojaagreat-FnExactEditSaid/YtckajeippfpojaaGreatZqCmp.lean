import Derived.Test.YtckajeippfpojaaGreatZqGB
import Derived.Lib.Bytealg
import Derived.StillTailTactics
import Derived.Outline
namespace Go.Proofs.YtckajeippfpojaaGreat
open Go.RowKit Go.Maps
set_option maxRecDepth 100000
def cmpI (x y:Int):Int:=if x < y then -1 else if y < x then 1 else 0
set_option maxHeartbeats 1000000 in
theorem isNaN_any (x:Int) (w:World):Calls Tryz.prog 229 #[.int .i64 x] w fun e w'=>e=.returned (.bool false)∧w'=w:=by
  have h:(x != x)=false:=by simp
  go_enter Tryz.func229,Tryz.ntmps229
  go_wp2_with fail
  go_ret
  exact ⟨rfl,rfl⟩
set_option maxHeartbeats 1000000 in
theorem cmpInt_any (x y:Int) (w:World):Calls Tryz.prog 212 #[.int .i64 x,.int .i64 y] w fun e w'=>e=.returned (.int .i64 (cmpI x y))∧w'=w:=by
  have HC:=hd' (show cmpI x y=if x < y then -1 else if y < x then 1 else 0 from rfl)
  go_enter Tryz.func212,Tryz.ntmps212
  by_cases h1:x < y
  · have HV:=hd' (show cmpI x y = -1 by rw [HC.out,if_pos h1])
    go_wp2_with (go_at_call 229;refine (isNaN_any _ _).mono ?_;rintro e w' ⟨rfl,rfl⟩)
    go_ret
    exact ⟨ret_int (a:=-1) HV.out.symm,rfl⟩
  · by_cases h2:y < x
    · have HV:=hd' (show cmpI x y=1 by rw [HC.out,if_neg h1,if_pos h2])
      go_wp2_with (go_at_call 229;refine (isNaN_any _ _).mono ?_;rintro e w' ⟨rfl,rfl⟩)
      go_ret
      exact ⟨ret_int (a:=1) HV.out.symm,rfl⟩
    · have HV:=hd' (show cmpI x y=0 by rw [HC.out,if_neg h1,if_neg h2])
      go_wp2_with (go_at_call 229;refine (isNaN_any _ _).mono ?_;rintro e w' ⟨rfl,rfl⟩)
      go_ret
      exact ⟨ret_int (a:=0) HV.out.symm,rfl⟩
set_option maxHeartbeats 1000000 in
theorem cmpString_any (a b:ByteArray) (w:World):Calls Tryz.prog 228 #[.string a,.string b] w fun e w'=>e=.returned (.int .i64 (Lib.compareBytes a.data.toList b.data.toList))∧w'=w:=by
  go_enter Tryz.func228,Tryz.ntmps228
  go_wp2
  rw [run_callFunc_extern Tryz.func235 (by kernel_rfl) (by kernel_rfl) (by kernel_rfl) (e:=Extern.BytealgCompare.compare) (by kernel_rfl),Lib.run_compareString]
  simp only [Result.andThen]
  rw [Oper.upon_value]
  go_wp2
  go_ret
  exact ⟨rfl,rfl⟩
set_option maxHeartbeats 1000000 in
theorem strCompare_any (a b:ByteArray) (w:World):Calls Tryz.prog 211 #[.string a,.string b] w fun e w'=>e=.returned (.int .i64 (Lib.compareBytes a.data.toList b.data.toList))∧w'=w:=by
  go_enter Tryz.func211,Tryz.ntmps211
  go_wp2_with (go_at_call 228;refine (cmpString_any _ _ _).mono ?_;rintro e w' ⟨rfl,rfl⟩)
  go_ret
  exact ⟨rfl,rfl⟩
def or3 (x y z:Int):Int:=if x != 0 then x else if y != 0 then y else z
set_option maxHeartbeats 1000000 in
theorem cmpOr_any (g:Nat) (x y z:Int) (w:World) (c0:w.cell? ⟨g,0,none⟩=some (.int .i64 x)) (c1:w.cell? ⟨g,1,none⟩=some (.int .i64 y)) (c2:w.cell? ⟨g,2,none⟩=some (.int .i64 z)) :
    Calls Tryz.prog 210 #[.slice (some ⟨g,0,none⟩) 3 3] w fun e w'=>e=.returned (.int .i64 (or3 x y z))∧w=w':=by
  have HO:=hd' (show or3 x y z=if x != 0 then x else if y != 0 then y else z from rfl)
  have C0:=hd' c0
  have C1:=hd' c1
  have C2:=hd' c2
  clear c0 c1 c2
  go_enter Tryz.func210,Tryz.ntmps210
  go_wp2_with fail
  go_loop [8] (fun i=>i=.int .i64 0∨(i=.int .i64 1∧(x != 0)=false)∨(i=.int .i64 2∧(x != 0)=false∧(y != 0)=false)∨(i=.int .i64 3∧(x != 0)=false∧(y != 0)=false∧z=0)) (fun i=>3 - (intOf i).toNat)
  case atStart=>exact .inl rfl
  case round =>
    rcases hrel with rfl|⟨rfl,hx⟩|⟨rfl,hx,hy⟩|⟨rfl,hx,hy,hz⟩
    · have c:=C0.out
      cases hx:(x != 0) with
      | true =>
        have HV:=hd' (show or3 x y z=x by rw [HO.out,if_pos hx])
        go_wp2_with fail
        go_ret
        exact ⟨ret_int HV.out.symm,rfl⟩
      | false =>
        have HX:=hd' hx
        go_wp2_with fail
        go_round
        case rel=>exact .inr (.inl ⟨rfl,by first|exact HX.out|trivial⟩)
        case measure=>simp [intOf]
    · have c:=C1.out
      have HX:=hd' hx
      clear hx
      cases hy:(y != 0) with
      | true =>
        have HV:=hd' (show or3 x y z=y by rw [HO.out,if_neg (by simp [HX.out]),if_pos hy])
        go_wp2_with fail
        go_ret
        exact ⟨ret_int HV.out.symm,rfl⟩
      | false =>
        have HY:=hd' hy
        go_wp2_with fail
        go_round
        case rel=>exact .inr (.inr (.inl ⟨rfl,HX.out,by first|exact HY.out|trivial⟩))
        case measure=>simp [intOf]
    · have c:=C2.out
      have HX:=hd' hx
      have HY:=hd' hy
      clear hx hy
      have HV:=hd' (show or3 x y z=z by rw [HO.out,if_neg (by simp [HX.out]),if_neg (by simp [HY.out])])
      cases hz:(z != 0) with
      | true =>
        go_wp2_with fail
        go_ret
        exact ⟨ret_int HV.out.symm,rfl⟩
      | false =>
        have HZ:=hd' hz
        go_wp2_with fail
        go_round
        case rel=>exact .inr (.inr (.inr ⟨rfl,HX.out,HY.out,by simpa using HZ.out⟩))
        case measure=>simp [intOf]
    · have HV:=hd' (show or3 x y z=0 by rw [HO.out,if_neg (by simp [hx]),if_neg (by simp [hy]),hz])
      clear hx hy hz
      go_wp2_with fail
      go_ret
      exact ⟨ret_int (a:=0) HV.out.symm,rfl⟩
def ev (e:En):Value:=.agg #[.string ⟨e.name.toArray⟩,.int .i64 e.val,.int .i64 e.dev,.int .i64 e.num]
def plaV (e f:En):Int:=or3 (Lib.compareBytes e.name f.name) (cmpI f.num e.num) (cmpI e.dev f.dev)
set_option maxHeartbeats 2000000 in
theorem byPlace_any (e f:En) (w:World):Calls Tryz.prog 186 #[ev e,ev f] w fun r w'=>r=.returned (.int .i64 (plaV e f))∧Below w.heap.size w w':=by
  obtain ⟨n1,v1,d1,m1⟩:=e
  obtain ⟨n2,v2,d2,m2⟩:=f
  have HP:=hd' (show plaV ⟨n1,v1,d1,m1⟩ ⟨n2,v2,d2,m2⟩=or3 (Lib.compareBytes n1 n2) (cmpI m2 m1) (cmpI d1 d2) from rfl)
  unfold ev
  simp only
  go_enter Tryz.func186,Tryz.ntmps186
  go_wp2_with fail
  obtain ⟨W0,hW0⟩:∃W0,W0=w.alloc (.cells #[.string ⟨n1.toArray⟩,.int .i64 v1,.int .i64 d1,.int .i64 m1] 192):=⟨_,rfl⟩
  obtain ⟨W,hW⟩:∃W,W=W0.alloc (.cells #[.string ⟨n2.toArray⟩,.int .i64 v2,.int .i64 d2,.int .i64 m2] 192):=⟨_,rfl⟩
  have hz0:W0.heap.size=w.heap.size+1:=by rw [hW0];simp
  have hz:W.heap.size=w.heap.size+2:=by rw [hW];simp [hz0]
  have hX:Bx W w.heap.size [.string ⟨n1.toArray⟩,.int .i64 v1,.int .i64 d1,.int .i64 m1]:=by rw [hW];exact Bx.alloc (by rw [hW0];exact Bx.new' _ _ _ _ rfl) (by omega) _
  have hY:Bx W (w.heap.size+1) [.string ⟨n2.toArray⟩,.int .i64 v2,.int .i64 d2,.int .i64 m2]:=by rw [hW,←hz0];exact Bx.new' _ _ _ _ rfl
  have HBel:=hd' (show Below w.heap.size w W by rw [hW,hW0];exact ((Below.refl _ _).alloc (Nat.le_refl _) _).alloc (by simp) _)
  rw [←hW0,←hW]
  have hzW:w.heap.size+1 < W.heap.size:=by omega
  clear hW hW0 hz0 hz
  obtain ⟨x0,x1,x2,x3⟩:=hX.four
  obtain ⟨y0,y1,y2,y3⟩:=hY.four
  clear hX hY
  refine wp_region_still_tail 19 (by kernel_rfl) (by kernel_rfl) ?_
  simp only [List.take_succ_cons,List.take_zero,List.drop_succ_cons,List.drop_zero]
  repeat (first|still_step|(still_call (strCompare_any _ _ _))|(still_call (cmpInt_any _ _ _)))
  refine wpStill_nil ?_
  change wpList _ _ _ _ _ W.drew
  obtain ⟨a,ha⟩:∃a,a=Lib.compareBytes n1 n2:=⟨_,rfl⟩
  obtain ⟨b,hb⟩:∃b,b=cmpI m2 m1:=⟨_,rfl⟩
  obtain ⟨c,hc⟩:∃c,c=cmpI d1 d2:=⟨_,rfl⟩
  rw [←ha,←hb,←hc] at HP
  rw [←ha,←hb,←hc]
  clear x0 x1 x2 x3 y0 y1 y2 y3 ha hb hc
  go_wp2_with fail
  have hc0:∀o:Obj,(W.alloc o).drew.heap.size=W.heap.size+1:=fun o=>by simp [World.drew]
  clear hc0
  refine (cmpOr_any W.heap.size a b c _ ?_ ?_ ?_).mono ?_
  · simp
  · simp
  · simp
  rintro r w5 ⟨rfl,rfl⟩
  go_wp2_with fail
  go_ret
  exact ⟨ret_int HP.out.symm,((HBel.out.drew).alloc (by show w.heap.size≤W.heap.size;omega) _)⟩
end Go.Proofs.YtckajeippfpojaaGreat
