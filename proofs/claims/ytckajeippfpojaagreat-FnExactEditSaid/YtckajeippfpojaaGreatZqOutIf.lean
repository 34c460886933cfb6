import Derived.Test.YtckajeippfpojaaGreatZqDropI
import Derived.Deep.Cut
namespace Go.Proofs.YtckajeippfpojaaGreat
open Go.RowKit Go.Maps
set_option maxRecDepth 100000 in
set_option maxHeartbeats 2000000 in
theorem outIf_any (x0 x1 x2 x3:Int) (A:Option Addr) (es:List En) (cap:Nat) (b:Bool) (w:World) (hA:EvsIn w 0 w.heap.size A es) (hn:es.length≤1000) :
    Calls Tryz.prog 145 #[.agg #[.int .i64 x0,.int .i64 x1,.int .i64 x2,.int .i64 x3,.slice A es.length cap],.bool b] w (NewTrB (if b=true then [x0,x1,x2,x3] else []) (if b=true then es else []) b w):=by
  have HA:=hd' hA
  clear hA
  go_enter Tryz.func145,Tryz.ntmps145
  obtain ⟨W0,hW0⟩:∃W0,W0=w.alloc (.cells #[.int .i64 x0,.int .i64 x1,.int .i64 x2,.int .i64 x3,.slice A es.length cap] 101):=⟨_,rfl⟩
  obtain ⟨W,hW⟩:∃W,W=W0.alloc (.cells #[.slice none 0 0,.slice none 0 0] 38):=⟨_,rfl⟩
  have hz0:W0.heap.size=w.heap.size+1:=by rw [hW0];simp
  have hz:w.heap.size+1 < W.heap.size:=by rw [hW];simp [hz0]
  have HX:=hd' (show Bx W w.heap.size [.int .i64 x0,.int .i64 x1,.int .i64 x2,.int .i64 x3,.slice A es.length cap] by rw [hW];exact Bx.alloc (by rw [hW0];exact Bx.new' _ _ _ _ rfl) (by omega) _)
  have HY:=hd' (show Bx W (w.heap.size+1) [.slice none 0 0,.slice none 0 0] by rw [hW,←hz0];exact Bx.new' _ _ _ _ rfl)
  have HF:=hd' (show ∀o,W.frozen? ⟨w.heap.size+1,o,none⟩=false from fun o=>by rw [hW,hW0];exact (((Fresh.refl w).alloc _ _).alloc _ _) ⟨w.heap.size+1,o,none⟩ (by show w.heap.size≤w.heap.size+1;omega))
  have HBel:=hd' (show Below w.heap.size w W by rw [hW,hW0];exact ((Below.refl _ _).alloc (Nat.le_refl _) _).alloc (by simp) _)
  go_upto_region 1 with fail
  rw [←hW0,←hW]
  clear hW hW0 hz0
  have r0:=HY.out 0 (by simp)
  have r1:=HY.out 1 (by simp)
  simp only [List.getElem_cons_succ,List.getElem_cons_zero] at r0 r1
  have f0:=HF.out 0
  have f1:=HF.out 1
  cases b with
  | false =>
    have hq:=two_get (v0:=.slice none 0 0) (v1:=.slice none 0 0) r0 r1
    have HB2:=hd' (show Below w.heap.size w ((W.setCell ⟨w.heap.size+1,0,none⟩ (.slice none 0 0)).setCell ⟨w.heap.size+1,1,none⟩ (.slice none 0 0)) from (HBel.out.setCell (by simp) _).setCell (by simp) _)
    have hsz:w.heap.size < ((W.setCell ⟨w.heap.size+1,0,none⟩ (.slice none 0 0)).setCell ⟨w.heap.size+1,1,none⟩ (.slice none 0 0)).heap.size:=by simp;omega
    have HQ:=hd' hq
    clear hq
    go_wp2_with fail
    obtain ⟨q0,q1⟩:=HQ.out
    refine bodyPost_ret (v:=.tuple #[.agg #[.slice none 0 0,.slice none 0 0],.bool false]) (by simp [results,Tryz.results145,q0,q1,go_sem]) rfl ?_
    exact ⟨none,0,none,0,rfl,TrOwn.none _ _ _ (by omega),hsz,HB2.out⟩
  | true =>
    have g0:=HX.out 0 (by simp)
    have g1:=HX.out 1 (by simp)
    have g2:=HX.out 2 (by simp)
    have g3:=HX.out 3 (by simp)
    have g4:=HX.out 4 (by simp)
    simp only [List.getElem_cons_succ,List.getElem_cons_zero] at g0 g1 g2 g3 g4
    have HO:=hd' (out_any x0 x1 x2 x3 A es cap W ((HA.out.keep fun p _ hp=>HBel.out.cell (by omega)).mono (by omega)) hn)
    go_wp2_with fail
    refine HO.out.mono ?_
    rintro r wt ⟨AV4,cv4,A4,c4,rfl,htr,hlt4,hbt⟩
    have q0:=(hbt.cell (p:=⟨w.heap.size+1,0,none⟩) hz).trans r0
    have q1:=(hbt.cell (p:=⟨w.heap.size+1,1,none⟩) hz).trans r1
    have qf0:=(hbt.frozen (p:=⟨w.heap.size+1,0,none⟩) hz).trans f0
    have qf1:=(hbt.frozen (p:=⟨w.heap.size+1,1,none⟩) hz).trans f1
    have hzt:=hbt.size
    have hB9:Below w.heap.size w ((wt.setCell ⟨w.heap.size+1,0,none⟩ (.slice AV4 4 cv4)).setCell ⟨w.heap.size+1,1,none⟩ (.slice A4 es.length c4)):=((HBel.out.trans (hbt.mono (by omega))).setCell (by simp) _).setCell (by simp) _
    have hT9:TrOwn ((wt.setCell ⟨w.heap.size+1,0,none⟩ (.slice AV4 4 cv4)).setCell ⟨w.heap.size+1,1,none⟩ (.slice A4 es.length c4)) W.heap.size wt.heap.size AV4 [x0,x1,x2,x3] A4 es:=htr.keep fun p hp _=>two_other (by omega)
    have hs9:((wt.setCell ⟨w.heap.size+1,0,none⟩ (.slice AV4 4 cv4)).setCell ⟨w.heap.size+1,1,none⟩ (.slice A4 es.length c4)).heap.size=wt.heap.size:=by simp
    have HQ:=hd' (two_get (v0:=.slice AV4 4 cv4) (v1:=.slice A4 es.length c4) q0 q1)
    have HT9:=hd' (hT9.mono (show w.heap.size≤W.heap.size by omega) (Nat.le_of_eq hs9.symm))
    have hlt9:w.heap.size < ((wt.setCell ⟨w.heap.size+1,0,none⟩ (.slice AV4 4 cv4)).setCell ⟨w.heap.size+1,1,none⟩ (.slice A4 es.length c4)).heap.size:=by rw [hs9];omega
    have HB9:=hd' hB9
    clear hbt htr hB9 hT9 hs9 hlt4 HO r0 r1 f0 f1 g0 g1 g2 g3 g4
    go_wp2_with fail
    obtain ⟨p0,p1⟩:=HQ.out
    refine bodyPost_ret (v:=.tuple #[.agg #[.slice AV4 4 cv4,.slice A4 es.length c4],.bool true]) (by simp [results,Tryz.results145,p0,p1,go_sem]) rfl ?_
    exact ⟨AV4,cv4,A4,c4,rfl,HT9.out,hlt9,HB9.out⟩
end Go.Proofs.YtckajeippfpojaaGreat
