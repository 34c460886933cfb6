import Derived.Test.YtckajeippfpojaaGreatZqGA
import Derived.Test.YtckajeippfpojaaGreatZqGB
import Derived.Outline
import Derived.Laws.Cover3
import Derived.Deep.RegionWith
import Derived.Deep.RegionHeld3
import Derived.Laws.StructEq
namespace Go.Proofs.YtckajeippfpojaaGreat
open Go.RowKit Go.Maps
set_option maxRecDepth 100000
def vecB (l:List Int):Bool:=decide (l.length=4) && l.all fun x=>decide (0≤x) && decide (x≤1000)
def v4 (a b c d:Int):Value:=.agg #[.int .i64 a,.int .i64 b,.int .i64 c,.int .i64 d]
theorem Tryz.index40 (a b c d:Int) (w:World):(Instr.index 98 (.agg #[.int .i64 a,.int .i64 b,.int .i64 c,.int .i64 d]) (.int .i64 0)).run Tryz.prog w=.ok (.int .i64 a) w:=by kernel_rfl
theorem Tryz.index41 (a b c d:Int) (w:World):(Instr.index 98 (.agg #[.int .i64 a,.int .i64 b,.int .i64 c,.int .i64 d]) (.int .i64 1)).run Tryz.prog w=.ok (.int .i64 b) w:=by kernel_rfl
theorem Tryz.index42 (a b c d:Int) (w:World):(Instr.index 98 (.agg #[.int .i64 a,.int .i64 b,.int .i64 c,.int .i64 d]) (.int .i64 2)).run Tryz.prog w=.ok (.int .i64 c) w:=by kernel_rfl
theorem Tryz.index43 (a b c d:Int) (w:World):(Instr.index 98 (.agg #[.int .i64 a,.int .i64 b,.int .i64 c,.int .i64 d]) (.int .i64 3)).run Tryz.prog w=.ok (.int .i64 d) w:=by kernel_rfl
def nth4 (a b c d:Int) (k:Nat):Int:=if k=0 then a else if k=1 then b else if k=2 then c else d
theorem Tryz.index4 (a b c d:Int) (k:Nat) (hk:k < 4) (w:World) :
    (Instr.index 98 (.agg #[.int .i64 a,.int .i64 b,.int .i64 c,.int .i64 d]) (.int .i64 (k:Int))).run Tryz.prog w=.ok (.int .i64 (nth4 a b c d k)) w:=by
  have:k=0∨k=1∨k=2∨k=3:=by omega
  rcases this with rfl|rfl|rfl|rfl
  · exact Tryz.index40 a b c d w
  · exact Tryz.index41 a b c d w
  · exact Tryz.index42 a b c d w
  · exact Tryz.index43 a b c d w
structure Row4 (w:World) (b:Nat) (x0 x1 x2 x3:Int):Prop where
  c0:w.cell? ⟨b,0,none⟩=some (.int .i64 x0)
  c1:w.cell? ⟨b,1,none⟩=some (.int .i64 x1)
  c2:w.cell? ⟨b,2,none⟩=some (.int .i64 x2)
  c3:w.cell? ⟨b,3,none⟩=some (.int .i64 x3)
  fr:∀o,w.frozen? ⟨b,o,none⟩=false
section
variable {w w':World} {b B:Nat} {x0 x1 x2 x3:Int}
theorem Row4.below (h:Row4 w b x0 x1 x2 x3) (hb:Below B w w') (hlt:b < B):Row4 w' b x0 x1 x2 x3 :=
  ⟨(hb.cell (p:=⟨b,0,none⟩) hlt).trans h.c0,(hb.cell (p:=⟨b,1,none⟩) hlt).trans h.c1,(hb.cell (p:=⟨b,2,none⟩) hlt).trans h.c2,(hb.cell (p:=⟨b,3,none⟩) hlt).trans h.c3,fun o=>(hb.frozen (p:=⟨b,o,none⟩) hlt).trans (h.fr o)⟩
theorem Row4.new (w:World) (t:TypeId):Row4 (w.alloc (.cells #[.int .i64 x0,.int .i64 x1,.int .i64 x2,.int .i64 x3] t)) w.heap.size x0 x1 x2 x3 :=
  ⟨by simp,by simp,by simp,by simp,fun o=>by simp⟩
theorem Row4.alloc (h:Row4 w b x0 x1 x2 x3) (hlt:b < w.heap.size) (o:Obj):Row4 (w.alloc o) b x0 x1 x2 x3:=h.below ((Below.refl _ _).alloc (Nat.le_refl _) _) hlt
end
theorem cell_set4 {w:World} {b b' o:Nat} {v0 v1 v2 v3:Value} (hb:b'≠b) :
    ((((w.setCell ⟨b,0,none⟩ v0).setCell ⟨b,1,none⟩ v1).setCell ⟨b,2,none⟩ v2).setCell ⟨b,3,none⟩ v3).cell? ⟨b',o,none⟩=w.cell? ⟨b',o,none⟩ :=
  (((cell_other hb).trans (cell_other hb)).trans (cell_other hb)).trans (cell_other hb)
theorem below_set4 {B:Nat} {a w:World} (h:Below B a w) {b:Nat} (hB:B≤b) (v0 v1 v2 v3:Value) :
    Below B a ((((w.setCell ⟨b,0,none⟩ v0).setCell ⟨b,1,none⟩ v1).setCell ⟨b,2,none⟩ v2).setCell ⟨b,3,none⟩ v3) :=
  (((h.setCell hB _).setCell hB _).setCell hB _).setCell hB _
def numB (x:Int):Bool:=decide (0≤x) && decide (x≤1000)
theorem numB_true {x:Int} (h:numB x=true):0≤x∧x≤1000:=by simpa [numB] using h
theorem numB_false {x:Int} (h:numB x=false):x < 0∨1000 < x:=by simp [numB] at h;omega
theorem vecB4 (a b c d:Int):vecB [a,b,c,d]=(numB a && numB b && numB c && numB d):=by
  simp [vecB,numB,Bool.and_assoc]
theorem vecB4_false {a b c d:Int} {k:Nat} (hk:k < 4) (h:numB (nth4 a b c d k)=false):vecB [a,b,c,d]=false:=by
  rw [vecB4]
  have:k=0∨k=1∨k=2∨k=3:=by omega
  rcases this with rfl|rfl|rfl|rfl <;> simp [nth4] at h <;> simp [h]
theorem vecB4_true {a b c d:Int} (h:∀k,k < 4→numB (nth4 a b c d k)=true):vecB [a,b,c,d]=true:=by
  rw [vecB4]
  have h0:=h 0 (by omega)
  have h1:=h 1 (by omega)
  have h2:=h 2 (by omega)
  have h3:=h 3 (by omega)
  simp [nth4] at h0 h1 h2 h3
  simp [h0,h1,h2,h3]
set_option maxHeartbeats 1000000 in
theorem vok_any (a b c d:Int) (w:World) :
    Calls Tryz.prog 199 #[v4 a b c d] w fun e w'=>e=.returned (.bool (vecB [a,b,c,d]))∧Below w.heap.size w w':=by
  unfold v4
  go_enter Tryz.func199,Tryz.ntmps199
  go_wp2_with fail
  go_loopw [6] (fun i wr=>∃k:Nat,k≤4∧i=.int .i64 k∧(∀j,j < k→numB (nth4 a b c d j)=true)∧Below w.heap.size w wr) (fun i _=>4 - (intOf i).toNat)
  case atStart=>exact ⟨0,by omega,rfl,fun j hj=>absurd hj (by omega),(Below.refl _ _).alloc (Nat.le_refl _) _⟩
  case round =>
    obtain ⟨k,hk,rfl,hall,hbel⟩:=hrel
    have HAll:=hd' hall
    have HBel:=hd' hbel
    clear hall hbel
    by_cases hlt:k < 4
    · have hix:=Tryz.index4 a b c d k hlt
      obtain ⟨x,hx⟩:∃x,x=nth4 a b c d k:=⟨_,rfl⟩
      rw [←hx] at hix
      have HX:=hd' hx
      clear hx
      cases hn:numB x with
      | true =>
        have HN:=hd' hn
        obtain ⟨h0,h1⟩:=numB_true hn
        have h0':¬ x < 0:=by omega
        have h1':¬ 1000 < x:=by omega
        clear hn
        go_wp2_with fail
        go_roundw
        case rel =>
          refine ⟨k+1,by omega,by go_num,fun j hj=>?_,HBel.out⟩
          by_cases e:j=k
          · rw [e,←HX.out];exact HN.out
          · exact HAll.out j (by omega)
        case measure=>simp [intOf];omega
      | false =>
        have HF:=hd' (vecB4_false hlt (by rw [←HX.out];exact hn))
        have hn':=numB_false hn
        clear hn
        by_cases h0:x < 0
        all_goals
          go_wp2_with fail
          go_ret
          exact ⟨ret_bool (a:=false) HF.out.symm,HBel.out⟩
    · have HT:=hd' (vecB4_true fun j hj=>HAll.out j (by omega))
      have hke:k=4:=by omega
      subst hke
      go_wp2_with fail
      go_ret
      exact ⟨ret_bool (a:=true) HT.out.symm,HBel.out⟩
set_option maxHeartbeats 1000000 in
theorem readVec_no (A:Option Addr) (n cap:Nat) (w:World) (h4:n≠4) :
    Calls Tryz.prog 175 #[.slice A n cap] w fun e w'=>e=.returned (.tuple #[v4 0 0 0 0,.bool false])∧Below w.heap.size w w':=by
  unfold v4
  have h4':((n:Int) != 4)=true:=by simp;omega
  clear h4
  go_enter Tryz.func175,Tryz.ntmps175
  go_wp2_with fail
  exact bodyPost_ret (v:=.tuple #[.agg #[.int .i64 0,.int .i64 0,.int .i64 0,.int .i64 0],.bool false]) (by simp [results,Tryz.results175,go_sem]) rfl ⟨rfl,(Below.refl _ _).alloc (Nat.le_refl _) _⟩
theorem cell_dr (w:World) (a:Addr):w.drew.cell? a=w.cell? a:=rfl
set_option maxHeartbeats 4000000 in
theorem readVec_yes (A:Option Addr) (a b c d:Int) (cap:Nat) (w:World) (hA:IntsIn w 0 w.heap.size A [a,b,c,d]) :
    Calls Tryz.prog 175 #[.slice A 4 cap] w fun e w'=>e=.returned (.tuple #[v4 a b c d,.bool (vecB [a,b,c,d])])∧Below w.heap.size w w':=by
  obtain ⟨g,o,rfl,_,hg,hc⟩:=hA (by simp)
  have c0:=hc 0 (by simp)
  have c1:=hc 1 (by simp)
  have c2:=hc 2 (by simp)
  have c3:=hc 3 (by simp)
  simp at c0 c1 c2 c3
  clear hc hA
  have hcv:=fun W:World=>run_arrayAt (P:=Tryz.prog) (w:=W) 98 3 4 (some ⟨g,o,none⟩) 4 cap Tryz.underlying98 (Nat.le_refl _)
  unfold v4
  go_enter Tryz.func175,Tryz.ntmps175
  go_wp2_with fail
  obtain ⟨W0,hW0⟩:∃W0,W0=w.alloc (.cells #[.int .i64 0,.int .i64 0,.int .i64 0,.int .i64 0] 98):=⟨_,rfl⟩
  obtain ⟨W,hW⟩:∃W,W=W0.alloc (.cells #[.int .i64 a,.int .i64 b,.int .i64 c,.int .i64 d] 98):=⟨_,rfl⟩
  have hz0:W0.heap.size=w.heap.size+1:=by rw [hW0];simp
  have hz:W.heap.size=w.heap.size+2:=by rw [hW];simp [hz0]
  have HR:=hd' (show Row4 W w.heap.size 0 0 0 0 by rw [hW];exact Row4.alloc (by rw [hW0];exact Row4.new _ _) (by omega) _)
  have hV:Row4 W (w.heap.size+1) a b c d:=by rw [hW,←hz0];exact Row4.new _ _
  have HBel:=hd' (show Below w.heap.size w W by rw [hW,hW0];exact ((Below.refl _ _).alloc (Nat.le_refl _) _).alloc (by simp) _)
  rw [←hW0,←hW]
  have hzW:w.heap.size+1 < W.heap.size:=by omega
  clear hW hW0 hz0 hz c0 c1 c2 c3 hcv
  have v0:=hV.c0
  have v1:=hV.c1
  have v2:=hV.c2
  have v3:=hV.c3
  clear hV
  go_region_held3 (fun X=>X.cell? ⟨w.heap.size+1,0,none⟩=some (.int .i64 a)∧X.cell? ⟨w.heap.size+1,1,none⟩=some (.int .i64 b)∧X.cell? ⟨w.heap.size+1,2,none⟩=some (.int .i64 c)∧X.cell? ⟨w.heap.size+1,3,none⟩=some (.int .i64 d))
    (first|with_reducible exact ⟨v0,v1,v2,v3⟩|with_reducible exact ⟨y0,y1,y2,y3⟩|with_reducible exact ⟨(cell_dr _ _).trans v0,(cell_dr _ _).trans v1,(cell_dr _ _).trans v2,(cell_dr _ _).trans v3⟩|exact ⟨(cell_set4 (by omega)).trans y0,(cell_set4 (by omega)).trans y1,(cell_set4 (by omega)).trans y2,(cell_set4 (by omega)).trans y3⟩)
    (first
      | (go_at_call 199
         refine (vok_any a b c d _).mono ?_
         rintro e w5 ⟨rfl,hb5⟩
         have hbW5:Below W.heap.size W w5:=by first|exact hb5|exact (Below.refl W.heap.size W).drew.trans hb5
         have y0:=(hbW5.cell (p:=⟨w.heap.size+1,0,none⟩) hzW).trans v0
         have y1:=(hbW5.cell (p:=⟨w.heap.size+1,1,none⟩) hzW).trans v1
         have y2:=(hbW5.cell (p:=⟨w.heap.size+1,2,none⟩) hzW).trans v2
         have y3:=(hbW5.cell (p:=⟨w.heap.size+1,3,none⟩) hzW).trans v3
         have hr:=HR.out.below hbW5 (by omega)
         have r0:=hr.c0
         have r1:=hr.c1
         have r2:=hr.c2
         have r3:=hr.c3
         have hf:=hr.fr
         have hz5:=hbW5.size
         have HB5:=hd' (HBel.out.trans (hbW5.mono (by omega)))
         clear hr hb5 hbW5))
  clear v0 v1 v2 v3 y0 y1 y2 y3
  go_wp2_with fail
  exact bodyPost_ret (v:=.tuple #[.agg #[.int .i64 a,.int .i64 b,.int .i64 c,.int .i64 d],.bool (vecB [a,b,c,d])]) (by simp [results,Tryz.results175,r0,r1,r2,r3,go_sem]) rfl ⟨rfl,below_set4 HB5.out (Nat.le_refl _) _ _ _ _⟩
end Go.Proofs.YtckajeippfpojaaGreat
namespace Go.Proofs.YtckajeippfpojaaGreat
open Go.RowKit Go.Maps
set_option maxRecDepth 100000
def mx (x y:Int):Int:=if x < y then y else x
def upK (x y:Int) (j k:Nat):Int:=if j < k then mx x y else x
theorem upK_zero (x y:Int) (j:Nat):upK x y j 0=x:=by simp [upK]
theorem Row4.set0 {w:World} {b:Nat} {x0 x1 x2 x3:Int} (h:Row4 w b x0 x1 x2 x3) (v:Int):Row4 (w.setCell ⟨b,0,none⟩ (.int .i64 v)) b v x1 x2 x3 :=
  ⟨World.cell?_setCell_same _ _ _ h.c0,(World.cell?_setCell_other _ _ _ _ (by simp)).trans h.c1,(World.cell?_setCell_other _ _ _ _ (by simp)).trans h.c2,(World.cell?_setCell_other _ _ _ _ (by simp)).trans h.c3,fun o=>by rw [World.frozen?_setCell];exact h.fr o⟩
theorem Row4.set1 {w:World} {b:Nat} {x0 x1 x2 x3:Int} (h:Row4 w b x0 x1 x2 x3) (v:Int):Row4 (w.setCell ⟨b,1,none⟩ (.int .i64 v)) b x0 v x2 x3 :=
  ⟨(World.cell?_setCell_other _ _ _ _ (by simp)).trans h.c0,World.cell?_setCell_same _ _ _ h.c1,(World.cell?_setCell_other _ _ _ _ (by simp)).trans h.c2,(World.cell?_setCell_other _ _ _ _ (by simp)).trans h.c3,fun o=>by rw [World.frozen?_setCell];exact h.fr o⟩
theorem Row4.set2 {w:World} {b:Nat} {x0 x1 x2 x3:Int} (h:Row4 w b x0 x1 x2 x3) (v:Int):Row4 (w.setCell ⟨b,2,none⟩ (.int .i64 v)) b x0 x1 v x3 :=
  ⟨(World.cell?_setCell_other _ _ _ _ (by simp)).trans h.c0,(World.cell?_setCell_other _ _ _ _ (by simp)).trans h.c1,World.cell?_setCell_same _ _ _ h.c2,(World.cell?_setCell_other _ _ _ _ (by simp)).trans h.c3,fun o=>by rw [World.frozen?_setCell];exact h.fr o⟩
theorem Row4.set3 {w:World} {b:Nat} {x0 x1 x2 x3:Int} (h:Row4 w b x0 x1 x2 x3) (v:Int):Row4 (w.setCell ⟨b,3,none⟩ (.int .i64 v)) b x0 x1 x2 v :=
  ⟨(World.cell?_setCell_other _ _ _ _ (by simp)).trans h.c0,(World.cell?_setCell_other _ _ _ _ (by simp)).trans h.c1,(World.cell?_setCell_other _ _ _ _ (by simp)).trans h.c2,World.cell?_setCell_same _ _ _ h.c3,fun o=>by rw [World.frozen?_setCell];exact h.fr o⟩
theorem Row4.other {w:World} {b b' o:Nat} {x0 x1 x2 x3:Int} (h:Row4 w b x0 x1 x2 x3) (hb:b≠b') (v:Value):Row4 (w.setCell ⟨b',o,none⟩ v) b x0 x1 x2 x3 :=
  ⟨(cell_other hb).trans h.c0,(cell_other hb).trans h.c1,(cell_other hb).trans h.c2,(cell_other hb).trans h.c3,fun o=>by rw [World.frozen?_setCell];exact h.fr o⟩
set_option maxHeartbeats 2000000 in
theorem vup_any (a b c d a' b' c' d':Int) (w:World) :
    Calls Tryz.prog 195 #[v4 a b c d,v4 a' b' c' d'] w fun e w'=>e=.returned (v4 (mx a a') (mx b b') (mx c c') (mx d d'))∧Below w.heap.size w w':=by
  unfold v4
  go_enter Tryz.func195,Tryz.ntmps195
  go_wp2_with fail
  go_loopw [8] (fun i wr=>∃k:Nat,k≤4∧i=.int .i64 k∧Row4 wr w.heap.size (upK a a' 0 k) (upK b b' 1 k) (upK c c' 2 k) (upK d d' 3 k)∧Row4 wr (w.heap.size+1+1) 0 0 0 0∧w.heap.size+1+1 < wr.heap.size∧Below w.heap.size w wr) (fun i _=>4 - (intOf i).toNat)
  case atStart=>exact ⟨0,by omega,rfl,by rw [upK_zero,upK_zero,upK_zero,upK_zero];exact ((Row4.new w _).alloc (by simp) _).alloc (by simp;omega) _,by have h:=Row4.new (x0:=0) (x1:=0) (x2:=0) (x3:=0) ((w.alloc (.cells #[.int .i64 a,.int .i64 b,.int .i64 c,.int .i64 d] 98)).alloc (.cells #[.int .i64 a',.int .i64 b',.int .i64 c',.int .i64 d'] 98)) 98;simpa using h,by simp,(((Below.refl _ _).alloc (Nat.le_refl _) _).alloc (by simp) _).alloc (by simp;omega) _⟩
  case round =>
    obtain ⟨k,hk,rfl,hrow,hres,hsz,hbel⟩:=hrel
    have HBel:=hd' hbel
    have HRes:=hd' hres
    clear hbel hres
    have hk5:k=0∨k=1∨k=2∨k=3∨k=4:=by omega
    rcases hk5 with rfl|rfl|rfl|rfl|rfl
    · have hr:Row4 wr w.heap.size a b c d:=by simpa [upK] using hrow
      clear hrow
      have HR:=hd' hr
      have h0:=hr.c0
      have hf:=hr.fr 0
      have hix:=Tryz.index40 a' b' c' d'
      clear hr
      go_wp2_with fail
      go_roundw
      case rel=>exact ⟨1,by omega,by go_num,by simpa [upK,mx] using HR.out.set0 (mx a a'),HRes.out.other (by omega) _,by simpa using hsz,HBel.out.setCell (Nat.le_refl _) _⟩
      case measure=>simp [intOf]
    · have hr:Row4 wr w.heap.size (mx a a') b c d:=by simpa [upK] using hrow
      clear hrow
      have HR:=hd' hr
      have h1:=hr.c1
      have hf:=hr.fr 1
      have hix:=Tryz.index41 a' b' c' d'
      clear hr
      go_wp2_with fail
      go_roundw
      case rel=>exact ⟨2,by omega,by go_num,by simpa [upK,mx] using HR.out.set1 (mx b b'),HRes.out.other (by omega) _,by simpa using hsz,HBel.out.setCell (Nat.le_refl _) _⟩
      case measure=>simp [intOf]
    · have hr:Row4 wr w.heap.size (mx a a') (mx b b') c d:=by simpa [upK] using hrow
      clear hrow
      have HR:=hd' hr
      have h2:=hr.c2
      have hf:=hr.fr 2
      have hix:=Tryz.index42 a' b' c' d'
      clear hr
      go_wp2_with fail
      go_roundw
      case rel=>exact ⟨3,by omega,by go_num,by simpa [upK,mx] using HR.out.set2 (mx c c'),HRes.out.other (by omega) _,by simpa using hsz,HBel.out.setCell (Nat.le_refl _) _⟩
      case measure=>simp [intOf]
    · have hr:Row4 wr w.heap.size (mx a a') (mx b b') (mx c c') d:=by simpa [upK] using hrow
      clear hrow
      have HR:=hd' hr
      have h3:=hr.c3
      have hf:=hr.fr 3
      have hix:=Tryz.index43 a' b' c' d'
      clear hr
      go_wp2_with fail
      go_roundw
      case rel=>exact ⟨4,by omega,by go_num,by simpa [upK,mx] using HR.out.set3 (mx d d'),HRes.out.other (by omega) _,by simpa using hsz,HBel.out.setCell (Nat.le_refl _) _⟩
      case measure=>simp [intOf]
    · have hr:Row4 wr w.heap.size (mx a a') (mx b b') (mx c c') (mx d d'):=by simpa [upK] using hrow
      clear hrow
      have HR:=hd' hr
      have h0:=hr.c0
      have h1:=hr.c1
      have h2:=hr.c2
      have h3:=hr.c3
      have r0:=HRes.out.c0
      have r1:=HRes.out.c1
      have r2:=HRes.out.c2
      have r3:=HRes.out.c3
      have hf:=HRes.out.fr
      clear hr
      go_wp2_with fail
      exact bodyPost_ret (v:=.agg #[.int .i64 (mx a a'),.int .i64 (mx b b'),.int .i64 (mx c c'),.int .i64 (mx d d')]) (by simp [results,Tryz.results195,r0,r1,r2,r3,go_sem]) rfl ⟨rfl,below_set4 HBel.out (by omega) _ _ _ _⟩
end Go.Proofs.YtckajeippfpojaaGreat
namespace Go.Proofs.YtckajeippfpojaaGreat
open Go.RowKit Go.Maps
set_option maxRecDepth 100000
theorem Tryz.vecEq (a b c d a' b' c' d':Int) (w:World):(binOp .eql 98 (v4 a b c d) (v4 a' b' c' d')).run Tryz.prog w=.ok (.bool (a == a' && b == b' && c == c' && d == d')) w:=by
  unfold v4
  rw [run_eql_struct,show (10000:Nat)=9998+1+1 from rfl]
  have hz:=Tryz.sizeOf3
  have ha:=Tryz.isAgg3
  have hu:=Tryz.underlying98
  have hi:=Tryz.underlying3
  unfold Op.equalIn
  simp only [Sem.run_bind,run_underlying hu,Result.andThen_ok]
  simp only [hz,Result.andThen_ok,Std.Legacy.Range.forIn_eq_forIn_range',Std.Legacy.Range.size]
  simp [List.range']
  go_simp
  by_cases h1:a=a' <;> by_cases h2:b=b' <;> by_cases h3:c=c' <;> by_cases h4:d=d' <;> simp [h1,h2,h3,h4]
def belB (a b c d a' b' c' d':Int):Bool:=mx a a' == a' && mx b b' == b' && mx c c' == c' && mx d d' == d'
theorem mx_beq (x y:Int):(mx x y == y)=decide (x≤y):=by
  unfold mx
  by_cases h:x < y
  · simp [h];omega
  · rw [if_neg h,Bool.eq_iff_iff];simp;omega
set_option maxHeartbeats 2000000 in
theorem vbelow_any (a b c d a' b' c' d':Int) (w:World) :
    Calls Tryz.prog 198 #[v4 a b c d,v4 a' b' c' d'] w fun e w'=>e=.returned (.bool (belB a b c d a' b' c' d'))∧Below w.heap.size w w':=by
  have heq:=Tryz.vecEq (mx a a') (mx b b') (mx c c') (mx d d') a' b' c' d'
  have hup:=vup_any a b c d a' b' c' d'
  have HEq:=hd' heq
  have HUp:=hd' hup
  clear heq hup
  unfold v4 at *
  go_enter Tryz.func198,Tryz.ntmps198
  go_wp2_with fail
  obtain ⟨W0,hW0⟩:∃W0,W0=w.alloc (.cells #[.int .i64 a,.int .i64 b,.int .i64 c,.int .i64 d] 98):=⟨_,rfl⟩
  obtain ⟨W,hW⟩:∃W,W=W0.alloc (.cells #[.int .i64 a',.int .i64 b',.int .i64 c',.int .i64 d'] 98):=⟨_,rfl⟩
  have hz0:W0.heap.size=w.heap.size+1:=by rw [hW0];simp
  have hz:W.heap.size=w.heap.size+2:=by rw [hW];simp [hz0]
  have hX:Row4 W w.heap.size a b c d:=by rw [hW];exact Row4.alloc (by rw [hW0];exact Row4.new _ _) (by omega) _
  have hY:Row4 W (w.heap.size+1) a' b' c' d':=by rw [hW,←hz0];exact Row4.new _ _
  have HBel:=hd' (show Below w.heap.size w W by rw [hW,hW0];exact ((Below.refl _ _).alloc (Nat.le_refl _) _).alloc (by simp) _)
  rw [←hW0,←hW]
  have hzW:w.heap.size+1 < W.heap.size:=by omega
  clear hW hW0 hz0 hz
  have v0:=hX.c0
  have v1:=hX.c1
  have v2:=hX.c2
  have v3:=hX.c3
  have u0:=hY.c0
  have u1:=hY.c1
  have u2:=hY.c2
  have u3:=hY.c3
  have HX:=hd' hX
  have HY:=hd' hY
  clear hX hY
  have heq:=HEq.out
  go_region_held3 (fun X=>(X.cell? ⟨w.heap.size,0,none⟩=some (.int .i64 a)∧X.cell? ⟨w.heap.size,1,none⟩=some (.int .i64 b)∧X.cell? ⟨w.heap.size,2,none⟩=some (.int .i64 c)∧X.cell? ⟨w.heap.size,3,none⟩=some (.int .i64 d))∧X.cell? ⟨w.heap.size+1,0,none⟩=some (.int .i64 a')∧X.cell? ⟨w.heap.size+1,1,none⟩=some (.int .i64 b')∧X.cell? ⟨w.heap.size+1,2,none⟩=some (.int .i64 c')∧X.cell? ⟨w.heap.size+1,3,none⟩=some (.int .i64 d'))
    (first|exact ⟨⟨v0,v1,v2,v3⟩,u0,u1,u2,u3⟩|exact ⟨⟨s0,s1,s2,s3⟩,t0,t1,t2,t3⟩)
    (first
      | (go_at_call 195
         refine (HUp.out _).mono ?_
         rintro e w5 ⟨rfl,hb5⟩
         have hbW5:Below W.heap.size W w5:=by first|exact hb5|exact (Below.refl W.heap.size W).drew.trans hb5
         have hx:=HX.out.below hbW5 (by omega)
         have hy:=HY.out.below hbW5 (by omega)
         have s0:=hx.c0
         have s1:=hx.c1
         have s2:=hx.c2
         have s3:=hx.c3
         have t0:=hy.c0
         have t1:=hy.c1
         have t2:=hy.c2
         have t3:=hy.c3
         have HB5:=hd' (HBel.out.trans (hbW5.mono (by omega)))
         clear hx hy hb5 hbW5))
  go_wp2_with fail
  go_ret
  exact ⟨rfl,HB5.out⟩
end Go.Proofs.YtckajeippfpojaaGreat
namespace Go.Proofs.YtckajeippfpojaaGreat
open Go.RowKit Go.Maps
set_option maxRecDepth 100000
theorem ownsRow_empty (w:World) (t:TypeId) (size base:Nat) (hb:base≤w.heap.size):(w.alloc (.cells #[] t)).ownsRow base t size (.slice (some ⟨w.heap.size,0,none⟩) 0 0) 0 [] :=
  ⟨by simp,.inr ⟨w.heap.size,0,#[],rfl,hb,heap_alloc_new w _,Nat.le_refl _,by unfold maxLen;omega,by simp,by simp⟩⟩
set_option maxHeartbeats 2000000 in
theorem clone4_any (g:Nat) (a b c d:Int) (w:World) (hg:g < w.heap.size) (hr:Row4 w g a b c d) :
    Calls Tryz.prog 207 #[.slice (some ⟨g,0,none⟩) 4 4] w (NewIntsFr [a,b,c,d] w):=by
  have hnil:=@Lib.run_eql_slice_nil Tryz.prog
  go_enter Tryz.func207,Tryz.ntmps207
  obtain ⟨i0,hi,hz0,hz1,hz2⟩:=info_parts Tryz.infoInt
  have HR:=hd' hr
  clear hr
  go_wp2_with (at_builtin;refine wpList_append_own _ rfl _ _ 25 rfl w.heap.size 3 i0 (.int .i64 0) 1 8 Tryz.underlying25 hi hz0 hz1 hz2 rfl (by decide) _ _ _ rfl (ownsRow_empty w _ 1 _ (Nat.le_refl _)) ⟨g,0,none⟩ 4 4 ([a,b,c,d].map vint) rfl rfl ?c1 ?c2 ?c3 ?c4 ?c5 ?_)
  case c1 =>
    intro j u hu
    have hj:j=0∨j=1∨j=2∨j=3:=by
      have:=(List.getElem?_eq_some_iff.1 hu).1
      simp at this
      omega
    have h:=HR.out.alloc hg (.cells #[] 3)
    rw [Addr.add_lit]
    rcases hj with rfl|rfl|rfl|rfl <;> simp [vint] at hu <;> subst hu
    · exact h.c0
    · exact h.c1
    · exact h.c2
    · exact h.c3
  case c2=>intro u hu;simp [vint] at hu;rcases hu with rfl|rfl|rfl|rfl <;> rfl
  case c3=>unfold maxLen;omega
  case c4=>omega
  case c5=>simp
  intro v' w5 hrow5 hgr5 _
  obtain ⟨A5,c5,rfl⟩:=row_shape hrow5
  have HRow5:=hd' hrow5
  have HB5:=hd' (((Below.refl w.heap.size w).alloc (Nat.le_refl _) (.cells #[] 3)).grown hgr5 (by simp) (fun k hk=>by cases hk;exact Nat.le_refl _))
  clear hrow5 hgr5
  go_wp2_with fail
  go_ret
  exact ⟨A5,c5,rfl,ints_of_row (by simpa using HRow5.out),HB5.out⟩
set_option maxHeartbeats 2000000 in
theorem vlist_any (a b c d:Int) (w:World) :
    Calls Tryz.prog 180 #[v4 a b c d] w (NewIntsFr [a,b,c,d] w):=by
  have hcl:=fun w1 hg hr=>clone4_any w.heap.size a b c d w1 hg hr
  have HCl:=hd' hcl
  clear hcl
  unfold v4
  go_enter Tryz.func180,Tryz.ntmps180
  go_wp2_with fail
  refine (HCl.out _ (by simp) (Row4.new w _)).mono ?_
  rintro e w5 ⟨A5,c5,rfl,hfr,hb⟩
  have HF:=hd' hfr
  have HB:=hd' (((Below.refl w.heap.size w).alloc (Nat.le_refl _) (.cells #[.int .i64 a,.int .i64 b,.int .i64 c,.int .i64 d] 98)).trans (hb.mono (by simp)))
  clear hfr hb
  go_wp2_with fail
  go_ret
  exact ⟨A5,c5,rfl,HF.out.low (by simp),HB.out⟩
end Go.Proofs.YtckajeippfpojaaGreat
namespace Go.Proofs.YtckajeippfpojaaGreat
open Go.RowKit Go.Maps
set_option maxRecDepth 100000
theorem vecB_len {l:List Int} (h:l.length≠4):vecB l=false:=by simp [vecB,h]
theorem four_of {l:List Int} (h:l.length=4):∃a b c d,l=[a,b,c,d]:=by
  match l,h with
  | [a,b,c,d],_=>exact ⟨a,b,c,d,rfl⟩
def v4l (l:List Int):Value:=v4 (l.getD 0 0) (l.getD 1 0) (l.getD 2 0) (l.getD 3 0)
def vecVal (l:List Int):Value:=if l.length=4 then v4l l else v4 0 0 0 0
theorem vecVal_shape (l:List Int):∃a b c d,vecVal l=v4 a b c d:=by
  unfold vecVal v4l
  split <;> exact ⟨_,_,_,_,rfl⟩
theorem readVec_any (A:Option Addr) (l:List Int) (cap:Nat) (w:World) (hA:IntsIn w 0 w.heap.size A l) :
    Calls Tryz.prog 175 #[.slice A l.length cap] w fun e w'=>e=.returned (.tuple #[vecVal l,.bool (vecB l)])∧Below w.heap.size w w':=by
  by_cases h:l.length=4
  · obtain ⟨a,b,c,d,rfl⟩:=four_of h
    exact readVec_yes A a b c d cap w hA
  · rw [vecB_len h,vecVal,if_neg h]
    exact readVec_no A l.length cap w h
theorem NewIntsFr.nil {w w':World} (hb:Below w.heap.size w w'):NewIntsFr [] w (.returned (.slice none 0 0)) w' :=
  ⟨none,0,rfl,fun h=>absurd h (by simp),hb⟩
theorem vecB_four {l:List Int} (h:vecB l=true):∃a b c d,l=[a,b,c,d]:=by
  refine four_of ?_
  simp [vecB] at h
  exact h.1
end Go.Proofs.YtckajeippfpojaaGreat
namespace Go.Proofs.YtckajeippfpojaaGreat
open Go.RowKit Go.Maps
set_option maxRecDepth 100000
theorem vecB_all {l:List Int} (h:∀j (hj:j < l.length),numB l[j]=true):vecB l=decide (l.length=4):=by
  unfold vecB
  rw [Bool.and_eq_left_iff_imp]
  intro _
  rw [List.all_eq_true]
  intro x hx
  obtain ⟨j,hj,rfl⟩:=List.getElem_of_mem hx
  exact h j hj
theorem vecB_bad {l:List Int} {j:Nat} (hj:j < l.length) (h:numB l[j]=false):vecB l=false:=by
  unfold vecB
  rw [Bool.and_eq_false_iff]
  refine .inr ?_
  rw [List.all_eq_false]
  exact ⟨l[j],List.getElem_mem hj,by simpa [numB] using h⟩
set_option maxHeartbeats 1000000 in
theorem l3vecOk_any (A:Option Addr) (l:List Int) (cap:Nat) (w:World) (hA:IntsIn w 0 w.heap.size A l) (hn:l.length≤9223372036854775807) :
    Calls Tryz.prog 132 #[.slice A l.length cap] w fun e w'=>e=.returned (.bool (vecB l))∧w=w':=by
  have HA:=hd' hA
  clear hA
  go_enter Tryz.func132,Tryz.ntmps132
  go_wp2_with fail
  go_loop [3] (fun i=>∃k:Nat,k≤l.length∧i=.int .i64 k∧∀j (hj:j < l.length),j < k→numB l[j]=true) (fun i=>l.length - (intOf i).toNat)
  case atStart=>exact ⟨0,Nat.zero_le _,rfl,fun j _ hj=>absurd hj (by omega)⟩
  case round =>
    obtain ⟨k,hk,rfl,hall⟩:=hrel
    have HAll:=hd' hall
    clear hall
    by_cases hlt:k < l.length
    · obtain ⟨b,o,rfl,_,hb,hc⟩:=HA.out (by omega)
      have c0:=hc k hlt
      obtain ⟨x,hx⟩:∃x,x=l[k]:=⟨_,rfl⟩
      rw [←hx] at c0
      have HX:=hd' hx
      clear hc hx
      cases hnb:numB x with
      | true =>
        have HN:=hd' hnb
        obtain ⟨h0,h1⟩:=numB_true hnb
        have h0':¬ x < 0:=by omega
        have h1':¬ 1000 < x:=by omega
        clear hnb
        go_wp2_with fail
        go_round
        case rel =>
          refine ⟨k+1,by omega,by go_num,fun j hj hjk=>?_⟩
          by_cases e:j=k
          · subst e;rw [←HX.out];exact HN.out
          · exact HAll.out j hj (by omega)
        case measure=>simp [intOf];omega
      | false =>
        have HF:=hd' (vecB_bad hlt (by rw [←HX.out];exact hnb))
        have hn':=numB_false hnb
        clear hnb
        by_cases h0:x < 0
        all_goals
          go_wp2_with fail
          go_ret
          exact ⟨ret_bool (a:=false) HF.out.symm,rfl⟩
    · have HT:=hd' (vecB_all fun j hj=>HAll.out j hj (by omega))
      by_cases h4:l.length=4
      · have h4':((l.length:Int) == 4)=true:=by simp;omega
        have HT':=hd' (HT.out.trans (decide_eq_true h4))
        clear h4
        go_wp2_with fail
        go_ret
        exact ⟨ret_bool (a:=true) HT'.out.symm,rfl⟩
      · have h4':((l.length:Int) == 4)=false:=by simp;omega
        have HT':=hd' (HT.out.trans (decide_eq_false h4))
        clear h4
        go_wp2_with fail
        go_ret
        exact ⟨ret_bool (a:=false) HT'.out.symm,rfl⟩
set_option maxHeartbeats 1000000 in
theorem l3below_any (A A2:Option Addr) (a b c d a' b' c' d':Int) (cap cap2:Nat) (w:World) (hA:IntsIn w 0 w.heap.size A [a,b,c,d]) (hA2:IntsIn w 0 w.heap.size A2 [a',b',c',d']) :
    Calls Tryz.prog 77 #[.slice A 4 cap,.slice A2 4 cap2] w fun e w'=>e=.returned (.bool (belB a b c d a' b' c' d'))∧Below w.heap.size w w':=by
  obtain ⟨g,o,rfl,_,hb,hc⟩:=hA (by simp)
  obtain ⟨g',o',rfl,_,hb',hc'⟩:=hA2 (by simp)
  have HC:=hd' (show ∀k,k < 4→w.cell? ⟨g,o+k,none⟩=some (.int .i64 (nth4 a b c d k)) from fun k hk=>by
    have:k=0∨k=1∨k=2∨k=3:=by omega
    rcases this with rfl|rfl|rfl|rfl
    · exact hc 0 (by simp)
    · exact hc 1 (by simp)
    · exact hc 2 (by simp)
    · exact hc 3 (by simp))
  have HC':=hd' (show ∀k,k < 4→w.cell? ⟨g',o'+k,none⟩=some (.int .i64 (nth4 a' b' c' d' k)) from fun k hk=>by
    have:k=0∨k=1∨k=2∨k=3:=by omega
    rcases this with rfl|rfl|rfl|rfl
    · exact hc' 0 (by simp)
    · exact hc' 1 (by simp)
    · exact hc' 2 (by simp)
    · exact hc' 3 (by simp))
  clear hc hc' hA hA2
  go_enter Tryz.func77,Tryz.ntmps77
  go_wp2_with fail
  go_loopw [5] (fun i wr=>∃k n:Nat,k≤4∧i=.int .i64 k∧wr=w.drewN n∧∀j,j < k→nth4 a b c d j≤nth4 a' b' c' d' j) (fun i _=>4 - (intOf i).toNat)
  case atStart=>exact ⟨0,0,Nat.zero_le _,rfl,rfl,fun j hj=>absurd hj (by omega)⟩
  case round =>
    obtain ⟨k,n,hk,rfl,rfl,hall⟩:=hrel
    have HAll:=hd' hall
    clear hall
    by_cases hlt:k < 4
    · have c0:=HC.out k hlt
      have c1:=HC'.out k hlt
      obtain ⟨x,hx⟩:∃x,x=nth4 a b c d k:=⟨_,rfl⟩
      obtain ⟨y,hy⟩:∃y,y=nth4 a' b' c' d' k:=⟨_,rfl⟩
      rw [←hx] at c0
      rw [←hy] at c1
      have HX:=hd' hx
      have HY:=hd' hy
      have hlt':(k:Int) < 4:=by omega
      clear hx hy
      by_cases hxy:y < x
      · have HF:=hd' (show belB a b c d a' b' c' d'=false by
          have hx:=HX.out
          have hy:=HY.out
          unfold belB
          rw [mx_beq,mx_beq,mx_beq,mx_beq]
          have:k=0∨k=1∨k=2∨k=3:=by omega
          rcases this with rfl|rfl|rfl|rfl
          · have:¬ a≤a':=by simp [nth4] at hx hy;omega
            simp [this]
          · have:¬ b≤b':=by simp [nth4] at hx hy;omega
            simp [this]
          · have:¬ c≤c':=by simp [nth4] at hx hy;omega
            simp [this]
          · have:¬ d≤d':=by simp [nth4] at hx hy;omega
            simp [this])
        go_wp2_with fail
        go_quiet (fail)
        go_wp2_with fail
        go_ret
        exact ⟨ret_bool (a:=false) HF.out.symm,below_drewN (below_drewN (Below.refl _ _) _) _⟩
      · have hxy':x≤y:=by omega
        go_wp2_with fail
        go_quiet (fail)
        go_wp2_with fail
        go_roundw
        case rel =>
          refine ⟨k+1,n+nq,by omega,by go_num,by simp [World.drewN],fun j hj=>?_⟩
          by_cases e:j=k
          · rw [e,←HX.out,←HY.out];exact hxy'
          · exact HAll.out j (by omega)
        case measure=>simp [intOf];omega
    · have HT:=hd' (show belB a b c d a' b' c' d'=true by
        unfold belB
        rw [mx_beq,mx_beq,mx_beq,mx_beq]
        have h0:=HAll.out 0 (by omega)
        have h1:=HAll.out 1 (by omega)
        have h2:=HAll.out 2 (by omega)
        have h3:=HAll.out 3 (by omega)
        simp [nth4] at h0 h1 h2 h3
        simp [h0,h1,h2,h3])
      go_wp2_with fail
      go_ret
      exact ⟨ret_bool (a:=true) HT.out.symm,below_drewN (Below.refl _ _) _⟩
end Go.Proofs.YtckajeippfpojaaGreat
