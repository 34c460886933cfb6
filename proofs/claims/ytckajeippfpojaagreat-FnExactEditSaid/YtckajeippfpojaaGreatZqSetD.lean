import Derived.Test.YtckajeippfpojaaGreatZqSet
import Derived.Test.YtckajeippfpojaaGreatZqGA
import Derived.Test.YtckajeippfpojaaGreatZqGB
import Derived.DeepKeys5
import Derived.Deep.RegionHeld3
import Derived.Deep.RegionLaw
import Derived.StillTailTactics
import Derived.Outline
namespace Go.Proofs.YtckajeippfpojaaGreat
open Go.RowKit Go.Maps
set_option maxRecDepth 100000
theorem Tryz.keyedD:Keyed Tryz.prog 190:=Keyed.of_law (deep_law_gate Tryz.laidOut (of_decide_eq_true (by kernel_rfl)) (of_decide_eq_true (by kernel_rfl)) (by kernel_rfl) (by kernel_rfl))
theorem Tryz.keyTypeD:Tryz.prog.keyType 190=true:=by kernel_rfl
theorem Tryz.cellsD:Tryz.prog.cellsOf 190=2:=by kernel_rfl
theorem Tryz.typesD:∃m,Tryz.prog.types.size=m+1:=Nat.exists_eq_succ_of_ne_zero (Nat.pos_iff_ne_zero.1 (of_decide_eq_true (by kernel_rfl)))
theorem zeroBool (w:World):(zeroValue 4).run Tryz.prog w=.ok (.bool false) w:=by kernel_rfl
def WfD (d:Int × Int):Prop:=(Lit.int .i64 d.1).wf=true∧(Lit.int .i64 d.2).wf=true
def klD (d:Int × Int):Lit:=.string (keyBytes [.int .i64 d.1,.int .i64 d.2])
theorem klD_key (d:Int × Int):WideAt.IsKeyLit (klD d):=trivial
def encD (d:Int × Int):List Value:=[.int .i64 d.1,.int .i64 d.2]
theorem keyOf_deed (d:Int × Int) (h:WfD d):keyOf Tryz.prog 190 (.agg #[.int .i64 d.1,.int .i64 d.2])=some (klD d):=by
  obtain ⟨h0,h1⟩:=h
  obtain ⟨m,hm⟩:=Tryz.typesD
  unfold keyOf
  simp only [Tryz.underlying190]
  rw [if_pos (by simp [Tryz.keyTypeD,Value.formed,Tryz.underlying190,Tryz.cellsD]),hm]
  unfold Program.keyLits
  simp only [Tryz.underlying190,Value.cells]
  rw [if_pos (by rw [Tryz.cellsD];exact ⟨rfl,by decide +kernel⟩)]
  simp [Tryz.cellsInt,Program.keyLits,Tryz.underlying3,h0,h1,klD]
theorem klD_inj (d e:Int × Int) (hd:WfD d) (he:WfD e) (h:klD d=klD e):d=e:=by
  have:=Tryz.keyedD.inj (keyOf_deed d hd) (h ▸ keyOf_deed e he)
  simp at this
  exact Prod.ext this.1 this.2
abbrev DeedSet (w:World) (M:Nat) (us:List (Int × Int)) (v:Value):Prop:=SetIn Tryz.prog 190 4 261 2 klD encD w M us v
set_option maxHeartbeats 1000000 in
theorem newSetD_any (w:World) :
    Calls Tryz.prog 200 #[] w fun e w'=>e=.returned (.pointer (some ⟨w.heap.size+1,0,none⟩))∧DeedSet w' w.heap.size [] (.slice none 0 0)∧Below w.heap.size w w':=by
  have hmm:=@run_makeMap Tryz.prog
  go_enter Tryz.func200,Tryz.ntmps200
  go_wp2_with fail
  go_ret
  refine ⟨rfl,⟨?_,?_,?_⟩,((Below.refl _ _).alloc (Nat.le_refl _) _).alloc (by simp) _⟩
  · have:=heap_alloc_new (w.alloc (.map #[] 0)) (.cells #[.slice none 0 0,.map (some w.heap.size)] 261 (0,0))
    simpa using this
  · exact (World.ownsMap_made w _ _ _).alloc _
  · simpa using World.ownsRow_nil _ _ _ _
def OneDeed (w:World) (A:Option Addr) (d:Int × Int):Prop:=∃g,A=some ⟨g,0,none⟩∧w.cell? ⟨g,0,none⟩=some (.int .i64 d.1)∧w.cell? ⟨g,1,none⟩=some (.int .i64 d.2)
set_option maxHeartbeats 1000000 in
theorem hasD_any (M:Nat) (us:List (Int × Int)) (v:Value) (A:Option Addr) (d:Int × Int) (w:World) (hS:DeedSet w M us v) (hus:∀x∈us,WfD x) (hd:WfD d) (hA:OneDeed w A d) :
    Calls Tryz.prog 202 #[.pointer (some ⟨M+1,0,none⟩),.slice A 1 1] w fun e w'=>e=.returned (.bool (inB us d))∧Below w.heap.size w w':=by
  obtain ⟨g,rfl,c0,c1⟩:=hA
  have HS:=hd' hS
  have HUs:=hd' hus
  have HD:=hd' hd
  have HC0:=hd' c0
  have HC1:=hd' c1
  clear hS hus hd c0 c1
  obtain ⟨d1,d2⟩:=d
  simp only at HC0 HC1
  have HLook:=hd' (fun (W:World) (hb:DeedSet W M us v)=>look_smap klD_inj klD_key hb.map Tryz.keyedD Tryz.underlying258 Tryz.underlying4 (zeroBool W) (keyOf_deed (d1,d2) HD.out) HUs.out HD.out)
  obtain ⟨b,hb⟩:∃b,b=inB us (d1,d2):=⟨_,rfl⟩
  rw [←hb] at HLook ⊢
  clear hb
  go_enter Tryz.func202,Tryz.ntmps202
  go_wp2_with fail
  go_loopw [9] (fun i wr=>(i=.int .i64 0∧wr=w)∨(i=.int .i64 1∧b=true∧Below w.heap.size w wr)) (fun i _=>1 - (intOf i).toNat)
  case atStart=>exact .inl ⟨rfl,rfl⟩
  case round =>
    rcases hrel with ⟨rfl,rfl⟩|⟨rfl,hbt,hbel⟩
    · have c0:=HC0.out
      have c1:=HC1.out
      go_wp2_with fail
      obtain ⟨W,hW⟩:∃W,W=wr.alloc (.cells #[.int .i64 d1,.int .i64 d2] 190):=⟨_,rfl⟩
      have HX:=hd' (show Bx W wr.heap.size [.int .i64 d1,.int .i64 d2] by rw [hW];exact Bx.new' _ _ _ _ rfl)
      have hbW:Below wr.heap.size wr W:=by rw [hW];exact (Below.refl _ _).alloc (Nat.le_refl _) _
      have HSW:=hd' (HS.out.below hbW)
      have HBW:=hd' hbW
      rw [←hW]
      clear hW hbW c0 c1
      have x0:=fun x:Kp W=>x.cell (HX.out 0 (by simp))
      have x1:=fun x:Kp W=>x.cell (HX.out 1 (by simp))
      have x2:=fun x:Kp W=>x.cell HSW.out.cell1
      have hlook:=fun x:Kp W=>HLook.out x.val (HSW.out.below x.ok)
      simp only [List.getElem_cons_succ,List.getElem_cons_zero] at x0 x1
      refine wp_region_kept (by kernel_rfl) (by kernel_rfl) ?_
      repeat (go_big_quiet_step (fail))
      refine wpQuiet_nil ?_
      rintro _ ⟨x,rfl⟩
      have HX:=hd' (HBW.out.trans (x.ok.mono HBW.out.size))
      clear x0 x1 x2 hlook
      cases hb:b with
      | false =>
        have HBb:=hd' hb
        go_wp2_with fail
        go_ret
        exact ⟨ret_bool (a:=false) HBb.out.symm,HX.out⟩
      | true =>
        have HBb:=hd' hb
        go_wp2_with fail
        go_roundw
        case rel=>exact .inr ⟨rfl,HBb.out,HX.out⟩
        case measure=>simp [intOf]
    · have HB:=hd' hbel
      have HT:=hd' hbt
      clear hbel hbt
      go_wp2_with fail
      go_ret
      exact ⟨ret_bool HT.out.symm,HB.out⟩
def addB (us:List (Int × Int)) (d:Int × Int):List (Int × Int):=if inB us d=true then us else us++[d]
theorem Tryz.infoDeed:(Tryz.prog.info? 190).map (fun i=>(i.zero,i.size,i.bytes))=some (some (.agg #[.int .i64 0,.int .i64 0]),2,16):=by kernel_rfl
theorem owns_one2 {w:World} {base g:Nat} {e:TypeId} {v0 v1:Value} (hg:base≤g) (hb:w.heap[g]?=some (.cells #[v0,v1] e (0,0))):w.ownsRow base e 2 (.slice (some ⟨g,0,none⟩) 1 1) 1 [v0,v1] :=
  ⟨by simp,.inr ⟨g,1,_,rfl,hg,hb,Nat.le_refl _,by unfold maxLen;omega,by simp,by simp⟩⟩
set_option maxHeartbeats 2000000 in
theorem addD_any (M:Nat) (us:List (Int × Int)) (v:Value) (A:Option Addr) (d:Int × Int) (w:World) (hS:DeedSet w M us v) (hus:∀x∈us,WfD x) (hd:WfD d) (hA:OneDeed w A d) (hn:us.length≤1048576) :
    Calls Tryz.prog 203 #[.pointer (some ⟨M+1,0,none⟩),.slice A 1 1] w fun e w'=>e=.returned (.tuple #[])∧(∃v',DeedSet w' M (addB us d) v')∧Below M w w'∧w.heap.size≤w'.heap.size:=by
  obtain ⟨g,rfl,c0,c1⟩:=hA
  have HS:=hd' hS
  have HUs:=hd' hus
  have HD:=hd' hd
  have HC0:=hd' c0
  have HC1:=hd' c1
  have hMlt:=hS.lt
  clear hS hus hd c0 c1
  obtain ⟨d1,d2⟩:=d
  simp only at HC0 HC1
  have HLook:=hd' (fun (W:World) (hb:DeedSet W M us v)=>look_smap klD_inj klD_key hb.map Tryz.keyedD Tryz.underlying258 Tryz.underlying4 (zeroBool W) (keyOf_deed (d1,d2) HD.out) HUs.out HD.out)
  obtain ⟨b,hb⟩:∃b,b=inB us (d1,d2):=⟨_,rfl⟩
  rw [←hb] at HLook
  have HAdd:=hd' (show addB us (d1,d2)=if b=true then us else us++[(d1,d2)] by rw [hb];rfl)
  clear hb
  go_enter Tryz.func203,Tryz.ntmps203
  go_wp2_with fail
  go_loopw [8] (fun i wr=>(i=.int .i64 0∧wr=w)∨(i=.int .i64 1∧(∃v',DeedSet wr M (addB us (d1,d2)) v')∧Below M w wr∧w.heap.size≤wr.heap.size)) (fun i _=>1 - (intOf i).toNat)
  case atStart=>exact .inl ⟨rfl,rfl⟩
  case round =>
    rcases hrel with ⟨rfl,rfl⟩|⟨rfl,hset,hbel,hsz⟩
    · have c0:=HC0.out
      have c1:=HC1.out
      go_wp2_with fail
      obtain ⟨W,hW⟩:∃W,W=wr.alloc (.cells #[.int .i64 d1,.int .i64 d2] 190):=⟨_,rfl⟩
      have HX:=hd' (show Bx W wr.heap.size [.int .i64 d1,.int .i64 d2] by rw [hW];exact Bx.new' _ _ _ _ rfl)
      have hbW:Below wr.heap.size wr W:=by rw [hW];exact (Below.refl _ _).alloc (Nat.le_refl _) _
      have hzW:wr.heap.size < W.heap.size:=by rw [hW];simp
      have HSW:=hd' (HS.out.below hbW)
      have HBW:=hd' hbW
      rw [←hW]
      clear hW hbW c0 c1
      have x0:=fun x:Kp W=>x.cell (HX.out 0 (by simp))
      have x1:=fun x:Kp W=>x.cell (HX.out 1 (by simp))
      have x2:=fun x:Kp W=>x.cell HSW.out.cell1
      have hlook:=fun x:Kp W=>HLook.out x.val (HSW.out.below x.ok)
      simp only [List.getElem_cons_succ,List.getElem_cons_zero] at x0 x1
      refine wp_region_kept (by kernel_rfl) (by kernel_rfl) ?_
      repeat (go_big_quiet_step (fail))
      refine wpQuiet_nil ?_
      rintro _ ⟨x,rfl⟩
      obtain ⟨w2,hw2⟩:∃w2,w2=x.val:=⟨_,rfl⟩
      have HX2:=hd' (show Bx w2 wr.heap.size [.int .i64 d1,.int .i64 d2] by rw [hw2];exact HX.out.below x.ok hzW)
      have HS2:=hd' (show DeedSet w2 M us v by rw [hw2];exact HSW.out.below x.ok)
      have HB2:=hd' (show Below wr.heap.size wr w2 by rw [hw2];exact HBW.out.trans (x.ok.mono HBW.out.size))
      have hz2:wr.heap.size < w2.heap.size:=by rw [hw2];have:=x.ok.size;omega
      rw [←hw2]
      clear x0 x1 x2 hlook hw2 x HX HSW HBW
      cases hb:b with
      | true =>
        have HR:=hd' (show addB us (d1,d2)=us by rw [HAdd.out,if_pos hb])
        go_wp2_with fail
        go_roundw
        case rel=>exact .inr ⟨rfl,⟨v,by rw [HR.out];exact HS2.out⟩,HB2.out.mono (by omega),by omega⟩
        case measure=>simp [intOf]
      | false =>
        have HR:=hd' (show addB us (d1,d2)=us++[(d1,d2)] by rw [HAdd.out,hb];simp)
        have y0:=HX2.out 0 (by simp)
        have y1:=HX2.out 1 (by simp)
        have y2:=HS2.out.cell1
        simp only [List.getElem_cons_succ,List.getElem_cons_zero] at y0 y1
        obtain ⟨w4,hupd,hmap4,hgr4⟩:=HS2.out.drew.map.update Tryz.keyedD Tryz.underlying258 (by unfold maxLen;omega) (key:=.agg #[.int .i64 d1,.int .i64 d2]) (val:=.bool true) (keyOf_deed (d1,d2) HD.out) (plainElem_bool Tryz.underlying4 true)
        have HM4:=hd' hmap4
        have HG4:=hd' hgr4
        clear hmap4 hgr4
        go_wp2_with fail
        go_still_tail 5,(by kernel_rfl)
        change wpList _ _ _ _ _ w2.drew
        go_wp2_with fail
        have HZ:=hd' (show Zx Tryz.prog 190 4 261 klD wr M v (us++[(d1,d2)]) w4 from ⟨(HG4.out.block (M+1) HS2.out.lt (by simp)).trans HS2.out.obj,by rw [smap_snoc];simpa using HM4.out,((HB2.out.mono (by omega)).drew).grown HG4.out (by have:=HS2.out.lt;show M≤w2.heap.size;omega) (fun g e=>by simp at e;omega),by have:w2.heap.size≤w4.heap.size:=HG4.out.size;omega⟩)
        have HRow4:=hd' (show w4.ownsRow (M+2) 190 2 v us.length (us.flatMap encD) from HS2.out.row.drew.kept HG4.out (.inr fun e=>by have:=(HS2.out.row.lt _ e).1;omega))
        obtain ⟨i1,hi1,hy0,hy1,hy2⟩:=info_parts Tryz.infoDeed
        have HNew:=hd' (show ∀u∈[Value.int .i64 d1,.int .i64 d2],u.oneCell'=true by intro u hu;simp at hu;rcases hu with rfl|rfl <;> rfl)
        have hl3:us.length+1≤maxLen:=by unfold maxLen;omega
        have hl4:(us.length+1)*16≤140737488355328:=by omega
        have t0:=cellN_grown HG4.out (cellN_drew y0) (by simp;omega)
        have t1:=cellN_grown HG4.out (cellN_drew y1) (by simp;omega)
        have t2:=HZ.out.cell
        have t0E:=cellN_alloc (.cells #[.int .i64 d1,.int .i64 d2] 190) t0
        have t1E:=cellN_alloc (.cells #[.int .i64 d1,.int .i64 d2] 190) t1
        have t2E:=cellN_alloc (.cells #[.int .i64 d1,.int .i64 d2] 190) t2
        clear hupd y0 y1 y2 HS2 HM4 HG4 HX2 HB2
        go_region_law
          (first
            | (refine step_append_row _ (by rfl) _ _ _ (by rfl) (M+2) 0 190 i1 _ 2 16 Tryz.underlying259 hi1 hy0 hy1 hy2 rfl (by decide) v us.length (us.flatMap encD) (by rfl) ?_ (.slice (some ⟨w4.heap.size,0,none⟩) 1 1) 1 [.int .i64 d1,.int .i64 d2] (by rfl) (owns_one2 (Nat.zero_le _) ?_) HNew.out hl3 hl4 ?_ ?_
               · (repeat first|with_reducible exact HRow4.out|with_reducible apply World.ownsRow.drew|with_reducible apply World.ownsRow.alloc)
               · (repeat first|with_reducible exact heapN_new _ (by simp)|with_reducible apply heapN_drew)
               · (have:=HZ.out.lt;simp;omega)
               intro A5 c5 w5 hown5 hgr5
               have P5:Zx Tryz.prog 190 4 261 klD wr M v (us++[(d1,d2)]) w5:=Zx.grown (by repeat first|with_reducible exact HZ.out|with_reducible apply Zx.drew|with_reducible apply Zx.alloc) hgr5 (fun g e=>by have:=(HRow4.out.lt g e).1;omega)
               have HP5:=hd' P5
               have cb5:=P5.cell
               have cf5:=P5.free
               have HOwn5:=hd' hown5
               clear hgr5 P5 hown5))
        all_goals clear t0 t1 t2 t0E t1E t2E cb5 cf5
        all_goals
          go_wp2_with fail
          go_roundw
          case rel =>
            refine .inr ⟨rfl,⟨.slice A5 (us.length+1) c5,?_⟩,(HP5.out.set _).bel,(HP5.out.set _).sz⟩
            rw [HR.out]
            have hs:=HP5.out.set (.slice A5 (us.length+1) c5)
            refine ⟨hs.obj,hs.map,?_⟩
            have h:=ownsRow_setCell_below HOwn5.out (a:=⟨M+1,0,none⟩) (by show M+1 < M+2;omega) (.slice A5 (us.length+1) c5)
            simpa [encD] using h
          case measure=>simp [intOf]
    · have HB:=hd' hbel
      have HT:=hd' hset
      clear hbel hset
      go_wp2_with fail
      go_end0
      exact ⟨rfl,HT.out,HB.out,hsz⟩
end Go.Proofs.YtckajeippfpojaaGreat
