import Derived.Test.YtckajeippfpojaaGreatZqPutQ
import Derived.Test.YtckajeippfpojaaGreatZqKept
import Derived.Deep.RegionLaw
namespace Go.Proofs.YtckajeippfpojaaGreat
open Go.RowKit Go.Maps
theorem Tryz.infoEn:(Tryz.prog.info? 180).map (fun i=>(i.zero,i.size,i.bytes))=some (some (.agg #[.slice none 0 0,.int .i64 0,.int .i64 0,.int .i64 0]),4,48):=by kernel_rfl
theorem owns_noneE {w:World} {base g:Nat} {e:TypeId} {size:Nat} (hg:base≤g) (hb:w.heap[g]?=some (.cells #[] e (0,0))):w.ownsRow base e size (.slice (some ⟨g,0,none⟩) 0 0) 0 [] :=
  ⟨by simp,.inr ⟨g,0,_,rfl,hg,hb,Nat.le_refl _,by unfold maxLen;omega,by simp,by simp⟩⟩
theorem heap_oldE {w:World} {n:Nat} {x:Obj} {o:Obj} (h:w.heap[n]?=some x):(w.alloc o).heap[n]?=some x:=(heap_alloc_old w o (Array.getElem?_eq_some_iff.1 h).1).trans h
structure Q4 (W5:World) (bt:Nat) (vs:List Value) (X:World):Prop where
  c:Bx X bt vs
  bel:Below W5.heap.size W5 X
  lt:bt < W5.heap.size
section
variable {W5 X Y:World} {bt:Nat} {vs:List Value}
theorem Q4.below (h:Q4 W5 bt vs X) (hb:Below X.heap.size X Y):Q4 W5 bt vs Y :=
  have h1:=h.bel.size
  have h2:=h.lt
  ⟨h.c.below hb (by omega),h.bel.trans (hb.mono h1),h2⟩
theorem Q4.alloc (h:Q4 W5 bt vs X) (o:Obj):Q4 W5 bt vs (X.alloc o):=h.below ((Below.refl _ _).alloc (Nat.le_refl _) o)
theorem Q4.drew (h:Q4 W5 bt vs X):Q4 W5 bt vs X.drew:=h.below (Below.refl _ _).drew
theorem Q4.grown (h:Q4 W5 bt vs X) {row:Option Nat} (hg:X.grownBy Y row) (hr:∀k,row=some k→W5.heap.size≤k):Q4 W5 bt vs Y:=by
  have h1:=h.bel.size
  have h2:=h.lt
  have hblk:Y.heap[bt]?=X.heap[bt]?:=hg.block bt (by omega) (fun e=>by have:=hr bt e.symm;omega)
  exact ⟨fun i hi=>(World.cell?_of_block hblk).trans (h.c i hi),h.bel.grown hg h1 hr,h2⟩
theorem heap_grownE {w w':World} {row:Option Nat} {n:Nat} {x:Obj} (hg:w.grownBy w' row) (h:w.heap[n]?=some x) (hne:some n≠row):w'.heap[n]?=some x :=
  (hg.block n (Array.getElem?_eq_some_iff.1 h).1 hne).trans h
end
theorem heap_newF {w:World} {n:Nat} (o:Obj) (h:w.heap.size=n):(w.alloc o).heap[n]?=some o:=by
  subst h
  exact heap_alloc_new w o
theorem heap_drewF {w:World} {n:Nat} {x:Obj} (h:w.heap[n]?=some x):w.drew.heap[n]?=some x:=h
theorem c1_after {W5 w7:World} {c0 c1:Obj} (hg:((W5.alloc c0).alloc c1).drew.grownBy w7 (Value.slice (some ⟨W5.heap.size,0,none⟩) 0 0).ownBlock):w7.heap[W5.heap.size+1]?=some c1:=by
  refine heap_grownE hg (heap_drewF (heap_newF _ (by simp))) ?_
  simp [Value.ownBlock]
theorem c1_before {W5 w7:World} {c0 c1:Obj} (hg:((W5.alloc c1).alloc c0).drew.grownBy w7 (Value.slice (some ⟨W5.heap.size+1,0,none⟩) 0 0).ownBlock):w7.heap[W5.heap.size]?=some c1:=by
  refine heap_grownE hg (heap_drewF (heap_oldE (heap_newF _ rfl))) ?_
  simp [Value.ownBlock]
theorem c1_after' {W5 w7:World} {c0 c1:Obj} (hg:((W5.alloc c0).drew.alloc c1).grownBy w7 (Value.slice (some ⟨W5.heap.size,0,none⟩) 0 0).ownBlock):w7.heap[W5.heap.size+1]?=some c1:=by
  refine heap_grownE hg (heap_newF _ (by simp)) ?_
  simp [Value.ownBlock]
theorem c1_before' {W5 w7:World} {c0 c1:Obj} (hg:((W5.alloc c1).drew.alloc c0).grownBy w7 (Value.slice (some ⟨W5.heap.size+1,0,none⟩) 0 0).ownBlock):w7.heap[W5.heap.size]?=some c1:=by
  refine heap_grownE hg (heap_oldE (heap_drewF (heap_newF _ rfl))) ?_
  simp [Value.ownBlock]
theorem own_one4f {w:World} {base g:Nat} {e:TypeId} {v0 v1 v2 v3:Value} (hg:base≤g) (hb:w.heap[g]?=some (.cells #[v0,v1,v2,v3] e (0,0))):w.ownsRow base e 4 (.slice (some ⟨g,0,none⟩) 1 1) 1 [v0,v1,v2,v3] :=
  ⟨by simp,.inr ⟨g,1,_,rfl,hg,hb,Nat.le_refl _,by unfold maxLen;omega,by simp,by simp⟩⟩
theorem one4c (A:Option Addr) (n c:Nat) (a b d:Int):∀u∈[Value.slice A n c,.int .i64 a,.int .i64 b,.int .i64 d],u.oneCell'=true:=by
  intro u hu
  simp at hu
  rcases hu with rfl|rfl|rfl|rfl <;> rfl
theorem le_alloc {n:Nat} {w:World} (o:Obj) (h:n≤w.heap.size):n≤(w.alloc o).heap.size:=by simp;omega
set_option maxRecDepth 100000 in
set_option maxHeartbeats 4000000 in
theorem l3insert_any (A:Option Addr) (es:List En) (c:Nat) (e:En) (An:Option Addr) (cn B0:Nat) (w:World) (hA:EnsIn w 0 B0 A es) (hB0:B0≤w.heap.size) (hn:es.length≤1000) (hc:es.length≤c) (hA0:A=none∧c=0∨∃b o,A=some ⟨b,o,none⟩) (hN:BytesIn w 0 B0 An e.name) :
    Calls Tryz.prog 182 #[.slice A es.length c,enV An cn e] w
      fun r w'=>∃A' c',r=.returned (.slice A' (insE es e).length c')∧(insE es e).length≤c'∧(∃g,A'=some ⟨g,0,none⟩)∧WoOut w' w.heap.size B0 A' (insE es e)∧Below w.heap.size w w':=by
  have HA:=hd' hA
  have HN:=hd' hN
  clear hA hN
  unfold enV
  go_enter Tryz.func182,Tryz.ntmps182
  go_wp2_with fail
  obtain ⟨W,hW⟩:∃X,X=w.alloc (.cells #[.slice An e.name.length cn,.int .i64 e.val,.int .i64 e.dev,.int .i64 e.num] 180):=⟨_,rfl⟩
  have HBel:=hd' (show Below w.heap.size w W by rw [hW];exact (Below.refl _ _).alloc (Nat.le_refl _) _)
  have HX:=hd' (show Bx W w.heap.size [.slice An e.name.length cn,.int .i64 e.val,.int .i64 e.dev,.int .i64 e.num] by rw [hW];exact Bx.new' _ _ _ _ rfl)
  have hzW:w.heap.size < W.heap.size:=by rw [hW];simp
  rw [←hW]
  clear hW
  go_loopw [5] (fun i wr=>∃k:Nat,k≤es.length∧i=.int .i64 k∧(∀j (hj:j < es.length),j < k→plaV es[j] e < 0)∧Below W.heap.size W wr) (fun i _=>es.length - (intOf i).toNat)
  case atStart=>exact ⟨0,Nat.zero_le _,rfl,fun j _ h=>absurd h (by omega),Below.refl _ _⟩
  case round =>
    obtain ⟨k,hk,rfl,hlo,hbr⟩:=hrel
    obtain ⟨wq,rfl⟩:∃X:World,X=wr:=⟨_,rfl⟩
    have HLo:=hd' hlo
    have HBr:=hd' hbr
    have hzr:=hbr.size
    obtain ⟨t0,t1,t2,t3⟩:=(HX.out.below hbr hzW).four
    clear hlo hbr
    have q0:∀x:Kp wq,x.val.cell? ⟨w.heap.size,0,none⟩=some (.slice An e.name.length cn):=fun x=>x.cell t0
    have q1:∀x:Kp wq,x.val.cell? ⟨w.heap.size,1,none⟩=some (.int .i64 e.val):=fun x=>x.cell t1
    have q2:∀x:Kp wq,x.val.cell? ⟨w.heap.size,2,none⟩=some (.int .i64 e.dev):=fun x=>x.cell t2
    have q3:∀x:Kp wq,x.val.cell? ⟨w.heap.size,3,none⟩=some (.int .i64 e.num):=fun x=>x.cell t3
    have HBw:=hd' (HBel.out.trans (HBr.out.mono (by omega)))
    by_cases hlt:k < es.length
    · obtain ⟨b,o,hAe,_,hb,hc'⟩:=HA.out (by omega)
      obtain ⟨A2,c2,p0,p1,p2,p3,hby⟩:=hc' k hlt
      have s0:∀x:Kp wq,x.val.cell? ⟨b,o+k*4,none⟩=some (.slice A2 es[k].name.length c2):=fun x=>x.cell ((HBw.out.cell (p:=⟨b,o+k*4,none⟩) (by show b < _;omega)).trans p0)
      have s1:∀x:Kp wq,x.val.cell? ⟨b,o+k*4+1,none⟩=some (.int .i64 es[k].val):=fun x=>x.cell ((HBw.out.cell (p:=⟨b,o+k*4+1,none⟩) (by show b < _;omega)).trans p1)
      have s2:∀x:Kp wq,x.val.cell? ⟨b,o+k*4+2,none⟩=some (.int .i64 es[k].dev):=fun x=>x.cell ((HBw.out.cell (p:=⟨b,o+k*4+2,none⟩) (by show b < _;omega)).trans p2)
      have s3:∀x:Kp wq,x.val.cell? ⟨b,o+k*4+3,none⟩=some (.int .i64 es[k].num):=fun x=>x.cell ((HBw.out.cell (p:=⟨b,o+k*4+3,none⟩) (by show b < _;omega)).trans p3)
      obtain ⟨pv,hpv⟩:∃y,y=plaV es[k] e:=⟨_,rfl⟩
      have HC:=hd' (fun (x:Kp wq)=>show Calls Tryz.prog 135 #[.agg #[.slice A2 es[k].name.length c2,.int .i64 es[k].val,.int .i64 es[k].dev,.int .i64 es[k].num],.agg #[.slice An e.name.length cn,.int .i64 e.val,.int .i64 e.dev,.int .i64 e.num]] x.val (fun r w'=>r=.returned (.int .i64 pv)∧Below x.val.heap.size x.val w') from by
        have hx:Below w.heap.size w x.val:=HBw.out.trans (x.ok.mono (by omega))
        have h:=l3cmp_any A2 An c2 cn es[k] e x.val ((hby.low (Nat.zero_le _)).keep (fun p _ hp=>hx.cell (by omega)) |>.mono (by have:=hx.size;omega)) ((HN.out.keep fun p _ hp=>hx.cell (by omega)).mono (by have:=hx.size;omega))
        unfold enV at h
        rw [←hpv] at h
        exact h)
      by_cases hp:pv < 0
      · have HLo2:=hd' (show ∀j (hj:j < es.length),j < k+1→plaV es[j] e < 0 from fun j hj hjk=>by
          by_cases ej:j=k
          · subst ej;rw [←hpv];exact hp
          · exact HLo.out j hj (by omega))
        subst hAe
        clear hpv p0 p1 p2 p3 hby hc'
        go_upto_region 2 with fail
        refine wp_region_kept (by kernel_rfl) (by kernel_rfl) ?_
        repeat (go_big_quiet_step ((go_at_call 135;refine kept_of (v:=.int .i64 pv) (HC.out _))))
        refine wpQuiet_nil ?_
        rintro W5 ⟨⟨_,hb5⟩,rfl⟩
        have HB5:=hd' (HBr.out.trans (hb5.mono hzr))
        clear q0 q1 q2 q3 s0 s1 s2 s3 HC hb5
        go_wp2_with fail
        go_roundw
        case rel=>exact ⟨k+1,by omega,by go_num,HLo2.out,HB5.out⟩
        case measure=>simp [intOf];omega
      · have HSp:=hd' (ins_split es e k hk HLo.out (fun _=>by rw [←hpv];exact hp))
        subst hAe
        clear hpv p0 p1 p2 p3 hby hc'
        go_upto_region 2 with fail
        have hp3:¬ (pv < 0):=by omega
        refine wp_region_kept (by kernel_rfl) (by kernel_rfl) ?_
        repeat (go_big_quiet_step ((go_at_call 135;refine kept_of (v:=.int .i64 pv) (HC.out _))))
        refine wpQuiet_nil ?_
        rintro W5 ⟨⟨_,hb5⟩,rfl⟩
        have HB5:=hd' (HBr.out.trans (hb5.mono hzr))
        clear q0 q1 q2 q3 s0 s1 s2 s3 HC hb5
        obtain ⟨vs,hrel,hone,hsrc⟩:=rel_of_ens (w:=W5) (B0:=B0) (A:=some ⟨b,o,none⟩) (es:=es) (HA.out.keep fun p _ hp=>(HBel.out.trans (HB5.out.mono (by omega))).cell (by omega))
        have hvl:=hrel.vl
        obtain ⟨i1,hi1,hy0,hy1,hy2⟩:=info_parts Tryz.infoEn
        have HS1:=hd' (fun (X:World) (hX:Below W5.heap.size W5 X)=>show SrcAt X (some ⟨b,o,none⟩) k (vs.take (k*4)) from ⟨fun h=>(by cases h),fun a ha j u hj=>by
          cases ha
          have hj2:vs[j]?=some u:=by
            rw [List.getElem?_take] at hj
            split at hj
            · exact hj
            · cases hj
          have hne:0 < es.length:=by have:=(List.getElem?_eq_some_iff.1 hj2).1;omega
          obtain ⟨b1,o1,he1,hb1,hs1⟩:=hsrc hne
          cases he1
          rw [Addr.add_lit]
          exact (hX.cell (by have:=HB5.out.size;exact Nat.lt_of_lt_of_le hb1 (by omega))).trans (hs1 j u hj2)⟩)
        have hk4:(vs.take (k*4)).length=k*4:=by simp;omega
        have hone1:∀u∈vs.take (k*4),u.oneCell'=true:=fun u hu=>hone u (List.mem_of_mem_take hu)
        have hkc:k≤c:=by omega
        have hkci:(k:Int)≤(c:Int):=by omega
        have t0:=(HX.out.below HB5.out hzW).four
        obtain ⟨t0,t1,t2,t3⟩:=t0
        have HQ5:=hd' (show Q4 W5 w.heap.size [.slice An e.name.length cn,.int .i64 e.val,.int .i64 e.dev,.int .i64 e.num] W5 from ⟨HX.out.below HB5.out hzW,Below.refl _ _,by have:=HB5.out.size;omega⟩)
        have hz5:w.heap.size < W5.heap.size:=by have:=HB5.out.size;omega
        have hm1:0+k≤maxLen:=by unfold maxLen;omega
        have hm2:(0+k)*48≤140737488355328:=by omega
        have hm3:k+1≤maxLen:=by unfold maxLen;omega
        have hm4:(k+1)*48≤140737488355328:=by omega
        go_upto_region 4 with fail
        go_region_law
          (first
            | (refine step_append_anyE (by rfl) _ _ _ (by rfl) W5.heap.size 180 i1 _ 4 48 Tryz.underlying36 hi1 hy0 hy1 hy2 rfl (by decide) (.slice (some ⟨_,0,none⟩) 0 0) 0 [] (by rfl) (owns_noneE ?_ ?_) (some ⟨b,o,none⟩) k c (vs.take (k*4)) (by rfl) hk4 (HS1.out _ ?_) hone1 hm1 hm2 ?_ ?_
               · first|exact Nat.le_refl _|(simp;done)|(simp;omega)
               · first|exact heap_alloc_new _ _|exact heap_oldE (heap_alloc_new _ _)|(refine heap_newF _ ?_;simp;done)|(refine heap_oldE ?_;refine heap_newF _ ?_;simp;done)|(refine heap_drewF (heap_newF _ ?_);simp;done)|(refine heap_drewF (heap_oldE (heap_newF _ ?_));rfl)|(refine heap_drewF (heap_oldE (heap_newF _ ?_));simp;done)
               · exact Q4.bel (bt:=w.heap.size) (vs:=[.slice An e.name.length cn,.int .i64 e.val,.int .i64 e.dev,.int .i64 e.num]) (by repeat first|with_reducible exact HQ5.out|with_reducible apply Q4.drew|with_reducible apply Q4.alloc)
               · first|omega|(simp;done)|(simp;omega)
               intro A7 c7 w7 hown7 hgr7
               rw [Nat.zero_add,List.nil_append] at hown7
               have HOwn7:=hd' hown7
               have Q7:Q4 W5 w.heap.size [.slice An e.name.length cn,.int .i64 e.val,.int .i64 e.dev,.int .i64 e.num] w7:=Q4.grown (by repeat first|with_reducible exact HQ5.out|with_reducible apply Q4.drew|with_reducible apply Q4.alloc) hgr7 (fun g hg=>by simp [Value.ownBlock] at hg;omega)
               have HQ7:=hd' Q7
               obtain ⟨t0_7,t1_7,t2_7,t3_7⟩:=Q7.c.four
               have HG7:=hd' hgr7
               have hz7:=Q7.bel.size
               clear hgr7 hown7 Q7)
            | (refine step_append_row _ (by rfl) _ _ _ (by rfl) W5.heap.size 0 180 i1 _ 4 48 Tryz.underlying36 hi1 hy0 hy1 hy2 rfl (by decide) (.slice A7 k c7) k (vs.take (k*4)) (by rfl) ?_ (.slice (some ⟨_,0,none⟩) 1 1) 1 [.slice An e.name.length cn,.int .i64 e.val,.int .i64 e.dev,.int .i64 e.num] (by rfl) (own_one4f (Nat.zero_le _) ?_) ?_ hm3 hm4 ?_ ?_
               try any_goals (first|with_reducible exact HOwn7.out.alloc _|with_reducible exact HOwn7.out|with_reducible exact (HOwn7.out.alloc _).drew|with_reducible exact HOwn7.out.drew.alloc _|with_reducible exact (HOwn7.out.alloc _).drew.alloc _)
               try any_goals (first|exact heap_alloc_new _ _|exact c1_after HG7.out|exact c1_before HG7.out|exact c1_after' HG7.out|exact c1_before' HG7.out)
               try any_goals exact one4c _ _ _ _ _ _
               try any_goals (first|exact hz7|exact le_alloc _ hz7|exact le_alloc _ (le_alloc _ hz7))
               intro A8 c8 w8 hown8 hgr8
               have HOwn8:=hd' hown8
               have HQ8:=hd' (show Q4 W5 w.heap.size [.slice An e.name.length cn,.int .i64 e.val,.int .i64 e.dev,.int .i64 e.num] w8 from Q4.grown (by repeat first|with_reducible exact HQ7.out|with_reducible apply Q4.drew|with_reducible apply Q4.alloc) hgr8 (fun g hg=>(HOwn7.out.lt g hg).1))
               clear hgr8 hown8))
        all_goals
          have hkn2:(k:Int)≤(es.length:Int):=by omega
          have hvd:(vs.drop (k*4)).length=(es.length - k)*4:=by simp;omega
          have hone2:∀u∈vs.drop (k*4),u.oneCell'=true:=fun u hu=>hone u (List.mem_of_mem_drop hu)
          have HS2:=hd' (show SrcAt w8 (some ⟨b,o+k*4,none⟩) (es.length - k) (vs.drop (k*4)) from ⟨fun h=>(by cases h),fun a ha j u hj=>by
            cases ha
            rw [List.getElem?_drop] at hj
            have hne:0 < es.length:=by have:=(List.getElem?_eq_some_iff.1 hj).1;omega
            obtain ⟨b1,o1,he1,hb1,hs1⟩:=hsrc hne
            cases he1
            rw [Addr.add_lit,show o+k*4+j=o+(k*4+j) by omega]
            exact (HQ8.out.bel.cell (by have:=HB5.out.size;exact Nat.lt_of_lt_of_le hb1 (by omega))).trans (hs1 _ u hj)⟩)
          have hm5:k+1+(es.length - k)≤maxLen:=by unfold maxLen;omega
          have hm6:(k+1+(es.length - k))*48≤140737488355328:=by omega
          have hz8:=HQ8.out.bel.size
          clear t0 t1 t2 t3 t0_7 t1_7 t2_7 t3_7
          go_upto_region 5 with fail
          go_wp2_with (at_builtin;refine wpList_append_any _ rfl _ _ 36 rfl W5.heap.size 180 i1 (.agg #[.slice none 0 0,.int .i64 0,.int .i64 0,.int .i64 0]) 4 48 Tryz.underlying36 hi1 hy0 hy1 hy2 rfl (by decide) (.slice A8 (k+1) c8) (k+1) _ rfl HOwn8.out (some ⟨b,o+k*4,none⟩) (es.length - k) (c - k) (vs.drop (k*4)) rfl hvd HS2.out hone2 hm5 hm6 hz8 ?_)
          intro A9 c9 w9 hown9 hgr9
          have hlen:k+1+(es.length - k)=(insE es e).length:=by rw [HSp.out];simp;omega
          have HR9:=hd' (show WoRel w9 B0 (insE es e) (vs.take (k*4)++[.slice An e.name.length cn,.int .i64 e.val,.int .i64 e.dev,.int .i64 e.num]++vs.drop (k*4)) from by
            have hkeep:∀p:Addr,p.block < B0→w9.cell? p=W5.cell? p:=fun p hp=>by
              have h1:=HB5.out.size
              refine (World.cell?_of_block (hgr9.block _ (by omega) (fun e2=>?_))).trans (HQ8.out.bel.cell (by omega))
              have:=(HOwn8.out.lt _ e2.symm).1
              omega
            have h5:=hrel.keep hkeep
            rw [HSp.out,show List.take k es++e :: List.drop k es=(List.take k es++[e])++List.drop k es by simp]
            exact ((h5.take hk).add (HN.out.keep fun p _ hp=>(hkeep p hp).trans ((HBel.out.trans (HB5.out.mono (by omega))).cell (by omega)))).app (h5.drop hk))
          rw [show vs.take (k*4)++Value.slice An e.name.length cn :: .int .i64 e.val :: .int .i64 e.dev :: .int .i64 e.num :: vs.drop (k*4)=vs.take (k*4)++[.slice An e.name.length cn,.int .i64 e.val,.int .i64 e.dev,.int .i64 e.num]++vs.drop (k*4) by simp] at hown9
          rw [hlen] at hown9 ⊢
          have HO9:=hd' ((HR9.out.out hown9).lower (L':=w.heap.size) (by have h1:=HBel.out.size;have h2:=HB5.out.size;exact Nat.le_trans h1 h2))
          have hcap:(insE es e).length≤c9:=by
            obtain ⟨_,hh|⟨g,cap,cur,hv,hg,hb9,hle,_⟩⟩:=hown9
            · omega
            · injection hv with _ _ h3
              omega
          have HA9:∃g,A9=some ⟨g,0,none⟩:=by
            obtain ⟨_,hh|⟨g,cap,cur,hv,hg,hb9,hle,_⟩⟩:=hown9
            · have:=hlen
              omega
            · injection hv with h1 _ _
              exact ⟨g,h1⟩
          have HB9:=hd' (show Below w.heap.size w w9 from (HBel.out.trans (HB5.out.mono (by omega))).trans ((HQ8.out.bel.mono (by omega)).grown hgr9 (by omega) (fun g hg=>by have:=(HOwn8.out.lt g hg).1;omega)))
          clear hown9 hgr9
          go_wp2_with fail
          go_ret
          exact ⟨A9,c9,rfl,hcap,HA9,HO9.out,HB9.out⟩
    · have HSp:=hd' (ins_split es e k hk HLo.out (fun h=>absurd h hlt))
      have HD:=hd' (show es.length - k=0∧es.length*4≤k*4 from ⟨by omega,by omega⟩)
      rcases hA0 with ⟨rfl,rfl⟩|⟨b,o,rfl⟩
      · obtain rfl:es=[]:=by
          cases es with
          | nil=>rfl
          | cons x l=>simp at hc
        obtain rfl:k=0:=by simpa using hk
        simp only [List.length_nil] at *
        go_upto_region 2 with fail
        refine wp_region_kept (by kernel_rfl) (by kernel_rfl) ?_
        repeat (go_big_quiet_step (fail))
        refine wpQuiet_nil ?_
        rintro W5 ⟨⟨_,hb5⟩,rfl⟩
        have HB5:=hd' (HBr.out.trans (hb5.mono hzr))
        clear q0 q1 q2 q3 hb5
        have HS1:=hd' (fun (X:World)=>show SrcAt X none 0 ([]:List Value) from ⟨fun _=>rfl,fun a ha=>by cases ha⟩)
        obtain ⟨i1,hi1,hy0,hy1,hy2⟩:=info_parts Tryz.infoEn
        have t0:=(HX.out.below HB5.out hzW).four
        obtain ⟨t0,t1,t2,t3⟩:=t0
        have HQ5:=hd' (show Q4 W5 w.heap.size [.slice An e.name.length cn,.int .i64 e.val,.int .i64 e.dev,.int .i64 e.num] W5 from ⟨HX.out.below HB5.out hzW,Below.refl _ _,by have:=HB5.out.size;omega⟩)
        have hz5:w.heap.size < W5.heap.size:=by have:=HB5.out.size;omega
        have hm1:0+0≤maxLen:=by unfold maxLen;omega
        have hm2:(0+0)*48≤140737488355328:=by omega
        have hm3:0+1≤maxLen:=by unfold maxLen;omega
        have hm4:(0+1)*48≤140737488355328:=by omega
        go_upto_region 4 with fail
        go_region_law
          (first
            | (refine step_append_anyE (by rfl) _ _ _ (by rfl) W5.heap.size 180 i1 _ 4 48 Tryz.underlying36 hi1 hy0 hy1 hy2 rfl (by decide) (.slice (some ⟨_,0,none⟩) 0 0) 0 [] (by rfl) (owns_noneE ?_ ?_) none 0 0 [] (by rfl) (by rfl) (HS1.out _) (by simp) hm1 hm2 ?_ ?_
               · first|exact Nat.le_refl _|(simp;done)|(simp;omega)
               · first|exact heap_alloc_new _ _|exact heap_oldE (heap_alloc_new _ _)|(refine heap_newF _ ?_;simp;done)|(refine heap_oldE ?_;refine heap_newF _ ?_;simp;done)|(refine heap_drewF (heap_newF _ ?_);simp;done)|(refine heap_drewF (heap_oldE (heap_newF _ ?_));rfl)|(refine heap_drewF (heap_oldE (heap_newF _ ?_));simp;done)
               · first|omega|(simp;done)|(simp;omega)
               intro A7 c7 w7 hown7 hgr7
               rw [Nat.zero_add,List.nil_append] at hown7
               have HOwn7:=hd' hown7
               have Q7:Q4 W5 w.heap.size [.slice An e.name.length cn,.int .i64 e.val,.int .i64 e.dev,.int .i64 e.num] w7:=Q4.grown (by repeat first|with_reducible exact HQ5.out|with_reducible apply Q4.drew|with_reducible apply Q4.alloc) hgr7 (fun g hg=>by simp [Value.ownBlock] at hg;omega)
               have HQ7:=hd' Q7
               obtain ⟨t0_7,t1_7,t2_7,t3_7⟩:=Q7.c.four
               have HG7:=hd' hgr7
               have hz7:=Q7.bel.size
               clear hgr7 hown7 Q7)
            | (refine step_append_row _ (by rfl) _ _ _ (by rfl) W5.heap.size 0 180 i1 _ 4 48 Tryz.underlying36 hi1 hy0 hy1 hy2 rfl (by decide) (.slice A7 0 c7) 0 [] (by rfl) ?_ (.slice (some ⟨_,0,none⟩) 1 1) 1 [.slice An e.name.length cn,.int .i64 e.val,.int .i64 e.dev,.int .i64 e.num] (by rfl) (own_one4f (Nat.zero_le _) ?_) ?_ hm3 hm4 ?_ ?_
               try any_goals (first|with_reducible exact HOwn7.out.alloc _|with_reducible exact HOwn7.out|with_reducible exact (HOwn7.out.alloc _).drew|with_reducible exact HOwn7.out.drew.alloc _|with_reducible exact (HOwn7.out.alloc _).drew.alloc _)
               try any_goals (first|exact heap_alloc_new _ _|exact c1_after HG7.out|exact c1_before HG7.out|exact c1_after' HG7.out|exact c1_before' HG7.out)
               try any_goals exact one4c _ _ _ _ _ _
               try any_goals (first|exact hz7|exact le_alloc _ hz7|exact le_alloc _ (le_alloc _ hz7))
               intro A8 c8 w8 hown8 hgr8
               have HOwn8:=hd' hown8
               have HQ8:=hd' (show Q4 W5 w.heap.size [.slice An e.name.length cn,.int .i64 e.val,.int .i64 e.dev,.int .i64 e.num] w8 from Q4.grown (by repeat first|with_reducible exact HQ7.out|with_reducible apply Q4.drew|with_reducible apply Q4.alloc) hgr8 (fun g hg=>(HOwn7.out.lt g hg).1))
               clear hgr8 hown8))
        all_goals
          have HS2:=hd' (show SrcAt w8 none 0 ([]:List Value) from ⟨fun _=>rfl,fun a ha=>by cases ha⟩)
          have hm5:1+0≤maxLen:=by unfold maxLen;omega
          have hm6:(1+0)*48≤140737488355328:=by omega
          have hz8:=HQ8.out.bel.size
          have HOwn8':=hd' (show w8.ownsRow W5.heap.size 180 4 (.slice A8 1 c8) 1 [.slice An e.name.length cn,.int .i64 e.val,.int .i64 e.dev,.int .i64 e.num] from by simpa using HOwn8.out)
          clear t0 t1 t2 t3 t0_7 t1_7 t2_7 t3_7
          go_upto_region 5 with fail
          go_wp2_with (at_builtin;refine wpList_append_any _ rfl _ _ 36 rfl W5.heap.size 180 i1 (.agg #[.slice none 0 0,.int .i64 0,.int .i64 0,.int .i64 0]) 4 48 Tryz.underlying36 hi1 hy0 hy1 hy2 rfl (by decide) (.slice A8 1 c8) 1 _ rfl HOwn8'.out none 0 0 [] rfl rfl HS2.out (by simp) hm5 hm6 hz8 ?_)
          intro A9 c9 w9 hown9 hgr9
          have hown9':w9.ownsRow W5.heap.size 180 4 (.slice A9 [e].length c9) [e].length [.slice An e.name.length cn,.int .i64 e.val,.int .i64 e.dev,.int .i64 e.num]:=by simpa using hown9
          have HR9:=hd' (show WoRel w9 B0 [e] [.slice An e.name.length cn,.int .i64 e.val,.int .i64 e.dev,.int .i64 e.num] from by
            have hkeep:∀p:Addr,p.block < B0→w9.cell? p=W5.cell? p:=fun p hp=>by
              have h1:=HB5.out.size
              refine (World.cell?_of_block (hgr9.block _ (by omega) (fun e2=>?_))).trans (HQ8.out.bel.cell (by omega))
              have:=(HOwn8.out.lt _ e2.symm).1
              omega
            exact (WoRel.nil w9 B0).add (HN.out.keep fun p _ hp=>(hkeep p hp).trans ((HBel.out.trans (HB5.out.mono (by omega))).cell (by omega))))
          have HO9:=hd' ((HR9.out.out hown9').lower (L':=w.heap.size) (by have h1:=HBel.out.size;have h2:=HB5.out.size;exact Nat.le_trans h1 h2))
          have hcap:1≤c9:=by
            obtain ⟨_,hh|⟨g,cap,cur,hv,hg,hb9,hle,_⟩⟩:=hown9'
            · simp at hh
            · injection hv with _ _ h3
              simp at hle
              omega
          have HA9:∃g,A9=some ⟨g,0,none⟩:=by
            obtain ⟨_,hh|⟨g,cap,cur,hv,hg,hb9,hle,_⟩⟩:=hown9'
            · simp at hh
            · injection hv with h1 _ _
              exact ⟨g,h1⟩
          have HB9:=hd' (show Below w.heap.size w w9 from (HBel.out.trans (HB5.out.mono (by omega))).trans ((HQ8.out.bel.mono (by omega)).grown hgr9 (by omega) (fun g hg=>by have:=(HOwn8.out.lt g hg).1;omega)))
          clear hown9 hown9' hgr9
          go_wp2_with fail
          go_ret
          exact ⟨A9,c9,rfl,hcap,HA9,HO9.out,HB9.out⟩
      · rcases Nat.lt_or_ge k c with hck|hck
        · go_upto_region 2 with fail
          have hlt2:¬ ((k:Int) < (es.length:Int)):=by omega
          have hlt3:¬ (k < es.length):=by omega
          refine wp_region_kept (by kernel_rfl) (by kernel_rfl) ?_
          repeat (go_big_quiet_step (fail))
          refine wpQuiet_nil ?_
          rintro W5 ⟨⟨_,hb5⟩,rfl⟩
          have HB5:=hd' (HBr.out.trans (hb5.mono hzr))
          clear q0 q1 q2 q3 hb5 hlt2 hlt3 hlt
          obtain ⟨vs,hrel,hone,hsrc⟩:=rel_of_ens (w:=W5) (B0:=B0) (A:=some ⟨b,o,none⟩) (es:=es) (HA.out.keep fun p _ hp=>(HBel.out.trans (HB5.out.mono (by omega))).cell (by omega))
          have hvl:=hrel.vl
          obtain ⟨i1,hi1,hy0,hy1,hy2⟩:=info_parts Tryz.infoEn
          have HS1:=hd' (fun (X:World) (hX:Below W5.heap.size W5 X)=>show SrcAt X (some ⟨b,o,none⟩) k (vs.take (k*4)) from ⟨fun h=>(by cases h),fun a ha j u hj=>by
            cases ha
            have hj2:vs[j]?=some u:=by
              rw [List.getElem?_take] at hj
              split at hj
              · exact hj
              · cases hj
            have hne:0 < es.length:=by have:=(List.getElem?_eq_some_iff.1 hj2).1;omega
            obtain ⟨b1,o1,he1,hb1,hs1⟩:=hsrc hne
            cases he1
            rw [Addr.add_lit]
            exact (hX.cell (by have:=HB5.out.size;exact Nat.lt_of_lt_of_le hb1 (by omega))).trans (hs1 j u hj2)⟩)
          have hk4:(vs.take (k*4)).length=k*4:=by simp;omega
          have hone1:∀u∈vs.take (k*4),u.oneCell'=true:=fun u hu=>hone u (List.mem_of_mem_take hu)
          have hkc:k≤c:=by omega
          have hkci:(k:Int)≤(c:Int):=by omega
          have t0:=(HX.out.below HB5.out hzW).four
          obtain ⟨t0,t1,t2,t3⟩:=t0
          have HQ5:=hd' (show Q4 W5 w.heap.size [.slice An e.name.length cn,.int .i64 e.val,.int .i64 e.dev,.int .i64 e.num] W5 from ⟨HX.out.below HB5.out hzW,Below.refl _ _,by have:=HB5.out.size;omega⟩)
          have hz5:w.heap.size < W5.heap.size:=by have:=HB5.out.size;omega
          have hm1:0+k≤maxLen:=by unfold maxLen;omega
          have hm2:(0+k)*48≤140737488355328:=by omega
          have hm3:k+1≤maxLen:=by unfold maxLen;omega
          have hm4:(k+1)*48≤140737488355328:=by omega
          go_upto_region 4 with fail
          go_region_law
            (first
              | (refine step_append_anyE (by rfl) _ _ _ (by rfl) W5.heap.size 180 i1 _ 4 48 Tryz.underlying36 hi1 hy0 hy1 hy2 rfl (by decide) (.slice (some ⟨_,0,none⟩) 0 0) 0 [] (by rfl) (owns_noneE ?_ ?_) (some ⟨b,o,none⟩) k c (vs.take (k*4)) (by rfl) hk4 (HS1.out _ ?_) hone1 hm1 hm2 ?_ ?_
                 · first|exact Nat.le_refl _|(simp;done)|(simp;omega)
                 · first|exact heap_alloc_new _ _|exact heap_oldE (heap_alloc_new _ _)|(refine heap_newF _ ?_;simp;done)|(refine heap_oldE ?_;refine heap_newF _ ?_;simp;done)|(refine heap_drewF (heap_newF _ ?_);simp;done)|(refine heap_drewF (heap_oldE (heap_newF _ ?_));rfl)|(refine heap_drewF (heap_oldE (heap_newF _ ?_));simp;done)
                 · exact Q4.bel (bt:=w.heap.size) (vs:=[.slice An e.name.length cn,.int .i64 e.val,.int .i64 e.dev,.int .i64 e.num]) (by repeat first|with_reducible exact HQ5.out|with_reducible apply Q4.drew|with_reducible apply Q4.alloc)
                 · first|omega|(simp;done)|(simp;omega)
                 intro A7 c7 w7 hown7 hgr7
                 rw [Nat.zero_add,List.nil_append] at hown7
                 have HOwn7:=hd' hown7
                 have Q7:Q4 W5 w.heap.size [.slice An e.name.length cn,.int .i64 e.val,.int .i64 e.dev,.int .i64 e.num] w7:=Q4.grown (by repeat first|with_reducible exact HQ5.out|with_reducible apply Q4.drew|with_reducible apply Q4.alloc) hgr7 (fun g hg=>by simp [Value.ownBlock] at hg;omega)
                 have HQ7:=hd' Q7
                 obtain ⟨t0_7,t1_7,t2_7,t3_7⟩:=Q7.c.four
                 have HG7:=hd' hgr7
                 have hz7:=Q7.bel.size
                 clear hgr7 hown7 Q7)
              | (refine step_append_row _ (by rfl) _ _ _ (by rfl) W5.heap.size 0 180 i1 _ 4 48 Tryz.underlying36 hi1 hy0 hy1 hy2 rfl (by decide) (.slice A7 k c7) k (vs.take (k*4)) (by rfl) ?_ (.slice (some ⟨_,0,none⟩) 1 1) 1 [.slice An e.name.length cn,.int .i64 e.val,.int .i64 e.dev,.int .i64 e.num] (by rfl) (own_one4f (Nat.zero_le _) ?_) ?_ hm3 hm4 ?_ ?_
                 try any_goals (first|with_reducible exact HOwn7.out.alloc _|with_reducible exact HOwn7.out|with_reducible exact (HOwn7.out.alloc _).drew|with_reducible exact HOwn7.out.drew.alloc _|with_reducible exact (HOwn7.out.alloc _).drew.alloc _)
                 try any_goals (first|exact heap_alloc_new _ _|exact c1_after HG7.out|exact c1_before HG7.out|exact c1_after' HG7.out|exact c1_before' HG7.out)
                 try any_goals exact one4c _ _ _ _ _ _
                 try any_goals (first|exact hz7|exact le_alloc _ hz7|exact le_alloc _ (le_alloc _ hz7))
                 intro A8 c8 w8 hown8 hgr8
                 have HOwn8:=hd' hown8
                 have HQ8:=hd' (show Q4 W5 w.heap.size [.slice An e.name.length cn,.int .i64 e.val,.int .i64 e.dev,.int .i64 e.num] w8 from Q4.grown (by repeat first|with_reducible exact HQ7.out|with_reducible apply Q4.drew|with_reducible apply Q4.alloc) hgr8 (fun g hg=>(HOwn7.out.lt g hg).1))
                 clear hgr8 hown8))
          all_goals
            have hkn2:(k:Int)≤(es.length:Int):=by omega
            have hvd:(vs.drop (k*4)).length=(es.length - k)*4:=by simp;omega
            have hone2:∀u∈vs.drop (k*4),u.oneCell'=true:=fun u hu=>hone u (List.mem_of_mem_drop hu)
            have HS2:=hd' (show SrcAt w8 (some ⟨b,o+k*4,none⟩) (es.length - k) (vs.drop (k*4)) from by
              have h0:vs.drop (k*4)=[]:=List.drop_eq_nil_of_le (by have:=HD.out.2;omega)
              rw [h0]
              exact ⟨fun h=>(by cases h),fun a ha j u hj=>(by simp at hj)⟩)
            have hm5:k+1+(es.length - k)≤maxLen:=by unfold maxLen;omega
            have hm6:(k+1+(es.length - k))*48≤140737488355328:=by omega
            have hz8:=HQ8.out.bel.size
            clear t0 t1 t2 t3 t0_7 t1_7 t2_7 t3_7
            go_upto_region 5 with fail
            go_wp2_with (at_builtin;refine wpList_append_any _ rfl _ _ 36 rfl W5.heap.size 180 i1 (.agg #[.slice none 0 0,.int .i64 0,.int .i64 0,.int .i64 0]) 4 48 Tryz.underlying36 hi1 hy0 hy1 hy2 rfl (by decide) (.slice A8 (k+1) c8) (k+1) _ rfl HOwn8.out (some ⟨b,o+k*4,none⟩) (es.length - k) (c - k) (vs.drop (k*4)) rfl hvd HS2.out hone2 hm5 hm6 hz8 ?_)
            intro A9 c9 w9 hown9 hgr9
            have hlen:k+1+(es.length - k)=(insE es e).length:=by rw [HSp.out];simp;omega
            have HR9:=hd' (show WoRel w9 B0 (insE es e) (vs.take (k*4)++[.slice An e.name.length cn,.int .i64 e.val,.int .i64 e.dev,.int .i64 e.num]++vs.drop (k*4)) from by
              have hkeep:∀p:Addr,p.block < B0→w9.cell? p=W5.cell? p:=fun p hp=>by
                have h1:=HB5.out.size
                refine (World.cell?_of_block (hgr9.block _ (by omega) (fun e2=>?_))).trans (HQ8.out.bel.cell (by omega))
                have:=(HOwn8.out.lt _ e2.symm).1
                omega
              have h5:=hrel.keep hkeep
              rw [HSp.out,show List.take k es++e :: List.drop k es=(List.take k es++[e])++List.drop k es by simp]
              exact ((h5.take hk).add (HN.out.keep fun p _ hp=>(hkeep p hp).trans ((HBel.out.trans (HB5.out.mono (by omega))).cell (by omega)))).app (h5.drop hk))
            rw [show vs.take (k*4)++Value.slice An e.name.length cn :: .int .i64 e.val :: .int .i64 e.dev :: .int .i64 e.num :: vs.drop (k*4)=vs.take (k*4)++[.slice An e.name.length cn,.int .i64 e.val,.int .i64 e.dev,.int .i64 e.num]++vs.drop (k*4) by simp] at hown9
            rw [hlen] at hown9 ⊢
            have HO9:=hd' ((HR9.out.out hown9).lower (L':=w.heap.size) (by have h1:=HBel.out.size;have h2:=HB5.out.size;exact Nat.le_trans h1 h2))
            have hcap:(insE es e).length≤c9:=by
              obtain ⟨_,hh|⟨g,cap,cur,hv,hg,hb9,hle,_⟩⟩:=hown9
              · omega
              · injection hv with _ _ h3
                omega
            have HA9:∃g,A9=some ⟨g,0,none⟩:=by
              obtain ⟨_,hh|⟨g,cap,cur,hv,hg,hb9,hle,_⟩⟩:=hown9
              · have:=hlen
                omega
              · injection hv with h1 _ _
                exact ⟨g,h1⟩
            have HB9:=hd' (show Below w.heap.size w w9 from (HBel.out.trans (HB5.out.mono (by omega))).trans ((HQ8.out.bel.mono (by omega)).grown hgr9 (by omega) (fun g hg=>by have:=(HOwn8.out.lt g hg).1;omega)))
            clear hown9 hgr9
            go_wp2_with fail
            go_ret
            exact ⟨A9,c9,rfl,hcap,HA9,HO9.out,HB9.out⟩
        · obtain rfl:c=k:=by omega
          go_upto_region 2 with fail
          have hlt2:¬ ((c:Int) < (es.length:Int)):=by omega
          have hlt3:¬ (c < es.length):=by omega
          refine wp_region_kept (by kernel_rfl) (by kernel_rfl) ?_
          repeat (go_big_quiet_step (fail))
          refine wpQuiet_nil ?_
          rintro W5 ⟨⟨_,hb5⟩,rfl⟩
          have HB5:=hd' (HBr.out.trans (hb5.mono hzr))
          clear q0 q1 q2 q3 hb5 hlt2 hlt3 hlt hck
          obtain ⟨vs,hrel,hone,hsrc⟩:=rel_of_ens (w:=W5) (B0:=B0) (A:=some ⟨b,o,none⟩) (es:=es) (HA.out.keep fun p _ hp=>(HBel.out.trans (HB5.out.mono (by omega))).cell (by omega))
          have hvl:=hrel.vl
          obtain ⟨i1,hi1,hy0,hy1,hy2⟩:=info_parts Tryz.infoEn
          have HS1:=hd' (fun (X:World) (hX:Below W5.heap.size W5 X)=>show SrcAt X (some ⟨b,o,none⟩) c (vs.take (c*4)) from ⟨fun h=>(by cases h),fun a ha j u hj=>by
            cases ha
            have hj2:vs[j]?=some u:=by
              rw [List.getElem?_take] at hj
              split at hj
              · exact hj
              · cases hj
            have hne:0 < es.length:=by have:=(List.getElem?_eq_some_iff.1 hj2).1;omega
            obtain ⟨b1,o1,he1,hb1,hs1⟩:=hsrc hne
            cases he1
            rw [Addr.add_lit]
            exact (hX.cell (by have:=HB5.out.size;exact Nat.lt_of_lt_of_le hb1 (by omega))).trans (hs1 j u hj2)⟩)
          have hk4:(vs.take (c*4)).length=c*4:=by simp;omega
          have hone1:∀u∈vs.take (c*4),u.oneCell'=true:=fun u hu=>hone u (List.mem_of_mem_take hu)
          have hkc:c≤c:=by omega
          have hkci:(c:Int)≤(c:Int):=by omega
          have t0:=(HX.out.below HB5.out hzW).four
          obtain ⟨t0,t1,t2,t3⟩:=t0
          have HQ5:=hd' (show Q4 W5 w.heap.size [.slice An e.name.length cn,.int .i64 e.val,.int .i64 e.dev,.int .i64 e.num] W5 from ⟨HX.out.below HB5.out hzW,Below.refl _ _,by have:=HB5.out.size;omega⟩)
          have hz5:w.heap.size < W5.heap.size:=by have:=HB5.out.size;omega
          have hm1:0+c≤maxLen:=by unfold maxLen;omega
          have hm2:(0+c)*48≤140737488355328:=by omega
          have hm3:c+1≤maxLen:=by unfold maxLen;omega
          have hm4:(c+1)*48≤140737488355328:=by omega
          go_upto_region 4 with fail
          go_region_law
            (first
              | (refine step_append_anyE (by rfl) _ _ _ (by rfl) W5.heap.size 180 i1 _ 4 48 Tryz.underlying36 hi1 hy0 hy1 hy2 rfl (by decide) (.slice (some ⟨_,0,none⟩) 0 0) 0 [] (by rfl) (owns_noneE ?_ ?_) (some ⟨b,o,none⟩) c c (vs.take (c*4)) (by rfl) hk4 (HS1.out _ ?_) hone1 hm1 hm2 ?_ ?_
                 · first|exact Nat.le_refl _|(simp;done)|(simp;omega)
                 · first|exact heap_alloc_new _ _|exact heap_oldE (heap_alloc_new _ _)|(refine heap_newF _ ?_;simp;done)|(refine heap_oldE ?_;refine heap_newF _ ?_;simp;done)|(refine heap_drewF (heap_newF _ ?_);simp;done)|(refine heap_drewF (heap_oldE (heap_newF _ ?_));rfl)|(refine heap_drewF (heap_oldE (heap_newF _ ?_));simp;done)
                 · exact Q4.bel (bt:=w.heap.size) (vs:=[.slice An e.name.length cn,.int .i64 e.val,.int .i64 e.dev,.int .i64 e.num]) (by repeat first|with_reducible exact HQ5.out|with_reducible apply Q4.drew|with_reducible apply Q4.alloc)
                 · first|omega|(simp;done)|(simp;omega)
                 intro A7 c7 w7 hown7 hgr7
                 rw [Nat.zero_add,List.nil_append] at hown7
                 have HOwn7:=hd' hown7
                 have Q7:Q4 W5 w.heap.size [.slice An e.name.length cn,.int .i64 e.val,.int .i64 e.dev,.int .i64 e.num] w7:=Q4.grown (by repeat first|with_reducible exact HQ5.out|with_reducible apply Q4.drew|with_reducible apply Q4.alloc) hgr7 (fun g hg=>by simp [Value.ownBlock] at hg;omega)
                 have HQ7:=hd' Q7
                 obtain ⟨t0_7,t1_7,t2_7,t3_7⟩:=Q7.c.four
                 have HG7:=hd' hgr7
                 have hz7:=Q7.bel.size
                 clear hgr7 hown7 Q7)
              | (refine step_append_row _ (by rfl) _ _ _ (by rfl) W5.heap.size 0 180 i1 _ 4 48 Tryz.underlying36 hi1 hy0 hy1 hy2 rfl (by decide) (.slice A7 c c7) c (vs.take (c*4)) (by rfl) ?_ (.slice (some ⟨_,0,none⟩) 1 1) 1 [.slice An e.name.length cn,.int .i64 e.val,.int .i64 e.dev,.int .i64 e.num] (by rfl) (own_one4f (Nat.zero_le _) ?_) ?_ hm3 hm4 ?_ ?_
                 try any_goals (first|with_reducible exact HOwn7.out.alloc _|with_reducible exact HOwn7.out|with_reducible exact (HOwn7.out.alloc _).drew|with_reducible exact HOwn7.out.drew.alloc _|with_reducible exact (HOwn7.out.alloc _).drew.alloc _)
                 try any_goals (first|exact heap_alloc_new _ _|exact c1_after HG7.out|exact c1_before HG7.out|exact c1_after' HG7.out|exact c1_before' HG7.out)
                 try any_goals exact one4c _ _ _ _ _ _
                 try any_goals (first|exact hz7|exact le_alloc _ hz7|exact le_alloc _ (le_alloc _ hz7))
                 intro A8 c8 w8 hown8 hgr8
                 have HOwn8:=hd' hown8
                 have HQ8:=hd' (show Q4 W5 w.heap.size [.slice An e.name.length cn,.int .i64 e.val,.int .i64 e.dev,.int .i64 e.num] w8 from Q4.grown (by repeat first|with_reducible exact HQ7.out|with_reducible apply Q4.drew|with_reducible apply Q4.alloc) hgr8 (fun g hg=>(HOwn7.out.lt g hg).1))
                 clear hgr8 hown8))
          all_goals
            have hkn2:(c:Int)≤(es.length:Int):=by omega
            have hone2:∀u∈vs.drop (c*4),u.oneCell'=true:=fun u hu=>hone u (List.mem_of_mem_drop hu)
            have h0:vs.drop (c*4)=[]:=List.drop_eq_nil_of_le (by have:=HD.out.2;omega)
            have HS2:=hd' (show SrcAt w8 (some ⟨b,o,none⟩) 0 ([]:List Value) from ⟨fun h=>(by cases h),fun a ha j u hj=>(by simp at hj)⟩)
            have hm5:c+1+0≤maxLen:=by unfold maxLen;omega
            have hm6:(c+1+0)*48≤140737488355328:=by omega
            have hz8:=HQ8.out.bel.size
            clear t0 t1 t2 t3 t0_7 t1_7 t2_7 t3_7
            go_upto_region 5 with fail
            go_wp2_with (at_builtin;refine wpList_append_any _ rfl _ _ 36 rfl W5.heap.size 180 i1 (.agg #[.slice none 0 0,.int .i64 0,.int .i64 0,.int .i64 0]) 4 48 Tryz.underlying36 hi1 hy0 hy1 hy2 rfl (by decide) (.slice A8 (c+1) c8) (c+1) _ rfl HOwn8.out (some ⟨b,o,none⟩) 0 0 [] rfl rfl HS2.out (by simp) hm5 hm6 hz8 ?_)
            intro A9 c9 w9 hown9 hgr9
            have hlen:c+1=(insE es e).length:=by rw [HSp.out];simp;have:=HD.out.2;omega
            have hown9:w9.ownsRow W5.heap.size 180 4 (.slice A9 (c+1) c9) (c+1) (vs.take (c*4)++[.slice An e.name.length cn,.int .i64 e.val,.int .i64 e.dev,.int .i64 e.num]++vs.drop (c*4)):=by simpa [h0] using hown9
            have HR9:=hd' (show WoRel w9 B0 (insE es e) (vs.take (c*4)++[.slice An e.name.length cn,.int .i64 e.val,.int .i64 e.dev,.int .i64 e.num]++vs.drop (c*4)) from by
              have hkeep:∀p:Addr,p.block < B0→w9.cell? p=W5.cell? p:=fun p hp=>by
                have h1:=HB5.out.size
                refine (World.cell?_of_block (hgr9.block _ (by omega) (fun e2=>?_))).trans (HQ8.out.bel.cell (by omega))
                have:=(HOwn8.out.lt _ e2.symm).1
                omega
              have h5:=hrel.keep hkeep
              rw [HSp.out,show List.take c es++e :: List.drop c es=(List.take c es++[e])++List.drop c es by simp]
              exact ((h5.take hk).add (HN.out.keep fun p _ hp=>(hkeep p hp).trans ((HBel.out.trans (HB5.out.mono (by omega))).cell (by omega)))).app (h5.drop hk))
            rw [hlen] at hown9 ⊢
            have HO9:=hd' ((HR9.out.out hown9).lower (L':=w.heap.size) (by have h1:=HBel.out.size;have h2:=HB5.out.size;exact Nat.le_trans h1 h2))
            have hcap:(insE es e).length≤c9:=by
              obtain ⟨_,hh|⟨g,cap,cur,hv,hg,hb9,hle,_⟩⟩:=hown9
              · omega
              · injection hv with _ _ h3
                omega
            have HA9:∃g,A9=some ⟨g,0,none⟩:=by
              obtain ⟨_,hh|⟨g,cap,cur,hv,hg,hb9,hle,_⟩⟩:=hown9
              · have:=hlen
                omega
              · injection hv with h1 _ _
                exact ⟨g,h1⟩
            have HB9:=hd' (show Below w.heap.size w w9 from (HBel.out.trans (HB5.out.mono (by omega))).trans ((HQ8.out.bel.mono (by omega)).grown hgr9 (by omega) (fun g hg=>by have:=(HOwn8.out.lt g hg).1;omega)))
            clear hown9 hgr9
            go_wp2_with fail
            go_ret
            exact ⟨A9,c9,rfl,hcap,HA9,HO9.out,HB9.out⟩
end Go.Proofs.YtckajeippfpojaaGreat
