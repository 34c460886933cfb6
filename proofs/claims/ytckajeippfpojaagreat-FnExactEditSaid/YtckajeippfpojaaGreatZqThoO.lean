import Derived.Test.YtckajeippfpojaaGreatZqThoseN
namespace Go.Proofs.YtckajeippfpojaaGreat
open Go.RowKit Go.Maps
set_option maxRecDepth 100000
theorem ownsRow_lowE {w:World} {base base' size n:Nat} {e:TypeId} {v:Value} {xs:List Value} (h:w.ownsRow base e size v n xs) (hb:base'≤base):w.ownsRow base' e size v n xs:=by
  obtain ⟨h0,hh|⟨g,cap,cur,hv,hg,hr⟩⟩:=h
  · exact ⟨h0,.inl hh⟩
  · exact ⟨h0,.inr ⟨g,cap,cur,hv,Nat.le_trans hb hg,hr⟩⟩
set_option maxHeartbeats 4000000 in
theorem those_notNamedO (a b c d:Int) (A:Option Addr) (es:List En) (cap:Nat) (p:Nat) (Ab:Option Addr) (l:List UInt8) (cb:Nat) (w:World) (hA:EvsIn w 0 w.heap.size A es) (hn:es.length≤12) (hp:w.cell? ⟨p,0,none⟩=some (.slice Ab l.length cb)) (hB:BytesIn w 0 w.heap.size Ab l) :
    Calls Tryz.prog 183 #[.agg #[.int .i64 a,.int .i64 b,.int .i64 c,.int .i64 d,.slice A es.length cap],.func (.func 184) #[] #[.pointer (some ⟨p,0,none⟩)]] w
      fun r w'=>∃A' c',r=.returned (.slice A' (notName l es).length c')∧w'.ownsRow w.heap.size 192 4 (.slice A' (notName l es).length c') (notName l es).length ((notName l es).flatMap encE)∧Below w.heap.size w w':=by
  have HA:=hd' hA
  have HB:=hd' hB
  have hps:=World.block_lt_of_cell? w _ hp
  have hps':p < w.heap.size:=hps
  have HP:=hd' hp
  clear hA hB hp hps
  go_enter Tryz.func183,Tryz.ntmps183
  go_wp2_with fail
  obtain ⟨W,hW⟩:∃W,W=w.alloc (.cells #[.int .i64 a,.int .i64 b,.int .i64 c,.int .i64 d,.slice A es.length cap] 101):=⟨_,rfl⟩
  have HBel:=hd' (show Below w.heap.size w W by rw [hW];exact (Below.refl _ _).alloc (Nat.le_refl _) _)
  have hzW:w.heap.size < W.heap.size:=by rw [hW];simp
  rw [←hW]
  clear hW
  go_loopw [5,11] (fun x i wr=>∃(k:Nat) (A':Option Addr) (c':Nat),k≤es.length∧i=.int .i64 k∧x=.slice A' (notName l (es.take k)).length c'∧wr.ownsRow W.heap.size 192 4 (.slice A' (notName l (es.take k)).length c') (notName l (es.take k)).length ((notName l (es.take k)).flatMap encE)∧Below W.heap.size W wr∧W.heap.size≤wr.heap.size) (fun _ i _=>es.length - (intOf i).toNat)
  case atStart=>exact ⟨0,none,0,Nat.zero_le _,rfl,rfl,World.ownsRow_nil _ _ _ _,Below.refl _ _,Nat.le_refl _⟩
  case round =>
    obtain ⟨k,A',c',hk,rfl,rfl,hown,hbel,hzr⟩:=hrel
    have HOwn:=hd' hown
    have HBr:=hd' hbel
    have HOr:=hd' (show Below w.heap.size w wr from HBel.out.trans (hbel.mono (by omega)))
    clear hown hbel
    by_cases hlt:k < es.length
    · obtain ⟨bA,oA,hAe,_,hbA,hcA⟩:=HA.out (by omega)
      obtain ⟨c0,c1,c2,c3⟩:=(hcA k hlt).keep (w':=wr) fun o=>HOr.out.cell hbA
      obtain ⟨e,he⟩:∃e,e=es[k]:=⟨_,rfl⟩
      rw [←he] at c0 c1 c2 c3
      have HS:=hd' (notName_succ l es k hlt)
      rw [←he] at HS
      have hkl:(notName l (es.take k)).length≤k:=Nat.le_trans (notName_le _ _) (by simp;omega)
      obtain ⟨F,hF⟩:∃F,F=notName l (es.take k):=⟨_,rfl⟩
      rw [←hF] at HS hkl HOwn ⊢
      subst hAe
      clear hcA he hF
      obtain ⟨n1,v1,d1,m1⟩:=e
      simp only at c0 c1 c2 c3
      have hnd:=fun W hp hB=>notNamed1_any ⟨n1,v1,d1,m1⟩ p Ab l cb W hp hB
      unfold ev at hnd
      simp only at hnd
      have HNd:=hd' hnd
      clear hnd
      have hlt':(k:Int) < (es.length:Int):=by omega
      go_wp2_with fail
      obtain ⟨W7,hW7⟩:∃W7,W7=wr.alloc (.cells #[.string ⟨n1.toArray⟩,.int .i64 v1,.int .i64 d1,.int .i64 m1] 192):=⟨_,rfl⟩
      have HZ7:=hd' (show Bx W7 wr.heap.size [.string ⟨n1.toArray⟩,.int .i64 v1,.int .i64 d1,.int .i64 m1] by rw [hW7];exact Bx.new' _ _ _ _ rfl)
      have HB7:=hd' (show Below wr.heap.size wr W7 by rw [hW7];exact (Below.refl _ _).alloc (Nat.le_refl _) _)
      have hz7:wr.heap.size < W7.heap.size:=by rw [hW7];simp
      rw [←hW7]
      clear hW7 c0 c1 c2 c3
      have HO7:=hd' (show Below w.heap.size w W7 from HOr.out.trans (HB7.out.mono (by omega)))
      refine (HNd.out W7 ((HO7.out.cell (p:=⟨p,0,none⟩) hps').trans HP.out) ((HB.out.keep fun p _ hp=>HO7.out.cell hp).mono (by omega))).mono ?_
      rintro r w8 ⟨rfl,hb8⟩
      have HZ8:=hd' (HZ7.out.below hb8 hz7)
      have HB8:=hd' (HB7.out.trans (hb8.mono (by omega)))
      have hz8:=hb8.size
      clear hb8
      cases hq:(n1 == l) with
      | true =>
        have HS2:=hd' (show notName l (es.take (k+1))=F by rw [HS.out];simp [hq])
        clear hq
        go_wp2_with fail
        go_roundw
        case rel =>
          refine ⟨k+1,A',c',by omega,by go_num,by rw [HS2.out],?_,HBr.out.trans (HB8.out.mono hzr),by omega⟩
          rw [HS2.out]
          exact ownsRow_below HOwn.out HB8.out fun g hg=>(HOwn.out.lt g hg).2
        case measure=>simp [intOf];omega
      | false =>
        have HS2:=hd' (show notName l (es.take (k+1))=F++[⟨n1,v1,d1,m1⟩] by rw [HS.out];simp [hq])
        have z0:=HZ8.out 0 (by simp)
        have z1:=HZ8.out 1 (by simp)
        have z2:=HZ8.out 2 (by simp)
        have z3:=HZ8.out 3 (by simp)
        simp only [List.getElem_cons_succ,List.getElem_cons_zero] at z0 z1 z2 z3
        have HOwn8:=hd' (ownsRow_below HOwn.out HB8.out fun g hg=>(HOwn.out.lt g hg).2)
        obtain ⟨i0,hi,hz0,hz1',hz2'⟩:=info_parts Tryz.infoEnt
        clear hq
        go_wp2_with (at_builtin;refine wpList_append_own _ rfl _ _ 99 rfl W.heap.size 192 i0 (.agg #[.string ⟨#[]⟩,.int .i64 0,.int .i64 0,.int .i64 0]) 4 40 Tryz.underlying99 hi hz0 hz1' hz2' rfl (by decide) _ _ _ rfl (HOwn8.out.alloc _) ⟨w8.heap.size,0,none⟩ 1 1 [.string ⟨n1.toArray⟩,.int .i64 v1,.int .i64 d1,.int .i64 m1] rfl rfl ?c1 ?c2 ?c3 ?c4 ?c5 ?_)
        case c1=>exact new4 _ _ _ _ _ _
        case c2=>intro u hu;simp at hu;rcases hu with rfl|rfl|rfl|rfl <;> rfl
        case c3=>unfold maxLen;omega
        case c4=>omega
        case c5=>simp;omega
        intro v' w9 hrow9 hgr9 _
        obtain ⟨A9,c9,rfl⟩:=row_shapeN hrow9
        have HRow9:=hd' hrow9
        have hz9:w8.heap.size+1≤w9.heap.size:=by simpa using hgr9.size
        have HB9:=hd' (((HBr.out.trans (HB8.out.mono (by omega))).alloc (by omega) (.cells #[.string ⟨n1.toArray⟩,.int .i64 v1,.int .i64 d1,.int .i64 m1] 192)).grown hgr9 (by simp;omega) (fun g hg=>by have:=(HOwn8.out.lt g hg).1;omega))
        clear hrow9 hgr9 z0 z1 z2 z3
        go_wp2_with fail
        go_roundw
        case rel =>
          refine ⟨k+1,A9,c9,by omega,by go_num,by rw [HS2.out];simp,?_,HB9.out,by omega⟩
          have h:=HRow9.out
          rw [HS2.out,List.flatMap_append]
          simpa [encE] using h
        case measure=>simp [intOf];omega
    · have hke:k=es.length:=by omega
      have HEv:=hd' (show wr.ownsRow W.heap.size 192 4 (.slice A' (notName l es).length c') (notName l es).length ((notName l es).flatMap encE) from by
        have h:=HOwn.out
        rw [hke,List.take_length] at h
        exact h)
      have HL:=hd' (show notName l (es.take k)=notName l es by rw [hke,List.take_length])
      clear hke
      go_wp2_with fail
      go_ret
      exact ⟨A',c',by rw [HL.out];rfl,ownsRow_lowE HEv.out (by omega),HOr.out⟩
set_option maxHeartbeats 2000000 in
theorem notNamed_own (a b c d:Int) (A:Option Addr) (es:List En) (cap:Nat) (Ab:Option Addr) (l:List UInt8) (cb:Nat) (w:World) (hA:EvsIn w 0 w.heap.size A es) (hn:es.length≤12) (hB:BytesIn w 0 w.heap.size Ab l) :
    Calls Tryz.prog 143 #[.agg #[.int .i64 a,.int .i64 b,.int .i64 c,.int .i64 d,.slice A es.length cap],.slice Ab l.length cb] w
      fun r w'=>∃A' c',r=.returned (.slice A' (notName l es).length c')∧w'.ownsRow w.heap.size 192 4 (.slice A' (notName l es).length c') (notName l es).length ((notName l es).flatMap encE)∧Below w.heap.size w w':=by
  have HA:=hd' hA
  have HB:=hd' hB
  have hmf:∀(fn:Fn) (first cap:Array Value) (w:World),(Instr.makeFunc fn first cap).run Tryz.prog w=.ok (.func fn first cap) w:=fun _ _ _ _=>rfl
  clear hA hB
  go_enter Tryz.func143,Tryz.ntmps143
  go_wp2_with fail
  obtain ⟨W0,hW0⟩:∃W0,W0=w.alloc (.cells #[.int .i64 a,.int .i64 b,.int .i64 c,.int .i64 d,.slice A es.length cap] 101):=⟨_,rfl⟩
  obtain ⟨W,hW⟩:∃W,W=W0.alloc (.cells #[.slice Ab l.length cb] 61):=⟨_,rfl⟩
  have hz0:W0.heap.size=w.heap.size+1:=by rw [hW0];simp
  have hz:w.heap.size+1 < W.heap.size:=by rw [hW];simp [hz0]
  have HBel:=hd' (show Below w.heap.size w W by rw [hW,hW0];exact ((Below.refl _ _).alloc (Nat.le_refl _) _).alloc (by simp) _)
  have hp:W.cell? ⟨w.heap.size+1,0,none⟩=some (.slice Ab l.length cb):=by rw [hW,←hz0];simp
  have HP:=hd' hp
  rw [←hW0,←hW]
  clear hW hW0 hz0 hp
  refine (those_notNamedO a b c d A es cap (w.heap.size+1) Ab l cb W ((HA.out.below HBel.out).mono (by omega)) hn HP.out ((HB.out.keep fun p _ hp=>HBel.out.cell hp).mono (by omega))).mono ?_
  rintro r w1 ⟨A',c',rfl,hev,hb⟩
  have HE:=hd' hev
  have HB1:=hd' (HBel.out.trans (hb.mono (by omega)))
  clear hev hb
  go_wp2_with fail
  go_ret
  exact ⟨A',c',rfl,ownsRow_lowE HE.out (by omega),HB1.out⟩
end Go.Proofs.YtckajeippfpojaaGreat
