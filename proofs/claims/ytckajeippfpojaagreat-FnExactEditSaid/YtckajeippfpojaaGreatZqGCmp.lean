import Derived.Test.YtckajeippfpojaaGreatZqGVec
import Derived.Test.YtckajeippfpojaaGreatZqGB
import Derived.Test.YtckajeippfpojaaGreatZqTokI
import Derived.Test.YtckajeippfpojaaGreatZqNameS
import Derived.Outline
import Derived.Test.YtckajeippfpojaaGreatZqRdTr
namespace Go.Proofs.YtckajeippfpojaaGreat
open Go.RowKit Go.Maps
set_option maxRecDepth 100000
theorem compare_less:∀a b:List UInt8,Lib.compareBytes a b=if a=b then 0 else if Op.bytesLess a b then -1 else 1
  | [],[]=>by simp [Lib.compareBytes]
  | [],_ :: _=>by simp [Lib.compareBytes,Op.bytesLess]
  | _ :: _,[]=>by simp [Lib.compareBytes,Op.bytesLess]
  | x :: a,y :: b=>by
    rw [Lib.compareBytes,compare_less a b,Op.bytesLess]
    by_cases h1:x=y
    · subst h1
      have hlt:¬ x < x:=UInt8.lt_irrefl x
      simp [hlt]
    · by_cases h2:x < y
      · simp [h1,h2]
      · have h3:y < x:=UInt8.lt_of_le_of_ne (UInt8.not_lt.1 h2) (Ne.symm h1)
        simp [h1,h2,h3]
def enV (A:Option Addr) (c:Nat) (e:En):Value:=.agg #[.slice A e.name.length c,.int .i64 e.val,.int .i64 e.dev,.int .i64 e.num]
set_option maxHeartbeats 2000000 in
theorem l3cmp_any (A A2:Option Addr) (c c2:Nat) (e f:En) (w:World) (hA:BytesIn w 0 w.heap.size A e.name) (hA2:BytesIn w 0 w.heap.size A2 f.name) :
    Calls Tryz.prog 135 #[enV A c e,enV A2 c2 f] w fun r w'=>r=.returned (.int .i64 (plaV e f))∧Below w.heap.size w w':=by
  obtain ⟨n1,v1,d1,m1⟩:=e
  obtain ⟨n2,v2,d2,m2⟩:=f
  simp only at hA hA2
  have HA:=hd' hA
  have HA2:=hd' hA2
  have HP:=hd' (show plaV ⟨n1,v1,d1,m1⟩ ⟨n2,v2,d2,m2⟩=or3 (Lib.compareBytes n1 n2) (cmpI m2 m1) (cmpI d1 d2) from rfl)
  clear hA hA2
  unfold enV
  simp only
  go_enter Tryz.func135,Tryz.ntmps135
  go_wp2_with fail
  obtain ⟨W0,hW0⟩:∃W0,W0=w.alloc (.cells #[.slice A n1.length c,.int .i64 v1,.int .i64 d1,.int .i64 m1] 180):=⟨_,rfl⟩
  obtain ⟨W,hW⟩:∃W,W=W0.alloc (.cells #[.slice A2 n2.length c2,.int .i64 v2,.int .i64 d2,.int .i64 m2] 180):=⟨_,rfl⟩
  have hz0:W0.heap.size=w.heap.size+1:=by rw [hW0];simp
  have hz:W.heap.size=w.heap.size+2:=by rw [hW];simp [hz0]
  have hX:Bx W w.heap.size [.slice A n1.length c,.int .i64 v1,.int .i64 d1,.int .i64 m1]:=by rw [hW];exact Bx.alloc (by rw [hW0];exact Bx.new' _ _ _ _ rfl) (by omega) _
  have hY:Bx W (w.heap.size+1) [.slice A2 n2.length c2,.int .i64 v2,.int .i64 d2,.int .i64 m2]:=by rw [hW,←hz0];exact Bx.new' _ _ _ _ rfl
  have HBel:=hd' (show Below w.heap.size w W by rw [hW,hW0];exact ((Below.refl _ _).alloc (Nat.le_refl _) _).alloc (by simp) _)
  rw [←hW0,←hW]
  have hzW:w.heap.size+1 < W.heap.size:=by omega
  clear hW hW0 hz0 hz
  obtain ⟨x0,x1,x2,x3⟩:=hX.four
  obtain ⟨y0,y1,y2,y3⟩:=hY.four
  have g0:=fun x:Kp W=>x.cell x0
  have g1:=fun x:Kp W=>x.cell y0
  have k1:=fun x:Kp W=>run_str (w:=x.val) (((HA.out.keep fun p _ hp=>(HBel.out.trans (x.ok.mono (by omega))).cell hp)):BytesIn x.val 0 w.heap.size A n1) c
  have k2:=fun x:Kp W=>run_str (w:=x.val) (((HA2.out.keep fun p _ hp=>(HBel.out.trans (x.ok.mono (by omega))).cell hp)):BytesIn x.val 0 w.heap.size A2 n2) c2
  have HX:=hd' hX
  have HY:=hd' hY
  clear hX hY x0 x1 x2 x3 y0 y1 y2 y3
  refine wp_region_kept (by kernel_rfl) (by kernel_rfl) ?_
  repeat (go_big_quiet_step (fail))
  refine wpQuiet_nil ?_
  rintro _ ⟨x,rfl⟩
  clear k1 k2 g0 g1
  obtain ⟨W1,hW1⟩:∃W1,W1=x.val:=⟨_,rfl⟩
  have hb1:Below W.heap.size W W1:=by rw [hW1];exact x.ok
  rw [←hW1]
  clear hW1 x
  have HB1:=hd' (HBel.out.trans (hb1.mono (by omega)))
  obtain ⟨x0,x1,x2,x3⟩:=(HX.out.below hb1 (by omega)).four
  obtain ⟨y0,y1,y2,y3⟩:=(HY.out.below hb1 (by omega)).four
  clear hb1 x0 x1 y0 y1
  go_wp2_with fail
  all_goals
    go_ret
    refine ⟨ret_int (Eq.trans ?_ HP.out.symm),HB1.out⟩
    rw [or3,compare_less,cmpI,cmpI]
    clear HP HX HY HB1 HA HA2 HBel x2 x3 y2 y3
    have e1:¬ ((1:Int) != 0)=false:=by decide
    have e2:¬ ((-1:Int) != 0)=false:=by decide
    simp_all
    try (repeat (split <;> (try omega)))
end Go.Proofs.YtckajeippfpojaaGreat
namespace Go.Proofs.YtckajeippfpojaaGreat
open Go.RowKit Go.Maps
set_option maxRecDepth 100000
def hasDeed (es:List En) (d m:Int):Bool:=es.any fun e=>e.dev == d && e.num == m
def dotV (es:List En) (d m:Int):Int:=match es.findIdx? (fun e=>e.dev == d && e.num == m) with|some i=>(i:Int)|none=>-1
theorem dotV_has (es:List En) (d m:Int):decide (0≤dotV es d m)=hasDeed es d m:=by
  unfold dotV hasDeed
  cases h:es.findIdx? (fun e=>e.dev == d && e.num == m) with
  | none =>
    rw [List.findIdx?_eq_none_iff] at h
    have:es.any (fun e=>e.dev == d && e.num == m)=false:=by
      rw [List.any_eq_false]
      intro x hx
      rw [h x hx]
      simp
    rw [this]
    simp
  | some i =>
    rw [List.findIdx?_eq_some_iff_getElem] at h
    obtain ⟨hi,hp,_⟩:=h
    have:es.any (fun e=>e.dev == d && e.num == m)=true:=List.any_eq_true.2 ⟨es[i],List.getElem_mem hi,hp⟩
    rw [this]
    simp
theorem dotV_at {es:List En} {d m:Int} {k:Nat} (hk:k < es.length) (h:(es[k].dev == d && es[k].num == m)=true) (hb:∀j (hj:j < es.length),j < k→(es[j].dev == d && es[j].num == m)=false):dotV es d m=k:=by
  unfold dotV
  rw [List.findIdx?_eq_some_iff_getElem.2 ⟨hk,h,fun j hj=>by rw [hb j (by omega) hj];simp⟩]
theorem dotV_none {es:List En} {d m:Int} (hb:∀j (hj:j < es.length),(es[j].dev == d && es[j].num == m)=false):dotV es d m = -1:=by
  unfold dotV
  rw [List.findIdx?_eq_none_iff.2]
  intro x hx
  obtain ⟨j,hj,rfl⟩:=List.getElem_of_mem hx
  exact hb j hj
theorem inB_hasDeed (es:List En) (e:En):inB (es.map deedOf) (deedOf e)=hasDeed es e.dev e.num:=by
  unfold inB hasDeed
  rw [Bool.eq_iff_iff]
  simp [deedOf]
set_option maxHeartbeats 2000000 in
theorem l3dot_any (A B:Option Addr) (c cb:Nat) (es:List En) (e:En) (w:World) (hA:EnsIn w 0 w.heap.size A es) (hn:es.length≤1048576) :
    Calls Tryz.prog 134 #[.slice A es.length c,enV B cb e] w fun r w'=>r=.returned (.int .i64 (dotV es e.dev e.num))∧Below w.heap.size w w':=by
  have HA:=hd' hA
  clear hA
  obtain ⟨n1,v1,d1,m1⟩:=e
  unfold enV
  simp only
  go_enter Tryz.func134,Tryz.ntmps134
  go_wp2_with fail
  obtain ⟨W,hW⟩:∃W,W=w.alloc (.cells #[.slice B n1.length cb,.int .i64 v1,.int .i64 d1,.int .i64 m1] 180):=⟨_,rfl⟩
  have HX:=hd' (show Bx W w.heap.size [.slice B n1.length cb,.int .i64 v1,.int .i64 d1,.int .i64 m1] by rw [hW];exact Bx.new' _ _ _ _ rfl)
  have HBel:=hd' (show Below w.heap.size w W by rw [hW];exact (Below.refl _ _).alloc (Nat.le_refl _) _)
  have hzW:w.heap.size < W.heap.size:=by rw [hW];simp
  rw [←hW]
  clear hW
  go_loopw [5] (fun i wr=>∃k n:Nat,k≤es.length∧i=.int .i64 k∧wr=W.drewN n∧∀j (hj:j < es.length),j < k→(es[j].dev == d1 && es[j].num == m1)=false) (fun i _=>es.length - (intOf i).toNat)
  case atStart=>exact ⟨0,0,Nat.zero_le _,rfl,rfl,fun j _ hj=>absurd hj (by omega)⟩
  case round =>
    obtain ⟨k,n,hk,rfl,rfl,hall⟩:=hrel
    have HAll:=hd' hall
    clear hall
    by_cases hlt:k < es.length
    · obtain ⟨bA,oA,rfl,_,hbA,hcA⟩:=HA.out (by omega)
      obtain ⟨An,cn,_,_,c2,c3,_⟩:=(hcA k hlt).keep (Nat.zero_le _) hbA (fun p _ hp=>HBel.out.cell hp)
      obtain ⟨f,hf⟩:∃f,f=es[k]:=⟨_,rfl⟩
      rw [←hf] at c2 c3
      have HF:=hd' hf
      have x2:=HX.out 2 (by simp)
      have x3:=HX.out 3 (by simp)
      simp only [List.getElem_cons_succ,List.getElem_cons_zero] at x2 x3
      obtain ⟨n2,v2,d2,m2⟩:=f
      simp only at c2 c3
      have hlt':(k:Int) < (es.length:Int):=by omega
      clear hcA hf
      cases hd:(d2 == d1) with
      | true =>
        cases hm:(m2 == m1) with
        | true =>
          have HT:=hd' (show dotV es d1 m1=k from dotV_at hlt (by rw [←HF.out];show (d2 == d1 && m2 == m1)=true;rw [hd,hm];rfl) HAll.out)
          go_wp2_with fail
          go_quiet (fail)
          go_wp2_with fail
          go_ret
          exact ⟨ret_int (a:=(k:Int)) HT.out.symm,below_drewN (below_drewN HBel.out _) _⟩
        | false =>
          have HN:=hd' (show (es[k].dev == d1 && es[k].num == m1)=false by rw [←HF.out];show (d2 == d1 && m2 == m1)=false;rw [hm];simp)
          go_wp2_with fail
          go_quiet (fail)
          go_wp2_with fail
          go_roundw
          case rel =>
            refine ⟨k+1,n+nq,by omega,by go_num,by simp [World.drewN],fun j hj hjk=>?_⟩
            by_cases ej:j=k
            · subst ej;exact HN.out
            · exact HAll.out j hj (by omega)
          case measure=>simp [intOf];omega
      | false =>
        have HN:=hd' (show (es[k].dev == d1 && es[k].num == m1)=false by rw [←HF.out];show (d2 == d1 && m2 == m1)=false;rw [hd];simp)
        go_wp2_with fail
        go_quiet (fail)
        go_wp2_with fail
        go_roundw
        case rel =>
          refine ⟨k+1,n+nq,by omega,by go_num,by simp [World.drewN],fun j hj hjk=>?_⟩
          by_cases ej:j=k
          · subst ej;exact HN.out
          · exact HAll.out j hj (by omega)
        case measure=>simp [intOf];omega
    · have HT:=hd' (show dotV es d1 m1 = -1 from dotV_none fun j hj=>HAll.out j hj (by omega))
      go_wp2_with fail
      go_ret
      exact ⟨ret_int (a:=-1) HT.out.symm,below_drewN HBel.out _⟩
end Go.Proofs.YtckajeippfpojaaGreat
namespace Go.Proofs.YtckajeippfpojaaGreat
open Go.RowKit Go.Maps
set_option maxRecDepth 100000
def mB (a b c d:Int) (es:List En) (i:Nat):Bool:=nameB (es.getD i default).name && goodB a b c d es i
theorem treeB_mB {a b c d:Int} {es:List En} {i:Nat} (hi:i < es.length) (h:mB a b c d es i=false):treeB [a,b,c,d] es=false:=by
  unfold mB at h
  rw [Bool.and_eq_false_iff] at h
  rcases h with h|h
  · refine treeB_name hi ?_
    simpa [hi] using h
  · unfold treeB
    rw [show tokB ([a,b,c,d].getD 0 0) ([a,b,c,d].getD 1 0) ([a,b,c,d].getD 2 0) ([a,b,c,d].getD 3 0) es=tokB a b c d es from rfl,tokB_bad hi h]
    simp
theorem treeB_ok {a b c d:Int} {es:List En} (hv:vecB [a,b,c,d]=true) (hl:es.length≤12) (h:∀i,i < es.length→mB a b c d es i=true):treeB [a,b,c,d] es=true:=by
  have hg:∀i,i < es.length→goodB a b c d es i=true:=fun i hi=>by
    have:=h i hi
    unfold mB at this
    rw [Bool.and_eq_true] at this
    exact this.2
  have hn:es.all (fun e=>nameB e.name)=true:=by
    rw [List.all_eq_true]
    intro x hx
    obtain ⟨j,hj,rfl⟩:=List.getElem_of_mem hx
    have:=h j hj
    unfold mB at this
    rw [Bool.and_eq_true] at this
    simpa [hj] using this.1
  unfold treeB
  rw [show tokB ([a,b,c,d].getD 0 0) ([a,b,c,d].getD 1 0) ([a,b,c,d].getD 2 0) ([a,b,c,d].getD 3 0) es=tokB a b c d es from rfl,tokB_all hv hl hg,hv,hn,decide_eq_true hl]
  rfl
theorem ens_take {w:World} {L B:Nat} {A:Option Addr} {es:List En} (h:EnsIn w L B A es) (k:Nat):EnsIn w L B A (es.take k):=fun hl=>by
  have hl':0 < es.length:=by simp at hl;omega
  obtain ⟨b,o,e,hL,hb,hc⟩:=h hl'
  refine ⟨b,o,e,hL,hb,fun i hi=>?_⟩
  have hi':i < es.length:=by simp at hi;omega
  rw [List.getElem_take]
  exact hc i hi'
set_option maxHeartbeats 16000000 in
theorem specTreeOk_any (AV:Option Addr) (vec:List Int) (cv:Nat) (A:Option Addr) (es:List En) (c:Nat) (w:World) (hV:IntsIn w 0 w.heap.size AV vec) (hA:EnsIn w 0 w.heap.size A es) (hv:vec.length≤1048576) (hn:es.length≤1048576) (hbk:ebulk es≤1048576) (hc:es.length≤c:=by omega) :
    Calls Tryz.prog 75 #[.agg #[.slice AV vec.length cv,.slice A es.length c]] w fun e w'=>e=.returned (.bool (treeB vec es))∧Below w.heap.size w w':=by
  have HV:=hd' hV
  have HA:=hd' hA
  have HVk:=hd' (fun W hW=>l3vecOk_any AV vec cv W hW (by omega))
  have HTr:=hd' (show treeB vec es=(vecB vec && decide (es.length≤12) && es.all (fun e=>nameB e.name) && tokB (vec.getD 0 0) (vec.getD 1 0) (vec.getD 2 0) (vec.getD 3 0) es) from rfl)
  clear hV hA
  go_enter Tryz.func75,Tryz.ntmps75
  go_wp2_with fail
  obtain ⟨W,hW⟩:∃W,W=w.alloc (.cells #[.slice AV vec.length cv,.slice A es.length c] 38):=⟨_,rfl⟩
  have HX:=hd' (show Bx W w.heap.size [.slice AV vec.length cv,.slice A es.length c] by rw [hW];exact Bx.new' _ _ _ _ rfl)
  have HBel:=hd' (show Below w.heap.size w W by rw [hW];exact (Below.refl _ _).alloc (Nat.le_refl _) _)
  have hzW:w.heap.size < W.heap.size:=by rw [hW];simp
  rw [←hW]
  clear hW
  refine (HVk.out W ((HV.out.keep fun p _ hp=>HBel.out.cell hp).mono (by omega))).mono ?_
  rintro e w1 ⟨rfl,rfl⟩
  cases hvb:vecB vec with
  | false =>
    have HT:=hd' (show treeB vec es=false by rw [HTr.out,hvb];rfl)
    clear hvb
    go_wp2_with fail
    go_ret
    exact ⟨ret_bool (a:=false) HT.out.symm,HBel.out⟩
  | true =>
  have HVec:=hd' hvb
  obtain ⟨a,b,cc,d,rfl⟩:=vecB_four hvb
  have x1:=HX.out 1 (by simp)
  simp only [List.getElem_cons_succ,List.getElem_cons_zero] at x1
  by_cases h12:(12:Int) < es.length
  · have HT:=hd' (show treeB [a,b,cc,d] es=false by rw [HTr.out,decide_eq_false (show ¬ es.length≤12 by omega)];simp)
    go_wp2_with fail
    go_ret
    exact ⟨ret_bool (a:=false) HT.out.symm,HBel.out⟩
  have hle:es.length≤12:=by omega
  clear HTr HVk hv hvb
  go_wp2_with fail
  clear x1
  go_loopw [3] (fun i wr=>∃k:Nat,k≤es.length∧i=.int .i64 k∧(∀j,j < k→mB a b cc d es j=true)∧Below W.heap.size W wr∧W.heap.size≤wr.heap.size) (fun i _=>es.length - (intOf i).toNat)
  case atStart=>exact ⟨0,Nat.zero_le _,rfl,fun j hj=>absurd hj (by omega),Below.refl _ _,Nat.le_refl _⟩
  case round =>
    obtain ⟨k,hk,rfl,hall,hbel,hzr⟩:=hrel
    have HAll:=hd' hall
    have HBr:=hd' hbel
    have x1:=(hbel.cell (p:=⟨w.heap.size,1,none⟩) hzW).trans (HX.out 1 (by simp))
    simp only [List.getElem_cons_succ,List.getElem_cons_zero] at x1
    clear hall hbel
    by_cases hlt:k < es.length
    · obtain ⟨bA,oA,hAe,_,hbA,hcA⟩:=HA.out (by omega)
      have HCs:=hd' (show ∀j (hj:j < es.length),EnIn wr 0 w.heap.size bA (oA+j*4) es[j] from fun j hj=>(hcA j hj).keep (Nat.zero_le _) hbA fun p _ hp=>(HBr.out.cell (by omega)).trans (HBel.out.cell hp))
      obtain ⟨e,he⟩:∃e,e=es[k]:=⟨_,rfl⟩
      obtain ⟨pv,hpv⟩:∃pv,pv=es.getD (k - 1) default:=⟨_,rfl⟩
      have HGood:=hd' (show mB a b cc d es k=(nameB e.name && (fitB a b cc d e && !inB ((es.take k).map deedOf) (deedOf e) && (decide (k=0) || decide (plaV pv e < 0)))) by
        unfold mB goodB
        have:es.getD k default=e:=by rw [he];simp [hlt]
        rw [this,hpv])
      obtain ⟨An,cn,c0,c1,c2,c3,hby⟩:=HCs.out k hlt
      have hnl:=name_le_ebulk es k hlt
      rw [←he] at c0 c1 c2 c3 hby hnl
      have HE:=hd' he
      have HPv:=hd' hpv
      have HBy:=hd' hby
      subst hAe
      clear hcA he hpv hby
      obtain ⟨n1,v1,d1,m1⟩:=e
      simp only at c0 c1 c2 c3 hnl
      have hlt':(k:Int) < (es.length:Int):=by omega
      have lq:w.heap.size < wr.heap.size:=by omega
      have lA:bA < wr.heap.size:=by omega
      go_wp2_with fail
      obtain ⟨W4,hW4⟩:∃W4,W4=wr.alloc (.cells #[.slice An n1.length cn,.int .i64 v1,.int .i64 d1,.int .i64 m1] 180):=⟨_,rfl⟩
      have HY:=hd' (show Bx W4 wr.heap.size [.slice An n1.length cn,.int .i64 v1,.int .i64 d1,.int .i64 m1] by rw [hW4];exact Bx.new' _ _ _ _ rfl)
      have HB4:=hd' (show Below wr.heap.size wr W4 by rw [hW4];exact (Below.refl _ _).alloc (Nat.le_refl _) _)
      have hz4:wr.heap.size < W4.heap.size:=by rw [hW4];simp
      rw [←hW4]
      clear hW4 c0 c1 c2 c3 x1 lq
      have HOld:=hd' (show Below w.heap.size w W4 from (HBel.out.trans (HBr.out.mono (by omega))).trans (HB4.out.mono (by omega)))
      have HBr4:=hd' (show Below W.heap.size W W4 from HBr.out.trans (HB4.out.mono hzr))
      have y:=HY.out
      have g0:=fun x:Kp W4=>x.cell (HY.out 0 (by simp))
      have g1:=fun x:Kp W4=>x.cell (HY.out 1 (by simp))
      have g2:=fun x:Kp W4=>x.cell (HY.out 2 (by simp))
      have g3:=fun x:Kp W4=>x.cell (HY.out 3 (by simp))
      have g4:=fun x:Kp W4=>x.cell ((HBr4.out.cell (p:=⟨w.heap.size,0,none⟩) hzW).trans (HX.out 0 (by simp)))
      have g5:=fun x:Kp W4=>x.cell ((HBr4.out.cell (p:=⟨w.heap.size,1,none⟩) hzW).trans (HX.out 1 (by simp)))
      simp only [List.getElem_cons_succ,List.getElem_cons_zero] at g0 g1 g2 g3 g4 g5
      clear y
      have hnm:=fun x:Kp W4=>specNameOk_any An n1 cn x.val ((HBy.out.keep fun p _ hp=>(x.ok.cell (by omega)).trans (HB4.out.cell (by omega))).mono (by have:=x.ok.size;omega)) (by omega)
      have htk:(es.take k).length=k:=by simp;omega
      have hdt:=fun x:Kp W4=>l3dot_any (some ⟨bA,oA,none⟩) An c cn (es.take k) ⟨n1,v1,d1,m1⟩ x.val (((ens_take HA.out k).keep fun p _ hp=>(x.ok.cell (by omega)).trans (HOld.out.cell hp)).mono (by have:=x.ok.size;omega)) (by omega)
      rw [htk] at hdt
      obtain ⟨dt,hdv⟩:∃dt,dt=dotV (es.take k) d1 m1:=⟨_,rfl⟩
      have HIn:=hd' (show inB ((es.take k).map deedOf) (deedOf ⟨n1,v1,d1,m1⟩)=decide (0≤dt) by rw [inB_hasDeed,hdv,dotV_has])
      unfold enV at hdt
      simp only at hdt
      rw [←hdv] at hdt
      have HDt:=hd' hdt
      clear hdt hdv htk
      obtain ⟨nb,hnb⟩:∃nb,nb=nameB n1:=⟨_,rfl⟩
      have HG2:=hd' (show mB a b cc d es k=(nb && ((decide (0≤v1) && decide (v1≤999) && (decide (0≤d1) && decide (d1 < 4)) && decide (1≤m1) && knowB a b cc d d1 m1) && !decide (0≤dt) && (decide (k=0) || decide (plaV pv ⟨n1,v1,d1,m1⟩ < 0)))) by
        rw [HGood.out,HIn.out,hnb]
        rfl)
      rw [←hnb] at hnm
      have HNm:=hd' hnm
      clear hnm hnb HGood HIn
      cases nb with
      | false =>
        have HT:=hd' (show treeB [a,b,cc,d] es=false from treeB_mB hlt (by rw [HG2.out];rfl))
        refine wp_region_kept (by kernel_rfl) (by kernel_rfl) ?_
        repeat (go_big_quiet_step ((first|(go_at_call 133;exact kept_of (v:=.bool _) (HNm.out _))|(go_at_call 134;exact kept_of (v:=.int .i64 dt) (HDt.out _)))))
        refine wpQuiet_nil ?_
        rintro _ ⟨x,rfl⟩
        obtain ⟨w7,hw7⟩:∃w7,w7=x.val:=⟨_,rfl⟩
        have HB7:=hd' (show Below W4.heap.size W4 w7 by rw [hw7];exact x.ok)
        rw [←hw7]
        clear hw7 x g0 g1 g2 g3 g4 g5
        go_wp2_with fail
        go_ret
        exact ⟨ret_bool (a:=false) HT.out.symm,HOld.out.trans (HB7.out.mono (by omega))⟩
      | true =>
      by_cases q1:v1 < 0
      · skip
        have HT:=hd' (show treeB [a,b,cc,d] es=false from treeB_mB hlt (by rw [HG2.out];simp [show ¬ 0≤v1 by omega]))
        refine wp_region_kept (by kernel_rfl) (by kernel_rfl) ?_
        repeat (go_big_quiet_step ((first|(go_at_call 133;exact kept_of (v:=.bool _) (HNm.out _))|(go_at_call 134;exact kept_of (v:=.int .i64 dt) (HDt.out _)))))
        refine wpQuiet_nil ?_
        rintro _ ⟨x,rfl⟩
        obtain ⟨w7,hw7⟩:∃w7,w7=x.val:=⟨_,rfl⟩
        have HB7:=hd' (show Below W4.heap.size W4 w7 by rw [hw7];exact x.ok)
        rw [←hw7]
        clear hw7 x g0 g1 g2 g3 g4 g5
        go_wp2_with fail
        go_ret
        exact ⟨ret_bool (a:=false) HT.out.symm,HOld.out.trans (HB7.out.mono (by omega))⟩
      have q1n:0≤v1:=by omega
      by_cases q2:(999:Int) < v1
      · skip
        have HT:=hd' (show treeB [a,b,cc,d] es=false from treeB_mB hlt (by rw [HG2.out];simp [show ¬ v1≤999 by omega]))
        refine wp_region_kept (by kernel_rfl) (by kernel_rfl) ?_
        repeat (go_big_quiet_step ((first|(go_at_call 133;exact kept_of (v:=.bool _) (HNm.out _))|(go_at_call 134;exact kept_of (v:=.int .i64 dt) (HDt.out _)))))
        refine wpQuiet_nil ?_
        rintro _ ⟨x,rfl⟩
        obtain ⟨w7,hw7⟩:∃w7,w7=x.val:=⟨_,rfl⟩
        have HB7:=hd' (show Below W4.heap.size W4 w7 by rw [hw7];exact x.ok)
        rw [←hw7]
        clear hw7 x g0 g1 g2 g3 g4 g5
        go_wp2_with fail
        go_ret
        exact ⟨ret_bool (a:=false) HT.out.symm,HOld.out.trans (HB7.out.mono (by omega))⟩
      have q2n:v1≤999:=by omega
      by_cases q3:d1 < 0
      · skip
        have HT:=hd' (show treeB [a,b,cc,d] es=false from treeB_mB hlt (by rw [HG2.out];simp [show ¬ 0≤d1 by omega]))
        refine wp_region_kept (by kernel_rfl) (by kernel_rfl) ?_
        repeat (go_big_quiet_step ((first|(go_at_call 133;exact kept_of (v:=.bool _) (HNm.out _))|(go_at_call 134;exact kept_of (v:=.int .i64 dt) (HDt.out _)))))
        refine wpQuiet_nil ?_
        rintro _ ⟨x,rfl⟩
        obtain ⟨w7,hw7⟩:∃w7,w7=x.val:=⟨_,rfl⟩
        have HB7:=hd' (show Below W4.heap.size W4 w7 by rw [hw7];exact x.ok)
        rw [←hw7]
        clear hw7 x g0 g1 g2 g3 g4 g5
        go_wp2_with fail
        go_ret
        exact ⟨ret_bool (a:=false) HT.out.symm,HOld.out.trans (HB7.out.mono (by omega))⟩
      have q3n:0≤d1:=by omega
      by_cases q4:(4:Int)≤d1
      · skip
        have HT:=hd' (show treeB [a,b,cc,d] es=false from treeB_mB hlt (by rw [HG2.out];simp [show ¬ d1 < 4 by omega]))
        refine wp_region_kept (by kernel_rfl) (by kernel_rfl) ?_
        repeat (go_big_quiet_step ((first|(go_at_call 133;exact kept_of (v:=.bool _) (HNm.out _))|(go_at_call 134;exact kept_of (v:=.int .i64 dt) (HDt.out _)))))
        refine wpQuiet_nil ?_
        rintro _ ⟨x,rfl⟩
        obtain ⟨w7,hw7⟩:∃w7,w7=x.val:=⟨_,rfl⟩
        have HB7:=hd' (show Below W4.heap.size W4 w7 by rw [hw7];exact x.ok)
        rw [←hw7]
        clear hw7 x g0 g1 g2 g3 g4 g5
        go_wp2_with fail
        go_ret
        exact ⟨ret_bool (a:=false) HT.out.symm,HOld.out.trans (HB7.out.mono (by omega))⟩
      have q4n:d1 < 4:=by omega
      by_cases q5:m1 < 1
      · skip
        have HT:=hd' (show treeB [a,b,cc,d] es=false from treeB_mB hlt (by rw [HG2.out];simp [show ¬ 1≤m1 by omega]))
        refine wp_region_kept (by kernel_rfl) (by kernel_rfl) ?_
        repeat (go_big_quiet_step ((first|(go_at_call 133;exact kept_of (v:=.bool _) (HNm.out _))|(go_at_call 134;exact kept_of (v:=.int .i64 dt) (HDt.out _)))))
        refine wpQuiet_nil ?_
        rintro _ ⟨x,rfl⟩
        obtain ⟨w7,hw7⟩:∃w7,w7=x.val:=⟨_,rfl⟩
        have HB7:=hd' (show Below W4.heap.size W4 w7 by rw [hw7];exact x.ok)
        rw [←hw7]
        clear hw7 x g0 g1 g2 g3 g4 g5
        go_wp2_with fail
        go_ret
        exact ⟨ret_bool (a:=false) HT.out.symm,HOld.out.trans (HB7.out.mono (by omega))⟩
      have q5n:1≤m1:=by omega
      obtain ⟨dn,rfl⟩:∃dn:Nat,d1=dn:=⟨d1.toNat,by omega⟩
      have hd4:dn < 4:=by omega
      obtain ⟨bV,oV,hVe,_,hbV,hcV⟩:=HV.out (by simp)
      subst hVe
      have g6:=fun x:Kp W4=>x.cell ((HOld.out.cell (p:=⟨bV,oV+dn,none⟩) hbV).trans (hcV dn hd4))
      obtain ⟨nv,hnv⟩:∃nv,nv=nth4 a b cc d dn:=⟨_,rfl⟩
      have hnv':([a,b,cc,d]:List Int)[dn]'hd4=nv:=by
        rw [hnv]
        have:dn=0∨dn=1∨dn=2∨dn=3:=by omega
        rcases this with rfl|rfl|rfl|rfl <;> rfl
      rw [hnv'] at g6
      rw [show knowB a b cc d (dn:Int) m1=decide (m1≤nv) by unfold knowB;simp [hnv]] at HG2
      clear hnv hnv' hcV
      by_cases q6:nv < (m1:Int)
      · skip
        have HT:=hd' (show treeB [a,b,cc,d] es=false from treeB_mB hlt (by rw [HG2.out];simp [show ¬ m1≤nv by omega]))
        refine wp_region_kept (by kernel_rfl) (by kernel_rfl) ?_
        repeat (go_big_quiet_step ((first|(go_at_call 133;exact kept_of (v:=.bool _) (HNm.out _))|(go_at_call 134;exact kept_of (v:=.int .i64 dt) (HDt.out _)))))
        refine wpQuiet_nil ?_
        rintro _ ⟨x,rfl⟩
        obtain ⟨w7,hw7⟩:∃w7,w7=x.val:=⟨_,rfl⟩
        have HB7:=hd' (show Below W4.heap.size W4 w7 by rw [hw7];exact x.ok)
        rw [←hw7]
        clear hw7 x g0 g1 g2 g3 g4 g5
        go_wp2_with fail
        go_ret
        exact ⟨ret_bool (a:=false) HT.out.symm,HOld.out.trans (HB7.out.mono (by omega))⟩
      have q6n:m1≤nv:=by omega
      have hkc:k≤c:=by omega
      have hkc':(k:Int)≤(c:Int):=by omega
      by_cases q7:(0:Int)≤dt
      · skip
        have HT:=hd' (show treeB [a,b,cc,d] es=false from treeB_mB hlt (by rw [HG2.out];simp [q7]))
        refine wp_region_kept (by kernel_rfl) (by kernel_rfl) ?_
        repeat (go_big_quiet_step ((first|(go_at_call 133;exact kept_of (v:=.bool _) (HNm.out _))|(go_at_call 134;exact kept_of (v:=.int .i64 dt) (HDt.out _)))))
        refine wpQuiet_nil ?_
        rintro _ ⟨x,rfl⟩
        obtain ⟨w7,hw7⟩:∃w7,w7=x.val:=⟨_,rfl⟩
        have HB7:=hd' (show Below W4.heap.size W4 w7 by rw [hw7];exact x.ok)
        rw [←hw7]
        clear hw7 x g0 g1 g2 g3 g4 g5
        go_wp2_with fail
        go_ret
        exact ⟨ret_bool (a:=false) HT.out.symm,HOld.out.trans (HB7.out.mono (by omega))⟩
      have q7n:dt < 0:=by omega
      by_cases hk0:k=0
      · skip
        subst hk0
        have hkd:decide (0 < 0)=false:=rfl
        have HM:=hd' (show mB a b cc d es 0=true by rw [HG2.out];simp [q1n,q2n,q4n,q5n,q6n,q7n])
        refine wp_region_kept (by kernel_rfl) (by kernel_rfl) ?_
        repeat (go_big_quiet_step ((first|(go_at_call 133;exact kept_of (v:=.bool _) (HNm.out _))|(go_at_call 134;exact kept_of (v:=.int .i64 dt) (HDt.out _)))))
        refine wpQuiet_nil ?_
        rintro _ ⟨x,rfl⟩
        obtain ⟨w7,hw7⟩:∃w7,w7=x.val:=⟨_,rfl⟩
        have HB7:=hd' (show Below W4.heap.size W4 w7 by rw [hw7];exact x.ok)
        rw [←hw7]
        clear hw7 x g0 g1 g2 g3 g4 g5
        have hz7:=HB7.out.size
        go_wp2_with fail
        go_roundw
        case rel =>
          refine ⟨0+1,by omega,by go_num,fun j hj=>?_,HBr4.out.trans (HB7.out.mono (by omega)),by omega⟩
          by_cases ej:j=0
          · rw [ej];exact HM.out
          · exact HAll.out j (by omega)
        case measure=>simp [intOf];omega
      obtain ⟨k',rfl⟩:∃k',k=k'+1:=⟨k - 1,by omega⟩
      have hpe:pv=es[k']:=by rw [HPv.out];simp [show k' < es.length by omega]
      obtain ⟨A2,c2,b0,b1,b2,b3,hby2⟩:=HCs.out k' (by omega)
      have hnl2:=name_le_ebulk es k' (by omega)
      rw [←hpe] at b0 b1 b2 b3 hby2 hnl2
      have HBy2:=hd' hby2
      obtain ⟨n2,v2,d2,m2⟩:=pv
      simp only at b0 b1 b2 b3 hnl2
      have j0:=fun x:Kp W4=>x.cell ((HB4.out.cell (p:=⟨bA,oA+k'*4,none⟩) lA).trans b0)
      have j1:=fun x:Kp W4=>x.cell ((HB4.out.cell (p:=⟨bA,oA+k'*4+1,none⟩) lA).trans b1)
      have j2:=fun x:Kp W4=>x.cell ((HB4.out.cell (p:=⟨bA,oA+k'*4+2,none⟩) lA).trans b2)
      have j3:=fun x:Kp W4=>x.cell ((HB4.out.cell (p:=⟨bA,oA+k'*4+3,none⟩) lA).trans b3)
      have hcm:=fun x:Kp W4=>l3cmp_any A2 An c2 cn ⟨n2,v2,d2,m2⟩ ⟨n1,v1,dn,m1⟩ x.val ((HBy2.out.keep fun p _ hp=>(x.ok.cell (by omega)).trans (HB4.out.cell (by omega))).mono (by have:=x.ok.size;omega)) ((HBy.out.keep fun p _ hp=>(x.ok.cell (by omega)).trans (HB4.out.cell (by omega))).mono (by have:=x.ok.size;omega))
      obtain ⟨pl,hpl⟩:∃pl,pl=plaV ⟨n2,v2,d2,m2⟩ ⟨n1,v1,dn,m1⟩:=⟨_,rfl⟩
      unfold enV at hcm
      simp only at hcm
      rw [←hpl] at hcm HG2
      have HCm:=hd' hcm
      have hk1:(0:Int) < (k':Int)+1:=by omega
      have hk2:(k':Int) < (es.length:Int):=by omega
      have hk3:(k':Int)≤1000:=by omega
      clear hcm hpl hpe hby2 b0 b1 b2 b3 hk0
      by_cases q8:(0:Int)≤pl
      · skip
        have HT:=hd' (show treeB [a,b,cc,d] es=false from treeB_mB hlt (by rw [HG2.out];simp [show ¬ pl < 0 by omega]))
        refine wp_region_kept (by kernel_rfl) (by kernel_rfl) ?_
        repeat (go_big_quiet_step ((first|(go_at_call 133;exact kept_of (v:=.bool _) (HNm.out _))|(go_at_call 134;exact kept_of (v:=.int .i64 dt) (HDt.out _))|(go_at_call 135;exact kept_of (v:=.int .i64 pl) (HCm.out _)))))
        refine wpQuiet_nil ?_
        rintro _ ⟨x,rfl⟩
        obtain ⟨w7,hw7⟩:∃w7,w7=x.val:=⟨_,rfl⟩
        have HB7:=hd' (show Below W4.heap.size W4 w7 by rw [hw7];exact x.ok)
        rw [←hw7]
        clear hw7 x g0 g1 g2 g3 g4 g5
        go_wp2_with fail
        go_ret
        exact ⟨ret_bool (a:=false) HT.out.symm,HOld.out.trans (HB7.out.mono (by omega))⟩
      · have q8n:pl < 0:=by omega
        have HM:=hd' (show mB a b cc d es (k'+1)=true by rw [HG2.out];simp [q1n,q2n,q4n,q5n,q6n,q7n,q8n])
        refine wp_region_kept (by kernel_rfl) (by kernel_rfl) ?_
        repeat (go_big_quiet_step ((first|(go_at_call 133;exact kept_of (v:=.bool _) (HNm.out _))|(go_at_call 134;exact kept_of (v:=.int .i64 dt) (HDt.out _))|(go_at_call 135;exact kept_of (v:=.int .i64 pl) (HCm.out _)))))
        refine wpQuiet_nil ?_
        rintro _ ⟨x,rfl⟩
        obtain ⟨w7,hw7⟩:∃w7,w7=x.val:=⟨_,rfl⟩
        have HB7:=hd' (show Below W4.heap.size W4 w7 by rw [hw7];exact x.ok)
        rw [←hw7]
        clear hw7 x g0 g1 g2 g3 g4 g5
        have hz7:=HB7.out.size
        go_wp2_with fail
        go_roundw
        case rel =>
          refine ⟨(k'+1)+1,by omega,by go_num,fun j hj=>?_,HBr4.out.trans (HB7.out.mono (by omega)),by omega⟩
          by_cases ej:j=(k'+1)
          · rw [ej];exact HM.out
          · exact HAll.out j (by omega)
        case measure=>simp [intOf];omega
    · have HT:=hd' (show treeB [a,b,cc,d] es=true from treeB_ok HVec.out hle fun i hi=>HAll.out i (by omega))
      go_wp2_with fail
      go_ret
      exact ⟨ret_bool (a:=true) HT.out.symm,HBel.out.trans (HBr.out.mono (by omega))⟩
    end Go.Proofs.YtckajeippfpojaaGreat
namespace Go.Proofs.YtckajeippfpojaaGreat
open Go.RowKit Go.Maps
set_option maxRecDepth 100000
def saidB (au sq pv:Int) (n:Nat):Bool:=decide (0≤au) && decide (au < 4) && decide (1≤sq) && decide (sq≤100) && (if sq=1 then decide (pv=0) else decide (1≤pv) && decide (pv≤400)) && decide (n≤8)
def manB (au sq pv:Int) (vec:List Int) (es:List En) (sg:Int):Bool:=treeB vec es && saidB au sq pv es.length && decide (0≤sg) && decide (sg < 400)
theorem manB_tree {au sq pv:Int} {vec:List Int} {es:List En} {sg:Int} (h:manB au sq pv vec es sg=true):treeB vec es=true:=by
  unfold manB at h
  simp only [Bool.and_eq_true] at h
  exact h.1.1.1
theorem manB_said {au sq pv:Int} {vec:List Int} {es:List En} {sg:Int} (h:manB au sq pv vec es sg=true):0≤au∧au < 4∧1≤sq∧sq≤100∧0≤pv∧pv≤400∧es.length≤8∧0≤sg∧sg < 400:=by
  unfold manB saidB at h
  simp only [Bool.and_eq_true,decide_eq_true_eq] at h
  obtain ⟨⟨⟨_,⟨⟨⟨⟨h1,h2⟩,h3⟩,h4⟩,h5⟩,h6⟩,h7⟩,h8⟩:=h
  by_cases e:sq=1
  · rw [if_pos e] at h5
    simp only [decide_eq_true_eq] at h5
    omega
  · rw [if_neg e] at h5
    simp only [Bool.and_eq_true,decide_eq_true_eq] at h5
    omega
set_option maxHeartbeats 8000000 in
theorem specManifestOk_any (au sq pv:Int) (AV:Option Addr) (vec:List Int) (cv:Nat) (A:Option Addr) (es:List En) (c:Nat) (sg:Int) (w:World) (hV:IntsIn w 0 w.heap.size AV vec) (hA:EnsIn w 0 w.heap.size A es) (hv:vec.length≤1048576) (hn:es.length≤1048576) (hbk:ebulk es≤1048576) (hc:es.length≤c:=by omega) :
    Calls Tryz.prog 55 #[.agg #[.int .i64 au,.int .i64 sq,.int .i64 pv,.slice AV vec.length cv,.slice A es.length c,.int .i64 sg]] w fun e w'=>e=.returned (.bool (manB au sq pv vec es sg))∧Below w.heap.size w w':=by
  have HV:=hd' hV
  have HA:=hd' hA
  have HM:=hd' (show manB au sq pv vec es sg=(treeB vec es && (decide (0≤au) && decide (au < 4) && decide (1≤sq) && decide (sq≤100) && (if sq=1 then decide (pv=0) else decide (1≤pv) && decide (pv≤400)) && decide (es.length≤8)) && decide (0≤sg) && decide (sg < 400)) from rfl)
  clear hV hA
  obtain ⟨mb,hmb⟩:∃mb,mb=manB au sq pv vec es sg:=⟨_,rfl⟩
  rw [←hmb] at HM ⊢
  clear hmb
  obtain ⟨tb,htb⟩:∃tb,tb=treeB vec es:=⟨_,rfl⟩
  have HTb:=hd' htb
  rw [←htb] at HM
  clear htb
  by_cases q1:au < 0
  · skip
    have q1m:¬ (0≤au):=by omega
    have HF:=hd' (show mb=false by rw [HM.out];simp [show ¬ 0≤au by omega])
    go_enter Tryz.func55,Tryz.ntmps55
    go_wp2_with fail
    go_ret
    exact ⟨ret_bool (a:=false) HF.out.symm,(Below.refl _ _).alloc (Nat.le_refl _) _⟩
  have q1n:0≤au:=by omega
  clear q1
  by_cases q2:(4:Int)≤au
  · skip
    have q2m:¬ (au < 4):=by omega
    have HF:=hd' (show mb=false by rw [HM.out];simp [show ¬ au < 4 by omega])
    go_enter Tryz.func55,Tryz.ntmps55
    go_wp2_with fail
    go_ret
    exact ⟨ret_bool (a:=false) HF.out.symm,(Below.refl _ _).alloc (Nat.le_refl _) _⟩
  have q2n:au < 4:=by omega
  clear q2
  by_cases q3:sq < 1
  · skip
    have q3m:¬ (1≤sq):=by omega
    have HF:=hd' (show mb=false by rw [HM.out];simp [show ¬ 1≤sq by omega])
    go_enter Tryz.func55,Tryz.ntmps55
    go_wp2_with fail
    go_ret
    exact ⟨ret_bool (a:=false) HF.out.symm,(Below.refl _ _).alloc (Nat.le_refl _) _⟩
  have q3n:1≤sq:=by omega
  clear q3
  by_cases q4:(100:Int) < sq
  · skip
    have q4m:¬ (sq≤100):=by omega
    have HF:=hd' (show mb=false by rw [HM.out];simp [show ¬ sq≤100 by omega])
    go_enter Tryz.func55,Tryz.ntmps55
    go_wp2_with fail
    go_ret
    exact ⟨ret_bool (a:=false) HF.out.symm,(Below.refl _ _).alloc (Nat.le_refl _) _⟩
  have q4n:sq≤100:=by omega
  clear q4
  by_cases q5:pv < 0
  · skip
    have q5m:¬ (0≤pv):=by omega
    have HF:=hd' (show mb=false by rw [HM.out];simp [show ¬ pv=0 by omega,show ¬ 1≤pv by omega])
    go_enter Tryz.func55,Tryz.ntmps55
    go_wp2_with fail
    go_ret
    exact ⟨ret_bool (a:=false) HF.out.symm,(Below.refl _ _).alloc (Nat.le_refl _) _⟩
  have q5n:0≤pv:=by omega
  clear q5
  by_cases q6:(400:Int) < pv
  · skip
    have q6m:¬ (pv≤400):=by omega
    have HF:=hd' (show mb=false by rw [HM.out];simp [show ¬ pv=0 by omega,show ¬ pv≤400 by omega])
    go_enter Tryz.func55,Tryz.ntmps55
    go_wp2_with fail
    go_ret
    exact ⟨ret_bool (a:=false) HF.out.symm,(Below.refl _ _).alloc (Nat.le_refl _) _⟩
  have q6n:pv≤400:=by omega
  clear q6
  go_enter Tryz.func55,Tryz.ntmps55
  go_wp2_with fail
  obtain ⟨W,hW⟩:∃W,W=w.alloc (.cells #[.int .i64 au,.int .i64 sq,.int .i64 pv,.slice AV vec.length cv,.slice A es.length c,.int .i64 sg] 40):=⟨_,rfl⟩
  have HX:=hd' (show Bx W w.heap.size [.int .i64 au,.int .i64 sq,.int .i64 pv,.slice AV vec.length cv,.slice A es.length c,.int .i64 sg] by rw [hW];exact Bx.new' _ _ _ _ rfl)
  have HBel:=hd' (show Below w.heap.size w W by rw [hW];exact (Below.refl _ _).alloc (Nat.le_refl _) _)
  have hzW:w.heap.size < W.heap.size:=by rw [hW];simp
  rw [←hW]
  clear hW
  refine (specTreeOk_any AV vec cv A es c W ((HV.out.keep fun p _ hp=>HBel.out.cell hp).mono (by omega)) ((HA.out.below HBel.out).mono (by omega)) hv hn hbk hc).mono ?_
  rw [←HTb.out]
  rintro e w1 ⟨rfl,hb1⟩
  have HB1:=hd' (HBel.out.trans (hb1.mono (by omega)))
  have hz1:=hb1.size
  have x1:=(HX.out.below hb1 hzW) 1 (by simp)
  have x2:=(HX.out.below hb1 hzW) 2 (by simp)
  have x4:=(HX.out.below hb1 hzW) 4 (by simp)
  have x5:=(HX.out.below hb1 hzW) 5 (by simp)
  simp only [List.getElem_cons_succ,List.getElem_cons_zero] at x1 x2 x4 x5
  have lw:w.heap.size < w1.heap.size:=by omega
  clear hb1
  cases tb with
  | false =>
    have HF:=hd' (show mb=false by rw [HM.out];rfl)
    go_wp2_with fail
    go_ret
    exact ⟨ret_bool (a:=false) HF.out.symm,HB1.out⟩
  | true =>
  by_cases q7:(8:Int) < (es.length:Int)
  · skip
    have q7m:¬ ((es.length:Int)≤8):=by omega
    have HF:=hd' (show mb=false by rw [HM.out];simp [show ¬ es.length≤8 by omega])
    go_wp2_with fail
    go_ret
    exact ⟨ret_bool (a:=false) HF.out.symm,HB1.out⟩
  have q7n:(es.length:Int)≤8:=by omega
  clear q7
  by_cases q8:sg < 0
  · skip
    have q8m:¬ (0≤sg):=by omega
    have HF:=hd' (show mb=false by rw [HM.out];simp [show ¬ 0≤sg by omega])
    go_wp2_with fail
    go_ret
    exact ⟨ret_bool (a:=false) HF.out.symm,HB1.out⟩
  have q8n:0≤sg:=by omega
  clear q8
  by_cases q9:(400:Int)≤sg
  · skip
    have q9m:¬ (sg < 400):=by omega
    have HF:=hd' (show mb=false by rw [HM.out];simp [show ¬ sg < 400 by omega])
    go_wp2_with fail
    go_ret
    exact ⟨ret_bool (a:=false) HF.out.symm,HB1.out⟩
  have q9n:sg < 400:=by omega
  clear q9
  have q7k:es.length≤8:=by omega
  by_cases s1:sq=1
  · skip
    have s1b:(sq == 1)=true:=by simp [s1]
    by_cases s2:pv=0
    · skip
      have s2b:(pv == 0)=true:=by simp [s2]
      have HF:=hd' (show mb=true by rw [HM.out];simp [s1,s2,q1n,q2n,q7k,q8n,q9n])
      go_wp2_with fail
      go_ret
      exact ⟨ret_bool (a:=true) HF.out.symm,HB1.out⟩
    · skip
      have s2b:(pv == 0)=false:=by simp [s2]
      have HF:=hd' (show mb=false by rw [HM.out];simp [s1,s2])
      go_wp2_with fail
      go_ret
      exact ⟨ret_bool (a:=false) HF.out.symm,HB1.out⟩
  · skip
    have s1b:(sq == 1)=false:=by simp [s1]
    by_cases s2:pv=0
    · skip
      have s2b:(pv == 0)=true:=by simp [s2]
      have HF:=hd' (show mb=false by rw [HM.out];simp [s1,s2])
      go_wp2_with fail
      go_ret
      exact ⟨ret_bool (a:=false) HF.out.symm,HB1.out⟩
    · skip
      have s2b:(pv == 0)=false:=by simp [s2]
      have s2c:1≤pv:=by omega
      have HF:=hd' (show mb=true by rw [HM.out];simp [s1,s2c,q1n,q2n,q3n,q4n,q6n,q7k,q8n,q9n])
      go_wp2_with fail
      go_ret
      exact ⟨ret_bool (a:=true) HF.out.symm,HB1.out⟩
end Go.Proofs.YtckajeippfpojaaGreat
