import Derived.Test.YtckajeippfpojaaGreatZqLok
import Derived.Test.YtckajeippfpojaaGreatRows
import Derived.WalkKit
import Derived.Test.YtckajeippfpojaaGreatZqGA
import Derived.DeepKeys5
import Derived.Maps.OwnSet
namespace Go.Proofs.YtckajeippfpojaaGreat
open Go.RowKit
set_option maxRecDepth 100000
def Good (ts:List Tm) (i:Nat):Prop :=
  ∃h:i < ts.length,okB i ts[i]=true∧keyedB ts ts[i]=true∧∀k (hk:k < i),ts[k]≠ts[i]
def LOk (ts:List Tm):Prop:=ts.length≤400∧∀i,i < ts.length→Good ts i
open Classical in
noncomputable def lokB (ts:List Tm):Bool:=decide (LOk ts)
theorem lokB_true {ts:List Tm} (h:LOk ts):lokB ts=true:=by unfold lokB;simpa using h
theorem lokB_false {ts:List Tm} (h:¬ LOk ts):lokB ts=false:=by unfold lokB;simpa using h
theorem lok_of {ts:List Tm} (h:lokB ts=true):LOk ts:=by unfold lokB at h;simpa using h
set_option maxHeartbeats 1000000 in
theorem specLedgerOk_any (A:Option Addr) (ts:List Tm) (c L B:Nat) (w:World) (hA:TmsIn w L B A ts) (hB:B≤w.heap.size) (hn:ts.length≤1048576) (hbk:bulk ts≤1048576) :
    Calls Tryz.prog 54 #[.agg #[.slice A ts.length c]] w fun e w'=>e=.returned (.bool (lokB ts))∧Below w.heap.size w w':=by
  go_enter Tryz.func54,Tryz.ntmps54
  go_wp2_with fail
  obtain ⟨W0,hW0⟩:∃W0,W0=w.alloc (.cells #[.slice A ts.length c] 35):=⟨_,rfl⟩
  have hbox:W0.cell? ⟨w.heap.size,0,none⟩=some (.slice A ts.length c):=by subst hW0;simp
  have hbelow:Below w.heap.size w W0:=by subst hW0;exact (Below.refl _ _).alloc (Nat.le_refl _) _
  have hsz:W0.heap.size=w.heap.size+1:=by subst hW0;simp
  rw [←hW0]
  clear hW0
  have hA0:TmsIn W0 L B A ts:=hA.keep fun p _ hp=>hbelow.cell (by omega)
  have HBel:=hd' hbelow
  clear hA hbelow
  go_loopw [3,4] (fun i _ wr=>∃k:Nat,k≤ts.length∧i=.int .i64 k∧(∀j,j < k→Good ts j)∧Below W0.heap.size W0 wr) (fun i _ _=>ts.length - (intOf i).toNat)
  case atStart=>exact ⟨0,Nat.zero_le _,rfl,fun j h=>absurd h (by omega),Below.refl _ _⟩
  case round =>
    obtain ⟨wo,rfl⟩:∃wo:World,wo=wr:=⟨_,rfl⟩
    obtain ⟨k,hk,rfl,hgood,hbel⟩:=hrel
    have HG:=hd' hgood
    have HB:=hd' hbel
    have hx0:=(hbel.cell (p:=⟨w.heap.size,0,none⟩) (by show w.heap.size < _;omega)).trans hbox
    clear hgood
    by_cases hlt:k < ts.length
    · obtain ⟨b,o,rfl,hL,hb,hc⟩:=hA0 (by omega)
      obtain ⟨A1,c1,x0,x1,x2,x3,_,_,hby⟩:=(hc k hlt).keep hL hb (fun p _ hp=>hbel.cell (by omega))
      have kb:∀x:Kp wo,x.val.cell? ⟨w.heap.size,0,none⟩=some (.slice (some ⟨b,o,none⟩) ts.length c):=fun x=>x.cell hx0
      have k0:∀x:Kp wo,x.val.cell? ⟨b,o+k*4,none⟩=some (.int .i64 ts[k].kind):=fun x=>x.cell x0
      have k1:∀x:Kp wo,x.val.cell? ⟨b,o+k*4+1,none⟩=some (.int .i64 ts[k].a):=fun x=>x.cell x1
      have k2:∀x:Kp wo,x.val.cell? ⟨b,o+k*4+2,none⟩=some (.int .i64 ts[k].b):=fun x=>x.cell x2
      have k3:∀x:Kp wo,x.val.cell? ⟨b,o+k*4+3,none⟩=some (.slice A1 ts[k].text.length c1):=fun x=>x.cell x3
      have hle:=text_le_bulk ts k hlt
      have HC:=hd' hc
      have HY:=hd' hby
      clear hc hby hbel
      go_wp2
      cases hok:okB k ts[k] with
      | false =>
        have H1:=hd' hok
        clear hok
        refine wp_region_kept (by kernel_rfl) (by kernel_rfl) ?_
        repeat (go_big_quiet_step ((go_at_call 105;refine kept_of (v:=.bool false) ((l1ok_any k ts[k] A1 c1 _ (by omega)).mono ?_);rintro e w' ⟨rfl,hb'⟩;exact ⟨by rw [H1.out],hb'⟩)))
        refine wpQuiet_nil ?_
        rintro _ ⟨x,rfl⟩
        have HX:=hd' x.ok
        have hno:¬ LOk ts:=fun h=>by
          obtain ⟨_,h1,_⟩:=h.2 k hlt
          rw [H1.out] at h1
          cases h1
        have HF:=hd' (lokB_false hno)
        clear hno
        go_wp2
        go_ret
        exact ⟨ret_bool HF.out.symm,HBel.out.trans (((HB.out.mono (Nat.le_of_lt (by omega))).trans (HX.out.mono (by have:=HB.out.size;omega))))⟩
      | true =>
        have H1:=hd' hok
        have hak:(ts[k].kind=5∨ts[k].kind=6)→0≤ts[k].a∧ts[k].a < ts.length:=fun h=>by
          have h2:=H1.out
          unfold okB at h2
          rcases h with h|h <;> (simp [h] at h2;omega)
        clear hok
        have hts:∀x:Kp wo,TmsIn x.val L B (some ⟨b,o,none⟩) ts:=fun x=>hA0.keep fun p _ hp=>(x.ok.cell (by have:=HB.out.size;omega)).trans (HB.out.cell (by omega))
        have hBx:∀x:Kp wo,B≤x.val.heap.size:=fun x=>by have:=HB.out.size;have:=x.ok.size;omega
        have HT:=hd' hts
        have HK:=hd' hak
        have HBX:=hd' hBx
        clear hts hak hBx
        cases hkey:keyedB ts ts[k] with
        | false =>
          have H2:=hd' hkey
          clear hkey
          refine wp_region_kept (by kernel_rfl) (by kernel_rfl) ?_
          repeat (go_big_quiet_step (first|((go_at_call 105;refine kept_of (v:=.bool true) ((l1ok_any k ts[k] A1 c1 _ (by omega)).mono ?_);rintro e w' ⟨rfl,hb'⟩;exact ⟨by rw [H1.out],hb'⟩))|((go_at_call 106;refine kept_of (v:=.bool false) ((l1keyed_any ts ts[k] _ _ _ _ L B _ (HT.out _) (HBX.out _) HK.out hn).mono ?_);rintro e w' ⟨rfl,hb'⟩;exact ⟨by rw [H2.out],hb'⟩))))
          refine wpQuiet_nil ?_
          rintro _ ⟨x,rfl⟩
          have HX:=hd' x.ok
          have hno:¬ LOk ts:=fun h=>by
            obtain ⟨_,_,h2,_⟩:=h.2 k hlt
            rw [H2.out] at h2
            cases h2
          have HF:=hd' (lokB_false hno)
          clear hno
          go_wp2
          go_ret
          exact ⟨ret_bool HF.out.symm,HBel.out.trans (((HB.out.mono (Nat.le_of_lt (by omega))).trans (HX.out.mono (by have:=HB.out.size;omega))))⟩
        | true =>
          have H2:=hd' hkey
          clear hkey
          refine wp_region_kept (by kernel_rfl) (by kernel_rfl) ?_
          repeat (go_big_quiet_step (first|((go_at_call 105;refine kept_of (v:=.bool true) ((l1ok_any k ts[k] A1 c1 _ (by omega)).mono ?_);rintro e w' ⟨rfl,hb'⟩;exact ⟨by rw [H1.out],hb'⟩))|((go_at_call 106;refine kept_of (v:=.bool true) ((l1keyed_any ts ts[k] _ _ _ _ L B _ (HT.out _) (HBX.out _) HK.out hn).mono ?_);rintro e w' ⟨rfl,hb'⟩;exact ⟨by rw [H2.out],hb'⟩))))
          refine wpQuiet_nil ?_
          rintro _ ⟨x,rfl⟩
          have HX:=hd' x.ok
          obtain ⟨W1,hW1⟩:∃W1,W1=x.val:=⟨_,rfl⟩
          have hB1:Below W0.heap.size W0 W1:=by subst hW1;exact HB.out.trans (HX.out.mono HB.out.size)
          rw [←hW1]
          clear hW1 HX HT HK HBX kb k0 k1 k2 k3 x0 x1 x2 x3 hx0
          have HB1:=hd' hB1
          clear hB1
          go_wp2
          go_loopw [4] (fun m wi=>∃j:Nat,j≤k∧m=.int .i64 j∧(∀i (hi:i < j),j≤k→ts[i]?≠ts[k]?)∧Below W1.heap.size W1 wi) (fun m _=>k - (intOf m).toNat)
          case atStart=>exact ⟨0,Nat.zero_le _,rfl,fun i h _=>absurd h (by omega),Below.refl _ _⟩
          case round =>
            obtain ⟨j,hj,rfl,hne,hbi⟩:=hrel
            have HN:=hd' hne
            have HBI:=hd' hbi
            have hb2:Below W0.heap.size W0 wr:=HB1.out.trans (hbi.mono HB1.out.size)
            have hx0:=(hb2.cell (p:=⟨w.heap.size,0,none⟩) (by show w.heap.size < _;omega)).trans hbox
            by_cases hjk:j < k
            · obtain ⟨A1,c1,x0,x1,x2,x3,_,_,hby⟩:=(HC.out k hlt).keep hL hb (fun p _ hp=>hb2.cell (by omega))
              obtain ⟨A2,c2,y0,y1,y2,y3,_,_,hby'⟩:=(HC.out j (by omega)).keep hL hb (fun p _ hp=>hb2.cell (by omega))
              have kb:∀x:Kp wr,x.val.cell? ⟨w.heap.size,0,none⟩=some (.slice (some ⟨b,o,none⟩) ts.length c):=fun x=>x.cell hx0
              have k0:∀x:Kp wr,x.val.cell? ⟨b,o+k*4,none⟩=some (.int .i64 ts[k].kind):=fun x=>x.cell x0
              have k1:∀x:Kp wr,x.val.cell? ⟨b,o+k*4+1,none⟩=some (.int .i64 ts[k].a):=fun x=>x.cell x1
              have k2:∀x:Kp wr,x.val.cell? ⟨b,o+k*4+2,none⟩=some (.int .i64 ts[k].b):=fun x=>x.cell x2
              have k3:∀x:Kp wr,x.val.cell? ⟨b,o+k*4+3,none⟩=some (.slice A1 ts[k].text.length c1):=fun x=>x.cell x3
              have l0:∀x:Kp wr,x.val.cell? ⟨b,o+j*4,none⟩=some (.int .i64 ts[j].kind):=fun x=>x.cell y0
              have l1:∀x:Kp wr,x.val.cell? ⟨b,o+j*4+1,none⟩=some (.int .i64 ts[j].a):=fun x=>x.cell y1
              have l2:∀x:Kp wr,x.val.cell? ⟨b,o+j*4+2,none⟩=some (.int .i64 ts[j].b):=fun x=>x.cell y2
              have l3:∀x:Kp wr,x.val.cell? ⟨b,o+j*4+3,none⟩=some (.slice A2 ts[j].text.length c2):=fun x=>x.cell y3
              have hjl:j < ts.length:=by omega
              have hB2:∀x:Kp wr,B≤x.val.heap.size∧BytesIn x.val L B A2 ts[j].text∧BytesIn x.val L B A1 ts[k].text:=fun x=>⟨by have:=hb2.size;have:=x.ok.size;omega,hby'.keep fun p _ hp=>x.ok.cell (by have:=hb2.size;omega),hby.keep fun p _ hp=>x.ok.cell (by have:=hb2.size;omega)⟩
              have HB2:=hd' hB2
              clear hby hby' hB2 hb2 hbi hne
              go_wp2
              by_cases heq:ts[j]=ts[k]
              · have hd:decide (ts[j]=ts[k])=true:=by simpa using heq
                have HD:=hd' hd
                have hno:¬ LOk ts:=fun h=>by
                  obtain ⟨_,_,_,h3⟩:=h.2 k hlt
                  exact h3 j hjk heq
                have HF:=hd' (lokB_false hno)
                clear hno heq hd
                refine wp_region_kept (by kernel_rfl) (by kernel_rfl) ?_
                repeat (go_big_quiet_step ((go_at_call 107;refine kept_of (v:=.bool true) ((l1same_any ts[j] ts[k] A2 A1 c2 c1 L L B B _ (HB2.out _).2.1 (HB2.out _).2.2 (HB2.out _).1 (HB2.out _).1).mono ?_);rintro e w' ⟨rfl,hb'⟩;exact ⟨by rw [HD.out],hb'⟩)))
                refine wpQuiet_nil ?_
                rintro _ ⟨x,rfl⟩
                have HX:=hd' x.ok
                go_wp2
                go_ret
                exact ⟨ret_bool HF.out.symm,HBel.out.trans ((HB1.out.mono (by omega)).trans ((HBI.out.mono (by have:=HB1.out.size;omega)).trans (HX.out.mono (by have:=HB1.out.size;have:=HBI.out.size;omega))))⟩
              · have hd:decide (ts[j]=ts[k])=false:=by simpa using heq
                have HD:=hd' hd
                have HE:=hd' heq
                clear heq hd
                refine wp_region_kept (by kernel_rfl) (by kernel_rfl) ?_
                repeat (go_big_quiet_step ((go_at_call 107;refine kept_of (v:=.bool false) ((l1same_any ts[j] ts[k] A2 A1 c2 c1 L L B B _ (HB2.out _).2.1 (HB2.out _).2.2 (HB2.out _).1 (HB2.out _).1).mono ?_);rintro e w' ⟨rfl,hb'⟩;exact ⟨by rw [HD.out],hb'⟩)))
                refine wpQuiet_nil ?_
                rintro _ ⟨x,rfl⟩
                have HX:=hd' x.ok
                go_wp2
                go_roundw
                case rel =>
                  refine ⟨j+1,by omega,by go_num,fun i hi _=>?_,HBI.out.trans (HX.out.mono HBI.out.size)⟩
                  by_cases e:i=j
                  · subst e
                    rw [List.getElem?_eq_getElem hjl,List.getElem?_eq_getElem hlt]
                    intro h
                    exact HE.out (Option.some.inj h)
                  · exact HN.out i (by omega) hj
                case measure=>simp [intOf];omega
            · clear hbi hne
              go_wp2
              go_roundw
              case rel =>
                refine ⟨k+1,by omega,by go_num,fun i hi=>?_,HB1.out.trans (HBI.out.mono HB1.out.size)⟩
                by_cases e:i=k
                · subst e
                  refine ⟨hlt,H1.out,H2.out,fun i hi e=>?_⟩
                  exact HN.out i (by omega) hj (by rw [List.getElem?_eq_getElem (by omega),List.getElem?_eq_getElem hlt,e])
                · exact HG.out i (by omega)
              case measure=>simp [intOf];omega
    · have hend:decide ((ts.length:Int)≤400)=lokB ts:=by
        have hg:∀i,i < ts.length→Good ts i:=fun i hi=>HG.out i (by omega)
        by_cases h4:ts.length≤400
        · rw [lokB_true ⟨h4,hg⟩];simp;omega
        · rw [lokB_false (fun h=>h4 h.1)];simp;omega
      have HE:=hd' hend
      clear hend hbel
      go_wp2
      go_ret
      exact ⟨ret_bool HE.out,HBel.out.trans (HB.out.mono (by omega))⟩
end Go.Proofs.YtckajeippfpojaaGreat
namespace Go.Proofs.YtckajeippfpojaaGreat
open Go.RowKit
set_option maxRecDepth 100000
def fieldsB (t:Tm):Bool :=
  if t.kind=0∨t.kind=1 then decide (0≤t.a) && decide (t.a≤999) && (t.b == 0) && ((t.text.length:Int) == 0)
  else if t.kind=2 then (t.a == 0) && (t.b == 0) && decide (t.text.length≤300)
  else if t.kind=4 then (t.b == 0) && ((t.text.length:Int) == 0)
  else if t.kind=3∨t.kind=5∨t.kind=6 then ((t.text.length:Int) == 0)
  else false
set_option maxHeartbeats 4000000 in
theorem fieldsOk_any (t:Tm) (A:Option Addr) (c:Nat) (w:World) (hn:t.text.length≤1048576) :
    Calls Tryz.prog 204 #[.agg #[.int .i64 t.kind,.int .i64 t.a,.int .i64 t.b,.slice A t.text.length c]] w fun e w'=>e=.returned (.bool (fieldsB t))∧Below w.heap.size w w':=by
  obtain ⟨k,a,b,l⟩:=t
  simp only at *
  go_enter Tryz.func204,Tryz.ntmps204
  go_wp2
  all_goals go_ret
  all_goals refine ⟨ret_bool ?_,(Below.refl _ _).alloc (Nat.le_refl _) _⟩
  all_goals first|(simp_all [fieldsB];done)|(simp_all [fieldsB];omega)
def tv (t:Tm):Value :=
  if t.kind=0 then .iface 263 (.agg #[.int .i64 t.a])
  else if t.kind=1 then .iface 264 (.agg #[.int .i64 t.a])
  else if t.kind=2 then .iface 266 (.agg #[.string ⟨t.text.toArray⟩])
  else if t.kind=3 then .iface 268 (.agg #[.int .i64 t.a,.int .i64 t.b])
  else if t.kind=4 then .iface 270 (.agg #[.int .i64 t.a])
  else if t.kind=5 then .iface 272 (.agg #[.int .i64 t.a,.int .i64 t.b])
  else .iface 273 (.agg #[.int .i64 t.a,.int .i64 t.b])
theorem ret_val {a b:Value} (h:a=b):Ending.returned a=Ending.returned b:=by rw [h]
set_option maxHeartbeats 1000000 in
theorem readTerm_any (t:Tm) (A:Option Addr) (c L B:Nat) (w:World) (hA:BytesIn w L B A t.text) (hB:B≤w.heap.size) :
    Calls Tryz.prog 205 #[.agg #[.int .i64 t.kind,.int .i64 t.a,.int .i64 t.b,.slice A t.text.length c]] w fun e w'=>e=.returned (tv t)∧Below w.heap.size w w':=by
  obtain ⟨k,a,b,l⟩:=t
  simp only at *
  have s1:∀o1,(convert 61 9 (.slice A l.length c)).run Tryz.prog (w.alloc o1)=.ok (.string ⟨l.toArray⟩) (w.alloc o1):=fun o1 =>
    run_str (hA.keep fun p _ hp=>((Below.refl w.heap.size w).alloc (Nat.le_refl _) o1).cell (by omega)) c
  clear hA
  go_enter Tryz.func205,Tryz.ntmps205
  go_wp2
  all_goals go_ret
  all_goals refine ⟨ret_val ?_,(Below.refl _ _).alloc (Nat.le_refl _) _⟩
  all_goals (simp_all [tv];done)
def tk (t:Tm):Value:=.agg #[.int .i64 t.kind,.int .i64 t.a,.int .i64 t.b,.string ⟨t.text.toArray⟩]
set_option maxHeartbeats 1000000 in
theorem termKeyOf_any (t:Tm) (A:Option Addr) (c L B:Nat) (w:World) (hA:BytesIn w L B A t.text) (hB:B≤w.heap.size) :
    Calls Tryz.prog 179 #[.agg #[.int .i64 t.kind,.int .i64 t.a,.int .i64 t.b,.slice A t.text.length c]] w fun e w'=>e=.returned (.agg #[.int .i64 t.kind,.int .i64 t.a,.int .i64 t.b,.string ⟨t.text.toArray⟩])∧Below w.heap.size w w':=by
  obtain ⟨k,a,b,l⟩:=t
  simp only at *
  have s1:∀o1 o2,(convert 61 9 (.slice A l.length c)).run Tryz.prog ((w.alloc o1).alloc o2)=.ok (.string ⟨l.toArray⟩) ((w.alloc o1).alloc o2):=fun o1 o2 =>
    run_str (hA.keep fun p _ hp=>(((Below.refl w.heap.size w).alloc (Nat.le_refl _) o1).alloc (by simp) o2).cell (by omega)) c
  clear hA
  go_enter Tryz.func179,Tryz.ntmps179
  go_wp2
  refine bodyPost_ret (v:=.agg #[.int .i64 k,.int .i64 a,.int .i64 b,.string ⟨l.toArray⟩]) (by simp [results,Tryz.results179,go_sem]) rfl ⟨rfl,((Below.refl _ _).alloc (Nat.le_refl _) _).alloc (by simp) _⟩
end Go.Proofs.YtckajeippfpojaaGreat
namespace Go.Proofs.YtckajeippfpojaaGreat
open Go.RowKit
set_option maxRecDepth 100000
theorem zero_sealTerm (W:World):(do pure (Value.tuple #[←zeroValue 272,.bool false]):Sem Value).run Tryz.prog W=.ok (.tuple #[.agg #[.int .i64 0,.int .i64 0],.bool false]) W:=by kernel_rfl
@[go_sem] theorem as_sealTerm_yes (W:World) (v:Value) (x:TypeId):(Instr.typeAssert (.iface 272 v) x 272 true).run Tryz.prog W=.ok (.tuple #[v,.bool true]) W:=by kernel_rfl
@[go_sem] theorem as_sealTerm_no (W:World) (u x:TypeId) (v:Value) (h:u≠272):(Instr.typeAssert (.iface u v) x 272 true).run Tryz.prog W=.ok (.tuple #[.agg #[.int .i64 0,.int .i64 0],.bool false]) W:=by
  have e:(Instr.typeAssert (.iface u v) x 272 true).run Tryz.prog W=(if u=272 then (pure (Value.tuple #[v,.bool true]):Sem Value) else (do pure (Value.tuple #[←zeroValue 272,.bool false]))).run Tryz.prog W:=by kernel_rfl
  rw [e,if_neg h]
  exact zero_sealTerm W
theorem zero_signTerm (W:World):(do pure (Value.tuple #[←zeroValue 273,.bool false]):Sem Value).run Tryz.prog W=.ok (.tuple #[.agg #[.int .i64 0,.int .i64 0],.bool false]) W:=by kernel_rfl
@[go_sem] theorem as_signTerm_yes (W:World) (v:Value) (x:TypeId):(Instr.typeAssert (.iface 273 v) x 273 true).run Tryz.prog W=.ok (.tuple #[v,.bool true]) W:=by kernel_rfl
@[go_sem] theorem as_signTerm_no (W:World) (u x:TypeId) (v:Value) (h:u≠273):(Instr.typeAssert (.iface u v) x 273 true).run Tryz.prog W=.ok (.tuple #[.agg #[.int .i64 0,.int .i64 0],.bool false]) W:=by
  have e:(Instr.typeAssert (.iface u v) x 273 true).run Tryz.prog W=(if u=273 then (pure (Value.tuple #[v,.bool true]):Sem Value) else (do pure (Value.tuple #[←zeroValue 273,.bool false]))).run Tryz.prog W:=by kernel_rfl
  rw [e,if_neg h]
  exact zero_signTerm W
theorem zero_keyTerm (W:World):(do pure (Value.tuple #[←zeroValue 264,.bool false]):Sem Value).run Tryz.prog W=.ok (.tuple #[.agg #[.int .i64 0],.bool false]) W:=by kernel_rfl
@[go_sem] theorem as_keyTerm_yes (W:World) (v:Value) (x:TypeId):(Instr.typeAssert (.iface 264 v) x 264 true).run Tryz.prog W=.ok (.tuple #[v,.bool true]) W:=by kernel_rfl
@[go_sem] theorem as_keyTerm_no (W:World) (u x:TypeId) (v:Value) (h:u≠264):(Instr.typeAssert (.iface u v) x 264 true).run Tryz.prog W=.ok (.tuple #[.agg #[.int .i64 0],.bool false]) W:=by
  have e:(Instr.typeAssert (.iface u v) x 264 true).run Tryz.prog W=(if u=264 then (pure (Value.tuple #[v,.bool true]):Sem Value) else (do pure (Value.tuple #[←zeroValue 264,.bool false]))).run Tryz.prog W:=by kernel_rfl
  rw [e,if_neg h]
  exact zero_keyTerm W
theorem zero_nonceTerm (W:World):(do pure (Value.tuple #[←zeroValue 263,.bool false]):Sem Value).run Tryz.prog W=.ok (.tuple #[.agg #[.int .i64 0],.bool false]) W:=by kernel_rfl
@[go_sem] theorem as_nonceTerm_yes (W:World) (v:Value) (x:TypeId):(Instr.typeAssert (.iface 263 v) x 263 true).run Tryz.prog W=.ok (.tuple #[v,.bool true]) W:=by kernel_rfl
@[go_sem] theorem as_nonceTerm_no (W:World) (u x:TypeId) (v:Value) (h:u≠263):(Instr.typeAssert (.iface u v) x 263 true).run Tryz.prog W=.ok (.tuple #[.agg #[.int .i64 0],.bool false]) W:=by
  have e:(Instr.typeAssert (.iface u v) x 263 true).run Tryz.prog W=(if u=263 then (pure (Value.tuple #[v,.bool true]):Sem Value) else (do pure (Value.tuple #[←zeroValue 263,.bool false]))).run Tryz.prog W:=by kernel_rfl
  rw [e,if_neg h]
  exact zero_nonceTerm W
theorem zero_textTerm (W:World):(do pure (Value.tuple #[←zeroValue 266,.bool false]):Sem Value).run Tryz.prog W=.ok (.tuple #[.agg #[.string ⟨#[]⟩],.bool false]) W:=by kernel_rfl
@[go_sem] theorem as_textTerm_yes (W:World) (v:Value) (x:TypeId):(Instr.typeAssert (.iface 266 v) x 266 true).run Tryz.prog W=.ok (.tuple #[v,.bool true]) W:=by kernel_rfl
@[go_sem] theorem as_textTerm_no (W:World) (u x:TypeId) (v:Value) (h:u≠266):(Instr.typeAssert (.iface u v) x 266 true).run Tryz.prog W=.ok (.tuple #[.agg #[.string ⟨#[]⟩],.bool false]) W:=by
  have e:(Instr.typeAssert (.iface u v) x 266 true).run Tryz.prog W=(if u=266 then (pure (Value.tuple #[v,.bool true]):Sem Value) else (do pure (Value.tuple #[←zeroValue 266,.bool false]))).run Tryz.prog W:=by kernel_rfl
  rw [e,if_neg h]
  exact zero_textTerm W
theorem zero_pairTerm (W:World):(do pure (Value.tuple #[←zeroValue 268,.bool false]):Sem Value).run Tryz.prog W=.ok (.tuple #[.agg #[.int .i64 0,.int .i64 0],.bool false]) W:=by kernel_rfl
@[go_sem] theorem as_pairTerm_yes (W:World) (v:Value) (x:TypeId):(Instr.typeAssert (.iface 268 v) x 268 true).run Tryz.prog W=.ok (.tuple #[v,.bool true]) W:=by kernel_rfl
@[go_sem] theorem as_pairTerm_no (W:World) (u x:TypeId) (v:Value) (h:u≠268):(Instr.typeAssert (.iface u v) x 268 true).run Tryz.prog W=.ok (.tuple #[.agg #[.int .i64 0,.int .i64 0],.bool false]) W:=by
  have e:(Instr.typeAssert (.iface u v) x 268 true).run Tryz.prog W=(if u=268 then (pure (Value.tuple #[v,.bool true]):Sem Value) else (do pure (Value.tuple #[←zeroValue 268,.bool false]))).run Tryz.prog W:=by kernel_rfl
  rw [e,if_neg h]
  exact zero_pairTerm W
theorem zero_hashTerm (W:World):(do pure (Value.tuple #[←zeroValue 270,.bool false]):Sem Value).run Tryz.prog W=.ok (.tuple #[.agg #[.int .i64 0],.bool false]) W:=by kernel_rfl
@[go_sem] theorem as_hashTerm_yes (W:World) (v:Value) (x:TypeId):(Instr.typeAssert (.iface 270 v) x 270 true).run Tryz.prog W=.ok (.tuple #[v,.bool true]) W:=by kernel_rfl
@[go_sem] theorem as_hashTerm_no (W:World) (u x:TypeId) (v:Value) (h:u≠270):(Instr.typeAssert (.iface u v) x 270 true).run Tryz.prog W=.ok (.tuple #[.agg #[.int .i64 0],.bool false]) W:=by
  have e:(Instr.typeAssert (.iface u v) x 270 true).run Tryz.prog W=(if u=270 then (pure (Value.tuple #[v,.bool true]):Sem Value) else (do pure (Value.tuple #[←zeroValue 270,.bool false]))).run Tryz.prog W:=by kernel_rfl
  rw [e,if_neg h]
  exact zero_hashTerm W
end Go.Proofs.YtckajeippfpojaaGreat
namespace Go.Proofs.YtckajeippfpojaaGreat
open Go.RowKit
set_option maxRecDepth 100000
def BkIn (w:World) (L B:Nat) (A:Option Addr) (us:List Tm):Prop :=
  0 < us.length→∃b o,A=some ⟨b,o,none⟩∧L≤b∧b < B∧∀i (hi:i < us.length),w.cell? ⟨b,o+i,none⟩=some (tv us[i])
section
variable {w w':World} {L B B':Nat} {A:Option Addr} {us:List Tm}
theorem BkIn.keep (h:BkIn w L B A us) (hk:∀p:Addr,L≤p.block→p.block < B→w'.cell? p=w.cell? p):BkIn w' L B A us:=fun hl=>by
  obtain ⟨b,o,e,hL,hb,hc⟩:=h hl
  exact ⟨b,o,e,hL,hb,fun i hi=>(hk _ hL hb).trans (hc i hi)⟩
theorem BkIn.below (h:BkIn w L B A us) (hb:Below B w w'):BkIn w' L B A us:=h.keep fun _ _ hp=>hb.cell hp
theorem BkIn.low {L':Nat} (h:BkIn w L B A us) (hL':L'≤L):BkIn w L' B A us:=fun hl=>by
  obtain ⟨b,o,e,hL,hb,hc⟩:=h hl
  exact ⟨b,o,e,by omega,hb,hc⟩
theorem BkIn.mono (h:BkIn w L B A us) (hB:B≤B'):BkIn w L B' A us:=fun hl=>by
  obtain ⟨b,o,e,hL,hb,hc⟩:=h hl
  exact ⟨b,o,e,hL,by omega,hc⟩
end
def hasB (n:Nat) (i:Int):Bool:=decide (0≤i) && decide (i < n)
def hasKeyB (us:List Tm) (i:Int):Bool:=hasB us.length i && ((us[i.toNat]?.getD default).kind == 1)
set_option maxHeartbeats 400000 in
theorem has_any (A:Option Addr) (n c:Nat) (m:Option Nat) (i:Int) (w:World) :
    Calls Tryz.prog 216 #[.agg #[.slice A n c,.map m],.int .i64 i] w fun e w'=>e=.returned (.bool (hasB n i))∧Below w.heap.size w w':=by
  go_enter Tryz.func216,Tryz.ntmps216
  go_wp2
  all_goals go_ret
  all_goals refine ⟨ret_bool ?_,(Below.refl _ _).alloc (Nat.le_refl _) _⟩
  all_goals first|(simp_all [hasB];done)|(simp_all [hasB];omega)
theorem tv_key (t:Tm) (h:t.kind=1):tv t=.iface 264 (.agg #[.int .i64 t.a]):=by simp [tv,h]
theorem tv_cases (t:Tm):∃T v,tv t=.iface T v∧(t.kind≠1→T≠264):=by
  unfold tv
  by_cases h0:t.kind=0
  · exact ⟨_,_,if_pos h0,fun _=>by decide⟩
  rw [if_neg h0]
  by_cases h1:t.kind=1
  · exact ⟨_,_,if_pos h1,fun h=>absurd h1 h⟩
  rw [if_neg h1]
  by_cases h2:t.kind=2
  · exact ⟨_,_,if_pos h2,fun _=>by decide⟩
  rw [if_neg h2]
  by_cases h3:t.kind=3
  · exact ⟨_,_,if_pos h3,fun _=>by decide⟩
  rw [if_neg h3]
  by_cases h4:t.kind=4
  · exact ⟨_,_,if_pos h4,fun _=>by decide⟩
  rw [if_neg h4]
  by_cases h5:t.kind=5
  · exact ⟨_,_,if_pos h5,fun _=>by decide⟩
  rw [if_neg h5]
  exact ⟨_,_,rfl,fun _=>by decide⟩
set_option maxHeartbeats 1000000 in
theorem hasKey_any (A:Option Addr) (us:List Tm) (c L B:Nat) (m:Option Nat) (i:Int) (w:World) (hA:BkIn w L B A us) (hB:B≤w.heap.size) (hn:us.length≤1048576) :
    Calls Tryz.prog 217 #[.agg #[.slice A us.length c,.map m],.int .i64 i] w fun e w'=>e=.returned (.bool (hasKeyB us i))∧Below w.heap.size w w':=by
  cases hh:hasB us.length i with
  | false =>
    have HH:=hd' hh
    have HR:=hd' (show hasKeyB us i=false by simp [hasKeyB,hh])
    clear hh
    go_enter Tryz.func217,Tryz.ntmps217
    go_wp2_with fail
    refine (has_any _ _ _ _ _ _).mono ?_
    rintro e w' ⟨rfl,hb⟩
    rw [HH.out]
    have HB:=hd' (((Below.refl _ _).alloc (Nat.le_refl _) _).trans (hb.mono (by simp)))
    clear hb
    go_wp2
    go_ret
    exact ⟨ret_bool HR.out.symm,HB.out⟩
  | true =>
    have hi:0≤i∧i < us.length:=by simpa [hasB] using hh
    obtain ⟨j,rfl⟩:=Int.eq_ofNat_of_zero_le hi.1
    have hj:j < us.length:=by omega
    obtain ⟨b,o,rfl,hL,hb,hc⟩:=hA (by omega)
    have hcell:=hc j hj
    have HH:=hd' hh
    have HR:=hd' (show hasKeyB us j=(us[j].kind == 1) by simp [hasKeyB,hh,hj])
    clear hh hc hA hi
    by_cases hk:us[j].kind=1
    · rw [tv_key _ hk] at hcell
      have HK:=hd' hk
      clear hk
      go_enter Tryz.func217,Tryz.ntmps217
      go_wp2_with fail
      refine (has_any _ _ _ _ _ _).mono ?_
      rintro e w' ⟨rfl,hb'⟩
      rw [HH.out]
      have h1:=(hb'.cell (p:=⟨b,o+j,none⟩) (by simp;omega)).trans ((World.cell?_alloc_lt w (.cells #[.slice (some ⟨b,o,none⟩) us.length c,.map m] 125) ⟨b,o+j,none⟩ (by show b < _;omega)).trans hcell)
      have h2:=(hb'.cell (p:=⟨w.heap.size,0,none⟩) (by simp)).trans (by simp:_=some (Value.slice (some ⟨b,o,none⟩) us.length c))
      have HB:=hd' (((Below.refl _ _).alloc (Nat.le_refl _) _).trans (hb'.mono (by simp)))
      clear hb'
      go_wp2
      go_ret
      exact ⟨ret_bool (by rw [HR.out];simp [HK.out]),HB.out.alloc (by simpa using HB.out.size) _⟩
    · obtain ⟨T,v,htv,hT⟩:=tv_cases us[j]
      rw [htv] at hcell
      have hT':=hT hk
      have HK:=hd' hk
      clear hk hT htv
      go_enter Tryz.func217,Tryz.ntmps217
      go_wp2_with fail
      refine (has_any _ _ _ _ _ _).mono ?_
      rintro e w' ⟨rfl,hb'⟩
      rw [HH.out]
      have h1:=(hb'.cell (p:=⟨b,o+j,none⟩) (by simp;omega)).trans ((World.cell?_alloc_lt w (.cells #[.slice (some ⟨b,o,none⟩) us.length c,.map m] 125) ⟨b,o+j,none⟩ (by show b < _;omega)).trans hcell)
      have h2:=(hb'.cell (p:=⟨w.heap.size,0,none⟩) (by simp)).trans (by simp:_=some (Value.slice (some ⟨b,o,none⟩) us.length c))
      have HB:=hd' (((Below.refl _ _).alloc (Nat.le_refl _) _).trans (hb'.mono (by simp)))
      clear hb'
      go_wp2
      go_ret
      exact ⟨ret_bool (by rw [HR.out];simp [HK.out]),HB.out.alloc (by simpa using HB.out.size) _⟩
end Go.Proofs.YtckajeippfpojaaGreat
namespace Go.Proofs.YtckajeippfpojaaGreat
open Go.RowKit
set_option maxRecDepth 100000
def partsB (us:List Tm) (t:Tm):Bool :=
  if t.kind=0∨t.kind=1∨t.kind=2 then true
  else if t.kind=3 then hasB us.length t.a && hasB us.length t.b
  else if t.kind=4 then hasB us.length t.a
  else hasKeyB us t.a && hasB us.length t.b
section
variable (A:Option Addr) (us:List Tm) (c L B:Nat) (m:Option Nat) (w:World)
set_option maxHeartbeats 1000000 in
theorem parts_none (T:TypeId) (v:Value) (hT:T=263∨T=264∨T=266) :
    Calls Tryz.prog 206 #[.agg #[.slice A us.length c,.map m],.iface T v] w fun e w'=>e=.returned (.bool true)∧Below w.heap.size w w':=by
  rcases hT with rfl|rfl|rfl
  all_goals
    go_enter Tryz.func206,Tryz.ntmps206
    go_wp2_with fail
    go_ret
    exact ⟨rfl,(Below.refl _ _).alloc (Nat.le_refl _) _⟩
set_option maxHeartbeats 1000000 in
theorem parts_hash (a:Int) :
    Calls Tryz.prog 206 #[.agg #[.slice A us.length c,.map m],.iface 270 (.agg #[.int .i64 a])] w fun e w'=>e=.returned (.bool (hasB us.length a))∧Below w.heap.size w w':=by
  go_enter Tryz.func206,Tryz.ntmps206
  go_wp2_with fail
  refine (has_any _ _ _ _ _ _).mono ?_
  rintro e w1 ⟨rfl,hb⟩
  have HB:=hd' (((Below.refl _ _).alloc (Nat.le_refl _) _).alloc (by simp) _ |>.trans (hb.mono (by simp;omega)))
  clear hb
  go_wp2_with fail
  go_ret
  exact ⟨rfl,HB.out⟩
set_option maxHeartbeats 1000000 in
theorem parts_pair (a b:Int) :
    Calls Tryz.prog 206 #[.agg #[.slice A us.length c,.map m],.iface 268 (.agg #[.int .i64 a,.int .i64 b])] w fun e w'=>e=.returned (.bool (hasB us.length a && hasB us.length b))∧Below w.heap.size w w':=by
  cases h1:hasB us.length a with
  | false =>
    have H1:=hd' h1
    clear h1
    go_enter Tryz.func206,Tryz.ntmps206
    go_wp2_with fail
    refine (has_any _ _ _ _ _ _).mono ?_
    rintro e w1 ⟨rfl,hb⟩
    rw [H1.out]
    have HB:=hd' (((Below.refl _ _).alloc (Nat.le_refl _) _).alloc (by simp) _ |>.trans (hb.mono (by simp;omega)))
    clear hb
    go_wp2_with fail
    go_ret
    exact ⟨rfl,HB.out⟩
  | true =>
    have H1:=hd' h1
    clear h1
    go_enter Tryz.func206,Tryz.ntmps206
    go_wp2_with fail
    refine (has_any _ _ _ _ _ _).mono ?_
    rintro e w1 ⟨rfl,hb⟩
    rw [H1.out]
    obtain ⟨hc,hf⟩:=bcell hb
    have HB:=hd' (((Below.refl _ _).alloc (Nat.le_refl _) _).alloc (by simp) _ |>.trans (hb.mono (by simp;omega)))
    clear hb hf
    go_wp2_with fail
    refine (has_any _ _ _ _ _ _).mono ?_
    rintro e w2 ⟨rfl,hb⟩
    have HB2:=hd' (HB.out.trans (hb.mono HB.out.size))
    clear hb
    go_wp2_with fail
    go_ret
    exact ⟨ret_bool (by simp),HB2.out⟩
set_option maxHeartbeats 1000000 in
theorem parts_keyed (T:TypeId) (a b:Int) (hT:T=272∨T=273) (hA:BkIn w L B A us) (hB:B≤w.heap.size) (hn:us.length≤1048576) :
    Calls Tryz.prog 206 #[.agg #[.slice A us.length c,.map m],.iface T (.agg #[.int .i64 a,.int .i64 b])] w fun e w'=>e=.returned (.bool (hasKeyB us a && hasB us.length b))∧Below w.heap.size w w':=by
  have HA:=hd' hA
  clear hA
  cases h1:hasKeyB us a with
  | false =>
    have H1:=hd' h1
    clear h1
    rcases hT with rfl|rfl
    all_goals
      go_enter Tryz.func206,Tryz.ntmps206
      go_wp2_with fail
      refine (hasKey_any _ _ _ L B _ _ _ ?_ ?_ hn).mono ?_
      · exact HA.out.keep fun p _ hp=>(((Below.refl _ _).alloc (Nat.le_refl _) _).alloc (by simp) _).cell (by omega)
      · simp;omega
      rintro e w1 ⟨rfl,hb⟩
      rw [H1.out]
      have HB:=hd' (((Below.refl _ _).alloc (Nat.le_refl _) _).alloc (by simp) _ |>.trans (hb.mono (by simp;omega)))
      clear hb
      go_wp2_with fail
      go_ret
      exact ⟨rfl,HB.out⟩
  | true =>
    have H1:=hd' h1
    clear h1
    rcases hT with rfl|rfl
    all_goals
      go_enter Tryz.func206,Tryz.ntmps206
      go_wp2_with fail
      refine (hasKey_any _ _ _ L B _ _ _ ?_ ?_ hn).mono ?_
      · exact HA.out.keep fun p _ hp=>(((Below.refl _ _).alloc (Nat.le_refl _) _).alloc (by simp) _).cell (by omega)
      · simp;omega
      rintro e w1 ⟨rfl,hb⟩
      rw [H1.out]
      obtain ⟨hc,hf⟩:=bcell hb
      have HB:=hd' (((Below.refl _ _).alloc (Nat.le_refl _) _).alloc (by simp) _ |>.trans (hb.mono (by simp;omega)))
      clear hb hf
      go_wp2_with fail
      refine (has_any _ _ _ _ _ _).mono ?_
      rintro e w2 ⟨rfl,hb⟩
      have HB2:=hd' (HB.out.trans (hb.mono HB.out.size))
      clear hb
      go_wp2_with fail
      go_ret
      exact ⟨ret_bool (by simp),HB2.out⟩
theorem hasPartsOf_any (t:Tm) (hA:BkIn w L B A us) (hB:B≤w.heap.size) (hn:us.length≤1048576) :
    Calls Tryz.prog 206 #[.agg #[.slice A us.length c,.map m],tv t] w fun e w'=>e=.returned (.bool (partsB us t))∧Below w.heap.size w w':=by
  unfold tv partsB
  by_cases h0:t.kind=0
  · rw [if_pos h0,if_pos (.inl h0)]
    exact parts_none A us c m w _ _ (.inl rfl)
  rw [if_neg h0]
  by_cases h1:t.kind=1
  · rw [if_pos h1,if_pos (.inr (.inl h1))]
    exact parts_none A us c m w _ _ (.inr (.inl rfl))
  rw [if_neg h1]
  by_cases h2:t.kind=2
  · rw [if_pos h2,if_pos (.inr (.inr h2))]
    exact parts_none A us c m w _ _ (.inr (.inr rfl))
  rw [if_neg h2,if_neg (show ¬ (t.kind=0∨t.kind=1∨t.kind=2) by simp [h0,h1,h2])]
  by_cases h3:t.kind=3
  · rw [if_pos h3,if_pos h3]
    exact parts_pair A us c m w _ _
  rw [if_neg h3,if_neg h3]
  by_cases h4:t.kind=4
  · rw [if_pos h4,if_pos h4]
    exact parts_hash A us c m w _
  rw [if_neg h4,if_neg h4]
  by_cases h5:t.kind=5
  · rw [if_pos h5]
    exact parts_keyed A us c L B m w _ _ _ (.inl rfl) hA hB hn
  rw [if_neg h5]
  exact parts_keyed A us c L B m w _ _ _ (.inr rfl) hA hB hn
end
end Go.Proofs.YtckajeippfpojaaGreat
namespace Go.Proofs.YtckajeippfpojaaGreat
open Go.RowKit
set_option maxRecDepth 100000
def readB (us:List Tm) (t:Tm):Bool:=fieldsB t && partsB us t
def readV (us:List Tm) (t:Tm):Value:=if readB us t=true then .tuple #[tv t,.bool true] else .tuple #[.nilIface,.bool false]
set_option maxHeartbeats 1000000 in
theorem read_any (A A':Option Addr) (us:List Tm) (t:Tm) (c c' L B L' B':Nat) (m:Option Nat) (w:World) (hA:BkIn w L B A us) (hB:B≤w.heap.size) (hA':BytesIn w L' B' A' t.text) (hB':B'≤w.heap.size) (hn:us.length≤1048576) (hl:t.text.length≤1048576) :
    Calls Tryz.prog 178 #[.agg #[.slice A us.length c,.map m],.agg #[.int .i64 t.kind,.int .i64 t.a,.int .i64 t.b,.slice A' t.text.length c']] w fun e w'=>e=.returned (readV us t)∧Below w.heap.size w w':=by
  have HA:=hd' hA
  have HA':=hd' hA'
  clear hA hA'
  cases h1:fieldsB t with
  | false =>
    have HR:=hd' (show readV us t=.tuple #[.nilIface,.bool false] by simp [readV,readB,h1])
    have H1:=hd' h1
    clear h1
    go_enter Tryz.func178,Tryz.ntmps178
    go_wp2_with fail
    refine (fieldsOk_any _ _ _ _ hl).mono ?_
    rintro e w1 ⟨rfl,hb⟩
    rw [H1.out]
    have HB:=hd' (((Below.refl _ _).alloc (Nat.le_refl _) _).alloc (by simp) _ |>.trans (hb.mono (by simp;omega)))
    clear hb
    go_wp2_with fail
    go_ret2
    exact ⟨ret_val HR.out.symm,HB.out⟩
  | true =>
    have H1:=hd' h1
    cases h2:partsB us t with
    | false =>
      have HR:=hd' (show readV us t=.tuple #[.nilIface,.bool false] by simp [readV,readB,h2])
      have H2:=hd' h2
      clear h1 h2
      go_enter Tryz.func178,Tryz.ntmps178
      go_wp2_with fail
      refine (fieldsOk_any _ _ _ _ hl).mono ?_
      rintro e w1 ⟨rfl,hb⟩
      rw [H1.out]
      obtain ⟨hc,_⟩:=bcell hb
      have b0:w1.cell? ⟨w.heap.size,0,none⟩=some (.slice A us.length c):=(hc _ _ (by simp;omega)).trans (by simp)
      have b1:w1.cell? ⟨w.heap.size,1,none⟩=some (.map m):=(hc _ _ (by simp;omega)).trans (by simp)
      have hz1:w.heap.size+1+1≤w1.heap.size:=by simpa using hb.size
      have HB:=hd' (((Below.refl _ _).alloc (Nat.le_refl _) _).alloc (by simp) _ |>.trans (hb.mono (by simp;omega)))
      clear hb
      go_wp2_with fail
      refine (readTerm_any t _ _ L' B' _ (HA'.out.keep fun p _ hp=>HB.out.cell (by omega)) (by have:=HB.out.size;omega)).mono ?_
      rintro e w2 ⟨rfl,hb2⟩
      have d0:=(hb2.cell (p:=⟨w.heap.size,0,none⟩) (by show w.heap.size < _;omega)).trans b0
      have d1:=(hb2.cell (p:=⟨w.heap.size,1,none⟩) (by show w.heap.size < _;omega)).trans b1
      have hz:=HB.out.size
      clear b0 b1 hc
      have HB2:=hd' (HB.out.trans (hb2.mono hz))
      clear hb2
      go_wp2_with fail
      refine (hasPartsOf_any A us c L B m _ t (HA.out.keep fun p _ hp=>HB2.out.cell (by omega)) (by have:=HB2.out.size;omega) hn).mono ?_
      rintro e w3 ⟨rfl,hb3⟩
      rw [H2.out]
      have HB3:=hd' (HB2.out.trans (hb3.mono HB2.out.size))
      clear hb3
      go_wp2_with fail
      go_ret2
      exact ⟨ret_val HR.out.symm,HB3.out⟩
    | true =>
      have HR:=hd' (show readV us t=.tuple #[tv t,.bool true] by simp [readV,readB,h1,h2])
      have H2:=hd' h2
      clear h1 h2
      go_enter Tryz.func178,Tryz.ntmps178
      go_wp2_with fail
      refine (fieldsOk_any _ _ _ _ hl).mono ?_
      rintro e w1 ⟨rfl,hb⟩
      rw [H1.out]
      obtain ⟨hc,_⟩:=bcell hb
      have b0:w1.cell? ⟨w.heap.size,0,none⟩=some (.slice A us.length c):=(hc _ _ (by simp;omega)).trans (by simp)
      have b1:w1.cell? ⟨w.heap.size,1,none⟩=some (.map m):=(hc _ _ (by simp;omega)).trans (by simp)
      have hz1:w.heap.size+1+1≤w1.heap.size:=by simpa using hb.size
      have HB:=hd' (((Below.refl _ _).alloc (Nat.le_refl _) _).alloc (by simp) _ |>.trans (hb.mono (by simp;omega)))
      clear hb
      go_wp2_with fail
      refine (readTerm_any t _ _ L' B' _ (HA'.out.keep fun p _ hp=>HB.out.cell (by omega)) (by have:=HB.out.size;omega)).mono ?_
      rintro e w2 ⟨rfl,hb2⟩
      have d0:=(hb2.cell (p:=⟨w.heap.size,0,none⟩) (by show w.heap.size < _;omega)).trans b0
      have d1:=(hb2.cell (p:=⟨w.heap.size,1,none⟩) (by show w.heap.size < _;omega)).trans b1
      have hz:=HB.out.size
      clear b0 b1 hc
      have HB2:=hd' (HB.out.trans (hb2.mono hz))
      clear hb2
      go_wp2_with fail
      refine (hasPartsOf_any A us c L B m _ t (HA.out.keep fun p _ hp=>HB2.out.cell (by omega)) (by have:=HB2.out.size;omega) hn).mono ?_
      rintro e w3 ⟨rfl,hb3⟩
      rw [H2.out]
      have HB3:=hd' (HB2.out.trans (hb3.mono HB2.out.size))
      clear hb3
      go_wp2_with fail
      go_ret2
      exact ⟨ret_val HR.out.symm,HB3.out⟩
end Go.Proofs.YtckajeippfpojaaGreat
namespace Go.Proofs.YtckajeippfpojaaGreat
open Go.RowKit Go.Maps
set_option maxRecDepth 100000
theorem Tryz.keyed:Keyed Tryz.prog 223:=Keyed.of_law (deep_law_gate Tryz.laidOut (of_decide_eq_true (by kernel_rfl)) (of_decide_eq_true (by kernel_rfl)) (by kernel_rfl) (by kernel_rfl))
theorem Tryz.keyTypeK:Tryz.prog.keyType 223=true:=by kernel_rfl
theorem Tryz.cellsK:Tryz.prog.cellsOf 223=4:=by kernel_rfl
theorem Tryz.cellsI:Tryz.prog.cellsOf 3=1:=by kernel_rfl
theorem Tryz.cellsS:Tryz.prog.cellsOf 9=1:=by kernel_rfl
theorem Tryz.someTypes:∃m,Tryz.prog.types.size=m+1:=Nat.exists_eq_succ_of_ne_zero (Nat.pos_iff_ne_zero.1 (of_decide_eq_true (by kernel_rfl)))
def WfT (t:Tm):Prop:=(Lit.int .i64 t.kind).wf=true∧(Lit.int .i64 t.a).wf=true∧(Lit.int .i64 t.b).wf=true∧t.text.length≤maxLen
def klOf (t:Tm):Lit:=.string (keyBytes [.int .i64 t.kind,.int .i64 t.a,.int .i64 t.b,.string t.text])
theorem keyOf_tk (t:Tm) (h:WfT t):keyOf Tryz.prog 223 (tk t)=some (klOf t):=by
  obtain ⟨h0,h1,h2,h3⟩:=h
  obtain ⟨m,hm⟩:=Tryz.someTypes
  unfold keyOf tk
  simp only [Tryz.underlying223]
  rw [if_pos (by simp [Tryz.keyTypeK,Value.formed,Tryz.underlying223,Tryz.cellsK]),hm]
  unfold Program.keyLits
  simp only [Tryz.underlying223,Value.cells]
  rw [if_pos (by rw [Tryz.cellsK];exact ⟨rfl,by decide +kernel⟩)]
  have hs:ByteArray.size { data:=t.text.toArray }≤maxLen:=by simpa [ByteArray.size] using h3
  simp [Tryz.cellsI,Tryz.cellsS,Program.keyLits,Tryz.underlying3,Tryz.underlying9,h0,h1,h2,hs,klOf]
theorem tk_inj {t u:Tm} (h:tk t=tk u):t=u:=by
  obtain ⟨k,a,b,l⟩:=t
  obtain ⟨k',a',b',l'⟩:=u
  simp [tk] at h
  simp [h]
theorem klOf_inj {t u:Tm} (ht:WfT t) (hu:WfT u) (h:klOf t=klOf u):t=u :=
  tk_inj (Tryz.keyed.inj (keyOf_tk t ht) (h ▸ keyOf_tk u hu))
theorem klOf_key (t:Tm):WideAt.IsKeyLit (klOf t):=trivial
theorem snoc_ind {α:Type} {p:List α→Prop} (h0:p []) (h1:∀xs x,p xs→p (xs++[x])) (l:List α):p l:=by
  rw [←List.reverse_reverse l]
  induction l.reverse with
  | nil=>exact h0
  | cons x xs ih=>simpa using h1 _ x ih
def mapOf (us:List Tm):DataW Unit:=us.zipIdx.foldl (fun m p=>m.put (klOf p.1) (.lit (.int .i64 (p.2:Int)))) (.map [])
theorem mapOf_nil:mapOf []=.map []:=rfl
theorem mapOf_snoc (us:List Tm) (t:Tm):mapOf (us++[t])=(mapOf us).put (klOf t) (.lit (.int .i64 (us.length:Int))):=by
  simp [mapOf,List.zipIdx_append,List.foldl_append]
theorem isMap_mapOf (us:List Tm):IsMap (mapOf us):=by
  induction us using snoc_ind with
  | h0=>exact isMap_empty
  | h1 us t ih=>rw [mapOf_snoc];exact ih.put _ _
theorem has_mapOf (us:List Tm) (t:Tm) (hus:∀u∈us,WfT u) (ht:WfT t):has (mapOf us) (klOf t)=decide (t∈us):=by
  induction us using snoc_ind with
  | h0=>rfl
  | h1 us u ih =>
    rw [mapOf_snoc]
    by_cases e:t=u
    · subst e
      rw [has_put_same (isMap_mapOf us) (klOf_key t)]
      simp
    · rw [has_put_other (fun h=>e (klOf_inj ht (hus u (by simp)) h)),ih (fun x hx=>hus x (by simp [hx]))]
      simp [e]
theorem atKey_mapOf (us:List Tm) (i:Nat) (hi:i < us.length) (z:DataW Unit) (hus:∀u∈us,WfT u) (hne:∀j k (hj:j < us.length) (_:k < j),us[k]≠us[j]) :
    (mapOf us).atKey (klOf us[i]) z=.lit (.int .i64 (i:Int)):=by
  induction us using snoc_ind with
  | h0=>simp at hi
  | h1 us u ih =>
    rw [mapOf_snoc]
    by_cases e:i=us.length
    · subst e
      simp only [List.getElem_append_right (Nat.le_refl _),Nat.sub_self,List.getElem_cons_zero]
      exact atKey_put_same (isMap_mapOf us) (klOf_key u) _ _
    · have hi':i < us.length:=by simp at hi;omega
      have e1:(us++[u])[i]=us[i]:=List.getElem_append_left hi'
      have hne1:us[i]≠u:=by
        have:=hne us.length i (by simp) hi'
        simpa [List.getElem_append_left hi'] using this
      rw [e1,atKey_put_other (fun h=>hne1 (klOf_inj (hus _ (by simp)) (hus u (by simp)) h))]
      refine ih hi' (fun x hx=>hus x (by simp [hx])) (fun j k hj hk=>?_)
      have:=hne j k (by simp;omega) hk
      simpa [List.getElem_append_left hj,List.getElem_append_left (show k < us.length by omega)] using this
theorem readB_eq (ts:List Tm) (k:Nat) (hk:k < ts.length):readB (ts.take k) ts[k]=(okB k ts[k] && keyedB ts ts[k]):=by
  have hl:(ts.take k).length=k:=by simp;omega
  have hget:∀i:Int,0≤i→i < k→(ts.take k)[i.toNat]?=ts[i.toNat]?:=fun i h0 h1=>by rw [List.getElem?_take,if_pos (by omega)]
  generalize ts[k]=t
  obtain ⟨kd,a,b,l⟩:=t
  unfold readB fieldsB partsB okB keyedB hasKeyB hasB
  rw [hl]
  simp only
  generalize l.length=n
  by_cases h0:kd=0
  · subst h0;rw [Bool.eq_iff_iff];simp;omega
  by_cases h1:kd=1
  · subst h1;rw [Bool.eq_iff_iff];simp;omega
  by_cases h2:kd=2
  · subst h2;simp
  by_cases h3:kd=3
  · subst h3;rw [Bool.eq_iff_iff];simp;omega
  by_cases h4:kd=4
  · subst h4;rw [Bool.eq_iff_iff];simp;omega
  by_cases h5:kd=5
  · subst h5
    by_cases ha:0≤a∧a < k
    · rw [hget a ha.1 ha.2,Bool.eq_iff_iff];simp [ha];omega
    · rw [Bool.eq_iff_iff];simp;omega
  by_cases h6:kd=6
  · subst h6
    by_cases ha:0≤a∧a < k
    · rw [hget a ha.1 ha.2,Bool.eq_iff_iff];simp [ha];omega
    · rw [Bool.eq_iff_iff];simp;omega
  · simp [h0,h1,h2,h3,h4,h5,h6]
theorem readB_wf (us:List Tm) (t:Tm) (hus:us.length≤1048576) (h:readB us t=true):WfT t:=by
  obtain ⟨kd,a,b,l⟩:=t
  have hk:kd=0∨kd=1∨kd=2∨kd=3∨kd=4∨kd=5∨kd=6:=by
    unfold readB fieldsB at h
    simp only at h
    by_cases h0:kd=0∨kd=1
    · omega
    by_cases h2:kd=2
    · omega
    by_cases h4:kd=4
    · omega
    by_cases h3:kd=3∨kd=5∨kd=6
    · omega
    · simp [h0,h2,h4,h3] at h
  have hb:0≤a∧a≤1048576∧0≤b∧b≤1048576∧l.length≤300:=by
    unfold readB fieldsB partsB hasKeyB hasB at h
    simp only at h
    generalize l.length=n at h ⊢
    rcases hk with rfl|rfl|rfl|rfl|rfl|rfl|rfl <;> (simp at h;omega)
  have hk':0≤kd∧kd≤6:=by omega
  exact ⟨WalkArith.wf_i64 (by simp only;omega),WalkArith.wf_i64 (by simp only;omega),WalkArith.wf_i64 (by simp only;omega),by unfold maxLen;simp only;omega⟩
end Go.Proofs.YtckajeippfpojaaGreat
namespace Go.Proofs.YtckajeippfpojaaGreat
open Go.RowKit Go.Maps
set_option maxRecDepth 100000
theorem run_makeMap_hint {P:Program} (t k e:TypeId) (kd:IntKind) (n:Int) (ht:P.underlying t=some (.map k e)) (w:World) :
    (Instr.makeMap t (some (.int kd n))).run P w=.ok (.map (some w.heap.size)) (w.alloc (.map #[] 0)):=by
  simp [Instr.makeMap,run_underlying ht];rfl
theorem Tryz.info85:(Tryz.prog.info? 219).map (fun i=>(i.zero,i.size,i.bytes))=some (some .nilIface,1,16):=by kernel_rfl
theorem zeroInt (w:World):(zeroValue 3).run Tryz.prog w=.ok (.int .i64 0) w:=by kernel_rfl
def RdPost (ts:List Tm) (w:World) (e:Ending) (w':World):Prop :=
  (LOk ts∧∃A c M,e=.returned (.tuple #[.agg #[.slice A ts.length c,.map (some M)],.bool true])∧w.heap.size≤M∧BkIn w' w.heap.size w'.heap.size A ts∧w'.ownsMap (H:=Unit) Tryz.prog 223 (plainElem Tryz.prog 3) M ts.length (mapOf ts)∧Below w.heap.size w w') ∨
  (¬ LOk ts∧e=.returned (.tuple #[.agg #[.slice none 0 0,.map none],.bool false])∧Below w.heap.size w w')
structure RdRel (W0:World) (M K:Nat) (ts:List Tm) (k:Nat) (v:Value) (wr:World):Prop where
  good:∀j,j < k→Good ts j
  row:wr.ownsRow (K+1) 219 1 v k ((ts.take k).map tv)
  map:wr.ownsMap (H:=Unit) Tryz.prog 223 (plainElem Tryz.prog 3) M k (mapOf (ts.take k))
  book:wr.heap[K]?=some (.cells #[v,.map (some M)] 125 (0,0))
  old:Below M W0 wr
  size:K < wr.heap.size
theorem grown_of_below {w w':World} (hb:Below w.heap.size w w'):w.grownBy w' none:=⟨hb.os,hb.tape,hb.output,hb.size,fun i hi _=>hb.block i hi⟩
theorem RdRel.keep {W0 wr w':World} {M K:Nat} {ts:List Tm} {k:Nat} {v:Value} (h:RdRel W0 M K ts k v wr) (hb:Below wr.heap.size wr w') (hM:M < wr.heap.size):RdRel W0 M K ts k v w' where
  good:=h.good
  row:=h.row.kept (grown_of_below hb) (by cases h:v.ownBlock <;> simp)
  map:=h.map.kept (grown_of_below hb) (by simp)
  book:=(hb.block _ h.size).trans h.book
  old:=h.old.trans (hb.mono (by omega))
  size:=Nat.lt_of_lt_of_le h.size hb.size
theorem good_wf {ts:List Tm} {j:Nat} (hn:ts.length≤1048576) (hg:Good ts j):∃h:j < ts.length,WfT ts[j]:=by
  obtain ⟨h,h1,h2,_⟩:=hg
  exact ⟨h,readB_wf (ts.take j) _ (by simp;omega) (by rw [readB_eq ts j h,h1,h2];rfl)⟩
theorem take_wf {ts:List Tm} {k:Nat} (hn:ts.length≤1048576) (hg:∀j,j < k→Good ts j):∀u∈ts.take k,WfT u:=by
  intro u hu
  obtain ⟨j,hj,rfl⟩:=List.mem_iff_getElem.1 hu
  have hj1:j < k:=by rw [List.length_take] at hj;omega
  obtain ⟨_,hw⟩:=good_wf hn (hg j hj1)
  simpa using hw
theorem mem_take {ts:List Tm} {k:Nat} (hk:k < ts.length):ts[k]∈ts.take k ↔ ∃j,∃h:j < k,ts[j]=ts[k]:=by
  rw [List.mem_iff_getElem]
  constructor
  · rintro ⟨j,hj,e⟩
    have hj1:j < k:=by rw [List.length_take] at hj;omega
    exact ⟨j,hj1,by simpa using e⟩
  · rintro ⟨j,hj,e⟩
    exact ⟨j,by simp;omega,by simpa using e⟩
theorem bk_of_row {w:World} {base:Nat} {e:TypeId} {A:Option Addr} {c:Nat} {us:List Tm} (h:w.ownsRow base e 1 (.slice A us.length c) us.length (us.map tv)):BkIn w base w.heap.size A us:=fun hl=>by
  obtain ⟨_,hh|⟨g,cap,cur,hv,hg,hb,_,_,_,htk⟩⟩:=h
  · omega
  · injection hv with h1 _ _
    subst h1
    refine ⟨g,0,rfl,hg,?_,fun i hi=>?_⟩
    · exact (Array.getElem?_eq_some_iff.1 hb).1
    · rw [Nat.zero_add]
      have h2:(us.map tv)[i]?=some (tv us[i]):=by simp [hi]
      rw [←htk,Nat.mul_one,List.getElem?_take,if_pos hi] at h2
      rw [World.cell?,hb]
      simpa using h2
theorem own_ne {w:World} {base:Nat} {e:TypeId} {size:Nat} {v:Value} {n:Nat} {xs:List Value} (h:w.ownsRow base e size v n xs) {g:Nat} (hg:g < base):some g≠v.ownBlock:=fun e=>by
  have:=(h.lt g e.symm).1
  omega
theorem RdRel.step {W0 w3 w4 w5:World} {M K:Nat} {ts:List Tm} {k:Nat} {v v':Value} {o:Obj} (h:RdRel W0 M K ts k v w3) (hMK:M+1=K) (hk:k < ts.length)
    (hmap4:w4.ownsMap (H:=Unit) Tryz.prog 223 (plainElem Tryz.prog 3) M (k+1) ((mapOf (ts.take k)).put (klOf ts[k]) (.lit (.int .i64 k)))) (hg4:w3.grownBy w4 (some M))
    (hrow5:w5.ownsRow (K+1) 219 1 v' (k+1) ((ts.take k).map tv++[tv ts[k]])) (hg5:(w4.alloc o).grownBy w5 v.ownBlock) (hgood:Good ts k) :
    RdRel W0 M K ts (k+1) v' (w5.setCell ⟨K,0,none⟩ v'):=by
  have hz3:=h.size
  have hz4:=hg4.size
  have hz5:w4.heap.size+1≤w5.heap.size:=by simpa using hg5.size
  have hbook:w5.heap[K]?=some (.cells #[v,.map (some M)] 125 (0,0)):=by
    rw [hg5.block K (by simp;omega) (own_ne h.row (by omega)),Below.heap_alloc _ _ _ (by omega),hg4.block K hz3 (by simp;omega)]
    exact h.book
  refine ⟨fun j hj=>?_,?_,?_,?_,?_,?_⟩
  · by_cases e:j=k
    · subst e;exact hgood
    · exact h.good j (by omega)
  · rw [List.take_succ_eq_append_getElem hk,List.map_append]
    exact ownsRow_setCell_below hrow5 (by show K < K+1;omega) _
  · rw [List.take_succ_eq_append_getElem hk,mapOf_snoc,show (ts.take k).length=k by simp;omega]
    exact ((hmap4.alloc o).kept hg5 (own_ne h.row (by omega))).setCell (by show M≠K;omega) _
  · have:=heap_setCell_same w5 K 0 _ _ v' hbook
    simpa using this
  · exact ((((h.old.grown hg4 (by omega) (fun g hg=>by cases hg;omega)).alloc (by omega) o).grown hg5 (by simp;omega) (fun g hg=>by have:=(h.row.lt g hg).1;omega)).setCell (by show M≤K;omega) _)
  · simp;omega
set_option maxHeartbeats 1000000 in
theorem readLedger_any (A:Option Addr) (ts:List Tm) (c L B:Nat) (w:World) (hA:TmsIn w L B A ts) (hB:B≤w.heap.size) (hn:ts.length≤1048576) (hbk:bulk ts≤1048576) :
    Calls Tryz.prog 118 #[.agg #[.slice A ts.length c]] w (RdPost ts w):=by
  have hmk:=fun W=>run_makeMap_hint (P:=Tryz.prog) 123 223 3 .i64 ts.length Tryz.underlying123 W
  by_cases h4:ts.length≤400
  · go_enter Tryz.func118,Tryz.ntmps118
    go_wp2_with fail
    clear hmk
    obtain ⟨W0,hW0⟩:∃W0,W0=(w.alloc (.cells #[.slice A ts.length c] 35)).alloc (.cells #[.slice none 0 0,.map none] 125):=⟨_,rfl⟩
    have hold:Below w.heap.size w W0:=by subst hW0;exact ((Below.refl _ _).alloc (Nat.le_refl _) _).alloc (by simp) _
    have hsz:W0.heap.size=w.heap.size+1+1:=by subst hW0;simp
    have hA0:TmsIn W0 L B A ts:=hA.keep fun p _ hp=>hold.cell (by omega)
    have hres0:W0.cell? ⟨w.heap.size+1,0,none⟩=some (.slice none 0 0):=by subst hW0;simp
    have hres1:W0.cell? ⟨w.heap.size+1,1,none⟩=some (.map none):=by subst hW0;simp
    have hfr0:∀j,W0.frozen? ⟨w.heap.size+1,j,none⟩=false:=by subst hW0;intro j;simp
    have HOld:=hd' hold
    rw [←hW0]
    clear hA hold hW0
    go_loopw [25] (fun i wr=>∃(k:Nat) (v:Value),k≤ts.length∧i=.int .i64 k∧RdRel W0 (w.heap.size+1+1) (w.heap.size+1+1+1) ts k v wr) (fun i _=>ts.length - (intOf i).toNat)
    case atStart =>
      refine ⟨0,.slice none 0 0,Nat.zero_le _,rfl,⟨fun j h=>absurd h (by omega),?_,?_,?_,?_,?_⟩⟩
      · simpa using World.ownsRow_nil _ _ _ _
      · rw [List.take_zero,mapOf_nil,←hsz]
        exact (World.ownsMap_made W0 _ _ _).alloc _
      · rw [←hsz]
        have:=heap_alloc_new (W0.alloc (.map #[] 0)) (.cells #[.slice none 0 0,.map (some W0.heap.size)] 125 (0,0))
        simpa using this
      · rw [←hsz]
        exact ((Below.refl _ _).alloc (Nat.le_refl _) _).alloc (by simp) _
      · simp;omega
    case round =>
      obtain ⟨k,v,hk,rfl,hrel⟩:=hrel
      have HR:=hd' hrel
      obtain ⟨A',c',rfl⟩:=row_shape hrel.row
      have b0:wr.cell? ⟨w.heap.size+1+1+1,0,none⟩=some (.slice A' k c'):=by simp [World.cell?,hrel.book]
      have b1:wr.cell? ⟨w.heap.size+1+1+1,1,none⟩=some (.map (some (w.heap.size+1+1))):=by simp [World.cell?,hrel.book]
      have r0:=(hrel.old.cell (p:=⟨w.heap.size+1,0,none⟩) (by show w.heap.size+1 < _;omega)).trans hres0
      have r1:=(hrel.old.cell (p:=⟨w.heap.size+1,1,none⟩) (by show w.heap.size+1 < _;omega)).trans hres1
      have r2:wr.frozen? ⟨w.heap.size+1,0,none⟩=false:=(hrel.old.frozen (p:=⟨w.heap.size+1,0,none⟩) (by show w.heap.size+1 < _;omega)).trans (hfr0 0)
      have r3:wr.frozen? ⟨w.heap.size+1,1,none⟩=false:=(hrel.old.frozen (p:=⟨w.heap.size+1,1,none⟩) (by show w.heap.size+1 < _;omega)).trans (hfr0 1)
      by_cases hlt:k < ts.length
      · obtain ⟨b,o,rfl,hL,hb,hc⟩:=hA0 (by omega)
        obtain ⟨A1,c1,x0,x1,x2,x3,_,_,hby⟩:=(hc k hlt).keep hL hb (fun p _ hp=>hrel.old.cell (by omega))
        have hle:=text_le_bulk ts k hlt
        have HY:=hd' hby
        have hz:=hrel.size
        have hkl:(ts.take k).length=k:=by simp;omega
        have HK:=hd' hkl
        have hbk':wr.ownsRow (w.heap.size+1+1+1+1) 219 1 (.slice A' (ts.take k).length c') (ts.take k).length ((ts.take k).map tv):=by rw [hkl];exact hrel.row
        have HBK:=hd' (bk_of_row hbk')
        clear hc hby hrel hkl hbk'
        cases hread:readB (ts.take k) ts[k] with
        | false =>
          have H1:=hd' (show readV (ts.take k) ts[k]=.tuple #[.nilIface,.bool false] by simp [readV,hread])
          have hno:¬ LOk ts:=fun h=>by
            obtain ⟨_,g1,g2,_⟩:=h.2 k hlt
            rw [readB_eq ts k hlt,g1,g2] at hread
            cases hread
          have HNo:=hd' hno
          clear hread hno
          go_wp2_with fail
          have hread':=read_any A' A1 (ts.take k) ts[k] c' c1 (w.heap.size+1+1+1+1) wr.heap.size L B (some (w.heap.size+1+1)) (wr.alloc (.cells #[.int .i64 ts[k].kind,.int .i64 ts[k].a,.int .i64 ts[k].b,.slice A1 ts[k].text.length c1] 112))
            (HBK.out.keep fun p _ hp=>World.cell?_alloc_lt _ _ _ (by omega)) (by simp) (HY.out.keep fun p _ hp=>World.cell?_alloc_lt _ _ _ (by omega)) (by simp;omega) (by have:=HK.out;omega) (by omega)
          rw [HK.out,H1.out] at hread'
          refine hread'.mono ?_
          clear hread'
          rintro e w1 ⟨rfl,hb1⟩
          have hb2:Below wr.heap.size wr w1:=((Below.refl _ _).alloc (Nat.le_refl _) _).trans (hb1.mono (by simp))
          have hz1:wr.heap.size+1≤w1.heap.size:=by simpa using hb1.size
          have p0:=(hb2.cell (p:=⟨w.heap.size+1,0,none⟩) (by show w.heap.size+1 < _;omega)).trans r0
          have p1:=(hb2.cell (p:=⟨w.heap.size+1,1,none⟩) (by show w.heap.size+1 < _;omega)).trans r1
          have p2:=(hb2.frozen (p:=⟨w.heap.size+1,0,none⟩) (by show w.heap.size+1 < _;omega)).trans r2
          have p3:=(hb2.frozen (p:=⟨w.heap.size+1,1,none⟩) (by show w.heap.size+1 < _;omega)).trans r3
          have HB2:=hd' hb2
          clear hb1 hb2 b0 b1 r0 r1 r2 r3 x0 x1 x2 x3
          go_wp2_with fail
          refine bodyPost_ret (v:=.tuple #[.agg #[.slice none 0 0,.map none],.bool false]) (by simp [results,Tryz.results118,p0,p1,go_sem]) rfl (.inr ⟨HNo.out,rfl,?_⟩)
          refine ((HOld.out.trans ((HR.out.old.mono (by omega)).trans (HB2.out.mono (by omega)))).setCell ?_ _).setCell ?_ _
          all_goals (show w.heap.size≤w.heap.size+1;omega)
        | true =>
          obtain ⟨T,tvv,htv,_⟩:=tv_cases ts[k]
          have H1:=hd' (show readV (ts.take k) ts[k]=.tuple #[.iface T tvv,.bool true] by simp [readV,hread,htv])
          have HTv:=hd' htv
          clear htv
          have hwf:=readB_wf _ _ (by have:=HK.out;omega) hread
          have HWf:=hd' hwf
          have HRd:=hd' hread
          clear hread hwf
          go_wp2_with fail
          have hread':=read_any A' A1 (ts.take k) ts[k] c' c1 (w.heap.size+1+1+1+1) wr.heap.size L B (some (w.heap.size+1+1)) (wr.alloc (.cells #[.int .i64 ts[k].kind,.int .i64 ts[k].a,.int .i64 ts[k].b,.slice A1 ts[k].text.length c1] 112))
            (HBK.out.keep fun p _ hp=>World.cell?_alloc_lt _ _ _ (by omega)) (by simp) (HY.out.keep fun p _ hp=>World.cell?_alloc_lt _ _ _ (by omega)) (by simp;omega) (by have:=HK.out;omega) (by omega)
          rw [HK.out,H1.out] at hread'
          refine hread'.mono ?_
          clear hread'
          rintro e w1 ⟨rfl,hb1⟩
          have hb2:Below wr.heap.size wr w1:=((Below.refl _ _).alloc (Nat.le_refl _) _).trans (hb1.mono (by simp))
          have hz1:wr.heap.size+1≤w1.heap.size:=by simpa using hb1.size
          have p0:=(hb2.cell (p:=⟨w.heap.size+1,0,none⟩) (by show w.heap.size+1 < _;omega)).trans r0
          have p1:=(hb2.cell (p:=⟨w.heap.size+1,1,none⟩) (by show w.heap.size+1 < _;omega)).trans r1
          have p2:=(hb2.frozen (p:=⟨w.heap.size+1,0,none⟩) (by show w.heap.size+1 < _;omega)).trans r2
          have p3:=(hb2.frozen (p:=⟨w.heap.size+1,1,none⟩) (by show w.heap.size+1 < _;omega)).trans r3
          have q0:=(hb2.cell (p:=⟨w.heap.size+1+1+1,0,none⟩) hz).trans b0
          have q1:=(hb2.cell (p:=⟨w.heap.size+1+1+1,1,none⟩) hz).trans b1
          have t0:w1.cell? ⟨wr.heap.size,0,none⟩=some (.int .i64 ts[k].kind):=(hb1.cell (p:=⟨wr.heap.size,0,none⟩) (by simp)).trans (by simp)
          have t1:w1.cell? ⟨wr.heap.size,1,none⟩=some (.int .i64 ts[k].a):=(hb1.cell (p:=⟨wr.heap.size,1,none⟩) (by simp)).trans (by simp)
          have t2:w1.cell? ⟨wr.heap.size,2,none⟩=some (.int .i64 ts[k].b):=(hb1.cell (p:=⟨wr.heap.size,2,none⟩) (by simp)).trans (by simp)
          have t3:w1.cell? ⟨wr.heap.size,3,none⟩=some (.slice A1 ts[k].text.length c1):=(hb1.cell (p:=⟨wr.heap.size,3,none⟩) (by simp)).trans (by simp)
          have HB2:=hd' hb2
          clear hb1 hb2 b0 b1 r0 r1 r2 r3 x0 x1 x2 x3
          go_wp2_with fail
          refine (termKeyOf_any ts[k] A1 c1 L B _ (HY.out.keep fun p _ hp=>HB2.out.cell (by omega)) (by omega)).mono ?_
          rintro e w2 ⟨rfl,hb3⟩
          have hz2:w1.heap.size≤w2.heap.size:=hb3.size
          have HR2:=hd' (HR.out.keep (HB2.out.trans (hb3.mono HB2.out.size)) (by omega))
          have p0':=(hb3.cell (p:=⟨w.heap.size+1,0,none⟩) (by show w.heap.size+1 < _;omega)).trans p0
          have p1':=(hb3.cell (p:=⟨w.heap.size+1,1,none⟩) (by show w.heap.size+1 < _;omega)).trans p1
          have p2':=(hb3.frozen (p:=⟨w.heap.size+1,0,none⟩) (by show w.heap.size+1 < _;omega)).trans p2
          have p3':=(hb3.frozen (p:=⟨w.heap.size+1,1,none⟩) (by show w.heap.size+1 < _;omega)).trans p3
          have q0':=(hb3.cell (p:=⟨w.heap.size+1+1+1,0,none⟩) (by show w.heap.size+1+1+1 < _;omega)).trans q0
          have q1':=(hb3.cell (p:=⟨w.heap.size+1+1+1,1,none⟩) (by show w.heap.size+1+1+1 < _;omega)).trans q1
          have hz3:w.heap.size+1+1+1 < w2.heap.size:=by omega
          have hz4:w.heap.size+1 < w2.heap.size:=by omega
          have HB3:=hd' (HB2.out.trans (hb3.mono HB2.out.size))
          clear hb3 p0 p1 p2 p3 q0 q1 t0 t1 t2 t3
          obtain ⟨nv,nps,hlook,hnv⟩:=(HR2.out.map.alloc (.cells #[.int .i64 ts[k].kind,.int .i64 ts[k].a,.int .i64 ts[k].b,.string ⟨ts[k].text.toArray⟩] 223)).look_ok Tryz.keyed Tryz.underlying123 (zeroInt _) (plainElem_int Tryz.underlying3 (by decide))
            (key:=.agg #[.int .i64 ts[k].kind,.int .i64 ts[k].a,.int .i64 ts[k].b,.string ⟨ts[k].text.toArray⟩]) (keyOf_tk ts[k] HWf.out)
          obtain ⟨n,rfl,_,_⟩:=plainElem_int_inv Tryz.underlying3 hnv
          rw [has_mapOf _ _ (take_wf hn HR.out.good) HWf.out] at hlook
          clear hnv
          by_cases hmem:ts[k]∈ts.take k
          · rw [decide_eq_true hmem] at hlook
            have hno:¬ LOk ts:=fun h=>by
              obtain ⟨_,_,_,h3⟩:=h.2 k hlt
              obtain ⟨j,hj,e⟩:=(mem_take hlt).1 hmem
              exact h3 j hj e
            have HNo:=hd' hno
            clear hno hmem
            go_wp2_with fail
            refine bodyPost_ret (v:=.tuple #[.agg #[.slice none 0 0,.map none],.bool false]) (by simp [results,Tryz.results118,hz4,p0',p1',go_sem]) rfl (.inr ⟨HNo.out,rfl,?_⟩)
            exact (((HOld.out.trans ((HR.out.old.mono (by omega)).trans (HB3.out.mono (by omega)))).setCell (by show w.heap.size≤w.heap.size+1;omega) _).setCell (by show w.heap.size≤w.heap.size+1;omega) _).alloc (by simp;omega) _
          · rw [decide_eq_false hmem] at hlook
            have HMem:=hd' hmem
            clear hmem
            obtain ⟨W3,hW3⟩:∃W3,W3=w2.alloc (.cells #[.int .i64 ts[k].kind,.int .i64 ts[k].a,.int .i64 ts[k].b,.string ⟨ts[k].text.toArray⟩] 223):=⟨_,rfl⟩
            have hb4:Below w2.heap.size w2 W3:=by subst hW3;exact (Below.refl _ _).alloc (Nat.le_refl _) _
            have hz5:w2.heap.size+1=W3.heap.size:=by subst hW3;simp
            have HR3:=hd' (HR2.out.keep hb4 (by omega))
            obtain ⟨w4,hupd,hmap4,hgr4⟩:=HR3.out.map.update Tryz.keyed Tryz.underlying123 (by unfold maxLen;omega) (key:=.agg #[.int .i64 ts[k].kind,.int .i64 ts[k].a,.int .i64 ts[k].b,.string ⟨ts[k].text.toArray⟩]) (val:=.int .i64 k) (keyOf_tk ts[k] HWf.out) (plainElem_int Tryz.underlying3 (WalkArith.wf_i64 (by omega)))
            rw [hW3] at hupd
            have s0:w4.cell? ⟨w.heap.size+1+1+1,0,none⟩=some (.slice A' k c'):=hgr4.cell ((hb4.cell (p:=⟨w.heap.size+1+1+1,0,none⟩) hz3).trans q0') (by simp)
            have s1:w4.cell? ⟨w.heap.size+1+1+1,1,none⟩=some (.map (some (w.heap.size+1+1))):=hgr4.cell ((hb4.cell (p:=⟨w.heap.size+1+1+1,1,none⟩) hz3).trans q1') (by simp)
            have hz6:w2.heap.size+1≤w4.heap.size:=by have:=hgr4.size;omega
            have hz7:w.heap.size+1+1+1 < w4.heap.size:=by omega
            have hrow4:w4.ownsRow (w.heap.size+1+1+1+1) 219 1 (.slice A' k c') k ((ts.take k).map tv):=HR3.out.row.kept hgr4 (.inr fun e=>by have:=(HR3.out.row.lt _ e).1;omega)
            have HM4:=hd' hmap4
            have HG4:=hd' hgr4
            have HB4:=hd' hb4
            have HRow4:=hd' hrow4
            obtain ⟨i0,hi,hz0,hz1',hz2'⟩:=info_parts Tryz.info85
            clear hmap4 hgr4 hb4 hW3 p0' p1' p2' p3' hrow4
            go_wp2_with (at_builtin;refine wpList_append_own _ rfl _ _ 122 rfl (w.heap.size+1+1+1+1) 219 i0 .nilIface 1 16 Tryz.underlying122 hi hz0 hz1' hz2' rfl (by decide) _ _ _ rfl (HRow4.out.alloc _) ⟨w4.heap.size,0,none⟩ 1 1 [.iface T tvv] rfl rfl ?c1 ?c2 ?c3 ?c4 ?c5 ?_)
            case c1=>exact cell_one_new _ _ _
            case c2=>intro u hu;simp at hu;subst hu;rfl
            case c3=>unfold maxLen;omega
            case c4=>omega
            case c5=>simp;omega
            intro v' w5 hrow5 hgr5 _
            have HRow5:=hd' hrow5
            have HG5:=hd' hgr5
            obtain ⟨A5,c5,rfl⟩:=row_shape hrow5
            have u0:w5.cell? ⟨w.heap.size+1+1+1,0,none⟩=some (.slice A' k c'):=hgr5.cell ((World.cell?_alloc_lt _ _ _ hz7).trans s0) (own_ne HRow4.out (by show w.heap.size+1+1+1 < _;omega))
            have u1:w5.frozen? ⟨w.heap.size+1+1+1,0,none⟩=false:=by
              rw [World.frozen?_of_block (w:=w4.alloc _) (hgr5.block _ (by simp;omega) (own_ne HRow4.out (by show w.heap.size+1+1+1 < _;omega)))]
              rw [World.frozen?_of_block (w:=w4) (Below.heap_alloc _ _ _ hz7),World.frozen?_of_block (w:=W3) (HG4.out.block (w.heap.size+1+1+1) (by omega) (by simp))]
              simp [World.frozen?,HR3.out.book]
            clear hrow5 hgr5
            go_wp2_with fail
            go_roundw
            case rel =>
              refine ⟨k+1,_,by omega,by go_num,HR3.out.step (o:=.cells #[.iface T tvv] 219) rfl hlt HM4.out HG4.out ?_ HG5.out ?_⟩
              · have:=HRow5.out
                rw [←List.map_take,←HTv.out] at this
                exact this
              · have hr:=HRd.out
                rw [readB_eq ts k hlt,Bool.and_eq_true] at hr
                exact ⟨hlt,hr.1,hr.2,fun j hj e=>HMem.out ((mem_take hlt).2 ⟨j,hj,e⟩)⟩
            case measure=>simp [intOf];omega
      · have hke:k=ts.length:=by omega
        have hrow:=hrel.row
        have hgood:LOk ts:=⟨h4,fun j hj=>hrel.good j (by omega)⟩
        have hmap:=hrel.map
        rw [hke,List.take_length] at hrow hmap
        have hbkn:=bk_of_row (us:=ts) (A:=A') (c:=c') (by rw [←hke];rw [←hke] at hrow;exact hrow)
        have HGd:=hd' hgood
        have HMap:=hd' hmap
        have HBk:=hd' hbkn
        have HKe:=hd' hke
        have hz:=hrel.size
        clear hrow hgood hmap hbkn hke hrel
        go_wp2_with fail
        refine bodyPost_ret (v:=.tuple #[.agg #[.slice A' k c',.map (some (w.heap.size+1+1))],.bool true]) (by simp [results,Tryz.results118,r0,r1,go_sem]) rfl (.inl ⟨HGd.out,A',c',w.heap.size+1+1,by rw [HKe.out],by omega,?_,?_,?_⟩)
        · refine BkIn.low (BkIn.mono (HBk.out.keep fun p hp _=>?_) (by simp)) (by omega)
          rw [World.cell?_setCell_other _ _ _ _ (by rintro rfl;simp at hp;omega),World.cell?_setCell_other _ _ _ _ (by rintro rfl;simp at hp;omega)]
        · exact (HMap.out.setCell (by show w.heap.size+1+1≠w.heap.size+1;omega) _).setCell (by show w.heap.size+1+1≠w.heap.size+1;omega) _
        · exact ((HOld.out.trans (HR.out.old.mono (by omega))).setCell (by show w.heap.size≤w.heap.size+1;omega) _).setCell (by show w.heap.size≤w.heap.size+1;omega) _
  · go_enter Tryz.func118,Tryz.ntmps118
    go_wp2_with fail
    refine bodyPost_ret (v:=.tuple #[.agg #[.slice none 0 0,.map none],.bool false]) (by simp [results,Tryz.results118,go_sem]) rfl (.inr ⟨fun h=>h4 h.1,rfl,((Below.refl _ _).alloc (Nat.le_refl _) _).alloc (by simp) _⟩)
end Go.Proofs.YtckajeippfpojaaGreat
namespace Go.Proofs.YtckajeippfpojaaGreat
open Go.RowKit Go.Maps
set_option maxRecDepth 100000
def lookI (ts:List Tm) (t:Tm):Int:=if t∈ts then (ts.idxOf t:Int) else -1
theorem idxOf_first (ts:List Tm) (t:Tm) (k:Nat) (hk:k < ts.length) (he:ts[k]=t) (hne:∀j (_:j < k),ts[j]?≠some t):ts.idxOf t=k:=by
  induction ts generalizing k with
  | nil=>simp at hk
  | cons x xs ih =>
    cases k with
    | zero=>simp at he;subst he;simp
    | succ k =>
      have hx:x≠t:=fun h=>hne 0 (by omega) (by simp [h])
      rw [List.idxOf_cons,show (x == t)=false by simpa using hx,cond_false,ih k (by simpa using hk) (by simpa using he) (fun j hj h=>hne (j+1) (by omega) (by simpa using h))]
theorem lookI_found {ts:List Tm} {t:Tm} {k:Nat} (hk:k < ts.length) (he:ts[k]=t) (hne:∀j (_:j < k),ts[j]?≠some t):lookI ts t=k:=by
  unfold lookI
  rw [if_pos (he ▸ List.getElem_mem hk),idxOf_first ts t k hk he hne]
theorem lookI_none {ts:List Tm} {t:Tm} (h:t ∉ ts):lookI ts t = -1:=by
  unfold lookI
  rw [if_neg h]
theorem lookI_range (ts:List Tm) (t:Tm):lookI ts t = -1∧t ∉ ts∨0≤lookI ts t∧lookI ts t < ts.length∧t∈ts:=by
  by_cases h:t∈ts
  · have:=List.idxOf_lt_length_of_mem h
    exact .inr ⟨by unfold lookI;rw [if_pos h];omega,by unfold lookI;rw [if_pos h];omega,h⟩
  · exact .inl ⟨lookI_none h,h⟩
theorem all_wf {ts:List Tm} (hl:LOk ts):∀u∈ts,WfT u:=by
  have h:=take_wf (ts:=ts) (k:=ts.length) (by have:=hl.1;omega) (fun j hj=>hl.2 j hj)
  rwa [List.take_length] at h
section
variable (A A':Option Addr) (ts:List Tm) (t:Tm) (c c' L B L' B':Nat) (w:World)
set_option maxHeartbeats 1000000 in
theorem l1lookup_any (hA:TmsIn w L B A ts) (hB:B≤w.heap.size) (hA':BytesIn w L' B' A' t.text) (hB':B'≤w.heap.size) (hn:ts.length≤1048576) :
    Calls Tryz.prog 136 #[.agg #[.slice A ts.length c],.agg #[.int .i64 t.kind,.int .i64 t.a,.int .i64 t.b,.slice A' t.text.length c']] w fun e w'=>e=.returned (.int .i64 (lookI ts t))∧Below w.heap.size w w':=by
  have HA:=hd' hA
  have HA':=hd' hA'
  clear hA hA'
  go_enter Tryz.func136,Tryz.ntmps136
  go_wp2_with fail
  obtain ⟨W0,hW0⟩:∃W0,W0=(w.alloc (.cells #[.slice A ts.length c] 35)).alloc (.cells #[.int .i64 t.kind,.int .i64 t.a,.int .i64 t.b,.slice A' t.text.length c'] 112):=⟨_,rfl⟩
  have hb0:Below w.heap.size w W0:=by subst hW0;exact ((Below.refl _ _).alloc (Nat.le_refl _) _).alloc (by simp) _
  have c0:W0.cell? ⟨w.heap.size,0,none⟩=some (.slice A ts.length c):=by subst hW0;simp
  have d0:W0.cell? ⟨w.heap.size+1,0,none⟩=some (.int .i64 t.kind):=by subst hW0;simp
  have d1:W0.cell? ⟨w.heap.size+1,1,none⟩=some (.int .i64 t.a):=by subst hW0;simp
  have d2:W0.cell? ⟨w.heap.size+1,2,none⟩=some (.int .i64 t.b):=by subst hW0;simp
  have d3:W0.cell? ⟨w.heap.size+1,3,none⟩=some (.slice A' t.text.length c'):=by subst hW0;simp
  have hsz:W0.heap.size=w.heap.size+1+1:=by subst hW0;simp
  rw [←hW0]
  clear hW0
  have HB0:=hd' hb0
  clear hb0
  go_loopw [5] (fun i wr=>∃k:Nat,k≤ts.length∧i=.int .i64 k∧(∀j (_:j < k),ts[j]?≠some t)∧Below W0.heap.size W0 wr) (fun i _=>ts.length - (intOf i).toNat)
  case atStart=>exact ⟨0,Nat.zero_le _,rfl,fun j h=>absurd h (by omega),Below.refl _ _⟩
  case round =>
    obtain ⟨k,hk,rfl,hne,hbel⟩:=hrel
    have e0:=(hbel.cell (p:=⟨w.heap.size,0,none⟩) (by show w.heap.size < _;omega)).trans c0
    by_cases hlt:k < ts.length
    · have f0:=(hbel.cell (p:=⟨w.heap.size+1,0,none⟩) (by show w.heap.size+1 < _;omega)).trans d0
      have f1:=(hbel.cell (p:=⟨w.heap.size+1,1,none⟩) (by show w.heap.size+1 < _;omega)).trans d1
      have f2:=(hbel.cell (p:=⟨w.heap.size+1,2,none⟩) (by show w.heap.size+1 < _;omega)).trans d2
      have f3:=(hbel.cell (p:=⟨w.heap.size+1,3,none⟩) (by show w.heap.size+1 < _;omega)).trans d3
      obtain ⟨b,o,rfl,hL,hb,hc⟩:=HA.out (by omega)
      have hbw:Below w.heap.size w wr:=HB0.out.trans (hbel.mono (by omega))
      obtain ⟨A1,c1,x0,x1,x2,x3,_,_,hby⟩:=(hc k hlt).keep hL hb (fun p _ hp=>hbw.cell (by omega))
      have kb:∀x:Kp wr,x.val.cell? ⟨w.heap.size,0,none⟩=some (.slice (some ⟨b,o,none⟩) ts.length c):=fun x=>x.cell e0
      have k0:∀x:Kp wr,x.val.cell? ⟨b,o+k*4,none⟩=some (.int .i64 ts[k].kind):=fun x=>x.cell x0
      have k1:∀x:Kp wr,x.val.cell? ⟨b,o+k*4+1,none⟩=some (.int .i64 ts[k].a):=fun x=>x.cell x1
      have k2:∀x:Kp wr,x.val.cell? ⟨b,o+k*4+2,none⟩=some (.int .i64 ts[k].b):=fun x=>x.cell x2
      have k3:∀x:Kp wr,x.val.cell? ⟨b,o+k*4+3,none⟩=some (.slice A1 ts[k].text.length c1):=fun x=>x.cell x3
      have l0:∀x:Kp wr,x.val.cell? ⟨w.heap.size+1,0,none⟩=some (.int .i64 t.kind):=fun x=>x.cell f0
      have l1:∀x:Kp wr,x.val.cell? ⟨w.heap.size+1,1,none⟩=some (.int .i64 t.a):=fun x=>x.cell f1
      have l2:∀x:Kp wr,x.val.cell? ⟨w.heap.size+1,2,none⟩=some (.int .i64 t.b):=fun x=>x.cell f2
      have l3:∀x:Kp wr,x.val.cell? ⟨w.heap.size+1,3,none⟩=some (.slice A' t.text.length c'):=fun x=>x.cell f3
      have hszr:=hbel.size
      have hB2:∀x:Kp wr,(B≤x.val.heap.size∧B'≤x.val.heap.size)∧BytesIn x.val L B A1 ts[k].text∧BytesIn x.val L' B' A' t.text:=fun x=>⟨by have:=x.ok.size;constructor <;> omega,hby.keep fun p _ hp=>x.ok.cell (by omega),HA'.out.keep fun p _ hp=>(x.ok.cell (by omega)).trans (hbw.cell (by omega))⟩
      have HB2:=hd' hB2
      have HBel:=hd' hbel
      have HN:=hd' hne
      clear hby hB2 hbel hne hc hbw
      go_wp2_with fail
      by_cases heq:ts[k]=t
      · have HV:=hd' (lookI_found hlt heq HN.out)
        have HD:=hd' (show decide (ts[k]=t)=true by simpa using heq)
        clear heq
        refine wp_region_kept (by kernel_rfl) (by kernel_rfl) ?_
        repeat (go_big_quiet_step ((go_at_call 107;refine kept_of (v:=.bool true) ((l1same_any ts[k] t A1 A' c1 c' L L' B B' _ (HB2.out _).2.1 (HB2.out _).2.2 (HB2.out _).1.1 (HB2.out _).1.2).mono ?_);rintro e w' ⟨rfl,hb'⟩;exact ⟨by rw [HD.out],hb'⟩)))
        refine wpQuiet_nil ?_
        rintro _ ⟨x,rfl⟩
        have HX:=hd' x.ok
        go_wp2_with fail
        go_ret
        exact ⟨ret_int HV.out.symm,HB0.out.trans ((HBel.out.mono (by omega)).trans (HX.out.mono (by omega)))⟩
      · have HD:=hd' (show decide (ts[k]=t)=false by simpa using heq)
        have HE:=hd' heq
        clear heq
        refine wp_region_kept (by kernel_rfl) (by kernel_rfl) ?_
        repeat (go_big_quiet_step ((go_at_call 107;refine kept_of (v:=.bool false) ((l1same_any ts[k] t A1 A' c1 c' L L' B B' _ (HB2.out _).2.1 (HB2.out _).2.2 (HB2.out _).1.1 (HB2.out _).1.2).mono ?_);rintro e w' ⟨rfl,hb'⟩;exact ⟨by rw [HD.out],hb'⟩)))
        refine wpQuiet_nil ?_
        rintro _ ⟨x,rfl⟩
        have HX:=hd' x.ok
        go_wp2_with fail
        go_roundw
        case rel =>
          refine ⟨k+1,by omega,by go_num,fun j hj=>?_,HBel.out.trans (HX.out.mono HBel.out.size)⟩
          by_cases e:j=k
          · subst e
            rw [List.getElem?_eq_getElem hlt]
            intro h
            exact HE.out (Option.some.inj h)
          · exact HN.out j (by omega)
        case measure=>simp [intOf];omega
    · have HV:=hd' (lookI_none (ts:=ts) (t:=t) (fun h=>by
        obtain ⟨j,hj,e⟩:=List.mem_iff_getElem.1 h
        exact hne j (by omega) (by rw [List.getElem?_eq_getElem hj,e])))
      have HBel:=hd' hbel
      clear hbel hne
      go_wp2_with fail
      go_ret
      exact ⟨ret_int HV.out.symm,HB0.out.trans (HBel.out.mono (by omega))⟩
set_option maxHeartbeats 1000000 in
theorem numberOf_any (V:Value) (M:Nat) (hl:LOk ts) (hM:w.ownsMap (H:=Unit) Tryz.prog 223 (plainElem Tryz.prog 3) M ts.length (mapOf ts)) (hwf:WfT t) (hA':BytesIn w L' B' A' t.text) (hB':B'≤w.heap.size) :
    Calls Tryz.prog 122 #[.agg #[V,.map (some M)],.agg #[.int .i64 t.kind,.int .i64 t.a,.int .i64 t.b,.slice A' t.text.length c']] w fun e w'=>e=.returned (.int .i64 (lookI ts t))∧Below w.heap.size w w':=by
  have HA':=hd' hA'
  have HM:=hd' hM
  clear hA' hM
  go_enter Tryz.func122,Tryz.ntmps122
  go_wp2_with fail
  obtain ⟨W0,hW0⟩:∃W0,W0=(w.alloc (.cells #[V,.map (some M)] 125)).alloc (.cells #[.int .i64 t.kind,.int .i64 t.a,.int .i64 t.b,.slice A' t.text.length c'] 112):=⟨_,rfl⟩
  have hb0:Below w.heap.size w W0:=by subst hW0;exact ((Below.refl _ _).alloc (Nat.le_refl _) _).alloc (by simp) _
  have c0:W0.cell? ⟨w.heap.size,1,none⟩=some (.map (some M)):=by subst hW0;simp
  have d0:W0.cell? ⟨w.heap.size+1,0,none⟩=some (.int .i64 t.kind):=by subst hW0;simp
  have d1:W0.cell? ⟨w.heap.size+1,1,none⟩=some (.int .i64 t.a):=by subst hW0;simp
  have d2:W0.cell? ⟨w.heap.size+1,2,none⟩=some (.int .i64 t.b):=by subst hW0;simp
  have d3:W0.cell? ⟨w.heap.size+1,3,none⟩=some (.slice A' t.text.length c'):=by subst hW0;simp
  have hsz:W0.heap.size=w.heap.size+1+1:=by subst hW0;simp
  rw [←hW0]
  clear hW0
  have kb:∀x:Kp W0,x.val.cell? ⟨w.heap.size,1,none⟩=some (.map (some M)):=fun x=>x.cell c0
  have l0:∀x:Kp W0,x.val.cell? ⟨w.heap.size+1,0,none⟩=some (.int .i64 t.kind):=fun x=>x.cell d0
  have l1:∀x:Kp W0,x.val.cell? ⟨w.heap.size+1,1,none⟩=some (.int .i64 t.a):=fun x=>x.cell d1
  have l2:∀x:Kp W0,x.val.cell? ⟨w.heap.size+1,2,none⟩=some (.int .i64 t.b):=fun x=>x.cell d2
  have l3:∀x:Kp W0,x.val.cell? ⟨w.heap.size+1,3,none⟩=some (.slice A' t.text.length c'):=fun x=>x.cell d3
  have hby:∀x:Kp W0,BytesIn x.val L' B' A' t.text∧B'≤x.val.heap.size:=fun x=>⟨HA'.out.keep fun p _ hp=>(x.ok.cell (by omega)).trans (hb0.cell (by omega)),by have:=x.ok.size;omega⟩
  have HBy:=hd' hby
  have hmap:∀x:Kp W0,x.val.ownsMap (H:=Unit) Tryz.prog 223 (plainElem Tryz.prog 3) M ts.length (mapOf ts):=fun x=>(HM.out.kept (grown_of_below hb0) (by simp)).kept (grown_of_below x.ok) (by simp)
  obtain ⟨n,hn,hat⟩:∃n:Int,(lookI ts t=if t∈ts then n else -1)∧(mapOf ts).atKey (klOf t) (.lit (.int .i64 0))=.lit (.int .i64 n):=by
    obtain ⟨v,ps,_,hv⟩:=(hmap ⟨W0,Below.refl _ _⟩).look_ok Tryz.keyed Tryz.underlying123 (zeroInt _) (plainElem_int Tryz.underlying3 (by decide)) (key:=.agg #[.int .i64 t.kind,.int .i64 t.a,.int .i64 t.b,.string ⟨t.text.toArray⟩]) (keyOf_tk t hwf)
    obtain ⟨n,rfl,hz,_⟩:=plainElem_int_inv Tryz.underlying3 hv
    refine ⟨n,?_,congrArg Prod.fst hz⟩
    by_cases hm:t∈ts
    · rw [if_pos hm]
      obtain ⟨i,hi,rfl⟩:=List.mem_iff_getElem.1 hm
      have h1:=atKey_mapOf ts i hi (.lit (.int .i64 0)) (all_wf hl) (fun j k hj hk=>by
        obtain ⟨_,_,_,h3⟩:=hl.2 j hj
        exact h3 k hk)
      have h2:(mapOf ts).atKey (klOf ts[i]) (.lit (.int .i64 0))=.lit (.int .i64 n):=congrArg Prod.fst hz
      rw [h1] at h2
      rw [lookI_found hi rfl (fun j hj=>by
        obtain ⟨_,_,_,h3⟩:=hl.2 i hi
        rw [List.getElem?_eq_getElem (by omega)]
        intro e
        exact h3 j hj (Option.some.inj e))]
      injection h2 with h2
      injection h2
    · rw [if_neg hm,lookI_none hm]
  have hlook:∀x:Kp W0,(Instr.lookup 123 (.map (some M)) (.agg #[.int .i64 t.kind,.int .i64 t.a,.int .i64 t.b,.string ⟨t.text.toArray⟩]) true).run Tryz.prog x.val=.ok (.tuple #[.int .i64 n,.bool (decide (t∈ts))]) x.val:=fun x=>by
    obtain ⟨v,ps,hrun,hv⟩:=(hmap x).look_ok Tryz.keyed Tryz.underlying123 (zeroInt _) (plainElem_int Tryz.underlying3 (by decide)) (key:=.agg #[.int .i64 t.kind,.int .i64 t.a,.int .i64 t.b,.string ⟨t.text.toArray⟩]) (keyOf_tk t hwf)
    obtain ⟨n',rfl,hz,_⟩:=plainElem_int_inv Tryz.underlying3 hv
    have h2:=(congrArg Prod.fst hz).symm.trans hat
    injection h2 with h2
    injection h2 with _ h2
    rw [hrun,has_mapOf ts t (all_wf hl) hwf,h2]
  have HB0:=hd' hb0
  clear hmap hat c0 d0 d1 d2 d3 hby hb0
  by_cases hm:t∈ts
  · have HV:=hd' (show lookI ts t=n by rw [hn,if_pos hm])
    simp only [decide_eq_true hm] at hlook
    clear hm hn
    refine wp_region_kept (by kernel_rfl) (by kernel_rfl) ?_
    repeat (go_big_quiet_step ((go_at_call 179;refine kept_of (v:=.agg #[.int .i64 t.kind,.int .i64 t.a,.int .i64 t.b,.string ⟨t.text.toArray⟩]) (termKeyOf_any t A' c' L' B' _ (HBy.out _).1 (HBy.out _).2))))
    refine wpQuiet_nil ?_
    rintro _ ⟨x,rfl⟩
    have HX:=hd' x.ok
    go_wp2_with fail
    go_ret
    exact ⟨ret_int HV.out.symm,HB0.out.trans (HX.out.mono (by omega))⟩
  · have HV:=hd' (show lookI ts t = -1 by rw [hn,if_neg hm])
    simp only [decide_eq_false hm] at hlook
    clear hm hn
    refine wp_region_kept (by kernel_rfl) (by kernel_rfl) ?_
    repeat (go_big_quiet_step ((go_at_call 179;refine kept_of (v:=.agg #[.int .i64 t.kind,.int .i64 t.a,.int .i64 t.b,.string ⟨t.text.toArray⟩]) (termKeyOf_any t A' c' L' B' _ (HBy.out _).1 (HBy.out _).2))))
    refine wpQuiet_nil ?_
    rintro _ ⟨x,rfl⟩
    have HX:=hd' x.ok
    go_wp2_with fail
    go_ret
    exact ⟨ret_int HV.out.symm,HB0.out.trans (HX.out.mono (by omega))⟩
end
end Go.Proofs.YtckajeippfpojaaGreat
