import Derived.Test.YtckajeippfpojaaGreatZqGBody
import Derived.Test.YtckajeippfpojaaGreatZqVerify
import Derived.Deep.CutRange
import Derived.Test.YtckajeippfpojaaGreatZqRdM
namespace Go.Proofs.YtckajeippfpojaaGreat
open Go.RowKit Go.Maps
set_option maxRecDepth 100000
def kyI (ts:List Tm) (au:Int):Int:=lookI ts ⟨1,au,0,[]⟩
def mkB (ts:List Tm) (au sq pv:Int) (vec:List Int) (es:List En) (sg:Int):Bool:=decide (0≤kyI ts au) && decide (0≤lookI ts (bdT au sq pv vec es)) && verB ts (kyI ts au) sg (lookI ts (bdT au sq pv vec es))
noncomputable def sigB (ts:List Tm) (au sq pv:Int) (vec:List Int) (es:List En) (sg:Int):Bool:=lokB ts && manB au sq pv vec es sg && mkB ts au sq pv vec es sg
theorem lookI_eq {ts:List Tm} (hl:LOk ts) {t:Tm} {i:Nat} (hi:i < ts.length) (he:ts[i]=t):lookI ts t=i:=by
  refine lookI_found hi he fun j hj h=>?_
  obtain ⟨_,_,_,hd⟩:=hl.2 i hi
  have hj':j < ts.length:=by omega
  rw [List.getElem?_eq_getElem hj'] at h
  exact hd j hj (by injection h with h;rw [h,he])
theorem mark_eq {ts:List Tm} (hl:LOk ts) (k b sg:Int) (hs:0≤sg):(decide (0≤k) && decide (0≤b) && verB ts k sg b)=(lookI ts ⟨6,k,b,[]⟩ == sg):=by
  rw [Bool.eq_iff_iff]
  simp only [Bool.and_eq_true,decide_eq_true_eq,beq_iff_eq]
  constructor
  · rintro ⟨⟨_,_⟩,hv⟩
    unfold verB at hv
    simp only [Bool.and_eq_true,beq_iff_eq] at hv
    obtain ⟨⟨⟨h1,h2⟩,h3⟩,h4⟩:=hv
    have hr:=(hasB_iff ts.length sg).1 h1
    obtain ⟨i,rfl⟩:=Int.eq_ofNat_of_zero_le hr.1
    have hi:i < ts.length:=by omega
    rw [tmAt_nat ts i hi] at h2 h3 h4
    refine lookI_eq hl hi ?_
    obtain ⟨_,hok,_,_⟩:=hl.2 i hi
    unfold okB at hok
    rw [if_neg (by omega),if_neg (by omega),if_neg (by omega),if_pos (.inr (.inr h2))] at hok
    simp only [Bool.and_eq_true,beq_iff_eq] at hok
    have htx:ts[i].text=[]:=List.eq_nil_of_length_eq_zero (by have:=hok.2;omega)
    have he:ts[i]=⟨ts[i].kind,ts[i].a,ts[i].b,ts[i].text⟩:=rfl
    rw [he,h2,h3,h4,htx]
  · intro h
    rcases lookI_range ts ⟨6,k,b,[]⟩ with ⟨h1,_⟩|⟨_,_,hm⟩
    · omega
    · obtain ⟨i,hi,he⟩:=List.getElem_of_mem hm
      have hls:=lookI_eq hl hi he
      have hsg:sg=(i:Int):=by omega
      obtain ⟨_,hok,_,_⟩:=hl.2 i hi
      rw [he] at hok
      unfold okB at hok
      have hok':((((0≤k∧k < (i:Int))∧0≤b)∧b < (i:Int))):=by
        simpa using hok
      subst hsg
      refine ⟨⟨hok'.1.1.1,hok'.1.2⟩,?_⟩
      unfold verB
      rw [tmAt_nat ts i hi,he,(hasB_iff ts.length i).2 ⟨by omega,by omega⟩]
      simp
set_option maxHeartbeats 1000000 in
theorem l4key_any (au:Int) (w:World) :
    Calls Tryz.prog 110 #[.int .i64 au] w fun e w'=>e=.returned (.agg #[.int .i64 1,.int .i64 au,.int .i64 0,.slice none 0 0])∧Below w.heap.size w w':=by
  go_enter Tryz.func110,Tryz.ntmps110
  go_wp2_with fail
  have hX:=Bx.new' w #[.int .i64 1,.int .i64 au,.int .i64 0,.slice none 0 0] 112 [.int .i64 1,.int .i64 au,.int .i64 0,.slice none 0 0] rfl
  have hb:Below w.heap.size w (w.alloc (.cells #[.int .i64 1,.int .i64 au,.int .i64 0,.slice none 0 0] 112)):=(Below.refl _ _).alloc (Nat.le_refl _) _
  obtain ⟨W9,hW9⟩:∃W9,W9=w.alloc (.cells #[.int .i64 1,.int .i64 au,.int .i64 0,.slice none 0 0] 112):=⟨_,rfl⟩
  rw [←hW9] at hX hb ⊢
  obtain ⟨q0,q1,q2,q3⟩:=hX.four
  exact bodyPost_ret (v:=.agg #[.int .i64 1,.int .i64 au,.int .i64 0,.slice none 0 0]) (by simp [results,Tryz.results110,q0,q1,q2,q3,go_sem]) rfl ⟨rfl,hb⟩
set_option maxHeartbeats 4000000 in
theorem l4sigOk_any (AL:Option Addr) (ts:List Tm) (cL:Nat) (au sq pv:Int) (AV:Option Addr) (vec:List Int) (cv:Nat) (A:Option Addr) (es:List En) (c:Nat) (sg:Int) (w:World) (hT:TmsIn w 0 w.heap.size AL ts) (ht:ts.length≤1048576) (hV:IntsIn w 0 w.heap.size AV vec) (hA:EnsIn w 0 w.heap.size A es) (hv:vec.length≤1000) (hn:es.length≤1000) (hbk:ebulk es≤1048576) (hnp:∀i (hi:i < es.length),0 < es[i].name.length) :
    Calls Tryz.prog 76 #[.agg #[.slice AL ts.length cL],.agg #[.int .i64 au,.int .i64 sq,.int .i64 pv,.slice AV vec.length cv,.slice A es.length c,.int .i64 sg]] w fun e w'=>e=.returned (.bool (mkB ts au sq pv vec es sg))∧Below w.heap.size w w':=by
  obtain ⟨mb,hmb⟩:∃mb,mb=mkB ts au sq pv vec es sg:=⟨_,rfl⟩
  have HMb:=hd' (show mb=(decide (0≤kyI ts au) && decide (0≤lookI ts (bdT au sq pv vec es)) && verB ts (kyI ts au) sg (lookI ts (bdT au sq pv vec es))) from hmb)
  rw [←hmb]
  have HTm:=hd' (fun (X:World) (hX:Below w.heap.size w X)=>l4term_any au sq pv AV vec cv A es c sg X ((hV.keep fun p _ hp=>hX.cell hp).mono hX.size) ((hA.below hX).mono hX.size) hv hn hbk hnp)
  have HTs:=hd' (fun (X:World) (hX:Below w.heap.size w X)=>(hT.keep fun p _ hp=>hX.cell hp:TmsIn X 0 w.heap.size AL ts))
  have hlk:=fun (X:World) (hX:Below w.heap.size w X)=>l1lookup_any AL none ts ⟨1,au,0,[]⟩ cL 0 0 w.heap.size 0 0 X (hT.keep fun p _ hp=>hX.cell hp) hX.size (fun h=>absurd h (by simp)) (Nat.zero_le _) ht
  have hlb:=fun (X:World) (A3:Option Addr) (c3:Nat) (hX:Below w.heap.size w X) (hB:BytesIn X 0 X.heap.size A3 (bdV au sq pv vec es))=>l1lookup_any AL A3 ts (bdT au sq pv vec es) cL c3 0 w.heap.size 0 X.heap.size X (hT.keep fun p _ hp=>hX.cell hp) hX.size hB (Nat.le_refl _) ht
  obtain ⟨k,hk⟩:∃k,k=kyI ts au:=⟨_,rfl⟩
  have hk':lookI ts ⟨1,au,0,[]⟩=k:=hk.symm
  rw [hk'] at hlk
  rw [←hk] at HMb
  obtain ⟨b,hb⟩:∃b,b=lookI ts (bdT au sq pv vec es):=⟨_,rfl⟩
  rw [←hb] at hlb HMb
  have hvf:=fun (X:World) (hX:Below w.heap.size w X)=>l1verify_any AL ts cL 0 w.heap.size k sg b X (hT.keep fun p _ hp=>hX.cell hp) hX.size ht
  obtain ⟨vb,hvb⟩:∃vb,vb=verB ts k sg b:=⟨_,rfl⟩
  rw [←hvb] at hvf HMb
  obtain ⟨T,hTT⟩:∃T,T=bdV au sq pv vec es:=⟨_,rfl⟩
  rw [←hTT] at HTm
  have HLk:=hd' (show ∀X,Below w.heap.size w X→Calls Tryz.prog 136 #[.agg #[.slice AL ts.length cL],.agg #[.int .i64 1,.int .i64 au,.int .i64 0,.slice none 0 0]] X fun e w'=>e=.returned (.int .i64 k)∧Below X.heap.size X w' from hlk)
  have HLb:=hd' (show ∀X A3 c3,Below w.heap.size w X→BytesIn X 0 X.heap.size A3 T→Calls Tryz.prog 136 #[.agg #[.slice AL ts.length cL],.agg #[.int .i64 2,.int .i64 0,.int .i64 0,.slice A3 T.length c3]] X fun e w'=>e=.returned (.int .i64 b)∧Below X.heap.size X w' from fun X A3 c3 hX hB=>by subst hTT;exact hlb X A3 c3 hX hB)
  have HVf:=hd' hvf
  have HTT:=hd' hTT
  clear hlk hlb hvf hT hV hA hmb hk hk' hb hvb hTT hnp
  go_enter Tryz.func76,Tryz.ntmps76
  go_wp2_with fail
  obtain ⟨W0,hW0⟩:∃W0,W0=w.alloc (.cells #[.slice AL ts.length cL] 35):=⟨_,rfl⟩
  obtain ⟨W,hW⟩:∃W,W=W0.alloc (.cells #[.int .i64 au,.int .i64 sq,.int .i64 pv,.slice AV vec.length cv,.slice A es.length c,.int .i64 sg] 40):=⟨_,rfl⟩
  have hz0:W0.heap.size=w.heap.size+1:=by rw [hW0];simp
  have hz:w.heap.size+1 < W.heap.size:=by rw [hW];simp [hz0]
  have HXl:=hd' (show Bx W w.heap.size [.slice AL ts.length cL] by rw [hW];exact Bx.alloc (by rw [hW0];exact Bx.new' _ _ _ _ rfl) (by omega) _)
  have HXm:=hd' (show Bx W (w.heap.size+1) [.int .i64 au,.int .i64 sq,.int .i64 pv,.slice AV vec.length cv,.slice A es.length c,.int .i64 sg] by rw [hW,←hz0];exact Bx.new' _ _ _ _ rfl)
  have HBel:=hd' (show Below w.heap.size w W by rw [hW,hW0];exact ((Below.refl _ _).alloc (Nat.le_refl _) _).alloc (by simp) _)
  have HCell:=hd' (show ∀X,Below W.heap.size W X→X.cell? ⟨w.heap.size,0,none⟩=some (.slice AL ts.length cL)∧X.cell? ⟨w.heap.size+1,0,none⟩=some (.int .i64 au)∧X.cell? ⟨w.heap.size+1,1,none⟩=some (.int .i64 sq)∧X.cell? ⟨w.heap.size+1,2,none⟩=some (.int .i64 pv)∧X.cell? ⟨w.heap.size+1,3,none⟩=some (.slice AV vec.length cv)∧X.cell? ⟨w.heap.size+1,4,none⟩=some (.slice A es.length c)∧X.cell? ⟨w.heap.size+1,5,none⟩=some (.int .i64 sg) from fun X hX=>⟨(hX.cell (p:=⟨w.heap.size,0,none⟩) (by show w.heap.size < _;omega)).trans (HXl.out 0 (by simp)),(hX.cell (p:=⟨w.heap.size+1,0,none⟩) hz).trans (HXm.out 0 (by simp)),(hX.cell (p:=⟨w.heap.size+1,1,none⟩) hz).trans (HXm.out 1 (by simp)),(hX.cell (p:=⟨w.heap.size+1,2,none⟩) hz).trans (HXm.out 2 (by simp)),(hX.cell (p:=⟨w.heap.size+1,3,none⟩) hz).trans (HXm.out 3 (by simp)),(hX.cell (p:=⟨w.heap.size+1,4,none⟩) hz).trans (HXm.out 4 (by simp)),(hX.cell (p:=⟨w.heap.size+1,5,none⟩) hz).trans (HXm.out 5 (by simp))⟩)
  rw [←hW0,←hW]
  clear hW hW0 hz0
  have lw:w.heap.size+1 < W.heap.size:=hz
  have lw0:w.heap.size < W.heap.size:=by omega
  obtain ⟨l0,x0,x1,x2,x3,x4,x5⟩:=HCell.out W (Below.refl _ _)
  go_region_held3 (fun X=>X.cell? ⟨w.heap.size,0,none⟩=some (.slice AL ts.length cL)∧X.cell? ⟨w.heap.size+1,0,none⟩=some (.int .i64 au)∧X.cell? ⟨w.heap.size+1,1,none⟩=some (.int .i64 sq)∧X.cell? ⟨w.heap.size+1,2,none⟩=some (.int .i64 pv)∧X.cell? ⟨w.heap.size+1,3,none⟩=some (.slice AV vec.length cv)∧X.cell? ⟨w.heap.size+1,4,none⟩=some (.slice A es.length c)∧X.cell? ⟨w.heap.size+1,5,none⟩=some (.int .i64 sg))
    (first|with_reducible exact ⟨l0,x0,x1,x2,x3,x4,x5⟩|exact ⟨l0,x0,x1,x2,x3,x4,x5⟩|with_reducible exact ⟨m0,m1,m2,m3,m4,m5,m6⟩|with_reducible exact ⟨n0,n1,n2,n3,n4,n5,n6⟩|with_reducible exact ⟨o0,o1,o2,o3,o4,o5,o6⟩|with_reducible exact ⟨p0,p1,p2,p3,p4,p5,p6⟩)
    (first
      | (go_at_call 110
         refine (l4key_any au W.drew).mono ?_
         rintro r y1 ⟨rfl,hy1⟩
         have hw1:Below W.heap.size W y1:=(Below.refl W.heap.size W).drew.trans hy1
         have HW1:=hd' hw1
         obtain ⟨m0,m1,m2,m3,m4,m5,m6⟩:=HCell.out y1 hw1
         clear hy1 hw1)
      | (go_at_call 136
         with_reducible refine (HLk.out y1 (HBel.out.trans (HW1.out.mono (by omega)))).mono ?_
         rintro r y2 ⟨rfl,hy2⟩
         have hw2:Below W.heap.size W y2:=HW1.out.trans (hy2.mono HW1.out.size)
         have HW2:=hd' hw2
         obtain ⟨n0,n1,n2,n3,n4,n5,n6⟩:=HCell.out y2 hw2
         clear hy2 hw2)
      | (go_at_call 111
         refine (HTm.out y2 (HBel.out.trans (HW2.out.mono (by omega)))).mono ?_
         rintro r y3 ⟨A3,c3,rfl,hby,hy3⟩
         have hw3:Below W.heap.size W y3:=HW2.out.trans (hy3.mono HW2.out.size)
         have HW3:=hd' hw3
         have HBy:=hd' hby
         obtain ⟨o0,o1,o2,o3,o4,o5,o6⟩:=HCell.out y3 hw3
         clear hy3 hw3 hby)
      | (go_at_call 136
         with_reducible refine (HLb.out y3 A3 c3 (HBel.out.trans (HW3.out.mono (by omega))) HBy.out).mono ?_
         rintro r y4 ⟨rfl,hy4⟩
         have hw4:Below W.heap.size W y4:=HW3.out.trans (hy4.mono HW3.out.size)
         have HW4:=hd' hw4
         obtain ⟨p0,p1,p2,p3,p4,p5,p6⟩:=HCell.out y4 hw4
         clear hy4 hw4))
  have HB:=hd' (HBel.out.trans (HW4.out.mono (by omega)))
  clear HCell HTm HTs HLk HLb HXl HXm HW1 HW2 HW3 HW4 HBy HBel HTT
  by_cases hk:0≤k
  · by_cases hb:0≤b
    · go_wp2_with fail
      refine (HVf.out y4 HB.out).mono ?_
      rintro r y5 ⟨rfl,hy5⟩
      have HB5:=hd' (HB.out.trans (hy5.mono HB.out.size))
      clear hy5
      go_wp2_with fail
      go_ret
      refine ⟨?_,HB5.out⟩
      rw [HMb.out]
      simp [hk,hb]
    · go_wp2_with fail
      go_ret
      refine ⟨?_,HB.out⟩
      rw [HMb.out,decide_eq_false (by omega:¬0≤b)]
      simp
  · go_wp2_with fail
    go_ret
    refine ⟨?_,HB.out⟩
    rw [HMb.out,decide_eq_false (by omega:¬0≤k)]
    simp
end Go.Proofs.YtckajeippfpojaaGreat
namespace Go.Proofs.YtckajeippfpojaaGreat
open Go.RowKit Go.Maps
set_option maxRecDepth 100000
def BkAt (w:World) (V:Value) (f:Tm→Int):Prop :=
  (∃(ts:List Tm) (M:Nat),V=.map (some M)∧LOk ts∧w.ownsMap (H:=Unit) Tryz.prog 223 (plainElem Tryz.prog 3) M ts.length (mapOf ts)∧f=lookI ts)∨(V=.map none∧f=fun _=>-1)
theorem BkAt.below {w w':World} {V:Value} {f:Tm→Int} (h:BkAt w V f) (hb:Below w.heap.size w w'):BkAt w' V f:=by
  rcases h with ⟨ts,M,e,hl,hM,hf⟩|h
  · exact .inl ⟨ts,M,e,hl,map_below hM hb,hf⟩
  · exact .inr h
set_option maxHeartbeats 1000000 in
theorem numberOf_nil {L' B':Nat} {w:World} {A':Option Addr} {c':Nat} {t:Tm} (V1:Value) (hwf:WfT t) (hA':BytesIn w L' B' A' t.text) (hB':B'≤w.heap.size) :
    Calls Tryz.prog 122 #[.agg #[V1,.map none],.agg #[.int .i64 t.kind,.int .i64 t.a,.int .i64 t.b,.slice A' t.text.length c']] w fun e w'=>e=.returned (.int .i64 (-1))∧Below w.heap.size w w':=by
  have HA':=hd' hA'
  clear hA'
  go_enter Tryz.func122,Tryz.ntmps122
  go_wp2_with fail
  obtain ⟨W0,hW0⟩:∃W0,W0=(w.alloc (.cells #[V1,.map none] 125)).alloc (.cells #[.int .i64 t.kind,.int .i64 t.a,.int .i64 t.b,.slice A' t.text.length c'] 112):=⟨_,rfl⟩
  have hb0:Below w.heap.size w W0:=by subst hW0;exact ((Below.refl _ _).alloc (Nat.le_refl _) _).alloc (by simp) _
  have c0:W0.cell? ⟨w.heap.size,1,none⟩=some (.map none):=by subst hW0;simp
  have d0:W0.cell? ⟨w.heap.size+1,0,none⟩=some (.int .i64 t.kind):=by subst hW0;simp
  have d1:W0.cell? ⟨w.heap.size+1,1,none⟩=some (.int .i64 t.a):=by subst hW0;simp
  have d2:W0.cell? ⟨w.heap.size+1,2,none⟩=some (.int .i64 t.b):=by subst hW0;simp
  have d3:W0.cell? ⟨w.heap.size+1,3,none⟩=some (.slice A' t.text.length c'):=by subst hW0;simp
  have hsz:W0.heap.size=w.heap.size+1+1:=by subst hW0;simp
  rw [←hW0]
  clear hW0
  have kb:∀x:Kp W0,x.val.cell? ⟨w.heap.size,1,none⟩=some (.map none):=fun x=>x.cell c0
  have l0:∀x:Kp W0,x.val.cell? ⟨w.heap.size+1,0,none⟩=some (.int .i64 t.kind):=fun x=>x.cell d0
  have l1:∀x:Kp W0,x.val.cell? ⟨w.heap.size+1,1,none⟩=some (.int .i64 t.a):=fun x=>x.cell d1
  have l2:∀x:Kp W0,x.val.cell? ⟨w.heap.size+1,2,none⟩=some (.int .i64 t.b):=fun x=>x.cell d2
  have l3:∀x:Kp W0,x.val.cell? ⟨w.heap.size+1,3,none⟩=some (.slice A' t.text.length c'):=fun x=>x.cell d3
  have hby:∀x:Kp W0,BytesIn x.val L' B' A' t.text∧B'≤x.val.heap.size:=fun x=>⟨HA'.out.keep fun p _ hp=>(x.ok.cell (by omega)).trans (hb0.cell (by omega)),by have:=x.ok.size;omega⟩
  have HBy:=hd' hby
  have hlook:∀x:Kp W0,(Instr.lookup 123 (.map none) (.agg #[.int .i64 t.kind,.int .i64 t.a,.int .i64 t.b,.string ⟨t.text.toArray⟩]) true).run Tryz.prog x.val=.ok (.tuple #[.int .i64 0,.bool false]) x.val:=fun x =>
    Maps.look_nil true Tryz.keyed Tryz.underlying123 (zeroInt _) (key:=.agg #[.int .i64 t.kind,.int .i64 t.a,.int .i64 t.b,.string ⟨t.text.toArray⟩]) (keyOf_tk t hwf)
  have HB0:=hd' hb0
  clear c0 d0 d1 d2 d3 hby hb0
  refine wp_region_kept (by kernel_rfl) (by kernel_rfl) ?_
  repeat (go_big_quiet_step ((go_at_call 179;refine kept_of (v:=.agg #[.int .i64 t.kind,.int .i64 t.a,.int .i64 t.b,.string ⟨t.text.toArray⟩]) (termKeyOf_any t A' c' L' B' _ (HBy.out _).1 (HBy.out _).2))))
  refine wpQuiet_nil ?_
  rintro _ ⟨x,rfl⟩
  have HX:=hd' x.ok
  go_wp2_with fail
  go_ret
  exact ⟨ret_int (a:=-1) rfl,HB0.out.trans (HX.out.mono (by omega))⟩
theorem numberOf_bk {L' B':Nat} {w:World} {A':Option Addr} {c':Nat} {t:Tm} {V1 V2:Value} {f:Tm→Int} (h:BkAt w V2 f) (hwf:WfT t) (hA':BytesIn w L' B' A' t.text) (hB':B'≤w.heap.size) :
    Calls Tryz.prog 122 #[.agg #[V1,V2],.agg #[.int .i64 t.kind,.int .i64 t.a,.int .i64 t.b,.slice A' t.text.length c']] w fun e w'=>e=.returned (.int .i64 (f t))∧Below w.heap.size w w':=by
  rcases h with ⟨ts,M,rfl,hl,hM,rfl⟩|⟨rfl,rfl⟩
  · exact numberOf_any A' ts t c' L' B' w V1 M hl hM hwf hA' hB'
  · exact numberOf_nil V1 hwf hA' hB'
set_option maxHeartbeats 4000000 in
theorem bodyOf_bk (V1 V2:Value) (f:Tm→Int) (au sq pv a b c d:Int) (A:Option Addr) (es:List En) (cap:Nat) (sg:Int) (w:World) (hM:BkAt w V2 f) (hA:EvsIn w 0 w.heap.size A es) (hn:es.length≤1000) (hbk:ebulk es≤1048576) :
    Calls Tryz.prog 150 #[.agg #[V1,V2],.agg #[.int .i64 au,.int .i64 sq,.int .i64 pv,.int .i64 a,.int .i64 b,.int .i64 c,.int .i64 d,.slice A es.length cap,.int .i64 sg]] w fun e w'=>e=.returned (.int .i64 (f (bdT au sq pv [a,b,c,d] es)))∧Below w.heap.size w w':=by
  have HM:=hd' hM
  have HWf:=hd' (show WfT (bdT au sq pv [a,b,c,d] es) from ⟨(rfl:(Lit.int .i64 2).wf=true),(rfl:(Lit.int .i64 0).wf=true),(rfl:(Lit.int .i64 0).wf=true),by
    show (bdV au sq pv [a,b,c,d] es).length≤maxLen
    rw [bdV_length,tbV_length]
    have:[a,b,c,d].length=4:=rfl
    unfold maxLen
    omega⟩)
  have HTx:=hd' (fun (X:World) (hX:Below w.heap.size w X)=>text_any au sq pv a b c d A es cap X ((hA.below hX).mono hX.size) hn hbk)
  have HMp:=hd' (fun (X:World) (hX:Below w.heap.size w X)=>hM.below hX)
  clear hM hA
  go_enter Tryz.func150,Tryz.ntmps150
  go_wp2_with fail
  obtain ⟨W0,hW0⟩:∃W0,W0=w.alloc (.cells #[V1,V2] 125):=⟨_,rfl⟩
  obtain ⟨W,hW⟩:∃W,W=W0.alloc (.cells #[.int .i64 au,.int .i64 sq,.int .i64 pv,.int .i64 a,.int .i64 b,.int .i64 c,.int .i64 d,.slice A es.length cap,.int .i64 sg] 105):=⟨_,rfl⟩
  have hz0:W0.heap.size=w.heap.size+1:=by rw [hW0];simp
  have hz:w.heap.size+1 < W.heap.size:=by rw [hW];simp [hz0]
  have HXl:=hd' (show Bx W w.heap.size [V1,V2] by rw [hW];exact Bx.alloc (by rw [hW0];exact Bx.new' _ _ _ _ rfl) (by omega) _)
  have HXm:=hd' (show Bx W (w.heap.size+1) [.int .i64 au,.int .i64 sq,.int .i64 pv,.int .i64 a,.int .i64 b,.int .i64 c,.int .i64 d,.slice A es.length cap,.int .i64 sg] by rw [hW,←hz0];exact Bx.new' _ _ _ _ rfl)
  have HBel:=hd' (show Below w.heap.size w W by rw [hW,hW0];exact ((Below.refl _ _).alloc (Nat.le_refl _) _).alloc (by simp) _)
  have HCell:=hd' (show ∀X,Below W.heap.size W X→X.cell? ⟨w.heap.size,0,none⟩=some V1∧X.cell? ⟨w.heap.size,1,none⟩=some V2∧X.cell? ⟨w.heap.size+1,0,none⟩=some (.int .i64 au)∧X.cell? ⟨w.heap.size+1,1,none⟩=some (.int .i64 sq)∧X.cell? ⟨w.heap.size+1,2,none⟩=some (.int .i64 pv)∧X.cell? ⟨w.heap.size+1,3,none⟩=some (.int .i64 a)∧X.cell? ⟨w.heap.size+1,4,none⟩=some (.int .i64 b)∧X.cell? ⟨w.heap.size+1,5,none⟩=some (.int .i64 c)∧X.cell? ⟨w.heap.size+1,6,none⟩=some (.int .i64 d)∧X.cell? ⟨w.heap.size+1,7,none⟩=some (.slice A es.length cap)∧X.cell? ⟨w.heap.size+1,8,none⟩=some (.int .i64 sg) from fun X hX=>⟨(hX.cell (p:=⟨w.heap.size,0,none⟩) (by show w.heap.size < _;omega)).trans (HXl.out 0 (by simp)),(hX.cell (p:=⟨w.heap.size,1,none⟩) (by show w.heap.size < _;omega)).trans (HXl.out 1 (by simp)),(hX.cell (p:=⟨w.heap.size+1,0,none⟩) hz).trans (HXm.out 0 (by simp)),(hX.cell (p:=⟨w.heap.size+1,1,none⟩) hz).trans (HXm.out 1 (by simp)),(hX.cell (p:=⟨w.heap.size+1,2,none⟩) hz).trans (HXm.out 2 (by simp)),(hX.cell (p:=⟨w.heap.size+1,3,none⟩) hz).trans (HXm.out 3 (by simp)),(hX.cell (p:=⟨w.heap.size+1,4,none⟩) hz).trans (HXm.out 4 (by simp)),(hX.cell (p:=⟨w.heap.size+1,5,none⟩) hz).trans (HXm.out 5 (by simp)),(hX.cell (p:=⟨w.heap.size+1,6,none⟩) hz).trans (HXm.out 6 (by simp)),(hX.cell (p:=⟨w.heap.size+1,7,none⟩) hz).trans (HXm.out 7 (by simp)),(hX.cell (p:=⟨w.heap.size+1,8,none⟩) hz).trans (HXm.out 8 (by simp))⟩)
  rw [←hW0,←hW]
  clear hW hW0 hz0
  obtain ⟨x0,x1,x2,x3,x4,x5,x6,x7,x8,x9,x10⟩:=HCell.out W (Below.refl _ _)
  have lw:w.heap.size+1 < W.heap.size:=hz
  have lw0:w.heap.size < W.heap.size:=by omega
  go_region_held3 (fun X=>X.cell? ⟨w.heap.size,0,none⟩=some V1∧X.cell? ⟨w.heap.size,1,none⟩=some V2∧X.cell? ⟨w.heap.size+1,0,none⟩=some (.int .i64 au)∧X.cell? ⟨w.heap.size+1,1,none⟩=some (.int .i64 sq)∧X.cell? ⟨w.heap.size+1,2,none⟩=some (.int .i64 pv)∧X.cell? ⟨w.heap.size+1,3,none⟩=some (.int .i64 a)∧X.cell? ⟨w.heap.size+1,4,none⟩=some (.int .i64 b)∧X.cell? ⟨w.heap.size+1,5,none⟩=some (.int .i64 c)∧X.cell? ⟨w.heap.size+1,6,none⟩=some (.int .i64 d)∧X.cell? ⟨w.heap.size+1,7,none⟩=some (.slice A es.length cap)∧X.cell? ⟨w.heap.size+1,8,none⟩=some (.int .i64 sg))
    (first|with_reducible exact ⟨x0,x1,x2,x3,x4,x5,x6,x7,x8,x9,x10⟩|exact ⟨x0,x1,x2,x3,x4,x5,x6,x7,x8,x9,x10⟩|with_reducible exact ⟨y0,y1,y2,y3,y4,y5,y6,y7,y8,y9,y10⟩|with_reducible exact ⟨z0,z1,z2,z3,z4,z5,z6,z7,z8,z9,z10⟩)
    (first
      | (go_at_call 67
         refine (HTx.out W.drew HBel.out.drew).mono ?_
         rintro r w3 ⟨A3,c3,rfl,hby,hb3⟩
         have hb3w:Below W.heap.size W w3:=(Below.refl W.heap.size W).drew.trans hb3
         have HBy3:=hd' hby
         have HB3:=hd' (HBel.out.trans (hb3w.mono (by omega)))
         have HBw3:=hd' hb3w
         obtain ⟨y0,y1,y2,y3,y4,y5,y6,y7,y8,y9,y10⟩:=HCell.out w3 hb3w
         clear hby hb3 hb3w)
      | (go_at_call 122
         refine (numberOf_bk (L':=0) (B':=w3.heap.size) (V1:=V1) (t:=bdT au sq pv [a,b,c,d] es) (HMp.out w3 HB3.out) HWf.out HBy3.out (Nat.le_refl _)).mono ?_
         rintro r w4 ⟨rfl,hb4⟩
         have HB4:=hd' (HB3.out.trans (hb4.mono HB3.out.size))
         have hb4w:Below W.heap.size W w4:=HBw3.out.trans (hb4.mono HBw3.out.size)
         obtain ⟨z0,z1,z2,z3,z4,z5,z6,z7,z8,z9,z10⟩:=HCell.out w4 hb4w
         clear hb4 hb4w))
  clear HCell HTx HMp HM
  go_wp2_with fail
  go_ret
  exact ⟨rfl,HB4.out⟩
set_option maxHeartbeats 2000000 in
theorem bodyKey_any (au sq pv a b c d:Int) (V:Value) (w:World) :
    Calls Tryz.prog 66 #[.agg #[.int .i64 au,.int .i64 sq,.int .i64 pv,.int .i64 a,.int .i64 b,.int .i64 c,.int .i64 d,V]] w fun e w'=>e=.returned (.agg #[.int .i64 1,.int .i64 au,.int .i64 0,.slice none 0 0])∧Below w.heap.size w w':=by
  go_enter Tryz.func66,Tryz.ntmps66
  go_wp2_with fail
  obtain ⟨W0,hW0⟩:∃W0,W0=w.alloc (.cells #[.int .i64 au,.int .i64 sq,.int .i64 pv,.int .i64 a,.int .i64 b,.int .i64 c,.int .i64 d,V] 103):=⟨_,rfl⟩
  have hz0:W0.heap.size=w.heap.size+1:=by rw [hW0];simp
  have hb:Below w.heap.size w (W0.alloc (.cells #[.int .i64 1,.int .i64 au,.int .i64 0,.slice none 0 0] 112)):=by rw [hW0];exact ((Below.refl _ _).alloc (Nat.le_refl _) _).alloc (by simp) _
  have hX:=Bx.new' W0 #[.int .i64 1,.int .i64 au,.int .i64 0,.slice none 0 0] 112 [.int .i64 1,.int .i64 au,.int .i64 0,.slice none 0 0] rfl
  rw [hz0] at hX
  rw [←hW0]
  obtain ⟨W9,hW9⟩:∃W9,W9=W0.alloc (.cells #[.int .i64 1,.int .i64 au,.int .i64 0,.slice none 0 0] 112):=⟨_,rfl⟩
  rw [←hW9] at hX hb ⊢
  obtain ⟨q0,q1,q2,q3⟩:=hX.four
  exact bodyPost_ret (v:=.agg #[.int .i64 1,.int .i64 au,.int .i64 0,.slice none 0 0]) (by simp [results,Tryz.results66,q0,q1,q2,q3,go_sem]) rfl ⟨rfl,hb⟩
end Go.Proofs.YtckajeippfpojaaGreat
namespace Go.Proofs.YtckajeippfpojaaGreat
open Go.RowKit Go.Maps
set_option maxRecDepth 100000
theorem new4_cells {X wt:World} {v0 v1 v2 v3:Value} {t:TypeId} (h:Below (X.alloc (.cells #[v0,v1,v2,v3] t)).heap.size (X.alloc (.cells #[v0,v1,v2,v3] t)) wt) :
    Bx wt X.heap.size [v0,v1,v2,v3]∧(∀o,wt.frozen? ⟨X.heap.size,o,none⟩=false)∧X.heap.size < wt.heap.size:=by
  have hl:X.heap.size < (X.alloc (.cells #[v0,v1,v2,v3] t)).heap.size:=by simp
  have hf:∀o,(X.alloc (.cells #[v0,v1,v2,v3] t)).frozen? ⟨X.heap.size,o,none⟩=false:=fun o=>((Fresh.refl X).alloc _ _) ⟨X.heap.size,o,none⟩ (Nat.le_refl _)
  exact ⟨(Bx.new' X _ t _ rfl).below h hl,fun o=>(h.frozen (p:=⟨X.heap.size,o,none⟩) hl).trans (hf o),Nat.lt_of_lt_of_le hl h.size⟩
theorem new4_drew {X wt:World} {v0 v1 v2 v3:Value} {t:TypeId} (h:Below (X.alloc (.cells #[v0,v1,v2,v3] t)).drew.heap.size (X.alloc (.cells #[v0,v1,v2,v3] t)).drew wt) :
    Bx wt X.heap.size [v0,v1,v2,v3]∧(∀o,wt.frozen? ⟨X.heap.size,o,none⟩=false)∧X.heap.size < wt.heap.size :=
  new4_cells ((Below.refl _ _).drew.trans h)
theorem box_cells {X:World} {b:Nat} {v0 v1 v2 v3:Value} (h:Bx X b [v0,v1,v2,v3]∧(∀o,X.frozen? ⟨b,o,none⟩=false)∧b < X.heap.size) :
    (X.cell? ⟨b,0,none⟩=some v0∧X.cell? ⟨b,1,none⟩=some v1∧X.cell? ⟨b,2,none⟩=some v2∧X.cell? ⟨b,3,none⟩=some v3)∧X.frozen? ⟨b,0,none⟩=false∧X.frozen? ⟨b,1,none⟩=false∧X.frozen? ⟨b,2,none⟩=false∧X.frozen? ⟨b,3,none⟩=false∧b < X.heap.size :=
  ⟨h.1.four,h.2.1 0,h.2.1 1,h.2.1 2,h.2.1 3,h.2.2⟩
theorem box_below {X wt:World} {b:Nat} {l:List Value} (h:Bx X b l∧(∀o,X.frozen? ⟨b,o,none⟩=false)∧b < X.heap.size) (hb:Below X.heap.size X wt) :
    Bx wt b l∧(∀o,wt.frozen? ⟨b,o,none⟩=false)∧b < wt.heap.size :=
  ⟨h.1.below hb h.2.2,fun o=>(hb.frozen (p:=⟨b,o,none⟩) h.2.2).trans (h.2.1 o),Nat.lt_of_lt_of_le h.2.2 hb.size⟩
noncomputable def hmB (f:Tm→Int) (au sq pv:Int) (vec:List Int) (es:List En) (sg:Int):Bool:=f ⟨6,f ⟨1,au,0,[]⟩,f (bdT au sq pv vec es),[]⟩ == sg
set_option maxHeartbeats 4000000 in
theorem hasMarkOf_any (V1 V2:Value) (f:Tm→Int) (au sq pv a b c d:Int) (A:Option Addr) (es:List En) (cap:Nat) (sg:Int) (w:World) (hM:BkAt w V2 f) (hA:EvsIn w 0 w.heap.size A es) (hn:es.length≤1000) (hbk:ebulk es≤1048576) (hau:(Lit.int .i64 au).wf=true) (hfw:∀t,(Lit.int .i64 (f t)).wf=true) :
    Calls Tryz.prog 160 #[.agg #[V1,V2],.agg #[.int .i64 au,.int .i64 sq,.int .i64 pv,.int .i64 a,.int .i64 b,.int .i64 c,.int .i64 d,.slice A es.length cap,.int .i64 sg]] w fun e w'=>e=.returned (.bool (hmB f au sq pv [a,b,c,d] es sg))∧Below w.heap.size w w':=by
  obtain ⟨mb,hmb⟩:∃mb,mb=hmB f au sq pv [a,b,c,d] es sg:=⟨_,rfl⟩
  obtain ⟨k,hk⟩:∃k,k=f ⟨1,au,0,[]⟩:=⟨_,rfl⟩
  obtain ⟨n,hnn⟩:∃n,n=f (bdT au sq pv [a,b,c,d] es):=⟨_,rfl⟩
  obtain ⟨m,hm⟩:∃m,m=f ⟨6,k,n,[]⟩:=⟨_,rfl⟩
  have HMb:=hd' (show mb=(m == sg) by rw [hmb,hm,hk,hnn];rfl)
  rw [←hmb]
  have hky:=fun (X:World) (hX:Below w.heap.size w X)=>numberOf_bk (L':=0) (B':=0) (A':=none) (c':=0) (V1:=V1) (t:=⟨1,au,0,[]⟩) (hM.below hX) ⟨rfl,hau,rfl,Nat.zero_le _⟩ (fun h=>absurd h (by simp)) (Nat.zero_le _)
  rw [←hk] at hky
  have hwk:(Lit.int .i64 k).wf=true:=hk ▸ hfw _
  have hwn:(Lit.int .i64 n).wf=true:=hnn ▸ hfw _
  have hmk:=fun (X:World) (hX:Below w.heap.size w X)=>numberOf_bk (L':=0) (B':=0) (A':=none) (c':=0) (V1:=V1) (t:=⟨6,k,n,[]⟩) (hM.below hX) ⟨rfl,hwk,hwn,Nat.zero_le _⟩ (fun h=>absurd h (by simp)) (Nat.zero_le _)
  rw [←hm] at hmk
  have hbo:=fun (X:World) (hX:Below w.heap.size w X)=>bodyOf_bk V1 V2 f au sq pv a b c d A es cap sg X (hM.below hX) ((hA.below hX).mono hX.size) hn hbk
  rw [←hnn] at hbo
  have HKy:=hd' (show ∀X,Below w.heap.size w X→Calls Tryz.prog 122 #[.agg #[V1,V2],.agg #[.int .i64 1,.int .i64 au,.int .i64 0,.slice none 0 0]] X fun e w'=>e=.returned (.int .i64 k)∧Below X.heap.size X w' from hky)
  have HMk:=hd' (show ∀X,Below w.heap.size w X→Calls Tryz.prog 122 #[.agg #[V1,V2],.agg #[.int .i64 6,.int .i64 k,.int .i64 n,.slice none 0 0]] X fun e w'=>e=.returned (.int .i64 m)∧Below X.heap.size X w' from hmk)
  have HBo:=hd' hbo
  clear hky hmk hbo hM hA hmb hk hnn hm hfw hau hwk hwn
  go_enter Tryz.func160,Tryz.ntmps160
  go_wp2_with fail
  obtain ⟨W0,hW0⟩:∃W0,W0=w.alloc (.cells #[V1,V2] 125):=⟨_,rfl⟩
  obtain ⟨W,hW⟩:∃W,W=W0.alloc (.cells #[.int .i64 au,.int .i64 sq,.int .i64 pv,.int .i64 a,.int .i64 b,.int .i64 c,.int .i64 d,.slice A es.length cap,.int .i64 sg] 105):=⟨_,rfl⟩
  have hz0:W0.heap.size=w.heap.size+1:=by rw [hW0];simp
  have hz:w.heap.size+1 < W.heap.size:=by rw [hW];simp [hz0]
  have HXl:=hd' (show Bx W w.heap.size [V1,V2] by rw [hW];exact Bx.alloc (by rw [hW0];exact Bx.new' _ _ _ _ rfl) (by omega) _)
  have HXm:=hd' (show Bx W (w.heap.size+1) [.int .i64 au,.int .i64 sq,.int .i64 pv,.int .i64 a,.int .i64 b,.int .i64 c,.int .i64 d,.slice A es.length cap,.int .i64 sg] by rw [hW,←hz0];exact Bx.new' _ _ _ _ rfl)
  have HBel:=hd' (show Below w.heap.size w W by rw [hW,hW0];exact ((Below.refl _ _).alloc (Nat.le_refl _) _).alloc (by simp) _)
  have HCell:=hd' (show ∀X,Below W.heap.size W X→X.cell? ⟨w.heap.size,0,none⟩=some (V1)∧X.cell? ⟨w.heap.size,1,none⟩=some (V2)∧X.cell? ⟨w.heap.size+1,0,none⟩=some (.int .i64 au)∧X.cell? ⟨w.heap.size+1,1,none⟩=some (.int .i64 sq)∧X.cell? ⟨w.heap.size+1,2,none⟩=some (.int .i64 pv)∧X.cell? ⟨w.heap.size+1,3,none⟩=some (.int .i64 a)∧X.cell? ⟨w.heap.size+1,4,none⟩=some (.int .i64 b)∧X.cell? ⟨w.heap.size+1,5,none⟩=some (.int .i64 c)∧X.cell? ⟨w.heap.size+1,6,none⟩=some (.int .i64 d)∧X.cell? ⟨w.heap.size+1,7,none⟩=some (.slice A es.length cap)∧X.cell? ⟨w.heap.size+1,8,none⟩=some (.int .i64 sg) from fun X hX=>⟨(hX.cell (p:=⟨w.heap.size,0,none⟩) (by show w.heap.size < _;omega)).trans (HXl.out 0 (by simp)),(hX.cell (p:=⟨w.heap.size,1,none⟩) (by show w.heap.size < _;omega)).trans (HXl.out 1 (by simp)),(hX.cell (p:=⟨w.heap.size+1,0,none⟩) hz).trans (HXm.out 0 (by simp)),(hX.cell (p:=⟨w.heap.size+1,1,none⟩) hz).trans (HXm.out 1 (by simp)),(hX.cell (p:=⟨w.heap.size+1,2,none⟩) hz).trans (HXm.out 2 (by simp)),(hX.cell (p:=⟨w.heap.size+1,3,none⟩) hz).trans (HXm.out 3 (by simp)),(hX.cell (p:=⟨w.heap.size+1,4,none⟩) hz).trans (HXm.out 4 (by simp)),(hX.cell (p:=⟨w.heap.size+1,5,none⟩) hz).trans (HXm.out 5 (by simp)),(hX.cell (p:=⟨w.heap.size+1,6,none⟩) hz).trans (HXm.out 6 (by simp)),(hX.cell (p:=⟨w.heap.size+1,7,none⟩) hz).trans (HXm.out 7 (by simp)),(hX.cell (p:=⟨w.heap.size+1,8,none⟩) hz).trans (HXm.out 8 (by simp))⟩)
  rw [←hW0,←hW]
  clear hW hW0 hz0 HXl HXm
  have lw:w.heap.size+1 < W.heap.size:=hz
  have lw0:w.heap.size < W.heap.size:=by omega
  have HKy2:=hd' (fun (X:World) (hX:Below W.heap.size W X)=>HKy.out X (HBel.out.trans (hX.mono (Nat.le_of_lt lw0))))
  have HBo2:=hd' (fun (X:World) (hX:Below W.heap.size W X)=>HBo.out X (HBel.out.trans (hX.mono (Nat.le_of_lt lw0))))
  have HMk2:=hd' (fun (X:World) (hX:Below W.heap.size W X)=>HMk.out X (HBel.out.trans (hX.mono (Nat.le_of_lt lw0))))
  clear HKy HBo HMk
  go_upto_region 2 with fail
  go_cut [5] from 6 to 15 (fun s5 wx=>∃(bx:Nat),s5=.pointer (some ⟨bx,0,none⟩)∧W.heap.size≤bx∧bx < wx.heap.size∧Bx wx bx [.int .i64 6,.int .i64 k,.int .i64 n,.slice none 0 0]∧Below W.heap.size W wx)
  case first =>
    go_region_held3 (fun X=>X.cell? ⟨w.heap.size,0,none⟩=some (V1)∧X.cell? ⟨w.heap.size,1,none⟩=some (V2)∧X.cell? ⟨w.heap.size+1,0,none⟩=some (.int .i64 au)∧X.cell? ⟨w.heap.size+1,1,none⟩=some (.int .i64 sq)∧X.cell? ⟨w.heap.size+1,2,none⟩=some (.int .i64 pv)∧X.cell? ⟨w.heap.size+1,3,none⟩=some (.int .i64 a)∧X.cell? ⟨w.heap.size+1,4,none⟩=some (.int .i64 b)∧X.cell? ⟨w.heap.size+1,5,none⟩=some (.int .i64 c)∧X.cell? ⟨w.heap.size+1,6,none⟩=some (.int .i64 d)∧X.cell? ⟨w.heap.size+1,7,none⟩=some (.slice A es.length cap)∧X.cell? ⟨w.heap.size+1,8,none⟩=some (.int .i64 sg))
      (first|(refine HCell.out _ ?_;repeat first|with_reducible exact Below.refl _ _|with_reducible exact HB3.out|with_reducible exact HB2.out|with_reducible exact HB1.out|with_reducible apply Below.drew|with_reducible refine Below.setCell ?_ (by first|exact Nat.le_refl _|omega) _|with_reducible refine Below.alloc ?_ (by first|exact Nat.le_refl _|(simp;done)|(simp;omega)|omega) _))
      (first
        | (go_at_call 66
           refine (bodyKey_any au sq pv a b c d (.slice A es.length cap) _).mono ?_
           rintro r y1 ⟨rfl,hy1⟩
           have HB1:=hd' (show Below W.heap.size W y1 from Below.trans (by repeat first|with_reducible exact Below.refl _ _|with_reducible exact HB3.out|with_reducible exact HB2.out|with_reducible exact HB1.out|with_reducible apply Below.drew|with_reducible refine Below.setCell ?_ (by first|exact Nat.le_refl _|omega) _|with_reducible refine Below.alloc ?_ (by first|exact Nat.le_refl _|(simp;done)|(simp;omega)|omega) _) (hy1.mono (by first|exact Nat.le_refl _|omega|(simp;done)|(simp;omega))))
           try first|(have hbox:=new4_drew hy1)|(have hbox:=new4_cells hy1)
           have hs1:=HB1.out.size
           clear hy1)
        | (go_at_call 122
           with_reducible refine (HKy2.out _ ?_).mono ?_
           · repeat first|with_reducible exact Below.refl _ _|with_reducible exact HB3.out|with_reducible exact HB2.out|with_reducible exact HB1.out|with_reducible apply Below.drew|with_reducible refine Below.setCell ?_ (by first|exact Nat.le_refl _|omega) _|with_reducible refine Below.alloc ?_ (by first|exact Nat.le_refl _|(simp;done)|(simp;omega)|omega) _
           rintro r y2 ⟨rfl,hy2⟩
           have HB2:=hd' (show Below W.heap.size W y2 from Below.trans (by repeat first|with_reducible exact Below.refl _ _|with_reducible exact HB3.out|with_reducible exact HB2.out|with_reducible exact HB1.out|with_reducible apply Below.drew|with_reducible refine Below.setCell ?_ (by first|exact Nat.le_refl _|omega) _|with_reducible refine Below.alloc ?_ (by first|exact Nat.le_refl _|(simp;done)|(simp;omega)|omega) _) (hy2.mono (by first|exact Nat.le_refl _|omega|(simp;done)|(simp;omega))))
           try first|(have hbox:=new4_drew hy2)|(have hbox:=new4_cells hy2)|(have hbox:=box_below hbox hy2)
           have hs2:=HB2.out.size
           clear hy2)
        | (go_at_call 150
           refine (HBo2.out _ ?_).mono ?_
           · repeat first|with_reducible exact Below.refl _ _|with_reducible exact HB3.out|with_reducible exact HB2.out|with_reducible exact HB1.out|with_reducible apply Below.drew|with_reducible refine Below.setCell ?_ (by first|exact Nat.le_refl _|omega) _|with_reducible refine Below.alloc ?_ (by first|exact Nat.le_refl _|(simp;done)|(simp;omega)|omega) _
           rintro r y3 ⟨rfl,hy3⟩
           have HB3:=hd' (show Below W.heap.size W y3 from Below.trans (by repeat first|with_reducible exact Below.refl _ _|with_reducible exact HB3.out|with_reducible exact HB2.out|with_reducible exact HB1.out|with_reducible apply Below.drew|with_reducible refine Below.setCell ?_ (by first|exact Nat.le_refl _|omega) _|with_reducible refine Below.alloc ?_ (by first|exact Nat.le_refl _|(simp;done)|(simp;omega)|omega) _) (hy3.mono (by first|exact Nat.le_refl _|omega|(simp;done)|(simp;omega))))
           try first|(have hbox:=new4_drew hy3)|(have hbox:=new4_cells hy3)|(have hbox:=box_below hbox hy3)
           have hs3:=HB3.out.size
           try (have hbx:=box_cells hbox;obtain ⟨⟨q0,q1,q2,q3⟩,f0,f1,f2,f3,hlb⟩:=hbx)
           clear hy3))
    all_goals go_wp2_with fail
    all_goals go_meet
    · exact ⟨y3.heap.size,rfl,hs3,by simp,Bx.new' _ _ _ _ rfl,HB3.out.alloc hs3 _⟩
    · exact ⟨_,rfl,hs2,by simpa using hlb,put4_get hbox.1,put4_below HB3.out hs2⟩
    · exact ⟨_,rfl,hs1,by simpa using hlb,put4_get hbox.1,put4_below HB3.out hs1⟩
    · exact ⟨_,rfl,Nat.le_refl _,by simpa using hlb,put4_get hbox.1,put4_below HB3.out (Nat.le_refl _)⟩
  case rest =>
  obtain ⟨bx,rfl,hbx1,hbx2,hBx,hbw⟩:=hcut
  rename World=>W4
  have HB4:=hd' hbw
  have hs4:=hbw.size
  have HBx4:=hd' (⟨hBx,hbx2⟩:Bx W4 bx [.int .i64 6,.int .i64 k,.int .i64 n,.slice none 0 0]∧bx < W4.heap.size)
  obtain ⟨q0,q1,q2,q3⟩:=hBx.four
  obtain ⟨x0,x1,x2,x3,x4,x5,x6,x7,x8,x9,x10⟩:=HCell.out W4 hbw
  clear hBx hbw HKy2 HBo2
  go_wp2_with fail
  go_region_held3 (fun X=>X.cell? ⟨w.heap.size,0,none⟩=some (V1)∧X.cell? ⟨w.heap.size,1,none⟩=some (V2)∧X.cell? ⟨w.heap.size+1,0,none⟩=some (.int .i64 au)∧X.cell? ⟨w.heap.size+1,1,none⟩=some (.int .i64 sq)∧X.cell? ⟨w.heap.size+1,2,none⟩=some (.int .i64 pv)∧X.cell? ⟨w.heap.size+1,3,none⟩=some (.int .i64 a)∧X.cell? ⟨w.heap.size+1,4,none⟩=some (.int .i64 b)∧X.cell? ⟨w.heap.size+1,5,none⟩=some (.int .i64 c)∧X.cell? ⟨w.heap.size+1,6,none⟩=some (.int .i64 d)∧X.cell? ⟨w.heap.size+1,7,none⟩=some (.slice A es.length cap)∧X.cell? ⟨w.heap.size+1,8,none⟩=some (.int .i64 sg)∧X.cell? ⟨bx,0,none⟩=some (.int .i64 6)∧X.cell? ⟨bx,1,none⟩=some (.int .i64 k)∧X.cell? ⟨bx,2,none⟩=some (.int .i64 n)∧X.cell? ⟨bx,3,none⟩=some (.slice none 0 0))
    (first|with_reducible exact ⟨x0,x1,x2,x3,x4,x5,x6,x7,x8,x9,x10,q0,q1,q2,q3⟩|exact ⟨x0,x1,x2,x3,x4,x5,x6,x7,x8,x9,x10,q0,q1,q2,q3⟩|with_reducible exact ⟨z0,z1,z2,z3,z4,z5,z6,z7,z8,z9,z10,t0,t1,t2,t3⟩)
    (first
      | (go_at_call 122
         refine (HMk2.out _ HB4.out.drew).mono ?_
         rintro r y5 ⟨rfl,hy5⟩
         have HB5:=hd' (HB4.out.drew.trans (hy5.mono (show W.heap.size≤W4.heap.size from hs4)))
         obtain ⟨z0,z1,z2,z3,z4,z5,z6,z7,z8,z9,z10⟩:=HCell.out y5 HB5.out
         obtain ⟨t0,t1,t2,t3⟩:=(HBx4.out.1.below ((Below.refl _ _).drew.trans hy5) HBx4.out.2).four
         clear hy5))
  go_wp2_with fail
  go_ret
  exact ⟨ret_bool HMb.out.symm,HBel.out.trans (HB5.out.mono (by omega))⟩
end Go.Proofs.YtckajeippfpojaaGreat
namespace Go.Proofs.YtckajeippfpojaaGreat
open Go.RowKit Go.Maps
set_option maxRecDepth 100000
theorem wf64 {n:Int} (h:-9223372036854775808≤n) (k:n≤9223372036854775807):(Lit.int .i64 n).wf=true:=by
  have h1:IntKind.i64.min = -9223372036854775808:=by decide
  have h2:IntKind.i64.max=9223372036854775807:=by decide
  show (decide (IntKind.i64.min≤n) && decide (n≤IntKind.i64.max))=true
  rw [h1,h2,decide_eq_true h,decide_eq_true k]
  rfl
theorem man_wf {au sq pv sg:Int} {vec:List Int} {es:List En} (h:manB au sq pv vec es sg=true):(Lit.int .i64 au).wf=true:=by
  have:=manB_said h
  exact wf64 (by omega) (by omega)
noncomputable def sdB (f:Tm→Int) (au sq pv:Int) (vec:List Int) (es:List En) (sg:Int):Bool:=manB au sq pv vec es sg && hmB f au sq pv vec es sg
def RdSaid (f:Tm→Int) (au sq pv:Int) (vec:List Int) (es:List En) (sg:Int) (w:World) (e:Ending) (w':World):Prop :=
  ∃(x0 x1 x2 x3:Int) (A':Option Addr) (n c':Nat),e=.returned (.tuple #[.agg #[.int .i64 au,.int .i64 sq,.int .i64 pv,.int .i64 x0,.int .i64 x1,.int .i64 x2,.int .i64 x3,.slice A' n c',.int .i64 sg],.bool (sdB f au sq pv vec es sg)]) ∧
    (treeB vec es=true→vec=[x0,x1,x2,x3]∧n=es.length∧EvsIn w' w.heap.size w'.heap.size A' es)∧Below w.heap.size w w'
set_option maxHeartbeats 8000000 in
theorem readSaid_any (V1 V2:Value) (f:Tm→Int) (au sq pv:Int) (AV:Option Addr) (vec:List Int) (cv:Nat) (A:Option Addr) (es:List En) (c:Nat) (sg:Int) (w:World) (hM:BkAt w V2 f) (hfw:∀t,(Lit.int .i64 (f t)).wf=true) (hV:IntsIn w 0 w.heap.size AV vec) (hA:EnsIn w 0 w.heap.size A es) (hn:es.length≤1048576) (hbk:ebulk es≤1048576) :
    Calls Tryz.prog 197 #[.agg #[V1,V2],.agg #[.int .i64 au,.int .i64 sq,.int .i64 pv,.slice AV vec.length cv,.slice A es.length c,.int .i64 sg]] w (RdSaid f au sq pv vec es sg w):=by
  have HMb0:=hd' (show sdB f au sq pv vec es sg=(manB au sq pv vec es sg && hmB f au sq pv vec es sg) from rfl)
  have HMt:=hd' (@manB_tree au sq pv vec es sg)
  have HMs:=hd' (@manB_said au sq pv vec es sg)
  have HMw:=hd' (@man_wf au sq pv sg vec es)
  have HBk:=hd' (fun (X:World) (hX:Below w.heap.size w X)=>hM.below hX)
  have hmo:=fun W (hX:Below w.heap.size w W)=>readManifest_any au sq pv AV vec cv A es c sg W ((hV.keep fun p _ hp=>hX.cell hp).mono hX.size) ((hA.below hX).mono hX.size) hn hbk
  obtain ⟨mb,hmb⟩:∃mb,mb=manB au sq pv vec es sg:=⟨_,rfl⟩
  unfold RdMan at hmo
  rw [←hmb] at hmo HMb0 HMt HMs HMw
  have HMo:=hd' hmo
  have HFw:=hd' hfw
  clear hmo hV hA hM hmb hfw
  go_enter Tryz.func197,Tryz.ntmps197
  go_wp2_with fail
  obtain ⟨W0,hW0⟩:∃W0,W0=w.alloc (.cells #[V1,V2] 125):=⟨_,rfl⟩
  obtain ⟨W1,hW1⟩:∃W1,W1=W0.alloc (.cells #[.int .i64 au,.int .i64 sq,.int .i64 pv,.slice AV vec.length cv,.slice A es.length c,.int .i64 sg] 40):=⟨_,rfl⟩
  obtain ⟨W,hW⟩:∃W,W=W1.alloc (.cells #[.int .i64 0,.int .i64 0,.int .i64 0,.int .i64 0,.int .i64 0,.int .i64 0,.int .i64 0,.slice none 0 0,.int .i64 0] 105):=⟨_,rfl⟩
  have hz0:W0.heap.size=w.heap.size+1:=by rw [hW0];simp
  have hz1:W1.heap.size=w.heap.size+2:=by rw [hW1];simp [hz0]
  have hz:w.heap.size+2 < W.heap.size:=by rw [hW];simp [hz1]
  have hx0:Bx W0 w.heap.size [V1,V2]:=by rw [hW0];exact Bx.new' _ _ _ _ rfl
  have hx1:Bx W1 w.heap.size [V1,V2]:=by rw [hW1];exact hx0.alloc (by omega) _
  have HXb:=hd' (show Bx W w.heap.size [V1,V2] by rw [hW];exact hx1.alloc (by omega) _)
  clear hx0 hx1
  have HXm:=hd' (show Bx W (w.heap.size+1) [.int .i64 au,.int .i64 sq,.int .i64 pv,.slice AV vec.length cv,.slice A es.length c,.int .i64 sg] by rw [hW];exact Bx.alloc (by rw [hW1,←hz0];exact Bx.new' _ _ _ _ rfl) (by omega) _)
  have HY:=hd' (show Bx W (w.heap.size+2) [.int .i64 0,.int .i64 0,.int .i64 0,.int .i64 0,.int .i64 0,.int .i64 0,.int .i64 0,.slice none 0 0,.int .i64 0] by rw [hW,←hz1];exact Bx.new' _ _ _ _ rfl)
  have HF:=hd' (show ∀o,W.frozen? ⟨w.heap.size+2,o,none⟩=false from fun o=>by rw [hW,hW1,hW0];exact ((((Fresh.refl w).alloc _ _).alloc _ _).alloc _ _) ⟨w.heap.size+2,o,none⟩ (by show w.heap.size≤w.heap.size+2;omega))
  have HBel:=hd' (show Below w.heap.size w W by rw [hW,hW1,hW0];exact (((Below.refl _ _).alloc (Nat.le_refl _) _).alloc (by simp) _).alloc (by simp;omega) _)
  rw [←hW0,←hW1,←hW]
  clear hW hW1 hW0 hz0 hz1
  have v0:=HXm.out 0 (by simp)
  have v1:=HXm.out 1 (by simp)
  have v2:=HXm.out 2 (by simp)
  have v3:=HXm.out 3 (by simp)
  have v4:=HXm.out 4 (by simp)
  have v5:=HXm.out 5 (by simp)
  simp only [List.getElem_cons_succ,List.getElem_cons_zero] at v0 v1 v2 v3 v4 v5
  refine (HMo.out W HBel.out).mono ?_
  rintro e w1 ⟨x0,x1,x2,x3,A',n,c',rfl,htr,hb1⟩
  have HTr:=hd' htr
  have HB1:=hd' (HBel.out.trans (hb1.mono (by omega)))
  have HX1:=hd' (HXb.out.below hb1 (by omega))
  have HY1:=hd' (HY.out.below hb1 hz)
  have HF1:=hd' (show ∀o,w1.frozen? ⟨w.heap.size+2,o,none⟩=false from fun o=>(hb1.frozen (p:=⟨w.heap.size+2,o,none⟩) hz).trans (HF.out o))
  have hz1:=hb1.size
  have lw1:w.heap.size+2 < w1.heap.size:=by omega
  clear hb1 htr HXb HXm HY HF v0 v1 v2 v3 v4 v5 HMo
  go_wp2_with fail
  obtain ⟨W6,hW6⟩:∃W6,W6=w1.alloc (.cells #[.int .i64 au,.int .i64 sq,.int .i64 pv,.int .i64 x0,.int .i64 x1,.int .i64 x2,.int .i64 x3,.slice A' n c',.int .i64 sg] 105):=⟨_,rfl⟩
  have hb6:Below w1.heap.size w1 W6:=by rw [hW6];exact (Below.refl _ _).alloc (Nat.le_refl _) _
  have HZ6:=hd' (show Bx W6 w1.heap.size [.int .i64 au,.int .i64 sq,.int .i64 pv,.int .i64 x0,.int .i64 x1,.int .i64 x2,.int .i64 x3,.slice A' n c',.int .i64 sg] by rw [hW6];exact Bx.new' _ _ _ _ rfl)
  have hz6:w1.heap.size < W6.heap.size:=by rw [hW6];simp
  have HX6:=hd' (HX1.out.below hb6 (by omega))
  have HY6:=hd' (HY1.out.below hb6 lw1)
  have HF6:=hd' (show ∀o,W6.frozen? ⟨w.heap.size+2,o,none⟩=false from fun o=>(hb6.frozen (p:=⟨w.heap.size+2,o,none⟩) lw1).trans (HF1.out o))
  have HB6:=hd' (HB1.out.trans (hb6.mono (by omega)))
  have HTr6:=hd' (show treeB vec es=true→vec=[x0,x1,x2,x3]∧n=es.length∧EvsIn W6 W.heap.size w1.heap.size A' es from fun h=>⟨(HTr.out h).1,(HTr.out h).2.1,(HTr.out h).2.2.below hb6⟩)
  rw [←hW6]
  have lne:w1.heap.size≠w.heap.size+2:=by omega
  have lne2:w.heap.size≠w.heap.size+2:=by omega
  have lw6:w.heap.size+2 < W6.heap.size:=by omega
  have hWz:w.heap.size≤W.heap.size:=by omega
  clear hW6 hb6 HY1 HF1 HX1 HTr
  have HPack:=hd' (show ∀wt,Below W6.heap.size W6 wt→(wt.cell? ⟨w.heap.size,0,none⟩=some (V1)∧wt.cell? ⟨w.heap.size,1,none⟩=some (V2)∧wt.cell? ⟨w1.heap.size,0,none⟩=some (.int .i64 au)∧wt.cell? ⟨w1.heap.size,1,none⟩=some (.int .i64 sq)∧wt.cell? ⟨w1.heap.size,2,none⟩=some (.int .i64 pv)∧wt.cell? ⟨w1.heap.size,3,none⟩=some (.int .i64 x0)∧wt.cell? ⟨w1.heap.size,4,none⟩=some (.int .i64 x1)∧wt.cell? ⟨w1.heap.size,5,none⟩=some (.int .i64 x2)∧wt.cell? ⟨w1.heap.size,6,none⟩=some (.int .i64 x3)∧wt.cell? ⟨w1.heap.size,7,none⟩=some (.slice A' n c')∧wt.cell? ⟨w1.heap.size,8,none⟩=some (.int .i64 sg))∧(wt.cell? ⟨w.heap.size+2,0,none⟩=some (.int .i64 0)∧wt.cell? ⟨w.heap.size+2,1,none⟩=some (.int .i64 0)∧wt.cell? ⟨w.heap.size+2,2,none⟩=some (.int .i64 0)∧wt.cell? ⟨w.heap.size+2,3,none⟩=some (.int .i64 0)∧wt.cell? ⟨w.heap.size+2,4,none⟩=some (.int .i64 0)∧wt.cell? ⟨w.heap.size+2,5,none⟩=some (.int .i64 0)∧wt.cell? ⟨w.heap.size+2,6,none⟩=some (.int .i64 0)∧wt.cell? ⟨w.heap.size+2,7,none⟩=some (.slice none 0 0)∧wt.cell? ⟨w.heap.size+2,8,none⟩=some (.int .i64 0))∧(∀o,wt.frozen? ⟨w.heap.size+2,o,none⟩=false) from fun wt hb=>by
    have x:=HX6.out.below hb (by omega)
    have y:=HY6.out.below hb lw6
    have z:=HZ6.out.below hb hz6
    exact ⟨⟨x 0 (by simp),x 1 (by simp),z 0 (by simp),z 1 (by simp),z 2 (by simp),z 3 (by simp),z 4 (by simp),z 5 (by simp),z 6 (by simp),z 7 (by simp),z 8 (by simp)⟩,⟨y 0 (by simp),y 1 (by simp),y 2 (by simp),y 3 (by simp),y 4 (by simp),y 5 (by simp),y 6 (by simp),y 7 (by simp),y 8 (by simp)⟩,fun o=>(hb.frozen (p:=⟨w.heap.size+2,o,none⟩) lw6).trans (HF6.out o)⟩)
  have HFin:=hd' (show ∀wt,Below W6.heap.size W6 wt→∃W9,W9=putAll (w.heap.size+2) 0 [.int .i64 au,.int .i64 sq,.int .i64 pv,.int .i64 x0,.int .i64 x1,.int .i64 x2,.int .i64 x3,.slice A' n c',.int .i64 sg] wt∧(W9.cell? ⟨w.heap.size+2,0,none⟩=some (.int .i64 au)∧W9.cell? ⟨w.heap.size+2,1,none⟩=some (.int .i64 sq)∧W9.cell? ⟨w.heap.size+2,2,none⟩=some (.int .i64 pv)∧W9.cell? ⟨w.heap.size+2,3,none⟩=some (.int .i64 x0)∧W9.cell? ⟨w.heap.size+2,4,none⟩=some (.int .i64 x1)∧W9.cell? ⟨w.heap.size+2,5,none⟩=some (.int .i64 x2)∧W9.cell? ⟨w.heap.size+2,6,none⟩=some (.int .i64 x3)∧W9.cell? ⟨w.heap.size+2,7,none⟩=some (.slice A' n c')∧W9.cell? ⟨w.heap.size+2,8,none⟩=some (.int .i64 sg))∧(treeB vec es=true→vec=[x0,x1,x2,x3]∧n=es.length∧EvsIn W9 w.heap.size W9.heap.size A' es)∧Below w.heap.size w W9 from fun wt hb=>by
    obtain ⟨_,⟨y0,y1,y2,y3,y4,y5,y6,y7,y8⟩,_⟩:=HPack.out wt hb
    have hq:=(putAll_bx (vs:=[.int .i64 au,.int .i64 sq,.int .i64 pv,.int .i64 x0,.int .i64 x1,.int .i64 x2,.int .i64 x3,.slice A' n c',.int .i64 sg]) (us:=[.int .i64 0,.int .i64 0,.int .i64 0,.int .i64 0,.int .i64 0,.int .i64 0,.int .i64 0,.slice none 0 0,.int .i64 0]) (w:=wt) (b:=w.heap.size+2) (by
      intro j hj
      match j,hj with
      | 0,_=>exact y0
      | 1,_=>exact y1
      | 2,_=>exact y2
      | 3,_=>exact y3
      | 4,_=>exact y4
      | 5,_=>exact y5
      | 6,_=>exact y6
      | 7,_=>exact y7
      | 8,_=>exact y8
      | j+9,hj=>exact absurd hj (by simp)) rfl)
    refine ⟨_,rfl,⟨hq 0 (by simp),hq 1 (by simp),hq 2 (by simp),hq 3 (by simp),hq 4 (by simp),hq 5 (by simp),hq 6 (by simp),hq 7 (by simp),hq 8 (by simp)⟩,fun h=>?_,putAll_below (HB6.out.trans (hb.mono (by omega))) (by omega)⟩
    obtain ⟨h1,h2,h3⟩:=HTr6.out h
    have hzt:=hb.size
    exact ⟨h1,h2,((((h3.below (B:=w1.heap.size) (hb.mono (by omega))).keep (w':=putAll (w.heap.size+2) 0 [.int .i64 au,.int .i64 sq,.int .i64 pv,.int .i64 x0,.int .i64 x1,.int .i64 x2,.int .i64 x3,.slice A' n c',.int .i64 sg] wt) fun q hq _=>putAll_other (by omega)).low (by omega)).mono (by rw [putAll_size];omega))⟩)
  cases mb with
  | false =>
    obtain ⟨⟨k0,k1,s0,s1,s2,s3,s4,s5,s6,s7,s8⟩,⟨y0,y1,y2,y3,y4,y5,y6,y7,y8⟩,f0⟩:=HPack.out W6 (Below.refl _ _)
    clear HPack
    have f00:=f0 0
    have f10:=f0 1
    have f20:=f0 2
    have f30:=f0 3
    have f40:=f0 4
    have f50:=f0 5
    have f60:=f0 6
    have f70:=f0 7
    have f80:=f0 8
    go_wp2_with fail
    go_big_region
    obtain ⟨W9,hW9,⟨r0,r1,r2,r3,r4,r5,r6,r7,r8⟩,hE9,hB9⟩:=HFin.out W6 (Below.refl _ _)
    simp only [putAll] at hW9
    rw [←hW9]
    have HE9:=hd' hE9
    have HB9:=hd' hB9
    clear hW9 hE9 hB9
    go_wp2_with fail
    refine bodyPost_ret (v:=.tuple #[.agg #[.int .i64 au,.int .i64 sq,.int .i64 pv,.int .i64 x0,.int .i64 x1,.int .i64 x2,.int .i64 x3,.slice A' n c',.int .i64 sg],.bool false]) (by simp [results,Tryz.results197,r0,r1,r2,r3,r4,r5,r6,r7,r8,go_sem]) rfl ?_
    exact ⟨x0,x1,x2,x3,A',n,c',by rw [HMb0.out];rfl,HE9.out,HB9.out.drew⟩
  | true =>
  obtain ⟨hvx,hne,hev⟩:=HTr6.out (HMt.out rfl)
  have hs8:=(HMs.out rfl).2.2.2.2.2.2.1
  have hhm:=fun (X:World) (hX:Below W6.heap.size W6 X)=>hasMarkOf_any V1 V2 f au sq pv x0 x1 x2 x3 A' es c' sg X (HBk.out X (HB6.out.trans (hX.mono (by omega)))) (((hev.below (B:=w1.heap.size) (hX.mono (by omega))).low (Nat.zero_le _)).mono (by have:=hX.size;omega)) (by omega) hbk (HMw.out rfl) HFw.out
  rw [←hvx] at hhm
  obtain ⟨hb,hhb⟩:∃hb,hb=hmB f au sq pv vec es sg:=⟨_,rfl⟩
  rw [←hhb] at hhm HMb0
  rw [←hne] at hhm
  have HHm:=hd' hhm
  clear hhm hhb hvx hne hev
  obtain ⟨⟨k0,k1,s0,s1,s2,s3,s4,s5,s6,s7,s8⟩,⟨y0,y1,y2,y3,y4,y5,y6,y7,y8⟩,f0⟩:=HPack.out W6 (Below.refl _ _)
  go_wp2_with fail
  go_region_held3 (fun X=>X.cell? ⟨w.heap.size,0,none⟩=some (V1)∧X.cell? ⟨w.heap.size,1,none⟩=some (V2)∧X.cell? ⟨w1.heap.size,0,none⟩=some (.int .i64 au)∧X.cell? ⟨w1.heap.size,1,none⟩=some (.int .i64 sq)∧X.cell? ⟨w1.heap.size,2,none⟩=some (.int .i64 pv)∧X.cell? ⟨w1.heap.size,3,none⟩=some (.int .i64 x0)∧X.cell? ⟨w1.heap.size,4,none⟩=some (.int .i64 x1)∧X.cell? ⟨w1.heap.size,5,none⟩=some (.int .i64 x2)∧X.cell? ⟨w1.heap.size,6,none⟩=some (.int .i64 x3)∧X.cell? ⟨w1.heap.size,7,none⟩=some (.slice A' n c')∧X.cell? ⟨w1.heap.size,8,none⟩=some (.int .i64 sg))
    (first|with_reducible exact ⟨k0,k1,s0,s1,s2,s3,s4,s5,s6,s7,s8⟩|with_reducible exact ⟨j0,j1,t0,t1,t2,t3,t4,t5,t6,t7,t8⟩|with_reducible exact ⟨(other9 lne2).trans j0,(other9 lne2).trans j1,(other9 lne).trans t0,(other9 lne).trans t1,(other9 lne).trans t2,(other9 lne).trans t3,(other9 lne).trans t4,(other9 lne).trans t5,(other9 lne).trans t6,(other9 lne).trans t7,(other9 lne).trans t8⟩|exact ⟨k0,k1,s0,s1,s2,s3,s4,s5,s6,s7,s8⟩)
    (first
      | (go_at_call 160
         refine (HHm.out _ (Below.refl _ _).drew).mono ?_
         rintro r wt ⟨rfl,hbt⟩
         have hbrt:Below W6.heap.size W6 wt:=(Below.refl W6.heap.size W6).drew.trans hbt
         obtain ⟨⟨j0,j1,t0,t1,t2,t3,t4,t5,t6,t7,t8⟩,⟨u0,u1,u2,u3,u4,u5,u6,u7,u8⟩,g0⟩:=HPack.out wt hbrt
         have g00:=g0 0
         have g10:=g0 1
         have g20:=g0 2
         have g30:=g0 3
         have g40:=g0 4
         have g50:=g0 5
         have g60:=g0 6
         have g70:=g0 7
         have g80:=g0 8
         have HRt:=hd' hbrt
         clear hbt hbrt))
  obtain ⟨W9,hW9,⟨r0,r1,r2,r3,r4,r5,r6,r7,r8⟩,hE9,hB9⟩:=HFin.out wt HRt.out
  simp only [putAll] at hW9
  rw [←hW9]
  have HE9:=hd' hE9
  have HB9:=hd' hB9
  clear hW9 hE9 hB9
  go_wp2_with fail
  refine bodyPost_ret (v:=.tuple #[.agg #[.int .i64 au,.int .i64 sq,.int .i64 pv,.int .i64 x0,.int .i64 x1,.int .i64 x2,.int .i64 x3,.slice A' n c',.int .i64 sg],.bool hb]) (by simp [results,Tryz.results197,r0,r1,r2,r3,r4,r5,r6,r7,r8,go_sem]) rfl ?_
  exact ⟨x0,x1,x2,x3,A',n,c',by rw [HMb0.out];simp,HE9.out,HB9.out⟩
end Go.Proofs.YtckajeippfpojaaGreat
namespace Go.Proofs.YtckajeippfpojaaGreat
open Go.RowKit Go.Maps
set_option maxRecDepth 100000
theorem look_wf {ts:List Tm} (ht:ts.length≤1048576):∀t,(Lit.int .i64 (lookI ts t)).wf=true:=fun t=>by
  rcases lookI_range ts t with ⟨h,_⟩|⟨h1,h2,_⟩
  · rw [h];rfl
  · exact wf64 (by omega) (by omega)
theorem mk_eq {ts:List Tm} (hl:LOk ts) {au sq pv sg:Int} {vec:List Int} {es:List En} (hs:0≤sg):mkB ts au sq pv vec es sg=hmB (lookI ts) au sq pv vec es sg :=
  mark_eq hl _ _ sg hs
theorem sig_eq {ts:List Tm} {au sq pv:Int} {vec:List Int} {es:List En} {sg:Int} (hl:LOk ts):sigB ts au sq pv vec es sg=sdB (lookI ts) au sq pv vec es sg:=by
  unfold sigB sdB
  rw [lokB_true hl]
  cases h:manB au sq pv vec es sg with
  | false=>rfl
  | true=>rw [mk_eq hl (manB_said h).2.2.2.2.2.2.2.1];rfl
set_option maxHeartbeats 4000000 in
theorem specSigOk_any (AL:Option Addr) (ts:List Tm) (cL:Nat) (au sq pv:Int) (AV:Option Addr) (vec:List Int) (cv:Nat) (A:Option Addr) (es:List En) (c:Nat) (sg:Int) (w:World) (hT:TmsIn w 0 w.heap.size AL ts) (ht:ts.length≤1048576) (htb:bulk ts≤1048576) (hV:IntsIn w 0 w.heap.size AV vec) (hA:EnsIn w 0 w.heap.size A es) (hv:vec.length≤1048576) (hn:es.length≤1048576) (hbk:ebulk es≤1048576) (hc:es.length≤c:=by omega) :
    Calls Tryz.prog 138 #[.agg #[.slice AL ts.length cL],.agg #[.int .i64 au,.int .i64 sq,.int .i64 pv,.slice AV vec.length cv,.slice A es.length c,.int .i64 sg]] w fun e w'=>e=.returned (.bool (sigB ts au sq pv vec es sg))∧Below w.heap.size w w':=by
  have HT:=hd' hT
  have HV:=hd' hV
  have HA:=hd' hA
  have HM:=hd' (@manB_tree au sq pv vec es sg)
  have HM2:=hd' (@manB_said au sq pv vec es sg)
  have HTv:=hd' (@treeB_vec0 vec es)
  have HTn:=hd' (@treeB_names0 vec es)
  have hlo:=fun W (hX:Below w.heap.size w W)=>specLedgerOk_any AL ts cL 0 w.heap.size W (hT.keep fun p _ hp=>hX.cell hp) hX.size ht htb
  have hmo:=fun W (hX:Below w.heap.size w W)=>specManifestOk_any au sq pv AV vec cv A es c sg W ((hV.keep fun p _ hp=>hX.cell hp).mono hX.size) ((hA.below hX).mono hX.size) hv hn hbk hc
  obtain ⟨I,hI⟩:∃I,I=sigB ts au sq pv vec es sg:=⟨_,rfl⟩
  have HI:=hd' (show I=(lokB ts && manB au sq pv vec es sg && mkB ts au sq pv vec es sg) from hI)
  rw [←hI]
  obtain ⟨lb,hlb⟩:∃lb,lb=lokB ts:=⟨_,rfl⟩
  rw [←hlb] at hlo HI
  obtain ⟨mb,hmb⟩:∃mb,mb=manB au sq pv vec es sg:=⟨_,rfl⟩
  rw [←hmb] at hmo HI HM HM2
  have HLo:=hd' hlo
  have HMo:=hd' hmo
  clear hlo hmo hI hlb hmb hT hV hA
  go_enter Tryz.func138,Tryz.ntmps138
  go_wp2_with fail
  obtain ⟨W0,hW0⟩:∃W0,W0=w.alloc (.cells #[.slice AL ts.length cL] 35):=⟨_,rfl⟩
  obtain ⟨W,hW⟩:∃W,W=W0.alloc (.cells #[.int .i64 au,.int .i64 sq,.int .i64 pv,.slice AV vec.length cv,.slice A es.length c,.int .i64 sg] 40):=⟨_,rfl⟩
  have hz0:W0.heap.size=w.heap.size+1:=by rw [hW0];simp
  have hz:w.heap.size+1 < W.heap.size:=by rw [hW];simp [hz0]
  have HXl:=hd' (show Bx W w.heap.size [.slice AL ts.length cL] by rw [hW];exact Bx.alloc (by rw [hW0];exact Bx.new' _ _ _ _ rfl) (by omega) _)
  have HXm:=hd' (show Bx W (w.heap.size+1) [.int .i64 au,.int .i64 sq,.int .i64 pv,.slice AV vec.length cv,.slice A es.length c,.int .i64 sg] by rw [hW,←hz0];exact Bx.new' _ _ _ _ rfl)
  have HBel:=hd' (show Below w.heap.size w W by rw [hW,hW0];exact ((Below.refl _ _).alloc (Nat.le_refl _) _).alloc (by simp) _)
  have HCell:=hd' (show ∀X,Below W.heap.size W X→X.cell? ⟨w.heap.size,0,none⟩=some (.slice AL ts.length cL)∧X.cell? ⟨w.heap.size+1,0,none⟩=some (.int .i64 au)∧X.cell? ⟨w.heap.size+1,1,none⟩=some (.int .i64 sq)∧X.cell? ⟨w.heap.size+1,2,none⟩=some (.int .i64 pv)∧X.cell? ⟨w.heap.size+1,3,none⟩=some (.slice AV vec.length cv)∧X.cell? ⟨w.heap.size+1,4,none⟩=some (.slice A es.length c)∧X.cell? ⟨w.heap.size+1,5,none⟩=some (.int .i64 sg) from fun X hX=>⟨(hX.cell (p:=⟨w.heap.size,0,none⟩) (by show w.heap.size < _;omega)).trans (HXl.out 0 (by simp)),(hX.cell (p:=⟨w.heap.size+1,0,none⟩) hz).trans (HXm.out 0 (by simp)),(hX.cell (p:=⟨w.heap.size+1,1,none⟩) hz).trans (HXm.out 1 (by simp)),(hX.cell (p:=⟨w.heap.size+1,2,none⟩) hz).trans (HXm.out 2 (by simp)),(hX.cell (p:=⟨w.heap.size+1,3,none⟩) hz).trans (HXm.out 3 (by simp)),(hX.cell (p:=⟨w.heap.size+1,4,none⟩) hz).trans (HXm.out 4 (by simp)),(hX.cell (p:=⟨w.heap.size+1,5,none⟩) hz).trans (HXm.out 5 (by simp))⟩)
  rw [←hW0,←hW]
  clear hW hW0 hz0
  refine (HLo.out W HBel.out).mono ?_
  rintro e w1 ⟨rfl,hb1⟩
  have HB1:=hd' (HBel.out.trans (hb1.mono (by omega)))
  have HBw1:=hd' hb1
  have hz1:=hb1.size
  have lw:w.heap.size+1 < w1.heap.size:=by omega
  have lw0:w.heap.size < w1.heap.size:=by omega
  obtain ⟨l0,x0,x1,x2,x3,x4,x5⟩:=HCell.out w1 hb1
  clear hb1
  cases lb with
  | false =>
    have HI0:=hd' (show I=false by rw [HI.out];simp)
    go_wp2_with fail
    go_ret
    exact ⟨ret_bool (a:=false) HI0.out.symm,HB1.out⟩
  | true =>
  go_wp2_with fail
  refine (HMo.out w1 HB1.out).mono ?_
  rintro e w2 ⟨rfl,hb2⟩
  have HB2:=hd' (HB1.out.trans (hb2.mono (by omega)))
  have HBw2:=hd' (HBw1.out.trans (hb2.mono (by omega)))
  have hz2:=hb2.size
  clear hb2 l0 x0 x1 x2 x3 x4 x5
  obtain ⟨l0,x0,x1,x2,x3,x4,x5⟩:=HCell.out w2 HBw2.out
  have lw:w.heap.size+1 < w2.heap.size:=by omega
  have lw0:w.heap.size < w2.heap.size:=by omega
  cases mb with
  | false =>
    have HI0:=hd' (show I=false by rw [HI.out];simp)
    go_wp2_with fail
    go_ret
    exact ⟨ret_bool (a:=false) HI0.out.symm,HB2.out⟩
  | true =>
  have HI0:=hd' (show I=mkB ts au sq pv vec es sg by rw [HI.out];simp)
  have hs8:=(HM2.out rfl).2.2.2.2.2.2.1
  have hvl:vec.length≤1000:=by have:=HTv.out (HM.out rfl);omega
  have HNp:=hd' (HTn.out (HM.out rfl))
  have HSg:=hd' (fun (X:World) (hX:Below w.heap.size w X)=>l4sigOk_any AL ts cL au sq pv AV vec cv A es c sg X ((HT.out.keep fun p _ hp=>hX.cell hp).mono hX.size) ht ((HV.out.keep fun p _ hp=>hX.cell hp).mono hX.size) ((HA.out.below hX).mono hX.size) hvl (by omega) hbk HNp.out)
  clear HM HM2 HI HTv HTn HLo HMo HNp HT HV HA
  go_wp2_with fail
  refine (HSg.out w2 HB2.out).mono ?_
  rintro e w3 ⟨rfl,hb3⟩
  have HB3:=hd' (HB2.out.trans (hb3.mono (by omega)))
  clear hb3 HSg
  go_wp2_with fail
  go_ret
  exact ⟨ret_bool HI0.out.symm,HB3.out⟩
end Go.Proofs.YtckajeippfpojaaGreat
