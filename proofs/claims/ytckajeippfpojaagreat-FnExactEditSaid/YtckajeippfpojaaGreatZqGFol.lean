import Derived.Test.YtckajeippfpojaaGreatZqFolS
namespace Go.Proofs.YtckajeippfpojaaGreat
open Go.RowKit Go.Maps
set_option maxRecDepth 100000
theorem BkAt.set {w:World} {V:Value} {f:Tm→Int} {p:Addr} {v:Value} (h:BkAt w V f) (hp:w.cell? p=some v) (u:Value):BkAt (w.setCell p u) V f:=by
  rcases h with ⟨ts,M,e,hl,hM,hf⟩|h
  · refine .inl ⟨ts,M,e,hl,hM.setCell ?_ _,hf⟩
    rintro rfl
    obtain ⟨_,_,hb,_⟩:=hM
    simp [World.cell?,hb] at hp
  · exact .inr h
theorem readLedger_bk (AL:Option Addr) (ts:List Tm) (cL:Nat) (w:World) (hT:TmsIn w 0 w.heap.size AL ts) (ht:ts.length≤1048576) (htb:bulk ts≤1048576) :
    Calls Tryz.prog 118 #[.agg #[.slice AL ts.length cL]] w fun e w'=>∃(AB:Option Addr) (nB cB:Nat) (MB:Option Nat) (f:Tm→Int),e=.returned (.tuple #[.agg #[.slice AB nB cB,.map MB],.bool (lokB ts)])∧BkAt w' (.map MB) f∧(∀t,(Lit.int .i64 (f t)).wf=true)∧(lokB ts=true→f=lookI ts)∧Below w.heap.size w w':=by
  refine (readLedger_any AL ts cL 0 w.heap.size w hT (Nat.le_refl _) ht htb).mono ?_
  rintro e w1 (⟨hok,A1,c1,M,rfl,hMlo,_,hmap,hb1⟩|⟨hno,rfl,hb1⟩)
  · exact ⟨_,_,_,_,lookI ts,by rw [lokB_true hok],.inl ⟨ts,M,rfl,hok,hmap,rfl⟩,look_wf ht,fun _=>rfl,hb1⟩
  · exact ⟨_,_,_,_,fun _=>-1,by rw [lokB_false hno],.inr ⟨rfl,rfl⟩,fun _=>rfl,(fun h=>by rw [lokB_false hno] at h;cases h),hb1⟩
set_option maxHeartbeats 1000000 in
theorem bytesEqual_any (A B:Option Addr) (l m:List UInt8) (c d:Nat) (w:World) (hA:BytesIn w 0 w.heap.size A l) (hB:BytesIn w 0 w.heap.size B m) :
    Calls Tryz.prog 169 #[.slice A l.length c,.slice B m.length d] w fun e w'=>e=.returned (.bool (l == m))∧Below w.heap.size w w':=by
  have h1:=run_str hA c
  have h2:=run_str hB d
  clear hA hB
  go_enter Tryz.func169,Tryz.ntmps169
  go_wp2_with fail
  go_ret
  exact ⟨rfl,Below.refl _ _⟩
end Go.Proofs.YtckajeippfpojaaGreat
namespace Go.Proofs.YtckajeippfpojaaGreat
open Go.RowKit Go.Maps
set_option maxRecDepth 100000
set_option maxHeartbeats 4000000 in
theorem forks_any (au sq pv a0 a1 a2 a3:Int) (E1:Option Addr) (es:List En) (k1:Nat) (au2 sq2 pv2 b0 b1 b2 b3:Int) (E2:Option Addr) (es2:List En) (k2:Nat) (w:World) (hA:EvsIn w 0 w.heap.size E1 es) (hn:es.length≤1000) (hbk:ebulk es≤1048576) (hA2:EvsIn w 0 w.heap.size E2 es2) (hn2:es2.length≤1000) (hbk2:ebulk es2≤1048576) :
    Calls Tryz.prog 100 #[.agg #[.int .i64 au,.int .i64 sq,.int .i64 pv,.int .i64 a0,.int .i64 a1,.int .i64 a2,.int .i64 a3,.slice E1 es.length k1],.agg #[.int .i64 au2,.int .i64 sq2,.int .i64 pv2,.int .i64 b0,.int .i64 b1,.int .i64 b2,.int .i64 b3,.slice E2 es2.length k2]] w fun e w'=>e=.returned (.bool (fkB au sq pv [a0,a1,a2,a3] es au2 sq2 pv2 [b0,b1,b2,b3] es2))∧Below w.heap.size w w':=by
  obtain ⟨T,hT⟩:∃T,T=bdV au sq pv [a0,a1,a2,a3] es:=⟨_,rfl⟩
  obtain ⟨U,hU⟩:∃T,T=bdV au2 sq2 pv2 [b0,b1,b2,b3] es2:=⟨_,rfl⟩
  have he1:=fun (X:World) (hX:Below w.heap.size w X)=>bodyEnc_any au sq pv a0 a1 a2 a3 E1 es k1 X ((hA.below hX).mono hX.size) hn hbk
  have he2:=fun (X:World) (hX:Below w.heap.size w X)=>bodyEnc_any au2 sq2 pv2 b0 b1 b2 b3 E2 es2 k2 X ((hA2.below hX).mono hX.size) hn2 hbk2
  rw [←hT] at he1
  rw [←hU] at he2
  have HMb:=hd' (show fkB au sq pv [a0,a1,a2,a3] es au2 sq2 pv2 [b0,b1,b2,b3] es2=(au == au2 && sq == sq2 && !(T == U)) by rw [hT,hU];rfl)
  obtain ⟨mb,hmb⟩:∃mb,mb=fkB au sq pv [a0,a1,a2,a3] es au2 sq2 pv2 [b0,b1,b2,b3] es2:=⟨_,rfl⟩
  rw [←hmb] at HMb ⊢
  have HE1:=hd' he1
  have HE2:=hd' he2
  clear hmb he1 he2 hA hA2 hT hU
  go_enter Tryz.func100,Tryz.ntmps100
  go_wp2_with fail
  obtain ⟨W1_0,hW1_0⟩:∃x,x=w.alloc (.cells #[.int .i64 au,.int .i64 sq,.int .i64 pv,.int .i64 a0,.int .i64 a1,.int .i64 a2,.int .i64 a3,.slice E1 es.length k1] 103):=⟨_,rfl⟩
  obtain ⟨W1_1,hW1_1⟩:∃x,x=W1_0.alloc (.cells #[.int .i64 au2,.int .i64 sq2,.int .i64 pv2,.int .i64 b0,.int .i64 b1,.int .i64 b2,.int .i64 b3,.slice E2 es2.length k2] 103):=⟨_,rfl⟩
  have hZ1_0:W1_0.heap.size=w.heap.size+1:=by rw [hW1_0];simp
  have hZ1_1:W1_1.heap.size=w.heap.size+2:=by rw [hW1_1];simp [hZ1_0]
  have hx0:Bx W1_0 (w.heap.size) [.int .i64 au,.int .i64 sq,.int .i64 pv,.int .i64 a0,.int .i64 a1,.int .i64 a2,.int .i64 a3,.slice E1 es.length k1]:=by rw [hW1_0];exact Bx.new' _ _ _ _ rfl
  replace hx0:Bx W1_1 (w.heap.size) [.int .i64 au,.int .i64 sq,.int .i64 pv,.int .i64 a0,.int .i64 a1,.int .i64 a2,.int .i64 a3,.slice E1 es.length k1]:=by rw [hW1_1];exact hx0.alloc (by omega) _
  have hx1:Bx W1_1 (w.heap.size+1) [.int .i64 au2,.int .i64 sq2,.int .i64 pv2,.int .i64 b0,.int .i64 b1,.int .i64 b2,.int .i64 b3,.slice E2 es2.length k2]:=by rw [hW1_1,←hZ1_0];exact Bx.new' _ _ _ _ rfl
  have hb0:Below w.heap.size w W1_1:=by rw [hW1_1,hW1_0];exact (((Below.refl _ _).alloc (by first|exact Nat.le_refl _|(simp;done)|(simp;omega)) _).alloc (by first|exact Nat.le_refl _|(simp;done)|(simp;omega)) _)
  have hlt:w.heap.size+1 < W1_1.heap.size:=by omega
  rw [←hW1_0,←hW1_1]
  clear hW1_0 hZ1_0 hW1_1 hZ1_1
  have z_2:=hb0.size
  have Hbel_3:=hd' (hb0)
  have HX_4:=hd' (hx0)
  have HY_5:=hd' (hx1)
  clear hb0 hx0 hx1
  have hl_6:=hlt
  clear hlt
  have HCell:=hd' (show ∀X,Below W1_1.heap.size W1_1 X→X.cell? ⟨w.heap.size,0,none⟩=some (.int .i64 au)∧X.cell? ⟨w.heap.size,1,none⟩=some (.int .i64 sq)∧X.cell? ⟨w.heap.size,2,none⟩=some (.int .i64 pv)∧X.cell? ⟨w.heap.size,3,none⟩=some (.int .i64 a0)∧X.cell? ⟨w.heap.size,4,none⟩=some (.int .i64 a1)∧X.cell? ⟨w.heap.size,5,none⟩=some (.int .i64 a2)∧X.cell? ⟨w.heap.size,6,none⟩=some (.int .i64 a3)∧X.cell? ⟨w.heap.size,7,none⟩=some (.slice E1 es.length k1)∧X.cell? ⟨w.heap.size+1,0,none⟩=some (.int .i64 au2)∧X.cell? ⟨w.heap.size+1,1,none⟩=some (.int .i64 sq2)∧X.cell? ⟨w.heap.size+1,2,none⟩=some (.int .i64 pv2)∧X.cell? ⟨w.heap.size+1,3,none⟩=some (.int .i64 b0)∧X.cell? ⟨w.heap.size+1,4,none⟩=some (.int .i64 b1)∧X.cell? ⟨w.heap.size+1,5,none⟩=some (.int .i64 b2)∧X.cell? ⟨w.heap.size+1,6,none⟩=some (.int .i64 b3)∧X.cell? ⟨w.heap.size+1,7,none⟩=some (.slice E2 es2.length k2) from fun X hX=>⟨(hX.cell (p:=⟨w.heap.size,0,none⟩) (by show w.heap.size < _;omega)).trans (HX_4.out 0 (by simp)),(hX.cell (p:=⟨w.heap.size,1,none⟩) (by show w.heap.size < _;omega)).trans (HX_4.out 1 (by simp)),(hX.cell (p:=⟨w.heap.size,2,none⟩) (by show w.heap.size < _;omega)).trans (HX_4.out 2 (by simp)),(hX.cell (p:=⟨w.heap.size,3,none⟩) (by show w.heap.size < _;omega)).trans (HX_4.out 3 (by simp)),(hX.cell (p:=⟨w.heap.size,4,none⟩) (by show w.heap.size < _;omega)).trans (HX_4.out 4 (by simp)),(hX.cell (p:=⟨w.heap.size,5,none⟩) (by show w.heap.size < _;omega)).trans (HX_4.out 5 (by simp)),(hX.cell (p:=⟨w.heap.size,6,none⟩) (by show w.heap.size < _;omega)).trans (HX_4.out 6 (by simp)),(hX.cell (p:=⟨w.heap.size,7,none⟩) (by show w.heap.size < _;omega)).trans (HX_4.out 7 (by simp)),(hX.cell (p:=⟨w.heap.size+1,0,none⟩) (by show w.heap.size+1 < _;omega)).trans (HY_5.out 0 (by simp)),(hX.cell (p:=⟨w.heap.size+1,1,none⟩) (by show w.heap.size+1 < _;omega)).trans (HY_5.out 1 (by simp)),(hX.cell (p:=⟨w.heap.size+1,2,none⟩) (by show w.heap.size+1 < _;omega)).trans (HY_5.out 2 (by simp)),(hX.cell (p:=⟨w.heap.size+1,3,none⟩) (by show w.heap.size+1 < _;omega)).trans (HY_5.out 3 (by simp)),(hX.cell (p:=⟨w.heap.size+1,4,none⟩) (by show w.heap.size+1 < _;omega)).trans (HY_5.out 4 (by simp)),(hX.cell (p:=⟨w.heap.size+1,5,none⟩) (by show w.heap.size+1 < _;omega)).trans (HY_5.out 5 (by simp)),(hX.cell (p:=⟨w.heap.size+1,6,none⟩) (by show w.heap.size+1 < _;omega)).trans (HY_5.out 6 (by simp)),(hX.cell (p:=⟨w.heap.size+1,7,none⟩) (by show w.heap.size+1 < _;omega)).trans (HY_5.out 7 (by simp))⟩)
  have lX:w.heap.size < W1_1.heap.size:=by omega
  have lY:w.heap.size+1 < W1_1.heap.size:=by omega
  obtain ⟨s0,s1,s2,s3,s4,s5,s6,s7,s8,s9,s10,s11,s12,s13,s14,s15⟩:=HCell.out W1_1 (Below.refl _ _)
  by_cases e_au:au=au2
  case neg =>
    have e_b:(au == au2)=false:=by simp [e_au]
    have HF:=hd' (show mb=false by rw [HMb.out,e_b];simp)
    go_quiet (fail)
    go_wp2_with fail
    go_ret
    exact ⟨ret_bool (a:=false) HF.out.symm,below_drewN Hbel_3.out _⟩
  subst e_au
  have e_aub:(au == au)=true:=by simp
  by_cases e_sq:sq=sq2
  case neg =>
    have e_b:(sq == sq2)=false:=by simp [e_sq]
    have HF:=hd' (show mb=false by rw [HMb.out,e_b];simp)
    go_quiet (fail)
    go_wp2_with fail
    go_ret
    exact ⟨ret_bool (a:=false) HF.out.symm,below_drewN Hbel_3.out _⟩
  subst e_sq
  have e_sqb:(sq == sq)=true:=by simp
  obtain ⟨q,hq⟩:∃q,q=(T == U):=⟨_,rfl⟩
  have HF:=hd' (show mb=!q by rw [HMb.out,e_aub,e_sqb,hq];simp)
  have HQ:=hd' (fun (A1 A2:Option Addr) (c1 c2:Nat) (X:World) (h1:BytesIn X 0 X.heap.size A1 T) (h2:BytesIn X 0 X.heap.size A2 U)=>hq ▸ bytesEqual_any A1 A2 T U c1 c2 X h1 h2)
  clear hq HMb e_aub e_sqb
  go_region_held3 (fun X=>X.cell? ⟨w.heap.size,0,none⟩=some (.int .i64 au)∧X.cell? ⟨w.heap.size,1,none⟩=some (.int .i64 sq)∧X.cell? ⟨w.heap.size,2,none⟩=some (.int .i64 pv)∧X.cell? ⟨w.heap.size,3,none⟩=some (.int .i64 a0)∧X.cell? ⟨w.heap.size,4,none⟩=some (.int .i64 a1)∧X.cell? ⟨w.heap.size,5,none⟩=some (.int .i64 a2)∧X.cell? ⟨w.heap.size,6,none⟩=some (.int .i64 a3)∧X.cell? ⟨w.heap.size,7,none⟩=some (.slice E1 es.length k1)∧X.cell? ⟨w.heap.size+1,0,none⟩=some (.int .i64 au)∧X.cell? ⟨w.heap.size+1,1,none⟩=some (.int .i64 sq)∧X.cell? ⟨w.heap.size+1,2,none⟩=some (.int .i64 pv2)∧X.cell? ⟨w.heap.size+1,3,none⟩=some (.int .i64 b0)∧X.cell? ⟨w.heap.size+1,4,none⟩=some (.int .i64 b1)∧X.cell? ⟨w.heap.size+1,5,none⟩=some (.int .i64 b2)∧X.cell? ⟨w.heap.size+1,6,none⟩=some (.int .i64 b3)∧X.cell? ⟨w.heap.size+1,7,none⟩=some (.slice E2 es2.length k2))
    (first|with_reducible exact ⟨s0,s1,s2,s3,s4,s5,s6,s7,s8,s9,s10,s11,s12,s13,s14,s15⟩|exact ⟨s0,s1,s2,s3,s4,s5,s6,s7,s8,s9,s10,s11,s12,s13,s14,s15⟩|with_reducible exact ⟨t0,t1,t2,t3,t4,t5,t6,t7,t8,t9,t10,t11,t12,t13,t14,t15⟩|with_reducible exact ⟨v0,v1,v2,v3,v4,v5,v6,v7,v8,v9,v10,v11,v12,v13,v14,v15⟩|with_reducible exact ⟨y0,y1,y2,y3,y4,y5,y6,y7,y8,y9,y10,y11,y12,y13,y14,y15⟩)
    (first
      | (go_at_call 64
         refine (HE1.out _ (Hbel_3.out.drew)).mono ?_
         clear HE1
         rintro r u1 ⟨v1,rfl,hr1,hy1⟩
         obtain ⟨A1,c1,rfl,hfr1⟩:=hr1.fr
         have HU1:=hd' (show Below W1_1.heap.size W1_1 u1 from (Below.refl _ _).drew.trans hy1)
         have HF1:=hd' (hfr1.bytes.low (Nat.zero_le _):BytesIn u1 0 u1.heap.size A1 T)
         obtain ⟨t0,t1,t2,t3,t4,t5,t6,t7,t8,t9,t10,t11,t12,t13,t14,t15⟩:=HCell.out u1 HU1.out
         clear hr1 hy1 hfr1)
      | (go_at_call 64
         refine (HE2.out _ (Hbel_3.out.trans (HU1.out.mono (by omega)))).mono ?_
         clear HE2
         rintro r u2 ⟨v2,rfl,hr2,hy2⟩
         obtain ⟨A2,c2,rfl,hfr2⟩:=hr2.fr
         have HU2:=hd' (show Below W1_1.heap.size W1_1 u2 from HU1.out.trans (hy2.mono HU1.out.size))
         have HF1b:=hd' ((HF1.out.keep fun p _ hp=>hy2.cell hp).mono hy2.size:BytesIn u2 0 u2.heap.size A1 T)
         have HF2:=hd' (hfr2.bytes.low (Nat.zero_le _):BytesIn u2 0 u2.heap.size A2 U)
         obtain ⟨v0,v1,v2,v3,v4,v5,v6,v7,v8,v9,v10,v11,v12,v13,v14,v15⟩:=HCell.out u2 HU2.out
         clear hr2 hy2 hfr2)
      | (go_at_call 169
         refine (HQ.out A1 A2 c1 c2 u2 HF1b.out HF2.out).mono ?_
         rintro r u3 ⟨rfl,hy3⟩
         have HU3:=hd' (show Below W1_1.heap.size W1_1 u3 from HU2.out.trans (hy3.mono HU2.out.size))
         obtain ⟨y0,y1,y2,y3,y4,y5,y6,y7,y8,y9,y10,y11,y12,y13,y14,y15⟩:=HCell.out u3 HU3.out
         clear hy3))
  have HB3:=hd' (Hbel_3.out.trans (HU3.out.mono (by omega)))
  clear HCell HU1 HU2 HU3 HF1 HF1b HF2 s0 s1 s2 s3 s4 s5 s6 s7 s8 s9 s10 s11 s12 s13 s14 s15 t0 t1 t2 t3 t4 t5 t6 t7 t8 t9 t10 t11 t12 t13 t14 t15 v0 v1 v2 v3 v4 v5 v6 v7 v8 v9 v10 v11 v12 v13 v14 v15 y0 y1 y2 y3 y4 y5 y6 y7 y8 y9 y10 y11 y12 y13 y14 y15
  go_wp2_with fail
  go_ret
  exact ⟨ret_bool HF.out.symm,HB3.out⟩
end Go.Proofs.YtckajeippfpojaaGreat
namespace Go.Proofs.YtckajeippfpojaaGreat
open Go.RowKit Go.Maps
set_option maxRecDepth 100000
theorem put_map {P:Program} {K:TypeId} {R:Value→Option (DataW Unit × List MemPlace)} {M n b:Nat} {D:DataW Unit} (hne:M≠b):∀(vs:List Value) (o:Nat) (w:World),w.ownsMap P K R M n D→(putAll b o vs w).ownsMap P K R M n D
  | [],_,_,h=>h
  | _ :: vs,o,w,h=>put_map hne vs (o+1) _ (h.setCell (by exact hne) _)
theorem BkAt.put {w:World} {V:Value} {f:Tm→Int} {b o o':Nat} {vs:List Value} {v:Value} (h:BkAt w V f) (hp:w.cell? ⟨b,o',none⟩=some v):BkAt (putAll b o vs w) V f:=by
  rcases h with ⟨ts,M,e,hl,hM,hf⟩|h
  · refine .inl ⟨ts,M,e,hl,put_map ?_ _ _ _ hM,hf⟩
    rintro rfl
    obtain ⟨_,_,hb,_⟩:=hM
    simp [World.cell?,hb] at hp
  · exact .inr h
theorem BkAt.drew {w:World} {V:Value} {f:Tm→Int} (h:BkAt w V f):BkAt w.drew V f:=by
  rcases h with ⟨ts,M,e,hl,hM,hf⟩|h
  · exact .inl ⟨ts,M,e,hl,hM.drew,hf⟩
  · exact .inr h
theorem Bx.drew' {w:World} {b:Nat} {us:List Value} (h:Bx w b us):Bx w.drew b us:=h
theorem EvsIn.drew {w:World} {L B:Nat} {A:Option Addr} {es:List En} (h:EvsIn w L B A es):EvsIn w.drew L B A es:=h
end Go.Proofs.YtckajeippfpojaaGreat
namespace Go.Proofs.YtckajeippfpojaaGreat
open Go.RowKit Go.Maps
set_option maxRecDepth 100000
end Go.Proofs.YtckajeippfpojaaGreat
