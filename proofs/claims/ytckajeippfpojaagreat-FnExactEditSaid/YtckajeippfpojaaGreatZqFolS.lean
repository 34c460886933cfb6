import Derived.Test.YtckajeippfpojaaGreatZqGSig
import Derived.Test.YtckajeippfpojaaGreatZqGVec
namespace Go.Proofs.YtckajeippfpojaaGreat
open Go.RowKit Go.Maps
set_option maxRecDepth 100000
def belVV (l m:List Int):Bool:=belB (l.getD 0 0) (l.getD 1 0) (l.getD 2 0) (l.getD 3 0) (m.getD 0 0) (m.getD 1 0) (m.getD 2 0) (m.getD 3 0)
def fkB (au sq pv:Int) (vec:List Int) (es:List En) (au2 sq2 pv2:Int) (vec2:List Int) (es2:List En):Bool :=
  au == au2 && sq == sq2 && !(bdV au sq pv vec es == bdV au2 sq2 pv2 vec2 es2)
noncomputable def frkB (ts:List Tm) (au sq pv:Int) (vec:List Int) (es:List En) (sg au2 sq2 pv2:Int) (vec2:List Int) (es2:List En) (sg2:Int):Bool :=
  (sigB ts au sq pv vec es sg && sigB ts au2 sq2 pv2 vec2 es2 sg2) && fkB au sq pv vec es au2 sq2 pv2 vec2 es2
theorem sigB_man {ts:List Tm} {au sq pv sg:Int} {vec:List Int} {es:List En} (h:sigB ts au sq pv vec es sg=true):manB au sq pv vec es sg=true:=by
  unfold sigB at h
  simp only [Bool.and_eq_true] at h
  exact h.1.2
theorem sigB_num {ts:List Tm} {au sq pv sg:Int} {vec:List Int} {es:List En} (h:sigB ts au sq pv vec es sg=true):0≤lookI ts (bdT au sq pv vec es):=by
  unfold sigB mkB at h
  simp only [Bool.and_eq_true,decide_eq_true_eq] at h
  exact h.2.1.2
set_option maxHeartbeats 4000000 in
theorem l4same_any (au sq pv:Int) (AV:Option Addr) (vec:List Int) (cv:Nat) (A:Option Addr) (es:List En) (c:Nat) (sg:Int) (au2 sq2 pv2:Int) (AV2:Option Addr) (vec2:List Int) (cv2:Nat) (A2:Option Addr) (es2:List En) (c2:Nat) (sg2:Int) (w:World) (hV:IntsIn w 0 w.heap.size AV vec) (hA:EnsIn w 0 w.heap.size A es) (hV2:IntsIn w 0 w.heap.size AV2 vec2) (hA2:EnsIn w 0 w.heap.size A2 es2) (hv:vec.length≤1000) (hn:es.length≤1000) (hbk:ebulk es≤1048576) (hnp:∀i (hi:i < es.length),0 < es[i].name.length) (hv2:vec2.length≤1000) (hn2:es2.length≤1000) (hbk2:ebulk es2≤1048576) (hnp2:∀i (hi:i < es2.length),0 < es2[i].name.length) :
    Calls Tryz.prog 139 #[.agg #[.int .i64 au,.int .i64 sq,.int .i64 pv,.slice AV vec.length cv,.slice A es.length c,.int .i64 sg],.agg #[.int .i64 au2,.int .i64 sq2,.int .i64 pv2,.slice AV2 vec2.length cv2,.slice A2 es2.length c2,.int .i64 sg2]] w fun e w'=>e=.returned (.bool ((bdV au sq pv vec es == bdV au2 sq2 pv2 vec2 es2)))∧Below w.heap.size w w':=by
  obtain ⟨T,hT⟩:∃T,T=bdV au sq pv vec es:=⟨_,rfl⟩
  obtain ⟨T2,hT2⟩:∃T,T=bdV au2 sq2 pv2 vec2 es2:=⟨_,rfl⟩
  have hl1:=fun (X:World) (hX:Below w.heap.size w X)=>l4body_any au sq pv AV vec cv A es c sg X ((hV.keep fun p _ hp=>hX.cell hp).mono hX.size) ((hA.below hX).mono hX.size) hv hn hbk hnp
  have hl2:=fun (X:World) (hX:Below w.heap.size w X)=>l4body_any au2 sq2 pv2 AV2 vec2 cv2 A2 es2 c2 sg2 X ((hV2.keep fun p _ hp=>hX.cell hp).mono hX.size) ((hA2.below hX).mono hX.size) hv2 hn2 hbk2 hnp2
  rw [←hT] at hl1
  rw [←hT2] at hl2
  rw [←hT,←hT2]
  have HL1:=hd' hl1
  have HL2:=hd' hl2
  clear hl1 hl2 hT hT2 hV hA hV2 hA2 hnp hnp2
  go_enter Tryz.func139,Tryz.ntmps139
  go_wp2_with fail
  obtain ⟨W0,hW0⟩:∃x,x=w.alloc (.cells #[.int .i64 au,.int .i64 sq,.int .i64 pv,.slice AV vec.length cv,.slice A es.length c,.int .i64 sg] 40):=⟨_,rfl⟩
  obtain ⟨W,hW1⟩:∃x,x=W0.alloc (.cells #[.int .i64 au2,.int .i64 sq2,.int .i64 pv2,.slice AV2 vec2.length cv2,.slice A2 es2.length c2,.int .i64 sg2] 40):=⟨_,rfl⟩
  have hz0:W0.heap.size=w.heap.size+1:=by rw [hW0];simp
  have hz1:W.heap.size=w.heap.size+2:=by rw [hW1];simp [hz0]
  have hx0_0:Bx W0 (w.heap.size) [.int .i64 au,.int .i64 sq,.int .i64 pv,.slice AV vec.length cv,.slice A es.length c,.int .i64 sg]:=by rw [hW0];exact Bx.new' _ _ _ _ rfl
  have hx0_1:Bx W (w.heap.size) [.int .i64 au,.int .i64 sq,.int .i64 pv,.slice AV vec.length cv,.slice A es.length c,.int .i64 sg]:=by rw [hW1];exact hx0_0.alloc (by omega) _
  have HX0:=hd' hx0_1
  have hx1_1:Bx W (w.heap.size+1) [.int .i64 au2,.int .i64 sq2,.int .i64 pv2,.slice AV2 vec2.length cv2,.slice A2 es2.length c2,.int .i64 sg2]:=by rw [hW1,←hz0];exact Bx.new' _ _ _ _ rfl
  have HX1:=hd' hx1_1
  have hbl0:Below w.heap.size w W0:=by rw [hW0];exact (Below.refl w.heap.size w).alloc (by omega) _
  have hbl1:Below w.heap.size w W:=by rw [hW1];exact (hbl0).alloc (by omega) _
  have HBel:=hd' hbl1
  have hz:w.heap.size+1 < W.heap.size:=by omega
  have HCell:=hd' (show ∀X,Below W.heap.size W X→X.cell? ⟨w.heap.size,0,none⟩=some (.int .i64 au)∧X.cell? ⟨w.heap.size,1,none⟩=some (.int .i64 sq)∧X.cell? ⟨w.heap.size,2,none⟩=some (.int .i64 pv)∧X.cell? ⟨w.heap.size,3,none⟩=some (.slice AV vec.length cv)∧X.cell? ⟨w.heap.size,4,none⟩=some (.slice A es.length c)∧X.cell? ⟨w.heap.size,5,none⟩=some (.int .i64 sg)∧X.cell? ⟨w.heap.size+1,0,none⟩=some (.int .i64 au2)∧X.cell? ⟨w.heap.size+1,1,none⟩=some (.int .i64 sq2)∧X.cell? ⟨w.heap.size+1,2,none⟩=some (.int .i64 pv2)∧X.cell? ⟨w.heap.size+1,3,none⟩=some (.slice AV2 vec2.length cv2)∧X.cell? ⟨w.heap.size+1,4,none⟩=some (.slice A2 es2.length c2)∧X.cell? ⟨w.heap.size+1,5,none⟩=some (.int .i64 sg2) from fun X hX=>⟨(hX.cell (p:=⟨w.heap.size,0,none⟩) (by show w.heap.size < _;omega)).trans (HX0.out 0 (by simp)),(hX.cell (p:=⟨w.heap.size,1,none⟩) (by show w.heap.size < _;omega)).trans (HX0.out 1 (by simp)),(hX.cell (p:=⟨w.heap.size,2,none⟩) (by show w.heap.size < _;omega)).trans (HX0.out 2 (by simp)),(hX.cell (p:=⟨w.heap.size,3,none⟩) (by show w.heap.size < _;omega)).trans (HX0.out 3 (by simp)),(hX.cell (p:=⟨w.heap.size,4,none⟩) (by show w.heap.size < _;omega)).trans (HX0.out 4 (by simp)),(hX.cell (p:=⟨w.heap.size,5,none⟩) (by show w.heap.size < _;omega)).trans (HX0.out 5 (by simp)),(hX.cell (p:=⟨w.heap.size+1,0,none⟩) (by show w.heap.size+1 < _;omega)).trans (HX1.out 0 (by simp)),(hX.cell (p:=⟨w.heap.size+1,1,none⟩) (by show w.heap.size+1 < _;omega)).trans (HX1.out 1 (by simp)),(hX.cell (p:=⟨w.heap.size+1,2,none⟩) (by show w.heap.size+1 < _;omega)).trans (HX1.out 2 (by simp)),(hX.cell (p:=⟨w.heap.size+1,3,none⟩) (by show w.heap.size+1 < _;omega)).trans (HX1.out 3 (by simp)),(hX.cell (p:=⟨w.heap.size+1,4,none⟩) (by show w.heap.size+1 < _;omega)).trans (HX1.out 4 (by simp)),(hX.cell (p:=⟨w.heap.size+1,5,none⟩) (by show w.heap.size+1 < _;omega)).trans (HX1.out 5 (by simp))⟩)
  rw [←hW0,←hW1]
  clear hW0 hz0 hbl0 hW1 hz1 hbl1 hx0_0 hx0_1 hx1_1
  have lw0:w.heap.size < W.heap.size:=by omega
  have lw1:w.heap.size+1 < W.heap.size:=by omega
  obtain ⟨x0,x1,x2,x3,x4,x5,x6,x7,x8,x9,x10,x11⟩:=HCell.out W (Below.refl _ _)
  refine held_n (S:=fun X=>X.cell? ⟨w.heap.size,0,none⟩=some (.int .i64 au)∧X.cell? ⟨w.heap.size,1,none⟩=some (.int .i64 sq)∧X.cell? ⟨w.heap.size,2,none⟩=some (.int .i64 pv)∧X.cell? ⟨w.heap.size,3,none⟩=some (.slice AV vec.length cv)∧X.cell? ⟨w.heap.size,4,none⟩=some (.slice A es.length c)∧X.cell? ⟨w.heap.size,5,none⟩=some (.int .i64 sg)∧X.cell? ⟨w.heap.size+1,0,none⟩=some (.int .i64 au2)∧X.cell? ⟨w.heap.size+1,1,none⟩=some (.int .i64 sq2)∧X.cell? ⟨w.heap.size+1,2,none⟩=some (.int .i64 pv2)∧X.cell? ⟨w.heap.size+1,3,none⟩=some (.slice AV2 vec2.length cv2)∧X.cell? ⟨w.heap.size+1,4,none⟩=some (.slice A2 es2.length c2)∧X.cell? ⟨w.heap.size+1,5,none⟩=some (.int .i64 sg2)) 8 rfl (by kernel_rfl) ⟨x0,x1,x2,x3,x4,x5,x6,x7,x8,x9,x10,x11⟩ (fun hHeld=>?_)
  try dsimp only at hHeld
  refine wpAnyH_take (i:=0) (oi:=_) (v:=.agg #[.int .i64 au,.int .i64 sq,.int .i64 pv,.slice AV vec.length cv,.slice A es.length c,.int .i64 sg]) rfl (by kernel_rfl) (by kernel_rfl) (by kernel_rfl) (fun _ _ _ h=>h) (Or.inl ⟨by rfl,?_⟩) (by assumption) ?_
  · intro w hSw
    (try dsimp only at hSw)
    go_simp
  refine put_at (d:=5) rfl ?_
  simp only [List.setIfInBounds_toArray,List.set_cons_zero,List.set_cons_succ]
  refine wpAnyH_take (i:=3) (oi:=_) (v:=.agg #[.int .i64 au2,.int .i64 sq2,.int .i64 pv2,.slice AV2 vec2.length cv2,.slice A2 es2.length c2,.int .i64 sg2]) rfl (by kernel_rfl) (by kernel_rfl) (by kernel_rfl) (fun _ _ _ h=>h) (Or.inl ⟨by rfl,?_⟩) (by assumption) ?_
  · intro w hSw
    (try dsimp only at hSw)
    go_simp
  refine put_at (d:=8) rfl ?_
  simp only [List.setIfInBounds_toArray,List.set_cons_zero,List.set_cons_succ]
  refine wpAnyH_ready (rs:=[1]) (by kernel_rfl) (by simp) ?_
  refine AllReadyH.cons rfl (fun K hK=>?_) AllReadyH.nil
  simp only [List.getElem_toArray,List.getElem_cons_succ,List.getElem_cons_zero]
  go_simp
  refine (HL1.out _ HBel.out.drew).mono ?_
  rintro r u1 ⟨v1,rfl,hr1,hy1⟩
  obtain ⟨A1,c1,rfl,hfr1⟩:=hr1.fr
  have HB1:=hd' (show Below W.heap.size W u1 from (Below.refl _ _).drew.trans hy1)
  have HF1:=hd' (hfr1.bytes.low (Nat.zero_le _):BytesIn u1 0 u1.heap.size A1 T)
  have hcv1:=run_str HF1.out c1
  obtain ⟨y0,y1,y2,y3,y4,y5,y6,y7,y8,y9,y10,y11⟩:=HCell.out u1 HB1.out
  clear hy1 hr1 hfr1
  refine hK.out _ _ ⟨y0,y1,y2,y3,y4,y5,y6,y7,y8,y9,y10,y11⟩ (fun hHeld=>?_)
  clear hK K
  try dsimp only at hHeld
  refine wpAnyH_ready (rs:=[2,4]) (by kernel_rfl) (by simp) ?_
  refine AllReadyH.cons rfl (fun K hK=>?_) (AllReadyH.cons rfl (fun K hK=>?_) AllReadyH.nil)
  · simp only [List.getElem_toArray,List.getElem_cons_succ,List.getElem_cons_zero]
    go_simp
    refine hK.out _ _ ⟨y0,y1,y2,y3,y4,y5,y6,y7,y8,y9,y10,y11⟩ (fun hHeld=>?_)
    clear hK K
    try dsimp only at hHeld
    refine wpAnyH_ready (rs:=[4]) (by kernel_rfl) (by simp) ?_
    refine AllReadyH.cons rfl (fun K hK=>?_) AllReadyH.nil
    simp only [List.getElem_toArray,List.getElem_cons_succ,List.getElem_cons_zero]
    go_simp
    refine (HL2.out _ (HBel.out.trans (HB1.out.mono (Nat.le_of_lt lw0)))).mono ?_
    rintro r u2 ⟨v2,rfl,hr2,hy2⟩
    obtain ⟨A2',c2',rfl,hfr2⟩:=hr2.fr
    have HB2:=hd' (show Below W.heap.size W u2 from HB1.out.trans (hy2.mono HB1.out.size))
    have hcv2:=run_str hfr2.bytes c2'
    have hcv1b:=run_str (HF1.out.keep fun p _ hp=>hy2.cell hp:BytesIn u2 0 u1.heap.size A1 T) c1
    obtain ⟨z0,z1,z2,z3,z4,z5,z6,z7,z8,z9,z10,z11⟩:=HCell.out u2 HB2.out
    clear hy2 hr2 hfr2
    refine hK.out _ _ ⟨z0,z1,z2,z3,z4,z5,z6,z7,z8,z9,z10,z11⟩ (fun hHeld=>?_)
    clear hK K
    try dsimp only at hHeld
    refine wpAnyH_ready (rs:=[5]) (by kernel_rfl) (by simp) ?_
    refine AllReadyH.cons rfl (fun K hK=>?_) AllReadyH.nil
    simp only [List.getElem_toArray,List.getElem_cons_succ,List.getElem_cons_zero]
    go_simp
    refine hK.out _ _ ⟨z0,z1,z2,z3,z4,z5,z6,z7,z8,z9,z10,z11⟩ (fun hHeld=>?_)
    clear hK K
    try dsimp only at hHeld
    refine wpAnyH_take (i:=6) (oi:=_) (v:=.bool (T == T2)) rfl (by kernel_rfl) (by kernel_rfl) (by kernel_rfl) (fun _ _ _ h=>h) (Or.inl ⟨by rfl,?_⟩) (by assumption) ?_
    · intro w hSw
      (try dsimp only at hSw)
      go_simp
    refine put_at (d:=11) rfl ?_
    simp only [List.setIfInBounds_toArray,List.set_cons_zero,List.set_cons_succ]
    refine wpAnyH_take (i:=7) (oi:=_) (v:=.bool (T == T2)) rfl (by kernel_rfl) (by kernel_rfl) (by kernel_rfl) (fun _ _ _ h=>h) (Or.inl ⟨by rfl,?_⟩) (by assumption) ?_
    · intro w hSw
      (try dsimp only at hSw)
      go_simp
    refine put_at (d:=4) rfl ?_
    simp only [List.setIfInBounds_toArray,List.set_cons_zero,List.set_cons_succ]
    refine wpAnyH_done (by kernel_rfl) ?_ _
    clear HL1 HL2 HCell
    go_wp2_with fail
    go_ret
    exact ⟨rfl,HBel.out.trans (HB2.out.mono (Nat.le_of_lt lw0))⟩
  · simp only [List.getElem_toArray,List.getElem_cons_succ,List.getElem_cons_zero]
    go_simp
    refine (HL2.out _ (HBel.out.trans (HB1.out.mono (Nat.le_of_lt lw0)))).mono ?_
    rintro r u2 ⟨v2,rfl,hr2,hy2⟩
    obtain ⟨A2',c2',rfl,hfr2⟩:=hr2.fr
    have HB2:=hd' (show Below W.heap.size W u2 from HB1.out.trans (hy2.mono HB1.out.size))
    have hcv2:=run_str hfr2.bytes c2'
    have hcv1b:=run_str (HF1.out.keep fun p _ hp=>hy2.cell hp:BytesIn u2 0 u1.heap.size A1 T) c1
    obtain ⟨z0,z1,z2,z3,z4,z5,z6,z7,z8,z9,z10,z11⟩:=HCell.out u2 HB2.out
    clear hy2 hr2 hfr2
    refine hK.out _ _ ⟨z0,z1,z2,z3,z4,z5,z6,z7,z8,z9,z10,z11⟩ (fun hHeld=>?_)
    clear hK K
    try dsimp only at hHeld
    refine wpAnyH_ready (rs:=[2,5]) (by kernel_rfl) (by simp) ?_
    refine AllReadyH.cons rfl (fun K hK=>?_) (AllReadyH.cons rfl (fun K hK=>?_) AllReadyH.nil)
    · simp only [List.getElem_toArray,List.getElem_cons_succ,List.getElem_cons_zero]
      go_simp
      refine hK.out _ _ ⟨z0,z1,z2,z3,z4,z5,z6,z7,z8,z9,z10,z11⟩ (fun hHeld=>?_)
      clear hK K
      try dsimp only at hHeld
      refine wpAnyH_ready (rs:=[5]) (by kernel_rfl) (by simp) ?_
      refine AllReadyH.cons rfl (fun K hK=>?_) AllReadyH.nil
      simp only [List.getElem_toArray,List.getElem_cons_succ,List.getElem_cons_zero]
      go_simp
      refine hK.out _ _ ⟨z0,z1,z2,z3,z4,z5,z6,z7,z8,z9,z10,z11⟩ (fun hHeld=>?_)
      clear hK K
      try dsimp only at hHeld
      refine wpAnyH_take (i:=6) (oi:=_) (v:=.bool (T == T2)) rfl (by kernel_rfl) (by kernel_rfl) (by kernel_rfl) (fun _ _ _ h=>h) (Or.inl ⟨by rfl,?_⟩) (by assumption) ?_
      · intro w hSw
        (try dsimp only at hSw)
        go_simp
      refine put_at (d:=11) rfl ?_
      simp only [List.setIfInBounds_toArray,List.set_cons_zero,List.set_cons_succ]
      refine wpAnyH_take (i:=7) (oi:=_) (v:=.bool (T == T2)) rfl (by kernel_rfl) (by kernel_rfl) (by kernel_rfl) (fun _ _ _ h=>h) (Or.inl ⟨by rfl,?_⟩) (by assumption) ?_
      · intro w hSw
        (try dsimp only at hSw)
        go_simp
      refine put_at (d:=4) rfl ?_
      simp only [List.setIfInBounds_toArray,List.set_cons_zero,List.set_cons_succ]
      refine wpAnyH_done (by kernel_rfl) ?_ _
      clear HL1 HL2 HCell
      go_wp2_with fail
      go_ret
      exact ⟨rfl,HBel.out.trans (HB2.out.mono (Nat.le_of_lt lw0))⟩
    · simp only [List.getElem_toArray,List.getElem_cons_succ,List.getElem_cons_zero]
      go_simp
      refine hK.out _ _ ⟨z0,z1,z2,z3,z4,z5,z6,z7,z8,z9,z10,z11⟩ (fun hHeld=>?_)
      clear hK K
      try dsimp only at hHeld
      refine wpAnyH_ready (rs:=[2]) (by kernel_rfl) (by simp) ?_
      refine AllReadyH.cons rfl (fun K hK=>?_) AllReadyH.nil
      simp only [List.getElem_toArray,List.getElem_cons_succ,List.getElem_cons_zero]
      go_simp
      refine hK.out _ _ ⟨z0,z1,z2,z3,z4,z5,z6,z7,z8,z9,z10,z11⟩ (fun hHeld=>?_)
      clear hK K
      try dsimp only at hHeld
      refine wpAnyH_take (i:=6) (oi:=_) (v:=.bool (T == T2)) rfl (by kernel_rfl) (by kernel_rfl) (by kernel_rfl) (fun _ _ _ h=>h) (Or.inl ⟨by rfl,?_⟩) (by assumption) ?_
      · intro w hSw
        (try dsimp only at hSw)
        go_simp
      refine put_at (d:=11) rfl ?_
      simp only [List.setIfInBounds_toArray,List.set_cons_zero,List.set_cons_succ]
      refine wpAnyH_take (i:=7) (oi:=_) (v:=.bool (T == T2)) rfl (by kernel_rfl) (by kernel_rfl) (by kernel_rfl) (fun _ _ _ h=>h) (Or.inl ⟨by rfl,?_⟩) (by assumption) ?_
      · intro w hSw
        (try dsimp only at hSw)
        go_simp
      refine put_at (d:=4) rfl ?_
      simp only [List.setIfInBounds_toArray,List.set_cons_zero,List.set_cons_succ]
      refine wpAnyH_done (by kernel_rfl) ?_ _
      clear HL1 HL2 HCell
      go_wp2_with fail
      go_ret
      exact ⟨rfl,HBel.out.trans (HB2.out.mono (Nat.le_of_lt lw0))⟩
set_option maxHeartbeats 4000000 in
theorem specForked_any (AL:Option Addr) (ts:List Tm) (cL:Nat) (au sq pv:Int) (AV:Option Addr) (vec:List Int) (cv:Nat) (A:Option Addr) (es:List En) (c:Nat) (sg:Int) (au2 sq2 pv2:Int) (AV2:Option Addr) (vec2:List Int) (cv2:Nat) (A2:Option Addr) (es2:List En) (c2:Nat) (sg2:Int) (w:World) (hT:TmsIn w 0 w.heap.size AL ts) (ht:ts.length≤1048576) (htb:bulk ts≤1048576) (hV:IntsIn w 0 w.heap.size AV vec) (hA:EnsIn w 0 w.heap.size A es) (hv:vec.length≤1048576) (hn:es.length≤1048576) (hbk:ebulk es≤1048576) (hV2:IntsIn w 0 w.heap.size AV2 vec2) (hA2:EnsIn w 0 w.heap.size A2 es2) (hv2:vec2.length≤1048576) (hn2:es2.length≤1048576) (hbk2:ebulk es2≤1048576) (hc:es.length≤c:=by omega) (hc2:es2.length≤c2:=by omega) :
    Calls Tryz.prog 78 #[.agg #[.slice AL ts.length cL],.agg #[.int .i64 au,.int .i64 sq,.int .i64 pv,.slice AV vec.length cv,.slice A es.length c,.int .i64 sg],.agg #[.int .i64 au2,.int .i64 sq2,.int .i64 pv2,.slice AV2 vec2.length cv2,.slice A2 es2.length c2,.int .i64 sg2]] w fun e w'=>e=.returned (.bool (frkB ts au sq pv vec es sg au2 sq2 pv2 vec2 es2 sg2))∧Below w.heap.size w w':=by
  have HT:=hd' hT
  have HV:=hd' hV
  have HA:=hd' hA
  have HV2:=hd' hV2
  have HA2:=hd' hA2
  have HS1:=hd' (fun (X:World) (hX:Below w.heap.size w X)=>specSigOk_any AL ts cL au sq pv AV vec cv A es c sg X ((hT.keep fun p _ hp=>hX.cell hp).mono hX.size) ht htb ((hV.keep fun p _ hp=>hX.cell hp).mono hX.size) ((hA.below hX).mono hX.size) hv hn hbk hc)
  have HS2:=hd' (fun (X:World) (hX:Below w.heap.size w X)=>specSigOk_any AL ts cL au2 sq2 pv2 AV2 vec2 cv2 A2 es2 c2 sg2 X ((hT.keep fun p _ hp=>hX.cell hp).mono hX.size) ht htb ((hV2.keep fun p _ hp=>hX.cell hp).mono hX.size) ((hA2.below hX).mono hX.size) hv2 hn2 hbk2 hc2)
  have HM1:=hd' (@sigB_man ts au sq pv sg vec es)
  have HM2:=hd' (@sigB_man ts au2 sq2 pv2 sg2 vec2 es2)
  have HN1:=hd' (@sigB_num ts au sq pv sg vec es)
  obtain ⟨s1,hs1⟩:∃s1,s1=sigB ts au sq pv vec es sg:=⟨_,rfl⟩
  obtain ⟨s2,hs2⟩:∃s2,s2=sigB ts au2 sq2 pv2 vec2 es2 sg2:=⟨_,rfl⟩
  obtain ⟨I,hI⟩:∃I,I=frkB ts au sq pv vec es sg au2 sq2 pv2 vec2 es2 sg2:=⟨_,rfl⟩
  have hI0:I=((s1 && s2) && fkB au sq pv vec es au2 sq2 pv2 vec2 es2):=by rw [hI,hs1,hs2];rfl
  have HI:=hd' hI0
  rw [←hI]
  rw [←hs1] at HS1 HM1 HN1
  rw [←hs2] at HS2 HM2
  clear hI0 hI hs1 hs2 hT hV hA hV2 hA2
  go_enter Tryz.func78,Tryz.ntmps78
  go_wp2_with fail
  obtain ⟨W0,hW0⟩:∃x,x=w.alloc (.cells #[.slice AL ts.length cL] 35):=⟨_,rfl⟩
  obtain ⟨W1,hW1⟩:∃x,x=W0.alloc (.cells #[.int .i64 au,.int .i64 sq,.int .i64 pv,.slice AV vec.length cv,.slice A es.length c,.int .i64 sg] 40):=⟨_,rfl⟩
  obtain ⟨W,hW2⟩:∃x,x=W1.alloc (.cells #[.int .i64 au2,.int .i64 sq2,.int .i64 pv2,.slice AV2 vec2.length cv2,.slice A2 es2.length c2,.int .i64 sg2] 40):=⟨_,rfl⟩
  have hz0:W0.heap.size=w.heap.size+1:=by rw [hW0];simp
  have hz1:W1.heap.size=w.heap.size+2:=by rw [hW1];simp [hz0]
  have hz2:W.heap.size=w.heap.size+3:=by rw [hW2];simp [hz1]
  have hx0_0:Bx W0 (w.heap.size) [.slice AL ts.length cL]:=by rw [hW0];exact Bx.new' _ _ _ _ rfl
  have hx0_1:Bx W1 (w.heap.size) [.slice AL ts.length cL]:=by rw [hW1];exact hx0_0.alloc (by omega) _
  have hx0_2:Bx W (w.heap.size) [.slice AL ts.length cL]:=by rw [hW2];exact hx0_1.alloc (by omega) _
  have HX0:=hd' hx0_2
  have hx1_1:Bx W1 (w.heap.size+1) [.int .i64 au,.int .i64 sq,.int .i64 pv,.slice AV vec.length cv,.slice A es.length c,.int .i64 sg]:=by rw [hW1,←hz0];exact Bx.new' _ _ _ _ rfl
  have hx1_2:Bx W (w.heap.size+1) [.int .i64 au,.int .i64 sq,.int .i64 pv,.slice AV vec.length cv,.slice A es.length c,.int .i64 sg]:=by rw [hW2];exact hx1_1.alloc (by omega) _
  have HX1:=hd' hx1_2
  have hx2_2:Bx W (w.heap.size+2) [.int .i64 au2,.int .i64 sq2,.int .i64 pv2,.slice AV2 vec2.length cv2,.slice A2 es2.length c2,.int .i64 sg2]:=by rw [hW2,←hz1];exact Bx.new' _ _ _ _ rfl
  have HX2:=hd' hx2_2
  have hbl0:Below w.heap.size w W0:=by rw [hW0];exact (Below.refl w.heap.size w).alloc (by omega) _
  have hbl1:Below w.heap.size w W1:=by rw [hW1];exact (hbl0).alloc (by omega) _
  have hbl2:Below w.heap.size w W:=by rw [hW2];exact (hbl1).alloc (by omega) _
  have HBel:=hd' hbl2
  have hz:w.heap.size+2 < W.heap.size:=by omega
  have HCell:=hd' (show ∀X,Below W.heap.size W X→X.cell? ⟨w.heap.size,0,none⟩=some (.slice AL ts.length cL)∧X.cell? ⟨w.heap.size+1,0,none⟩=some (.int .i64 au)∧X.cell? ⟨w.heap.size+1,1,none⟩=some (.int .i64 sq)∧X.cell? ⟨w.heap.size+1,2,none⟩=some (.int .i64 pv)∧X.cell? ⟨w.heap.size+1,3,none⟩=some (.slice AV vec.length cv)∧X.cell? ⟨w.heap.size+1,4,none⟩=some (.slice A es.length c)∧X.cell? ⟨w.heap.size+1,5,none⟩=some (.int .i64 sg)∧X.cell? ⟨w.heap.size+2,0,none⟩=some (.int .i64 au2)∧X.cell? ⟨w.heap.size+2,1,none⟩=some (.int .i64 sq2)∧X.cell? ⟨w.heap.size+2,2,none⟩=some (.int .i64 pv2)∧X.cell? ⟨w.heap.size+2,3,none⟩=some (.slice AV2 vec2.length cv2)∧X.cell? ⟨w.heap.size+2,4,none⟩=some (.slice A2 es2.length c2)∧X.cell? ⟨w.heap.size+2,5,none⟩=some (.int .i64 sg2) from fun X hX=>⟨(hX.cell (p:=⟨w.heap.size,0,none⟩) (by show w.heap.size < _;omega)).trans (HX0.out 0 (by simp)),(hX.cell (p:=⟨w.heap.size+1,0,none⟩) (by show w.heap.size+1 < _;omega)).trans (HX1.out 0 (by simp)),(hX.cell (p:=⟨w.heap.size+1,1,none⟩) (by show w.heap.size+1 < _;omega)).trans (HX1.out 1 (by simp)),(hX.cell (p:=⟨w.heap.size+1,2,none⟩) (by show w.heap.size+1 < _;omega)).trans (HX1.out 2 (by simp)),(hX.cell (p:=⟨w.heap.size+1,3,none⟩) (by show w.heap.size+1 < _;omega)).trans (HX1.out 3 (by simp)),(hX.cell (p:=⟨w.heap.size+1,4,none⟩) (by show w.heap.size+1 < _;omega)).trans (HX1.out 4 (by simp)),(hX.cell (p:=⟨w.heap.size+1,5,none⟩) (by show w.heap.size+1 < _;omega)).trans (HX1.out 5 (by simp)),(hX.cell (p:=⟨w.heap.size+2,0,none⟩) (by show w.heap.size+2 < _;omega)).trans (HX2.out 0 (by simp)),(hX.cell (p:=⟨w.heap.size+2,1,none⟩) (by show w.heap.size+2 < _;omega)).trans (HX2.out 1 (by simp)),(hX.cell (p:=⟨w.heap.size+2,2,none⟩) (by show w.heap.size+2 < _;omega)).trans (HX2.out 2 (by simp)),(hX.cell (p:=⟨w.heap.size+2,3,none⟩) (by show w.heap.size+2 < _;omega)).trans (HX2.out 3 (by simp)),(hX.cell (p:=⟨w.heap.size+2,4,none⟩) (by show w.heap.size+2 < _;omega)).trans (HX2.out 4 (by simp)),(hX.cell (p:=⟨w.heap.size+2,5,none⟩) (by show w.heap.size+2 < _;omega)).trans (HX2.out 5 (by simp))⟩)
  rw [←hW0,←hW1,←hW2]
  clear hW0 hz0 hbl0 hW1 hz1 hbl1 hW2 hz2 hbl2 hx0_0 hx0_1 hx0_2 hx1_1 hx1_2 hx2_2
  have lw0:w.heap.size < W.heap.size:=by omega
  have lw1:w.heap.size+1 < W.heap.size:=by omega
  have lw2:w.heap.size+2 < W.heap.size:=by omega
  refine (HS1.out W HBel.out).mono ?_
  rintro e w1 ⟨rfl,hb1⟩
  have HU1:=hd' hb1
  have HB1:=hd' (HBel.out.trans (hb1.mono (by omega)))
  have z1:=hb1.size
  obtain ⟨k0,k1,k2,k3,k4,k5,k6,k7,k8,k9,k10,k11,k12⟩:=HCell.out w1 hb1
  clear hb1
  have lu0:w.heap.size < w1.heap.size:=by omega
  have lu1:w.heap.size+1 < w1.heap.size:=by omega
  have lu2:w.heap.size+2 < w1.heap.size:=by omega
  cases s1 with
  | false =>
    have HF:=hd' (show I=false by rw [HI.out];simp)
    go_wp2_with fail
    go_ret
    exact ⟨ret_bool (a:=false) HF.out.symm,HB1.out⟩
  | true =>
  have HM1t:=hd' (HM1.out rfl)
  have HN1t:=hd' (HN1.out rfl)
  clear HM1 HN1
  go_wp2_with fail
  refine (HS2.out w1 HB1.out).mono ?_
  rintro e w2 ⟨rfl,hb2⟩
  have HU2:=hd' (HU1.out.trans (hb2.mono z1))
  have HB2:=hd' (HB1.out.trans (hb2.mono (by omega)))
  have z2:=hb2.size
  clear hb2 k0 k1 k2 k3 k4 k5 k6 k7 k8 k9 k10 k11 k12
  obtain ⟨t0,t1,t2,t3,t4,t5,t6,t7,t8,t9,t10,t11,t12⟩:=HCell.out w2 HU2.out
  have lv0:w.heap.size < w2.heap.size:=by omega
  have lv1:w.heap.size+1 < w2.heap.size:=by omega
  have lv2:w.heap.size+2 < w2.heap.size:=by omega
  cases s2 with
  | false =>
    have HF:=hd' (show I=false by rw [HI.out];simp)
    go_wp2_with fail
    go_ret
    exact ⟨ret_bool (a:=false) HF.out.symm,HB2.out⟩
  | true =>
  have HF:=hd' (show I=(fkB au sq pv vec es au2 sq2 pv2 vec2 es2) by rw [HI.out];simp)
  have hm1:=manB_said HM1t.out
  have hm2:=manB_said (HM2.out rfl)
  have hv4:=treeB_vec0 (manB_tree HM1t.out)
  have hv42:=treeB_vec0 (manB_tree (HM2.out rfl))
  have hnp1:=treeB_names0 (manB_tree HM1t.out)
  have hnp2:=treeB_names0 (manB_tree (HM2.out rfl))
  have HC:=hd' (l4same_any au sq pv AV vec cv A es c sg au2 sq2 pv2 AV2 vec2 cv2 A2 es2 c2 sg2 w2 ((HV.out.keep fun p _ hp=>HB2.out.cell hp).mono (by omega)) ((HA.out.below HB2.out).mono (by omega)) ((HV2.out.keep fun p _ hp=>HB2.out.cell hp).mono (by omega)) ((HA2.out.below HB2.out).mono (by omega)) (by omega) (by omega) hbk hnp1 (by omega) (by omega) hbk2 hnp2)
  clear HS1 HS2 HM1t HM2 HN1t HI HT HV HA HV2 HA2 hm1 hm2 hv4 hv42 hnp1 hnp2 HU1 HU2 HB1
  by_cases e_au:au=au2
  case neg =>
    have e_b:(au == au2)=false:=by simp [e_au]
    have HG:=hd' (show I=false by rw [HF.out];unfold fkB;rw [e_b];simp)
    clear HC
    go_wp2_with fail
    go_ret
    exact ⟨ret_bool (a:=false) HG.out.symm,HB2.out⟩
  subst e_au
  have e_aub:(au == au)=true:=by simp
  by_cases e_sq:sq=sq2
  case neg =>
    have e_b:(sq == sq2)=false:=by simp [e_sq]
    have HG:=hd' (show I=false by rw [HF.out];unfold fkB;rw [e_b];simp)
    clear HC
    go_wp2_with fail
    go_ret
    exact ⟨ret_bool (a:=false) HG.out.symm,HB2.out⟩
  subst e_sq
  have e_sqb:(sq == sq)=true:=by simp
  have HG:=hd' (show I=!(bdV au sq pv vec es == bdV au sq pv2 vec2 es2) by rw [HF.out];unfold fkB;rw [e_aub,e_sqb];simp)
  obtain ⟨eb,heb⟩:∃eb,eb=(bdV au sq pv vec es == bdV au sq pv2 vec2 es2):=⟨_,rfl⟩
  rw [←heb] at HC HG
  clear heb HF
  go_wp2_with fail
  refine HC.out.mono ?_
  rintro e w3 ⟨rfl,hb3⟩
  have HB3:=hd' (HB2.out.trans (hb3.mono (by omega)))
  clear hb3 HC
  go_wp2_with fail
  go_ret
  exact ⟨ret_bool HG.out.symm,HB3.out⟩
end Go.Proofs.YtckajeippfpojaaGreat
