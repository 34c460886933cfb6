import Derived.Test.YtckajeippfpojaaGreatZqGA
namespace Go.Proofs.YtckajeippfpojaaGreat
open Go.RowKit Go.Maps
set_option maxRecDepth 100000
def Bx (w:World) (b:Nat) (vs:List Value):Prop:=∀j (hj:j < vs.length),w.cell? ⟨b,j,none⟩=some vs[j]
section
variable {w w':World} {b B L:Nat} {vs:List Value}
theorem Bx.below (h:Bx w b vs) (hb:Below B w w') (hlt:b < B):Bx w' b vs:=fun j hj=>(hb.cell (p:=⟨b,j,none⟩) hlt).trans (h j hj)
theorem Bx.inside (h:Bx w b vs) (hi:Inside L B w w') (hlt:b < L∨(B≤b∧b < w.heap.size)):Bx w' b vs:=fun j hj=>(hi.cell (p:=⟨b,j,none⟩) hlt).trans (h j hj)
theorem Bx.alloc (h:Bx w b vs) (hlt:b < w.heap.size) (o:Obj):Bx (w.alloc o) b vs:=fun j hj=>(World.cell?_alloc_lt w o ⟨b,j,none⟩ hlt).trans (h j hj)
theorem Bx.new (w:World) (cs:Array Value) (t:TypeId):Bx (w.alloc (.cells cs t)) w.heap.size cs.toList:=fun j hj=>by
  rw [World.cell?,heap_alloc_new]
  have hj':j < cs.size:=by simpa using hj
  simp [hj']
theorem Bx.new' (w:World) (cs:Array Value) (t:TypeId) (l:List Value) (hl:cs.toList=l):Bx (w.alloc (.cells cs t)) w.heap.size l:=hl ▸ Bx.new w cs t
theorem Bx.one {v:Value} (h:Bx w b [v]):w.cell? ⟨b,0,none⟩=some v:=h 0 (by simp)
theorem Bx.four {v0 v1 v2 v3:Value} (h:Bx w b [v0,v1,v2,v3]):w.cell? ⟨b,0,none⟩=some v0∧w.cell? ⟨b,1,none⟩=some v1∧w.cell? ⟨b,2,none⟩=some v2∧w.cell? ⟨b,3,none⟩=some v3 :=
  ⟨h 0 (by simp),h 1 (by simp),h 2 (by simp),h 3 (by simp)⟩
end
theorem cell_other {w:World} {b b' o o':Nat} {v:Value} (hb:b'≠b):(w.setCell ⟨b,o,none⟩ v).cell? ⟨b',o',none⟩=w.cell? ⟨b',o',none⟩ :=
  World.cell?_setCell_other _ _ _ _ (fun h=>by first|exact hb (congrArg Addr.block h)|exact hb (congrArg Addr.block h).symm)
end Go.Proofs.YtckajeippfpojaaGreat
namespace Go.Proofs.YtckajeippfpojaaGreat
open Go.RowKit Go.Maps
set_option maxRecDepth 100000
structure En where
  name:List UInt8
  val:Int
  dev:Int
  num:Int
deriving DecidableEq,Inhabited
def EnIn (w:World) (L B:Nat) (b o:Nat) (e:En):Prop :=
  ∃A c,w.cell? ⟨b,o,none⟩=some (.slice A e.name.length c)∧w.cell? ⟨b,o+1,none⟩=some (.int .i64 e.val)∧w.cell? ⟨b,o+2,none⟩=some (.int .i64 e.dev) ∧
    w.cell? ⟨b,o+3,none⟩=some (.int .i64 e.num)∧BytesIn w L B A e.name
def EnsIn (w:World) (L B:Nat) (A:Option Addr) (es:List En):Prop :=
  0 < es.length→∃b o,A=some ⟨b,o,none⟩∧L≤b∧b < B∧∀i (hi:i < es.length),EnIn w L B b (o+i*4) es[i]
section
variable {w w':World} {L L' B B':Nat} {A:Option Addr} {es:List En}
theorem EnIn.keep {b o:Nat} {e:En} (h:EnIn w L B b o e) (hL:L≤b) (hb:b < B) (hk:∀p:Addr,L≤p.block→p.block < B→w'.cell? p=w.cell? p):EnIn w' L B b o e:=by
  obtain ⟨A,c,h0,h1,h2,h3,h4⟩:=h
  exact ⟨A,c,(hk _ hL hb).trans h0,(hk _ hL hb).trans h1,(hk _ hL hb).trans h2,(hk _ hL hb).trans h3,h4.keep hk⟩
theorem EnIn.mono {b o:Nat} {e:En} (h:EnIn w L B b o e) (hB:B≤B'):EnIn w L B' b o e:=by
  obtain ⟨A,c,h0,h1,h2,h3,h4⟩:=h
  exact ⟨A,c,h0,h1,h2,h3,h4.mono hB⟩
theorem EnIn.low {b o:Nat} {e:En} (h:EnIn w L B b o e) (hL:L'≤L):EnIn w L' B b o e:=by
  obtain ⟨A,c,h0,h1,h2,h3,h4⟩:=h
  exact ⟨A,c,h0,h1,h2,h3,h4.low hL⟩
theorem EnsIn.keep (h:EnsIn w L B A es) (hk:∀p:Addr,L≤p.block→p.block < B→w'.cell? p=w.cell? p):EnsIn w' L B A es:=fun hl=>by
  obtain ⟨b,o,e,hL,hb,hc⟩:=h hl
  exact ⟨b,o,e,hL,hb,fun i hi=>(hc i hi).keep hL hb hk⟩
theorem EnsIn.mono (h:EnsIn w L B A es) (hB:B≤B'):EnsIn w L B' A es:=fun hl=>by
  obtain ⟨b,o,e,hL,hb,hc⟩:=h hl
  exact ⟨b,o,e,hL,by omega,fun i hi=>(hc i hi).mono hB⟩
theorem EnsIn.low (h:EnsIn w L B A es) (hL:L'≤L):EnsIn w L' B A es:=fun hl=>by
  obtain ⟨b,o,e,hL',hb,hc⟩:=h hl
  exact ⟨b,o,e,by omega,hb,fun i hi=>(hc i hi).low hL⟩
theorem EnsIn.below (h:EnsIn w L B A es) (hb:Below B w w'):EnsIn w' L B A es:=h.keep fun _ _ hp=>hb.cell hp
theorem EnsIn.up (h:EnsIn w L w.heap.size A es) (hb:Below w.heap.size w w'):EnsIn w' L w'.heap.size A es:=(h.below hb).mono hb.size
end
def ebulk:List En→Nat
  | []=>0
  | e :: es=>e.name.length+ebulk es
theorem ebulk_append (xs ys:List En):ebulk (xs++ys)=ebulk xs+ebulk ys:=by
  induction xs with
  | nil=>simp [ebulk]
  | cons x xs ih=>simp [ebulk,ih];omega
theorem ebulk_take_succ (es:List En) (k:Nat) (h:k < es.length):ebulk (es.take (k+1))=ebulk (es.take k)+es[k].name.length:=by
  rw [List.take_succ_eq_append_getElem h,ebulk_append]
  simp [ebulk]
theorem ebulk_take_le (es:List En) (k:Nat):ebulk (es.take k)≤ebulk es:=by
  have h:=ebulk_append (es.take k) (es.drop k)
  rw [List.take_append_drop] at h
  omega
theorem name_le_ebulk (es:List En) (k:Nat) (h:k < es.length):es[k].name.length≤ebulk es:=by
  have:=ebulk_take_succ es k h
  have:=ebulk_take_le es (k+1)
  omega
set_option maxHeartbeats 400000 in
theorem szIntS_any (A:Option Addr) (n c:Nat) (left:Int) (w:World) (hn:n≤9223372036854775807) (h0:0≤left) (h1:left≤1048576) :
    Calls Tryz.prog 103 #[.slice A n c,.int .i64 left] w fun e w'=>e=.returned (.int .i64 (szB left n))∧w=w':=by
  go_enter Tryz.func103,Tryz.ntmps103
  go_wp2
  all_goals go_ret
  · exact ⟨by simp [szB, *],rfl⟩
  · exact ⟨by simp [szB];omega,rfl⟩
set_option maxHeartbeats 400000 in
theorem szEntry_any (v d m:Int) (A:Option Addr) (n c:Nat) (left:Int) (w:World) (hn:n≤9223372036854775807) (h0:0≤left) (h1:left≤1048576) :
    Calls Tryz.prog 171 #[.agg #[.slice A n c,.int .i64 v,.int .i64 d,.int .i64 m],.int .i64 left] w fun e w'=>∃r:Int,e=.returned (.int .i64 r)∧SzOk left n r∧Below w.heap.size w w':=by
  go_enter Tryz.func171,Tryz.ntmps171
  have HS:=hd' (szB_ok left n)
  go_wp2_with (go_at_call 170;refine (szByteS_any _ _ _ _ _ hn h0 h1).mono ?_;rintro e w' ⟨rfl,rfl⟩)
  all_goals go_ret
  · have hneg:szB left n < 0:=by assumption
    exact ⟨-1,rfl,HS.out.neg hneg ▸ HS.out,(Below.refl _ _).alloc (Nat.le_refl _) _⟩
  · exact ⟨_,rfl,HS.out,(Below.refl _ _).alloc (Nat.le_refl _) _⟩
set_option maxHeartbeats 1000000 in
theorem szEntryS_any (A:Option Addr) (es:List En) (c:Nat) (left:Int) (w:World) (hA:EnsIn w 0 w.heap.size A es) (hn:es.length≤9223372036854775807) (hbn:∀i (hi:i < es.length),es[i].name.length≤9223372036854775807) (h0:0≤left) (h1:left≤1048576) :
    Calls Tryz.prog 104 #[.slice A es.length c,.int .i64 left] w fun e w'=>∃r:Int,e=.returned (.int .i64 r)∧SzOk left (es.length+ebulk es) r∧Below w.heap.size w w':=by
  go_enter Tryz.func104,Tryz.ntmps104
  by_cases hl:left - es.length < 0
  · go_wp2
    go_ret
    exact ⟨-1,rfl,.inl rfl,Below.refl _ _⟩
  · have hl':0≤left - es.length:=by omega
    have HBn:=hd' hbn
    clear hl hbn
    go_wp2
    go_loopw [1,4,5] (fun l _ i wr=>∃(k:Nat) (r:Int),k≤es.length∧i=.int .i64 k∧l=.int .i64 r∧0≤r∧r+es.length+ebulk (es.take k)=left∧Below w.heap.size w wr) (fun _ _ i _=>es.length - (intOf i).toNat)
    case atStart=>exact ⟨0,_,Nat.zero_le _,rfl,rfl,hl',by simp [ebulk],Below.refl _ _⟩
    case round =>
      obtain ⟨k,r,hk,rfl,rfl,hr,hsum,hbel⟩:=hrel
      have HSum:=hd' hsum
      have HBel:=hd' hbel
      have hrl:r≤1048576:=by omega
      clear hsum hbel
      by_cases hlt:k < es.length
      · obtain ⟨b,o,rfl,hL,hb,hc⟩:=hA (by omega)
        obtain ⟨A',c',c0,c1,c2,c3,_⟩:=(hc k hlt).keep hL hb (fun p _ hp=>HBel.out.cell hp)
        have hnl:=HBn.out k hlt
        have HTs:=hd' (ebulk_take_succ es k hlt)
        have HTl:=hd' (ebulk_take_le es (k+1))
        clear hc
        go_wp2_with fail
        refine (szEntry_any _ _ _ _ _ _ _ _ hnl hr hrl).mono ?_
        rintro e w1 ⟨r1,rfl,hsz,hb1⟩
        have HSz:=hd' hsz
        have HB1:=hd' (HBel.out.trans (hb1.mono HBel.out.size))
        clear hsz hb1 c0 c1 c2 c3
        by_cases hr1:r1 < 0
        · go_wp2_with fail
          go_ret
          refine ⟨-1,rfl,.inl rfl,HB1.out⟩
        · have hr1':0≤r1:=by omega
          go_wp2_with fail
          go_roundw
          case rel =>
            refine ⟨k+1,r1,by omega,by go_num,rfl,hr1',?_,HB1.out⟩
            have:=HSz.out
            have:=HSum.out
            unfold SzOk at *
            rw [HTs.out]
            omega
          case measure=>simp [intOf];omega
      · have hke:k=es.length:=by omega
        have HR:=hd' (show SzOk left (es.length+ebulk es) r by
          have:=HSum.out
          rw [hke,List.take_length] at this
          exact .inr ⟨hr,by omega⟩)
        go_wp2_with fail
        go_ret
        exact ⟨r,rfl,HR.out,HBel.out⟩
set_option maxHeartbeats 1000000 in
theorem szTree_any (AV:Option Addr) (vec:List Int) (cv:Nat) (A:Option Addr) (es:List En) (c:Nat) (left:Int) (w:World) (hA:EnsIn w 0 w.heap.size A es) (hv:vec.length≤9223372036854775807) (hn:es.length≤9223372036854775807) (hbn:∀i (hi:i < es.length),es[i].name.length≤9223372036854775807) (h0:0≤left) (h1:left≤1048576) :
    Calls Tryz.prog 53 #[.agg #[.slice AV vec.length cv,.slice A es.length c],.int .i64 left] w fun e w'=>∃r:Int,e=.returned (.int .i64 r)∧SzOk left (vec.length+(es.length+ebulk es)) r∧Below w.heap.size w w':=by
  have HA:=hd' hA
  have HBn:=hd' hbn
  clear hA hbn
  go_enter Tryz.func53,Tryz.ntmps53
  have HS:=hd' (szB_ok left vec.length)
  obtain ⟨r0,hr0⟩:∃r0,r0=szB left vec.length:=⟨_,rfl⟩
  rw [←hr0] at HS
  have HR0:=hd' hr0
  go_wp2_with fail
  refine (szIntS_any _ _ _ _ _ hv h0 h1).mono ?_
  rw [←HR0.out]
  rintro e w' ⟨rfl,rfl⟩
  clear hr0 HR0
  have hb0:Below w.heap.size w (w.alloc (.cells #[.slice AV vec.length cv,.slice A es.length c] 28)):=(Below.refl _ _).alloc (Nat.le_refl _) _
  have HB0:=hd' hb0
  by_cases hneg:r0 < 0
  · have HN:=hd' (show SzOk left (vec.length+(es.length+ebulk es)) (-1) from .inl rfl)
    go_wp2_with fail
    go_ret
    exact ⟨-1,rfl,HN.out,HB0.out⟩
  · have hr0':0≤r0:=by omega
    have hr1':r0≤1048576:=by have:=HS.out;unfold SzOk at this;omega
    clear hb0
    go_wp2_with fail
    refine (szEntryS_any A es c r0 _ (HA.out.up HB0.out) hn HBn.out hr0' hr1').mono ?_
    rintro e w1 ⟨r1,rfl,hsz,hb1⟩
    have HB1:=hd' (HB0.out.trans (hb1.mono (by simp)))
    have HSz:=hd' hsz
    clear hsz hb1
    by_cases hneg1:r1 < 0
    · have HN:=hd' (show SzOk left (vec.length+(es.length+ebulk es)) (-1) from .inl rfl)
      go_wp2_with fail
      go_ret
      exact ⟨-1,rfl,HN.out,HB1.out⟩
    · have HN:=hd' (show SzOk left (vec.length+(es.length+ebulk es)) r1 by
        have:=HS.out
        have:=HSz.out
        unfold SzOk at *
        omega)
      go_wp2_with fail
      go_ret
      exact ⟨r1,rfl,HN.out,HB1.out⟩
set_option maxHeartbeats 1000000 in
theorem eqEntry_same (v d m:Int) (A A':Option Addr) (l:List UInt8) (c c' L L' B B':Nat) (w:World) (hA:BytesIn w L B A l) (hA':BytesIn w L' B' A' l) (hB:B≤w.heap.size) (hB':B'≤w.heap.size) (hn:l.length≤1048576) :
    Calls Tryz.prog 181 #[.agg #[.slice A l.length c,.int .i64 v,.int .i64 d,.int .i64 m],.agg #[.slice A' l.length c',.int .i64 v,.int .i64 d,.int .i64 m]] w fun e w'=>e=.returned (.bool true)∧Below w.heap.size w w':=by
  have HA:=hd' hA
  have HA':=hd' hA'
  clear hA hA'
  go_enter Tryz.func181,Tryz.ntmps181
  go_wp2_with fail
  obtain ⟨W0,hW0⟩:∃W0,W0=w.alloc (.cells #[.slice A l.length c,.int .i64 v,.int .i64 d,.int .i64 m] 180):=⟨_,rfl⟩
  obtain ⟨W,hW⟩:∃W,W=W0.alloc (.cells #[.slice A' l.length c',.int .i64 v,.int .i64 d,.int .i64 m] 180):=⟨_,rfl⟩
  have hz0:W0.heap.size=w.heap.size+1:=by rw [hW0];simp
  have hz:W.heap.size=w.heap.size+2:=by rw [hW];simp [hz0]
  have hX:Bx W w.heap.size [.slice A l.length c,.int .i64 v,.int .i64 d,.int .i64 m]:=by rw [hW];exact Bx.alloc (by rw [hW0];exact Bx.new' _ _ _ _ rfl) (by omega) _
  have hY:Bx W (w.heap.size+1) [.slice A' l.length c',.int .i64 v,.int .i64 d,.int .i64 m]:=by rw [hW,←hz0];exact Bx.new' _ _ _ _ rfl
  have HBel:=hd' (show Below w.heap.size w W by rw [hW,hW0];exact ((Below.refl _ _).alloc (Nat.le_refl _) _).alloc (by simp) _)
  rw [←hW0,←hW]
  have hzW:w.heap.size+1 < W.heap.size:=by omega
  clear hW hW0 hz0 hz
  refine (eqByteS_same _ _ _ _ _ L L' B B' _ ?h1 ?h2 hn).mono ?_
  case h1=>exact HA.out.keep fun p _ hp=>HBel.out.cell (by omega)
  case h2=>exact HA'.out.keep fun p _ hp=>HBel.out.cell (by omega)
  rintro e w1 ⟨rfl,hb⟩
  obtain ⟨_,x1,x2,x3⟩:=(hX.below hb (by omega)).four
  obtain ⟨_,y1,y2,y3⟩:=(hY.below hb (by omega)).four
  have HB:=hd' (HBel.out.trans (hb.mono (by omega)))
  have e1:(v != v)=false:=by simp
  have e2:(d != d)=false:=by simp
  have e3:(m != m)=false:=by simp
  clear hb hX hY
  go_wp2_with fail
  go_ret
  exact ⟨rfl,HB.out⟩
set_option maxHeartbeats 1000000 in
theorem eqEntryS_same (A A':Option Addr) (es:List En) (c c' L L' B B':Nat) (w:World) (hA:EnsIn w L B A es) (hA':EnsIn w L' B' A' es) (hB:B≤w.heap.size) (hB':B'≤w.heap.size) (hn:es.length≤1048576) (hbk:ebulk es≤1048576) :
    Calls Tryz.prog 128 #[.slice A es.length c,.slice A' es.length c'] w fun e w'=>e=.returned (.bool true)∧Below w.heap.size w w':=by
  go_enter Tryz.func128,Tryz.ntmps128
  go_wp2
  go_loopw [5] (fun i wr=>∃k:Nat,k≤es.length∧i=.int .i64 k∧Below w.heap.size w wr) (fun i _=>es.length - (intOf i).toNat)
  case atStart=>exact ⟨0,Nat.zero_le _,rfl,Below.refl _ _⟩
  case round =>
    obtain ⟨k,hk,rfl,hbel⟩:=hrel
    have HBel:=hd' hbel
    by_cases hlt:k < es.length
    · obtain ⟨b,o,rfl,_,hb,hc⟩:=hA (by omega)
      obtain ⟨b',o',rfl,_,hb',hc'⟩:=hA' (by omega)
      obtain ⟨A1,c1,x0,x1,x2,x3,hby⟩:=(hc k hlt).keep (by assumption) hb (fun p _ hp=>hbel.cell (by omega))
      obtain ⟨A2,c2,y0,y1,y2,y3,hby'⟩:=(hc' k hlt).keep (by assumption) hb' (fun p _ hp=>hbel.cell (by omega))
      have HY:=hd' hby
      have HY':=hd' hby'
      have hle:=name_le_ebulk es k hlt
      have hz:=hbel.size
      clear hc hc' hA hA' hbel hby hby'
      go_wp2
      go_still_tail 8,(by kernel_rfl)
      change wpList _ _ _ _ _ wr.drew
      go_wp2_with fail
      refine (eqEntry_same _ _ _ _ _ _ _ _ L L' B B' _ HY.out.drew HY'.out.drew (Nat.le_trans hB hz) (Nat.le_trans hB' hz) (by omega)).mono ?_
      rintro e w1 ⟨rfl,hb1⟩
      have HB:=hd' (HBel.out.drew.trans (hb1.mono hz))
      clear hb1 x0 x1 x2 x3 y0 y1 y2 y3
      go_wp2
      go_roundw
      case rel=>exact ⟨k+1,by omega,by go_num,HB.out⟩
      case measure=>simp [intOf];omega
    · go_wp2
      go_ret
      exact ⟨rfl,hbel⟩
end Go.Proofs.YtckajeippfpojaaGreat
namespace Go.Proofs.YtckajeippfpojaaGreat
open Go.ChangeShapes Go.WideShapes Go.ChangeAt Go.RowKit Go.Deep
set_option maxRecDepth 100000
section
variable {H:Type} {enc:TypeId × Value→H} {W:World} {base:Nat} {sp:Nat→Bool} {held:Bool}
theorem Tryz.cellsE:Tryz.prog.cellsOf 213=4:=by kernel_rfl
theorem Tryz.cellsTr:Tryz.prog.cellsOf 28=2:=by kernel_rfl
theorem Tryz.cellsES:Tryz.prog.cellsOf 26=1:=by kernel_rfl
theorem Tryz.cellsIS:Tryz.prog.cellsOf 25=1:=by kernel_rfl
theorem open_numCells {fuel:Nat} {cs:List Value} {x:DataW H × List MemPlace} (h:DataW.trod enc Tryz.prog W 0 sp held fuel 25 cs=some x) :
    ∃(A:Option Addr) (l:List Int) (c:Nat),cs=[.slice A l.length c]∧l.length≤9223372036854775807∧IntsIn W 0 W.heap.size A l:=by
  rcases open_ints Tryz.underlying25 Tryz.underlying3 Tryz.cellsInt h with ⟨rfl,_⟩|⟨a,len,cap,zs,rfl,_,hl,hm,hz,_,hcell,_⟩
  · exact ⟨none,[],0,rfl,by simp,fun h=>absurd h (by simp)⟩
  · have hlz:len≤zs.length:=by rw [hz];split <;> omega
    have hlen:(zs.take len).length=len:=by simp;omega
    refine ⟨some a,zs.take len,cap,by rw [hlen],by rw [hlen];unfold maxLen at hm;omega,fun hpos=>?_⟩
    rw [hlen] at hpos
    have h0:=hcell 0 (by omega)
    obtain ⟨b,off,spot⟩:=a
    have hspot:spot=none:=by simpa [Addr.add] using World.cell?_spot h0
    subst hspot
    have hblk:=World.block_lt_of_cell? W _ h0
    refine ⟨b,off,rfl,Nat.zero_le _,by simpa [Addr.add] using hblk,fun j hj=>?_⟩
    rw [hlen] at hj
    have hc:=hcell j (by omega)
    rw [Addr.add_lit] at hc
    rw [hc]
    have hj':j < zs.length:=by omega
    simp [List.getD_eq_getElem?_getD,List.getElem?_eq_getElem hj']
theorem open_enCells {fuel:Nat} {cs:List Value} {x:DataW H × List MemPlace} (h:DataW.trod enc Tryz.prog W base sp held fuel 213 cs=some x) :
    ∃(t:En) (A:Option Addr) (c:Nat),cs=[.slice A t.name.length c,.int .i64 t.val,.int .i64 t.dev,.int .i64 t.num]∧t.name.length≤c∧c≤maxLen∧BytesIn W 0 W.heap.size A t.name:=by
  obtain ⟨xs,n,_,_,hlen,hxs,hg⟩:=DataW.trod_struct Tryz.underlying213 h
  rw [Tryz.cellsE] at hlen
  match cs,hlen with
  | [c0,c1,c2,c3],_ =>
    match xs,hxs with
    | [y0,y1,y2,y3],_ =>
      have g0:=hg 0 _ rfl
      have g1:=hg 1 _ rfl
      have g2:=hg 2 _ rfl
      have g3:=hg 3 _ rfl
      simp [Tryz.cellsInt,Tryz.cellsBS] at g0 g1 g2 g3
      obtain ⟨A,c,l,e0,hl,hm,hb⟩:=open_bytes g0
      obtain ⟨v,e1,_,_⟩:=DataW.trod_int Tryz.underlying3 g1
      obtain ⟨d,e2,_,_⟩:=DataW.trod_int Tryz.underlying3 g2
      obtain ⟨m,e3,_,_⟩:=DataW.trod_int Tryz.underlying3 g3
      simp at e0 e1 e2 e3
      subst e0 e1 e2 e3
      exact ⟨⟨l,v,d,m⟩,A,c,rfl,hl,hm,hb⟩
theorem open_ensCells {fuel:Nat} {cs:List Value} {x:DataW H × List MemPlace} (h:DataW.trod enc Tryz.prog W 0 sp held fuel 26 cs=some x) :
    ∃(A:Option Addr) (es:List En) (c:Nat),cs=[.slice A es.length c]∧es.length≤9223372036854775807∧(∀i (hi:i < es.length),es[i].name.length≤9223372036854775807)∧EnsIn W 0 W.heap.size A es:=by
  rcases open_slice Tryz.underlying26 h with ⟨e,_⟩|⟨a,len,cap,m,n,D,Pl,e,hb,hl,hm,hmm,_,hi⟩
  · subst e
    exact ⟨none,[],0,rfl,by simp,fun i hi=>absurd hi (by simp),fun h=>absurd h (by simp)⟩
  · subst e
    rw [Tryz.cellsE] at hi
    have hlm:len≤m:=by rw [hmm];split <;> omega
    obtain ⟨f,hf⟩:=choose_lt (α:=En) (p:=fun i t=>∃(A:Option Addr) (c:Nat) (cs':List Value),W.cells? 0 (a.add (i*4)) 4=some cs'∧cs'=[.slice A t.name.length c,.int .i64 t.val,.int .i64 t.dev,.int .i64 t.num]∧t.name.length≤c∧c≤maxLen∧BytesIn W 0 W.heap.size A t.name) (n:=len) (fun i hil=>by
      obtain ⟨cs',h1,h2⟩:=hi i (by omega)
      obtain ⟨t,A,c,e,hx⟩:=open_enCells h2
      exact ⟨t,A,c,cs',h1,e,hx⟩)
    have hlen2:((List.range len).map f).length=len:=by simp
    refine ⟨some a,(List.range len).map f,cap,by rw [hlen2],by rw [hlen2];unfold maxLen at hm;omega,fun i hi'=>?_,fun hpos=>?_⟩
    · rw [hlen2] at hi'
      obtain ⟨A1,c1,cs1,k1,k2,k3,k4,k5⟩:=hf i hi'
      simp only [List.getElem_map,List.getElem_range]
      unfold maxLen at k4
      omega
    rw [hlen2] at hpos
    obtain ⟨A0,c0',cs0,k1,k2,_⟩:=hf 0 hpos
    obtain ⟨_,_,kk⟩:=World.cells?_some k1
    have q0:=kk 0 (by omega)
    rw [k2] at q0
    obtain ⟨b,off,spot⟩:=a
    have hspot:spot=none:=by simpa [Addr.add] using World.cell?_spot q0
    subst hspot
    have hblk:=World.block_lt_of_cell? W _ q0
    refine ⟨b,off,rfl,Nat.zero_le _,by simpa [Addr.add] using hblk,fun i hi'=>?_⟩
    rw [hlen2] at hi'
    obtain ⟨A1,c1,cs1,k1,k2,k3,k4,k5⟩:=hf i hi'
    obtain ⟨_,_,kk⟩:=World.cells?_some k1
    have q0:=kk 0 (by omega)
    have q1:=kk 1 (by omega)
    have q2:=kk 2 (by omega)
    have q3:=kk 3 (by omega)
    rw [k2] at q0 q1 q2 q3
    simp only [Addr.add_lit,Nat.add_zero] at q0 q1 q2 q3
    simp only [List.getElem_map,List.getElem_range]
    exact ⟨A1,c1,q0,q1,q2,q3,k5⟩
end
end Go.Proofs.YtckajeippfpojaaGreat
namespace Go.Proofs.YtckajeippfpojaaGreat
open Go.ChangeShapes Go.WideShapes Go.ChangeAt Go.RowKit Go.Deep
set_option maxRecDepth 100000
section
variable {H:Type} {enc:TypeId × Value→H} {W:World} {base:Nat} {sp:Nat→Bool} {held:Bool}
theorem Tryz.cellsMan:Tryz.prog.cellsOf 30=6:=by kernel_rfl
theorem open_trCells {fuel:Nat} {cs:List Value} {x:DataW H × List MemPlace} (h:DataW.trod enc Tryz.prog W 0 sp held fuel 28 cs=some x) :
    ∃(AV:Option Addr) (vec:List Int) (cv:Nat) (A:Option Addr) (es:List En) (c:Nat),cs=[.slice AV vec.length cv,.slice A es.length c]∧vec.length≤9223372036854775807∧es.length≤9223372036854775807∧(∀i (hi:i < es.length),es[i].name.length≤9223372036854775807)∧IntsIn W 0 W.heap.size AV vec∧EnsIn W 0 W.heap.size A es:=by
  obtain ⟨xs,n,_,_,hlen,hxs,hg⟩:=DataW.trod_struct Tryz.underlying28 h
  rw [Tryz.cellsTr] at hlen
  match cs,hlen with
  | [c0,c1],_ =>
    match xs,hxs with
    | [y0,y1],_ =>
      have g0:=hg 0 _ rfl
      have g1:=hg 1 _ rfl
      simp [Tryz.cellsIS,Tryz.cellsES] at g0 g1
      obtain ⟨AV,vec,cv,e0,hvl,hvi⟩:=open_numCells g0
      obtain ⟨A,es,c,e1,hel,hnl,hei⟩:=open_ensCells g1
      simp at e0 e1
      subst e0 e1
      exact ⟨AV,vec,cv,A,es,c,rfl,hvl,hel,hnl,hvi,hei⟩
end
end Go.Proofs.YtckajeippfpojaaGreat
namespace Go.Proofs.YtckajeippfpojaaGreat
open Go.RowKit Go.Maps
set_option maxRecDepth 100000
structure EnCell (w:World) (R i:Nat) (N:Option Addr) (lo up c:Nat) (e:En):Prop where
  c0:w.cell? ⟨R,i*4,none⟩=some (.slice N e.name.length c)
  c1:w.cell? ⟨R,i*4+1,none⟩=some (.int .i64 e.val)
  c2:w.cell? ⟨R,i*4+2,none⟩=some (.int .i64 e.dev)
  c3:w.cell? ⟨R,i*4+3,none⟩=some (.int .i64 e.num)
  fr:∀o,o < 4→w.frozen? ⟨R,i*4+o,none⟩=false
  nm:BytesFr w lo up N e.name
theorem EnCell.keep {w w':World} {R i lo up c:Nat} {N:Option Addr} {e:En} (h:EnCell w R i N lo up c e) (hR:∀o,w'.cell? ⟨R,o,none⟩=w.cell? ⟨R,o,none⟩∧w'.frozen? ⟨R,o,none⟩=w.frozen? ⟨R,o,none⟩) (hg:∀p:Addr,lo≤p.block→p.block < up→w'.cell? p=w.cell? p∧w'.frozen? p=w.frozen? p):EnCell w' R i N lo up c e where
  c0:=(hR _).1.trans h.c0
  c1:=(hR _).1.trans h.c1
  c2:=(hR _).1.trans h.c2
  c3:=(hR _).1.trans h.c3
  fr o ho:=(hR _).2.trans (h.fr o ho)
  nm:=h.nm.keep hg
structure ELay (L B R n:Nat) (lo hi:Nat→Nat):Prop where
  low:L≤R
  up:R < B
  at_:∀i,i < n→L≤lo i∧hi i≤B∧(R < lo i∨hi i≤R)
  apart:∀i j,i < j→j < n→hi i≤lo j∨hi j≤lo i
theorem ELay.mono {L L' B B' R n:Nat} {lo up:Nat→Nat} (h:ELay L B R n lo up) (hL:L'≤L) (hB:B≤B'):ELay L' B' R n lo up :=
  ⟨Nat.le_trans hL h.low,Nat.lt_of_lt_of_le h.up hB,fun i hi=>⟨Nat.le_trans hL (h.at_ i hi).1,Nat.le_trans (h.at_ i hi).2.1 hB,(h.at_ i hi).2.2⟩,h.apart⟩
theorem ELay.ap {L B R n:Nat} {lo up:Nat→Nat} (h:ELay L B R n lo up) {i j:Nat} (hi:i < n) (hj:j < n) (hij:i≠j):up i≤lo j∨up j≤lo i:=by
  rcases Nat.lt_or_gt_of_ne hij with h1|h1
  · exact h.apart i j h1 hj
  · exact (h.apart j i h1 hi).symm
def EnsOwn (w:World) (L B:Nat) (A:Option Addr) (es:List En):Prop :=
  0 < es.length→∃(R:Nat) (N:Nat→Option Addr) (lo up c:Nat→Nat),A=some ⟨R,0,none⟩∧ELay L B R es.length lo up∧∀i (hi:i < es.length),EnCell w R i (N i) (lo i) (up i) (c i) es[i]
section
variable {w w':World} {L L' B B':Nat} {A:Option Addr} {es:List En}
theorem EnsOwn.keep (h:EnsOwn w L B A es) (hk:∀p:Addr,L≤p.block→p.block < B→w'.cell? p=w.cell? p∧w'.frozen? p=w.frozen? p):EnsOwn w' L B A es:=fun hl=>by
  obtain ⟨R,N,lo,up,c,e,hlay,hc⟩:=h hl
  exact ⟨R,N,lo,up,c,e,hlay,fun i hi=>(hc i hi).keep (fun o=>hk _ hlay.low hlay.up) (fun p hp hq=>hk p (Nat.le_trans (hlay.at_ i hi).1 hp) (Nat.lt_of_lt_of_le hq (hlay.at_ i hi).2.1))⟩
theorem EnsOwn.mono (h:EnsOwn w L B A es) (hL:L'≤L) (hB:B≤B'):EnsOwn w L' B' A es:=fun hl=>by
  obtain ⟨R,N,lo,up,c,e,hlay,hc⟩:=h hl
  exact ⟨R,N,lo,up,c,e,hlay.mono hL hB,hc⟩
theorem EnsOwn.nil:EnsOwn w L B A []:=fun h=>absurd h (by simp)
theorem EnsOwn.ens (h:EnsOwn w L B A es):EnsIn w L B A es:=fun hl=>by
  obtain ⟨R,N,lo,up,c,e,hlay,hc⟩:=h hl
  refine ⟨R,0,e,hlay.low,hlay.up,fun i hi=>?_⟩
  rw [Nat.zero_add]
  have hx:=hc i hi
  exact ⟨_,c i,hx.c0,hx.c1,hx.c2,hx.c3,((hx.nm.bytes.low (hlay.at_ i hi).1).mono (hlay.at_ i hi).2.1)⟩
end
def TrOwn (w:World) (L B:Nat) (AV:Option Addr) (vec:List Int) (A:Option Addr) (es:List En):Prop :=
  ∃L1 B1 L2 B2,L≤L1∧B1≤B∧L≤L2∧B2≤B∧(B1≤L2∨B2≤L1)∧IntsFr w L1 B1 AV vec∧EnsOwn w L2 B2 A es
section
variable {w w':World} {L L' B B':Nat} {AV A:Option Addr} {vec:List Int} {es:List En}
theorem TrOwn.keep (h:TrOwn w L B AV vec A es) (hk:∀p:Addr,L≤p.block→p.block < B→w'.cell? p=w.cell? p∧w'.frozen? p=w.frozen? p):TrOwn w' L B AV vec A es:=by
  obtain ⟨L1,B1,L2,B2,h1,h2,h3,h4,h5,hv,he⟩:=h
  exact ⟨L1,B1,L2,B2,h1,h2,h3,h4,h5,hv.keep fun p hp hq=>hk p (by omega) (by omega),he.keep fun p hp hq=>hk p (by omega) (by omega)⟩
theorem TrOwn.mono (h:TrOwn w L B AV vec A es) (hL:L'≤L) (hB:B≤B'):TrOwn w L' B' AV vec A es:=by
  obtain ⟨L1,B1,L2,B2,h1,h2,h3,h4,h5,hv,he⟩:=h
  exact ⟨L1,B1,L2,B2,by omega,by omega,by omega,by omega,h5,hv,he⟩
theorem TrOwn.vecIn (h:TrOwn w L B AV vec A es):IntsFr w L B AV vec:=by
  obtain ⟨L1,B1,L2,B2,h1,h2,h3,h4,h5,hv,he⟩:=h
  exact (hv.low h1).mono h2
theorem TrOwn.ensIn (h:TrOwn w L B AV vec A es):EnsOwn w L B A es:=by
  obtain ⟨L1,B1,L2,B2,h1,h2,h3,h4,h5,hv,he⟩:=h
  exact he.mono h3 h4
end
theorem Tryz.infoEntry:(Tryz.prog.info? 180).map (fun i=>(i.zero,i.size,i.bytes))=some (some (.agg #[.slice none 0 0,.int .i64 0,.int .i64 0,.int .i64 0]),4,48):=by kernel_rfl
set_option maxHeartbeats 1000000 in
theorem toEntry_own (v d m:Int) (A:Option Addr) (l:List UInt8) (c:Nat) (w:World) (hA:BytesIn w 0 w.heap.size A l) (hn:l.length≤1048576) :
    Calls Tryz.prog 174 #[.agg #[.slice A l.length c,.int .i64 v,.int .i64 d,.int .i64 m]] w fun e w'=>∃g,e=.returned (.agg #[.slice (some ⟨g,0,none⟩) l.length l.length,.int .i64 v,.int .i64 d,.int .i64 m])∧w.heap.size≤g∧g < w'.heap.size∧BytesFr w' g (g+1) (some ⟨g,0,none⟩) l∧Below w.heap.size w w':=by
  have HA:=hd' hA
  clear hA
  go_enter Tryz.func174,Tryz.ntmps174
  go_wp2_with fail
  refine (toByteS_fr _ _ _ _ ?h1 hn).mono ?_
  case h1=>exact (HA.out.below ((((Below.refl _ _).alloc (Nat.le_refl _) _).alloc (by simp) _).alloc (by simp;omega) _)).mono (by simp;omega)
  rintro e w' ⟨rfl,hby,hz,hfr,hb⟩
  have HB:=hd' hby
  have HFr:=hd' hfr
  have hbel:Below w.heap.size w w':=((((Below.refl _ _).alloc (Nat.le_refl _) _).alloc (by simp) _).alloc (by simp;omega) _).trans (hb.mono (by simp;omega))
  obtain ⟨hc,hf⟩:=bcell hb
  have HBel:=hd' hbel
  clear hby hb hbel hfr
  simp at hz
  go_wp2
  refine bodyPost_ret (v:=.agg #[.slice (some ⟨w.heap.size+1+1+1,0,none⟩) l.length l.length,.int .i64 v,.int .i64 d,.int .i64 m]) (by simp [results,Tryz.results174,hc,go_sem]) rfl ⟨_,rfl,by omega,by simp;omega,?_,?_⟩
  · intro hl
    obtain ⟨b,o,e,hL,hb,hcc⟩:=HB.out hl
    simp at e hL hb
    obtain ⟨rfl,rfl⟩:=e
    refine ⟨_,_,rfl,by omega,by omega,fun j hj=>⟨?_,?_⟩⟩
    · rw [←hcc j hj]
      repeat rw [World.cell?_setCell_other _ _ _ _ (by simp)]
    · have h:=HFr.out ⟨w.heap.size+1+1+1,0+j,none⟩ (by simp)
      repeat rw [World.frozen?_setCell]
      exact h
  · refine (((((((HBel.out.setCell ?_ _).setCell ?_ _).setCell ?_ _).setCell ?_ _).setCell ?_ _).setCell ?_ _).setCell ?_ _).setCell ?_ _
    all_goals first|omega|(simp;done)|(simp;omega)
theorem run_make_ens (n:Nat) (hn:n≤1048576) (w:World) :
    (Instr.makeSlice 36 (.int .i64 (n:Int)) (.int .i64 (n:Int))).run Tryz.prog w=.ok (.slice (some ⟨w.heap.size,0,none⟩) n n) (w.alloc (.cells (madeCells #[.slice none 0 0,.int .i64 0,.int .i64 0,.int .i64 0] (n*4)) 180)):=by
  obtain ⟨i0,hi,hz0,hz1,hz2⟩:=info_parts Tryz.infoEntry
  have hr:=run_make (P:=Tryz.prog) w 36 180 i0 _ Tryz.underlying36 hi hz0 .i64 .i64 n n (by omega) (by omega) (by rw [hz2];omega) (by omega)
  simp only [Int.toNat_natCast,hz1] at hr
  exact hr
def put4e (f:Nat→Value) (k:Nat) (v0 v1 v2 v3:Value):Nat→Value :=
  fun j=>if j=k*4+3 then v3 else (fun j=>if j=k*4+2 then v2 else (fun j=>if j=k*4+1 then v1 else (fun j=>if j=k*4 then v0 else f j) j) j) j
theorem rowIs_put4e {w:World} {b:Nat} {t:TypeId} {n:Nat} {f:Nat→Value} (h:w.rowIs b t n f) (k:Nat) (v0 v1 v2 v3:Value) :
    ((((w.setCell ⟨b,k*4,none⟩ v0).setCell ⟨b,k*4+1,none⟩ v1).setCell ⟨b,k*4+2,none⟩ v2).setCell ⟨b,k*4+3,none⟩ v3).rowIs b t n (put4e f k v0 v1 v2 v3) :=
  (((h.set _ v0).set _ v1).set _ v2).set _ v3
theorem other_put4e {w:World} {b k:Nat} {v0 v1 v2 v3:Value} {p:Addr} (hp:p.block≠b) :
    ((((w.setCell ⟨b,k*4,none⟩ v0).setCell ⟨b,k*4+1,none⟩ v1).setCell ⟨b,k*4+2,none⟩ v2).setCell ⟨b,k*4+3,none⟩ v3).cell? p=w.cell? p ∧
    ((((w.setCell ⟨b,k*4,none⟩ v0).setCell ⟨b,k*4+1,none⟩ v1).setCell ⟨b,k*4+2,none⟩ v2).setCell ⟨b,k*4+3,none⟩ v3).frozen? p=w.frozen? p:=by
  refine ⟨?_,by rw [World.frozen?_setCell,World.frozen?_setCell,World.frozen?_setCell,World.frozen?_setCell]⟩
  rw [World.cell?_setCell_other _ _ _ _ (by rintro rfl;exact hp rfl),World.cell?_setCell_other _ _ _ _ (by rintro rfl;exact hp rfl),World.cell?_setCell_other _ _ _ _ (by rintro rfl;exact hp rfl),World.cell?_setCell_other _ _ _ _ (by rintro rfl;exact hp rfl)]
theorem below_put4e {B:Nat} {a w:World} (h:Below B a w) {b k:Nat} (hB:B≤b) (v0 v1 v2 v3:Value) :
    Below B a ((((w.setCell ⟨b,k*4,none⟩ v0).setCell ⟨b,k*4+1,none⟩ v1).setCell ⟨b,k*4+2,none⟩ v2).setCell ⟨b,k*4+3,none⟩ v3) :=
  (((h.setCell hB _).setCell hB _).setCell hB _).setCell hB _
structure EnRow (w:World) (R:Nat) (es:List En) (k:Nat) (f:Nat→Value) (g:Nat→Nat):Prop where
  at_:∀i,i < k→R < g i∧g i < w.heap.size
  inc:∀i j,i < j→j < k→g i < g j
  val:∀i (hi:i < es.length),i < k→f (i*4)=.slice (some ⟨g i,0,none⟩) es[i].name.length es[i].name.length∧f (i*4+1)=.int .i64 es[i].val∧f (i*4+2)=.int .i64 es[i].dev∧f (i*4+3)=.int .i64 es[i].num
  nm:∀i (hi:i < es.length),i < k→BytesFr w (g i) (g i+1) (some ⟨g i,0,none⟩) es[i].name
theorem EnRow.step {w w1:World} {R:Nat} {es:List En} {k:Nat} {f:Nat→Value} {g:Nat→Nat} {g':Nat} (hk:k < es.length) (h:EnRow w R es k f g) (hb:Below w.heap.size w w1) (hR:R < w.heap.size) (hg:w.heap.size≤g') (hg1:g' < w1.heap.size)
    (hby:BytesFr w1 g' (g'+1) (some ⟨g',0,none⟩) es[k].name) :
    EnRow ((((w1.setCell ⟨R,k*4,none⟩ (.slice (some ⟨g',0,none⟩) es[k].name.length es[k].name.length)).setCell ⟨R,k*4+1,none⟩ (.int .i64 es[k].val)).setCell ⟨R,k*4+2,none⟩ (.int .i64 es[k].dev)).setCell ⟨R,k*4+3,none⟩ (.int .i64 es[k].num)) R es (k+1)
      (put4e f k (.slice (some ⟨g',0,none⟩) es[k].name.length es[k].name.length) (.int .i64 es[k].val) (.int .i64 es[k].dev) (.int .i64 es[k].num)) (fun i=>if i=k then g' else g i) where
  at_ i hi:=by
    have hz:=hb.size
    simp only [World.size_setCell]
    by_cases e:i=k
    · rw [if_pos e];omega
    · rw [if_neg e]
      have:=h.at_ i (by omega)
      omega
  inc i j hij hj:=by
    by_cases e:j=k
    · rw [if_neg (show i≠k by omega),if_pos e]
      have:=h.at_ i (by omega)
      omega
    · rw [if_neg (show i≠k by omega),if_neg e]
      exact h.inc i j hij (by omega)
  val i hi hik:=by
    by_cases e:i=k
    · subst e
      simp [put4e]
    · obtain ⟨f0,f1,f2,f3⟩:=h.val i hi (by omega)
      unfold put4e
      simp only [if_neg e]
      refine ⟨?_,?_,?_,?_⟩
      all_goals rw [if_neg (by omega),if_neg (by omega),if_neg (by omega),if_neg (by omega)]
      all_goals assumption
  nm i hi hik:=by
    by_cases e:i=k
    · subst e
      simp only [if_true]
      exact hby.keep fun p hp hq=>other_put4e (by omega)
    · simp only [if_neg e]
      have h1:=h.at_ i (by omega)
      exact ((h.nm i hi (by omega)).keep fun p hp hq=>⟨hb.cell (by omega),hb.frozen (by omega)⟩).keep fun p hp hq=>other_put4e (by omega)
set_option maxHeartbeats 1000000 in
theorem toEntryS_own (A:Option Addr) (es:List En) (c:Nat) (w:World) (hA:EnsIn w 0 w.heap.size A es) (hn:es.length≤1048576) (hbk:ebulk es≤1048576) :
    Calls Tryz.prog 115 #[.slice A es.length c] w fun e w'=>∃R,e=.returned (.slice (some ⟨R,0,none⟩) es.length es.length)∧w.heap.size≤R∧EnsOwn w' w.heap.size w'.heap.size (some ⟨R,0,none⟩) es∧Below w.heap.size w w':=by
  have hmk:=run_make_ens es.length hn
  go_enter Tryz.func115,Tryz.ntmps115
  go_wp2
  clear hmk
  go_loopw [4] (fun i wr=>∃(k:Nat) (f:Nat→Value) (g:Nat→Nat),k≤es.length∧i=.int .i64 k∧wr.rowIs w.heap.size 180 (es.length*4) f∧EnRow wr w.heap.size es k f g∧Below w.heap.size w wr) (fun i _=>es.length - (intOf i).toNat)
  case atStart =>
    refine ⟨0,fun j=>(#[Value.slice none 0 0,.int .i64 0,.int .i64 0,.int .i64 0]:Array Value)[j % 4]!,fun _=>0,Nat.zero_le _,rfl,⟨_,heap_alloc_new w _,size_madeCells _ _,fun i hi=>?_⟩,⟨fun i h=>absurd h (by omega),fun i j _ h=>absurd h (by omega),fun i _ h=>absurd h (by omega),fun i _ h=>absurd h (by omega)⟩,(Below.refl _ _).alloc (Nat.le_refl _) _⟩
    simp [madeCells,hi]
  case round =>
    obtain ⟨k,f,g,hk,rfl,hrow,hen,hbel⟩:=hrel
    have HR:=hd' hrow
    have HE:=hd' hen
    clear hen
    by_cases hlt:k < es.length
    · obtain ⟨b,o,rfl,hL,hb,hc⟩:=hA (by omega)
      obtain ⟨A',c',c0,c1,c2,c3,hby⟩:=(hc k hlt).keep hL hb (fun p _ hp=>hbel.cell hp)
      have hle:=name_le_ebulk es k hlt
      have HB:=hd' (hby.mono hbel.size)
      clear hc hrow hby
      go_wp2_with fail
      refine (toEntry_own _ _ _ _ _ _ _ HB.out (by omega)).mono ?_
      rintro e w1 ⟨g',rfl,hg,hg1,hby,hb1⟩
      have HY:=hd' hby
      have hR:=HR.out.lt
      have hrow:=HR.out.of_block (hb1.block _ hR)
      have d0:=hrow.cell (i:=k*4) (by omega)
      have d1:=hrow.cell (i:=k*4+1) (by omega)
      have d2:=hrow.cell (i:=k*4+2) (by omega)
      have d3:=hrow.cell (i:=k*4+3) (by omega)
      have e0:=hrow.frozen (k*4)
      have e1:=hrow.frozen (k*4+1)
      have e2:=hrow.frozen (k*4+2)
      have e3:=hrow.frozen (k*4+3)
      have HW:=hd' hrow
      have HB1:=hd' hb1
      have HBel:=hd' hbel
      clear hby hrow hb1 hbel c0 c1 c2 c3
      go_wp2
      go_roundw
      case rel=>exact ⟨k+1,_,_,by omega,by go_num,rowIs_put4e HW.out k _ _ _ _,HE.out.step hlt HB1.out hR hg hg1 HY.out,below_put4e (HBel.out.trans (HB1.out.mono HBel.out.size)) (Nat.le_refl _) _ _ _ _⟩
      case measure=>simp [intOf];omega
    · clear hrow
      go_wp2
      go_ret
      refine ⟨w.heap.size,rfl,Nat.le_refl _,fun hl=>⟨w.heap.size,fun i=>some ⟨g i,0,none⟩,g,fun i=>g i+1,fun i=>(es.getD i default).name.length,rfl,⟨Nat.le_refl _,HR.out.lt,fun i hi=>?_,fun i j hij hj=>.inl (show g i+1≤g j from HE.out.inc i j hij (by omega))⟩,fun i hi=>?_⟩,hbel⟩
      · have:=HE.out.at_ i (by omega)
        show w.heap.size≤g i∧g i+1≤wr.heap.size∧(w.heap.size < g i∨g i+1≤w.heap.size)
        omega
      · obtain ⟨f0,f1,f2,f3⟩:=HE.out.val i hi (by omega)
        have hgd:(es.getD i default).name.length=es[i].name.length:=by simp [hi]
        show EnCell wr w.heap.size i (some ⟨g i,0,none⟩) (g i) (g i+1) (es.getD i default).name.length es[i]
        rw [hgd]
        exact ⟨(HR.out.cell (by omega)).trans (by rw [f0]),(HR.out.cell (by omega)).trans (by rw [f1]),(HR.out.cell (by omega)).trans (by rw [f2]),(HR.out.cell (by omega)).trans (by rw [f3]),fun o _=>HR.out.frozen _,HE.out.nm i hi (by omega)⟩
set_option maxHeartbeats 1000000 in
theorem toTree_own (AV:Option Addr) (vec:List Int) (cv:Nat) (A:Option Addr) (es:List En) (c:Nat) (w:World) (hV:IntsIn w 0 w.heap.size AV vec) (hA:EnsIn w 0 w.heap.size A es) (hv:vec.length≤1048576) (hn:es.length≤1048576) (hbk:ebulk es≤1048576) :
    Calls Tryz.prog 61 #[.agg #[.slice AV vec.length cv,.slice A es.length c]] w fun e w'=>∃gv ge,e=.returned (.agg #[.slice (some ⟨gv,0,none⟩) vec.length vec.length,.slice (some ⟨ge,0,none⟩) es.length es.length])∧w.heap.size < w'.heap.size∧TrOwn w' w.heap.size w'.heap.size (some ⟨gv,0,none⟩) vec (some ⟨ge,0,none⟩) es∧Below w.heap.size w w':=by
  have HV:=hd' hV
  have HA:=hd' hA
  clear hV hA
  go_enter Tryz.func61,Tryz.ntmps61
  go_wp2_with fail
  obtain ⟨W0,hW0⟩:∃W0,W0=w.alloc (.cells #[.slice AV vec.length cv,.slice A es.length c] 28):=⟨_,rfl⟩
  obtain ⟨W1,hW1⟩:∃W1,W1=W0.alloc (.cells #[.slice none 0 0,.slice none 0 0] 38):=⟨_,rfl⟩
  obtain ⟨W,hW⟩:∃W,W=W1.alloc (.cells #[.slice none 0 0,.slice none 0 0] 38):=⟨_,rfl⟩
  have hz0:W0.heap.size=w.heap.size+1:=by rw [hW0];simp
  have hz1:W1.heap.size=w.heap.size+2:=by rw [hW1];simp [hz0]
  have hz:W.heap.size=w.heap.size+3:=by rw [hW];simp [hz1]
  have HX:=hd' (show Bx W w.heap.size [.slice AV vec.length cv,.slice A es.length c] by rw [hW,hW1,hW0];exact Bx.alloc (Bx.alloc (Bx.new' _ _ _ _ rfl) (by simp) _) (by simp;omega) _)
  have HY:=hd' (show Bx W (w.heap.size+1) [.slice none 0 0,.slice none 0 0] by rw [hW,←hz0,hW1];exact Bx.alloc (Bx.new' _ _ _ _ rfl) (by simp) _)
  have HZ:=hd' (show Bx W (w.heap.size+2) [.slice none 0 0,.slice none 0 0] by rw [hW,←hz1];exact Bx.new' _ _ _ _ rfl)
  have HFy:=hd' (show ∀o,W.frozen? ⟨w.heap.size+1,o,none⟩=false∧W.frozen? ⟨w.heap.size+2,o,none⟩=false from fun o=>by rw [hW,hW1,hW0];exact ⟨((((Fresh.refl w).alloc _ _).alloc _ _).alloc _ _) ⟨w.heap.size+1,o,none⟩ (by show w.heap.size≤w.heap.size+1;omega),((((Fresh.refl w).alloc _ _).alloc _ _).alloc _ _) ⟨w.heap.size+2,o,none⟩ (by show w.heap.size≤w.heap.size+2;omega)⟩)
  have HBel:=hd' (show Below w.heap.size w W by rw [hW,hW1,hW0];exact (((Below.refl _ _).alloc (Nat.le_refl _) _).alloc (by simp) _).alloc (by simp;omega) _)
  rw [←hW0,←hW1,←hW]
  have hzW:w.heap.size+2 < W.heap.size:=by omega
  clear hW hW1 hW0 hz0 hz1 hz
  refine (toIntS_fr AV vec cv W ((HV.out.keep fun p _ hp=>HBel.out.cell hp).mono (by omega)) hv).mono ?_
  rintro e w1 ⟨gv,rfl,_,_,hfr,hb1⟩
  have HF1:=hd' hfr
  have HX1:=hd' (HX.out.below hb1 (by omega))
  have HY1:=hd' (HY.out.below hb1 (by omega))
  have HZ1:=hd' (HZ.out.below hb1 (by omega))
  have HFy1:=hd' (show ∀o,w1.frozen? ⟨w.heap.size+1,o,none⟩=false∧w1.frozen? ⟨w.heap.size+2,o,none⟩=false from fun o=>⟨(hb1.frozen (by show w.heap.size+1 < _;omega)).trans (HFy.out o).1,(hb1.frozen (by show w.heap.size+2 < _;omega)).trans (HFy.out o).2⟩)
  have HB1:=hd' (HBel.out.trans (hb1.mono (by omega)))
  have hz1:=hb1.size
  have x1:=HX1.out 1 (by simp)
  have z0:=HZ1.out 0 (by simp)
  have z1:=HZ1.out 1 (by simp)
  have f0:=(HFy1.out 0).2
  simp only [List.getElem_cons_succ,List.getElem_cons_zero] at x1 z0 z1
  clear hfr hb1 HX HY HZ HFy
  go_wp2_with fail
  obtain ⟨w2,hw2⟩:∃w2,w2=w1.setCell ⟨w.heap.size+2,0,none⟩ (.slice (some ⟨gv,0,none⟩) vec.length vec.length):=⟨_,rfl⟩
  have hs2:w2.heap.size=w1.heap.size:=by rw [hw2];simp
  have hz2:w.heap.size+2 < w2.heap.size:=by omega
  have hz12:w1.heap.size≤w2.heap.size:=by omega
  have HB2:=hd' (show Below w.heap.size w w2 by rw [hw2];exact HB1.out.setCell (by simp) _)
  have HF2:=hd' (show IntsFr w2 W.heap.size w1.heap.size (some ⟨gv,0,none⟩) vec by
    rw [hw2]
    exact HF1.out.keep fun p hp _=>⟨World.cell?_setCell_other _ _ _ _ (by rintro rfl;simp at hp;omega),by rw [World.frozen?_setCell]⟩)
  have y0:w2.cell? ⟨w.heap.size+1,0,none⟩=some (.slice none 0 0):=by rw [hw2];exact (cell_other (by omega)).trans (HY1.out 0 (by simp))
  have y1:w2.cell? ⟨w.heap.size+1,1,none⟩=some (.slice none 0 0):=by rw [hw2];exact (cell_other (by omega)).trans (HY1.out 1 (by simp))
  have t0:w2.cell? ⟨w.heap.size+2,0,none⟩=some (.slice (some ⟨gv,0,none⟩) vec.length vec.length):=by rw [hw2];exact World.cell?_setCell_same _ _ _ z0
  have t1:w2.cell? ⟨w.heap.size+2,1,none⟩=some (.slice none 0 0):=by rw [hw2];exact (World.cell?_setCell_other _ _ _ _ (by simp)).trans z1
  have HFy2:=hd' (show ∀o,w2.frozen? ⟨w.heap.size+1,o,none⟩=false∧w2.frozen? ⟨w.heap.size+2,o,none⟩=false from fun o=>by rw [hw2,World.frozen?_setCell,World.frozen?_setCell];exact HFy1.out o)
  have HX2:=hd' (show w2.cell? ⟨w.heap.size,1,none⟩=some (.slice A es.length c) by rw [hw2];exact (cell_other (by omega)).trans x1)
  rw [←hw2]
  clear hw2 hs2 x1 z0 z1 f0 HX1 HY1 HZ1 HFy1 HF1
  have x1:=HX2.out
  have f1:=(HFy2.out 1).2
  go_wp2_with fail
  refine (toEntryS_own A es c w2 ((HA.out.keep fun p _ hp=>HB2.out.cell hp).mono (by omega)) hn hbk).mono ?_
  rintro e w3 ⟨ge,rfl,_,hens,hb3⟩
  have hz3:=hb3.size
  have HE3:=hd' hens
  have HF3:=hd' (HF2.out.keep fun p _ hp=>⟨hb3.cell (by omega),hb3.frozen (by omega)⟩)
  have HB3:=hd' (HB2.out.trans (hb3.mono (by omega)))
  have u0:=(hb3.cell (p:=⟨w.heap.size+1,0,none⟩) (by show w.heap.size+1 < _;omega)).trans y0
  have u1:=(hb3.cell (p:=⟨w.heap.size+1,1,none⟩) (by show w.heap.size+1 < _;omega)).trans y1
  have v0:=(hb3.cell (p:=⟨w.heap.size+2,0,none⟩) (by show w.heap.size+2 < _;omega)).trans t0
  have v1:=(hb3.cell (p:=⟨w.heap.size+2,1,none⟩) (by show w.heap.size+2 < _;omega)).trans t1
  have g0:=(hb3.frozen (p:=⟨w.heap.size+1,0,none⟩) (by show w.heap.size+1 < _;omega)).trans (HFy2.out 0).1
  have g1:=(hb3.frozen (p:=⟨w.heap.size+1,1,none⟩) (by show w.heap.size+1 < _;omega)).trans (HFy2.out 1).1
  have f1:=(hb3.frozen (p:=⟨w.heap.size+2,1,none⟩) (by show w.heap.size+2 < _;omega)).trans (HFy2.out 1).2
  clear hens hb3 y0 y1 t0 t1 x1 HFy2 HX2
  go_wp2_with fail
  have hkeep:∀p:Addr,w.heap.size+2 < p.block→∀v1 v2 v3:Value,(((w3.setCell ⟨w.heap.size+1+1,1,none⟩ v1).setCell ⟨w.heap.size+1,0,none⟩ v2).setCell ⟨w.heap.size+1,1,none⟩ v3).cell? p=w3.cell? p∧(((w3.setCell ⟨w.heap.size+1+1,1,none⟩ v1).setCell ⟨w.heap.size+1,0,none⟩ v2).setCell ⟨w.heap.size+1,1,none⟩ v3).frozen? p=w3.frozen? p:=fun p hp v1 v2 v3=>by
    refine ⟨?_,by rw [World.frozen?_setCell,World.frozen?_setCell,World.frozen?_setCell]⟩
    rw [World.cell?_setCell_other _ _ _ _ (by rintro rfl;have hp':w.heap.size+2 < w.heap.size+1:=hp;omega),World.cell?_setCell_other _ _ _ _ (by rintro rfl;have hp':w.heap.size+2 < w.heap.size+1:=hp;omega),World.cell?_setCell_other _ _ _ _ (by rintro rfl;have hp':w.heap.size+2 < w.heap.size+1+1:=hp;omega)]
  refine bodyPost_ret (v:=.agg #[.slice (some ⟨gv,0,none⟩) vec.length vec.length,.slice (some ⟨ge,0,none⟩) es.length es.length]) (by simp [results,Tryz.results61,u0,u1,go_sem]) rfl ⟨gv,ge,rfl,by simp;omega,⟨W.heap.size,w1.heap.size,w2.heap.size,w3.heap.size,by omega,by simp;omega,by omega,by simp,.inl (by omega),?_,?_⟩,?_⟩
  · exact HF3.out.keep fun p hp _=>hkeep p (by omega) _ _ _
  · exact HE3.out.keep fun p hp _=>hkeep p (by omega) _ _ _
  · refine ((HB3.out.setCell ?_ _).setCell ?_ _).setCell ?_ _
    all_goals first|omega|(simp;done)|(simp;omega)
set_option maxHeartbeats 1000000 in
theorem eqTree_same (AV AV' A A':Option Addr) (vec:List Int) (es:List En) (cv cv' c c' L L' B B':Nat) (w:World) (h:TrOwn w L B AV vec A es) (h':TrOwn w L' B' AV' vec A' es) (hB:B≤w.heap.size) (hB':B'≤w.heap.size) (hv:vec.length≤1048576) (hn:es.length≤1048576) (hbk:ebulk es≤1048576) :
    Calls Tryz.prog 70 #[.agg #[.slice AV vec.length cv,.slice A es.length c],.agg #[.slice AV' vec.length cv',.slice A' es.length c']] w fun e w'=>e=.returned (.bool true)∧Below w.heap.size w w':=by
  have HT:=hd' h
  have HT':=hd' h'
  clear h h'
  go_enter Tryz.func70,Tryz.ntmps70
  go_wp2_with fail
  obtain ⟨W0,hW0⟩:∃W0,W0=w.alloc (.cells #[.slice AV vec.length cv,.slice A es.length c] 38):=⟨_,rfl⟩
  obtain ⟨W,hW⟩:∃W,W=W0.alloc (.cells #[.slice AV' vec.length cv',.slice A' es.length c'] 38):=⟨_,rfl⟩
  have hz0:W0.heap.size=w.heap.size+1:=by rw [hW0];simp
  have hz:W.heap.size=w.heap.size+2:=by rw [hW];simp [hz0]
  have HX:=hd' (show Bx W w.heap.size [.slice AV vec.length cv,.slice A es.length c] by rw [hW,hW0];exact Bx.alloc (Bx.new' _ _ _ _ rfl) (by simp) _)
  have HY:=hd' (show Bx W (w.heap.size+1) [.slice AV' vec.length cv',.slice A' es.length c'] by rw [hW,←hz0];exact Bx.new' _ _ _ _ rfl)
  have HBel:=hd' (show Below w.heap.size w W by rw [hW,hW0];exact ((Below.refl _ _).alloc (Nat.le_refl _) _).alloc (by simp) _)
  rw [←hW0,←hW]
  have hzW:w.heap.size+1 < W.heap.size:=by omega
  clear hW hW0 hz0 hz
  have HT1:=hd' (HT.out.keep fun p _ hp=>⟨HBel.out.cell (by omega),HBel.out.frozen (by omega)⟩)
  have HT1':=hd' (HT'.out.keep fun p _ hp=>⟨HBel.out.cell (by omega),HBel.out.frozen (by omega)⟩)
  refine (eqIntS_same AV AV' vec cv cv' L L' B B' W HT1.out.vecIn HT1'.out.vecIn hv).mono ?_
  rintro e w1 ⟨rfl,hb⟩
  have x1:=(HX.out.below hb (by omega)) 1 (by simp)
  have y1:=(HY.out.below hb (by omega)) 1 (by simp)
  simp only [List.getElem_cons_succ,List.getElem_cons_zero] at x1 y1
  have hz1:=hb.size
  have HB1:=hd' (HBel.out.trans (hb.mono (by omega)))
  have HT2:=hd' (HT1.out.keep fun p _ hp=>⟨hb.cell (by omega),hb.frozen (by omega)⟩)
  have HT2':=hd' (HT1'.out.keep fun p _ hp=>⟨hb.cell (by omega),hb.frozen (by omega)⟩)
  clear hb HX HY
  go_wp2_with fail
  refine (eqEntryS_same A A' es c c' L L' B B' w1 HT2.out.ensIn.ens HT2'.out.ensIn.ens (by omega) (by omega) hn hbk).mono ?_
  rintro e w2 ⟨rfl,hb⟩
  have HB2:=hd' (HB1.out.trans (hb.mono (by omega)))
  clear hb x1 y1
  go_wp2_with fail
  go_ret
  exact ⟨rfl,HB2.out⟩
end Go.Proofs.YtckajeippfpojaaGreat
namespace Go.Proofs.YtckajeippfpojaaGreat
open Go.RowKit Go.Maps
set_option maxRecDepth 100000
def mo (es:List En):Nat:=ebulk es+3*es.length
theorem mo_succ (es:List En) (k:Nat) (h:k < es.length):mo (es.take (k+1))=mo (es.take k)+es[k].name.length+3:=by
  unfold mo
  rw [ebulk_take_succ es k h,List.length_take,List.length_take]
  omega
theorem mo_le (es:List En) (k:Nat):mo (es.take k)≤mo es:=by
  unfold mo
  have:=ebulk_take_le es k
  rw [List.length_take]
  omega
structure MkCell (w:World) (R i:Nat) (N:Option Addr) (lo up c n:Nat) (k:Int):Prop where
  c0:w.cell? ⟨R,i*4,none⟩=some (.slice N n c)
  c1:w.cell? ⟨R,i*4+1,none⟩=some (.int .i64 (k+n))
  c2:w.cell? ⟨R,i*4+2,none⟩=some (.int .i64 (k+n+1))
  c3:w.cell? ⟨R,i*4+3,none⟩=some (.int .i64 (k+n+1+1))
  nm:MkFr w lo up N k n
def EnsMk (w:World) (L B:Nat) (A:Option Addr) (es:List En) (k:Int):Prop :=
  0 < es.length→∃(R:Nat) (N:Nat→Option Addr) (lo up c:Nat→Nat),A=some ⟨R,0,none⟩∧ELay L B R es.length lo up∧∀i (hi:i < es.length),MkCell w R i (N i) (lo i) (up i) (c i) es[i].name.length (k+(mo (es.take i):Nat))
theorem EnsMk.keep {w w':World} {L B:Nat} {A:Option Addr} {es:List En} {k:Int} (h:EnsMk w L B A es k) (hk:∀p:Addr,L≤p.block→p.block < B→w'.cell? p=w.cell? p∧w'.frozen? p=w.frozen? p):EnsMk w' L B A es k:=fun hl=>by
  obtain ⟨R,N,lo,up,c,e,hlay,hc⟩:=h hl
  refine ⟨R,N,lo,up,c,e,hlay,fun i hi=>?_⟩
  have hx:=hc i hi
  have hg:=hlay.at_ i hi
  exact ⟨(hk _ hlay.low hlay.up).1.trans hx.c0,(hk _ hlay.low hlay.up).1.trans hx.c1,(hk _ hlay.low hlay.up).1.trans hx.c2,(hk _ hlay.low hlay.up).1.trans hx.c3,hx.nm.keep fun p hp hq=>hk p (by omega) (by omega)⟩
theorem three_other {w:World} {R j:Nat} {v1 v2 v3:Value} {b o:Nat} (hp:b≠R∨(o≠j*4+1∧o≠j*4+2∧o≠j*4+3)) :
    (((w.setCell ⟨R,j*4+1,none⟩ v1).setCell ⟨R,j*4+2,none⟩ v2).setCell ⟨R,j*4+3,none⟩ v3).cell? ⟨b,o,none⟩=w.cell? ⟨b,o,none⟩:=by
  rw [World.cell?_setCell_other _ _ _ _ (by intro h;injection h with h1 h2;omega),World.cell?_setCell_other _ _ _ _ (by intro h;injection h with h1 h2;omega),World.cell?_setCell_other _ _ _ _ (by intro h;injection h with h1 h2;omega)]
theorem three_frozen {w:World} {R j:Nat} {v1 v2 v3:Value} {p:Addr} :
    (((w.setCell ⟨R,j*4+1,none⟩ v1).setCell ⟨R,j*4+2,none⟩ v2).setCell ⟨R,j*4+3,none⟩ v3).frozen? p=w.frozen? p:=by
  rw [World.frozen?_setCell,World.frozen?_setCell,World.frozen?_setCell]
theorem Inside.offR {w w':World} {lo up:Nat} (h:Inside lo up w w') {b o:Nat} (hb:b < lo∨up≤b) (hlt:b < w.heap.size):w'.cell? ⟨b,o,none⟩=w.cell? ⟨b,o,none⟩∧w'.frozen? ⟨b,o,none⟩=w.frozen? ⟨b,o,none⟩:=by
  refine ⟨h.cell (p:=⟨b,o,none⟩) ?_,h.frozen _ (by show b < _;omega)⟩
  rcases hb with h1|h1
  · exact .inl h1
  · exact .inr ⟨h1,hlt⟩
theorem Inside.off {w w':World} {g:Nat} (h:Inside g (g+1) w w') {b o:Nat} (hb:b≠g) (hlt:b < w.heap.size):w'.cell? ⟨b,o,none⟩=w.cell? ⟨b,o,none⟩∧w'.frozen? ⟨b,o,none⟩=w.frozen? ⟨b,o,none⟩:=by
  refine ⟨h.cell (p:=⟨b,o,none⟩) ?_,h.frozen _ (by show b < _;omega)⟩
  by_cases e:b < g
  · exact .inl e
  · exact .inr ⟨by show g+1≤b;omega,hlt⟩
set_option maxHeartbeats 2000000 in
theorem markEntryS_own (A:Option Addr) (es:List En) (c0 L B:Nat) (k:Int) (w:World) (h:EnsOwn w L B A es) (hB:B≤w.heap.size) (hn:es.length≤1048576) (hbk:ebulk es≤1048576) (hk:0≤k) (hk':k≤100000000) :
    Calls Tryz.prog 97 #[.slice A es.length c0,.int .i64 k] w fun e w'=>e=.returned (.int .i64 (k+(mo es:Nat)))∧EnsMk w' L B A es k∧Inside L B w w':=by
  by_cases hz:es.length=0
  · have he:es=[]:=by cases es with
      | nil=>rfl
      | cons x xs=>simp at hz
    subst he
    clear hz h
    go_enter Tryz.func97,Tryz.ntmps97
    go_wp2
    go_loopw [1,5] (fun x i wr=>i=.int .i64 0∧x=.int .i64 k∧wr=w) (fun _ _ _=>0)
    case atStart=>exact ⟨rfl,rfl,rfl⟩
    case round =>
      obtain ⟨rfl,rfl,rfl⟩:=hrel
      go_wp2
      go_ret
      exact ⟨ret_int (by simp [mo,ebulk]),fun h=>absurd h (by simp),Inside.refl _ _ _⟩
  obtain ⟨R,N,lo,up,c,rfl,hlay,hc⟩:=h (by omega)
  have HC:=hd' hc
  have HLay:=hd' hlay
  have hRB:=hlay.up
  have hmle:mo es≤5000000:=by unfold mo;omega
  clear hc hlay hz h
  go_enter Tryz.func97,Tryz.ntmps97
  go_wp2
  go_loopw [1,5] (fun x i wr=>∃j:Nat,j≤es.length∧i=.int .i64 j∧x=.int .i64 (k+(mo (es.take j):Nat))∧Inside L B w wr∧(∀i (hi:i < es.length),i < j→MkCell wr R i (N i) (lo i) (up i) (c i) es[i].name.length (k+(mo (es.take i):Nat)))∧(∀i (hi:i < es.length),j≤i→EnCell wr R i (N i) (lo i) (up i) (c i) es[i])) (fun _ i _=>es.length - (intOf i).toNat)
  case atStart=>exact ⟨0,Nat.zero_le _,rfl,by simp [mo,ebulk],Inside.refl _ _ _,fun i _ hi=>absurd hi (by omega),fun i hi _=>HC.out i hi⟩
  case round =>
    obtain ⟨j,hj,rfl,rfl,hin,hmk,hen⟩:=hrel
    have HI:=hd' hin
    have HMk:=hd' hmk
    have HEn:=hd' hen
    have hsz:=hin.below.size
    clear hin hmk hen
    by_cases hlt:j < es.length
    · have hx:=HEn.out j hlt (Nat.le_refl _)
      have HS:=hd' (mo_succ es j hlt)
      have hle2:=mo_le es (j+1)
      have hnl:=name_le_ebulk es j hlt
      rw [HS.out] at hle2
      have q0:=hx.c0
      have q1:=hx.c1
      have q2:=hx.c2
      have q3:=hx.c3
      have HNm:=hd' hx.nm
      have HFr:=hd' hx.fr
      obtain ⟨hg1,hg2,hg3⟩:=HLay.out.at_ j hlt
      obtain ⟨mj,hmj⟩:∃mj,mj=mo (es.take j):=⟨_,rfl⟩
      rw [←hmj] at hle2 HS ⊢
      have HMj:=hd' hmj
      clear hx hmj
      go_wp2_with fail
      refine (markByteS_fr (N j) es[j].name (c j) (lo j) (up j) _ wr HNm.out (by omega) (by omega) (by omega)).mono ?_
      rintro e w1 ⟨rfl,hmk1,hin1⟩
      have HM1:=hd' hmk1
      have hRlt:R < wr.heap.size:=by omega
      have hoff:=fun o=>hin1.offR (b:=R) (o:=o) hg3 hRlt
      have p1:=(hoff (j*4+1)).1.trans q1
      have p2:=(hoff (j*4+2)).1.trans q2
      have p3:=(hoff (j*4+3)).1.trans q3
      have p0:=(hoff (j*4)).1.trans q0
      have r1:=(hoff (j*4+1)).2.trans (HFr.out 1 (by omega))
      have r2:=(hoff (j*4+2)).2.trans (HFr.out 2 (by omega))
      have r3:=(hoff (j*4+3)).2.trans (HFr.out 3 (by omega))
      have HOff:=hd' hoff
      have HIn1:=hd' hin1
      have HI1:=hd' (HI.out.trans (hin1.wider hg1 (by omega)))
      have hz1:=hin1.below.size
      clear hmk1 hin1 hoff q0 q1 q2 q3
      have P0:=hd' p0
      clear p0
      go_wp2_with fail
      go_roundw
      case rel =>
        refine ⟨j+1,by omega,by go_num,by rw [HS.out];go_num,?_,fun i hi hij=>?_,fun i hi hij=>?_⟩
        · exact ((HI1.out.setCell (p:=⟨R,j*4+1,none⟩) HLay.out.low hRB _).setCell (p:=⟨R,j*4+2,none⟩) HLay.out.low hRB _).setCell (p:=⟨R,j*4+3,none⟩) HLay.out.low hRB _
        · by_cases e:i=j
          · subst e
            rw [←HMj.out]
            refine ⟨(three_other (.inr ⟨by omega,by omega,by omega⟩)).trans P0.out,?_,?_,?_,HM1.out.keep fun p hp hq=>⟨?_,three_frozen⟩⟩
            · rw [World.cell?_setCell_other _ _ _ _ (by simp),World.cell?_setCell_other _ _ _ _ (by simp),World.cell?_setCell_same _ _ _ p1]
            · rw [World.cell?_setCell_other _ _ _ _ (by simp),World.cell?_setCell_same _ _ _ ((World.cell?_setCell_other _ _ _ _ (by simp)).trans p2)]
            · rw [World.cell?_setCell_same _ _ _ ((World.cell?_setCell_other _ _ _ _ (by simp)).trans ((World.cell?_setCell_other _ _ _ _ (by simp)).trans p3))]
            · obtain ⟨pb,po,ps⟩:=p
              simp at hp hq
              rw [World.cell?_setCell_other _ _ _ _ (by intro h;injection h with h1;omega),World.cell?_setCell_other _ _ _ _ (by intro h;injection h with h1;omega),World.cell?_setCell_other _ _ _ _ (by intro h;injection h with h1;omega)]
          · have hx:=HMk.out i hi (by omega)
            have hgi:=HLay.out.at_ i hi
            have hne:=HLay.out.ap hi hlt e
            refine ⟨(three_other (.inr ⟨by omega,by omega,by omega⟩)).trans ((HOff.out _).1.trans hx.c0),(three_other (.inr ⟨by omega,by omega,by omega⟩)).trans ((HOff.out _).1.trans hx.c1),(three_other (.inr ⟨by omega,by omega,by omega⟩)).trans ((HOff.out _).1.trans hx.c2),(three_other (.inr ⟨by omega,by omega,by omega⟩)).trans ((HOff.out _).1.trans hx.c3),fun hl=>?_⟩
            obtain ⟨b,o,ee,hb1,hb2,hcc⟩:=hx.nm hl
            have hgo:=fun o'=>HIn1.out.offR (b:=b) (o:=o') (by omega) (by omega)
            exact ⟨b,o,ee,hb1,hb2,fun m hm=>⟨(three_other (.inl (by omega))).trans ((hgo _).1.trans (hcc m hm).1),three_frozen.trans ((hgo _).2.trans (hcc m hm).2)⟩⟩
        · have hx:=HEn.out i hi (by omega)
          have hgi:=HLay.out.at_ i hi
          have hne:=HLay.out.ap hi hlt (by omega)
          refine ⟨(three_other (.inr ⟨by omega,by omega,by omega⟩)).trans ((HOff.out _).1.trans hx.c0),(three_other (.inr ⟨by omega,by omega,by omega⟩)).trans ((HOff.out _).1.trans hx.c1),(three_other (.inr ⟨by omega,by omega,by omega⟩)).trans ((HOff.out _).1.trans hx.c2),(three_other (.inr ⟨by omega,by omega,by omega⟩)).trans ((HOff.out _).1.trans hx.c3),fun o ho=>three_frozen.trans ((HOff.out _).2.trans (hx.fr o ho)),fun hl=>?_⟩
          obtain ⟨b,o,ee,hb1,hb2,hcc⟩:=hx.nm hl
          have hgo:=fun o'=>HIn1.out.offR (b:=b) (o:=o') (by omega) (by omega)
          exact ⟨b,o,ee,hb1,hb2,fun m hm=>⟨(three_other (.inl (by omega))).trans ((hgo _).1.trans (hcc m hm).1),three_frozen.trans ((hgo _).2.trans (hcc m hm).2)⟩⟩
      case measure=>simp [intOf];omega
    · have hje:j=es.length:=by omega
      have HK:=hd' (show k+(mo (es.take j):Nat)=k+(mo es:Nat) by rw [hje,List.take_length])
      have HR:=hd' (show EnsMk wr L B (some ⟨R,0,none⟩) es k from fun _=>⟨R,N,lo,up,c,rfl,HLay.out,fun i hi=>HMk.out i hi (by omega)⟩)
      generalize mo (es.take j)=mj at *
      go_wp2
      go_ret
      exact ⟨ret_int HK.out,HR.out,HI.out⟩
set_option maxHeartbeats 2000000 in
theorem heldEntryS_own (A:Option Addr) (es:List En) (c0 L B:Nat) (k:Int) (w:World) (h:EnsMk w L B A es k) (hn:es.length≤1048576) (hbk:ebulk es≤1048576) (hk:0≤k) (hk':k≤100000000) :
    Calls Tryz.prog 131 #[.slice A es.length c0,.int .i64 k] w fun e w'=>e=.returned (.int .i64 (k+(mo es:Nat)))∧w=w':=by
  have hmle:mo es≤5000000:=by unfold mo;omega
  have HH:=hd' h
  clear h
  go_enter Tryz.func131,Tryz.ntmps131
  go_wp2
  go_loop [1,5] (fun x i=>∃j:Nat,j≤es.length∧i=.int .i64 j∧x=.int .i64 (k+(mo (es.take j):Nat))) (fun _ i=>es.length - (intOf i).toNat)
  case atStart=>exact ⟨0,Nat.zero_le _,rfl,by simp [mo,ebulk]⟩
  case round =>
    obtain ⟨j,hj,rfl,rfl⟩:=hrel
    by_cases hlt:j < es.length
    · obtain ⟨R,N,lo,up,c,rfl,hlay,hc⟩:=HH.out (by omega)
      have hx:=hc j hlt
      have HS:=hd' (mo_succ es j hlt)
      have hle2:=mo_le es (j+1)
      have hnl:=name_le_ebulk es j hlt
      rw [HS.out] at hle2
      obtain ⟨mj,hmj⟩:∃mj,mj=mo (es.take j):=⟨_,rfl⟩
      rw [←hmj] at hle2 HS hx ⊢
      have q0:=hx.c0
      have q1:=hx.c1
      have q2:=hx.c2
      have q3:=hx.c3
      have HNm:=hd' hx.nm
      obtain ⟨n,hnn⟩:∃n,n=es[j].name.length:=⟨_,rfl⟩
      rw [←hnn] at q0 q1 q2 q3 HNm hle2 HS hnl
      have e1:((k+(mj:Int)+(n:Int)) != (k+(mj:Int)+(n:Int)))=false:=by simp
      have e2:((k+(mj:Int)+(n:Int)+1) != (k+(mj:Int)+(n:Int)+1))=false:=by simp
      have e3:((k+(mj:Int)+(n:Int)+1+1) != (k+(mj:Int)+(n:Int)+1+1))=false:=by simp
      have h0:¬ (k+(mj:Int)+(n:Int)) < 0:=by omega
      clear hx hmj hlay hc hnn
      go_wp2_with fail
      refine (heldByteS_any (N j) n (c j) (lo j) (up j) _ w HNm.out (by omega) (by omega) (by omega)).mono ?_
      rintro e w1 ⟨rfl,rfl⟩
      go_wp2_with fail
      go_round
      case rel=>exact ⟨j+1,by omega,by go_num,by rw [HS.out];go_num⟩
      case measure=>simp [intOf];omega
    · have hje:j=es.length:=by omega
      have HK:=hd' (show k+(mo (es.take j):Nat)=k+(mo es:Nat) by rw [hje,List.take_length])
      generalize mo (es.take j)=mj at *
      go_wp2
      go_ret
      exact ⟨ret_int HK.out,rfl⟩
def TrMk (w:World) (L B:Nat) (AV:Option Addr) (n:Nat) (A:Option Addr) (es:List En) (k:Int):Prop :=
  IntsFr w L B AV (marks k n)∧EnsMk w L B A es (k+n)
theorem TrMk.keep {w w':World} {L B n:Nat} {AV A:Option Addr} {es:List En} {k:Int} (h:TrMk w L B AV n A es k) (hk:∀p:Addr,L≤p.block→p.block < B→w'.cell? p=w.cell? p∧w'.frozen? p=w.frozen? p):TrMk w' L B AV n A es k :=
  ⟨h.1.keep hk,h.2.keep hk⟩
theorem EnsMk.mono {w:World} {L L' B B':Nat} {A:Option Addr} {es:List En} {k:Int} (h:EnsMk w L B A es k) (hL:L'≤L) (hB:B≤B'):EnsMk w L' B' A es k:=fun hl=>by
  obtain ⟨R,N,lo,up,c,e,hlay,hc⟩:=h hl
  exact ⟨R,N,lo,up,c,e,hlay.mono hL hB,hc⟩
set_option maxHeartbeats 2000000 in
theorem markTree_own (AV A:Option Addr) (vec:List Int) (es:List En) (cv c L B:Nat) (k:Int) (w:World) (h:TrOwn w L B AV vec A es) (hB:B≤w.heap.size) (hv:vec.length≤1048576) (hn:es.length≤1048576) (hbk:ebulk es≤1048576) (hk:0≤k) (hk':k≤50000000) (hLw:L≤w.heap.size) :
    Calls Tryz.prog 72 #[.agg #[.slice AV vec.length cv,.slice A es.length c],.int .i64 k] w fun e w'=>e=.returned (.int .i64 (k+vec.length+(mo es:Nat)))∧TrMk w' L B AV vec.length A es k∧Inside L B w w':=by
  have HT:=hd' h
  clear h
  go_enter Tryz.func72,Tryz.ntmps72
  go_wp2_with fail
  obtain ⟨W,hW⟩:∃W,W=w.alloc (.cells #[.slice AV vec.length cv,.slice A es.length c] 38):=⟨_,rfl⟩
  have hX:Bx W w.heap.size [.slice AV vec.length cv,.slice A es.length c]:=by rw [hW];exact Bx.new' _ _ _ _ rfl
  have HBel:=hd' (show Below w.heap.size w W by rw [hW];exact (Below.refl _ _).alloc (Nat.le_refl _) _)
  have hz:w.heap.size < W.heap.size:=by rw [hW];simp
  rw [←hW]
  clear hW
  have HX:=hd' hX
  clear hX
  obtain ⟨L1,B1,L2,B2,h1,h2,h3,h4,h5,hvi,hes⟩:=HT.out.keep fun p _ hp=>⟨HBel.out.cell (by omega),HBel.out.frozen (by omega)⟩
  have HV:=hd' hvi
  have HE:=hd' hes
  clear hvi hes HT
  refine (markIntS_any AV vec cv L1 B1 k W HV.out hv hk (by omega)).mono ?_
  rintro e w1 ⟨rfl,hmk,hin⟩
  have HM1:=hd' hmk
  have x1:=HX.out.inside hin (.inr ⟨by omega,hz⟩) 1 (by simp)
  simp only [List.getElem_cons_succ,List.getElem_cons_zero] at x1
  have hz1:=hin.below.size
  have HI1:=hd' (((Inside.refl L B w).grown HBel.out hLw).trans (hin.wider h1 h2))
  have HE1:=hd' (HE.out.keep fun p hp hq=>⟨hin.cell (by omega),hin.frozen p (by omega)⟩)
  clear hmk hin HX
  go_wp2_with fail
  refine (markEntryS_own A es c L2 B2 _ w1 HE1.out (by omega) hn hbk (by omega) (by omega)).mono ?_
  rintro e w2 ⟨rfl,hmk,hin⟩
  have HM2:=hd' (HM1.out.keep fun p hp hq=>⟨hin.cell (by omega),hin.frozen p (by omega)⟩)
  have HR:=hd' (show TrMk w2 L B AV vec.length A es k from ⟨(HM2.out.low h1).mono h2,hmk.mono h3 h4⟩)
  have HI2:=hd' (HI1.out.trans (hin.wider h3 h4))
  clear hmk hin x1
  go_wp2_with fail
  go_ret
  exact ⟨rfl,HR.out,HI2.out⟩
set_option maxHeartbeats 2000000 in
theorem heldTree_own (AV A:Option Addr) (n:Nat) (es:List En) (cv c L B:Nat) (k:Int) (w:World) (h:TrMk w L B AV n A es k) (hB:B≤w.heap.size) (hv:n≤1048576) (hn:es.length≤1048576) (hbk:ebulk es≤1048576) (hk:0≤k) (hk':k≤50000000) :
    Calls Tryz.prog 74 #[.agg #[.slice AV n cv,.slice A es.length c],.int .i64 k] w fun e w'=>e=.returned (.int .i64 (k+n+(mo es:Nat)))∧Below w.heap.size w w':=by
  have HT:=hd' h
  clear h
  go_enter Tryz.func74,Tryz.ntmps74
  go_wp2_with fail
  obtain ⟨W,hW⟩:∃W,W=w.alloc (.cells #[.slice AV n cv,.slice A es.length c] 38):=⟨_,rfl⟩
  have x1:W.cell? ⟨w.heap.size,1,none⟩=some (.slice A es.length c):=by rw [hW];simp
  have HBel:=hd' (show Below w.heap.size w W by rw [hW];exact (Below.refl _ _).alloc (Nat.le_refl _) _)
  rw [←hW]
  clear hW
  have HT1:=hd' (HT.out.keep fun p _ hp=>⟨HBel.out.cell (by omega),HBel.out.frozen (by omega)⟩)
  clear HT
  have h0:¬ (k+(n:Int)) < 0:=by omega
  have h1:¬ (k+(n:Int)+((mo es:Nat):Int)) < 0:=by omega
  refine (heldIntS_any AV n cv L B k W HT1.out.1 hv hk (by omega)).mono ?_
  rintro e w1 ⟨rfl,rfl⟩
  go_wp2_with fail
  refine (heldEntryS_own A es c L B _ W HT1.out.2 hn hbk (by omega) (by omega)).mono ?_
  rintro e w1 ⟨rfl,rfl⟩
  go_wp2_with fail
  go_ret
  exact ⟨rfl,HBel.out⟩
end Go.Proofs.YtckajeippfpojaaGreat
namespace Go.Proofs.YtckajeippfpojaaGreat
open Go.RowKit Go.Maps
set_option maxRecDepth 100000
def putAll (b:Nat):Nat→List Value→World→World
  | _,[],w=>w
  | o,v :: vs,w=>putAll b (o+1) vs (w.setCell ⟨b,o,none⟩ v)
section
variable {b o:Nat} {vs us:List Value} {w:World}
theorem putAll_other {p:Addr} (hp:p.block≠b):(putAll b o vs w).cell? p=w.cell? p:=by
  induction vs generalizing o w with
  | nil=>rfl
  | cons v vs ih =>
    show (putAll b (o+1) vs (w.setCell ⟨b,o,none⟩ v)).cell? p=_
    rw [ih]
    exact World.cell?_setCell_other _ _ _ _ (fun e=>hp (by rw [←e]))
theorem putAll_frozen (p:Addr):(putAll b o vs w).frozen? p=w.frozen? p:=by
  induction vs generalizing o w with
  | nil=>rfl
  | cons v vs ih =>
    show (putAll b (o+1) vs (w.setCell ⟨b,o,none⟩ v)).frozen? p=_
    rw [ih,World.frozen?_setCell]
theorem putAll_size:(putAll b o vs w).heap.size=w.heap.size:=by
  induction vs generalizing o w with
  | nil=>rfl
  | cons v vs ih =>
    show (putAll b (o+1) vs (w.setCell ⟨b,o,none⟩ v)).heap.size=_
    rw [ih]
    simp
theorem putAll_lo {j:Nat} (hj:j < o):(putAll b o vs w).cell? ⟨b,j,none⟩=w.cell? ⟨b,j,none⟩:=by
  induction vs generalizing o w with
  | nil=>rfl
  | cons v vs ih =>
    show (putAll b (o+1) vs (w.setCell ⟨b,o,none⟩ v)).cell? _=_
    rw [ih (by omega)]
    exact World.cell?_setCell_other _ _ _ _ (fun e=>by injection e with _ e2 _;omega)
theorem putAll_at (h:∀j,j < vs.length→∃u,w.cell? ⟨b,o+j,none⟩=some u):∀j (hj:j < vs.length),(putAll b o vs w).cell? ⟨b,o+j,none⟩=some vs[j]:=by
  induction vs generalizing o w with
  | nil=>intro j hj;simp at hj
  | cons v vs ih =>
    intro j hj
    show (putAll b (o+1) vs (w.setCell ⟨b,o,none⟩ v)).cell? _=_
    obtain ⟨u,hu⟩:=h 0 (by simp)
    cases j with
    | zero =>
      rw [putAll_lo (by omega)]
      exact World.cell?_setCell_same _ _ _ hu
    | succ j =>
      have h2:=ih (o:=o+1) (w:=w.setCell ⟨b,o,none⟩ v) (fun i hi=>by
        obtain ⟨u',hu'⟩:=h (i+1) (by simp;omega)
        refine ⟨u',?_⟩
        rw [World.cell?_setCell_other _ _ _ _ (fun e=>by injection e with _ e2 _;omega),show o+1+i=o+(i+1) by omega]
        exact hu') j (by simpa using hj)
      rw [show o+1+j=o+(j+1) by omega] at h2
      rw [h2]
      simp
theorem putAll_bx (h:Bx w b us) (hl:vs.length=us.length):Bx (putAll b 0 vs w) b vs:=by
  intro j hj
  have h2:=putAll_at (b:=b) (o:=0) (vs:=vs) (w:=w) (fun i hi=>⟨_,by rw [Nat.zero_add];exact h i (by omega)⟩) j hj
  rw [Nat.zero_add] at h2
  exact h2
theorem putAll_hi {j:Nat} (hj:o+vs.length≤j):(putAll b o vs w).cell? ⟨b,j,none⟩=w.cell? ⟨b,j,none⟩:=by
  induction vs generalizing o w with
  | nil=>rfl
  | cons v vs ih =>
    show (putAll b (o+1) vs (w.setCell ⟨b,o,none⟩ v)).cell? _=_
    simp at hj
    rw [ih (by omega)]
    exact World.cell?_setCell_other _ _ _ _ (fun e=>by injection e with _ e2 _;omega)
theorem Bx.put (h:Bx w b us) (o:Nat) (vs:List Value) (hl:o+vs.length≤us.length):Bx (putAll b o vs w) b (us.take o++(vs++us.drop (o+vs.length))):=by
  intro j hj
  rw [←List.getElem?_eq_getElem hj]
  have hlt:(us.take o).length=o:=by simp;omega
  have hj':j < us.length:=by simp at hj;omega
  by_cases h1:j < o
  · rw [putAll_lo h1,h j hj',List.getElem?_append_left (by omega),List.getElem?_take,if_pos h1,List.getElem?_eq_getElem hj']
  · rw [List.getElem?_append_right (by omega),hlt]
    by_cases h2:j < o+vs.length
    · have h3:=putAll_at (b:=b) (o:=o) (vs:=vs) (w:=w) (fun i hi=>⟨_,h (o+i) (by omega)⟩) (j - o) (by omega)
      rw [show o+(j - o)=j by omega] at h3
      rw [h3,List.getElem?_append_left (by omega),List.getElem?_eq_getElem (by omega)]
    · rw [putAll_hi (by omega),h j hj',List.getElem?_append_right (by omega),List.getElem?_drop,show o+vs.length+(j - o - vs.length)=j by omega,List.getElem?_eq_getElem hj']
theorem putAll_below {B:Nat} {a:World} (h:Below B a w) (hB:B≤b):Below B a (putAll b o vs w):=by
  induction vs generalizing o w with
  | nil=>exact h
  | cons v vs ih=>exact ih (h.setCell hB _)
end
end Go.Proofs.YtckajeippfpojaaGreat
namespace Go.Proofs.YtckajeippfpojaaGreat
open Go.RowKit Go.Maps
set_option maxRecDepth 100000
set_option maxHeartbeats 1000000 in
theorem szManifest_any (au sq pv sg:Int) (AV:Option Addr) (vec:List Int) (cv:Nat) (A:Option Addr) (es:List En) (c:Nat) (left:Int) (w:World) (hA:EnsIn w 0 w.heap.size A es) (hv:vec.length≤9223372036854775807) (hn:es.length≤9223372036854775807) (hbn:∀i (hi:i < es.length),es[i].name.length≤9223372036854775807) (h0:0≤left) (h1:left≤1048576) :
    Calls Tryz.prog 13 #[.agg #[.int .i64 au,.int .i64 sq,.int .i64 pv,.slice AV vec.length cv,.slice A es.length c,.int .i64 sg],.int .i64 left] w fun e w'=>∃r:Int,e=.returned (.int .i64 r)∧SzOk left (vec.length+(es.length+ebulk es)) r∧Below w.heap.size w w':=by
  have HA:=hd' hA
  have HBn:=hd' hbn
  clear hA hbn
  go_enter Tryz.func13,Tryz.ntmps13
  go_wp2_with fail
  obtain ⟨W,hW⟩:∃W,W=w.alloc (.cells #[.int .i64 au,.int .i64 sq,.int .i64 pv,.slice AV vec.length cv,.slice A es.length c,.int .i64 sg] 30):=⟨_,rfl⟩
  have HBel:=hd' (show Below w.heap.size w W by rw [hW];exact (Below.refl _ _).alloc (Nat.le_refl _) _)
  have hz:w.heap.size < W.heap.size:=by rw [hW];simp
  rw [←hW]
  clear hW
  refine (szTree_any AV vec cv A es c left W (HA.out.up HBel.out) hv hn HBn.out h0 h1).mono ?_
  rintro e w1 ⟨r,rfl,hsz,hb⟩
  have HSz:=hd' hsz
  have HB1:=hd' (HBel.out.trans (hb.mono (by omega)))
  clear hsz hb
  by_cases hr:r < 0
  · have HN:=hd' (show SzOk left (vec.length+(es.length+ebulk es)) (-1) from .inl rfl)
    go_wp2_with fail
    go_ret
    exact ⟨-1,rfl,HN.out,HB1.out⟩
  · go_wp2_with fail
    go_ret
    exact ⟨r,rfl,HSz.out,HB1.out⟩
set_option maxHeartbeats 1000000 in
theorem eqManifest_same (au sq pv sg:Int) (AV AV' A A':Option Addr) (vec:List Int) (es:List En) (cv cv' c c' L L' B B':Nat) (w:World) (h:TrOwn w L B AV vec A es) (h':TrOwn w L' B' AV' vec A' es) (hB:B≤w.heap.size) (hB':B'≤w.heap.size) (hv:vec.length≤1048576) (hn:es.length≤1048576) (hbk:ebulk es≤1048576) :
    Calls Tryz.prog 19 #[.agg #[.int .i64 au,.int .i64 sq,.int .i64 pv,.slice AV vec.length cv,.slice A es.length c,.int .i64 sg],.agg #[.int .i64 au,.int .i64 sq,.int .i64 pv,.slice AV' vec.length cv',.slice A' es.length c',.int .i64 sg]] w fun e w'=>e=.returned (.bool true)∧Below w.heap.size w w':=by
  have HT:=hd' h
  have HT':=hd' h'
  clear h h'
  have e1:(au != au)=false:=by simp
  have e2:(sq != sq)=false:=by simp
  have e3:(pv != pv)=false:=by simp
  have e4:(sg != sg)=false:=by simp
  go_enter Tryz.func19,Tryz.ntmps19
  go_wp2_with fail
  obtain ⟨W0,hW0⟩:∃W0,W0=w.alloc (.cells #[.int .i64 au,.int .i64 sq,.int .i64 pv,.slice AV vec.length cv,.slice A es.length c,.int .i64 sg] 40):=⟨_,rfl⟩
  obtain ⟨W,hW⟩:∃W,W=W0.alloc (.cells #[.int .i64 au,.int .i64 sq,.int .i64 pv,.slice AV' vec.length cv',.slice A' es.length c',.int .i64 sg] 40):=⟨_,rfl⟩
  have hz0:W0.heap.size=w.heap.size+1:=by rw [hW0];simp
  have hz:W.heap.size=w.heap.size+2:=by rw [hW];simp [hz0]
  have HX:=hd' (show Bx W w.heap.size [.int .i64 au,.int .i64 sq,.int .i64 pv,.slice AV vec.length cv,.slice A es.length c,.int .i64 sg] by rw [hW,hW0];exact Bx.alloc (Bx.new' _ _ _ _ rfl) (by simp) _)
  have HY:=hd' (show Bx W (w.heap.size+1) [.int .i64 au,.int .i64 sq,.int .i64 pv,.slice AV' vec.length cv',.slice A' es.length c',.int .i64 sg] by rw [hW,←hz0];exact Bx.new' _ _ _ _ rfl)
  have HBel:=hd' (show Below w.heap.size w W by rw [hW,hW0];exact ((Below.refl _ _).alloc (Nat.le_refl _) _).alloc (by simp) _)
  rw [←hW0,←hW]
  have hzW:w.heap.size+1 < W.heap.size:=by omega
  clear hW hW0 hz0 hz
  have HT1:=hd' (HT.out.keep fun p _ hp=>⟨HBel.out.cell (by omega),HBel.out.frozen (by omega)⟩)
  have HT1':=hd' (HT'.out.keep fun p _ hp=>⟨HBel.out.cell (by omega),HBel.out.frozen (by omega)⟩)
  refine (eqTree_same AV AV' A A' vec es cv cv' c c' L L' B B' W HT1.out HT1'.out (by omega) (by omega) hv hn hbk).mono ?_
  rintro e w1 ⟨rfl,hb⟩
  have x5:=(HX.out.below hb (by omega)) 5 (by simp)
  have y5:=(HY.out.below hb (by omega)) 5 (by simp)
  simp only [List.getElem_cons_succ,List.getElem_cons_zero] at x5 y5
  have HB1:=hd' (HBel.out.trans (hb.mono (by omega)))
  clear hb HX HY
  go_wp2_with fail
  go_ret
  exact ⟨rfl,HB1.out⟩
set_option maxHeartbeats 4000000 in
theorem toManifest_own (au sq pv sg:Int) (AV:Option Addr) (vec:List Int) (cv:Nat) (A:Option Addr) (es:List En) (c:Nat) (w:World) (hV:IntsIn w 0 w.heap.size AV vec) (hA:EnsIn w 0 w.heap.size A es) (hv:vec.length≤1048576) (hn:es.length≤1048576) (hbk:ebulk es≤1048576) :
    Calls Tryz.prog 16 #[.agg #[.int .i64 au,.int .i64 sq,.int .i64 pv,.slice AV vec.length cv,.slice A es.length c,.int .i64 sg]] w fun e w'=>∃gv ge,e=.returned (.agg #[.int .i64 au,.int .i64 sq,.int .i64 pv,.slice (some ⟨gv,0,none⟩) vec.length vec.length,.slice (some ⟨ge,0,none⟩) es.length es.length,.int .i64 sg])∧w.heap.size < w'.heap.size∧TrOwn w' w.heap.size w'.heap.size (some ⟨gv,0,none⟩) vec (some ⟨ge,0,none⟩) es∧Below w.heap.size w w':=by
  have HV:=hd' hV
  have HA:=hd' hA
  clear hV hA
  go_enter Tryz.func16,Tryz.ntmps16
  go_wp2_with fail
  obtain ⟨W0,hW0⟩:∃W0,W0=w.alloc (.cells #[.int .i64 au,.int .i64 sq,.int .i64 pv,.slice AV vec.length cv,.slice A es.length c,.int .i64 sg] 30):=⟨_,rfl⟩
  obtain ⟨W1,hW1⟩:∃W1,W1=W0.alloc (.cells #[.int .i64 0,.int .i64 0,.int .i64 0,.slice none 0 0,.slice none 0 0,.int .i64 0] 40):=⟨_,rfl⟩
  obtain ⟨W,hW⟩:∃W,W=W1.alloc (.cells #[.int .i64 au,.int .i64 sq,.int .i64 pv,.slice none 0 0,.slice none 0 0,.int .i64 0] 40):=⟨_,rfl⟩
  have hz0:W0.heap.size=w.heap.size+1:=by rw [hW0];simp
  have hz1:W1.heap.size=w.heap.size+2:=by rw [hW1];simp [hz0]
  have hz:W.heap.size=w.heap.size+3:=by rw [hW];simp [hz1]
  have HX:=hd' (show Bx W w.heap.size [.int .i64 au,.int .i64 sq,.int .i64 pv,.slice AV vec.length cv,.slice A es.length c,.int .i64 sg] by rw [hW,hW1,hW0];exact Bx.alloc (Bx.alloc (Bx.new' _ _ _ _ rfl) (by simp) _) (by simp;omega) _)
  have HY:=hd' (show Bx W (w.heap.size+1) [.int .i64 0,.int .i64 0,.int .i64 0,.slice none 0 0,.slice none 0 0,.int .i64 0] by rw [hW,←hz0,hW1];exact Bx.alloc (Bx.new' _ _ _ _ rfl) (by simp) _)
  have HZ:=hd' (show Bx W (w.heap.size+2) [.int .i64 au,.int .i64 sq,.int .i64 pv,.slice none 0 0,.slice none 0 0,.int .i64 0] by rw [hW,←hz1];exact Bx.new' _ _ _ _ rfl)
  have HFy:=hd' (show ∀o,W.frozen? ⟨w.heap.size+1,o,none⟩=false∧W.frozen? ⟨w.heap.size+2,o,none⟩=false from fun o=>by rw [hW,hW1,hW0];exact ⟨((((Fresh.refl w).alloc _ _).alloc _ _).alloc _ _) ⟨w.heap.size+1,o,none⟩ (by show w.heap.size≤w.heap.size+1;omega),((((Fresh.refl w).alloc _ _).alloc _ _).alloc _ _) ⟨w.heap.size+2,o,none⟩ (by show w.heap.size≤w.heap.size+2;omega)⟩)
  have HBel:=hd' (show Below w.heap.size w W by rw [hW,hW1,hW0];exact (((Below.refl _ _).alloc (Nat.le_refl _) _).alloc (by simp) _).alloc (by simp;omega) _)
  rw [←hW0,←hW1,←hW]
  have hzW:w.heap.size+2 < W.heap.size:=by omega
  clear hW hW1 hW0 hz0 hz1 hz
  obtain ⟨w2,hw2⟩:∃w2,w2=W:=⟨_,rfl⟩
  rw [←hw2] at HX HY HZ HFy HBel hzW ⊢
  have hzw2:=hzW
  have HX2:=HX
  have HY2:=HY
  have HZ2:=HZ
  have HF2:=HFy
  have HB2:=HBel
  clear hw2 HX HY HZ HFy HBel hzW
  refine (toTree_own AV vec cv A es c w2 ((HV.out.keep fun p _ hp=>HB2.out.cell hp).mono (by omega)) ((HA.out.keep fun p _ hp=>HB2.out.cell hp).mono (by omega)) hv hn hbk).mono ?_
  rintro e w3 ⟨gv,ge,rfl,hlt3,hown,hb3⟩
  have HT3:=hd' hown
  have HX3:=hd' (HX2.out.below hb3 (by omega))
  have HY3:=hd' (HY2.out.below hb3 (by omega))
  have HZ3:=hd' (HZ2.out.below hb3 (by omega))
  have HF3:=hd' (show ∀o,w3.frozen? ⟨w.heap.size+1,o,none⟩=false∧w3.frozen? ⟨w.heap.size+2,o,none⟩=false from fun o=>⟨(hb3.frozen (by show w.heap.size+1 < _;omega)).trans (HF2.out o).1,(hb3.frozen (by show w.heap.size+2 < _;omega)).trans (HF2.out o).2⟩)
  have HB3:=hd' (HB2.out.trans (hb3.mono (by omega)))
  clear hown hb3 HX2 HY2 HZ2 HF2 HB2
  have x5:=HX3.out 5 (by simp)
  have z0:=HZ3.out 0 (by simp)
  have z1:=HZ3.out 1 (by simp)
  have z2:=HZ3.out 2 (by simp)
  have z3:=HZ3.out 3 (by simp)
  have z4:=HZ3.out 4 (by simp)
  have z5:=HZ3.out 5 (by simp)
  have y0:=HY3.out 0 (by simp)
  have y1:=HY3.out 1 (by simp)
  have y2:=HY3.out 2 (by simp)
  have y3:=HY3.out 3 (by simp)
  have y4:=HY3.out 4 (by simp)
  have y5:=HY3.out 5 (by simp)
  simp only [List.getElem_cons_succ,List.getElem_cons_zero] at x5 z0 z1 z2 z3 z4 z5 y0 y1 y2 y3 y4 y5
  have f3:=(HF3.out 3).2
  have f4:=(HF3.out 4).2
  have f5:=(HF3.out 5).2
  have e0:=(HF3.out 0).1
  have e1:=(HF3.out 1).1
  have e2:=(HF3.out 2).1
  have e3:=(HF3.out 3).1
  have e4:=(HF3.out 4).1
  have e5:=(HF3.out 5).1
  go_wp2_with fail
  have hY:Bx (putAll (w.heap.size+2) 3 [.slice (some ⟨gv,0,none⟩) vec.length vec.length,.slice (some ⟨ge,0,none⟩) es.length es.length,.int .i64 sg] w3) (w.heap.size+1) [.int .i64 0,.int .i64 0,.int .i64 0,.slice none 0 0,.slice none 0 0,.int .i64 0]:=fun j hj=>(putAll_other (by show w.heap.size+1≠w.heap.size+2;omega)).trans (HY3.out j hj)
  have hq:=putAll_bx (vs:=[.int .i64 au,.int .i64 sq,.int .i64 pv,.slice (some ⟨gv,0,none⟩) vec.length vec.length,.slice (some ⟨ge,0,none⟩) es.length es.length,.int .i64 sg]) hY rfl
  have hqo:∀p:Addr,w.heap.size+2 < p.block→(putAll (w.heap.size+1) 0 [.int .i64 au,.int .i64 sq,.int .i64 pv,.slice (some ⟨gv,0,none⟩) vec.length vec.length,.slice (some ⟨ge,0,none⟩) es.length es.length,.int .i64 sg] (putAll (w.heap.size+2) 3 [.slice (some ⟨gv,0,none⟩) vec.length vec.length,.slice (some ⟨ge,0,none⟩) es.length es.length,.int .i64 sg] w3)).cell? p=w3.cell? p∧(putAll (w.heap.size+1) 0 [.int .i64 au,.int .i64 sq,.int .i64 pv,.slice (some ⟨gv,0,none⟩) vec.length vec.length,.slice (some ⟨ge,0,none⟩) es.length es.length,.int .i64 sg] (putAll (w.heap.size+2) 3 [.slice (some ⟨gv,0,none⟩) vec.length vec.length,.slice (some ⟨ge,0,none⟩) es.length es.length,.int .i64 sg] w3)).frozen? p=w3.frozen? p:=fun p hp=>⟨(putAll_other (by omega)).trans (putAll_other (by omega)),(putAll_frozen _).trans (putAll_frozen _)⟩
  have hqs:=(putAll_size (b:=w.heap.size+1) (o:=0) (vs:=[.int .i64 au,.int .i64 sq,.int .i64 pv,.slice (some ⟨gv,0,none⟩) vec.length vec.length,.slice (some ⟨ge,0,none⟩) es.length es.length,.int .i64 sg]) (w:=putAll (w.heap.size+2) 3 [.slice (some ⟨gv,0,none⟩) vec.length vec.length,.slice (some ⟨ge,0,none⟩) es.length es.length,.int .i64 sg] w3)).trans putAll_size
  have hqb:=putAll_below (b:=w.heap.size+1) (o:=0) (vs:=[.int .i64 au,.int .i64 sq,.int .i64 pv,.slice (some ⟨gv,0,none⟩) vec.length vec.length,.slice (some ⟨ge,0,none⟩) es.length es.length,.int .i64 sg]) (putAll_below (b:=w.heap.size+2) (o:=3) (vs:=[.slice (some ⟨gv,0,none⟩) vec.length vec.length,.slice (some ⟨ge,0,none⟩) es.length es.length,.int .i64 sg]) HB3.out (by omega)) (by omega)
  obtain ⟨W9,hW9⟩:∃W9,W9=putAll (w.heap.size+1) 0 [.int .i64 au,.int .i64 sq,.int .i64 pv,.slice (some ⟨gv,0,none⟩) vec.length vec.length,.slice (some ⟨ge,0,none⟩) es.length es.length,.int .i64 sg] (putAll (w.heap.size+2) 3 [.slice (some ⟨gv,0,none⟩) vec.length vec.length,.slice (some ⟨ge,0,none⟩) es.length es.length,.int .i64 sg] w3):=⟨_,rfl⟩
  rw [←hW9] at hq hqo hqs hqb
  simp only [putAll] at hW9
  rw [←hW9]
  have r0:=hq 0 (by simp)
  have r1:=hq 1 (by simp)
  have r2:=hq 2 (by simp)
  have r3:=hq 3 (by simp)
  have r4:=hq 4 (by simp)
  have r5:=hq 5 (by simp)
  simp only [List.getElem_cons_succ,List.getElem_cons_zero] at r0 r1 r2 r3 r4 r5
  refine bodyPost_ret (v:=.agg #[.int .i64 au,.int .i64 sq,.int .i64 pv,.slice (some ⟨gv,0,none⟩) vec.length vec.length,.slice (some ⟨ge,0,none⟩) es.length es.length,.int .i64 sg]) (by simp [results,Tryz.results16,r0,r1,r2,r3,r4,r5,go_sem]) rfl ⟨gv,ge,rfl,by omega,?_,hqb⟩
  exact (HT3.out.keep fun p hp _=>hqo p (by omega)).mono (by omega) (by omega)
end Go.Proofs.YtckajeippfpojaaGreat
namespace Go.Proofs.YtckajeippfpojaaGreat
open Go.RowKit Go.Maps
set_option maxRecDepth 100000
structure Mn where
  au:Int
  sq:Int
  pv:Int
  vec:List Int
  es:List En
  sg:Int
deriving DecidableEq,Inhabited
def MnIn (w:World) (L B:Nat) (b o:Nat) (m:Mn):Prop :=
  ∃AV cv A c,w.cell? ⟨b,o,none⟩=some (.int .i64 m.au)∧w.cell? ⟨b,o+1,none⟩=some (.int .i64 m.sq)∧w.cell? ⟨b,o+2,none⟩=some (.int .i64 m.pv)∧w.cell? ⟨b,o+3,none⟩=some (.slice AV m.vec.length cv) ∧
    w.cell? ⟨b,o+4,none⟩=some (.slice A m.es.length c)∧w.cell? ⟨b,o+5,none⟩=some (.int .i64 m.sg)∧IntsIn w L B AV m.vec∧EnsIn w L B A m.es
def MnsIn (w:World) (L B:Nat) (A:Option Addr) (ms:List Mn):Prop :=
  0 < ms.length→∃b o,A=some ⟨b,o,none⟩∧L≤b∧b < B∧∀i (hi:i < ms.length),MnIn w L B b (o+i*6) ms[i]
def MnRd (w:World) (L B:Nat) (b o:Nat) (m:Mn):Prop :=
  ∃AV cv A c,w.cell? ⟨b,o,none⟩=some (.int .i64 m.au)∧w.cell? ⟨b,o+1,none⟩=some (.int .i64 m.sq)∧w.cell? ⟨b,o+2,none⟩=some (.int .i64 m.pv)∧w.cell? ⟨b,o+3,none⟩=some (.slice AV m.vec.length cv) ∧
    w.cell? ⟨b,o+4,none⟩=some (.slice A m.es.length c)∧w.cell? ⟨b,o+5,none⟩=some (.int .i64 m.sg)∧IntsIn w L B AV m.vec∧EnsIn w L B A m.es∧m.es.length≤c
def MnsRd (w:World) (L B:Nat) (A:Option Addr) (ms:List Mn):Prop :=
  0 < ms.length→∃b o,A=some ⟨b,o,none⟩∧L≤b∧b < B∧∀i (hi:i < ms.length),MnRd w L B b (o+i*6) ms[i]
section
variable {w w':World} {L L' B B':Nat} {A:Option Addr} {ms:List Mn}
theorem MnRd.in {b o:Nat} {m:Mn} (h:MnRd w L B b o m):MnIn w L B b o m:=by
  obtain ⟨AV,cv,A,c,h0,h1,h2,h3,h4,h5,h6,h7,_⟩:=h
  exact ⟨AV,cv,A,c,h0,h1,h2,h3,h4,h5,h6,h7⟩
theorem MnsRd.in (h:MnsRd w L B A ms):MnsIn w L B A ms:=fun hl=>by
  obtain ⟨b,o,e,hL,hb,hc⟩:=h hl
  exact ⟨b,o,e,hL,hb,fun i hi=>(hc i hi).in⟩
theorem MnIn.keep {b o:Nat} {m:Mn} (h:MnIn w L B b o m) (hL:L≤b) (hb:b < B) (hk:∀p:Addr,L≤p.block→p.block < B→w'.cell? p=w.cell? p):MnIn w' L B b o m:=by
  obtain ⟨AV,cv,A,c,h0,h1,h2,h3,h4,h5,h6,h7⟩:=h
  exact ⟨AV,cv,A,c,(hk _ hL hb).trans h0,(hk _ hL hb).trans h1,(hk _ hL hb).trans h2,(hk _ hL hb).trans h3,(hk _ hL hb).trans h4,(hk _ hL hb).trans h5,h6.keep hk,h7.keep hk⟩
theorem MnRd.keep {b o:Nat} {m:Mn} (h:MnRd w L B b o m) (hL:L≤b) (hb:b < B) (hk:∀p:Addr,L≤p.block→p.block < B→w'.cell? p=w.cell? p):MnRd w' L B b o m:=by
  obtain ⟨AV,cv,A,c,h0,h1,h2,h3,h4,h5,h6,h7,h8⟩:=h
  exact ⟨AV,cv,A,c,(hk _ hL hb).trans h0,(hk _ hL hb).trans h1,(hk _ hL hb).trans h2,(hk _ hL hb).trans h3,(hk _ hL hb).trans h4,(hk _ hL hb).trans h5,h6.keep hk,h7.keep hk,h8⟩
theorem MnIn.mono {b o:Nat} {m:Mn} (h:MnIn w L B b o m) (hL:L'≤L) (hB:B≤B'):MnIn w L' B' b o m:=by
  obtain ⟨AV,cv,A,c,h0,h1,h2,h3,h4,h5,h6,h7⟩:=h
  exact ⟨AV,cv,A,c,h0,h1,h2,h3,h4,h5,(h6.low hL).mono hB,(h7.low hL).mono hB⟩
theorem MnRd.mono {b o:Nat} {m:Mn} (h:MnRd w L B b o m) (hL:L'≤L) (hB:B≤B'):MnRd w L' B' b o m:=by
  obtain ⟨AV,cv,A,c,h0,h1,h2,h3,h4,h5,h6,h7,h8⟩:=h
  exact ⟨AV,cv,A,c,h0,h1,h2,h3,h4,h5,(h6.low hL).mono hB,(h7.low hL).mono hB,h8⟩
theorem MnsIn.keep (h:MnsIn w L B A ms) (hk:∀p:Addr,L≤p.block→p.block < B→w'.cell? p=w.cell? p):MnsIn w' L B A ms:=fun hl=>by
  obtain ⟨b,o,e,hL,hb,hc⟩:=h hl
  exact ⟨b,o,e,hL,hb,fun i hi=>(hc i hi).keep hL hb hk⟩
theorem MnsRd.keep (h:MnsRd w L B A ms) (hk:∀p:Addr,L≤p.block→p.block < B→w'.cell? p=w.cell? p):MnsRd w' L B A ms:=fun hl=>by
  obtain ⟨b,o,e,hL,hb,hc⟩:=h hl
  exact ⟨b,o,e,hL,hb,fun i hi=>(hc i hi).keep hL hb hk⟩
theorem MnsIn.mono (h:MnsIn w L B A ms) (hB:B≤B'):MnsIn w L B' A ms:=fun hl=>by
  obtain ⟨b,o,e,hL,hb,hc⟩:=h hl
  exact ⟨b,o,e,hL,by omega,fun i hi=>(hc i hi).mono (Nat.le_refl _) hB⟩
theorem MnsRd.mono (h:MnsRd w L B A ms) (hL':L'≤L) (hB:B≤B'):MnsRd w L' B' A ms:=fun hl=>by
  obtain ⟨b,o,e,hL,hb,hc⟩:=h hl
  exact ⟨b,o,e,by omega,by omega,fun i hi=>(hc i hi).mono hL' hB⟩
theorem MnsRd.up (h:MnsRd w 0 w.heap.size A ms) (hb:Below w.heap.size w w'):MnsRd w' 0 w'.heap.size A ms:=(h.keep fun _ _ hp=>hb.cell hp).mono (Nat.le_refl _) hb.size
end
def mbulk:List Mn→Nat
  | []=>0
  | m :: ms=>m.vec.length+(m.es.length+ebulk m.es)+mbulk ms
theorem mbulk_append (xs ys:List Mn):mbulk (xs++ys)=mbulk xs+mbulk ys:=by
  induction xs with
  | nil=>simp [mbulk]
  | cons x xs ih=>simp [mbulk,ih];omega
theorem mbulk_take_succ (ms:List Mn) (k:Nat) (h:k < ms.length):mbulk (ms.take (k+1))=mbulk (ms.take k)+(ms[k].vec.length+(ms[k].es.length+ebulk ms[k].es)):=by
  rw [List.take_succ_eq_append_getElem h,mbulk_append]
  simp [mbulk]
theorem mbulk_take_le (ms:List Mn) (k:Nat):mbulk (ms.take k)≤mbulk ms:=by
  have h:=mbulk_append (ms.take k) (ms.drop k)
  rw [List.take_append_drop] at h
  omega
theorem one_le_mbulk (ms:List Mn) (k:Nat) (h:k < ms.length):ms[k].vec.length+(ms[k].es.length+ebulk ms[k].es)≤mbulk ms:=by
  have:=mbulk_take_succ ms k h
  have:=mbulk_take_le ms (k+1)
  omega
def MnsSz (ms:List Mn):Prop:=∀i (hi:i < ms.length),ms[i].vec.length≤9223372036854775807∧ms[i].es.length≤9223372036854775807∧∀j (hj:j < ms[i].es.length),ms[i].es[j].name.length≤9223372036854775807
set_option maxHeartbeats 1000000 in
theorem szManifestS_any (A:Option Addr) (ms:List Mn) (c:Nat) (left:Int) (w:World) (hA:MnsIn w 0 w.heap.size A ms) (hn:ms.length≤9223372036854775807) (hbn:MnsSz ms) (h0:0≤left) (h1:left≤1048576) :
    Calls Tryz.prog 42 #[.slice A ms.length c,.int .i64 left] w fun e w'=>∃r:Int,e=.returned (.int .i64 r)∧SzOk left (ms.length+mbulk ms) r∧Below w.heap.size w w':=by
  go_enter Tryz.func42,Tryz.ntmps42
  by_cases hl:left - ms.length < 0
  · go_wp2
    go_ret
    exact ⟨-1,rfl,.inl rfl,Below.refl _ _⟩
  · have hl':0≤left - ms.length:=by omega
    have HBn:=hd' hbn
    clear hl hbn
    go_wp2
    go_loopw [1,4,5] (fun l _ i wr=>∃(k:Nat) (r:Int),k≤ms.length∧i=.int .i64 k∧l=.int .i64 r∧0≤r∧r+ms.length+mbulk (ms.take k)=left∧Below w.heap.size w wr) (fun _ _ i _=>ms.length - (intOf i).toNat)
    case atStart=>exact ⟨0,_,Nat.zero_le _,rfl,rfl,hl',by simp [mbulk],Below.refl _ _⟩
    case round =>
      obtain ⟨k,r,hk,rfl,rfl,hr,hsum,hbel⟩:=hrel
      have HSum:=hd' hsum
      have HBel:=hd' hbel
      have hrl:r≤1048576:=by omega
      clear hsum hbel
      by_cases hlt:k < ms.length
      · obtain ⟨b,o,rfl,hL,hb,hc⟩:=hA (by omega)
        obtain ⟨AV,cv,A',c',c0,c1,c2,c3,c4,c5,_,hes⟩:=(hc k hlt).keep hL hb (fun p _ hp=>HBel.out.cell hp)
        have HEs:=hd' (hes.mono HBel.out.size)
        obtain ⟨hv1,hv2,hv3⟩:=HBn.out k hlt
        have HV3:=hd' hv3
        have HTs:=hd' (mbulk_take_succ ms k hlt)
        have HTl:=hd' (mbulk_take_le ms (k+1))
        clear hc hes hv3
        go_wp2_with fail
        refine (szManifest_any _ _ _ _ _ _ _ _ _ _ _ _ HEs.out hv1 hv2 HV3.out hr hrl).mono ?_
        rintro e w1 ⟨r1,rfl,hsz,hb1⟩
        have HSz:=hd' hsz
        have HB1:=hd' (HBel.out.trans (hb1.mono HBel.out.size))
        clear hsz hb1 c0 c1 c2 c3 c4 c5
        by_cases hr1:r1 < 0
        · go_wp2_with fail
          go_ret
          refine ⟨-1,rfl,.inl rfl,HB1.out⟩
        · have hr1':0≤r1:=by omega
          go_wp2_with fail
          go_roundw
          case rel =>
            refine ⟨k+1,r1,by omega,by go_num,rfl,hr1',?_,HB1.out⟩
            have:=HSz.out
            have:=HSum.out
            unfold SzOk at *
            rw [HTs.out]
            omega
          case measure=>simp [intOf];omega
      · have hke:k=ms.length:=by omega
        have HR:=hd' (show SzOk left (ms.length+mbulk ms) r by
          have:=HSum.out
          rw [hke,List.take_length] at this
          exact .inr ⟨hr,by omega⟩)
        go_wp2_with fail
        go_ret
        exact ⟨r,rfl,HR.out,HBel.out⟩
structure MnCell (w:World) (R i:Nat) (AV:Option Addr) (cv:Nat) (A:Option Addr) (c:Nat) (m:Mn):Prop where
  c0:w.cell? ⟨R,i*6,none⟩=some (.int .i64 m.au)
  c1:w.cell? ⟨R,i*6+1,none⟩=some (.int .i64 m.sq)
  c2:w.cell? ⟨R,i*6+2,none⟩=some (.int .i64 m.pv)
  c3:w.cell? ⟨R,i*6+3,none⟩=some (.slice AV m.vec.length cv)
  c4:w.cell? ⟨R,i*6+4,none⟩=some (.slice A m.es.length c)
  c5:w.cell? ⟨R,i*6+5,none⟩=some (.int .i64 m.sg)
  fr:∀o,o < 6→w.frozen? ⟨R,i*6+o,none⟩=false
  cb:m.es.length≤c
theorem MnCell.keep {w w':World} {R i cv c:Nat} {AV A:Option Addr} {m:Mn} (h:MnCell w R i AV cv A c m) (hR:∀o,w'.cell? ⟨R,o,none⟩=w.cell? ⟨R,o,none⟩∧w'.frozen? ⟨R,o,none⟩=w.frozen? ⟨R,o,none⟩):MnCell w' R i AV cv A c m where
  c0:=(hR _).1.trans h.c0
  c1:=(hR _).1.trans h.c1
  c2:=(hR _).1.trans h.c2
  c3:=(hR _).1.trans h.c3
  c4:=(hR _).1.trans h.c4
  c5:=(hR _).1.trans h.c5
  fr o ho:=(hR _).2.trans (h.fr o ho)
  cb:=h.cb
structure MLay (L B R n:Nat) (lo hi:Nat→Nat):Prop where
  low:L≤R
  up:R < B
  at_:∀i,i < n→L≤lo i∧hi i≤B∧(R < lo i∨hi i≤R)
  apart:∀i j,i < j→j < n→hi i≤lo j∨hi j≤lo i
theorem MLay.mono {L L' B B' R n:Nat} {lo hi:Nat→Nat} (h:MLay L B R n lo hi) (hL:L'≤L) (hB:B≤B'):MLay L' B' R n lo hi :=
  ⟨Nat.le_trans hL h.low,Nat.lt_of_lt_of_le h.up hB,fun i hi=>⟨Nat.le_trans hL (h.at_ i hi).1,Nat.le_trans (h.at_ i hi).2.1 hB,(h.at_ i hi).2.2⟩,h.apart⟩
def MnsOwn (w:World) (L B:Nat) (A:Option Addr) (ms:List Mn):Prop :=
  0 < ms.length→∃(R:Nat) (lo hi:Nat→Nat) (AV:Nat→Option Addr) (cv:Nat→Nat) (AE:Nat→Option Addr) (ce:Nat→Nat),A=some ⟨R,0,none⟩∧MLay L B R ms.length lo hi ∧
    ∀i (hi':i < ms.length),MnCell w R i (AV i) (cv i) (AE i) (ce i) ms[i]∧TrOwn w (lo i) (hi i) (AV i) ms[i].vec (AE i) ms[i].es
section
variable {w w':World} {L L' B B':Nat} {A:Option Addr} {ms:List Mn}
theorem MnsOwn.keep (h:MnsOwn w L B A ms) (hk:∀p:Addr,L≤p.block→p.block < B→w'.cell? p=w.cell? p∧w'.frozen? p=w.frozen? p):MnsOwn w' L B A ms:=fun hl=>by
  obtain ⟨R,lo,hi,AV,cv,AE,ce,e,hlay,hc⟩:=h hl
  refine ⟨R,lo,hi,AV,cv,AE,ce,e,hlay,fun i hi'=>⟨(hc i hi').1.keep fun o=>hk _ hlay.low hlay.up,(hc i hi').2.keep fun p hp hq=>hk p ?_ ?_⟩⟩
  · have:=(hlay.at_ i hi').1;omega
  · have:=(hlay.at_ i hi').2.1;omega
theorem MnsOwn.mono (h:MnsOwn w L B A ms) (hL:L'≤L) (hB:B≤B'):MnsOwn w L' B' A ms:=fun hl=>by
  obtain ⟨R,lo,hi,AV,cv,AE,ce,e,hlay,hc⟩:=h hl
  exact ⟨R,lo,hi,AV,cv,AE,ce,e,hlay.mono hL hB,hc⟩
theorem MnsOwn.nil:MnsOwn w L B A []:=fun h=>absurd h (by simp)
theorem MnsOwn.rd (h:MnsOwn w L B A ms):MnsRd w L B A ms:=fun hl=>by
  obtain ⟨R,lo,hi,AV,cv,AE,ce,e,hlay,hc⟩:=h hl
  refine ⟨R,0,e,hlay.low,hlay.up,fun i hi'=>?_⟩
  obtain ⟨hx,ht⟩:=hc i hi'
  have ha:=hlay.at_ i hi'
  rw [Nat.zero_add]
  exact ⟨AV i,cv i,AE i,ce i,hx.c0,hx.c1,hx.c2,hx.c3,hx.c4,hx.c5,(ht.vecIn.ints.low ha.1).mono ha.2.1,(ht.ensIn.ens.low ha.1).mono ha.2.1,hx.cb⟩
end
theorem Tryz.infoMan:(Tryz.prog.info? 40).map (fun i=>(i.zero,i.size,i.bytes))=some (some (.agg #[.int .i64 0,.int .i64 0,.int .i64 0,.slice none 0 0,.slice none 0 0,.int .i64 0]),6,80):=by kernel_rfl
theorem run_make_mns (n:Nat) (hn:n≤1048576) (w:World) :
    (Instr.makeSlice 55 (.int .i64 (n:Int)) (.int .i64 (n:Int))).run Tryz.prog w=.ok (.slice (some ⟨w.heap.size,0,none⟩) n n) (w.alloc (.cells (madeCells #[.int .i64 0,.int .i64 0,.int .i64 0,.slice none 0 0,.slice none 0 0,.int .i64 0] (n*6)) 40)):=by
  obtain ⟨i0,hi,hz0,hz1,hz2⟩:=info_parts Tryz.infoMan
  have hr:=run_make (P:=Tryz.prog) w 55 40 i0 _ Tryz.underlying55 hi hz0 .i64 .i64 n n (by omega) (by omega) (by rw [hz2];omega) (by omega)
  simp only [Int.toNat_natCast,hz1] at hr
  exact hr
def put6m (f:Nat→Value) (k:Nat) (v0 v1 v2 v3 v4 v5:Value):Nat→Value :=
  fun j=>if j=k*6+5 then v5 else (fun j=>if j=k*6+4 then v4 else (fun j=>if j=k*6+3 then v3 else (fun j=>if j=k*6+2 then v2 else (fun j=>if j=k*6+1 then v1 else (fun j=>if j=k*6 then v0 else f j) j) j) j) j) j
section
variable {w a:World} {b k B:Nat} {t:TypeId} {n:Nat} {f:Nat→Value} {v0 v1 v2 v3 v4 v5:Value}
theorem rowIs_put6m (h:w.rowIs b t n f) (k:Nat) (v0 v1 v2 v3 v4 v5:Value) :
    ((((((w.setCell ⟨b,k*6,none⟩ v0).setCell ⟨b,k*6+1,none⟩ v1).setCell ⟨b,k*6+2,none⟩ v2).setCell ⟨b,k*6+3,none⟩ v3).setCell ⟨b,k*6+4,none⟩ v4).setCell ⟨b,k*6+5,none⟩ v5).rowIs b t n (put6m f k v0 v1 v2 v3 v4 v5) :=
  (((((h.set _ v0).set _ v1).set _ v2).set _ v3).set _ v4).set _ v5
theorem other_put6m {p:Addr} (hp:p.block≠b) :
    ((((((w.setCell ⟨b,k*6,none⟩ v0).setCell ⟨b,k*6+1,none⟩ v1).setCell ⟨b,k*6+2,none⟩ v2).setCell ⟨b,k*6+3,none⟩ v3).setCell ⟨b,k*6+4,none⟩ v4).setCell ⟨b,k*6+5,none⟩ v5).cell? p=w.cell? p ∧
    ((((((w.setCell ⟨b,k*6,none⟩ v0).setCell ⟨b,k*6+1,none⟩ v1).setCell ⟨b,k*6+2,none⟩ v2).setCell ⟨b,k*6+3,none⟩ v3).setCell ⟨b,k*6+4,none⟩ v4).setCell ⟨b,k*6+5,none⟩ v5).frozen? p=w.frozen? p:=by
  refine ⟨?_,by rw [World.frozen?_setCell,World.frozen?_setCell,World.frozen?_setCell,World.frozen?_setCell,World.frozen?_setCell,World.frozen?_setCell]⟩
  rw [World.cell?_setCell_other _ _ _ _ (by rintro rfl;exact hp rfl),World.cell?_setCell_other _ _ _ _ (by rintro rfl;exact hp rfl),World.cell?_setCell_other _ _ _ _ (by rintro rfl;exact hp rfl),World.cell?_setCell_other _ _ _ _ (by rintro rfl;exact hp rfl),World.cell?_setCell_other _ _ _ _ (by rintro rfl;exact hp rfl),World.cell?_setCell_other _ _ _ _ (by rintro rfl;exact hp rfl)]
theorem below_put6m (h:Below B a w) (hB:B≤b) (k:Nat) (v0 v1 v2 v3 v4 v5:Value) :
    Below B a ((((((w.setCell ⟨b,k*6,none⟩ v0).setCell ⟨b,k*6+1,none⟩ v1).setCell ⟨b,k*6+2,none⟩ v2).setCell ⟨b,k*6+3,none⟩ v3).setCell ⟨b,k*6+4,none⟩ v4).setCell ⟨b,k*6+5,none⟩ v5) :=
  (((((h.setCell hB _).setCell hB _).setCell hB _).setCell hB _).setCell hB _).setCell hB _
end
structure MnRow (w:World) (R:Nat) (ms:List Mn) (k:Nat) (f:Nat→Value) (lo hi gv ge:Nat→Nat):Prop where
  at_:∀i,i < k→R < lo i∧hi i≤w.heap.size
  inc:∀i j,i < j→j < k→hi i≤lo j
  val:∀i (hi:i < ms.length),i < k→f (i*6)=.int .i64 ms[i].au∧f (i*6+1)=.int .i64 ms[i].sq∧f (i*6+2)=.int .i64 ms[i].pv∧f (i*6+3)=.slice (some ⟨gv i,0,none⟩) ms[i].vec.length ms[i].vec.length∧f (i*6+4)=.slice (some ⟨ge i,0,none⟩) ms[i].es.length ms[i].es.length∧f (i*6+5)=.int .i64 ms[i].sg
  tr:∀i (hi':i < ms.length),i < k→TrOwn w (lo i) (hi i) (some ⟨gv i,0,none⟩) ms[i].vec (some ⟨ge i,0,none⟩) ms[i].es
theorem MnRow.step {w w1:World} {R:Nat} {ms:List Mn} {k:Nat} {f:Nat→Value} {lo hi gv ge:Nat→Nat} {gv' ge':Nat} (hk:k < ms.length) (h:MnRow w R ms k f lo hi gv ge) (hb:Below w.heap.size w w1) (hR:R < w.heap.size)
    (ht:TrOwn w1 w.heap.size w1.heap.size (some ⟨gv',0,none⟩) ms[k].vec (some ⟨ge',0,none⟩) ms[k].es) :
    MnRow ((((((w1.setCell ⟨R,k*6,none⟩ (.int .i64 ms[k].au)).setCell ⟨R,k*6+1,none⟩ (.int .i64 ms[k].sq)).setCell ⟨R,k*6+2,none⟩ (.int .i64 ms[k].pv)).setCell ⟨R,k*6+3,none⟩ (.slice (some ⟨gv',0,none⟩) ms[k].vec.length ms[k].vec.length)).setCell ⟨R,k*6+4,none⟩ (.slice (some ⟨ge',0,none⟩) ms[k].es.length ms[k].es.length)).setCell ⟨R,k*6+5,none⟩ (.int .i64 ms[k].sg)) R ms (k+1)
      (put6m f k (.int .i64 ms[k].au) (.int .i64 ms[k].sq) (.int .i64 ms[k].pv) (.slice (some ⟨gv',0,none⟩) ms[k].vec.length ms[k].vec.length) (.slice (some ⟨ge',0,none⟩) ms[k].es.length ms[k].es.length) (.int .i64 ms[k].sg)) (fun i=>if i=k then w.heap.size else lo i) (fun i=>if i=k then w1.heap.size else hi i) (fun i=>if i=k then gv' else gv i) (fun i=>if i=k then ge' else ge i) where
  at_ i hi:=by
    have hz:=hb.size
    simp only [World.size_setCell]
    by_cases e:i=k
    · rw [if_pos e,if_pos e];omega
    · rw [if_neg e,if_neg e]
      have:=h.at_ i (by omega)
      omega
  inc i j hij hj:=by
    by_cases e:j=k
    · rw [if_neg (show i≠k by omega),if_pos e]
      have:=h.at_ i (by omega)
      omega
    · rw [if_neg (show i≠k by omega),if_neg e]
      exact h.inc i j hij (by omega)
  val i hi hik:=by
    by_cases e:i=k
    · subst e
      simp [put6m]
    · obtain ⟨f0,f1,f2,f3,f4,f5⟩:=h.val i hi (by omega)
      unfold put6m
      simp only [if_neg e]
      refine ⟨?_,?_,?_,?_,?_,?_⟩
      all_goals rw [if_neg (by omega),if_neg (by omega),if_neg (by omega),if_neg (by omega),if_neg (by omega),if_neg (by omega)]
      all_goals assumption
  tr i hi hik:=by
    by_cases e:i=k
    · subst e
      simp only [if_true]
      exact ht.keep fun p hp hq=>other_put6m (by omega)
    · simp only [if_neg e]
      have h1:=h.at_ i (by omega)
      exact ((h.tr i hi (by omega)).keep fun p hp hq=>⟨hb.cell (by omega),hb.frozen (by omega)⟩).keep fun p hp hq=>other_put6m (by omega)
set_option maxHeartbeats 1000000 in
theorem toManifestS_own (A:Option Addr) (ms:List Mn) (c:Nat) (w:World) (hA:MnsIn w 0 w.heap.size A ms) (hn:ms.length≤1048576) (hbk:mbulk ms≤1048576) :
    Calls Tryz.prog 44 #[.slice A ms.length c] w fun e w'=>∃R,e=.returned (.slice (some ⟨R,0,none⟩) ms.length ms.length)∧w.heap.size≤R∧MnsOwn w' w.heap.size w'.heap.size (some ⟨R,0,none⟩) ms∧Below w.heap.size w w':=by
  have hmk:=run_make_mns ms.length hn
  go_enter Tryz.func44,Tryz.ntmps44
  go_wp2
  clear hmk
  go_loopw [4] (fun i wr=>∃(k:Nat) (f:Nat→Value) (lo hi gv ge:Nat→Nat),k≤ms.length∧i=.int .i64 k∧wr.rowIs w.heap.size 40 (ms.length*6) f∧MnRow wr w.heap.size ms k f lo hi gv ge∧Below w.heap.size w wr) (fun i _=>ms.length - (intOf i).toNat)
  case atStart =>
    refine ⟨0,fun j=>(#[Value.int .i64 0,.int .i64 0,.int .i64 0,.slice none 0 0,.slice none 0 0,.int .i64 0]:Array Value)[j % 6]!,fun _=>0,fun _=>0,fun _=>0,fun _=>0,Nat.zero_le _,rfl,⟨_,heap_alloc_new w _,size_madeCells _ _,fun i hi=>?_⟩,⟨fun i h=>absurd h (by omega),fun i j _ h=>absurd h (by omega),fun i _ h=>absurd h (by omega),fun i _ h=>absurd h (by omega)⟩,(Below.refl _ _).alloc (Nat.le_refl _) _⟩
    simp [madeCells,hi]
  case round =>
    obtain ⟨k,f,lo,hi,gv,ge,hk,rfl,hrow,hen,hbel⟩:=hrel
    have HR:=hd' hrow
    have HE:=hd' hen
    clear hen
    by_cases hlt:k < ms.length
    · obtain ⟨b,o,rfl,hL,hb,hc⟩:=hA (by omega)
      obtain ⟨AV,cv,A',c',c0,c1,c2,c3,c4,c5,hvi,hei⟩:=(hc k hlt).keep hL hb (fun p _ hp=>hbel.cell hp)
      have hle:=one_le_mbulk ms k hlt
      have HV:=hd' (hvi.mono hbel.size)
      have HI:=hd' (hei.mono hbel.size)
      clear hc hrow hvi hei
      go_wp2_with fail
      refine (toManifest_own _ _ _ _ _ _ _ _ _ _ _ HV.out HI.out (by omega) (by omega) (by omega)).mono ?_
      rintro e w1 ⟨gv',ge',rfl,_,ht,hb1⟩
      have HY:=hd' ht
      have hR:=HR.out.lt
      have hrow:=HR.out.of_block (hb1.block _ hR)
      have d0:=hrow.cell (i:=k*6) (by omega)
      have d1:=hrow.cell (i:=k*6+1) (by omega)
      have d2:=hrow.cell (i:=k*6+2) (by omega)
      have d3:=hrow.cell (i:=k*6+3) (by omega)
      have d4:=hrow.cell (i:=k*6+4) (by omega)
      have d5:=hrow.cell (i:=k*6+5) (by omega)
      have e0:=hrow.frozen (k*6)
      have e1:=hrow.frozen (k*6+1)
      have e2:=hrow.frozen (k*6+2)
      have e3:=hrow.frozen (k*6+3)
      have e4:=hrow.frozen (k*6+4)
      have e5:=hrow.frozen (k*6+5)
      have HW:=hd' hrow
      have HB1:=hd' hb1
      have HBel:=hd' hbel
      clear ht hrow hb1 hbel c0 c1 c2 c3 c4 c5
      go_wp2
      go_roundw
      case rel=>exact ⟨k+1,_,_,_,_,_,by omega,by go_num,rowIs_put6m HW.out k _ _ _ _ _ _,HE.out.step hlt HB1.out hR HY.out,below_put6m (HBel.out.trans (HB1.out.mono HBel.out.size)) (Nat.le_refl _) _ _ _ _ _ _ _⟩
      case measure=>simp [intOf];omega
    · clear hrow
      go_wp2
      go_ret
      refine ⟨w.heap.size,rfl,Nat.le_refl _,fun hl=>⟨w.heap.size,lo,hi,fun i=>some ⟨gv i,0,none⟩,fun i=>(ms.getD i default).vec.length,fun i=>some ⟨ge i,0,none⟩,fun i=>(ms.getD i default).es.length,rfl,⟨Nat.le_refl _,HR.out.lt,fun i hi=>?_,fun i j hij hj=>.inl (HE.out.inc i j hij (by omega))⟩,fun i hi=>?_⟩,hbel⟩
      · have:=HE.out.at_ i (by omega)
        omega
      · obtain ⟨f0,f1,f2,f3,f4,f5⟩:=HE.out.val i hi (by omega)
        have hm:ms.getD i default=ms[i]:=by simp [List.getD,List.getElem?_eq_getElem hi]
        refine ⟨⟨?_,?_,?_,?_,?_,?_,fun o _=>HR.out.frozen _,by show ms[i].es.length≤(ms.getD i default).es.length;rw [hm];exact Nat.le_refl _⟩,HE.out.tr i hi (by omega)⟩
        · rw [HR.out.cell (by omega),f0]
        · rw [HR.out.cell (by omega),f1]
        · rw [HR.out.cell (by omega),f2]
        · rw [HR.out.cell (by omega),f3]
          simp only [hm]
        · rw [HR.out.cell (by omega),f4]
          simp only [hm]
        · rw [HR.out.cell (by omega),f5]
set_option maxHeartbeats 1000000 in
theorem eqManifestS_same (A A':Option Addr) (ms:List Mn) (c c' L L' B B':Nat) (w:World) (hA:MnsOwn w L B A ms) (hA':MnsOwn w L' B' A' ms) (hB:B≤w.heap.size) (hB':B'≤w.heap.size) (hn:ms.length≤1048576) (hbk:mbulk ms≤1048576) :
    Calls Tryz.prog 46 #[.slice A ms.length c,.slice A' ms.length c'] w fun e w'=>e=.returned (.bool true)∧Below w.heap.size w w':=by
  go_enter Tryz.func46,Tryz.ntmps46
  go_wp2
  go_loopw [5] (fun i wr=>∃k:Nat,k≤ms.length∧i=.int .i64 k∧Below w.heap.size w wr) (fun i _=>ms.length - (intOf i).toNat)
  case atStart=>exact ⟨0,Nat.zero_le _,rfl,Below.refl _ _⟩
  case round =>
    obtain ⟨k,hk,rfl,hbel⟩:=hrel
    have HBel:=hd' hbel
    by_cases hlt:k < ms.length
    · obtain ⟨R,lo,hi,AV,cv,AE,ce,rfl,hlay,hc⟩:=hA (by omega)
      obtain ⟨R',lo',hi',AV',cv',AE',ce',rfl,hlay',hc'⟩:=hA' (by omega)
      have hl1:=hlay.low
      have hl2:=hlay.up
      have hl3:=hlay'.low
      have hl4:=hlay'.up
      have hl5:=hlay.at_ k hlt
      have hl6:=hlay'.at_ k hlt
      obtain ⟨⟨x0,x1,x2,x3,x4,x5,_,_⟩,ht⟩:MnCell wr R k (AV k) (cv k) (AE k) (ce k) ms[k]∧TrOwn wr (lo k) (hi k) (AV k) ms[k].vec (AE k) ms[k].es:=⟨(hc k hlt).1.keep fun o=>⟨hbel.cell (by show R < _;omega),hbel.frozen (by show R < _;omega)⟩,(hc k hlt).2.keep fun p hp hq=>⟨hbel.cell (by omega),hbel.frozen (by omega)⟩⟩
      obtain ⟨⟨y0,y1,y2,y3,y4,y5,_,_⟩,ht'⟩:MnCell wr R' k (AV' k) (cv' k) (AE' k) (ce' k) ms[k]∧TrOwn wr (lo' k) (hi' k) (AV' k) ms[k].vec (AE' k) ms[k].es:=⟨(hc' k hlt).1.keep fun o=>⟨hbel.cell (by show R' < _;omega),hbel.frozen (by show R' < _;omega)⟩,(hc' k hlt).2.keep fun p hp hq=>⟨hbel.cell (by omega),hbel.frozen (by omega)⟩⟩
      have HY:=hd' ht
      have HY':=hd' ht'
      have hle:=one_le_mbulk ms k hlt
      have hz:=hbel.size
      have hh1:hi k≤wr.heap.size:=by omega
      have hh2:hi' k≤wr.heap.size:=by omega
      clear hc hc' hA hA' hbel ht ht' hlay hlay' hl1 hl2 hl3 hl4 hl5 hl6
      go_wp2
      go_still_tail 8,(by kernel_rfl)
      change wpList _ _ _ _ _ wr.drew
      go_wp2_with fail
      refine (eqManifest_same _ _ _ _ _ _ _ _ _ _ _ _ _ _ (lo k) (lo' k) (hi k) (hi' k) _ (HY.out.keep (w':=wr.drew) fun _ _ _=>⟨rfl,rfl⟩) (HY'.out.keep (w':=wr.drew) fun _ _ _=>⟨rfl,rfl⟩) hh1 hh2 (by omega) (by omega) (by omega)).mono ?_
      rintro e w1 ⟨rfl,hb1⟩
      have HB:=hd' (HBel.out.drew.trans (hb1.mono hz))
      clear hb1 x0 x1 x2 x3 x4 x5 y0 y1 y2 y3 y4 y5
      go_wp2
      go_roundw
      case rel=>exact ⟨k+1,by omega,by go_num,HB.out⟩
      case measure=>simp [intOf];omega
    · go_wp2
      go_ret
      exact ⟨rfl,hbel⟩
end Go.Proofs.YtckajeippfpojaaGreat
namespace Go.Proofs.YtckajeippfpojaaGreat
open Go.ChangeShapes Go.WideShapes Go.ChangeAt Go.RowKit Go.Deep
set_option maxRecDepth 100000
section
variable {H:Type} {enc:TypeId × Value→H} {W:World} {base:Nat} {sp:Nat→Bool} {held:Bool}
theorem Tryz.cellsMS:Tryz.prog.cellsOf 50=1:=by kernel_rfl
theorem Tryz.cellsBool:Tryz.prog.cellsOf 4=1:=by kernel_rfl
theorem Tryz.cellsDev:Tryz.prog.cellsOf 52=6:=by kernel_rfl
def MnCells (W:World) (cs:List Value) (m:Mn):Prop :=
  ∃AV cv A c,cs=[.int .i64 m.au,.int .i64 m.sq,.int .i64 m.pv,.slice AV m.vec.length cv,.slice A m.es.length c,.int .i64 m.sg]∧m.vec.length≤9223372036854775807∧m.es.length≤9223372036854775807∧(∀i (hi:i < m.es.length),m.es[i].name.length≤9223372036854775807)∧IntsIn W 0 W.heap.size AV m.vec∧EnsIn W 0 W.heap.size A m.es
theorem open_manCells {fuel:Nat} {cs:List Value} {x:DataW H × List MemPlace} (h:DataW.trod enc Tryz.prog W 0 sp held fuel 30 cs=some x):∃m,MnCells W cs m:=by
  obtain ⟨xs,n,_,_,hlen,hxs,hg⟩:=DataW.trod_struct Tryz.underlying30 h
  rw [Tryz.cellsMan] at hlen
  match cs,hlen with
  | [c0,c1,c2,c3,c4,c5],_ =>
    match xs,hxs with
    | [y0,y1,y2,y3,y4],_ =>
      have g0:=hg 0 _ rfl
      have g1:=hg 1 _ rfl
      have g2:=hg 2 _ rfl
      have g3:=hg 3 _ rfl
      have g4:=hg 4 _ rfl
      simp [Tryz.cellsInt,Tryz.cellsTr] at g0 g1 g2 g3 g4
      obtain ⟨au,e0,_,_⟩:=DataW.trod_int Tryz.underlying3 g0
      obtain ⟨sq,e1,_,_⟩:=DataW.trod_int Tryz.underlying3 g1
      obtain ⟨pv,e2,_,_⟩:=DataW.trod_int Tryz.underlying3 g2
      obtain ⟨AV,vec,cv,A,es,c,e3,hvl,hel,hnl,hvi,hei⟩:=open_trCells g3
      obtain ⟨sg,e4,_,_⟩:=DataW.trod_int Tryz.underlying3 g4
      simp at e0 e1 e2 e3 e4
      obtain ⟨e3,e3'⟩:=e3
      subst e0 e1 e2 e3 e3' e4
      exact ⟨⟨au,sq,pv,vec,es,sg⟩,AV,cv,A,c,rfl,hvl,hel,hnl,hvi,hei⟩
theorem open_mnsCells {fuel:Nat} {cs:List Value} {x:DataW H × List MemPlace} (h:DataW.trod enc Tryz.prog W 0 sp held fuel 50 cs=some x) :
    ∃(A:Option Addr) (ms:List Mn) (c:Nat),cs=[.slice A ms.length c]∧ms.length≤9223372036854775807∧MnsSz ms∧MnsIn W 0 W.heap.size A ms:=by
  rcases open_slice Tryz.underlying50 h with ⟨e,_⟩|⟨a,len,cap,m,n,D,Pl,e,hb,hl,hm,hmm,_,hi⟩
  · subst e
    exact ⟨none,[],0,rfl,by simp,fun i hi=>absurd hi (by simp),fun h=>absurd h (by simp)⟩
  · subst e
    rw [Tryz.cellsMan] at hi
    have hlm:len≤m:=by rw [hmm];split <;> omega
    obtain ⟨f,hf⟩:=choose_lt (α:=Mn) (p:=fun i t=>∃(cs':List Value),W.cells? 0 (a.add (i*6)) 6=some cs'∧MnCells W cs' t) (n:=len) (fun i hil=>by
      obtain ⟨cs',h1,h2⟩:=hi i (by omega)
      obtain ⟨t,hx⟩:=open_manCells h2
      exact ⟨t,cs',h1,hx⟩)
    have hlen2:((List.range len).map f).length=len:=by simp
    refine ⟨some a,(List.range len).map f,cap,by rw [hlen2],by rw [hlen2];unfold maxLen at hm;omega,fun i hi'=>?_,fun hpos=>?_⟩
    · rw [hlen2] at hi'
      obtain ⟨cs1,k1,AV,cv,A1,c1,k2,k3,k4,k5,k6,k7⟩:=hf i hi'
      simp only [List.getElem_map,List.getElem_range]
      exact ⟨k3,k4,k5⟩
    rw [hlen2] at hpos
    obtain ⟨cs0,k1,_,_,_,_,k2,_⟩:=hf 0 hpos
    obtain ⟨_,_,kk⟩:=World.cells?_some k1
    have q0:=kk 0 (by omega)
    rw [k2] at q0
    obtain ⟨b,off,spot⟩:=a
    have hspot:spot=none:=by simpa [Addr.add] using World.cell?_spot q0
    subst hspot
    have hblk:=World.block_lt_of_cell? W _ q0
    refine ⟨b,off,rfl,Nat.zero_le _,by simpa [Addr.add] using hblk,fun i hi'=>?_⟩
    rw [hlen2] at hi'
    obtain ⟨cs1,k1,AV,cv,A1,c1,k2,k3,k4,k5,k6,k7⟩:=hf i hi'
    obtain ⟨_,_,kk⟩:=World.cells?_some k1
    have q0:=kk 0 (by omega)
    have q1:=kk 1 (by omega)
    have q2:=kk 2 (by omega)
    have q3:=kk 3 (by omega)
    have q4:=kk 4 (by omega)
    have q5:=kk 5 (by omega)
    rw [k2] at q0 q1 q2 q3 q4 q5
    simp only [Addr.add_lit,Nat.add_zero] at q0 q1 q2 q3 q4 q5
    simp only [List.getElem_map,List.getElem_range]
    exact ⟨AV,cv,A1,c1,q0,q1,q2,q3,q4,q5,k6,k7⟩
theorem open_dev {v:Value} {d:DataW H} {p:List MemPlace} (hv:Value.okWide Tryz.prog W .any base 52 v) (h:DataW.Trod enc Tryz.prog W 0 sp held 52 v d p) :
    ∃(id:Int) (AV:Option Addr) (vec:List Int) (cv:Nat) (A:Option Addr) (es:List En) (c:Nat) (AH:Option Addr) (hs:List Mn) (ch:Nat) (al:Bool) (AP:Option Addr) (ps:List Mn) (cp:Nat),v=.agg #[.int .i64 id,.slice AV vec.length cv,.slice A es.length c,.slice AH hs.length ch,.bool al,.slice AP ps.length cp]∧vec.length≤9223372036854775807∧es.length≤9223372036854775807∧(∀i (hi:i < es.length),es[i].name.length≤9223372036854775807)∧hs.length≤9223372036854775807∧MnsSz hs∧ps.length≤9223372036854775807∧MnsSz ps∧IntsIn W 0 W.heap.size AV vec∧EnsIn W 0 W.heap.size A es∧MnsIn W 0 W.heap.size AH hs∧MnsIn W 0 W.heap.size AP ps:=by
  obtain ⟨cs,rfl,hsz⟩:=okWide_struct Tryz.underlying52 hv
  obtain ⟨fuel,hf⟩:=h
  obtain ⟨xs,n,_,_,hlen,hxs,hg⟩:=DataW.trod_struct Tryz.underlying52 hf
  obtain ⟨l⟩:=cs
  rw [Tryz.cellsDev] at hsz
  match l,hsz with
  | [c0,c1,c2,c3,c4,c5],_ =>
    match xs,hxs with
    | [y0,y1,y2,y3,y4],_ =>
      have g0:=hg 0 _ rfl
      have g1:=hg 1 _ rfl
      have g2:=hg 2 _ rfl
      have g3:=hg 3 _ rfl
      have g4:=hg 4 _ rfl
      simp [Tryz.cellsInt,Tryz.cellsTr,Tryz.cellsMS,Tryz.cellsBool,Value.cells] at g0 g1 g2 g3 g4
      obtain ⟨id,e0,_,_⟩:=DataW.trod_int Tryz.underlying3 g0
      obtain ⟨AV,vec,cv,A,es,c,e1,hvl,hel,hnl,hvi,hei⟩:=open_trCells g1
      obtain ⟨AH,hs,ch,e2,hhl,hhn,hhi⟩:=open_mnsCells g2
      obtain ⟨al,e3,_⟩:=DataW.trod_bool Tryz.underlying4 g3
      obtain ⟨AP,ps,cp,e4,hpl,hpn,hpi⟩:=open_mnsCells g4
      simp at e0 e1 e2 e3 e4
      obtain ⟨e1,e1'⟩:=e1
      subst e0 e1 e1' e2 e3 e4
      exact ⟨id,AV,vec,cv,A,es,c,AH,hs,ch,al,AP,ps,cp,rfl,hvl,hel,hnl,hhl,hhn,hpl,hpn,hvi,hei,hhi,hpi⟩
end
end Go.Proofs.YtckajeippfpojaaGreat
namespace Go.Proofs.YtckajeippfpojaaGreat
open Go.RowKit Go.Maps
set_option maxRecDepth 100000
theorem Bx.put_else {w:World} {b b' o:Nat} {us vs:List Value} (h:Bx w b us) (hne:b≠b'):Bx (putAll b' o vs w) b us:=fun j hj=>(putAll_other hne).trans (h j hj)
def DvOwn (w:World) (L B:Nat) (AV:Option Addr) (vec:List Int) (A:Option Addr) (es:List En) (AH:Option Addr) (hs:List Mn) (AP:Option Addr) (ps:List Mn):Prop :=
  ∃L1 B1 L2 B2 L3 B3,L≤L1∧B1≤B∧L≤L2∧B2≤B∧L≤L3∧B3≤B∧(B1≤L2∨B2≤L1)∧(B1≤L3∨B3≤L1)∧(B2≤L3∨B3≤L2)∧L1≤B1∧L2≤B2∧L3≤B3∧TrOwn w L1 B1 AV vec A es∧MnsOwn w L2 B2 AH hs∧MnsOwn w L3 B3 AP ps
section
variable {w w':World} {L L' B B':Nat} {AV A AH AP:Option Addr} {vec:List Int} {es:List En} {hs ps:List Mn}
theorem DvOwn.keep (h:DvOwn w L B AV vec A es AH hs AP ps) (hk:∀p:Addr,L≤p.block→p.block < B→w'.cell? p=w.cell? p∧w'.frozen? p=w.frozen? p):DvOwn w' L B AV vec A es AH hs AP ps:=by
  obtain ⟨L1,B1,L2,B2,L3,B3,h1,h2,h3,h4,h5,h6,h7,h8,h9,ha,hb,hc,ht,hh,hp⟩:=h
  exact ⟨L1,B1,L2,B2,L3,B3,h1,h2,h3,h4,h5,h6,h7,h8,h9,ha,hb,hc,ht.keep fun p hp hq=>hk p (by omega) (by omega),hh.keep fun p hp hq=>hk p (by omega) (by omega),hp.keep fun p hp hq=>hk p (by omega) (by omega)⟩
theorem DvOwn.mono (h:DvOwn w L B AV vec A es AH hs AP ps) (hL:L'≤L) (hB:B≤B'):DvOwn w L' B' AV vec A es AH hs AP ps:=by
  obtain ⟨L1,B1,L2,B2,L3,B3,h1,h2,h3,h4,h5,h6,h7,h8,h9,ha,hb,hc,ht,hh,hp⟩:=h
  exact ⟨L1,B1,L2,B2,L3,B3,by omega,by omega,by omega,by omega,by omega,by omega,h7,h8,h9,ha,hb,hc,ht,hh,hp⟩
theorem DvOwn.tree (h:DvOwn w L B AV vec A es AH hs AP ps):TrOwn w L B AV vec A es:=by
  obtain ⟨L1,B1,L2,B2,L3,B3,h1,h2,h3,h4,h5,h6,h7,h8,h9,ha,hb,hc,ht,hh,hp⟩:=h
  exact ht.mono h1 h2
theorem DvOwn.heads (h:DvOwn w L B AV vec A es AH hs AP ps):MnsOwn w L B AH hs:=by
  obtain ⟨L1,B1,L2,B2,L3,B3,h1,h2,h3,h4,h5,h6,h7,h8,h9,ha,hb,hc,ht,hh,hp⟩:=h
  exact hh.mono h3 h4
theorem DvOwn.proof (h:DvOwn w L B AV vec A es AH hs AP ps):MnsOwn w L B AP ps:=by
  obtain ⟨L1,B1,L2,B2,L3,B3,h1,h2,h3,h4,h5,h6,h7,h8,h9,ha,hb,hc,ht,hh,hp⟩:=h
  exact hp.mono h5 h6
end
def dsz (vec:List Int) (es:List En) (hs ps:List Mn):Nat:=(vec.length+(es.length+ebulk es))+((hs.length+mbulk hs)+(ps.length+mbulk ps))
set_option maxHeartbeats 1000000 in
theorem szDevice_any (id:Int) (AV:Option Addr) (vec:List Int) (cv:Nat) (A:Option Addr) (es:List En) (c:Nat) (AH:Option Addr) (hs:List Mn) (ch:Nat) (al:Bool) (AP:Option Addr) (ps:List Mn) (cp:Nat) (left:Int) (w:World) (hA:EnsIn w 0 w.heap.size A es) (hH:MnsIn w 0 w.heap.size AH hs) (hP:MnsIn w 0 w.heap.size AP ps) (hv:vec.length≤9223372036854775807) (hn:es.length≤9223372036854775807) (hbn:∀i (hi:i < es.length),es[i].name.length≤9223372036854775807) (hhl:hs.length≤9223372036854775807) (hhn:MnsSz hs) (hpl:ps.length≤9223372036854775807) (hpn:MnsSz ps) (h0:0≤left) (h1:left≤1048576) :
    Calls Tryz.prog 24 #[.agg #[.int .i64 id,.slice AV vec.length cv,.slice A es.length c,.slice AH hs.length ch,.bool al,.slice AP ps.length cp],.int .i64 left] w fun e w'=>∃r:Int,e=.returned (.int .i64 r)∧SzOk left (dsz vec es hs ps) r∧Below w.heap.size w w':=by
  have HA:=hd' hA
  have HH:=hd' hH
  have HP:=hd' hP
  have HN:=hd' hbn
  have HNH:=hd' hhn
  have HNP:=hd' hpn
  clear hA hH hP hbn hhn hpn
  go_enter Tryz.func24,Tryz.ntmps24
  go_wp2_with fail
  obtain ⟨W1_0,hW1_0⟩:∃x,x=w.alloc (.cells #[.int .i64 id,.slice AV vec.length cv,.slice A es.length c,.slice AH hs.length ch,.bool al,.slice AP ps.length cp] 52):=⟨_,rfl⟩
  have hZ1_0:W1_0.heap.size=w.heap.size+1:=by rw [hW1_0];simp
  have hx0:Bx W1_0 (w.heap.size) [.int .i64 id,.slice AV vec.length cv,.slice A es.length c,.slice AH hs.length ch,.bool al,.slice AP ps.length cp]:=by rw [hW1_0];exact Bx.new' _ _ _ _ rfl
  have hb0:Below w.heap.size w W1_0:=by rw [hW1_0];exact ((Below.refl _ _).alloc (by first|exact Nat.le_refl _|(simp;done)|(simp;omega)) _)
  have hlt:w.heap.size+0 < W1_0.heap.size:=by omega
  rw [←hW1_0]
  clear hW1_0 hZ1_0
  have z_2:=hb0.size
  have Hbel_3:=hd' (hb0)
  have HD_4:=hd' (hx0)
  clear hb0 hx0
  have hl_5:=hlt
  clear hlt
  refine (szTree_any AV vec cv A es c left W1_0 ((HA.out.keep fun p _ hp=>Hbel_3.out.cell hp).mono (by omega)) hv hn HN.out h0 h1).mono ?_
  rintro e w1 ⟨r1,rfl,hsz,hb⟩
  have z_6:=hb.size
  have Hbel_7:=hd' (Hbel_3.out.trans (hb.mono (by omega)))
  have HD_8:=hd' (HD_4.out.below hb (by omega))
  clear Hbel_3 HD_4
  clear hb
  have HS1:=hd' (show SzOk left (vec.length+(es.length+ebulk es)) r1 from hsz)
  clear hsz
  by_cases hr1:r1 < 0
  case pos =>
    go_wp2_with fail
    go_ret
    exact ⟨-1,rfl,.inl rfl,Hbel_7.out⟩
  have p1:0≤r1:=by omega
  have q1:r1≤1048576:=by have:=HS1.out;unfold SzOk at this;omega
  have qD_0:=HD_8.out 0 (by simp)
  have qD_1:=HD_8.out 1 (by simp)
  have qD_2:=HD_8.out 2 (by simp)
  have qD_3:=HD_8.out 3 (by simp)
  have qD_4:=HD_8.out 4 (by simp)
  have qD_5:=HD_8.out 5 (by simp)
  have lD:w.heap.size < w1.heap.size:=by omega
  simp only [List.getElem_cons_succ,List.getElem_cons_zero] at qD_0 qD_1 qD_2 qD_3 qD_4 qD_5
  go_wp2_with fail
  refine (szManifestS_any AH hs ch r1 w1 ((HH.out.keep fun p _ hp=>Hbel_7.out.cell hp).mono (by omega)) hhl HNH.out p1 q1).mono ?_
  rintro e w2 ⟨r2,rfl,hsz,hb⟩
  clear qD_0 qD_1 qD_2 qD_3 qD_4 qD_5 lD
  have z_9:=hb.size
  have Hbel_10:=hd' (Hbel_7.out.trans (hb.mono (by omega)))
  have HD_11:=hd' (HD_8.out.below hb (by omega))
  clear Hbel_7 HD_8
  clear hb
  have HS2:=hd' (show SzOk r1 (hs.length+mbulk hs) r2 from hsz)
  clear hsz
  by_cases hr2:r2 < 0
  case pos =>
    go_wp2_with fail
    go_ret
    exact ⟨-1,rfl,.inl rfl,Hbel_10.out⟩
  have p2:0≤r2:=by omega
  have q2:r2≤1048576:=by have:=HS2.out;unfold SzOk at this;omega
  have qD_0:=HD_11.out 0 (by simp)
  have qD_1:=HD_11.out 1 (by simp)
  have qD_2:=HD_11.out 2 (by simp)
  have qD_3:=HD_11.out 3 (by simp)
  have qD_4:=HD_11.out 4 (by simp)
  have qD_5:=HD_11.out 5 (by simp)
  have lD:w.heap.size < w2.heap.size:=by omega
  simp only [List.getElem_cons_succ,List.getElem_cons_zero] at qD_0 qD_1 qD_2 qD_3 qD_4 qD_5
  go_wp2_with fail
  refine (szManifestS_any AP ps cp r2 w2 ((HP.out.keep fun p _ hp=>Hbel_10.out.cell hp).mono (by omega)) hpl HNP.out p2 q2).mono ?_
  rintro e w3 ⟨r3,rfl,hsz,hb⟩
  clear qD_0 qD_1 qD_2 qD_3 qD_4 qD_5 lD
  have z_12:=hb.size
  have Hbel_13:=hd' (Hbel_10.out.trans (hb.mono (by omega)))
  have HD_14:=hd' (HD_11.out.below hb (by omega))
  clear Hbel_10 HD_11
  clear hb
  have HS3:=hd' (show SzOk r2 (ps.length+mbulk ps) r3 from hsz)
  clear hsz
  by_cases hr3:r3 < 0
  case pos =>
    go_wp2_with fail
    go_ret
    exact ⟨-1,rfl,.inl rfl,Hbel_13.out⟩
  have p3:0≤r3:=by omega
  have q3:r3≤1048576:=by have:=HS3.out;unfold SzOk at this;omega
  have HF:=hd' (show SzOk left (dsz vec es hs ps) r3 by
    have a1:=HS1.out
    have a2:=HS2.out
    have a3:=HS3.out
    unfold SzOk dsz at *
    omega)
  go_wp2_with fail
  go_ret
  exact ⟨r3,rfl,HF.out,Hbel_13.out⟩
set_option maxHeartbeats 2000000 in
theorem toDevice_own (id:Int) (AV:Option Addr) (vec:List Int) (cv:Nat) (A:Option Addr) (es:List En) (c:Nat) (AH:Option Addr) (hs:List Mn) (ch:Nat) (al:Bool) (AP:Option Addr) (ps:List Mn) (cp:Nat) (w:World) (hV:IntsIn w 0 w.heap.size AV vec) (hA:EnsIn w 0 w.heap.size A es) (hH:MnsIn w 0 w.heap.size AH hs) (hP:MnsIn w 0 w.heap.size AP ps) (hv:vec.length≤1048576) (hn:es.length≤1048576) (hbk:ebulk es≤1048576) (hhl:hs.length≤1048576) (hhb:mbulk hs≤1048576) (hpl:ps.length≤1048576) (hpb:mbulk ps≤1048576) :
    Calls Tryz.prog 26 #[.agg #[.int .i64 id,.slice AV vec.length cv,.slice A es.length c,.slice AH hs.length ch,.bool al,.slice AP ps.length cp]] w fun e w'=>∃gv ge gh gp,e=.returned (.agg #[.int .i64 id,.slice (some ⟨gv,0,none⟩) vec.length vec.length,.slice (some ⟨ge,0,none⟩) es.length es.length,.slice (some ⟨gh,0,none⟩) hs.length hs.length,.bool al,.slice (some ⟨gp,0,none⟩) ps.length ps.length])∧w.heap.size < w'.heap.size∧DvOwn w' w.heap.size w'.heap.size (some ⟨gv,0,none⟩) vec (some ⟨ge,0,none⟩) es (some ⟨gh,0,none⟩) hs (some ⟨gp,0,none⟩) ps∧Below w.heap.size w w':=by
  have HV:=hd' hV
  have HA:=hd' hA
  have HH:=hd' hH
  have HP:=hd' hP
  clear hV hA hH hP
  go_enter Tryz.func26,Tryz.ntmps26
  go_wp2_with fail
  obtain ⟨W1_0,hW1_0⟩:∃x,x=w.alloc (.cells #[.int .i64 id,.slice AV vec.length cv,.slice A es.length c,.slice AH hs.length ch,.bool al,.slice AP ps.length cp] 52):=⟨_,rfl⟩
  obtain ⟨W1_1,hW1_1⟩:∃x,x=W1_0.alloc (.cells #[.int .i64 0,.slice none 0 0,.slice none 0 0,.slice none 0 0,.bool false,.slice none 0 0] 57):=⟨_,rfl⟩
  obtain ⟨W1_2,hW1_2⟩:∃x,x=W1_1.alloc (.cells #[.int .i64 id,.slice none 0 0,.slice none 0 0,.slice none 0 0,.bool false,.slice none 0 0] 57):=⟨_,rfl⟩
  have hZ1_0:W1_0.heap.size=w.heap.size+1:=by rw [hW1_0];simp
  have hZ1_1:W1_1.heap.size=w.heap.size+2:=by rw [hW1_1];simp [hZ1_0]
  have hZ1_2:W1_2.heap.size=w.heap.size+3:=by rw [hW1_2];simp [hZ1_1]
  have hx0:Bx W1_0 (w.heap.size) [.int .i64 id,.slice AV vec.length cv,.slice A es.length c,.slice AH hs.length ch,.bool al,.slice AP ps.length cp]:=by rw [hW1_0];exact Bx.new' _ _ _ _ rfl
  replace hx0:Bx W1_1 (w.heap.size) [.int .i64 id,.slice AV vec.length cv,.slice A es.length c,.slice AH hs.length ch,.bool al,.slice AP ps.length cp]:=by rw [hW1_1];exact hx0.alloc (by omega) _
  replace hx0:Bx W1_2 (w.heap.size) [.int .i64 id,.slice AV vec.length cv,.slice A es.length c,.slice AH hs.length ch,.bool al,.slice AP ps.length cp]:=by rw [hW1_2];exact hx0.alloc (by omega) _
  have hx1:Bx W1_1 (w.heap.size+1) [.int .i64 0,.slice none 0 0,.slice none 0 0,.slice none 0 0,.bool false,.slice none 0 0]:=by rw [hW1_1,←hZ1_0];exact Bx.new' _ _ _ _ rfl
  replace hx1:Bx W1_2 (w.heap.size+1) [.int .i64 0,.slice none 0 0,.slice none 0 0,.slice none 0 0,.bool false,.slice none 0 0]:=by rw [hW1_2];exact hx1.alloc (by omega) _
  have hx2:Bx W1_2 (w.heap.size+2) [.int .i64 id,.slice none 0 0,.slice none 0 0,.slice none 0 0,.bool false,.slice none 0 0]:=by rw [hW1_2,←hZ1_1];exact Bx.new' _ _ _ _ rfl
  have hb0:Below w.heap.size w W1_2:=by rw [hW1_2,hW1_1,hW1_0];exact ((((Below.refl _ _).alloc (by first|exact Nat.le_refl _|(simp;done)|(simp;omega)) _).alloc (by first|exact Nat.le_refl _|(simp;done)|(simp;omega)) _).alloc (by first|exact Nat.le_refl _|(simp;done)|(simp;omega)) _)
  have hf1:∀o,W1_2.frozen? ⟨w.heap.size+1,o,none⟩=false:=fun o=>by rw [hW1_2,hW1_1,hW1_0];exact ((((Fresh.refl w).alloc _ _).alloc _ _).alloc _ _) ⟨w.heap.size+1,o,none⟩ (by show w.heap.size≤w.heap.size+1;omega)
  have hf2:∀o,W1_2.frozen? ⟨w.heap.size+2,o,none⟩=false:=fun o=>by rw [hW1_2,hW1_1,hW1_0];exact ((((Fresh.refl w).alloc _ _).alloc _ _).alloc _ _) ⟨w.heap.size+2,o,none⟩ (by show w.heap.size≤w.heap.size+2;omega)
  have hlt:w.heap.size+2 < W1_2.heap.size:=by omega
  rw [←hW1_0,←hW1_1,←hW1_2]
  clear hW1_0 hZ1_0 hW1_1 hZ1_1 hW1_2 hZ1_2
  have z_2:=hb0.size
  have Hbel_3:=hd' (hb0)
  have HD_4:=hd' (hx0)
  have HR_5:=hd' (hx1)
  have HRF_6:=hd' (hf1)
  clear hf1
  have HO_7:=hd' (hx2)
  have HOF_8:=hd' (hf2)
  clear hf2
  clear hb0 hx0 hx1 hx2
  have hl_9:=hlt
  clear hlt
  have hW0:W1_2.heap.size≤W1_2.heap.size:=Nat.le_refl _
  refine (toTree_own AV vec cv A es c W1_2 ((HV.out.keep fun p _ hp=>Hbel_3.out.cell hp).mono (by omega)) ((HA.out.keep fun p _ hp=>Hbel_3.out.cell hp).mono (by omega)) hv hn hbk).mono ?_
  rintro e w1 ⟨gv,ge,rfl,_,hown,hb⟩
  have z_10:=hb.size
  have Hbel_11:=hd' (Hbel_3.out.trans (hb.mono (by omega)))
  have HD_12:=hd' (HD_4.out.below hb (by omega))
  have HR_13:=hd' (HR_5.out.below hb (by omega))
  have HRF_14:=hd' (show ∀o,w1.frozen? ⟨w.heap.size+1,o,none⟩=false from fun o=>(hb.frozen (p:=⟨w.heap.size+1,o,none⟩) (by show w.heap.size+1 < _;omega)).trans (HRF_6.out o))
  have HO_15:=hd' (HO_7.out.below hb (by omega))
  have HOF_16:=hd' (show ∀o,w1.frozen? ⟨w.heap.size+2,o,none⟩=false from fun o=>(hb.frozen (p:=⟨w.heap.size+2,o,none⟩) (by show w.heap.size+2 < _;omega)).trans (HOF_8.out o))
  clear Hbel_3 HD_4 HR_5 HRF_6 HO_7 HOF_8
  have Htr_17:=hd' (hown)
  clear hb
  clear hown
  have qD_0:=HD_12.out 0 (by simp)
  have qD_1:=HD_12.out 1 (by simp)
  have qD_2:=HD_12.out 2 (by simp)
  have qD_3:=HD_12.out 3 (by simp)
  have qD_4:=HD_12.out 4 (by simp)
  have qD_5:=HD_12.out 5 (by simp)
  have lD:w.heap.size < w1.heap.size:=by omega
  have qO_0:=HO_15.out 0 (by simp)
  have qO_1:=HO_15.out 1 (by simp)
  have qO_2:=HO_15.out 2 (by simp)
  have qO_3:=HO_15.out 3 (by simp)
  have qO_4:=HO_15.out 4 (by simp)
  have qO_5:=HO_15.out 5 (by simp)
  have lO:w.heap.size+2 < w1.heap.size:=by omega
  have fOF_0:=HOF_16.out 0
  have fOF_1:=HOF_16.out 1
  have fOF_2:=HOF_16.out 2
  have fOF_3:=HOF_16.out 3
  have fOF_4:=HOF_16.out 4
  have fOF_5:=HOF_16.out 5
  simp only [List.getElem_cons_succ,List.getElem_cons_zero] at qD_0 qD_1 qD_2 qD_3 qD_4 qD_5 qO_0 qO_1 qO_2 qO_3 qO_4 qO_5
  go_wp2_with fail
  clear qD_0 qD_1 qD_2 qD_3 qD_4 qD_5 lD qO_0 qO_1 qO_2 qO_3 qO_4 qO_5 lO fOF_0 fOF_1 fOF_2 fOF_3 fOF_4 fOF_5
  obtain ⟨w2,hW18⟩:∃x,x=putAll (w.heap.size+2) 1 [.slice (some ⟨gv,0,none⟩) vec.length vec.length,.slice (some ⟨ge,0,none⟩) es.length es.length] w1:=⟨_,rfl⟩
  have hs18:w2.heap.size=w1.heap.size:=by rw [hW18];exact putAll_size
  have Hbel_19:=hd' (show Below w.heap.size w w2 by rw [hW18];exact putAll_below Hbel_11.out (by omega))
  have HD_20:=hd' (show Bx w2 (w.heap.size) [.int .i64 id,.slice AV vec.length cv,.slice A es.length c,.slice AH hs.length ch,.bool al,.slice AP ps.length cp] by rw [hW18];exact HD_12.out.put_else (by omega))
  have HR_21:=hd' (show Bx w2 (w.heap.size+1) [.int .i64 0,.slice none 0 0,.slice none 0 0,.slice none 0 0,.bool false,.slice none 0 0] by rw [hW18];exact HR_13.out.put_else (by omega))
  have HRF_22:=hd' (show ∀o,w2.frozen? ⟨w.heap.size+1,o,none⟩=false from fun o=>by rw [hW18];exact (putAll_frozen _).trans (HRF_14.out o))
  have HO_23:=hd' (show Bx w2 (w.heap.size+2) [.int .i64 id,.slice (some ⟨gv,0,none⟩) vec.length vec.length,.slice (some ⟨ge,0,none⟩) es.length es.length,.slice none 0 0,.bool false,.slice none 0 0] by rw [hW18];have hq:=HO_15.out.put 1 [.slice (some ⟨gv,0,none⟩) vec.length vec.length,.slice (some ⟨ge,0,none⟩) es.length es.length] (by simp);simpa using hq)
  have HOF_24:=hd' (show ∀o,w2.frozen? ⟨w.heap.size+2,o,none⟩=false from fun o=>by rw [hW18];exact (putAll_frozen _).trans (HOF_16.out o))
  have Htr_25:=hd' (show TrOwn w2 W1_2.heap.size w1.heap.size (some ⟨gv,0,none⟩) vec (some ⟨ge,0,none⟩) es by rw [hW18];exact Htr_17.out.keep fun p hp hq=>⟨putAll_other (by omega),putAll_frozen _⟩)
  simp only [putAll] at hW18
  rw [←hW18]
  have z_26:w1.heap.size≤w2.heap.size:=Nat.le_of_eq hs18.symm
  clear hW18 hs18 Hbel_11 HD_12 HR_13 HRF_14 HO_15 HOF_16 Htr_17
  refine (toManifestS_own AH hs ch w2 ((HH.out.keep fun p _ hp=>Hbel_19.out.cell hp).mono (by omega)) hhl hhb).mono ?_
  rintro e w3 ⟨gh,rfl,_,hown,hb⟩
  have z_27:=hb.size
  have Hbel_28:=hd' (Hbel_19.out.trans (hb.mono (by omega)))
  have HD_29:=hd' (HD_20.out.below hb (by omega))
  have HR_30:=hd' (HR_21.out.below hb (by omega))
  have HRF_31:=hd' (show ∀o,w3.frozen? ⟨w.heap.size+1,o,none⟩=false from fun o=>(hb.frozen (p:=⟨w.heap.size+1,o,none⟩) (by show w.heap.size+1 < _;omega)).trans (HRF_22.out o))
  have HO_32:=hd' (HO_23.out.below hb (by omega))
  have HOF_33:=hd' (show ∀o,w3.frozen? ⟨w.heap.size+2,o,none⟩=false from fun o=>(hb.frozen (p:=⟨w.heap.size+2,o,none⟩) (by show w.heap.size+2 < _;omega)).trans (HOF_24.out o))
  have Htr_34:=hd' (show TrOwn w3 W1_2.heap.size w1.heap.size (some ⟨gv,0,none⟩) vec (some ⟨ge,0,none⟩) es from Htr_25.out.keep fun p hp hq=>⟨hb.cell (by omega),hb.frozen (by omega)⟩)
  clear Hbel_19 HD_20 HR_21 HRF_22 HO_23 HOF_24 Htr_25
  have Hmh_35:=hd' (hown)
  clear hb
  clear hown
  have qD_0:=HD_29.out 0 (by simp)
  have qD_1:=HD_29.out 1 (by simp)
  have qD_2:=HD_29.out 2 (by simp)
  have qD_3:=HD_29.out 3 (by simp)
  have qD_4:=HD_29.out 4 (by simp)
  have qD_5:=HD_29.out 5 (by simp)
  have lD:w.heap.size < w3.heap.size:=by omega
  have qO_0:=HO_32.out 0 (by simp)
  have qO_1:=HO_32.out 1 (by simp)
  have qO_2:=HO_32.out 2 (by simp)
  have qO_3:=HO_32.out 3 (by simp)
  have qO_4:=HO_32.out 4 (by simp)
  have qO_5:=HO_32.out 5 (by simp)
  have lO:w.heap.size+2 < w3.heap.size:=by omega
  have fOF_0:=HOF_33.out 0
  have fOF_1:=HOF_33.out 1
  have fOF_2:=HOF_33.out 2
  have fOF_3:=HOF_33.out 3
  have fOF_4:=HOF_33.out 4
  have fOF_5:=HOF_33.out 5
  simp only [List.getElem_cons_succ,List.getElem_cons_zero] at qD_0 qD_1 qD_2 qD_3 qD_4 qD_5 qO_0 qO_1 qO_2 qO_3 qO_4 qO_5
  go_wp2_with fail
  clear qD_0 qD_1 qD_2 qD_3 qD_4 qD_5 lD qO_0 qO_1 qO_2 qO_3 qO_4 qO_5 lO fOF_0 fOF_1 fOF_2 fOF_3 fOF_4 fOF_5
  obtain ⟨w4,hW36⟩:∃x,x=putAll (w.heap.size+2) 3 [.slice (some ⟨gh,0,none⟩) hs.length hs.length,.bool al] w3:=⟨_,rfl⟩
  have hs36:w4.heap.size=w3.heap.size:=by rw [hW36];exact putAll_size
  have Hbel_37:=hd' (show Below w.heap.size w w4 by rw [hW36];exact putAll_below Hbel_28.out (by omega))
  have HD_38:=hd' (show Bx w4 (w.heap.size) [.int .i64 id,.slice AV vec.length cv,.slice A es.length c,.slice AH hs.length ch,.bool al,.slice AP ps.length cp] by rw [hW36];exact HD_29.out.put_else (by omega))
  have HR_39:=hd' (show Bx w4 (w.heap.size+1) [.int .i64 0,.slice none 0 0,.slice none 0 0,.slice none 0 0,.bool false,.slice none 0 0] by rw [hW36];exact HR_30.out.put_else (by omega))
  have HRF_40:=hd' (show ∀o,w4.frozen? ⟨w.heap.size+1,o,none⟩=false from fun o=>by rw [hW36];exact (putAll_frozen _).trans (HRF_31.out o))
  have HO_41:=hd' (show Bx w4 (w.heap.size+2) [.int .i64 id,.slice (some ⟨gv,0,none⟩) vec.length vec.length,.slice (some ⟨ge,0,none⟩) es.length es.length,.slice (some ⟨gh,0,none⟩) hs.length hs.length,.bool al,.slice none 0 0] by rw [hW36];have hq:=HO_32.out.put 3 [.slice (some ⟨gh,0,none⟩) hs.length hs.length,.bool al] (by simp);simpa using hq)
  have HOF_42:=hd' (show ∀o,w4.frozen? ⟨w.heap.size+2,o,none⟩=false from fun o=>by rw [hW36];exact (putAll_frozen _).trans (HOF_33.out o))
  have Htr_43:=hd' (show TrOwn w4 W1_2.heap.size w1.heap.size (some ⟨gv,0,none⟩) vec (some ⟨ge,0,none⟩) es by rw [hW36];exact Htr_34.out.keep fun p hp hq=>⟨putAll_other (by omega),putAll_frozen _⟩)
  have Hmh_44:=hd' (show MnsOwn w4 w2.heap.size w3.heap.size (some ⟨gh,0,none⟩) hs by rw [hW36];exact Hmh_35.out.keep fun p hp hq=>⟨putAll_other (by omega),putAll_frozen _⟩)
  simp only [putAll] at hW36
  rw [←hW36]
  have z_45:w3.heap.size≤w4.heap.size:=Nat.le_of_eq hs36.symm
  clear hW36 hs36 Hbel_28 HD_29 HR_30 HRF_31 HO_32 HOF_33 Htr_34 Hmh_35
  refine (toManifestS_own AP ps cp w4 ((HP.out.keep fun p _ hp=>Hbel_37.out.cell hp).mono (by omega)) hpl hpb).mono ?_
  rintro e w5 ⟨gp,rfl,_,hown,hb⟩
  have z_46:=hb.size
  have Hbel_47:=hd' (Hbel_37.out.trans (hb.mono (by omega)))
  have HD_48:=hd' (HD_38.out.below hb (by omega))
  have HR_49:=hd' (HR_39.out.below hb (by omega))
  have HRF_50:=hd' (show ∀o,w5.frozen? ⟨w.heap.size+1,o,none⟩=false from fun o=>(hb.frozen (p:=⟨w.heap.size+1,o,none⟩) (by show w.heap.size+1 < _;omega)).trans (HRF_40.out o))
  have HO_51:=hd' (HO_41.out.below hb (by omega))
  have HOF_52:=hd' (show ∀o,w5.frozen? ⟨w.heap.size+2,o,none⟩=false from fun o=>(hb.frozen (p:=⟨w.heap.size+2,o,none⟩) (by show w.heap.size+2 < _;omega)).trans (HOF_42.out o))
  have Htr_53:=hd' (show TrOwn w5 W1_2.heap.size w1.heap.size (some ⟨gv,0,none⟩) vec (some ⟨ge,0,none⟩) es from Htr_43.out.keep fun p hp hq=>⟨hb.cell (by omega),hb.frozen (by omega)⟩)
  have Hmh_54:=hd' (show MnsOwn w5 w2.heap.size w3.heap.size (some ⟨gh,0,none⟩) hs from Hmh_44.out.keep fun p hp hq=>⟨hb.cell (by omega),hb.frozen (by omega)⟩)
  clear Hbel_37 HD_38 HR_39 HRF_40 HO_41 HOF_42 Htr_43 Hmh_44
  have Hmp_55:=hd' (hown)
  clear hb
  clear hown
  have qO_0:=HO_51.out 0 (by simp)
  have qO_1:=HO_51.out 1 (by simp)
  have qO_2:=HO_51.out 2 (by simp)
  have qO_3:=HO_51.out 3 (by simp)
  have qO_4:=HO_51.out 4 (by simp)
  have qO_5:=HO_51.out 5 (by simp)
  have lO:w.heap.size+2 < w5.heap.size:=by omega
  have fOF_0:=HOF_52.out 0
  have fOF_1:=HOF_52.out 1
  have fOF_2:=HOF_52.out 2
  have fOF_3:=HOF_52.out 3
  have fOF_4:=HOF_52.out 4
  have fOF_5:=HOF_52.out 5
  have qR_0:=HR_49.out 0 (by simp)
  have qR_1:=HR_49.out 1 (by simp)
  have qR_2:=HR_49.out 2 (by simp)
  have qR_3:=HR_49.out 3 (by simp)
  have qR_4:=HR_49.out 4 (by simp)
  have qR_5:=HR_49.out 5 (by simp)
  have lR:w.heap.size+1 < w5.heap.size:=by omega
  have fRF_0:=HRF_50.out 0
  have fRF_1:=HRF_50.out 1
  have fRF_2:=HRF_50.out 2
  have fRF_3:=HRF_50.out 3
  have fRF_4:=HRF_50.out 4
  have fRF_5:=HRF_50.out 5
  simp only [List.getElem_cons_succ,List.getElem_cons_zero] at qO_0 qO_1 qO_2 qO_3 qO_4 qO_5 qR_0 qR_1 qR_2 qR_3 qR_4 qR_5
  go_wp2_with fail
  clear qO_0 qO_1 qO_2 qO_3 qO_4 qO_5 lO fOF_0 fOF_1 fOF_2 fOF_3 fOF_4 fOF_5 qR_0 qR_1 qR_2 qR_3 qR_4 qR_5 lR fRF_0 fRF_1 fRF_2 fRF_3 fRF_4 fRF_5
  obtain ⟨w6,hW56⟩:∃x,x=putAll (w.heap.size+2) 5 [.slice (some ⟨gp,0,none⟩) ps.length ps.length] w5:=⟨_,rfl⟩
  have hs56:w6.heap.size=w5.heap.size:=by rw [hW56];exact putAll_size
  have Hbel_57:=hd' (show Below w.heap.size w w6 by rw [hW56];exact putAll_below Hbel_47.out (by omega))
  have HD_58:=hd' (show Bx w6 (w.heap.size) [.int .i64 id,.slice AV vec.length cv,.slice A es.length c,.slice AH hs.length ch,.bool al,.slice AP ps.length cp] by rw [hW56];exact HD_48.out.put_else (by omega))
  have HR_59:=hd' (show Bx w6 (w.heap.size+1) [.int .i64 0,.slice none 0 0,.slice none 0 0,.slice none 0 0,.bool false,.slice none 0 0] by rw [hW56];exact HR_49.out.put_else (by omega))
  have HRF_60:=hd' (show ∀o,w6.frozen? ⟨w.heap.size+1,o,none⟩=false from fun o=>by rw [hW56];exact (putAll_frozen _).trans (HRF_50.out o))
  have HO_61:=hd' (show Bx w6 (w.heap.size+2) [.int .i64 id,.slice (some ⟨gv,0,none⟩) vec.length vec.length,.slice (some ⟨ge,0,none⟩) es.length es.length,.slice (some ⟨gh,0,none⟩) hs.length hs.length,.bool al,.slice (some ⟨gp,0,none⟩) ps.length ps.length] by rw [hW56];have hq:=HO_51.out.put 5 [.slice (some ⟨gp,0,none⟩) ps.length ps.length] (by simp);simpa using hq)
  have HOF_62:=hd' (show ∀o,w6.frozen? ⟨w.heap.size+2,o,none⟩=false from fun o=>by rw [hW56];exact (putAll_frozen _).trans (HOF_52.out o))
  have Htr_63:=hd' (show TrOwn w6 W1_2.heap.size w1.heap.size (some ⟨gv,0,none⟩) vec (some ⟨ge,0,none⟩) es by rw [hW56];exact Htr_53.out.keep fun p hp hq=>⟨putAll_other (by omega),putAll_frozen _⟩)
  have Hmh_64:=hd' (show MnsOwn w6 w2.heap.size w3.heap.size (some ⟨gh,0,none⟩) hs by rw [hW56];exact Hmh_54.out.keep fun p hp hq=>⟨putAll_other (by omega),putAll_frozen _⟩)
  have Hmp_65:=hd' (show MnsOwn w6 w4.heap.size w5.heap.size (some ⟨gp,0,none⟩) ps by rw [hW56];exact Hmp_55.out.keep fun p hp hq=>⟨putAll_other (by omega),putAll_frozen _⟩)
  simp only [putAll] at hW56
  rw [←hW56]
  have z_66:w5.heap.size≤w6.heap.size:=Nat.le_of_eq hs56.symm
  clear hW56 hs56 Hbel_47 HD_48 HR_49 HRF_50 HO_51 HOF_52 Htr_53 Hmh_54 Hmp_55
  obtain ⟨w7,hW67⟩:∃x,x=putAll (w.heap.size+1) 0 [.int .i64 id,.slice (some ⟨gv,0,none⟩) vec.length vec.length,.slice (some ⟨ge,0,none⟩) es.length es.length,.slice (some ⟨gh,0,none⟩) hs.length hs.length,.bool al,.slice (some ⟨gp,0,none⟩) ps.length ps.length] w6:=⟨_,rfl⟩
  have hs67:w7.heap.size=w6.heap.size:=by rw [hW67];exact putAll_size
  have Hbel_68:=hd' (show Below w.heap.size w w7 by rw [hW67];exact putAll_below Hbel_57.out (by omega))
  have HD_69:=hd' (show Bx w7 (w.heap.size) [.int .i64 id,.slice AV vec.length cv,.slice A es.length c,.slice AH hs.length ch,.bool al,.slice AP ps.length cp] by rw [hW67];exact HD_58.out.put_else (by omega))
  have HR_70:=hd' (show Bx w7 (w.heap.size+1) [.int .i64 id,.slice (some ⟨gv,0,none⟩) vec.length vec.length,.slice (some ⟨ge,0,none⟩) es.length es.length,.slice (some ⟨gh,0,none⟩) hs.length hs.length,.bool al,.slice (some ⟨gp,0,none⟩) ps.length ps.length] by rw [hW67];have hq:=HR_59.out.put 0 [.int .i64 id,.slice (some ⟨gv,0,none⟩) vec.length vec.length,.slice (some ⟨ge,0,none⟩) es.length es.length,.slice (some ⟨gh,0,none⟩) hs.length hs.length,.bool al,.slice (some ⟨gp,0,none⟩) ps.length ps.length] (by simp);simpa using hq)
  have HRF_71:=hd' (show ∀o,w7.frozen? ⟨w.heap.size+1,o,none⟩=false from fun o=>by rw [hW67];exact (putAll_frozen _).trans (HRF_60.out o))
  have HO_72:=hd' (show Bx w7 (w.heap.size+2) [.int .i64 id,.slice (some ⟨gv,0,none⟩) vec.length vec.length,.slice (some ⟨ge,0,none⟩) es.length es.length,.slice (some ⟨gh,0,none⟩) hs.length hs.length,.bool al,.slice (some ⟨gp,0,none⟩) ps.length ps.length] by rw [hW67];exact HO_61.out.put_else (by omega))
  have HOF_73:=hd' (show ∀o,w7.frozen? ⟨w.heap.size+2,o,none⟩=false from fun o=>by rw [hW67];exact (putAll_frozen _).trans (HOF_62.out o))
  have Htr_74:=hd' (show TrOwn w7 W1_2.heap.size w1.heap.size (some ⟨gv,0,none⟩) vec (some ⟨ge,0,none⟩) es by rw [hW67];exact Htr_63.out.keep fun p hp hq=>⟨putAll_other (by omega),putAll_frozen _⟩)
  have Hmh_75:=hd' (show MnsOwn w7 w2.heap.size w3.heap.size (some ⟨gh,0,none⟩) hs by rw [hW67];exact Hmh_64.out.keep fun p hp hq=>⟨putAll_other (by omega),putAll_frozen _⟩)
  have Hmp_76:=hd' (show MnsOwn w7 w4.heap.size w5.heap.size (some ⟨gp,0,none⟩) ps by rw [hW67];exact Hmp_65.out.keep fun p hp hq=>⟨putAll_other (by omega),putAll_frozen _⟩)
  simp only [putAll] at hW67
  rw [←hW67]
  have z_77:w6.heap.size≤w7.heap.size:=Nat.le_of_eq hs67.symm
  clear hW67 hs67 Hbel_57 HD_58 HR_59 HRF_60 HO_61 HOF_62 Htr_63 Hmh_64 Hmp_65
  have qR_0:=HR_70.out 0 (by simp)
  have qR_1:=HR_70.out 1 (by simp)
  have qR_2:=HR_70.out 2 (by simp)
  have qR_3:=HR_70.out 3 (by simp)
  have qR_4:=HR_70.out 4 (by simp)
  have qR_5:=HR_70.out 5 (by simp)
  have lR:w.heap.size+1 < w7.heap.size:=by omega
  simp only [List.getElem_cons_succ,List.getElem_cons_zero] at qR_0 qR_1 qR_2 qR_3 qR_4 qR_5
  have HD:=hd' (show DvOwn w7 w.heap.size w7.heap.size (some ⟨gv,0,none⟩) vec (some ⟨ge,0,none⟩) es (some ⟨gh,0,none⟩) hs (some ⟨gp,0,none⟩) ps from ⟨_,_,_,_,_,_,by omega,by omega,by omega,by omega,by omega,by omega,.inl (by omega),.inl (by omega),.inl (by omega),by omega,by omega,by omega,Htr_74.out,Hmh_75.out,Hmp_76.out⟩)
  refine bodyPost_ret (v:=.agg #[.int .i64 id,.slice (some ⟨gv,0,none⟩) vec.length vec.length,.slice (some ⟨ge,0,none⟩) es.length es.length,.slice (some ⟨gh,0,none⟩) hs.length hs.length,.bool al,.slice (some ⟨gp,0,none⟩) ps.length ps.length]) (by simp [results,Tryz.results26,qR_0,qR_1,qR_2,qR_3,qR_4,qR_5,go_sem]) rfl ⟨gv,ge,gh,gp,rfl,by omega,HD.out,Hbel_68.out⟩
set_option maxHeartbeats 2000000 in
theorem eqDevice_same (id:Int) (AV AV' A A' AH AH' AP AP':Option Addr) (vec:List Int) (es:List En) (hs ps:List Mn) (al:Bool) (cv cv' c c' ch ch' cp cp' L L' B B':Nat) (w:World) (h:DvOwn w L B AV vec A es AH hs AP ps) (h':DvOwn w L' B' AV' vec A' es AH' hs AP' ps) (hB:B≤w.heap.size) (hB':B'≤w.heap.size) (hv:vec.length≤1048576) (hn:es.length≤1048576) (hbk:ebulk es≤1048576) (hhl:hs.length≤1048576) (hhb:mbulk hs≤1048576) (hpl:ps.length≤1048576) (hpb:mbulk ps≤1048576) :
    Calls Tryz.prog 28 #[.agg #[.int .i64 id,.slice AV vec.length cv,.slice A es.length c,.slice AH hs.length ch,.bool al,.slice AP ps.length cp],.agg #[.int .i64 id,.slice AV' vec.length cv',.slice A' es.length c',.slice AH' hs.length ch',.bool al,.slice AP' ps.length cp']] w fun e w'=>e=.returned (.bool true)∧Below w.heap.size w w':=by
  have HT:=hd' h
  have HT':=hd' h'
  clear h h'
  have e1:(id != id)=false:=by simp
  have e2:(al != al)=false:=by simp
  go_enter Tryz.func28,Tryz.ntmps28
  go_wp2_with fail
  obtain ⟨W1_0,hW1_0⟩:∃x,x=w.alloc (.cells #[.int .i64 id,.slice AV vec.length cv,.slice A es.length c,.slice AH hs.length ch,.bool al,.slice AP ps.length cp] 57):=⟨_,rfl⟩
  obtain ⟨W1_1,hW1_1⟩:∃x,x=W1_0.alloc (.cells #[.int .i64 id,.slice AV' vec.length cv',.slice A' es.length c',.slice AH' hs.length ch',.bool al,.slice AP' ps.length cp'] 57):=⟨_,rfl⟩
  have hZ1_0:W1_0.heap.size=w.heap.size+1:=by rw [hW1_0];simp
  have hZ1_1:W1_1.heap.size=w.heap.size+2:=by rw [hW1_1];simp [hZ1_0]
  have hx0:Bx W1_0 (w.heap.size) [.int .i64 id,.slice AV vec.length cv,.slice A es.length c,.slice AH hs.length ch,.bool al,.slice AP ps.length cp]:=by rw [hW1_0];exact Bx.new' _ _ _ _ rfl
  replace hx0:Bx W1_1 (w.heap.size) [.int .i64 id,.slice AV vec.length cv,.slice A es.length c,.slice AH hs.length ch,.bool al,.slice AP ps.length cp]:=by rw [hW1_1];exact hx0.alloc (by omega) _
  have hx1:Bx W1_1 (w.heap.size+1) [.int .i64 id,.slice AV' vec.length cv',.slice A' es.length c',.slice AH' hs.length ch',.bool al,.slice AP' ps.length cp']:=by rw [hW1_1,←hZ1_0];exact Bx.new' _ _ _ _ rfl
  have hb0:Below w.heap.size w W1_1:=by rw [hW1_1,hW1_0];exact (((Below.refl _ _).alloc (by first|exact Nat.le_refl _|(simp;done)|(simp;omega)) _).alloc (by first|exact Nat.le_refl _|(simp;done)|(simp;omega)) _)
  have hlt:w.heap.size+1 < W1_1.heap.size:=by omega
  rw [←hW1_0,←hW1_1]
  clear hW1_0 hZ1_0 hW1_1 hZ1_1
  have z_2:=hb0.size
  have Hbel_3:=hd' (hb0)
  have HX_4:=hd' (hx0)
  have HY_5:=hd' (hx1)
  clear hb0 hx0 hx1
  have hl_6:=hlt
  clear hlt
  refine (eqTree_same AV AV' A A' vec es cv cv' c c' L L' B B' W1_1 (HT.out.tree.keep fun p _ hp=>⟨Hbel_3.out.cell (by omega),Hbel_3.out.frozen (by omega)⟩) (HT'.out.tree.keep fun p _ hp=>⟨Hbel_3.out.cell (by omega),Hbel_3.out.frozen (by omega)⟩) (by omega) (by omega) hv hn hbk).mono ?_
  rintro e w1 ⟨rfl,hb⟩
  have z_7:=hb.size
  have Hbel_8:=hd' (Hbel_3.out.trans (hb.mono (by omega)))
  have HX_9:=hd' (HX_4.out.below hb (by omega))
  have HY_10:=hd' (HY_5.out.below hb (by omega))
  clear Hbel_3 HX_4 HY_5
  clear hb
  have qX_0:=HX_9.out 0 (by simp)
  have qX_1:=HX_9.out 1 (by simp)
  have qX_2:=HX_9.out 2 (by simp)
  have qX_3:=HX_9.out 3 (by simp)
  have qX_4:=HX_9.out 4 (by simp)
  have qX_5:=HX_9.out 5 (by simp)
  have lX:w.heap.size < w1.heap.size:=by omega
  have qY_0:=HY_10.out 0 (by simp)
  have qY_1:=HY_10.out 1 (by simp)
  have qY_2:=HY_10.out 2 (by simp)
  have qY_3:=HY_10.out 3 (by simp)
  have qY_4:=HY_10.out 4 (by simp)
  have qY_5:=HY_10.out 5 (by simp)
  have lY:w.heap.size+1 < w1.heap.size:=by omega
  simp only [List.getElem_cons_succ,List.getElem_cons_zero] at qX_0 qX_1 qX_2 qX_3 qX_4 qX_5 qY_0 qY_1 qY_2 qY_3 qY_4 qY_5
  go_wp2_with fail
  refine (eqManifestS_same AH AH' hs ch ch' L L' B B' w1 (HT.out.heads.keep fun p _ hp=>⟨Hbel_8.out.cell (by omega),Hbel_8.out.frozen (by omega)⟩) (HT'.out.heads.keep fun p _ hp=>⟨Hbel_8.out.cell (by omega),Hbel_8.out.frozen (by omega)⟩) (by omega) (by omega) hhl hhb).mono ?_
  rintro e w2 ⟨rfl,hb⟩
  clear qX_0 qX_1 qX_2 qX_3 qX_4 qX_5 lX qY_0 qY_1 qY_2 qY_3 qY_4 qY_5 lY
  have z_11:=hb.size
  have Hbel_12:=hd' (Hbel_8.out.trans (hb.mono (by omega)))
  have HX_13:=hd' (HX_9.out.below hb (by omega))
  have HY_14:=hd' (HY_10.out.below hb (by omega))
  clear Hbel_8 HX_9 HY_10
  clear hb
  have qX_0:=HX_13.out 0 (by simp)
  have qX_1:=HX_13.out 1 (by simp)
  have qX_2:=HX_13.out 2 (by simp)
  have qX_3:=HX_13.out 3 (by simp)
  have qX_4:=HX_13.out 4 (by simp)
  have qX_5:=HX_13.out 5 (by simp)
  have lX:w.heap.size < w2.heap.size:=by omega
  have qY_0:=HY_14.out 0 (by simp)
  have qY_1:=HY_14.out 1 (by simp)
  have qY_2:=HY_14.out 2 (by simp)
  have qY_3:=HY_14.out 3 (by simp)
  have qY_4:=HY_14.out 4 (by simp)
  have qY_5:=HY_14.out 5 (by simp)
  have lY:w.heap.size+1 < w2.heap.size:=by omega
  simp only [List.getElem_cons_succ,List.getElem_cons_zero] at qX_0 qX_1 qX_2 qX_3 qX_4 qX_5 qY_0 qY_1 qY_2 qY_3 qY_4 qY_5
  go_wp2_with fail
  refine (eqManifestS_same AP AP' ps cp cp' L L' B B' w2 (HT.out.proof.keep fun p _ hp=>⟨Hbel_12.out.cell (by omega),Hbel_12.out.frozen (by omega)⟩) (HT'.out.proof.keep fun p _ hp=>⟨Hbel_12.out.cell (by omega),Hbel_12.out.frozen (by omega)⟩) (by omega) (by omega) hpl hpb).mono ?_
  rintro e w3 ⟨rfl,hb⟩
  clear qX_0 qX_1 qX_2 qX_3 qX_4 qX_5 lX qY_0 qY_1 qY_2 qY_3 qY_4 qY_5 lY
  have z_15:=hb.size
  have Hbel_16:=hd' (Hbel_12.out.trans (hb.mono (by omega)))
  have HX_17:=hd' (HX_13.out.below hb (by omega))
  have HY_18:=hd' (HY_14.out.below hb (by omega))
  clear Hbel_12 HX_13 HY_14
  clear hb
  go_wp2_with fail
  go_ret
  exact ⟨rfl,Hbel_16.out⟩
end Go.Proofs.YtckajeippfpojaaGreat
