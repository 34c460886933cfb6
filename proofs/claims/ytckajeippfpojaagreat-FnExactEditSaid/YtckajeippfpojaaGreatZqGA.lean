import Derived.WalkKit
import Derived.WalkSpells
import Derived.WalkLawsBesides
import Derived.Lib.Hide
import Derived.Deep.Draws
import Derived.Test.YtckajeippfpojaaGreatRows
import Derived.ProofKit
import Derived.SizedLaws
import Derived.Deep.Slices
import Derived.Deep.Fields
import Derived.Deep.OwnRows
import Derived.Deep.Heap
import Derived.BigQuiet
import Derived.Deep.QuietTactic
import Derived.StillTailTactics
namespace Go.Proofs.YtckajeippfpojaaGreat
open Go.RowKit
set_option maxRecDepth 100000
theorem hd' {p:Prop} (h:p):Hid p:=Lib.hid h
structure Tm where
  kind:Int
  a:Int
  b:Int
  text:List UInt8
deriving DecidableEq,Inhabited
def BytesIn (w:World) (L B:Nat) (A:Option Addr) (l:List UInt8):Prop :=
  0 < l.length→∃b o,A=some ⟨b,o,none⟩∧L≤b∧b < B∧∀j (hj:j < l.length),w.cell? ⟨b,o+j,none⟩=some (.int .u8 (l[j].toNat:Int))
def TmIn (w:World) (L B:Nat) (b o:Nat) (t:Tm):Prop :=
  ∃A c,w.cell? ⟨b,o,none⟩=some (.int .i64 t.kind)∧w.cell? ⟨b,o+1,none⟩=some (.int .i64 t.a)∧w.cell? ⟨b,o+2,none⟩=some (.int .i64 t.b) ∧
    w.cell? ⟨b,o+3,none⟩=some (.slice A t.text.length c)∧t.text.length≤c∧c≤maxLen∧BytesIn w L B A t.text
def TmsIn (w:World) (L B:Nat) (A:Option Addr) (ts:List Tm):Prop :=
  0 < ts.length→∃b o,A=some ⟨b,o,none⟩∧L≤b∧b < B∧∀i (hi:i < ts.length),TmIn w L B b (o+i*4) ts[i]
section
variable {w w':World} {L L' B B':Nat} {A:Option Addr}
theorem BytesIn.mono {l:List UInt8} (h:BytesIn w L B A l) (hB:B≤B'):BytesIn w L B' A l:=fun hl=>by
  obtain ⟨b,o,e,hL,hb,hc⟩:=h hl
  exact ⟨b,o,e,hL,by omega,hc⟩
theorem BytesIn.low {l:List UInt8} (h:BytesIn w L B A l) (hL':L'≤L):BytesIn w L' B A l:=fun hl=>by
  obtain ⟨b,o,e,hL,hb,hc⟩:=h hl
  exact ⟨b,o,e,by omega,hb,hc⟩
theorem BytesIn.keep {l:List UInt8} (h:BytesIn w L B A l) (hk:∀p:Addr,L≤p.block→p.block < B→w'.cell? p=w.cell? p):BytesIn w' L B A l:=fun hl=>by
  obtain ⟨b,o,e,hL,hb,hc⟩:=h hl
  exact ⟨b,o,e,hL,hb,fun j hj=>(hk _ hL hb).trans (hc j hj)⟩
theorem TmIn.keep {b o:Nat} {t:Tm} (h:TmIn w L B b o t) (hL:L≤b) (hb:b < B) (hk:∀p:Addr,L≤p.block→p.block < B→w'.cell? p=w.cell? p):TmIn w' L B b o t:=by
  obtain ⟨A,c,h0,h1,h2,h3,h4,h5,h6⟩:=h
  exact ⟨A,c,(hk _ hL hb).trans h0,(hk _ hL hb).trans h1,(hk _ hL hb).trans h2,(hk _ hL hb).trans h3,h4,h5,h6.keep hk⟩
theorem TmIn.mono {b o:Nat} {t:Tm} (h:TmIn w L B b o t) (hB:B≤B'):TmIn w L B' b o t:=by
  obtain ⟨A,c,h0,h1,h2,h3,h4,h5,h6⟩:=h
  exact ⟨A,c,h0,h1,h2,h3,h4,h5,h6.mono hB⟩
theorem TmIn.low {b o:Nat} {t:Tm} (h:TmIn w L B b o t) (hL':L'≤L):TmIn w L' B b o t:=by
  obtain ⟨A,c,h0,h1,h2,h3,h4,h5,h6⟩:=h
  exact ⟨A,c,h0,h1,h2,h3,h4,h5,h6.low hL'⟩
theorem TmsIn.keep {ts:List Tm} (h:TmsIn w L B A ts) (hk:∀p:Addr,L≤p.block→p.block < B→w'.cell? p=w.cell? p):TmsIn w' L B A ts:=fun hl=>by
  obtain ⟨b,o,e,hL,hb,hc⟩:=h hl
  exact ⟨b,o,e,hL,hb,fun i hi=>(hc i hi).keep hL hb hk⟩
theorem TmsIn.mono {ts:List Tm} (h:TmsIn w L B A ts) (hB:B≤B'):TmsIn w L B' A ts:=fun hl=>by
  obtain ⟨b,o,e,hL,hb,hc⟩:=h hl
  exact ⟨b,o,e,hL,by omega,fun i hi=>(hc i hi).mono hB⟩
theorem TmsIn.low {ts:List Tm} (h:TmsIn w L B A ts) (hL':L'≤L):TmsIn w L' B A ts:=fun hl=>by
  obtain ⟨b,o,e,hL,hb,hc⟩:=h hl
  exact ⟨b,o,e,by omega,hb,fun i hi=>(hc i hi).low hL'⟩
theorem BytesIn.block {l:List UInt8} {g o:Nat} (h:BytesIn w L B (some ⟨g,o,none⟩) l) (hk:∀j,w'.cell? ⟨g,j,none⟩=w.cell? ⟨g,j,none⟩) (hB:B≤B'):BytesIn w' L B' (some ⟨g,o,none⟩) l:=fun hl=>by
  obtain ⟨b,o',e,hL,hb,hc⟩:=h hl
  simp only [Option.some.injEq,Addr.mk.injEq] at e
  obtain ⟨rfl,rfl,_⟩:=e
  exact ⟨_,_,rfl,hL,by omega,fun j hj=>(hk _).trans (hc j hj)⟩
theorem BytesIn.set {l:List UInt8} (h:BytesIn w L B A l) {p:Addr} (hp:p.block < L) (v:Value):BytesIn (w.setCell p v) L B A l :=
  h.keep fun q hq _=>World.cell?_setCell_other _ _ _ _ (by rintro rfl;omega)
theorem TmsIn.set {ts:List Tm} (h:TmsIn w L B A ts) {p:Addr} (hp:p.block < L) (v:Value):TmsIn (w.setCell p v) L B A ts :=
  h.keep fun q hq _=>World.cell?_setCell_other _ _ _ _ (by rintro rfl;omega)
theorem BytesIn.drew {l:List UInt8} (h:BytesIn w L B A l):BytesIn w.drew L B A l:=h
theorem TmsIn.drew {ts:List Tm} (h:TmsIn w L B A ts):TmsIn w.drew L B A ts:=h
theorem BytesIn.below {l:List UInt8} (h:BytesIn w L B A l) (hb:Below B w w'):BytesIn w' L B A l:=h.keep fun _ _ hp=>hb.cell hp
theorem TmIn.below {b o:Nat} {t:Tm} (h:TmIn w L B b o t) (hL:L≤b) (hlt:b < B) (hb:Below B w w'):TmIn w' L B b o t:=h.keep hL hlt fun _ _ hp=>hb.cell hp
theorem TmsIn.below {ts:List Tm} (h:TmsIn w L B A ts) (hb:Below B w w'):TmsIn w' L B A ts:=h.keep fun _ _ hp=>hb.cell hp
theorem BytesIn.up {l:List UInt8} (h:BytesIn w L w.heap.size A l) (hb:Below w.heap.size w w'):BytesIn w' L w'.heap.size A l:=(h.below hb).mono hb.size
theorem TmsIn.up {ts:List Tm} (h:TmsIn w L w.heap.size A ts) (hb:Below w.heap.size w w'):TmsIn w' L w'.heap.size A ts:=(h.below hb).mono hb.size
end
theorem below_drewN {B:Nat} {a w:World} (h:Below B a w) (n:Nat):Below B a (w.drewN n):=⟨h.os,h.tape,h.output,h.size,h.block⟩
theorem bcell {W w1:World} (hb:Below W.heap.size W w1):(∀b o,b < W.heap.size→w1.cell? ⟨b,o,none⟩=W.cell? ⟨b,o,none⟩)∧(∀b o,b < W.heap.size→w1.frozen? ⟨b,o,none⟩=W.frozen? ⟨b,o,none⟩) :=
  ⟨fun b o h=>hb.cell (p:=⟨b,o,none⟩) h,fun b o h=>hb.frozen (p:=⟨b,o,none⟩) h⟩
theorem ret_bool {a b:Bool} (h:a=b):Ending.returned (.bool a)=Ending.returned (.bool b):=by rw [h]
theorem ret_int {k:IntKind} {a b:Int} (h:a=b):Ending.returned (.int k a)=Ending.returned (.int k b):=by rw [h]
def szB (left n:Int):Int:=if left - n < 0 then -1 else left - n
def SzOk (left n r:Int):Prop:=r = -1∨(0≤r∧r+n=left)
theorem szB_ok (left n:Int):SzOk left n (szB left n):=by
  unfold SzOk szB;split <;> omega
theorem SzOk.neg {left n r:Int} (h:SzOk left n r) (hr:r < 0):r = -1:=by
  unfold SzOk at h;omega
def bulk:List Tm→Nat
  | []=>0
  | t :: ts=>t.text.length+bulk ts
theorem bulk_nil:bulk []=0:=rfl
theorem bulk_append (xs ys:List Tm):bulk (xs++ys)=bulk xs+bulk ys:=by
  induction xs with
  | nil=>simp [bulk]
  | cons x xs ih=>simp [bulk,ih];omega
theorem bulk_take_succ (ts:List Tm) (k:Nat) (h:k < ts.length):bulk (ts.take (k+1))=bulk (ts.take k)+ts[k].text.length:=by
  rw [List.take_succ_eq_append_getElem h,bulk_append]
  simp [bulk]
theorem bulk_take_le (ts:List Tm) (k:Nat):bulk (ts.take k)≤bulk ts:=by
  have h:=bulk_append (ts.take k) (ts.drop k)
  rw [List.take_append_drop] at h
  omega
theorem text_le_bulk (ts:List Tm) (k:Nat) (h:k < ts.length):ts[k].text.length≤bulk ts:=by
  have:=bulk_take_succ ts k h
  have:=bulk_take_le ts (k+1)
  omega
end Go.Proofs.YtckajeippfpojaaGreat
namespace Go.Proofs.YtckajeippfpojaaGreat
open Go.ChangeShapes Go.WideShapes Go.ChangeAt Go.RowKit Go.Deep
set_option maxRecDepth 100000
section
variable {H:Type} {enc:TypeId × Value→H} {W:World} {base:Nat} {sp:Nat→Bool} {held:Bool}
theorem Tryz.laidOut:laidOutB Tryz.prog=true:=by kernel_rfl
theorem Tryz.cellsB:Tryz.prog.cellsOf 5=1:=by kernel_rfl
theorem Tryz.cellsT:Tryz.prog.cellsOf 155=4:=by kernel_rfl
theorem Tryz.cellsL:Tryz.prog.cellsOf 24=1:=by kernel_rfl
theorem Tryz.cellsTS:Tryz.prog.cellsOf 22=1:=by kernel_rfl
theorem Tryz.cellsBS:Tryz.prog.cellsOf 61=1:=by kernel_rfl
theorem Tryz.cellsInt:Tryz.prog.cellsOf 3=1:=by kernel_rfl
theorem byte_nat {z:Int} (h:(Lit.int .u8 z).wf=true):((UInt8.ofNat z.toNat).toNat:Int)=z:=by
  have hz:0≤z∧z≤255:=by simpa [Lit.wf,IntKind.min,IntKind.max,IntKind.signed,IntKind.bits] using h
  rw [UInt8.toNat_ofNat']
  omega
theorem open_bytes {fuel:Nat} {cs:List Value} {x:DataW H × List MemPlace} (h:DataW.trod enc Tryz.prog W base sp held fuel 61 cs=some x) :
    ∃A c l,cs=[.slice A (l:List UInt8).length c]∧l.length≤c∧c≤maxLen∧BytesIn W 0 W.heap.size A l:=by
  rcases open_ints Tryz.underlying61 Tryz.underlying5 Tryz.cellsB h with ⟨rfl,_⟩|⟨a,len,cap,zs,rfl,_,hl,hm,hz,_,hcell,hwz⟩
  · exact ⟨none,0,[],rfl,Nat.le_refl _,by unfold maxLen;omega,fun h=>absurd h (by simp)⟩
  · have hlz:len≤zs.length:=by rw [hz];split <;> omega
    have hlen:((zs.take len).map fun z=>UInt8.ofNat z.toNat).length=len:=by simp;omega
    refine ⟨some a,cap,(zs.take len).map fun z=>UInt8.ofNat z.toNat,by rw [hlen],by omega,hm,fun hpos=>?_⟩
    rw [hlen] at hpos
    have h0:=hcell 0 (by omega)
    obtain ⟨b,off,spot⟩:=a
    have hspot:spot=none:=by simpa [Addr.add] using World.cell?_spot h0
    subst hspot
    have hblk:=World.block_lt_of_cell? W _ h0
    refine ⟨b,off,rfl,Nat.zero_le _,by simpa [Addr.add] using hblk,fun j hj=>?_⟩
    rw [hlen] at hj
    have hc:=hcell j (by omega)
    rw [Addr.add_lit] at hc
    rw [hc]
    have hj':j < zs.length:=by omega
    simp only [List.getElem_map,List.getElem_take,List.getD_eq_getElem?_getD,List.getElem?_eq_getElem hj',Option.getD_some]
    rw [byte_nat (hwz _ (List.getElem_mem hj'))]
theorem open_termCells {fuel:Nat} {cs:List Value} {x:DataW H × List MemPlace} (h:DataW.trod enc Tryz.prog W base sp held fuel 155 cs=some x) :
    ∃(t:Tm) (A:Option Addr) (c:Nat),cs=[.int .i64 t.kind,.int .i64 t.a,.int .i64 t.b,.slice A t.text.length c]∧t.text.length≤c∧c≤maxLen∧BytesIn W 0 W.heap.size A t.text:=by
  obtain ⟨xs,n,_,_,hlen,hxs,hg⟩:=DataW.trod_struct Tryz.underlying155 h
  rw [Tryz.cellsT] at hlen
  match cs,hlen with
  | [c0,c1,c2,c3],_ =>
    match xs,hxs with
    | [y0,y1,y2,y3],_ =>
      have g0:=hg 0 _ rfl
      have g1:=hg 1 _ rfl
      have g2:=hg 2 _ rfl
      have g3:=hg 3 _ rfl
      simp [Tryz.cellsInt,Tryz.cellsBS] at g0 g1 g2 g3
      obtain ⟨k,e0,_,_⟩:=DataW.trod_int Tryz.underlying3 g0
      obtain ⟨a,e1,_,_⟩:=DataW.trod_int Tryz.underlying3 g1
      obtain ⟨b,e2,_,_⟩:=DataW.trod_int Tryz.underlying3 g2
      obtain ⟨A,c,l,e3,hl,hm,hb⟩:=open_bytes g3
      simp at e0 e1 e2 e3
      subst e0 e1 e2 e3
      exact ⟨⟨k,a,b,l⟩,A,c,rfl,hl,hm,hb⟩
theorem open_ledger {v:Value} {d:DataW H} {p:List MemPlace} (hv:Value.okWide Tryz.prog W .any base 24 v) (h:DataW.Trod enc Tryz.prog W 0 sp held 24 v d p) :
    ∃(A:Option Addr) (ts:List Tm) (c:Nat),v=.agg #[.slice A ts.length c]∧ts.length≤9223372036854775807∧TmsIn W 0 W.heap.size A ts:=by
  obtain ⟨cs,rfl,hsz⟩:=okWide_struct Tryz.underlying24 hv
  obtain ⟨fuel,hf⟩:=h
  obtain ⟨xs,n,_,_,hlen,hxs,hg⟩:=DataW.trod_struct Tryz.underlying24 hf
  obtain ⟨l⟩:=cs
  rw [Tryz.cellsL] at hsz
  match l,hsz with
  | [c0],_ =>
    match xs,hxs with
    | [y0],_ =>
      have g0:=hg 0 _ rfl
      simp [Tryz.cellsTS,Value.cells] at g0
      rcases open_slice Tryz.underlying22 g0 with ⟨e,_⟩|⟨a,len,cap,m,n,D,Pl,e,hb,hl,hm,hmm,_,hi⟩
      · simp at e
        subst e
        exact ⟨none,[],0,rfl,by simp,fun h=>absurd h (by simp)⟩
      · simp at e
        subst e
        rw [Tryz.cellsT] at hi
        have hlm:len≤m:=by rw [hmm];split <;> omega
        obtain ⟨f,hf⟩:=choose_lt (α:=Tm) (p:=fun i t=>∃(A:Option Addr) (c:Nat) (cs':List Value),W.cells? 0 (a.add (i*4)) 4=some cs'∧cs'=[.int .i64 t.kind,.int .i64 t.a,.int .i64 t.b,.slice A t.text.length c]∧t.text.length≤c∧c≤maxLen∧BytesIn W 0 W.heap.size A t.text) (n:=len) (fun i hil=>by
          obtain ⟨cs',h1,h2⟩:=hi i (by omega)
          obtain ⟨t,A,c,e,hx⟩:=open_termCells h2
          exact ⟨t,A,c,cs',h1,e,hx⟩)
        have hlen2:((List.range len).map f).length=len:=by simp
        refine ⟨some a,(List.range len).map f,cap,by rw [hlen2],by rw [hlen2];unfold maxLen at hm;omega,fun hpos=>?_⟩
        rw [hlen2] at hpos
        obtain ⟨A0,c0',cs0,k1,k2,_⟩:=hf 0 hpos
        obtain ⟨_,_,kk⟩:=World.cells?_some k1
        have q0:=kk 0 (by omega)
        rw [k2] at q0
        obtain ⟨b,off,spot⟩:=a
        have hspot:spot=none:=by simpa [Addr.add] using World.cell?_spot q0
        subst hspot
        have hblk:=World.block_lt_of_cell? W _ q0
        refine ⟨b,off,rfl,Nat.zero_le _,by simpa [Addr.add] using hblk,fun i hi'=>?_⟩
        rw [hlen2] at hi'
        obtain ⟨A1,c1,cs1,k1,k2,k3,k4,k5⟩:=hf i hi'
        obtain ⟨_,_,kk⟩:=World.cells?_some k1
        have q0:=kk 0 (by omega)
        have q1:=kk 1 (by omega)
        have q2:=kk 2 (by omega)
        have q3:=kk 3 (by omega)
        rw [k2] at q0 q1 q2 q3
        simp only [Addr.add_lit,Nat.add_zero] at q0 q1 q2 q3
        simp only [List.getElem_map,List.getElem_range]
        exact ⟨A1,c1,q0,q1,q2,q3,k3,k4,k5⟩
end
end Go.Proofs.YtckajeippfpojaaGreat
namespace Go.Proofs.YtckajeippfpojaaGreat
open Go.RowKit
set_option maxRecDepth 100000
theorem Tryz.info5:(Tryz.prog.info? 5).map (fun i=>(i.zero,i.size,i.bytes))=some (some (.int .u8 0),1,1):=by kernel_rfl
theorem Tryz.info35:(Tryz.prog.info? 112).map (fun i=>(i.zero,i.size,i.bytes))=some (some (.agg #[.int .i64 0,.int .i64 0,.int .i64 0,.slice none 0 0]),4,48):=by kernel_rfl
def upTo (l:List UInt8) (k j:Nat):Value:=if j < k then .int .u8 ((l[j]?.getD 0).toNat:Int) else .int .u8 0
theorem upTo_succ (l:List UInt8) (k j:Nat) (h:k < l.length):(if j=k then Value.int .u8 (l[k].toNat:Int) else upTo l k j)=upTo l (k+1) j:=by
  unfold upTo
  by_cases h1:j=k
  · subst h1;simp [h]
  · by_cases h2:j < k
    · simp [h1,h2,show j < k+1 by omega]
    · simp [h1,h2,show ¬ j < k+1 by omega]
set_option maxHeartbeats 400000 in
theorem toByteS_any (A:Option Addr) (l:List UInt8) (c:Nat) (w:World) (hA:BytesIn w 0 w.heap.size A l) (hn:l.length≤1048576) :
    Calls Tryz.prog 30 #[.slice A l.length c] w fun e w'=>e=.returned (.slice (some ⟨w.heap.size,0,none⟩) l.length l.length)∧BytesIn w' w.heap.size (w.heap.size+1) (some ⟨w.heap.size,0,none⟩) l∧w.heap.size < w'.heap.size∧Below w.heap.size w w':=by
  have hmk:=run_make_row' (P:=Tryz.prog) 61 5 (.int .u8 0) 1 Tryz.underlying61 Tryz.info5 rfl .i64 .i64 l.length (by omega) (by omega)
  go_enter Tryz.func30,Tryz.ntmps30
  go_wp2
  clear hmk
  go_loopw [4] (fun i wr=>∃k:Nat,k≤l.length∧i=.int .i64 k∧wr.rowIs w.heap.size 5 l.length (upTo l k)∧Below w.heap.size w wr) (fun i _=>l.length - (intOf i).toNat)
  case atStart=>exact ⟨0,Nat.zero_le _,rfl,(World.rowIs_made w _ _ _).congr (fun i _=>by simp [upTo]),(Below.refl _ _).alloc (Nat.le_refl _) _⟩
  case round =>
    obtain ⟨k,hk,rfl,hrow,hbel⟩:=hrel
    have HR:=hd' hrow
    by_cases hlt:k < l.length
    · obtain ⟨b,o,rfl,hL,hb,hc⟩:=hA (by omega)
      have hsrc:=(hbel.cell (p:=⟨b,o+k,none⟩) hb).trans (hc k hlt)
      have hdst:=hrow.cell hlt
      have hfr:=hrow.frozen k
      clear hc hrow
      go_wp2
      go_roundw
      case rel=>exact ⟨k+1,by omega,by go_num,(HR.out.set k _).congr (fun j _=>upTo_succ l k j hlt),hbel.setCell (Nat.le_refl _) _⟩
      case measure=>simp [intOf];omega
    · clear hrow
      go_wp2
      go_ret
      refine ⟨rfl,fun hl=>⟨w.heap.size,0,rfl,Nat.le_refl _,by omega,fun j hj=>?_⟩,HR.out.lt,hbel⟩
      rw [Nat.zero_add,HR.out.cell hj]
      simp [upTo,show j < k by omega,hj]
set_option maxHeartbeats 400000 in
theorem toTerm_any (k a b:Int) (A:Option Addr) (l:List UInt8) (c:Nat) (w:World) (hA:BytesIn w 0 w.heap.size A l) (hn:l.length≤1048576) :
    Calls Tryz.prog 113 #[.agg #[.int .i64 k,.int .i64 a,.int .i64 b,.slice A l.length c]] w fun e w'=>∃g,e=.returned (.agg #[.int .i64 k,.int .i64 a,.int .i64 b,.slice (some ⟨g,0,none⟩) l.length l.length])∧w.heap.size≤g∧g < w'.heap.size∧BytesIn w' w.heap.size w'.heap.size (some ⟨g,0,none⟩) l∧Below w.heap.size w w':=by
  have HA:=hd' hA
  clear hA
  go_enter Tryz.func113,Tryz.ntmps113
  go_wp2_with fail
  refine (toByteS_any _ _ _ _ ?h1 hn).mono ?_
  case h1=>exact (HA.out.below ((((Below.refl _ _).alloc (Nat.le_refl _) _).alloc (by simp) _).alloc (by simp;omega) _)).mono (by simp;omega)
  rintro e w' ⟨rfl,hby,hz,hb⟩
  have HB:=hd' hby
  have hbel:Below w.heap.size w w':=((((Below.refl _ _).alloc (Nat.le_refl _) _).alloc (by simp) _).alloc (by simp;omega) _).trans (hb.mono (by simp;omega))
  obtain ⟨hc,hf⟩:=bcell hb
  have HBel:=hd' hbel
  clear hby hb hbel
  simp at hz
  go_wp2
  refine bodyPost_ret (v:=.agg #[.int .i64 k,.int .i64 a,.int .i64 b,.slice (some ⟨w.heap.size+1+1+1,0,none⟩) l.length l.length]) (by simp [results,Tryz.results113,hc,go_sem]) rfl ⟨_,rfl,by omega,by simp;omega,?_,?_⟩
  · have HB':=HB.out
    simp only [World.size_alloc] at HB'
    refine (((((((HB'.set ?_ _).set ?_ _).set ?_ _).set ?_ _).set ?_ _).low ?_).mono ?_)
    all_goals first|omega|(simp;done)|(simp;omega)
  · exact (((((HBel.out.setCell (by simp;omega) _).setCell (by simp) _).setCell (by simp) _).setCell (by simp) _).setCell (by simp) _)
theorem run_make_terms (n:Nat) (hn:n≤1048576) (w:World) :
    (Instr.makeSlice 33 (.int .i64 (n:Int)) (.int .i64 (n:Int))).run Tryz.prog w=.ok (.slice (some ⟨w.heap.size,0,none⟩) n n) (w.alloc (.cells (madeCells #[.int .i64 0,.int .i64 0,.int .i64 0,.slice none 0 0] (n*4)) 112)):=by
  obtain ⟨i0,hi,hz0,hz1,hz2⟩:=info_parts Tryz.info35
  have hr:=run_make (P:=Tryz.prog) w 33 112 i0 _ Tryz.underlying33 hi hz0 .i64 .i64 n n (by omega) (by omega) (by rw [hz2];omega) (by omega)
  simp only [Int.toNat_natCast,hz1] at hr
  exact hr
def TmRow (w:World) (B R:Nat) (ts:List Tm) (k:Nat) (f:Nat→Value):Prop :=
  ∀i (hi:i < ts.length),i < k→∃g,R < g∧g < B∧f (i*4)=.int .i64 ts[i].kind∧f (i*4+1)=.int .i64 ts[i].a∧f (i*4+2)=.int .i64 ts[i].b∧f (i*4+3)=.slice (some ⟨g,0,none⟩) ts[i].text.length ts[i].text.length∧BytesIn w R B (some ⟨g,0,none⟩) ts[i].text
def put4 (f:Nat→Value) (k:Nat) (v0 v1 v2 v3:Value):Nat→Value :=
  fun j=>if j=k*4+3 then v3 else (fun j=>if j=k*4+2 then v2 else (fun j=>if j=k*4+1 then v1 else (fun j=>if j=k*4 then v0 else f j) j) j) j
theorem rowIs_put4 {w:World} {b:Nat} {t:TypeId} {n:Nat} {f:Nat→Value} (h:w.rowIs b t n f) (k:Nat) (v0 v1 v2 v3:Value) :
    ((((w.setCell ⟨b,k*4,none⟩ v0).setCell ⟨b,k*4+1,none⟩ v1).setCell ⟨b,k*4+2,none⟩ v2).setCell ⟨b,k*4+3,none⟩ v3).rowIs b t n (put4 f k v0 v1 v2 v3) :=
  (((h.set _ v0).set _ v1).set _ v2).set _ v3
theorem cell_put4 {w:World} {b k:Nat} {v0 v1 v2 v3:Value} {p:Addr} (hp:p.block≠b) :
    ((((w.setCell ⟨b,k*4,none⟩ v0).setCell ⟨b,k*4+1,none⟩ v1).setCell ⟨b,k*4+2,none⟩ v2).setCell ⟨b,k*4+3,none⟩ v3).cell? p=w.cell? p:=by
  rw [World.cell?_setCell_other _ _ _ _ (by rintro rfl;exact hp rfl),World.cell?_setCell_other _ _ _ _ (by rintro rfl;exact hp rfl),World.cell?_setCell_other _ _ _ _ (by rintro rfl;exact hp rfl),World.cell?_setCell_other _ _ _ _ (by rintro rfl;exact hp rfl)]
theorem below_put4 {B:Nat} {a w:World} (h:Below B a w) {b k:Nat} (hB:B≤b) (v0 v1 v2 v3:Value) :
    Below B a ((((w.setCell ⟨b,k*4,none⟩ v0).setCell ⟨b,k*4+1,none⟩ v1).setCell ⟨b,k*4+2,none⟩ v2).setCell ⟨b,k*4+3,none⟩ v3) :=
  (((h.setCell hB _).setCell hB _).setCell hB _).setCell hB _
theorem TmRow.step {w w1:World} {R:Nat} {ts:List Tm} {k:Nat} {f:Nat→Value} {g:Nat} (hk:k < ts.length) (h:TmRow w w.heap.size R ts k f) (hb:Below w.heap.size w w1) (hR:R < w.heap.size) (hg:w.heap.size≤g) (hg1:g < w1.heap.size)
    (hby:BytesIn w1 R w1.heap.size (some ⟨g,0,none⟩) ts[k].text) :
    TmRow ((((w1.setCell ⟨R,k*4,none⟩ (.int .i64 ts[k].kind)).setCell ⟨R,k*4+1,none⟩ (.int .i64 ts[k].a)).setCell ⟨R,k*4+2,none⟩ (.int .i64 ts[k].b)).setCell ⟨R,k*4+3,none⟩ (.slice (some ⟨g,0,none⟩) ts[k].text.length ts[k].text.length)) w1.heap.size R ts (k+1)
      (put4 f k (.int .i64 ts[k].kind) (.int .i64 ts[k].a) (.int .i64 ts[k].b) (.slice (some ⟨g,0,none⟩) ts[k].text.length ts[k].text.length)):=by
  intro i hi hik
  by_cases e:i=k
  · subst e
    refine ⟨g,by omega,hg1,by simp [put4],by simp [put4],by simp [put4],by simp [put4],hby.block (fun j=>cell_put4 (by show g≠R;omega)) (Nat.le_refl _)⟩
  · obtain ⟨g',hg',hg2,f0,f1,f2,f3,hb'⟩:=h i hi (by omega)
    have hz:=hb.size
    refine ⟨g',hg',by omega,?_,?_,?_,?_,hb'.block (fun j=>(cell_put4 (by show g'≠R;omega)).trans (hb.cell hg2)) hz⟩
    all_goals unfold put4
    all_goals simp only []
    all_goals rw [if_neg (by omega),if_neg (by omega),if_neg (by omega),if_neg (by omega)]
    all_goals assumption
set_option maxHeartbeats 400000 in
theorem toTermS_any (A:Option Addr) (ts:List Tm) (c:Nat) (w:World) (hA:TmsIn w 0 w.heap.size A ts) (hn:ts.length≤1048576) (hbk:bulk ts≤1048576) :
    Calls Tryz.prog 60 #[.slice A ts.length c] w fun e w'=>e=.returned (.slice (some ⟨w.heap.size,0,none⟩) ts.length ts.length)∧TmsIn w' w.heap.size w'.heap.size (some ⟨w.heap.size,0,none⟩) ts∧w.heap.size < w'.heap.size∧Below w.heap.size w w':=by
  have hmk:=run_make_terms ts.length hn
  go_enter Tryz.func60,Tryz.ntmps60
  go_wp2
  clear hmk
  go_loopw [4] (fun i wr=>∃(k:Nat) (f:Nat→Value),k≤ts.length∧i=.int .i64 k∧wr.rowIs w.heap.size 112 (ts.length*4) f∧TmRow wr wr.heap.size w.heap.size ts k f∧Below w.heap.size w wr) (fun i _=>ts.length - (intOf i).toNat)
  case atStart =>
    refine ⟨0,fun j=>(#[Value.int .i64 0,.int .i64 0,.int .i64 0,.slice none 0 0]:Array Value)[j % 4]!,Nat.zero_le _,rfl,⟨_,heap_alloc_new w _,size_madeCells _ _,fun i hi=>?_⟩,fun i _ h=>absurd h (by omega),(Below.refl _ _).alloc (Nat.le_refl _) _⟩
    simp [madeCells,hi]
  case round =>
    obtain ⟨k,f,hk,rfl,hrow,htm,hbel⟩:=hrel
    have HR:=hd' hrow
    have HT:=hd' htm
    clear htm
    by_cases hlt:k < ts.length
    · obtain ⟨b,o,rfl,hL,hb,hc⟩:=hA (by omega)
      obtain ⟨A',c',c0,c1,c2,c3,hcap,hmax,hby⟩:=(hc k hlt).below hL hb hbel
      have hle:=text_le_bulk ts k hlt
      have HB:=hd' (hby.mono hbel.size)
      clear hc hrow hby
      go_wp2_with fail
      refine (toTerm_any _ _ _ _ _ _ _ HB.out (by omega)).mono ?_
      rintro e w1 ⟨g,rfl,hg,hg1,hby,hb1⟩
      have HY:=hd' (hby.low hbel.size)
      have hR:=HR.out.lt
      have hrow:=HR.out.of_block (hb1.block _ hR)
      have d0:=hrow.cell (i:=k*4) (by omega)
      have d1:=hrow.cell (i:=k*4+1) (by omega)
      have d2:=hrow.cell (i:=k*4+2) (by omega)
      have d3:=hrow.cell (i:=k*4+3) (by omega)
      have e0:=hrow.frozen (k*4)
      have e1:=hrow.frozen (k*4+1)
      have e2:=hrow.frozen (k*4+2)
      have e3:=hrow.frozen (k*4+3)
      have HW:=hd' hrow
      have HB1:=hd' hb1
      have HBel:=hd' hbel
      clear hby hrow hb1 hbel c0 c1 c2 c3
      go_wp2
      go_roundw
      case rel=>exact ⟨k+1,_,by omega,by go_num,rowIs_put4 HW.out k _ _ _ _,by simpa using HT.out.step hlt HB1.out hR hg hg1 HY.out,below_put4 (HBel.out.trans (HB1.out.mono HBel.out.size)) (Nat.le_refl _) _ _ _ _⟩
      case measure=>simp [intOf];omega
    · clear hrow
      go_wp2
      go_ret
      refine ⟨rfl,fun hl=>⟨w.heap.size,0,rfl,Nat.le_refl _,HR.out.lt,fun i hi=>?_⟩,HR.out.lt,hbel⟩
      obtain ⟨g,hg,hg2,f0,f1,f2,f3,hb'⟩:=HT.out i hi (by omega)
      rw [Nat.zero_add]
      exact ⟨_,_,(HR.out.cell (by omega)).trans (by rw [f0]),(HR.out.cell (by omega)).trans (by rw [f1]),(HR.out.cell (by omega)).trans (by rw [f2]),(HR.out.cell (by omega)).trans (by rw [f3]),Nat.le_refl _,by have:=text_le_bulk ts i hi;unfold maxLen;omega,hb'⟩
set_option maxHeartbeats 400000 in
theorem toLedger_any (A:Option Addr) (ts:List Tm) (c:Nat) (w:World) (hA:TmsIn w 0 w.heap.size A ts) (hn:ts.length≤1048576) (hbk:bulk ts≤1048576) :
    Calls Tryz.prog 15 #[.agg #[.slice A ts.length c]] w fun e w'=>∃g,e=.returned (.agg #[.slice (some ⟨g,0,none⟩) ts.length ts.length])∧w.heap.size≤g∧TmsIn w' w.heap.size w'.heap.size (some ⟨g,0,none⟩) ts∧Below w.heap.size w w':=by
  have HA:=hd' hA
  clear hA
  go_enter Tryz.func15,Tryz.ntmps15
  go_wp2_with fail
  refine (toTermS_any _ _ _ _ ?h1 hn hbk).mono ?_
  case h1=>exact (HA.out.below ((((Below.refl _ _).alloc (Nat.le_refl _) _).alloc (by simp) _).alloc (by simp;omega) _)).mono (by simp;omega)
  rintro e w' ⟨rfl,hts,hz,hb⟩
  have HT:=hd' hts
  have hbel:Below w.heap.size w w':=((((Below.refl _ _).alloc (Nat.le_refl _) _).alloc (by simp) _).alloc (by simp;omega) _).trans (hb.mono (by simp;omega))
  obtain ⟨hc,hf⟩:=bcell hb
  have HBel:=hd' hbel
  clear hts hb hbel
  simp at hz
  go_wp2
  refine bodyPost_ret (v:=.agg #[.slice (some ⟨w.heap.size+1+1+1,0,none⟩) ts.length ts.length]) (by simp [results,Tryz.results15,hc,go_sem]) rfl ⟨_,rfl,by omega,?_,?_⟩
  · have HT':=HT.out
    simp only [World.size_alloc] at HT'
    refine (((HT'.set ?_ _).set ?_ _).low ?_).mono ?_
    all_goals first|omega|(simp;done)|(simp;omega)
  · exact (HBel.out.setCell (by simp;omega) _).setCell (by simp) _
end Go.Proofs.YtckajeippfpojaaGreat
namespace Go.Proofs.YtckajeippfpojaaGreat
open Go.RowKit
set_option maxRecDepth 100000
def Fresh (w w':World):Prop:=∀p:Addr,w.heap.size≤p.block→w'.frozen? p=false
theorem Fresh.refl (w:World):Fresh w w:=fun p hp=>by
  have h:w.heap[p.block]?=none:=Array.getElem?_eq_none hp
  simp [World.frozen?,h]
theorem Fresh.alloc {w w':World} (h:Fresh w w') (c:Array Value) (t:TypeId):Fresh w (w'.alloc (.cells c t)):=fun p hp=>(frozen?_alloc_cells w' c t p).trans (h p hp)
theorem Fresh.setCell {w w':World} (h:Fresh w w') (a:Addr) (v:Value):Fresh w (w'.setCell a v):=fun p hp=>by
  rw [World.frozen?_setCell]
  exact h p hp
theorem Fresh.drew {w w':World} (h:Fresh w w'):Fresh w w'.drew:=h
theorem Fresh.trans {a b c:World} (h:Fresh a b) (h':Fresh b c) (hb:Below b.heap.size b c):Fresh a c:=fun p hp=>by
  by_cases e:p.block < b.heap.size
  · exact (hb.frozen e).trans (h p hp)
  · exact h' p (by omega)
theorem BytesIn.raise {w:World} {L L' B g o:Nat} {l:List UInt8} (h:BytesIn w L B (some ⟨g,o,none⟩) l) (hg:L'≤g):BytesIn w L' B (some ⟨g,o,none⟩) l:=fun hl=>by
  obtain ⟨b,o',e,hL,hb,hc⟩:=h hl
  simp only [Option.some.injEq,Addr.mk.injEq] at e
  obtain ⟨rfl,rfl,_⟩:=e
  exact ⟨_,_,rfl,hg,hb,hc⟩
def CopyIn (w:World) (R B:Nat) (ts:List Tm):Prop:=∀i (hi:i < ts.length),TmIn w (R+1) B R (i*4) ts[i]
theorem CopyIn.keep {w w':World} {R B:Nat} {ts:List Tm} (h:CopyIn w R B ts) (hk:∀p:Addr,R≤p.block→p.block < B→w'.cell? p=w.cell? p) (hR:R < B):CopyIn w' R B ts:=fun i hi=>by
  obtain ⟨A,c,h0,h1,h2,h3,h4,h5,h6⟩:=h i hi
  exact ⟨A,c,(hk _ (Nat.le_refl _) hR).trans h0,(hk _ (Nat.le_refl _) hR).trans h1,(hk _ (Nat.le_refl _) hR).trans h2,(hk _ (Nat.le_refl _) hR).trans h3,h4,h5,h6.keep fun p hp=>hk p (by omega)⟩
theorem CopyIn.mono {w:World} {R B B':Nat} {ts:List Tm} (h:CopyIn w R B ts) (hB:B≤B'):CopyIn w R B' ts:=fun i hi=>(h i hi).mono hB
theorem CopyIn.tms {w:World} {R B:Nat} {ts:List Tm} (h:CopyIn w R B ts) (hR:R < B):TmsIn w R B (some ⟨R,0,none⟩) ts:=fun _ =>
  ⟨R,0,rfl,Nat.le_refl _,hR,fun i hi=>by rw [Nat.zero_add];exact (h i hi).low (by omega)⟩
set_option maxHeartbeats 400000 in
theorem toByteS_fr (A:Option Addr) (l:List UInt8) (c:Nat) (w:World) (hA:BytesIn w 0 w.heap.size A l) (hn:l.length≤1048576) :
    Calls Tryz.prog 30 #[.slice A l.length c] w fun e w'=>e=.returned (.slice (some ⟨w.heap.size,0,none⟩) l.length l.length)∧BytesIn w' w.heap.size (w.heap.size+1) (some ⟨w.heap.size,0,none⟩) l∧w.heap.size < w'.heap.size∧Fresh w w'∧Below w.heap.size w w':=by
  have hmk:=run_make_row' (P:=Tryz.prog) 61 5 (.int .u8 0) 1 Tryz.underlying61 Tryz.info5 rfl .i64 .i64 l.length (by omega) (by omega)
  go_enter Tryz.func30,Tryz.ntmps30
  go_wp2
  clear hmk
  go_loopw [4] (fun i wr=>∃k:Nat,k≤l.length∧i=.int .i64 k∧wr.rowIs w.heap.size 5 l.length (upTo l k)∧Fresh w wr∧Below w.heap.size w wr) (fun i _=>l.length - (intOf i).toNat)
  case atStart=>exact ⟨0,Nat.zero_le _,rfl,(World.rowIs_made w _ _ _).congr (fun i _=>by simp [upTo]),(Fresh.refl w).alloc _ _,(Below.refl _ _).alloc (Nat.le_refl _) _⟩
  case round =>
    obtain ⟨k,hk,rfl,hrow,hfresh,hbel⟩:=hrel
    have HR:=hd' hrow
    have HF:=hd' hfresh
    clear hfresh
    by_cases hlt:k < l.length
    · obtain ⟨b,o,rfl,hL,hb,hc⟩:=hA (by omega)
      have hsrc:=(hbel.cell (p:=⟨b,o+k,none⟩) hb).trans (hc k hlt)
      have hdst:=hrow.cell hlt
      have hfr:=hrow.frozen k
      clear hc hrow
      go_wp2
      go_roundw
      case rel=>exact ⟨k+1,by omega,by go_num,(HR.out.set k _).congr (fun j _=>upTo_succ l k j hlt),HF.out.setCell _ _,hbel.setCell (Nat.le_refl _) _⟩
      case measure=>simp [intOf];omega
    · clear hrow
      go_wp2
      go_ret
      refine ⟨rfl,fun hl=>⟨w.heap.size,0,rfl,Nat.le_refl _,by omega,fun j hj=>?_⟩,HR.out.lt,HF.out,hbel⟩
      rw [Nat.zero_add,HR.out.cell hj]
      simp [upTo,show j < k by omega,hj]
set_option maxHeartbeats 400000 in
theorem toTerm_fr (k a b:Int) (A:Option Addr) (l:List UInt8) (c:Nat) (w:World) (hA:BytesIn w 0 w.heap.size A l) (hn:l.length≤1048576) :
    Calls Tryz.prog 113 #[.agg #[.int .i64 k,.int .i64 a,.int .i64 b,.slice A l.length c]] w fun e w'=>∃g,e=.returned (.agg #[.int .i64 k,.int .i64 a,.int .i64 b,.slice (some ⟨g,0,none⟩) l.length l.length])∧w.heap.size≤g∧g < w'.heap.size∧BytesIn w' w.heap.size w'.heap.size (some ⟨g,0,none⟩) l∧Fresh w w'∧Below w.heap.size w w':=by
  have HA:=hd' hA
  clear hA
  go_enter Tryz.func113,Tryz.ntmps113
  go_wp2_with fail
  refine (toByteS_fr _ _ _ _ ?h1 hn).mono ?_
  case h1=>exact (HA.out.below ((((Below.refl _ _).alloc (Nat.le_refl _) _).alloc (by simp) _).alloc (by simp;omega) _)).mono (by simp;omega)
  rintro e w' ⟨rfl,hby,hz,hfr,hb⟩
  have HB:=hd' hby
  have HFr:=hd' (((((Fresh.refl w).alloc _ _).alloc _ _).alloc _ _).trans hfr hb)
  have hbel:Below w.heap.size w w':=((((Below.refl _ _).alloc (Nat.le_refl _) _).alloc (by simp) _).alloc (by simp;omega) _).trans (hb.mono (by simp;omega))
  obtain ⟨hc,hf⟩:=bcell hb
  have HBel:=hd' hbel
  clear hby hb hbel hfr
  simp at hz
  go_wp2
  refine bodyPost_ret (v:=.agg #[.int .i64 k,.int .i64 a,.int .i64 b,.slice (some ⟨w.heap.size+1+1+1,0,none⟩) l.length l.length]) (by simp [results,Tryz.results113,hc,go_sem]) rfl ⟨_,rfl,by omega,by simp;omega,?_,?_,?_⟩
  · have HB':=HB.out
    simp only [World.size_alloc] at HB'
    refine (((((((HB'.set ?_ _).set ?_ _).set ?_ _).set ?_ _).set ?_ _).low ?_).mono ?_)
    all_goals first|omega|(simp;done)|(simp;omega)
  · exact ((((HFr.out.setCell _ _).setCell _ _).setCell _ _).setCell _ _).setCell _ _
  · refine ((((HBel.out.setCell ?_ _).setCell ?_ _).setCell ?_ _).setCell ?_ _).setCell ?_ _
    all_goals first|omega|(simp;done)|(simp;omega)
set_option maxHeartbeats 400000 in
theorem toTermS_fr (A:Option Addr) (ts:List Tm) (c:Nat) (w:World) (hA:TmsIn w 0 w.heap.size A ts) (hn:ts.length≤1048576) (hbk:bulk ts≤1048576) :
    Calls Tryz.prog 60 #[.slice A ts.length c] w fun e w'=>e=.returned (.slice (some ⟨w.heap.size,0,none⟩) ts.length ts.length)∧CopyIn w' w.heap.size w'.heap.size ts∧w.heap.size < w'.heap.size∧Fresh w w'∧Below w.heap.size w w':=by
  have hmk:=run_make_terms ts.length hn
  go_enter Tryz.func60,Tryz.ntmps60
  go_wp2
  clear hmk
  go_loopw [4] (fun i wr=>∃(k:Nat) (f:Nat→Value),k≤ts.length∧i=.int .i64 k∧wr.rowIs w.heap.size 112 (ts.length*4) f∧TmRow wr wr.heap.size w.heap.size ts k f∧Fresh w wr∧Below w.heap.size w wr) (fun i _=>ts.length - (intOf i).toNat)
  case atStart =>
    refine ⟨0,fun j=>(#[Value.int .i64 0,.int .i64 0,.int .i64 0,.slice none 0 0]:Array Value)[j % 4]!,Nat.zero_le _,rfl,⟨_,heap_alloc_new w _,size_madeCells _ _,fun i hi=>?_⟩,fun i _ h=>absurd h (by omega),(Fresh.refl w).alloc _ _,(Below.refl _ _).alloc (Nat.le_refl _) _⟩
    simp [madeCells,hi]
  case round =>
    obtain ⟨k,f,hk,rfl,hrow,htm,hfresh,hbel⟩:=hrel
    have HR:=hd' hrow
    have HT:=hd' htm
    have HF:=hd' hfresh
    clear htm hfresh
    by_cases hlt:k < ts.length
    · obtain ⟨b,o,rfl,hL,hb,hc⟩:=hA (by omega)
      obtain ⟨A',c',c0,c1,c2,c3,hcap,hmax,hby⟩:=(hc k hlt).below hL hb hbel
      have hle:=text_le_bulk ts k hlt
      have HB:=hd' (hby.mono hbel.size)
      clear hc hrow hby
      go_wp2_with fail
      refine (toTerm_fr _ _ _ _ _ _ _ HB.out (by omega)).mono ?_
      rintro e w1 ⟨g,rfl,hg,hg1,hby,hfr1,hb1⟩
      have HF1:=hd' (HF.out.trans hfr1 hb1)
      clear hfr1
      have HY:=hd' (hby.low hbel.size)
      have hR:=HR.out.lt
      have hrow:=HR.out.of_block (hb1.block _ hR)
      have d0:=hrow.cell (i:=k*4) (by omega)
      have d1:=hrow.cell (i:=k*4+1) (by omega)
      have d2:=hrow.cell (i:=k*4+2) (by omega)
      have d3:=hrow.cell (i:=k*4+3) (by omega)
      have e0:=hrow.frozen (k*4)
      have e1:=hrow.frozen (k*4+1)
      have e2:=hrow.frozen (k*4+2)
      have e3:=hrow.frozen (k*4+3)
      have HW:=hd' hrow
      have HB1:=hd' hb1
      have HBel:=hd' hbel
      clear hby hrow hb1 hbel c0 c1 c2 c3
      go_wp2
      go_roundw
      case rel=>exact ⟨k+1,_,by omega,by go_num,rowIs_put4 HW.out k _ _ _ _,by simpa using HT.out.step hlt HB1.out hR hg hg1 HY.out,(((HF1.out.setCell _ _).setCell _ _).setCell _ _).setCell _ _,below_put4 (HBel.out.trans (HB1.out.mono HBel.out.size)) (Nat.le_refl _) _ _ _ _⟩
      case measure=>simp [intOf];omega
    · clear hrow
      go_wp2
      go_ret
      refine ⟨rfl,fun i hi=>?_,HR.out.lt,HF.out,hbel⟩
      obtain ⟨g,hg,hg2,f0,f1,f2,f3,hb'⟩:=HT.out i hi (by omega)
      exact ⟨_,_,(HR.out.cell (by omega)).trans (by rw [f0]),(HR.out.cell (by omega)).trans (by rw [f1]),(HR.out.cell (by omega)).trans (by rw [f2]),(HR.out.cell (by omega)).trans (by rw [f3]),Nat.le_refl _,by have:=text_le_bulk ts i hi;unfold maxLen;omega,hb'.raise (by omega)⟩
set_option maxHeartbeats 400000 in
theorem toLedger_fr (A:Option Addr) (ts:List Tm) (c:Nat) (w:World) (hA:TmsIn w 0 w.heap.size A ts) (hn:ts.length≤1048576) (hbk:bulk ts≤1048576) :
    Calls Tryz.prog 15 #[.agg #[.slice A ts.length c]] w fun e w'=>∃g,e=.returned (.agg #[.slice (some ⟨g,0,none⟩) ts.length ts.length])∧w.heap.size≤g∧g < w'.heap.size∧CopyIn w' g w'.heap.size ts∧Fresh w w'∧Below w.heap.size w w':=by
  have HA:=hd' hA
  clear hA
  go_enter Tryz.func15,Tryz.ntmps15
  go_wp2_with fail
  refine (toTermS_fr _ _ _ _ ?h1 hn hbk).mono ?_
  case h1=>exact (HA.out.below ((((Below.refl _ _).alloc (Nat.le_refl _) _).alloc (by simp) _).alloc (by simp;omega) _)).mono (by simp;omega)
  rintro e w' ⟨rfl,hts,hz,hfr,hb⟩
  have HFr:=hd' (((((Fresh.refl w).alloc _ _).alloc _ _).alloc _ _).trans hfr hb)
  have HT:=hd' hts
  have hbel:Below w.heap.size w w':=((((Below.refl _ _).alloc (Nat.le_refl _) _).alloc (by simp) _).alloc (by simp;omega) _).trans (hb.mono (by simp;omega))
  obtain ⟨hc,hf⟩:=bcell hb
  have HBel:=hd' hbel
  clear hts hb hbel hfr
  simp at hz
  go_wp2
  refine bodyPost_ret (v:=.agg #[.slice (some ⟨w.heap.size+1+1+1,0,none⟩) ts.length ts.length]) (by simp [results,Tryz.results15,hc,go_sem]) rfl ⟨_,rfl,by omega,by simp;omega,?_,?_,?_⟩
  · have HT':=HT.out
    simp only [World.size_alloc] at HT'
    refine (HT'.keep (fun p hp _=>?_) (by omega)).mono (by simp)
    rw [World.cell?_setCell_other _ _ _ _ (by rintro rfl;simp at hp;omega),World.cell?_setCell_other _ _ _ _ (by rintro rfl;simp at hp;omega)]
  · exact (HFr.out.setCell _ _).setCell _ _
  · exact (HBel.out.setCell (by simp;omega) _).setCell (by simp) _
end Go.Proofs.YtckajeippfpojaaGreat
namespace Go.Proofs.YtckajeippfpojaaGreat
open Go.RowKit
set_option maxRecDepth 100000
structure Inside (L B:Nat) (w w':World):Prop where
  below:Below L w w'
  above:∀b,B≤b→b < w.heap.size→w'.heap[b]?=w.heap[b]?
  frozen:∀p:Addr,p.block < w.heap.size→w'.frozen? p=w.frozen? p
  ex:∀p v,w.cell? p=some v→∃v',w'.cell? p=some v'
section
variable {L L' B B':Nat} {a b c:World}
theorem Inside.refl (L B:Nat) (w:World):Inside L B w w:=⟨Below.refl _ _,fun _ _ _=>rfl,fun _ _=>rfl,fun _ v h=>⟨v,h⟩⟩
theorem Inside.trans (h:Inside L B a b) (k:Inside L B b c):Inside L B a c :=
  ⟨h.below.trans k.below,fun x hx hs=>(k.above x hx (by have:=h.below.size;omega)).trans (h.above x hx hs),fun p hp=>(k.frozen p (by have:=h.below.size;omega)).trans (h.frozen p hp),fun p v hv=>by
    obtain ⟨v',hv'⟩:=h.ex p v hv
    exact k.ex p v' hv'⟩
theorem Inside.wider (h:Inside L B a b) (hL:L'≤L) (hB:B≤B'):Inside L' B' a b :=
  ⟨h.below.mono hL,fun x hx hs=>h.above x (by omega) hs,h.frozen,h.ex⟩
theorem Inside.setCell (h:Inside L B a b) {p:Addr} (hp:L≤p.block) (hB:p.block < B) (v:Value):Inside L B a (b.setCell p v) :=
  ⟨h.below.setCell hp v,fun x hx hs=>by rw [Below.heap_setCell _ _ _ _ (by omega)];exact h.above x hx hs,fun q hq=>by rw [World.frozen?_setCell];exact h.frozen q hq,fun q u hu=>by
    obtain ⟨u',hu'⟩:=h.ex q u hu
    by_cases e:q=p
    · subst e
      exact ⟨v,World.cell?_setCell_same _ _ _ (by rw [hu'])⟩
    · exact ⟨u',(World.cell?_setCell_other _ _ _ _ (fun h=>e h.symm)).trans hu'⟩⟩
theorem Inside.grown (h:Inside L B a b) (hb:Below b.heap.size b c) (hL:L≤a.heap.size):Inside L B a c :=
  ⟨h.below.trans (hb.mono (by have:=h.below.size;omega)),fun x hx hs=>(hb.block x (by have:=h.below.size;omega)).trans (h.above x hx hs),fun p hp=>(hb.frozen (by have:=h.below.size;omega)).trans (h.frozen p hp),fun p v hv=>by
    obtain ⟨v',hv'⟩:=h.ex p v hv
    exact ⟨v',(hb.cell (World.block_lt_of_cell? _ _ hv')).trans hv'⟩⟩
theorem Inside.cell (h:Inside L B a b) {p:Addr} (hp:p.block < L∨(B≤p.block∧p.block < a.heap.size)):b.cell? p=a.cell? p:=by
  rcases hp with hp|⟨h1,h2⟩
  · exact h.below.cell hp
  · exact World.cell?_of_block (w:=a) (h.above p.block h1 h2)
end
def BytesEx (w:World) (L B:Nat) (A:Option Addr) (n:Nat):Prop :=
  0 < n→∃b o,A=some ⟨b,o,none⟩∧L≤b∧b < B∧∀j,j < n→∃v,w.cell? ⟨b,o+j,none⟩=some v
theorem BytesIn.exist {w:World} {L B:Nat} {A:Option Addr} {l:List UInt8} (h:BytesIn w L B A l):BytesEx w L B A l.length:=fun hl=>by
  obtain ⟨b,o,e,hL,hb,hc⟩:=h hl
  exact ⟨b,o,e,hL,hb,fun j hj=>⟨_,hc j hj⟩⟩
theorem BytesEx.inside {w w':World} {L B L' B' n:Nat} {A:Option Addr} (h:BytesEx w L B A n) (hi:Inside L' B' w w'):BytesEx w' L B A n:=fun hl=>by
  obtain ⟨b,o,e,hL,hb,hc⟩:=h hl
  refine ⟨b,o,e,hL,hb,fun j hj=>?_⟩
  obtain ⟨v,hv⟩:=hc j hj
  exact hi.ex _ v hv
set_option maxHeartbeats 400000 in
theorem markByteS_any (A:Option Addr) (n c:Nat) (k:Int) (L B:Nat) (w:World) (hA:BytesEx w L B A n) (hB:B≤w.heap.size) (hf:∀p:Addr,L≤p.block→p.block < B→w.frozen? p=false) (hn:n≤4194304) (hk:0≤k) (hk':k≤1000000000000) :
    Calls Tryz.prog 34 #[.slice A n c,.int .i64 k] w fun e w'=>e=.returned (.int .i64 (k+n))∧Inside L B w w':=by
  go_enter Tryz.func34,Tryz.ntmps34
  go_wp2
  go_loopw [1,5] (fun x i wr=>∃j:Nat,j≤n∧i=.int .i64 j∧x=.int .i64 (k+j)∧Inside L B w wr) (fun _ i _=>n - (intOf i).toNat)
  case atStart=>exact ⟨0,Nat.zero_le _,rfl,by simp,Inside.refl _ _ _⟩
  case round =>
    obtain ⟨j,hj,rfl,rfl,hin⟩:=hrel
    have HI:=hd' hin
    by_cases hlt:j < n
    · obtain ⟨b,o,rfl,hL,hb,hc⟩:=hA (by omega)
      obtain ⟨v0,hv0⟩:=hc j hlt
      obtain ⟨v,hv⟩:=hin.ex _ v0 hv0
      have hfr:=(hin.frozen ⟨b,o+j,none⟩ (by show b < _;omega)).trans (hf _ hL hb)
      clear hc hin hv0
      go_wp2
      go_roundw
      case rel=>exact ⟨j+1,by omega,by go_num,by go_num,HI.out.setCell hL hb _⟩
      case measure=>simp [intOf];omega
    · clear hin
      go_wp2
      go_ret
      exact ⟨ret_int (by omega),HI.out⟩
def CopyEx (w:World) (R B:Nat) (ns:List Nat):Prop :=
  ∀i (hi:i < ns.length),(∃v,w.cell? ⟨R,i*4,none⟩=some v)∧(∃v,w.cell? ⟨R,i*4+1,none⟩=some v)∧(∃v,w.cell? ⟨R,i*4+2,none⟩=some v)∧∃A c,w.cell? ⟨R,i*4+3,none⟩=some (.slice A ns[i] c)∧BytesEx w (R+1) B A ns[i]
theorem CopyIn.exist {w:World} {R B:Nat} {ts:List Tm} (h:CopyIn w R B ts):CopyEx w R B (ts.map fun t=>t.text.length):=fun i hi=>by
  have hi':i < ts.length:=by simpa using hi
  obtain ⟨A,c,h0,h1,h2,h3,_,_,h6⟩:=h i hi'
  simp only [List.getElem_map]
  exact ⟨⟨_,h0⟩,⟨_,h1⟩,⟨_,h2⟩,A,c,h3,h6.exist⟩
def marksOf (ns:List Nat):Nat:=3*ns.length+ns.sum
theorem marksOf_succ (ns:List Nat) (k:Nat) (h:k < ns.length):marksOf (ns.take (k+1))=marksOf (ns.take k)+3+ns[k]:=by
  unfold marksOf
  rw [List.take_succ_eq_append_getElem h,List.length_append,List.sum_append]
  simp only [List.length_cons,List.length_nil,List.sum_cons,List.sum_nil]
  omega
theorem marksOf_le (ns:List Nat) (k:Nat):marksOf (ns.take k)≤marksOf ns:=by
  have h:marksOf (ns.take k++ns.drop k)=marksOf (ns.take k)+marksOf (ns.drop k):=by
    unfold marksOf
    rw [List.length_append,List.sum_append]
    omega
  rw [List.take_append_drop] at h
  omega
theorem marksOf_texts (ts:List Tm):marksOf (ts.map fun t=>t.text.length)=3*ts.length+bulk ts:=by
  induction ts with
  | nil=>rfl
  | cons t ts ih=>simp [marksOf,bulk] at ih ⊢;omega
set_option maxHeartbeats 1000000 in
theorem markTermS_any (R:Nat) (ns:List Nat) (c B:Nat) (k:Int) (w:World) (hA:CopyEx w R B ns) (hR:R < B) (hB:B≤w.heap.size) (hf:∀p:Addr,R≤p.block→p.block < B→w.frozen? p=false) (hn:marksOf ns≤4194304) (hk:0≤k) (hk':k≤1000000000) :
    Calls Tryz.prog 71 #[.slice (some ⟨R,0,none⟩) ns.length c,.int .i64 k] w fun e w'=>e=.returned (.int .i64 (k+marksOf ns))∧Inside R B w w':=by
  go_enter Tryz.func71,Tryz.ntmps71
  go_wp2
  have hnl:ns.length≤marksOf ns:=by unfold marksOf;omega
  go_loopw [1,5] (fun x i wr=>∃j:Nat,j≤ns.length∧i=.int .i64 j∧x=.int .i64 (k+marksOf (ns.take j))∧Inside R B w wr∧∀m,wr.cell? ⟨R,m*4+3,none⟩=w.cell? ⟨R,m*4+3,none⟩) (fun _ i _=>ns.length - (intOf i).toNat)
  case atStart=>exact ⟨0,Nat.zero_le _,rfl,by simp [marksOf],Inside.refl _ _ _,fun _=>rfl⟩
  case round =>
    obtain ⟨j,hj,rfl,rfl,hin,h3⟩:=hrel
    have HI:=hd' hin
    have H3:=hd' h3
    have hle:=marksOf_le ns j
    by_cases hlt:j < ns.length
    · obtain ⟨⟨v0,hv0⟩,⟨v1,hv1⟩,⟨v2,hv2⟩,A,c',hh,hby⟩:=hA j hlt
      obtain ⟨u0,hu0⟩:=hin.ex _ _ hv0
      obtain ⟨u1,hu1⟩:=hin.ex _ _ hv1
      obtain ⟨u2,hu2⟩:=hin.ex _ _ hv2
      have hu3:=(h3 j).trans hh
      have hF:∀o,wr.frozen? ⟨R,o,none⟩=false:=fun o=>(hin.frozen ⟨R,o,none⟩ (by show R < _;omega)).trans (hf _ (Nat.le_refl _) hR)
      have f0:=hF (j*4)
      have f1:=hF (j*4+1)
      have f2:=hF (j*4+2)
      have HBy:=hd' hby
      have HS:=hd' (marksOf_succ ns j hlt)
      have hle2:=marksOf_le ns (j+1)
      rw [HS.out] at hle2
      generalize marksOf (ns.take j)=mj at *
      clear hin h3 hv0 hv1 hv2 hh hby hF
      have HI3:=hd' (((HI.out.setCell (p:=⟨R,j*4,none⟩) (Nat.le_refl _) hR (.int .i64 (k+mj))).setCell (p:=⟨R,j*4+1,none⟩) (Nat.le_refl _) hR (.int .i64 (k+mj+1))).setCell (p:=⟨R,j*4+2,none⟩) (Nat.le_refl _) hR (.int .i64 (k+mj+1+1)))
      go_wp2_with fail
      refine (markByteS_any A ns[j] c' _ (R+1) B _ (HBy.out.inside HI3.out) (by have:=HI3.out.below.size;omega) (fun p hp hpB=>(HI3.out.frozen p (by omega)).trans (hf p (by omega) hpB)) (by omega) (by omega) (by omega)).mono ?_
      rintro e w4 ⟨rfl,hin4⟩
      have HI4:=hd' (HI3.out.trans (hin4.wider (by omega) (Nat.le_refl _)))
      have HC4:=hd' (fun m=>(hin4.cell (p:=⟨R,m*4+3,none⟩) (.inl (by show R < R+1;omega))))
      clear hin4 hu0 hu1 hu2 hu3 f0 f1 f2
      go_wp2_with fail
      go_roundw
      case rel =>
        refine ⟨j+1,by omega,by go_num,?_,HI4.out,fun m=>(HC4.out m).trans ?_⟩
        · rw [HS.out]
          go_num
        · rw [World.cell?_setCell_other _ _ _ _ (by simp),World.cell?_setCell_other _ _ _ _ (by simp),World.cell?_setCell_other _ _ _ _ (by simp)]
          exact H3.out m
      case measure=>simp [intOf];omega
    · clear hin h3
      have hje:j=ns.length:=by omega
      have HK:=hd' (show k+(marksOf (ns.take j):Int)=k+marksOf ns by rw [hje,List.take_length])
      generalize marksOf (ns.take j)=mj at *
      go_wp2
      go_ret
      exact ⟨ret_int HK.out,HI.out⟩
def IntsFr (w:World) (L B:Nat) (A:Option Addr) (l:List Int):Prop :=
  0 < l.length→∃b o,A=some ⟨b,o,none⟩∧L≤b∧b < B∧∀j (hj:j < l.length),w.cell? ⟨b,o+j,none⟩=some (.int .i64 l[j])∧w.frozen? ⟨b,o+j,none⟩=false
theorem IntsFr.keep {w w':World} {L B:Nat} {A:Option Addr} {l:List Int} (h:IntsFr w L B A l) (hk:∀p:Addr,L≤p.block→p.block < B→w'.cell? p=w.cell? p∧w'.frozen? p=w.frozen? p):IntsFr w' L B A l:=fun hl=>by
  obtain ⟨b,o,e,hL,hb,hc⟩:=h hl
  exact ⟨b,o,e,hL,hb,fun j hj=>⟨(hk _ hL hb).1.trans (hc j hj).1,(hk _ hL hb).2.trans (hc j hj).2⟩⟩
theorem IntsFr.mono {w:World} {L B B':Nat} {A:Option Addr} {l:List Int} (h:IntsFr w L B A l) (hB:B≤B'):IntsFr w L B' A l:=fun hl=>by
  obtain ⟨b,o,e,hL,hb,hc⟩:=h hl
  exact ⟨b,o,e,hL,by omega,hc⟩
theorem IntsFr.low {w:World} {L L' B:Nat} {A:Option Addr} {l:List Int} (h:IntsFr w L B A l) (hL':L'≤L):IntsFr w L' B A l:=fun hl=>by
  obtain ⟨b,o,e,hL,hb,hc⟩:=h hl
  exact ⟨b,o,e,by omega,hb,hc⟩
theorem IntsFr.below {w w':World} {L B:Nat} {A:Option Addr} {l:List Int} (h:IntsFr w L B A l) (hb:Below B w w'):IntsFr w' L B A l:=h.keep fun _ _ hp=>⟨hb.cell hp,hb.frozen hp⟩
set_option maxHeartbeats 400000 in
theorem eqIntS_same (A A':Option Addr) (l:List Int) (c c' L L' B B':Nat) (w:World) (hA:IntsFr w L B A l) (hA':IntsFr w L' B' A' l) (hn:l.length≤1048576) :
    Calls Tryz.prog 127 #[.slice A l.length c,.slice A' l.length c'] w fun e w'=>e=.returned (.bool true)∧Below w.heap.size w w':=by
  go_enter Tryz.func127,Tryz.ntmps127
  go_wp2
  go_loopw [5] (fun i wr=>∃k n:Nat,k≤l.length∧i=.int .i64 k∧wr=w.drewN n) (fun i _=>l.length - (intOf i).toNat)
  case atStart=>exact ⟨0,0,Nat.zero_le _,rfl,rfl⟩
  case round =>
    obtain ⟨k,n,hk,rfl,rfl⟩:=hrel
    by_cases hlt:k < l.length
    · obtain ⟨b,o,rfl,hL,hb,hc⟩:=hA (by omega)
      obtain ⟨b',o',rfl,hL',hb',hc'⟩:=hA' (by omega)
      have h1:=(hc k hlt).1
      have h2:=(hc' k hlt).1
      have hne:(l[k] != l[k])=false:=by simp
      clear hc hc'
      go_wp2_with fail
      go_quiet (fail)
      go_wp2_with fail
      go_roundw
      case rel=>exact ⟨k+1,n+nq,by omega,by go_num,by simp [World.drewN]⟩
      case measure=>simp [intOf];omega
    · go_wp2
      go_ret
      exact ⟨rfl,below_drewN (Below.refl _ _) _⟩
def marks (k:Int) (n:Nat):List Int:=(List.range n).map fun (j:Nat)=>k+(j:Int)
theorem marks_length (k:Int) (n:Nat):(marks k n).length=n:=by simp [marks]
theorem marks_get (k:Int) (n j:Nat) (h:j < (marks k n).length):(marks k n)[j]=k+j:=by simp [marks]
set_option maxHeartbeats 400000 in
theorem markIntS_any (A:Option Addr) (l:List Int) (c L B:Nat) (k:Int) (w:World) (hA:IntsFr w L B A l) (hn:l.length≤1048576) (hk:0≤k) (hk':k≤1000000000) :
    Calls Tryz.prog 96 #[.slice A l.length c,.int .i64 k] w fun e w'=>e=.returned (.int .i64 (k+l.length))∧IntsFr w' L B A (marks k l.length)∧Inside L B w w':=by
  go_enter Tryz.func96,Tryz.ntmps96
  go_wp2
  go_loopw [1,5] (fun x i wr=>∃j:Nat,j≤l.length∧i=.int .i64 j∧x=.int .i64 (k+j)∧Inside L B w wr ∧
    (0 < l.length→∃b o,A=some ⟨b,o,none⟩∧L≤b∧b < B∧∀m (hm:m < l.length),wr.cell? ⟨b,o+m,none⟩=some (.int .i64 (if m < j then k+m else l[m]))∧wr.frozen? ⟨b,o+m,none⟩=false)) (fun _ i _=>l.length - (intOf i).toNat)
  case atStart=>exact ⟨0,Nat.zero_le _,rfl,by simp,Inside.refl _ _ _,fun hl=>by simpa using hA hl⟩
  case round =>
    obtain ⟨j,hj,rfl,rfl,hin,hc⟩:=hrel
    have HI:=hd' hin
    clear hin
    by_cases hlt:j < l.length
    · obtain ⟨b,o,rfl,hL,hb,hc⟩:=hc (by omega)
      have h0:=(hc j hlt).1
      have hf:=(hc j hlt).2
      have HC:=hd' hc
      clear hc
      go_wp2
      go_roundw
      case rel =>
        refine ⟨j+1,by omega,by go_num,by go_num,HI.out.setCell hL hb _,fun _=>⟨b,o,rfl,hL,hb,fun m hm=>⟨?_,?_⟩⟩⟩
        · by_cases e:m=j
          · subst e
            rw [World.cell?_setCell_same _ _ _ h0]
            simp
          · rw [World.cell?_setCell_other _ _ _ _ (by simp),(HC.out m hm).1]
            by_cases e1:m < j
            · simp [e1,show m < j+1 by omega]
            · simp [e1,show ¬ m < j+1 by omega]
        · rw [World.frozen?_setCell]
          exact (HC.out m hm).2
      case measure=>simp [intOf];omega
    · have HC:=hd' hc
      clear hc
      go_wp2
      go_ret
      refine ⟨ret_int (by omega),fun hl=>?_,HI.out⟩
      rw [marks_length] at hl
      obtain ⟨b,o,rfl,hL,hb,hc⟩:=HC.out hl
      refine ⟨b,o,rfl,hL,hb,fun m hm=>?_⟩
      rw [marks_length] at hm
      have:=hc m hm
      rw [if_pos (by omega)] at this
      rw [marks_get]
      exact this
set_option maxHeartbeats 400000 in
theorem heldIntS_any (A:Option Addr) (n c L B:Nat) (k:Int) (w:World) (hA:IntsFr w L B A (marks k n)) (hn:n≤1048576) (hk:0≤k) (hk':k≤1000000000) :
    Calls Tryz.prog 130 #[.slice A n c,.int .i64 k] w fun e w'=>e=.returned (.int .i64 (k+n))∧w=w':=by
  go_enter Tryz.func130,Tryz.ntmps130
  go_wp2
  go_loop [1,5] (fun x i=>∃j:Nat,j≤n∧i=.int .i64 j∧x=.int .i64 (k+j)) (fun _ i=>n - (intOf i).toNat)
  case atStart=>exact ⟨0,Nat.zero_le _,rfl,by simp⟩
  case round =>
    obtain ⟨j,hj,rfl,rfl⟩:=hrel
    by_cases hlt:j < n
    · obtain ⟨b,o,rfl,hL,hb,hc⟩:=hA (by rw [marks_length];omega)
      have h0:=(hc j (by rw [marks_length];omega)).1
      rw [marks_get] at h0
      have hne:((k+(j:Int)) != (k+j))=false:=by simp
      clear hc
      go_wp2
      go_round
      case rel=>exact ⟨j+1,by omega,by go_num,by go_num⟩
      case measure=>simp [intOf];omega
    · go_wp2
      go_ret
      exact ⟨ret_int (by omega),rfl⟩
end Go.Proofs.YtckajeippfpojaaGreat
namespace Go.Proofs.YtckajeippfpojaaGreat
open Go.RowKit Go.Maps
set_option maxRecDepth 100000
def IntsIn (w:World) (L B:Nat) (A:Option Addr) (l:List Int):Prop :=
  0 < l.length→∃b o,A=some ⟨b,o,none⟩∧L≤b∧b < B∧∀j (hj:j < l.length),w.cell? ⟨b,o+j,none⟩=some (.int .i64 l[j])
section
variable {w w':World} {L L' B B':Nat} {A:Option Addr} {l:List Int}
theorem IntsIn.mono (h:IntsIn w L B A l) (hB:B≤B'):IntsIn w L B' A l:=fun hl=>by
  obtain ⟨b,o,e,hL,hb,hc⟩:=h hl
  exact ⟨b,o,e,hL,by omega,hc⟩
theorem IntsIn.low (h:IntsIn w L B A l) (hL':L'≤L):IntsIn w L' B A l:=fun hl=>by
  obtain ⟨b,o,e,hL,hb,hc⟩:=h hl
  exact ⟨b,o,e,by omega,hb,hc⟩
theorem IntsIn.keep (h:IntsIn w L B A l) (hk:∀p:Addr,L≤p.block→p.block < B→w'.cell? p=w.cell? p):IntsIn w' L B A l:=fun hl=>by
  obtain ⟨b,o,e,hL,hb,hc⟩:=h hl
  exact ⟨b,o,e,hL,hb,fun j hj=>(hk _ hL hb).trans (hc j hj)⟩
end
theorem Tryz.infoInt:(Tryz.prog.info? 3).map (fun i=>(i.zero,i.size,i.bytes))=some (some (.int .i64 0),1,8):=by kernel_rfl
theorem run_make_ints (n:Nat) (hn:n≤1048576) (w:World) :
    (Instr.makeSlice 25 (.int .i64 (n:Int)) (.int .i64 (n:Int))).run Tryz.prog w=.ok (.slice (some ⟨w.heap.size,0,none⟩) n n) (w.alloc (.cells (madeCells #[.int .i64 0] n) 3)) :=
  run_make_row' (P:=Tryz.prog) 25 3 (.int .i64 0) 8 Tryz.underlying25 Tryz.infoInt rfl .i64 .i64 n (by omega) (by omega) w
theorem row_shape {w:World} {base:Nat} {e:TypeId} {v:Value} {n:Nat} {xs:List Value} (h:w.ownsRow base e 1 v n xs):∃A c,v=.slice A n c:=by
  obtain ⟨_,h|⟨g,cap,cur,hv,_⟩⟩:=h
  · exact ⟨none,0,by rw [h.1,h.2]⟩
  · exact ⟨_,_,hv⟩
theorem row_shapeN {w:World} {base:Nat} {e:TypeId} {size:Nat} {v:Value} {n:Nat} {xs:List Value} (h:w.ownsRow base e size v n xs):∃A c,v=.slice A n c:=by
  obtain ⟨_,h|⟨g,cap,cur,hv,_⟩⟩:=h
  · exact ⟨none,0,by rw [h.1,h.2]⟩
  · exact ⟨_,_,hv⟩
def vint (x:Int):Value:=.int .i64 x
def NewIntsFr (l:List Int) (w:World) (e:Ending) (w':World):Prop :=
  ∃A c,e=.returned (.slice A l.length c)∧IntsFr w' w.heap.size w'.heap.size A l∧Below w.heap.size w w'
theorem ints_of_row {w:World} {base:Nat} {e:TypeId} {A:Option Addr} {c:Nat} {l:List Int} (h:w.ownsRow base e 1 (.slice A l.length c) l.length (l.map vint)):IntsFr w base w.heap.size A l:=fun hl=>by
  obtain ⟨_,hh|⟨g,cap,cur,hv,hg,hb,_,_,_,htk⟩⟩:=h
  · omega
  · injection hv with h1 _ _
    subst h1
    refine ⟨g,0,rfl,hg,(Array.getElem?_eq_some_iff.1 hb).1,fun i hi=>⟨?_,?_⟩⟩
    · rw [Nat.zero_add]
      have h2:(l.map vint)[i]?=some (vint l[i]):=by simp [hi]
      rw [←htk,Nat.mul_one,List.getElem?_take,if_pos hi] at h2
      rw [World.cell?,hb]
      simpa [vint] using h2
    · simp [World.frozen?,hb]
theorem IntsFr.ints {w:World} {L B:Nat} {A:Option Addr} {l:List Int} (h:IntsFr w L B A l):IntsIn w L B A l:=fun hl=>by
  obtain ⟨b,o,e,hL,hb,hc⟩:=h hl
  exact ⟨b,o,e,hL,hb,fun j hj=>(hc j hj).1⟩
set_option maxHeartbeats 1000000 in
theorem toIntS_fr (A:Option Addr) (l:List Int) (c:Nat) (w:World) (hA:IntsIn w 0 w.heap.size A l) (hn:l.length≤1048576) :
    Calls Tryz.prog 114 #[.slice A l.length c] w fun e w'=>∃g,e=.returned (.slice (some ⟨g,0,none⟩) l.length l.length)∧w.heap.size≤g∧g < w'.heap.size∧IntsFr w' w.heap.size w'.heap.size (some ⟨g,0,none⟩) l∧Below w.heap.size w w':=by
  have HA:=hd' hA
  clear hA
  have hmk:=run_make_ints l.length hn
  go_enter Tryz.func114,Tryz.ntmps114
  go_wp2_with fail
  clear hmk
  have hr0:=World.rowIs_made w (.int .i64 0) l.length 3
  have hb0:Below w.heap.size w (w.alloc (.cells (madeCells #[.int .i64 0] l.length) 3)):=(Below.refl _ _).alloc (Nat.le_refl _) _
  go_loopw [4] (fun x wr=>∃k:Nat,k≤l.length∧x=.int .i64 k∧wr.rowIs w.heap.size 3 l.length (fun j=>.int .i64 (if j < k then l.getD j 0 else 0))∧Below w.heap.size w wr) (fun x _=>l.length - (intOf x).toNat)
  case atStart=>exact ⟨0,Nat.zero_le _,rfl,hr0.congr fun j _=>by simp,hb0⟩
  case round =>
    clear hr0 hb0
    obtain ⟨k,hk,rfl,hrow,hbel⟩:=hrel
    have HRow:=hd' hrow
    have HBel:=hd' hbel
    have hRlt:=hrow.lt
    have hck0:=fun hlt:k < l.length=>hrow.cell hlt
    have hfk:=hrow.frozen k
    clear hrow hbel
    by_cases hlt:k < l.length
    · obtain ⟨b,o,rfl,_,hb,hc⟩:=HA.out (by omega)
      have hcs:=(HBel.out.cell (p:=⟨b,o+k,none⟩) (by show b < _;omega)).trans (hc k hlt)
      have hck:=hck0 hlt
      obtain ⟨x,hx⟩:∃x,x=l[k]:=⟨_,rfl⟩
      have HX:=hd' hx
      rw [←hx] at hcs
      clear hck0 hc hx
      go_wp2_with fail
      go_roundw
      case rel =>
        refine ⟨k+1,by omega,by go_num,(HRow.out.set k _).congr fun j hj=>?_,HBel.out.setCell (Nat.le_refl _) _⟩
        by_cases e:j=k
        · subst e
          simp [HX.out,hlt]
        · rw [if_neg e]
          have:(j < k+1)=(j < k):=by simp;omega
          simp [this]
      case measure=>simp [intOf];omega
    · have hke:k=l.length:=by omega
      have HFr:=hd' (show IntsFr wr w.heap.size wr.heap.size (some ⟨w.heap.size,0,none⟩) l from fun hl=>⟨w.heap.size,0,rfl,Nat.le_refl _,hRlt,fun j hj=>⟨by
        have h:=HRow.out.cell hj
        rw [hke] at h
        simpa [hj] using h,by
        have h:=HRow.out.frozen j
        simpa using h⟩⟩)
      clear hck0
      go_wp2_with fail
      go_ret
      exact ⟨w.heap.size,rfl,Nat.le_refl _,hRlt,HFr.out,HBel.out⟩
end Go.Proofs.YtckajeippfpojaaGreat
namespace Go.Proofs.YtckajeippfpojaaGreat
open Go.ChangeShapes Go.WideShapes Go.ChangeAt Go.RowKit Go.Deep
set_option maxRecDepth 100000
section
variable {H:Type} {enc:TypeId × Value→H} {W:World} {base:Nat} {sp:Nat→Bool} {held:Bool}
theorem open_byteS {v:Value} {d:DataW H} {p:List MemPlace} (hv:Value.okWide Tryz.prog W .any base 61 v) (h:DataW.Trod enc Tryz.prog W 0 sp held 61 v d p) :
    ∃(A:Option Addr) (l:List UInt8) (c:Nat),v=.slice A l.length c∧l.length≤9223372036854775807∧BytesIn W 0 W.heap.size A l:=by
  obtain ⟨A0,n0,c0,rfl⟩:=okWide_slice Tryz.underlying61 hv
  obtain ⟨fuel,hf⟩:=h
  obtain ⟨A,c,l,e,hl,hm,hb⟩:=open_bytes hf
  simp [Value.cells] at e
  obtain ⟨rfl,rfl,rfl⟩:=e
  exact ⟨A0,l,c0,rfl,by unfold maxLen at hm;omega,hb⟩
end
end Go.Proofs.YtckajeippfpojaaGreat
namespace Go.Proofs.YtckajeippfpojaaGreat
open Go.RowKit
set_option maxRecDepth 100000
def BytesFr (w:World) (L B:Nat) (A:Option Addr) (l:List UInt8):Prop :=
  0 < l.length→∃b o,A=some ⟨b,o,none⟩∧L≤b∧b < B∧∀j (hj:j < l.length),w.cell? ⟨b,o+j,none⟩=some (.int .u8 (l[j].toNat:Int))∧w.frozen? ⟨b,o+j,none⟩=false
section
variable {w w':World} {L L' B B':Nat} {A:Option Addr} {l:List UInt8}
theorem BytesFr.keep (h:BytesFr w L B A l) (hk:∀p:Addr,L≤p.block→p.block < B→w'.cell? p=w.cell? p∧w'.frozen? p=w.frozen? p):BytesFr w' L B A l:=fun hl=>by
  obtain ⟨b,o,e,hL,hb,hc⟩:=h hl
  exact ⟨b,o,e,hL,hb,fun j hj=>⟨(hk _ hL hb).1.trans (hc j hj).1,(hk _ hL hb).2.trans (hc j hj).2⟩⟩
theorem BytesFr.mono (h:BytesFr w L B A l) (hB:B≤B'):BytesFr w L B' A l:=fun hl=>by
  obtain ⟨b,o,e,hL,hb,hc⟩:=h hl
  exact ⟨b,o,e,hL,by omega,hc⟩
theorem BytesFr.low (h:BytesFr w L B A l) (hL':L'≤L):BytesFr w L' B A l:=fun hl=>by
  obtain ⟨b,o,e,hL,hb,hc⟩:=h hl
  exact ⟨b,o,e,by omega,hb,hc⟩
theorem BytesFr.below (h:BytesFr w L B A l) (hb:Below B w w'):BytesFr w' L B A l:=h.keep fun _ _ hp=>⟨hb.cell hp,hb.frozen hp⟩
theorem BytesFr.bytes (h:BytesFr w L B A l):BytesIn w L B A l:=fun hl=>by
  obtain ⟨b,o,e,hL,hb,hc⟩:=h hl
  exact ⟨b,o,e,hL,hb,fun j hj=>(hc j hj).1⟩
theorem BytesFr.nil:BytesFr w L B A []:=fun h=>absurd h (by simp)
end
def vbytes (l:List UInt8):List Value:=l.map fun (b:UInt8)=>.int .u8 (b.toNat:Int)
theorem bytes_of_row {w:World} {base:Nat} {A:Option Addr} {c:Nat} {e:TypeId} {l:List UInt8} (h:w.ownsRow base e 1 (.slice A l.length c) l.length (vbytes l)):BytesFr w base w.heap.size A l:=fun hl=>by
  obtain ⟨_,hh|⟨g,cap,cur,hv,hg,hb,_,_,_,htk⟩⟩:=h
  · omega
  · injection hv with h1 _ _
    subst h1
    refine ⟨g,0,rfl,hg,(Array.getElem?_eq_some_iff.1 hb).1,fun i hi=>⟨?_,?_⟩⟩
    · rw [Nat.zero_add]
      have h2:(vbytes l)[i]?=some (.int .u8 (l[i].toNat:Int)):=by simp [vbytes,hi]
      rw [←htk,Nat.mul_one,List.getElem?_take,if_pos hi] at h2
      rw [World.cell?,hb]
      simpa using h2
    · simp [World.frozen?,hb]
theorem owns_empty {w:World} {base g:Nat} {e:TypeId} (hg:base≤g) (hb:w.heap[g]?=some (.cells #[] e (0,0))):w.ownsRow base e 1 (.slice (some ⟨g,0,none⟩) 0 0) 0 [] :=
  ⟨rfl,.inr ⟨g,0,#[],rfl,hg,hb,Nat.le_refl _,by unfold maxLen;omega,rfl,rfl⟩⟩
end Go.Proofs.YtckajeippfpojaaGreat
namespace Go.Proofs.YtckajeippfpojaaGreat
open Go.RowKit
set_option maxRecDepth 100000
def MkFr (w:World) (L B:Nat) (A:Option Addr) (k:Int) (n:Nat):Prop :=
  0 < n→∃b o,A=some ⟨b,o,none⟩∧L≤b∧b < B∧∀j,j < n→w.cell? ⟨b,o+j,none⟩=some (.int .u8 ((k+j) % 256))∧w.frozen? ⟨b,o+j,none⟩=false
theorem MkFr.keep {w w':World} {L B n:Nat} {k:Int} {A:Option Addr} (h:MkFr w L B A k n) (hk:∀p:Addr,L≤p.block→p.block < B→w'.cell? p=w.cell? p∧w'.frozen? p=w.frozen? p):MkFr w' L B A k n:=fun hl=>by
  obtain ⟨b,o,e,hL,hb,hc⟩:=h hl
  exact ⟨b,o,e,hL,hb,fun j hj=>⟨(hk _ hL hb).1.trans (hc j hj).1,(hk _ hL hb).2.trans (hc j hj).2⟩⟩
set_option maxHeartbeats 400000 in
theorem markByteS_fr (A:Option Addr) (l:List UInt8) (c L B:Nat) (k:Int) (w:World) (hA:BytesFr w L B A l) (hn:l.length≤1048576) (hk:0≤k) (hk':k≤1000000000) :
    Calls Tryz.prog 34 #[.slice A l.length c,.int .i64 k] w fun e w'=>e=.returned (.int .i64 (k+l.length))∧MkFr w' L B A k l.length∧Inside L B w w':=by
  go_enter Tryz.func34,Tryz.ntmps34
  go_wp2
  go_loopw [1,5] (fun x i wr=>∃j:Nat,j≤l.length∧i=.int .i64 j∧x=.int .i64 (k+j)∧Inside L B w wr ∧
    (0 < l.length→∃b o,A=some ⟨b,o,none⟩∧L≤b∧b < B∧∀m (hm:m < l.length),wr.cell? ⟨b,o+m,none⟩=some (.int .u8 (if m < j then (k+m) % 256 else (l[m].toNat:Int)))∧wr.frozen? ⟨b,o+m,none⟩=false)) (fun _ i _=>l.length - (intOf i).toNat)
  case atStart=>exact ⟨0,Nat.zero_le _,rfl,by simp,Inside.refl _ _ _,fun hl=>by simpa using hA hl⟩
  case round =>
    obtain ⟨j,hj,rfl,rfl,hin,hc⟩:=hrel
    have HI:=hd' hin
    clear hin
    by_cases hlt:j < l.length
    · obtain ⟨b,o,rfl,hL,hb,hc⟩:=hc (by omega)
      have h0:=(hc j hlt).1
      have hf:=(hc j hlt).2
      have HC:=hd' hc
      clear hc
      go_wp2
      go_roundw
      case rel =>
        refine ⟨j+1,by omega,by go_num,by go_num,HI.out.setCell hL hb _,fun _=>⟨b,o,rfl,hL,hb,fun m hm=>⟨?_,?_⟩⟩⟩
        · by_cases e:m=j
          · subst e
            rw [World.cell?_setCell_same _ _ _ h0]
            simp
          · rw [World.cell?_setCell_other _ _ _ _ (by simp),(HC.out m hm).1]
            by_cases e1:m < j
            · simp [e1,show m < j+1 by omega]
            · simp [e1,show ¬ m < j+1 by omega]
        · rw [World.frozen?_setCell]
          exact (HC.out m hm).2
      case measure=>simp [intOf];omega
    · have HC:=hd' hc
      clear hc
      go_wp2
      go_ret
      refine ⟨ret_int (by omega),fun hl=>?_,HI.out⟩
      obtain ⟨b,o,rfl,hL,hb,hc⟩:=HC.out hl
      refine ⟨b,o,rfl,hL,hb,fun m hm=>?_⟩
      have:=hc m hm
      rwa [if_pos (by omega)] at this
set_option maxHeartbeats 400000 in
theorem heldByteS_any (A:Option Addr) (n c L B:Nat) (k:Int) (w:World) (hA:MkFr w L B A k n) (hn:n≤1048576) (hk:0≤k) (hk':k≤1000000000) :
    Calls Tryz.prog 129 #[.slice A n c,.int .i64 k] w fun e w'=>e=.returned (.int .i64 (k+n))∧w=w':=by
  go_enter Tryz.func129,Tryz.ntmps129
  go_wp2
  go_loop [1,5] (fun x i=>∃j:Nat,j≤n∧i=.int .i64 j∧x=.int .i64 (k+j)) (fun _ i=>n - (intOf i).toNat)
  case atStart=>exact ⟨0,Nat.zero_le _,rfl,by simp⟩
  case round =>
    obtain ⟨j,hj,rfl,rfl⟩:=hrel
    by_cases hlt:j < n
    · obtain ⟨b,o,rfl,hL,hb,hc⟩:=hA (by omega)
      have h0:=(hc j hlt).1
      have hne:((k+(j:Int)) % 256 != (k+j) % 256)=false:=by simp
      clear hc
      go_wp2
      go_round
      case rel=>exact ⟨j+1,by omega,by go_num,by go_num⟩
      case measure=>simp [intOf];omega
    · go_wp2
      go_ret
      exact ⟨ret_int (by omega),rfl⟩
end Go.Proofs.YtckajeippfpojaaGreat
namespace Go.Proofs.YtckajeippfpojaaGreat
open Go.RowKit
set_option maxRecDepth 100000
set_option maxHeartbeats 400000 in
theorem eqByteS_same (A A':Option Addr) (l:List UInt8) (c c' L L' B B':Nat) (w:World) (hA:BytesIn w L B A l) (hA':BytesIn w L' B' A' l) (hn:l.length≤1048576) :
    Calls Tryz.prog 32 #[.slice A l.length c,.slice A' l.length c'] w fun e w'=>e=.returned (.bool true)∧Below w.heap.size w w':=by
  go_enter Tryz.func32,Tryz.ntmps32
  go_wp2
  go_loopw [5] (fun i wr=>∃k n:Nat,k≤l.length∧i=.int .i64 k∧wr=w.drewN n) (fun i _=>l.length - (intOf i).toNat)
  case atStart=>exact ⟨0,0,Nat.zero_le _,rfl,rfl⟩
  case round =>
    obtain ⟨k,n,hk,rfl,rfl⟩:=hrel
    by_cases hlt:k < l.length
    · obtain ⟨b,o,rfl,_,hb,hc⟩:=hA (by omega)
      obtain ⟨b',o',rfl,_,hb',hc'⟩:=hA' (by omega)
      have d0:=hc k hlt
      have d1:=hc' k hlt
      clear hc hc' hA hA'
      go_wp2
      go_quiet (fail)
      go_wp2
      go_roundw
      case rel=>exact ⟨k+1,_,by omega,by go_num,rfl⟩
      case measure=>simp [intOf];omega
    · go_wp2
      go_ret
      exact ⟨rfl,below_drewN (Below.refl _ _) _⟩
set_option maxHeartbeats 400000 in
theorem eqTerm_same (k a b:Int) (A A':Option Addr) (l:List UInt8) (c c' L L' B B':Nat) (w:World) (hA:BytesIn w L B A l) (hA':BytesIn w L' B' A' l) (hB:B≤w.heap.size) (hB':B'≤w.heap.size) (hn:l.length≤1048576) :
    Calls Tryz.prog 126 #[.agg #[.int .i64 k,.int .i64 a,.int .i64 b,.slice A l.length c],.agg #[.int .i64 k,.int .i64 a,.int .i64 b,.slice A' l.length c']] w fun e w'=>e=.returned (.bool true)∧Below w.heap.size w w':=by
  have HA:=hd' hA
  have HA':=hd' hA'
  clear hA hA'
  go_enter Tryz.func126,Tryz.ntmps126
  go_wp2_with fail
  have hbel:Below w.heap.size w ((w.alloc (.cells #[.int .i64 k,.int .i64 a,.int .i64 b,.slice A l.length c] 112)).alloc (.cells #[.int .i64 k,.int .i64 a,.int .i64 b,.slice A' l.length c'] 112)):=((Below.refl _ _).alloc (Nat.le_refl _) _).alloc (by simp) _
  refine (eqByteS_same _ _ _ _ _ L L' B B' _ ?h1 ?h2 hn).mono ?_
  case h1=>exact HA.out.keep fun p _ hp=>hbel.cell (by omega)
  case h2=>exact HA'.out.keep fun p _ hp=>hbel.cell (by omega)
  rintro e w' ⟨rfl,hb⟩
  have HB:=hd' (hbel.trans (hb.mono (by simp;omega)))
  clear hb hbel
  go_wp2
  go_ret
  exact ⟨rfl,HB.out⟩
set_option maxHeartbeats 400000 in
theorem eqTermS_same (A A':Option Addr) (ts:List Tm) (c c' L L' B B':Nat) (w:World) (hA:TmsIn w L B A ts) (hA':TmsIn w L' B' A' ts) (hB:B≤w.heap.size) (hB':B'≤w.heap.size) (hn:ts.length≤1048576) (hbk:bulk ts≤1048576) :
    Calls Tryz.prog 69 #[.slice A ts.length c,.slice A' ts.length c'] w fun e w'=>e=.returned (.bool true)∧Below w.heap.size w w':=by
  go_enter Tryz.func69,Tryz.ntmps69
  go_wp2
  go_loopw [5] (fun i wr=>∃k:Nat,k≤ts.length∧i=.int .i64 k∧Below w.heap.size w wr) (fun i _=>ts.length - (intOf i).toNat)
  case atStart=>exact ⟨0,Nat.zero_le _,rfl,Below.refl _ _⟩
  case round =>
    obtain ⟨k,hk,rfl,hbel⟩:=hrel
    have HBel:=hd' hbel
    by_cases hlt:k < ts.length
    · obtain ⟨b,o,rfl,_,hb,hc⟩:=hA (by omega)
      obtain ⟨b',o',rfl,_,hb',hc'⟩:=hA' (by omega)
      obtain ⟨A1,c1,x0,x1,x2,x3,_,_,hby⟩:=(hc k hlt).keep (by assumption) hb (fun p _ hp=>hbel.cell (by omega))
      obtain ⟨A2,c2,y0,y1,y2,y3,_,_,hby'⟩:=(hc' k hlt).keep (by assumption) hb' (fun p _ hp=>hbel.cell (by omega))
      have HY:=hd' hby
      have HY':=hd' hby'
      have hle:=text_le_bulk ts k hlt
      have hz:=hbel.size
      clear hc hc' hA hA' hbel hby hby'
      go_wp2
      go_still_tail 8,(by kernel_rfl)
      change wpList _ _ _ _ _ wr.drew
      go_wp2_with fail
      refine (eqTerm_same _ _ _ _ _ _ _ _ L L' B B' _ HY.out.drew HY'.out.drew (Nat.le_trans hB hz) (Nat.le_trans hB' hz) (by omega)).mono ?_
      rintro e w1 ⟨rfl,hb1⟩
      have HB:=hd' (HBel.out.drew.trans (hb1.mono hz))
      clear hb1 x0 x1 x2 x3 y0 y1 y2 y3
      go_wp2
      go_roundw
      case rel=>exact ⟨k+1,by omega,by go_num,HB.out⟩
      case measure=>simp [intOf];omega
    · go_wp2
      go_ret
      exact ⟨rfl,hbel⟩
set_option maxHeartbeats 400000 in
theorem eqLedger_same (A A':Option Addr) (ts:List Tm) (c c' L L' B B':Nat) (w:World) (hA:TmsIn w L B A ts) (hA':TmsIn w L' B' A' ts) (hB:B≤w.heap.size) (hB':B'≤w.heap.size) (hn:ts.length≤1048576) (hbk:bulk ts≤1048576) :
    Calls Tryz.prog 18 #[.agg #[.slice A ts.length c],.agg #[.slice A' ts.length c']] w fun e w'=>e=.returned (.bool true)∧Below w.heap.size w w':=by
  have HA:=hd' hA
  have HA':=hd' hA'
  clear hA hA'
  go_enter Tryz.func18,Tryz.ntmps18
  go_wp2_with fail
  have hbel:Below w.heap.size w ((w.alloc (.cells #[.slice A ts.length c] 35)).alloc (.cells #[.slice A' ts.length c'] 35)):=((Below.refl _ _).alloc (Nat.le_refl _) _).alloc (by simp) _
  refine (eqTermS_same _ _ _ _ _ L L' B B' _ ?h1 ?h2 (by simp;omega) (by simp;omega) hn hbk).mono ?_
  case h1=>exact HA.out.keep fun p _ hp=>hbel.cell (by omega)
  case h2=>exact HA'.out.keep fun p _ hp=>hbel.cell (by omega)
  rintro e w' ⟨rfl,hb⟩
  have HB:=hd' (hbel.trans (hb.mono (by simp;omega)))
  clear hb hbel
  go_wp2
  go_ret
  exact ⟨rfl,HB.out⟩
end Go.Proofs.YtckajeippfpojaaGreat
namespace Go.Proofs.YtckajeippfpojaaGreat
open Go.RowKit Go.Maps
set_option maxRecDepth 100000
theorem toByteS_nf (A:Option Addr) (l:List UInt8) (c:Nat) (w:World) (hA:BytesIn w 0 w.heap.size A l) (hn:l.length≤1048576) :
    Calls Tryz.prog 30 #[.slice A l.length c] w fun e w'=>∃g,e=.returned (.slice (some ⟨g,0,none⟩) l.length l.length)∧w.heap.size≤g∧g < w'.heap.size∧BytesFr w' w.heap.size w'.heap.size (some ⟨g,0,none⟩) l∧Below w.heap.size w w' :=
  (toByteS_fr A l c w hA hn).mono fun _ _ ⟨he,hby,hlt,hf,hb⟩=>⟨_,he,Nat.le_refl _,hlt,fun hl=>by
    obtain ⟨b,o,e,hL,hb',hc⟩:=hby hl
    exact ⟨b,o,e,hL,by omega,fun j hj=>⟨hc j hj,hf _ hL⟩⟩,hb⟩
theorem eqByteS_fr (A A':Option Addr) (l:List UInt8) (c c' L L' B B':Nat) (w:World) (hA:BytesFr w L B A l) (hA':BytesFr w L' B' A' l) (hn:l.length≤1048576) :
    Calls Tryz.prog 32 #[.slice A l.length c,.slice A' l.length c'] w fun e w'=>e=.returned (.bool true)∧Below w.heap.size w w' :=
  eqByteS_same A A' l c c' L L' B B' w hA.bytes hA'.bytes hn
end Go.Proofs.YtckajeippfpojaaGreat
namespace Go.Proofs.YtckajeippfpojaaGreat
open Go.RowKit
set_option maxRecDepth 100000
set_option maxHeartbeats 400000 in
theorem szByteS_any (A:Option Addr) (n c:Nat) (left:Int) (w:World) (hn:n≤9223372036854775807) (h0:0≤left) (h1:left≤1048576) :
    Calls Tryz.prog 170 #[.slice A n c,.int .i64 left] w fun e w'=>e=.returned (.int .i64 (szB left n))∧w=w':=by
  go_enter Tryz.func170,Tryz.ntmps170
  go_wp2
  all_goals go_ret
  · exact ⟨by simp [szB, *],rfl⟩
  · exact ⟨by simp [szB];omega,rfl⟩
set_option maxHeartbeats 400000 in
theorem szTerm_any (k a b:Int) (A:Option Addr) (n c:Nat) (left:Int) (w:World) (hn:n≤9223372036854775807) (h0:0≤left) (h1:left≤1048576) :
    Calls Tryz.prog 102 #[.agg #[.int .i64 k,.int .i64 a,.int .i64 b,.slice A n c],.int .i64 left] w fun e w'=>∃r:Int,e=.returned (.int .i64 r)∧SzOk left n r∧Below w.heap.size w w':=by
  go_enter Tryz.func102,Tryz.ntmps102
  have HS:=hd' (szB_ok left n)
  go_wp2_with (go_at_call 170;refine (szByteS_any _ _ _ _ _ hn h0 h1).mono ?_;rintro e w' ⟨rfl,rfl⟩)
  all_goals go_ret
  · have hneg:szB left n < 0:=by assumption
    exact ⟨-1,rfl,HS.out.neg hneg ▸ HS.out,(Below.refl _ _).alloc (Nat.le_refl _) _⟩
  · exact ⟨_,rfl,HS.out,(Below.refl _ _).alloc (Nat.le_refl _) _⟩
set_option maxHeartbeats 400000 in
theorem szTermS_any (A:Option Addr) (ts:List Tm) (c:Nat) (left:Int) (w:World) (hA:TmsIn w 0 w.heap.size A ts) (hn:ts.length≤9223372036854775807) (h0:0≤left) (h1:left≤1048576) :
    Calls Tryz.prog 52 #[.slice A ts.length c,.int .i64 left] w fun e w'=>∃r:Int,e=.returned (.int .i64 r)∧SzOk left (ts.length+bulk ts) r∧Below w.heap.size w w':=by
  go_enter Tryz.func52,Tryz.ntmps52
  by_cases hl:left - ts.length < 0
  · go_wp2
    go_ret
    exact ⟨-1,rfl,.inl rfl,Below.refl _ _⟩
  · have hl':0≤left - ts.length:=by omega
    clear hl
    go_wp2
    go_loopw [1,4,5] (fun l _ i wr=>∃(k:Nat) (r:Int),k≤ts.length∧i=.int .i64 k∧l=.int .i64 r∧0≤r∧r+ts.length+bulk (ts.take k)=left∧Below w.heap.size w wr) (fun _ _ i _=>ts.length - (intOf i).toNat)
    case atStart=>exact ⟨0,_,Nat.zero_le _,rfl,rfl,by omega,by simp [bulk_nil],Below.refl _ _⟩
    case round =>
      obtain ⟨k,r,hk,rfl,rfl,hr,hsum,hbel⟩:=hrel
      have HS:=hd' hsum
      clear hsum
      by_cases hlt:k < ts.length
      · obtain ⟨b,o,rfl,hL,hb,hc⟩:=hA (by omega)
        obtain ⟨A',c',c0,c1,c2,c3,hcap,hmax,hby⟩:=(hc k hlt).below hL hb hbel
        have hle:=text_le_bulk ts k hlt
        have hr1:r≤1048576:=by have:=HS.out;omega
        have hmax':ts[k].text.length≤9223372036854775807:=by unfold maxLen at hmax;omega
        clear hby hc
        go_wp2_with (go_at_call 102;refine (szTerm_any _ _ _ _ _ _ _ _ hmax' hr hr1).mono ?_;rintro e w' ⟨r',rfl,hs,hb'⟩;have HS':=hd' hs;clear hs)
        · have hneg:r' < 0:=by assumption
          go_ret
          exact ⟨-1,rfl,.inl rfl,hbel.trans (hb'.mono hbel.size)⟩
        · have hpos:0≤r':=by assumption
          go_roundw
          case rel=>exact ⟨k+1,r',by omega,by go_num,rfl,hpos,by rw [bulk_take_succ ts k hlt];have:=HS.out;have:=HS'.out;unfold SzOk at this;omega,hbel.trans (hb'.mono hbel.size)⟩
          case measure=>simp [intOf];omega
      · go_wp2
        go_ret
        exact ⟨r,rfl,.inr ⟨hr,by have:=HS.out;rw [List.take_of_length_le (by omega)] at this;omega⟩,hbel⟩
set_option maxHeartbeats 400000 in
theorem szLedger_any (A:Option Addr) (ts:List Tm) (c:Nat) (left:Int) (w:World) (hA:TmsIn w 0 w.heap.size A ts) (hn:ts.length≤9223372036854775807) (h0:0≤left) (h1:left≤1048576) :
    Calls Tryz.prog 12 #[.agg #[.slice A ts.length c],.int .i64 left] w fun e w'=>∃r:Int,e=.returned (.int .i64 r)∧SzOk left (ts.length+bulk ts) r∧Below w.heap.size w w':=by
  go_enter Tryz.func12,Tryz.ntmps12
  have HA:=hd' hA
  clear hA
  go_wp2_with (go_at_call 52;refine (szTermS_any _ _ _ _ _ ?h1 hn h0 h1).mono ?_)
  case h1=>exact (HA.out.below ((Below.refl _ _).alloc (Nat.le_refl _) _)).mono (by simp)
  rintro e w' ⟨r,rfl,hs,hb⟩
  have HS:=hd' hs
  clear hs
  go_wp2
  all_goals go_ret
  · have hneg:r < 0:=by assumption
    exact ⟨-1,rfl,.inl rfl,((Below.refl _ _).alloc (Nat.le_refl _) _).trans (hb.mono (by simp))⟩
  · exact ⟨_,rfl,HS.out,((Below.refl _ _).alloc (Nat.le_refl _) _).trans (hb.mono (by simp))⟩
end Go.Proofs.YtckajeippfpojaaGreat
