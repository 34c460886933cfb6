import Derived.Test.YtckajeippfpojaaGreatZqGB
import Derived.Test.YtckajeippfpojaaGreatZqTrNew
import Derived.Test.YtckajeippfpojaaGreatZqFit
import Derived.Deep.MidRow
namespace Go.Proofs.YtckajeippfpojaaGreat
open Go.RowKit Go.Maps
set_option maxRecDepth 100000
def mmo:List Mn→Nat
  | []=>0
  | m :: ms=>(4+m.vec.length+mo m.es)+mmo ms
theorem mmo_append (xs ys:List Mn):mmo (xs++ys)=mmo xs+mmo ys:=by
  induction xs with
  | nil=>simp [mmo]
  | cons x xs ih=>simp [mmo,ih];omega
theorem mmo_succ (ms:List Mn) (k:Nat) (h:k < ms.length):mmo (ms.take (k+1))=mmo (ms.take k)+(4+ms[k].vec.length+mo ms[k].es):=by
  rw [List.take_succ_eq_append_getElem h,mmo_append]
  simp [mmo]
theorem mmo_le (ms:List Mn) (k:Nat):mmo (ms.take k)≤mmo ms:=by
  have h:=mmo_append (ms.take k) (ms.drop k)
  rw [List.take_append_drop] at h
  omega
theorem mmo_bound:∀(ms:List Mn),mmo ms≤4*ms.length+4*mbulk ms
  | []=>by simp [mmo]
  | m :: ms=>by
    have:=mmo_bound ms
    simp only [mmo,mbulk,List.length_cons,mo]
    omega
structure MkMan (w:World) (R i:Nat) (AV:Option Addr) (cv:Nat) (A:Option Addr) (c:Nat) (m:Mn) (k:Int):Prop where
  c0:w.cell? ⟨R,i*6,none⟩=some (.int .i64 k)
  c1:w.cell? ⟨R,i*6+1,none⟩=some (.int .i64 (k+1))
  c2:w.cell? ⟨R,i*6+2,none⟩=some (.int .i64 (k+1+1))
  c3:w.cell? ⟨R,i*6+3,none⟩=some (.slice AV m.vec.length cv)
  c4:w.cell? ⟨R,i*6+4,none⟩=some (.slice A m.es.length c)
  c5:w.cell? ⟨R,i*6+5,none⟩=some (.int .i64 (k+1+1+1+(m.vec.length:Int)+((mo m.es:Nat):Int)))
def MnsMk (w:World) (L B:Nat) (A:Option Addr) (ms:List Mn) (k:Int):Prop :=
  0 < ms.length→∃(R:Nat) (lo hi:Nat→Nat) (AV:Nat→Option Addr) (cv:Nat→Nat) (AE:Nat→Option Addr) (ce:Nat→Nat),A=some ⟨R,0,none⟩∧MLay L B R ms.length lo hi ∧
    ∀i (hi':i < ms.length),MkMan w R i (AV i) (cv i) (AE i) (ce i) ms[i] (k+((mmo (ms.take i):Nat):Int))∧TrMk w (lo i) (hi i) (AV i) ms[i].vec.length (AE i) ms[i].es (k+((mmo (ms.take i):Nat):Int)+1+1+1)
theorem MkMan.keep {w w':World} {R i cv c:Nat} {AV A:Option Addr} {m:Mn} {k:Int} (h:MkMan w R i AV cv A c m k) (hR:∀o,i*6≤o→o < i*6+6→w'.cell? ⟨R,o,none⟩=w.cell? ⟨R,o,none⟩):MkMan w' R i AV cv A c m k where
  c0:=(hR _ (by omega) (by omega)).trans h.c0
  c1:=(hR _ (by omega) (by omega)).trans h.c1
  c2:=(hR _ (by omega) (by omega)).trans h.c2
  c3:=(hR _ (by omega) (by omega)).trans h.c3
  c4:=(hR _ (by omega) (by omega)).trans h.c4
  c5:=(hR _ (by omega) (by omega)).trans h.c5
theorem MnCell.part {w w':World} {R i cv c:Nat} {AV A:Option Addr} {m:Mn} (h:MnCell w R i AV cv A c m) (hR:∀o,i*6≤o→o < i*6+6→w'.cell? ⟨R,o,none⟩=w.cell? ⟨R,o,none⟩) (hf:∀o,w'.frozen? ⟨R,o,none⟩=w.frozen? ⟨R,o,none⟩):MnCell w' R i AV cv A c m where
  c0:=(hR _ (by omega) (by omega)).trans h.c0
  c1:=(hR _ (by omega) (by omega)).trans h.c1
  c2:=(hR _ (by omega) (by omega)).trans h.c2
  c3:=(hR _ (by omega) (by omega)).trans h.c3
  c4:=(hR _ (by omega) (by omega)).trans h.c4
  c5:=(hR _ (by omega) (by omega)).trans h.c5
  fr o ho:=(hf _).trans (h.fr o ho)
  cb:=h.cb
theorem MnsMk.keep {w w':World} {L B:Nat} {A:Option Addr} {ms:List Mn} {k:Int} (h:MnsMk w L B A ms k) (hk:∀p:Addr,L≤p.block→p.block < B→w'.cell? p=w.cell? p∧w'.frozen? p=w.frozen? p):MnsMk w' L B A ms k:=fun hl=>by
  obtain ⟨R,lo,hi,AV,cv,AE,ce,e,hlay,hc⟩:=h hl
  refine ⟨R,lo,hi,AV,cv,AE,ce,e,hlay,fun i hi'=>⟨(hc i hi').1.keep fun o _ _=>(hk _ hlay.low hlay.up).1,(hc i hi').2.keep fun p hp hq=>hk p ?_ ?_⟩⟩
  · have:=(hlay.at_ i hi').1;omega
  · have:=(hlay.at_ i hi').2.1;omega
theorem MnsMk.mono {w:World} {L L' B B':Nat} {A:Option Addr} {ms:List Mn} {k:Int} (h:MnsMk w L B A ms k) (hL:L'≤L) (hB:B≤B'):MnsMk w L' B' A ms k:=fun hl=>by
  obtain ⟨R,lo,hi,AV,cv,AE,ce,e,hlay,hc⟩:=h hl
  exact ⟨R,lo,hi,AV,cv,AE,ce,e,hlay.mono hL hB,hc⟩
structure Only (R j lo hi:Nat) (a b:World):Prop where
  cell:∀p:Addr,p.block < a.heap.size→(p.block≠R∨p.off < j*6∨j*6+6≤p.off)→(p.block < lo∨hi≤p.block)→b.cell? p=a.cell? p
  frozen:∀p:Addr,p.block < a.heap.size→b.frozen? p=a.frozen? p
  size:a.heap.size≤b.heap.size
theorem Only.refl (R j lo hi:Nat) (a:World):Only R j lo hi a a:=⟨fun _ _ _ _=>rfl,fun _ _=>rfl,Nat.le_refl _⟩
theorem Only.weak {R j lo hi:Nat} {a b:World} (h:Only R j 0 0 a b):Only R j lo hi a b:=⟨fun p hp h1 _=>h.cell p hp h1 (.inr (Nat.zero_le _)),h.frozen,h.size⟩
theorem Only.set {R j lo hi:Nat} {a b:World} (h:Only R j lo hi a b) (o:Nat) (ho:o < 6) (v:Value):Only R j lo hi a (b.setCell ⟨R,j*6+o,none⟩ v) :=
  ⟨fun p hp h1 h2=>(World.cell?_setCell_other _ _ _ _ (by rintro rfl;simp at h1;omega)).trans (h.cell p hp h1 h2),fun p hp=>by rw [World.frozen?_setCell];exact h.frozen p hp,by simpa using h.size⟩
theorem Only.inside {R j lo hi lo' hi':Nat} {a b c:World} (h:Only R j lo hi a b) (hin:Inside lo' hi' b c) (h1:lo≤lo') (h2:hi'≤hi):Only R j lo hi a c :=
  ⟨fun p hp h3 h4=>(hin.cell (by have:=h.size;omega)).trans (h.cell p hp h3 h4),fun p hp=>(hin.frozen p (by have:=h.size;omega)).trans (h.frozen p hp),Nat.le_trans h.size hin.below.size⟩
set_option maxHeartbeats 2000000 in
theorem markManifestS_own (A:Option Addr) (ms:List Mn) (c0 L B:Nat) (k:Int) (w:World) (h:MnsOwn w L B A ms) (hB:B≤w.heap.size) (hn:ms.length≤1048576) (hbk:mbulk ms≤1048576) (hk:0≤k) (hk':k≤40000000) :
    Calls Tryz.prog 47 #[.slice A ms.length c0,.int .i64 k] w fun e w'=>e=.returned (.int .i64 (k+((mmo ms:Nat):Int)))∧MnsMk w' L B A ms k∧Inside L B w w':=by
  by_cases hz:ms.length=0
  · have he:ms=[]:=by cases ms with
      | nil=>rfl
      | cons x xs=>simp at hz
    subst he
    clear hz h
    go_enter Tryz.func47,Tryz.ntmps47
    go_wp2
    go_loopw [1,5] (fun x i wr=>i=.int .i64 0∧x=.int .i64 k∧wr=w) (fun _ _ _=>0)
    case atStart=>exact ⟨rfl,rfl,rfl⟩
    case round =>
      obtain ⟨rfl,rfl,rfl⟩:=hrel
      go_wp2
      go_ret
      exact ⟨ret_int (by simp [mmo]),fun h=>absurd h (by simp),Inside.refl _ _ _⟩
  obtain ⟨R,lo,hi,AV,cv,AE,ce,rfl,hlay,hc⟩:=h (by omega)
  have HC:=hd' hc
  have HLay:=hd' hlay
  have hRB:=hlay.up
  have hmle:mmo ms≤8388608:=by have:=mmo_bound ms;omega
  clear hc hlay hz h
  go_enter Tryz.func47,Tryz.ntmps47
  go_wp2
  go_loopw [1,5] (fun x i wr=>∃j:Nat,j≤ms.length∧i=.int .i64 j∧x=.int .i64 (k+((mmo (ms.take j):Nat):Int))∧Inside L B w wr∧(∀i (hi':i < ms.length),i < j→MkMan wr R i (AV i) (cv i) (AE i) (ce i) ms[i] (k+((mmo (ms.take i):Nat):Int))∧TrMk wr (lo i) (hi i) (AV i) ms[i].vec.length (AE i) ms[i].es (k+((mmo (ms.take i):Nat):Int)+1+1+1))∧(∀i (hi':i < ms.length),j≤i→MnCell wr R i (AV i) (cv i) (AE i) (ce i) ms[i]∧TrOwn wr (lo i) (hi i) (AV i) ms[i].vec (AE i) ms[i].es)) (fun _ i _=>ms.length - (intOf i).toNat)
  case atStart=>exact ⟨0,Nat.zero_le _,rfl,by simp [mmo],Inside.refl _ _ _,fun i _ hi=>absurd hi (by omega),fun i hi _=>HC.out i hi⟩
  case round =>
    obtain ⟨j,hj,rfl,rfl,hin,hmk,hen⟩:=hrel
    have HI:=hd' hin
    have HMk:=hd' hmk
    have HEn:=hd' hen
    have hsz:=hin.below.size
    clear hin hmk hen
    by_cases hlt:j < ms.length
    · obtain ⟨hx,ht⟩:=HEn.out j hlt (Nat.le_refl _)
      have HS:=hd' (mmo_succ ms j hlt)
      have hle2:=mmo_le ms (j+1)
      have hol:=one_le_mbulk ms j hlt
      have hmoe:mo ms[j].es≤4194304:=by unfold mo;omega
      rw [HS.out] at hle2
      have q0:=hx.c0
      have q1:=hx.c1
      have q2:=hx.c2
      have q3:=hx.c3
      have f0:=hx.fr 0 (by omega)
      have f1:=hx.fr 1 (by omega)
      have f2:=hx.fr 2 (by omega)
      rw [Nat.add_zero] at f0
      have HX:=hd' hx
      have HT:=hd' ht
      have hat:=HLay.out.at_ j hlt
      have hRlow:=HLay.out.low
      obtain ⟨mj,hmj⟩:∃mj,mj=mmo (ms.take j):=⟨_,rfl⟩
      rw [←hmj] at hle2 HS ⊢
      have HMj:=hd' hmj
      obtain ⟨K,hK⟩:∃K:Int,K=k+((mj:Nat):Int):=⟨_,rfl⟩
      rw [←hK]
      have hK0:0≤K:=by omega
      have hK1:K≤50000000:=by omega
      have HK:=hd' hK
      clear hx ht hmj hK
      go_wp2_with fail
      obtain ⟨W1,hW1⟩:∃W1,W1=((wr.setCell ⟨R,j*6,none⟩ (.int .i64 K)).setCell ⟨R,j*6+1,none⟩ (.int .i64 (K+1))).setCell ⟨R,j*6+2,none⟩ (.int .i64 (K+1+1)):=⟨_,rfl⟩
      have hO1:Only R j 0 0 wr W1:=by rw [hW1];exact (((Only.refl R j 0 0 wr).set 0 (by omega) _).set 1 (by omega) _).set 2 (by omega) _
      have hI1:Inside L B w W1:=by rw [hW1];exact ((HI.out.setCell (p:=⟨R,j*6,none⟩) hRlow hRB _).setCell (p:=⟨R,j*6+1,none⟩) hRlow hRB _).setCell (p:=⟨R,j*6+2,none⟩) hRlow hRB _
      have d0:W1.cell? ⟨R,j*6,none⟩=some (.int .i64 K):=by rw [hW1,World.cell?_setCell_other _ _ _ _ (by simp),World.cell?_setCell_other _ _ _ _ (by simp),World.cell?_setCell_same _ _ _ q0]
      have d1:W1.cell? ⟨R,j*6+1,none⟩=some (.int .i64 (K+1)):=by rw [hW1,World.cell?_setCell_other _ _ _ _ (by simp),World.cell?_setCell_same _ _ _ ((World.cell?_setCell_other _ _ _ _ (by simp)).trans q1)]
      have d2:W1.cell? ⟨R,j*6+2,none⟩=some (.int .i64 (K+1+1)):=by rw [hW1,World.cell?_setCell_same _ _ _ ((World.cell?_setCell_other _ _ _ _ (by simp)).trans ((World.cell?_setCell_other _ _ _ _ (by simp)).trans q2))]
      have e3:∀o,o≠j*6→o≠j*6+1→o≠j*6+2→W1.cell? ⟨R,o,none⟩=wr.cell? ⟨R,o,none⟩:=fun o h0 h1 h2=>by rw [hW1,World.cell?_setCell_other _ _ _ _ (by intro e;injection e with _ e2;omega),World.cell?_setCell_other _ _ _ _ (by intro e;injection e with _ e2;omega),World.cell?_setCell_other _ _ _ _ (by intro e;injection e with _ e2;omega)]
      have d3:=(e3 (j*6+3) (by omega) (by omega) (by omega)).trans HX.out.c3
      have d4:=(e3 (j*6+4) (by omega) (by omega) (by omega)).trans HX.out.c4
      have d5:=(e3 (j*6+5) (by omega) (by omega) (by omega)).trans HX.out.c5
      have hz1:W1.heap.size=wr.heap.size:=by rw [hW1];simp
      rw [←hW1]
      clear hW1 e3 q0 q1 q2 q3 f0 f1 f2
      have HO1:=hd' hO1
      have HI1:=hd' hI1
      obtain ⟨L1,B1,L2,B2,h1,h2,h3,h4,h5,hvi,hes⟩:=HT.out.keep (w':=W1) fun p hp hq=>⟨hO1.cell p (by omega) (.inl (by omega)) (.inr (Nat.zero_le _)),hO1.frozen p (by omega)⟩
      have HV:=hd' hvi
      have HE:=hd' hes
      clear hvi hes HT hO1 hI1
      refine (markIntS_any (AV j) ms[j].vec (cv j) L1 B1 _ W1 HV.out (by omega) (by omega) (by omega)).mono ?_
      rintro e w1 ⟨rfl,hmk1,hin1⟩
      have HM1:=hd' hmk1
      have HO2:=hd' ((HO1.out.weak:Only R j (lo j) (hi j) wr W1).inside hin1 (by omega) (by omega))
      have hrow:∀o,w1.cell? ⟨R,o,none⟩=W1.cell? ⟨R,o,none⟩:=fun o=>hin1.cell (p:=⟨R,o,none⟩) (by show R < L1∨(B1≤R∧R < _);omega)
      have g0:=(hrow _).trans d0
      have g1:=(hrow _).trans d1
      have g2:=(hrow _).trans d2
      have g3:=(hrow _).trans d3
      have g4:=(hrow _).trans d4
      have g5:=(hrow _).trans d5
      have HI2:=hd' (HI1.out.trans (hin1.wider (by omega) (by omega)))
      have HE1:=hd' (HE.out.keep fun p hp hq=>⟨hin1.cell (by omega),hin1.frozen p (by omega)⟩)
      have hz2:=hin1.below.size
      clear hmk1 hin1 hrow HV HE HI1 HO1 d0 d1 d2 d3 d4 d5
      go_wp2_with fail
      refine (markEntryS_own (AE j) ms[j].es (ce j) L2 B2 _ w1 HE1.out (by omega) (by omega) (by omega) (by omega) (by omega)).mono ?_
      rintro e w2 ⟨rfl,hmk2,hin2⟩
      have HM2:=hd' (show TrMk w2 (lo j) (hi j) (AV j) ms[j].vec.length (AE j) ms[j].es (K+1+1+1) from ⟨((HM1.out.keep fun p hp hq=>⟨hin2.cell (by omega),hin2.frozen p (by omega)⟩).low h1).mono h2,hmk2.mono h3 h4⟩)
      have hrow:∀o,w2.cell? ⟨R,o,none⟩=w1.cell? ⟨R,o,none⟩:=fun o=>hin2.cell (p:=⟨R,o,none⟩) (by show R < L2∨(B2≤R∧R < _);omega)
      have d0:=(hrow _).trans g0
      have d1:=(hrow _).trans g1
      have d2:=(hrow _).trans g2
      have d3:=(hrow _).trans g3
      have d4:=(hrow _).trans g4
      have d5:=(hrow _).trans g5
      have HO3:=hd' (HO2.out.inside hin2 (by omega) (by omega))
      have HI3:=hd' (HI2.out.trans (hin2.wider (by omega) (by omega)))
      have f5:=(HO3.out.frozen ⟨R,j*6+5,none⟩ (by show R < _;omega)).trans (HX.out.fr 5 (by omega))
      have hz3:=hin2.below.size
      clear hmk2 hin2 hrow HM1 HE1 HI2 HO2 g0 g1 g2 g3 g4 g5
      have D0:=hd' d0
      have D1:=hd' d1
      have D2:=hd' d2
      have D3:=hd' d3
      have D4:=hd' d4
      clear d0 d1 d2 d3 d4
      go_wp2_with fail
      have HO4:=hd' (HO3.out.set 5 (by omega) (.int .i64 (K+1+1+1+(ms[j].vec.length:Int)+((mo ms[j].es:Nat):Int))))
      have e5:=World.cell?_setCell_same w2 ⟨R,j*6+5,none⟩ (.int .i64 (K+1+1+1+(ms[j].vec.length:Int)+((mo ms[j].es:Nat):Int))) d5
      have hoth:∀o,o≠j*6+5→(w2.setCell ⟨R,j*6+5,none⟩ (.int .i64 (K+1+1+1+(ms[j].vec.length:Int)+((mo ms[j].es:Nat):Int)))).cell? ⟨R,o,none⟩=w2.cell? ⟨R,o,none⟩:=fun o h=>World.cell?_setCell_other _ _ _ _ (by intro e;injection e with _ e2;omega)
      have HMan:=hd' (show MkMan (w2.setCell ⟨R,j*6+5,none⟩ (.int .i64 (K+1+1+1+(ms[j].vec.length:Int)+((mo ms[j].es:Nat):Int)))) R j (AV j) (cv j) (AE j) (ce j) ms[j] K from ⟨(hoth _ (by omega)).trans D0.out,(hoth _ (by omega)).trans D1.out,(hoth _ (by omega)).trans D2.out,(hoth _ (by omega)).trans D3.out,(hoth _ (by omega)).trans D4.out,e5⟩)
      have HTrk:=hd' (show TrMk (w2.setCell ⟨R,j*6+5,none⟩ (.int .i64 (K+1+1+1+(ms[j].vec.length:Int)+((mo ms[j].es:Nat):Int)))) (lo j) (hi j) (AV j) ms[j].vec.length (AE j) ms[j].es (K+1+1+1) from HM2.out.keep fun p hp hq=>⟨World.cell?_setCell_other _ _ _ _ (by rintro rfl;simp at hp hq;omega),by rw [World.frozen?_setCell]⟩)
      have HI4:=hd' (HI3.out.setCell (p:=⟨R,j*6+5,none⟩) hRlow hRB (.int .i64 (K+1+1+1+(ms[j].vec.length:Int)+((mo ms[j].es:Nat):Int))))
      obtain ⟨W9,hW9⟩:∃W9,W9=w2.setCell ⟨R,j*6+5,none⟩ (.int .i64 (K+1+1+1+(ms[j].vec.length:Int)+((mo ms[j].es:Nat):Int))):=⟨_,rfl⟩
      rw [←hW9] at HO4 HMan HTrk HI4 ⊢
      clear hW9 e5 hoth D0 D1 D2 D3 D4 d5 HM2 HO3 HI3 f5
      go_roundw
      case rel =>
        refine ⟨j+1,by omega,by go_num,by rw [HS.out];have:=HK.out;go_num,HI4.out,fun i hi' hij=>?_,fun i hi' hij=>?_⟩
        · by_cases e:i=j
          · subst e
            rw [←HMj.out,←HK.out]
            exact ⟨HMan.out,HTrk.out⟩
          · obtain ⟨hm,ht⟩:=HMk.out i hi' (by omega)
            have hap:=HLay.out.apart i j (by omega) hlt
            have hai:=HLay.out.at_ i hi'
            exact ⟨hm.keep fun o ho1 ho2=>HO4.out.cell _ (by show R < _;omega) (.inr (by show o < _∨_≤o;omega)) (by show R < _∨_≤R;omega),ht.keep fun p hp hq=>⟨HO4.out.cell p (by omega) (.inl (by omega)) (by omega),HO4.out.frozen p (by omega)⟩⟩
        · obtain ⟨hm,ht⟩:=HEn.out i hi' (by omega)
          have hap:=HLay.out.apart j i (by omega) hi'
          have hai:=HLay.out.at_ i hi'
          exact ⟨hm.part (fun o ho1 ho2=>HO4.out.cell _ (by show R < _;omega) (.inr (by show o < _∨_≤o;omega)) (by show R < _∨_≤R;omega)) fun o=>HO4.out.frozen _ (by show R < _;omega),ht.keep fun p hp hq=>⟨HO4.out.cell p (by omega) (.inl (by omega)) (by omega),HO4.out.frozen p (by omega)⟩⟩
      case measure=>simp [intOf];omega
    · have hje:j=ms.length:=by omega
      have HK:=hd' (show k+((mmo (ms.take j):Nat):Int)=k+((mmo ms:Nat):Int) by rw [hje,List.take_length])
      have HR:=hd' (show MnsMk wr L B (some ⟨R,0,none⟩) ms k from fun _=>⟨R,lo,hi,AV,cv,AE,ce,rfl,HLay.out,fun i hi'=>HMk.out i hi' (by omega)⟩)
      generalize mmo (ms.take j)=mj at *
      go_wp2
      go_ret
      exact ⟨ret_int HK.out,HR.out,HI.out⟩
set_option maxHeartbeats 2000000 in
theorem heldManifestS_own (A:Option Addr) (ms:List Mn) (c0 L B:Nat) (k:Int) (w:World) (h:MnsMk w L B A ms k) (hn:ms.length≤1048576) (hbk:mbulk ms≤1048576) (hk:0≤k) (hk':k≤40000000) :
    Calls Tryz.prog 84 #[.slice A ms.length c0,.int .i64 k] w fun e w'=>e=.returned (.int .i64 (k+((mmo ms:Nat):Int)))∧w=w':=by
  have hmle:mmo ms≤8388608:=by have:=mmo_bound ms;omega
  have HH:=hd' h
  clear h
  go_enter Tryz.func84,Tryz.ntmps84
  go_wp2
  go_loop [1,5] (fun x i=>∃j:Nat,j≤ms.length∧i=.int .i64 j∧x=.int .i64 (k+((mmo (ms.take j):Nat):Int))) (fun _ i=>ms.length - (intOf i).toNat)
  case atStart=>exact ⟨0,Nat.zero_le _,rfl,by simp [mmo]⟩
  case round =>
    obtain ⟨j,hj,rfl,rfl⟩:=hrel
    by_cases hlt:j < ms.length
    · obtain ⟨R,lo,hi,AV,cv,AE,ce,rfl,hlay,hc⟩:=HH.out (by omega)
      obtain ⟨hx,ht⟩:=hc j hlt
      have HS:=hd' (mmo_succ ms j hlt)
      have hle2:=mmo_le ms (j+1)
      have hol:=one_le_mbulk ms j hlt
      have hmoe:mo ms[j].es≤4194304:=by unfold mo;omega
      rw [HS.out] at hle2
      obtain ⟨mj,hmj⟩:∃mj,mj=mmo (ms.take j):=⟨_,rfl⟩
      rw [←hmj] at hle2 HS hx ht ⊢
      obtain ⟨K,hK⟩:∃K:Int,K=k+((mj:Nat):Int):=⟨_,rfl⟩
      rw [←hK] at hx ht ⊢
      have hK0:0≤K:=by omega
      have hK1:K≤50000000:=by omega
      have HK:=hd' hK
      obtain ⟨n,hnn⟩:∃n,n=ms[j].vec.length:=⟨_,rfl⟩
      obtain ⟨me,hme⟩:∃me,me=mo ms[j].es:=⟨_,rfl⟩
      have hn2:n≤1048576:=by omega
      have hm2:me≤4194304:=by omega
      have q0:=hx.c0
      have q1:=hx.c1
      have q2:=hx.c2
      have q3:=hx.c3
      have q4:=hx.c4
      have q5:=hx.c5
      have HV:=hd' ht.1
      have HE:=hd' (show EnsMk w (lo j) (hi j) (AE j) ms[j].es (K+1+1+1+(n:Int)) by rw [hnn];exact ht.2)
      have hes:=fun kk (h1:EnsMk w (lo j) (hi j) (AE j) ms[j].es kk) (h2:0≤kk) (h3:kk≤100000000)=>heldEntryS_own (AE j) ms[j].es (ce j) (lo j) (hi j) kk w h1 (by omega) (by omega) h2 h3
      rw [←hnn] at q3 q5 HV HS
      rw [←hme] at q5 HS hes
      have HEs:=hd' hes
      have e0:(K != K)=false:=by simp
      have e1:((K+1) != (K+1))=false:=by simp
      have e2:((K+1+1) != (K+1+1))=false:=by simp
      have e5:((K+1+1+1+(n:Int)+(me:Int)) != (K+1+1+1+(n:Int)+(me:Int)))=false:=by simp
      have h0:¬ (K+1+1+1+(n:Int)) < 0:=by omega
      have h1:¬ (K+1+1+1+(n:Int)+(me:Int)) < 0:=by omega
      clear hx ht hmj hK hlay hc hnn hme hes
      go_wp2_with fail
      refine (heldIntS_any (AV j) n (cv j) (lo j) (hi j) _ w HV.out hn2 (by omega) (by omega)).mono ?_
      rintro e w1 ⟨rfl,rfl⟩
      go_wp2_with fail
      refine (HEs.out _ HE.out (by omega) (by omega)).mono ?_
      rintro e w1 ⟨rfl,rfl⟩
      go_wp2_with fail
      go_round
      case rel=>exact ⟨j+1,by omega,by go_num,by rw [HS.out];have:=HK.out;go_num⟩
      case measure=>simp [intOf];omega
    · have hje:j=ms.length:=by omega
      have HK:=hd' (show k+((mmo (ms.take j):Nat):Int)=k+((mmo ms:Nat):Int) by rw [hje,List.take_length])
      generalize mmo (ms.take j)=mj at *
      go_wp2
      go_ret
      exact ⟨ret_int HK.out,rfl⟩
def DvMk (w:World) (L B:Nat) (AV:Option Addr) (n:Nat) (A:Option Addr) (es:List En) (AH:Option Addr) (hs:List Mn) (AP:Option Addr) (ps:List Mn) (k:Int):Prop :=
  TrMk w L B AV n A es k∧MnsMk w L B AH hs (k+n+((mo es:Nat):Int))∧MnsMk w L B AP ps (k+n+((mo es:Nat):Int)+((mmo hs:Nat):Int))
def dmo (n:Nat) (es:List En) (hs ps:List Mn):Nat:=n+mo es+mmo hs+mmo ps
theorem DvMk.keep {w w':World} {L B n:Nat} {AV A AH AP:Option Addr} {es:List En} {hs ps:List Mn} {k:Int} (h:DvMk w L B AV n A es AH hs AP ps k) (hk:∀p:Addr,L≤p.block→p.block < B→w'.cell? p=w.cell? p∧w'.frozen? p=w.frozen? p):DvMk w' L B AV n A es AH hs AP ps k :=
  ⟨h.1.keep hk,h.2.1.keep hk,h.2.2.keep hk⟩
section
variable (id:Int) (AV A AH AP:Option Addr) (vec:List Int) (es:List En) (hs ps:List Mn) (al:Bool) (cv c ch cp L B:Nat) (k:Int) (w:World)
set_option maxHeartbeats 2000000 in
theorem markDevice_own (h:DvOwn w L B AV vec A es AH hs AP ps) (hB:B≤w.heap.size) (hv:vec.length≤1048576) (hn:es.length≤1048576) (hbk:ebulk es≤1048576) (hhl:hs.length≤1048576) (hhb:mbulk hs≤1048576) (hpl:ps.length≤1048576) (hpb:mbulk ps≤1048576) (hk:0≤k) (hk':k≤20000000) (hLw:L≤w.heap.size) :
    Calls Tryz.prog 33 #[.agg #[.int .i64 id,.slice AV vec.length cv,.slice A es.length c,.slice AH hs.length ch,.bool al,.slice AP ps.length cp],.int .i64 k] w fun e w'=>e=.returned (.int .i64 (k+((dmo vec.length es hs ps:Nat):Int)))∧DvMk w' L B AV vec.length A es AH hs AP ps k∧Inside L B w w':=by
  have HT:=hd' h
  clear h
  have m1:mo es≤4194304:=by unfold mo;omega
  have m2:=mmo_bound hs
  have m3:=mmo_bound ps
  go_enter Tryz.func33,Tryz.ntmps33
  go_wp2_with fail
  obtain ⟨W,hW⟩:∃W,W=w.alloc (.cells #[.int .i64 id,.slice AV vec.length cv,.slice A es.length c,.slice AH hs.length ch,.bool al,.slice AP ps.length cp] 57):=⟨_,rfl⟩
  have HX:=hd' (show Bx W w.heap.size [.int .i64 id,.slice AV vec.length cv,.slice A es.length c,.slice AH hs.length ch,.bool al,.slice AP ps.length cp] by rw [hW];exact Bx.new' _ _ _ _ rfl)
  have HBel:=hd' (show Below w.heap.size w W by rw [hW];exact (Below.refl _ _).alloc (Nat.le_refl _) _)
  have hz:w.heap.size < W.heap.size:=by rw [hW];simp
  rw [←hW]
  clear hW
  obtain ⟨L1,B1,L2,B2,L3,B3,h1,h2,h3,h4,h5,h6,h7,h8,h9,ha,hb,hc,ht,hh,hp⟩:=HT.out.keep fun p _ hp=>⟨HBel.out.cell (by omega),HBel.out.frozen (by omega)⟩
  have HTr:=hd' ht
  have HHd:=hd' hh
  have HPr:=hd' hp
  have HI0:=hd' ((Inside.refl L B w).grown HBel.out hLw)
  clear ht hh hp HT
  refine (markTree_own AV A vec es cv c L1 B1 k W HTr.out (by omega) hv hn hbk hk (by omega) (by omega)).mono ?_
  rintro e w1 ⟨rfl,hmk,hin⟩
  have hz1:=hin.below.size
  have HX1:=hd' (HX.out.inside hin (.inr ⟨by omega,hz⟩))
  have HMk1:=hd' hmk
  have HI1:=hd' (HI0.out.trans (hin.wider h1 h2))
  have HHd1:=hd' (HHd.out.keep fun p hp hq=>⟨hin.cell (by omega),hin.frozen p (by omega)⟩)
  have HPr1:=hd' (HPr.out.keep fun p hp hq=>⟨hin.cell (by omega),hin.frozen p (by omega)⟩)
  have x3:=HX1.out 3 (by simp)
  simp only [List.getElem_cons_succ,List.getElem_cons_zero] at x3
  have lx:w.heap.size < w1.heap.size:=by omega
  clear hmk hin HX HI0 HHd HPr HTr
  go_wp2_with fail
  refine (markManifestS_own AH hs ch L2 B2 _ w1 HHd1.out (by omega) hhl hhb (by omega) (by omega)).mono ?_
  rintro e w2 ⟨rfl,hmk,hin⟩
  have hz2:=hin.below.size
  have HX2:=hd' (HX1.out.inside hin (.inr ⟨by omega,lx⟩))
  have HMk2:=hd' hmk
  have HT2:=hd' (HMk1.out.keep fun p hp hq=>⟨hin.cell (by omega),hin.frozen p (by omega)⟩)
  have HI2:=hd' (HI1.out.trans (hin.wider h3 h4))
  have HPr2:=hd' (HPr1.out.keep fun p hp hq=>⟨hin.cell (by omega),hin.frozen p (by omega)⟩)
  have x5:=HX2.out 5 (by simp)
  simp only [List.getElem_cons_succ,List.getElem_cons_zero] at x5
  have ly:w.heap.size < w2.heap.size:=by omega
  clear hmk hin HX1 HI1 HHd1 HPr1 HMk1 x3
  go_wp2_with fail
  refine (markManifestS_own AP ps cp L3 B3 _ w2 HPr2.out (by omega) hpl hpb (by omega) (by omega)).mono ?_
  rintro e w3 ⟨rfl,hmk,hin⟩
  have HT3:=hd' (HT2.out.keep fun p hp hq=>⟨hin.cell (by omega),hin.frozen p (by omega)⟩)
  have HH3:=hd' (HMk2.out.keep fun p hp hq=>⟨hin.cell (by omega),hin.frozen p (by omega)⟩)
  have HI3:=hd' (HI2.out.trans (hin.wider h5 h6))
  have HR:=hd' (show DvMk w3 L B AV vec.length A es AH hs AP ps k from ⟨⟨(HT3.out.1.low h1).mono h2,HT3.out.2.mono h1 h2⟩,HH3.out.mono h3 h4,hmk.mono h5 h6⟩)
  clear hmk hin HT2 HMk2 HI2 HPr2 HT3 HH3 x5
  go_wp2_with fail
  go_ret
  exact ⟨ret_int (by unfold dmo;omega),HR.out,HI3.out⟩
set_option maxHeartbeats 2000000 in
theorem heldDevice_own (n:Nat) (h:DvMk w L B AV n A es AH hs AP ps k) (hB:B≤w.heap.size) (hv:n≤1048576) (hn:es.length≤1048576) (hbk:ebulk es≤1048576) (hhl:hs.length≤1048576) (hhb:mbulk hs≤1048576) (hpl:ps.length≤1048576) (hpb:mbulk ps≤1048576) (hk:0≤k) (hk':k≤20000000) :
    Calls Tryz.prog 35 #[.agg #[.int .i64 id,.slice AV n cv,.slice A es.length c,.slice AH hs.length ch,.bool al,.slice AP ps.length cp],.int .i64 k] w fun e w'=>e=.returned (.int .i64 (k+((dmo n es hs ps:Nat):Int)))∧Below w.heap.size w w':=by
  have HT:=hd' h
  clear h
  have m1:mo es≤4194304:=by unfold mo;omega
  have m2:=mmo_bound hs
  have m3:=mmo_bound ps
  go_enter Tryz.func35,Tryz.ntmps35
  go_wp2_with fail
  obtain ⟨W,hW⟩:∃W,W=w.alloc (.cells #[.int .i64 id,.slice AV n cv,.slice A es.length c,.slice AH hs.length ch,.bool al,.slice AP ps.length cp] 57):=⟨_,rfl⟩
  have HX:=hd' (show Bx W w.heap.size [.int .i64 id,.slice AV n cv,.slice A es.length c,.slice AH hs.length ch,.bool al,.slice AP ps.length cp] by rw [hW];exact Bx.new' _ _ _ _ rfl)
  have HBel:=hd' (show Below w.heap.size w W by rw [hW];exact (Below.refl _ _).alloc (Nat.le_refl _) _)
  have hz:w.heap.size < W.heap.size:=by rw [hW];simp
  rw [←hW]
  clear hW
  have HT1:=hd' (HT.out.keep fun p _ hp=>⟨HBel.out.cell (by omega),HBel.out.frozen (by omega)⟩)
  clear HT
  obtain ⟨a1,ha1⟩:∃a:Int,a=k+(n:Int)+((mo es:Nat):Int):=⟨_,rfl⟩
  obtain ⟨a2,ha2⟩:∃a:Int,a=a1+((mmo hs:Nat):Int):=⟨_,rfl⟩
  obtain ⟨a3,ha3⟩:∃a:Int,a=a2+((mmo ps:Nat):Int):=⟨_,rfl⟩
  have n1:¬ a1 < 0:=by omega
  have n2:¬ a2 < 0:=by omega
  have n3:¬ a3 < 0:=by omega
  have b1:a1≤40000000:=by omega
  have b2:a2≤40000000:=by omega
  have HF:=hd' (show a3=k+((dmo n es hs ps:Nat):Int) by unfold dmo;omega)
  have HA1:=hd' ha1
  have HA2:=hd' ha2
  have HA3:=hd' ha3
  have t1:=heldTree_own AV A n es cv c L B k W HT1.out.1 (by omega) hv hn hbk hk (by omega)
  have t2:=fun X (hX:Below w.heap.size W X)=>heldManifestS_own AH hs ch L B _ X (HT1.out.2.1.keep fun p _ hp=>⟨hX.cell (by omega),hX.frozen (by omega)⟩) hhl hhb (by omega) (by omega)
  have t3:=fun X (hX:Below w.heap.size W X)=>heldManifestS_own AP ps cp L B _ X (HT1.out.2.2.keep fun p _ hp=>⟨hX.cell (by omega),hX.frozen (by omega)⟩) hpl hpb (by omega) (by omega)
  rw [←ha1] at t1 t2 t3
  rw [←ha2] at t2 t3
  rw [←ha3] at t3
  have T2:=hd' t2
  have T3:=hd' t3
  clear t2 t3 ha1 ha2 ha3
  refine t1.mono ?_
  rintro e w1 ⟨rfl,hb1⟩
  have HB1:=hd' (hb1.mono (by omega:w.heap.size≤W.heap.size))
  have x3:=(HX.out.below hb1 hz) 3 (by simp)
  simp only [List.getElem_cons_succ,List.getElem_cons_zero] at x3
  have lx:w.heap.size < w1.heap.size:=by have:=hb1.size;omega
  have HX1:=hd' (HX.out.below hb1 hz)
  clear hb1 HX t1
  go_wp2_with fail
  refine (T2.out w1 HB1.out).mono ?_
  rintro e w2 ⟨rfl,rfl⟩
  have x5:=HX1.out 5 (by simp)
  simp only [List.getElem_cons_succ,List.getElem_cons_zero] at x5
  go_wp2_with fail
  refine (T3.out w1 HB1.out).mono ?_
  rintro e w2 ⟨rfl,rfl⟩
  go_wp2_with fail
  go_ret
  exact ⟨ret_int HF.out,HBel.out.trans HB1.out⟩
end
end Go.Proofs.YtckajeippfpojaaGreat
namespace Go.Proofs.YtckajeippfpojaaGreat
open Go.RowKit Go.Maps
set_option maxRecDepth 100000
def noMs:List Mn:=[]
theorem noMs_len:noMs.length≤1048576:=by unfold noMs;simp
theorem noMs_bulk:mbulk noMs≤1048576:=by unfold noMs;simp [mbulk]
def NewDv (id:Int) (vec:List Int) (es:List En) (hs:List Mn) (al:Bool) (ps:List Mn) (w:World) (e:Ending) (w':World):Prop :=
  ∃AV cv A c AH ch AP cp,e=.returned (.agg #[.int .i64 id,.slice AV vec.length cv,.slice A es.length c,.slice AH hs.length ch,.bool al,.slice AP ps.length cp])∧DvOwn w' w.heap.size w'.heap.size AV vec A es AH hs AP ps∧w.heap.size < w'.heap.size∧Below w.heap.size w w'
def NewDvB (id:Int) (vec:List Int) (es:List En) (hs:List Mn) (al:Bool) (ps:List Mn) (b:Bool) (w:World) (e:Ending) (w':World):Prop :=
  ∃AV cv A c AH ch AP cp,e=.returned (.tuple #[.agg #[.int .i64 id,.slice AV vec.length cv,.slice A es.length c,.slice AH hs.length ch,.bool al,.slice AP ps.length cp],.bool b])∧DvOwn w' w.heap.size w'.heap.size AV vec A es AH hs AP ps∧w.heap.size < w'.heap.size∧Below w.heap.size w w'
theorem dv_none (w:World) (L B:Nat) (h:L≤B):DvOwn w L B none [] none [] none [] none [] :=
  ⟨L,L,L,L,L,L,Nat.le_refl _,h,Nat.le_refl _,h,Nat.le_refl _,h,.inl (Nat.le_refl _),.inl (Nat.le_refl _),.inl (Nat.le_refl _),Nat.le_refl _,Nat.le_refl _,Nat.le_refl _,⟨L,L,L,L,Nat.le_refl _,Nat.le_refl _,Nat.le_refl _,Nat.le_refl _,.inl (Nat.le_refl _),fun h=>absurd h (by simp),.nil⟩,.nil,.nil⟩
end Go.Proofs.YtckajeippfpojaaGreat
namespace Go.Proofs.YtckajeippfpojaaGreat
open Go.RowKit Go.Maps
set_option maxRecDepth 100000
def d43 (id:Int):List Value:=[.int .i64 id,.int .i64 0,.int .i64 0,.int .i64 0,.int .i64 0,.slice none 0 0,.int .i64 0,.int .i64 0,.int .i64 0,.int .i64 0,.int .i64 0,.int .i64 0,.int .i64 0,.slice none 0 0,.int .i64 0,.int .i64 0,.int .i64 0,.int .i64 0,.int .i64 0,.int .i64 0,.int .i64 0,.int .i64 0,.slice none 0 0,.int .i64 0,.int .i64 0,.int .i64 0,.int .i64 0,.int .i64 0,.int .i64 0,.int .i64 0,.int .i64 0,.slice none 0 0,.int .i64 0,.int .i64 0,.int .i64 0,.int .i64 0,.int .i64 0,.int .i64 0,.int .i64 0,.int .i64 0,.slice none 0 0,.int .i64 0,.slice none 0 0]
theorem d43_len (id:Int):(d43 id).length=43:=rfl
theorem bx_range {w:World} {b:Nat} {l:List Value} (h:Bx w b l):w.rangeAt b 0 l:=fun j v hv=>by
  have hj:j < l.length:=(List.getElem?_eq_some_iff.1 hv).1
  have h0:=h j hj
  have he:l[j]=v:=by rw [List.getElem?_eq_getElem hj] at hv;exact Option.some.inj hv
  rw [←he,Nat.zero_add];exact h0
theorem range_below {w w':World} {b B:Nat} {l:List Value} (h:w.rangeAt b 0 l) (hb:Below B w w') (hlt:b < B):w'.rangeAt b 0 l:=fun j v hv=>(hb.cell (p:=⟨b,0+j,none⟩) hlt).trans (h j v hv)
theorem u43:(Tryz.prog.underlying 129).map TypeDesc.isRow=some true:=by kernel_rfl
theorem i43:(Tryz.prog.info? 129).map (·.size)=some 43:=by kernel_rfl
def LA43 (v:Value):Sem Value:=Instr.loadAt 129 v
def LV43 (p:Addr):Sem Value:=loadVar 129 p
theorem la43_name (v:Value):Instr.loadAt 129 v=LA43 v:=rfl
theorem lv43_name (p:Addr):loadVar 129 p=LV43 p:=rfl
def z36:List Value:=[.int .i64 0,.int .i64 0,.int .i64 0,.int .i64 0,.int .i64 0,.int .i64 0,.int .i64 0,.slice none 0 0,.int .i64 0,.int .i64 0,.int .i64 0,.int .i64 0,.int .i64 0,.int .i64 0,.int .i64 0,.int .i64 0,.slice none 0 0,.int .i64 0,.int .i64 0,.int .i64 0,.int .i64 0,.int .i64 0,.int .i64 0,.int .i64 0,.int .i64 0,.slice none 0 0,.int .i64 0,.int .i64 0,.int .i64 0,.int .i64 0,.int .i64 0,.int .i64 0,.int .i64 0,.int .i64 0,.slice none 0 0,.int .i64 0]
theorem u36:(Tryz.prog.underlying 126).map TypeDesc.isRow=some true:=by kernel_rfl
theorem i36:(Tryz.prog.info? 126).map (·.size)=some 36:=by kernel_rfl
def LA36 (v:Value):Sem Value:=Instr.loadAt 126 v
def LV36 (p:Addr):Sem Value:=loadVar 126 p
theorem la36_name (v:Value):Instr.loadAt 126 v=LA36 v:=rfl
theorem lv36_name (p:Addr):loadVar 126 p=LV36 p:=rfl
def z9:Value:=.agg #[.int .i64 0,.int .i64 0,.int .i64 0,.int .i64 0,.int .i64 0,.int .i64 0,.int .i64 0,.slice none 0 0,.int .i64 0]
end Go.Proofs.YtckajeippfpojaaGreat
