import Derived.Test.YtckajeippfpojaaGreatZqRdTr
namespace Go.Proofs.YtckajeippfpojaaGreat
open Go.RowKit Go.Maps
set_option maxRecDepth 100000 in
set_option maxHeartbeats 1000000 in
theorem notNamed1_any (e:En) (p:Nat) (Ab:Option Addr) (l:List UInt8) (cb:Nat) (w:World) (hp:w.cell? ⟨p,0,none⟩=some (.slice Ab l.length cb)) (hB:BytesIn w 0 w.heap.size Ab l) :
    Calls Tryz.prog 184 #[ev e,.pointer (some ⟨p,0,none⟩)] w fun r w'=>r=.returned (.bool !(e.name == l))∧Below w.heap.size w w':=by
  have HB:=hd' hB
  have hps:=World.block_lt_of_cell? w _ hp
  have HP:=hd' hp
  obtain ⟨n1,v1,d1,m1⟩:=e
  unfold ev
  simp only
  clear hB hp
  go_enter Tryz.func184,Tryz.ntmps184
  obtain ⟨W,hW⟩:∃W,W=w.alloc (.cells #[.string ⟨n1.toArray⟩,.int .i64 v1,.int .i64 d1,.int .i64 m1] 192):=⟨_,rfl⟩
  have hz:w.heap.size < W.heap.size:=by rw [hW];simp
  have HBel:=hd' (show Below w.heap.size w W by rw [hW];exact (Below.refl _ _).alloc (Nat.le_refl _) _)
  have k1:=run_str (w:=W) (((HB.out.keep fun p _ hp=>HBel.out.cell hp).mono (by omega)):BytesIn W 0 W.heap.size Ab l) cb
  have p0:=(HBel.out.cell (p:=⟨p,0,none⟩) hps).trans HP.out
  have x0:W.cell? ⟨w.heap.size,0,none⟩=some (.string ⟨n1.toArray⟩):=by rw [hW];simp
  rw [hW] at k1 p0 x0
  go_wp2_with fail
  go_ret
  rw [hW] at HBel
  exact ⟨ret_bool (a:=!(n1 == l)) rfl,HBel.out⟩
def notName (l:List UInt8) (es:List En):List En:=es.filter fun e=>!(e.name == l)
theorem notName_succ (l:List UInt8) (es:List En) (k:Nat) (hk:k < es.length):notName l (es.take (k+1))=notName l (es.take k)++(if es[k].name == l then [] else [es[k]]):=by
  unfold notName
  rw [List.take_succ_eq_append_getElem hk,List.filter_append]
  congr 1
  by_cases h:es[k].name == l <;> simp [h]
theorem notName_le (l:List UInt8) (es:List En):(notName l es).length≤es.length:=List.length_filter_le _ _
end Go.Proofs.YtckajeippfpojaaGreat
