import Derived.Test.YtckajeippfpojaaGreatZqOkSpec
import Derived.Lib.BufferRead
namespace Go.Proofs.YtckajeippfpojaaGreat
open Go.RowKit
set_option maxHeartbeats 1000000 in
theorem l1keyed_any (ts:List Tm) (t:Tm) (A A':Option Addr) (c c' L B:Nat) (w:World) (hA:TmsIn w L B A ts) (hB:B≤w.heap.size) (hok:(t.kind=5∨t.kind=6)→0≤t.a∧t.a < ts.length) (hn:ts.length≤1048576) :
    Calls Tryz.prog 106 #[.agg #[.slice A ts.length c],.agg #[.int .i64 t.kind,.int .i64 t.a,.int .i64 t.b,.slice A' t.text.length c']] w fun e w'=>e=.returned (.bool (keyedB ts t))∧Below w.heap.size w w':=by
  obtain ⟨k,a,b,l⟩:=t
  simp only at *
  by_cases h5:k=5∨k=6
  · obtain ⟨h0,h1⟩:=hok h5
    obtain ⟨i,rfl⟩:=Int.eq_ofNat_of_zero_le h0
    obtain ⟨bb,o,rfl,_,hb,hc⟩:=hA (by omega)
    obtain ⟨A1,c1,x0,_⟩:=hc i (by omega)
    have hK:Hid (keyedB ts ⟨k,i,b,l⟩=((ts[i]'(by omega)).kind == 1)):=by
      unfold Hid keyedB
      rcases h5 with rfl|rfl <;> simp [show i < ts.length by omega]
    have hx0:∀o1 o2,((w.alloc o1).alloc o2).cell? ⟨bb,o+i*4,none⟩=some (.int .i64 (ts[i]'(by omega)).kind):=fun o1 o2=>(((Below.refl w.heap.size w).alloc (Nat.le_refl _) o1).alloc (by simp) o2).cell (p:=⟨bb,o+i*4,none⟩) (by show bb < _;omega) |>.trans x0
    clear hA hc x0 hok
    rcases h5 with rfl|rfl
    all_goals
      go_enter Tryz.func106,Tryz.ntmps106
      go_wp2
      go_ret
      exact ⟨ret_bool hK.out.symm,((Below.refl _ _).alloc (Nat.le_refl _) _).alloc (by simp) _⟩
  · have hK:Hid (keyedB ts ⟨k,a,b,l⟩=true):=by
      unfold Hid keyedB
      simp;omega
    have h5':(k != 5)=true:=by simp;omega
    have h6':(k != 6)=true:=by simp;omega
    clear hA h5 hok
    go_enter Tryz.func106,Tryz.ntmps106
    go_wp2
    go_ret
    exact ⟨ret_bool hK.out.symm,((Below.refl _ _).alloc (Nat.le_refl _) _).alloc (by simp) _⟩
theorem run_str {w:World} {L B:Nat} {A:Option Addr} {l:List UInt8} (h:BytesIn w L B A l) (c:Nat) :
    (convert 61 9 (.slice A l.length c)).run Tryz.prog w=.ok (.string ⟨l.toArray⟩) w:=by
  cases A with
  | none =>
    obtain rfl:l=[]:=by
      cases l with
      | nil=>rfl
      | cons x xs=>obtain ⟨b,o,e,_⟩:=h (by simp);cases e
    exact Lib.run_convert_nil_bytes w 61 9 5 c Tryz.underlying61 Tryz.underlying5 Tryz.underlying9
  | some ad =>
    refine run_convert_bytes_back w 61 9 5 ad c l Tryz.underlying61 Tryz.underlying5 Tryz.underlying9 fun j hj=>?_
    obtain ⟨b,o,e,_,_,hc⟩:=h (by omega)
    cases e
    rw [Addr.add_lit]
    exact hc j hj
set_option maxHeartbeats 1000000 in
theorem l1same_any (t t':Tm) (A A':Option Addr) (c c' L L' B B':Nat) (w:World) (hA:BytesIn w L B A t.text) (hA':BytesIn w L' B' A' t'.text) (hB:B≤w.heap.size) (hB':B'≤w.heap.size) :
    Calls Tryz.prog 107 #[.agg #[.int .i64 t.kind,.int .i64 t.a,.int .i64 t.b,.slice A t.text.length c],.agg #[.int .i64 t'.kind,.int .i64 t'.a,.int .i64 t'.b,.slice A' t'.text.length c']] w fun e w'=>e=.returned (.bool (decide (t=t')))∧Below w.heap.size w w':=by
  obtain ⟨k,a,b,l⟩:=t
  obtain ⟨k',a',b',l'⟩:=t'
  simp only at *
  have s1:∀o1 o2,(convert 61 9 (.slice A l.length c)).run Tryz.prog ((w.alloc o1).alloc o2)=.ok (.string ⟨l.toArray⟩) ((w.alloc o1).alloc o2):=fun o1 o2 =>
    run_str (hA.keep fun p _ hp=>(((Below.refl w.heap.size w).alloc (Nat.le_refl _) o1).alloc (by simp) o2).cell (by omega)) c
  have s2:∀o1 o2,(convert 61 9 (.slice A' l'.length c')).run Tryz.prog ((w.alloc o1).alloc o2)=.ok (.string ⟨l'.toArray⟩) ((w.alloc o1).alloc o2):=fun o1 o2 =>
    run_str (hA'.keep fun p _ hp=>(((Below.refl w.heap.size w).alloc (Nat.le_refl _) o1).alloc (by simp) o2).cell (by omega)) c'
  clear hA hA'
  go_enter Tryz.func107,Tryz.ntmps107
  go_wp2
  all_goals go_ret
  all_goals refine ⟨ret_bool ?_,((Below.refl _ _).alloc (Nat.le_refl _) _).alloc (by simp) _⟩
  all_goals first|(simp_all;done)|(rw [Bool.eq_iff_iff];simp_all;done)
end Go.Proofs.YtckajeippfpojaaGreat
