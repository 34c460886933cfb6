import Derived.Test.YtckajeippfpojaaGreatZqOpen
namespace Go.Proofs.YtckajeippfpojaaGreat
open Go.RowKit Go.Maps
def verB (ts:List Tm) (key sig msg:Int):Bool:=hasB ts.length sig && ((tmAt ts sig).kind == 6) && ((tmAt ts sig).a == key) && ((tmAt ts sig).b == msg)
section
variable (A:Option Addr) (ts:List Tm) (c L B:Nat) (key sig msg:Int) (w:World)
set_option maxRecDepth 100000 in
set_option maxHeartbeats 1000000 in
theorem l1verify_any (hA:TmsIn w L B A ts) (hB:B≤w.heap.size) (hn:ts.length≤1048576) :
    Calls Tryz.prog 137 #[.agg #[.slice A ts.length c],.int .i64 key,.int .i64 sig,.int .i64 msg] w fun e w'=>e=.returned (.bool (verB ts key sig msg))∧Below w.heap.size w w':=by
  have HA:=hd' hA
  clear hA
  by_cases hr:0≤sig∧sig < ts.length
  · obtain ⟨i,rfl⟩:=Int.eq_ofNat_of_zero_le hr.1
    have hi:i < ts.length:=by omega
    obtain ⟨b,o,rfl,hL,hb,hc⟩:=HA.out (by omega)
    obtain ⟨A1,c1,y0,y1,y2,_⟩:=hc i hi
    have x0:∀o1,(w.alloc o1).cell? ⟨b,o+i*4,none⟩=some (.int .i64 ts[i].kind):=fun o1=>(World.cell?_alloc_lt _ _ _ (by show b < _;omega)).trans y0
    have x1:∀o1,(w.alloc o1).cell? ⟨b,o+i*4+1,none⟩=some (.int .i64 ts[i].a):=fun o1=>(World.cell?_alloc_lt _ _ _ (by show b < _;omega)).trans y1
    have x2:∀o1,(w.alloc o1).cell? ⟨b,o+i*4+2,none⟩=some (.int .i64 ts[i].b):=fun o1=>(World.cell?_alloc_lt _ _ _ (by show b < _;omega)).trans y2
    have HV:=hd' (show verB ts key i msg=(ts[i].kind == 6 && ts[i].a == key && ts[i].b == msg) by simp [verB,tmAt_nat ts i hi,(hasB_iff ts.length i).2 hr])
    clear hc hr y0 y1 y2
    cases hk:(ts[i].kind == 6) with
    | false =>
      have HK:=hd' hk
      go_enter Tryz.func137,Tryz.ntmps137
      go_wp2_with fail
      all_goals go_ret
      all_goals exact ⟨ret_bool (by rw [HV.out,HK.out];simp),(Below.refl _ _).alloc (Nat.le_refl _) _⟩
    | true =>
      have HK:=hd' hk
      cases ha:(ts[i].a == key) with
      | false =>
        have HKa:=hd' ha
        go_enter Tryz.func137,Tryz.ntmps137
        go_wp2_with fail
        all_goals go_ret
        all_goals exact ⟨ret_bool (by rw [HV.out,HKa.out];simp),(Below.refl _ _).alloc (Nat.le_refl _) _⟩
      | true =>
        have HKa:=hd' ha
        go_enter Tryz.func137,Tryz.ntmps137
        go_wp2_with fail
        all_goals go_ret
        all_goals exact ⟨ret_bool (by rw [HV.out,HK.out,HKa.out];simp),(Below.refl _ _).alloc (Nat.le_refl _) _⟩
  · have HV:=hd' (show verB ts key sig msg=false by
      have:hasB ts.length sig=false:=by rw [←Bool.not_eq_true,hasB_iff];exact hr
      simp [verB,this])
    by_cases h0:sig < 0
    · clear hr
      go_enter Tryz.func137,Tryz.ntmps137
      go_wp2_with fail
      all_goals go_ret
      all_goals exact ⟨ret_bool HV.out.symm,(Below.refl _ _).alloc (Nat.le_refl _) _⟩
    · have h1:(ts.length:Int)≤sig:=by omega
      have h0':0≤sig:=by omega
      clear hr h0
      go_enter Tryz.func137,Tryz.ntmps137
      go_wp2_with fail
      all_goals go_ret
      all_goals exact ⟨ret_bool HV.out.symm,(Below.refl _ _).alloc (Nat.le_refl _) _⟩
end
end Go.Proofs.YtckajeippfpojaaGreat
