import Derived.Test.YtckajeippfpojaaGreatZqCmp
import Derived.Test.YtckajeippfpojaaGreatZqGVec
import Derived.BigQuiet
namespace Go.Proofs.YtckajeippfpojaaGreat
open Go.RowKit Go.Maps
set_option maxRecDepth 100000
def devB (x:Int):Bool:=decide (0≤x) && decide (x < 4)
set_option maxHeartbeats 1000000 in
theorem isDevice_any (x:Int) (w:World):Calls Tryz.prog 141 #[.int .i64 x] w fun e w'=>e=.returned (.bool (devB x))∧w=w':=by
  have HD:=hd' (show devB x=(decide (0≤x) && decide (x < 4)) from rfl)
  go_enter Tryz.func141,Tryz.ntmps141
  by_cases h0:0≤x
  · by_cases h1:x < 4
    · have HV:=hd' (show devB x=true by rw [HD.out];simp [h0,h1])
      go_wp2_with fail
      go_ret
      exact ⟨ret_bool (a:=true) HV.out.symm,rfl⟩
    · have HV:=hd' (show devB x=false by rw [HD.out];simp;omega)
      go_wp2_with fail
      go_ret
      exact ⟨ret_bool (a:=false) HV.out.symm,rfl⟩
  · have HV:=hd' (show devB x=false by rw [HD.out];simp;omega)
    go_wp2_with fail
    go_ret
    exact ⟨ret_bool (a:=false) HV.out.symm,rfl⟩
def knowB (a b c d dev num:Int):Bool:=decide (num≤nth4 a b c d dev.toNat)
set_option maxHeartbeats 2000000 in
theorem knows_any (a b c d dev num:Int) (w:World) (h0:0≤dev) (h1:dev < 4) :
    Calls Tryz.prog 193 #[v4 a b c d,.agg #[.int .i64 dev,.int .i64 num]] w fun e w'=>e=.returned (.bool (knowB a b c d dev num))∧Below w.heap.size w w':=by
  have HK:=hd' (show knowB a b c d dev num=decide (num≤nth4 a b c d dev.toNat) from rfl)
  obtain ⟨k,rfl⟩:∃k:Nat,dev=k:=⟨dev.toNat,by omega⟩
  have hk:k=0∨k=1∨k=2∨k=3:=by omega
  clear h0 h1
  unfold v4
  rcases hk with rfl|rfl|rfl|rfl
  all_goals
    simp only [Int.toNat_natCast] at HK
    go_enter Tryz.func193,Tryz.ntmps193
    go_wp2_with fail
    go_quiet (fail)
    go_wp2_with fail
    go_ret
    exact ⟨ret_bool (by rw [HK.out];simp [nth4]),below_drewN (((Below.refl _ _).alloc (Nat.le_refl _) _).alloc (by simp) _) _⟩
def fitB (a b c d:Int) (e:En):Bool:=decide (0≤e.val) && decide (e.val≤999) && devB e.dev && decide (1≤e.num) && knowB a b c d e.dev e.num
set_option maxHeartbeats 2000000 in
theorem fits_any (a b c d:Int) (u:Value) (e:En) (w:World) :
    Calls Tryz.prog 201 #[.agg #[.int .i64 a,.int .i64 b,.int .i64 c,.int .i64 d,u],ev e] w fun r w'=>r=.returned (.bool (fitB a b c d e))∧Below w.heap.size w w':=by
  obtain ⟨n1,v1,d1,m1⟩:=e
  have HF:=hd' (show fitB a b c d ⟨n1,v1,d1,m1⟩=(decide (0≤v1) && decide (v1≤999) && devB d1 && decide (1≤m1) && knowB a b c d d1 m1) from rfl)
  unfold ev
  simp only
  have hdev:=fun W=>isDevice_any d1 W
  have HDev:=hd' hdev
  clear hdev
  by_cases h0:0≤v1
  · by_cases h9:v1≤999
    · cases hd:devB d1 with
      | false =>
        rw [hd] at HDev
        have HV:=hd' (show fitB a b c d ⟨n1,v1,d1,m1⟩=false by rw [HF.out];simp [hd])
        clear hd
        go_enter Tryz.func201,Tryz.ntmps201
        go_wp2_with fail
        refine (HDev.out _).mono ?_
        rintro r w1 ⟨rfl,rfl⟩
        go_wp2_with fail
        go_ret
        exact ⟨ret_bool (a:=false) HV.out.symm,((Below.refl _ _).alloc (Nat.le_refl _) _).alloc (by simp) _⟩
      | true =>
        rw [hd] at HDev
        have hr:0≤d1∧d1 < 4:=by simpa [devB] using hd
        obtain ⟨hr0,hr1⟩:=hr
        by_cases h1:1≤m1
        · have HV:=hd' (show fitB a b c d ⟨n1,v1,d1,m1⟩=knowB a b c d d1 m1 by rw [HF.out];simp [hd,h0,h9,h1])
          have hkn:=fun W=>knows_any a b c d d1 m1 W hr0 hr1
          unfold v4 at hkn
          have HKn:=hd' hkn
          obtain ⟨kb,hkb⟩:∃kb,kb=knowB a b c d d1 m1:=⟨_,rfl⟩
          rw [←hkb] at HKn HV
          clear hd hkn hkb
          go_enter Tryz.func201,Tryz.ntmps201
          go_wp2_with fail
          refine (HDev.out _).mono ?_
          rintro r w1 ⟨rfl,rfl⟩
          go_wp2_with fail
          refine (HKn.out _).mono ?_
          rintro r w1 ⟨rfl,hb⟩
          have HB:=hd' ((show Below w.heap.size w _ from ((Below.refl _ _).alloc (Nat.le_refl _) _).alloc (by simp) _).trans (hb.mono (by simp;omega)))
          clear hb
          go_wp2_with fail
          go_ret
          exact ⟨ret_bool HV.out.symm,HB.out⟩
        · have HV:=hd' (show fitB a b c d ⟨n1,v1,d1,m1⟩=false by rw [HF.out];simp [h1])
          clear hd
          go_enter Tryz.func201,Tryz.ntmps201
          go_wp2_with fail
          refine (HDev.out _).mono ?_
          rintro r w1 ⟨rfl,rfl⟩
          go_wp2_with fail
          go_ret
          exact ⟨ret_bool (a:=false) HV.out.symm,((Below.refl _ _).alloc (Nat.le_refl _) _).alloc (by simp) _⟩
    · have HV:=hd' (show fitB a b c d ⟨n1,v1,d1,m1⟩=false by rw [HF.out];simp [h9])
      go_enter Tryz.func201,Tryz.ntmps201
      go_wp2_with fail
      go_ret
      exact ⟨ret_bool (a:=false) HV.out.symm,((Below.refl _ _).alloc (Nat.le_refl _) _).alloc (by simp) _⟩
  · have HV:=hd' (show fitB a b c d ⟨n1,v1,d1,m1⟩=false by rw [HF.out];simp [h0])
    go_enter Tryz.func201,Tryz.ntmps201
    go_wp2_with fail
    go_ret
    exact ⟨ret_bool (a:=false) HV.out.symm,((Below.refl _ _).alloc (Nat.le_refl _) _).alloc (by simp) _⟩
end Go.Proofs.YtckajeippfpojaaGreat
