import Derived.Test.YtckajeippfpojaaGreatZqLok
import Derived.Laws.RangeAny
import Derived.Laws.RangeString
import Derived.Laws.BytesString
import Derived.Lib.OthersKept
import Derived.Outline
namespace Go.Proofs.YtckajeippfpojaaGreat
open Go.RowKit Go.Maps
set_option maxRecDepth 100000
def badRune (r:Int):Bool:=decide (r≤32) || r == 47 || r == 126 || r == 65533
theorem badRune_false {r:Int} (h:badRune r=false):¬ r≤32∧(r == 47)=false∧(r == 126)=false∧(r == 65533)=false:=by
  simp [badRune] at h
  simp
  omega
def scan (s:ByteArray):Nat→Nat→Nat→Option Nat
  | 0,_,n=>some n
  | f+1,pos,n=>if pos < s.size then (if badRune (Utf8.decode s pos).1=true then none else scan s f (pos+(Utf8.decode s pos).2) (n+1)) else some n
theorem wd_pos (s:ByteArray) (pos:Nat) (h:pos < s.size):1≤(Utf8.decode s pos).2:=by
  by_cases ha:(s[pos]'h).toNat < 128
  · rw [decode_ascii s pos h ha]
    exact Nat.le_refl _
  · exact (decode_high s pos h (by omega)).2
theorem scan_end (s:ByteArray) (f pos n:Nat) (h:¬ pos < s.size):scan s f pos n=some n:=by
  cases f with
  | zero=>rfl
  | succ f=>simp [scan,h]
def nameB (l:List UInt8):Bool:=match scan ⟨l.toArray⟩ l.length 0 0 with
  | none=>false
  | some n=>decide (1≤n) && decide (n≤6) && decide (l.length≤24)
set_option maxHeartbeats 1000000 in
theorem specNameOk_any (A:Option Addr) (l:List UInt8) (c:Nat) (w:World) (hA:BytesIn w 0 w.heap.size A l) (hn:l.length≤9223372036854775807) :
    Calls Tryz.prog 133 #[.slice A l.length c] w fun e w'=>e=.returned (.bool (nameB l))∧Below w.heap.size w w':=by
  have hcv:=run_str hA c
  have hsz:(⟨l.toArray⟩:ByteArray).size=l.length:=by simp [ByteArray.size]
  have HSz:=hd' hsz
  have hnb:nameB l=match scan ⟨l.toArray⟩ l.length 0 0 with
    | none=>false
    | some n=>decide (1≤n) && decide (n≤6) && decide (l.length≤24):=rfl
  obtain ⟨s,hs⟩:∃s:ByteArray,s=⟨l.toArray⟩:=⟨_,rfl⟩
  rw [←hs] at hcv HSz hnb
  have HNb:=hd' hnb
  clear hsz hs hA hnb
  go_enter Tryz.func133,Tryz.ntmps133
  go_wp2_with fail
  go_loopw [3] (fun x wr=>∃pos f n:Nat,wr=w.iter s pos∧x=.int .i64 n∧scan s f pos n=scan s l.length 0 0∧s.size≤pos+f∧n≤pos) (fun _ wr=>s.size - wr.iterPos w.heap.size)
  case atStart=>exact ⟨0,l.length,0,rfl,rfl,rfl,by rw [HSz.out];omega,Nat.le_refl _⟩
  case round =>
    obtain ⟨pos,f,n,rfl,rfl,hsc,hf,hnp⟩:=hrel
    have HSc:=hd' hsc
    clear hsc
    by_cases hp:pos < s.size
    · have hlt:s.size≤9223372036854775807:=by rw [HSz.out];exact hn
      have hwd:=wd_pos s pos hp
      obtain ⟨wd,hwe⟩:∃wd,wd=(Utf8.decode s pos).2:=⟨_,rfl⟩
      obtain ⟨r,hr⟩:∃r,r=(Utf8.decode s pos).1:=⟨_,rfl⟩
      have hnx:∀ty,(Instr.next (.pointer (some ⟨w.heap.size,0,none⟩)) true ty).run Tryz.prog (w.iter s pos)=_:=fun ty=>run_next_any w s pos ty hp
      rw [←hwe] at hwd
      rw [←hwe,←hr] at hnx
      obtain ⟨f',rfl⟩:∃f',f=f'+1:=⟨f - 1,by omega⟩
      have HSt:=hd' (show scan s (f'+1) pos n=if badRune r=true then none else scan s f' (pos+wd) (n+1) by rw [scan,if_pos hp,hr,hwe])
      clear hwe hr
      cases hb:badRune r with
      | true =>
        have HF:=hd' (show nameB l=false by
          have h:=HSc.out
          rw [HSt.out,if_pos hb] at h
          rw [HNb.out,←h])
        have h4:r=65533∨r≤32∨r=47∨r=126:=by simp [badRune] at hb;omega
        clear hb HNb
        by_cases t0:r=65533
        · subst t0
          go_wp2_with fail
          go_ret
          exact ⟨ret_bool (a:=false) HF.out.symm,(Below.refl _ _).alloc (Nat.le_refl _) _⟩
        have u0:(r == 65533)=false:=by simpa using t0
        clear t0
        by_cases t1:(r:Int)≤32
        · go_wp2_with fail
          go_ret
          exact ⟨ret_bool (a:=false) HF.out.symm,(Below.refl _ _).alloc (Nat.le_refl _) _⟩
        by_cases t2:r=47
        · subst t2
          go_wp2_with fail
          go_ret
          exact ⟨ret_bool (a:=false) HF.out.symm,(Below.refl _ _).alloc (Nat.le_refl _) _⟩
        have u2:(r == 47)=false:=by simpa using t2
        clear t2
        obtain rfl:r=126:=by
          simp at *
          omega
        go_wp2_with fail
        go_ret
        exact ⟨ret_bool (a:=false) HF.out.symm,(Below.refl _ _).alloc (Nat.le_refl _) _⟩
      | false =>
        have HS:=hd' (show scan s f' (pos+wd) (n+1)=scan s l.length 0 0 by
          have h:=HSc.out
          rw [HSt.out,hb] at h
          simpa using h)
        obtain ⟨h1,h2,h3,h4⟩:=badRune_false hb
        clear hb
        go_wp2_with fail
        go_roundw
        case rel=>exact ⟨pos+wd,f',n+1,rfl,by go_num,HS.out,by omega,by omega⟩
        case measure=>simp;omega
    · have hnx:∀ty,(Instr.next (.pointer (some ⟨w.heap.size,0,none⟩)) true ty).run Tryz.prog (w.iter s pos)=_:=fun ty=>run_next_end w s pos ty hp
      have HV:=hd' (show nameB l=(decide (1≤n) && decide (n≤6) && decide (l.length≤24)) by
        have h:=HSc.out
        rw [scan_end s f pos n hp] at h
        rw [HNb.out,←h])
      by_cases k1:(1:Int)≤n
      · by_cases k2:(n:Int)≤6
        · by_cases k3:(l.length:Int)≤24
          · have HV':=hd' (show nameB l=true by rw [HV.out];simp;omega)
            go_wp2_with fail
            go_ret
            exact ⟨ret_bool (a:=true) HV'.out.symm,(Below.refl _ _).alloc (Nat.le_refl _) _⟩
          · have HV':=hd' (show nameB l=false by rw [HV.out];simp;omega)
            go_wp2_with fail
            go_ret
            exact ⟨ret_bool (a:=false) HV'.out.symm,(Below.refl _ _).alloc (Nat.le_refl _) _⟩
        · have HV':=hd' (show nameB l=false by rw [HV.out];simp;omega)
          go_wp2_with fail
          go_ret
          exact ⟨ret_bool (a:=false) HV'.out.symm,(Below.refl _ _).alloc (Nat.le_refl _) _⟩
      · have HV':=hd' (show nameB l=false by rw [HV.out];simp;omega)
        go_wp2_with fail
        go_ret
        exact ⟨ret_bool (a:=false) HV'.out.symm,(Below.refl _ _).alloc (Nat.le_refl _) _⟩
set_option maxHeartbeats 1000000 in
theorem implNameOk_any (A:Option Addr) (l:List UInt8) (c:Nat) (w:World) (hA:BytesIn w 0 w.heap.size A l) (hn:l.length≤9223372036854775807) :
    Calls Tryz.prog 142 #[.slice A l.length c] w fun e w'=>e=.returned (.bool (nameB l))∧Below w.heap.size w w':=by
  have hcv:=run_str hA c
  have hsz:(⟨l.toArray⟩:ByteArray).size=l.length:=by simp [ByteArray.size]
  have HSz:=hd' hsz
  have hnb:nameB l=match scan ⟨l.toArray⟩ l.length 0 0 with
    | none=>false
    | some n=>decide (1≤n) && decide (n≤6) && decide (l.length≤24):=rfl
  obtain ⟨s,hs⟩:∃s:ByteArray,s=⟨l.toArray⟩:=⟨_,rfl⟩
  rw [←hs] at hcv HSz hnb
  have HNb:=hd' hnb
  clear hsz hs hA hnb
  go_enter Tryz.func142,Tryz.ntmps142
  by_cases h24:(24:Int) < l.length
  · have HF:=hd' (show nameB l=false by
      rw [HNb.out]
      split
      · rfl
      · simp;omega)
    go_wp2_with fail
    go_ret
    exact ⟨ret_bool (a:=false) HF.out.symm,Below.refl _ _⟩
  have H24:=hd' (show l.length≤24 by omega)
  go_wp2_with fail
  go_loopw [3] (fun x wr=>∃pos f n:Nat,wr=w.iter s pos∧x=.int .i64 n∧scan s f pos n=scan s l.length 0 0∧s.size≤pos+f∧n≤pos) (fun _ wr=>s.size - wr.iterPos w.heap.size)
  case atStart=>exact ⟨0,l.length,0,rfl,rfl,rfl,by rw [HSz.out];omega,Nat.le_refl _⟩
  case round =>
    obtain ⟨pos,f,n,rfl,rfl,hsc,hf,hnp⟩:=hrel
    have HSc:=hd' hsc
    clear hsc
    by_cases hp:pos < s.size
    · have hlt:s.size≤9223372036854775807:=by rw [HSz.out];exact hn
      have hwd:=wd_pos s pos hp
      obtain ⟨wd,hwe⟩:∃wd,wd=(Utf8.decode s pos).2:=⟨_,rfl⟩
      obtain ⟨r,hr⟩:∃r,r=(Utf8.decode s pos).1:=⟨_,rfl⟩
      have hnx:∀ty,(Instr.next (.pointer (some ⟨w.heap.size,0,none⟩)) true ty).run Tryz.prog (w.iter s pos)=_:=fun ty=>run_next_any w s pos ty hp
      rw [←hwe] at hwd
      rw [←hwe,←hr] at hnx
      obtain ⟨f',rfl⟩:∃f',f=f'+1:=⟨f - 1,by omega⟩
      have HSt:=hd' (show scan s (f'+1) pos n=if badRune r=true then none else scan s f' (pos+wd) (n+1) by rw [scan,if_pos hp,hr,hwe])
      clear hwe hr
      cases hb:badRune r with
      | true =>
        have HF:=hd' (show nameB l=false by
          have h:=HSc.out
          rw [HSt.out,if_pos hb] at h
          rw [HNb.out,←h])
        have h4:r=65533∨r≤32∨r=47∨r=126:=by simp [badRune] at hb;omega
        clear hb HNb
        by_cases t0:(r:Int)≤32
        · go_wp2_with fail
          go_ret
          exact ⟨ret_bool (a:=false) HF.out.symm,(Below.refl _ _).alloc (Nat.le_refl _) _⟩
        by_cases t1:r=47
        · subst t1
          go_wp2_with fail
          go_ret
          exact ⟨ret_bool (a:=false) HF.out.symm,(Below.refl _ _).alloc (Nat.le_refl _) _⟩
        have u1:(r == 47)=false:=by simpa using t1
        clear t1
        by_cases t2:r=126
        · subst t2
          go_wp2_with fail
          go_ret
          exact ⟨ret_bool (a:=false) HF.out.symm,(Below.refl _ _).alloc (Nat.le_refl _) _⟩
        have u2:(r == 126)=false:=by simpa using t2
        clear t2
        obtain rfl:r=65533:=by
          simp at *
          omega
        go_wp2_with fail
        go_ret
        exact ⟨ret_bool (a:=false) HF.out.symm,(Below.refl _ _).alloc (Nat.le_refl _) _⟩
      | false =>
        have HS:=hd' (show scan s f' (pos+wd) (n+1)=scan s l.length 0 0 by
          have h:=HSc.out
          rw [HSt.out,hb] at h
          simpa using h)
        obtain ⟨h1,h2,h3,h4⟩:=badRune_false hb
        clear hb
        go_wp2_with fail
        go_roundw
        case rel=>exact ⟨pos+wd,f',n+1,rfl,by go_num,HS.out,by omega,by omega⟩
        case measure=>simp;omega
    · have hnx:∀ty,(Instr.next (.pointer (some ⟨w.heap.size,0,none⟩)) true ty).run Tryz.prog (w.iter s pos)=_:=fun ty=>run_next_end w s pos ty hp
      have HV:=hd' (show nameB l=(decide (1≤n) && decide (n≤6) && decide (l.length≤24)) by
        have h:=HSc.out
        rw [scan_end s f pos n hp] at h
        rw [HNb.out,←h])
      by_cases k1:(1:Int)≤n
      · by_cases k2:(n:Int)≤6
        · have HV':=hd' (show nameB l=true by have:=H24.out;rw [HV.out];simp;omega)
          go_wp2_with fail
          go_ret
          exact ⟨ret_bool (a:=true) HV'.out.symm,(Below.refl _ _).alloc (Nat.le_refl _) _⟩
        · have HV':=hd' (show nameB l=false by rw [HV.out];simp;omega)
          go_wp2_with fail
          go_ret
          exact ⟨ret_bool (a:=false) HV'.out.symm,(Below.refl _ _).alloc (Nat.le_refl _) _⟩
      · have HV':=hd' (show nameB l=false by rw [HV.out];simp;omega)
        go_wp2_with fail
        go_ret
        exact ⟨ret_bool (a:=false) HV'.out.symm,(Below.refl _ _).alloc (Nat.le_refl _) _⟩
end Go.Proofs.YtckajeippfpojaaGreat
