import Derived.Test.YtckajeippfpojaaGreatZqCmp
namespace Go.Proofs.YtckajeippfpojaaGreat
open Go.RowKit Go.Maps
theorem cb_self (a:List UInt8):Lib.compareBytes a a=0:=by
  induction a with
  | nil=>rfl
  | cons x a ih=>simp [Lib.compareBytes,ih]
theorem cb_eq:∀(a b:List UInt8),Lib.compareBytes a b=0→a=b
  | [],[],_=>rfl
  | [],_ :: _,h=>by simp [Lib.compareBytes] at h
  | _ :: _,[],h=>by simp [Lib.compareBytes] at h
  | x :: a,y :: b,h=>by
    unfold Lib.compareBytes at h
    split at h
    · simp at h
    · split at h
      · simp at h
      · rename_i h1 h2
        have hxy:x=y:=by
          rw [UInt8.lt_iff_toNat_lt] at h1 h2
          exact UInt8.toNat_inj.1 (by omega)
        rw [hxy,cb_eq a b h]
theorem cb_trans:∀(a b c:List UInt8),
    (Lib.compareBytes a b < 0→Lib.compareBytes b c≤0→Lib.compareBytes a c < 0)∧(Lib.compareBytes a b≤0→Lib.compareBytes b c < 0→Lib.compareBytes a c < 0) ∧
    (Lib.compareBytes a b=0→Lib.compareBytes b c=0→Lib.compareBytes a c=0)∧(0 < Lib.compareBytes a b→0≤Lib.compareBytes b c→0 < Lib.compareBytes a c)∧(0≤Lib.compareBytes a b→0 < Lib.compareBytes b c→0 < Lib.compareBytes a c)
  | [],[],[]=>by simp [Lib.compareBytes]
  | [],[],_ :: _=>by simp [Lib.compareBytes]
  | [],_ :: _,[]=>by simp [Lib.compareBytes]
  | _ :: _,[],[]=>by simp [Lib.compareBytes]
  | [],_ :: _,_ :: _=>by simp [Lib.compareBytes]
  | _ :: _,[],_ :: _=>by simp [Lib.compareBytes]
  | _ :: _,_ :: _,[]=>by simp [Lib.compareBytes]
  | x :: a,y :: b,z :: c=>by
    obtain ⟨h1,h2,h3,h4,h5⟩:=cb_trans a b c
    unfold Lib.compareBytes
    simp only [UInt8.lt_iff_toNat_lt]
    generalize x.toNat=p
    generalize y.toNat=q
    generalize z.toNat=r
    refine ⟨?_,?_,?_,?_,?_⟩ <;> (intro g1 g2;repeat (first|omega|(split at g1 <;> try omega)|(split at g2 <;> try omega)|(split <;> try omega)))
theorem cb_anti:∀(a b:List UInt8),Lib.compareBytes b a = - Lib.compareBytes a b
  | [],[]=>rfl
  | [],_ :: _=>rfl
  | _ :: _,[]=>rfl
  | x :: a,y :: b=>by
    have h:=cb_anti a b
    unfold Lib.compareBytes
    simp only [UInt8.lt_iff_toNat_lt]
    generalize x.toNat=p
    generalize y.toNat=q
    repeat (first|omega|(split <;> try omega))
theorem pla_neg (e f:En):plaV e f < 0 ↔ Lib.compareBytes e.name f.name < 0∨(Lib.compareBytes e.name f.name=0∧(f.num < e.num∨(f.num=e.num∧e.dev < f.dev))):=by
  unfold plaV or3 cmpI
  generalize Lib.compareBytes e.name f.name=c
  simp only [bne_iff_ne,ne_eq]
  repeat (first|omega|(split <;> try omega))
theorem pla_zero (e f:En):plaV e f=0 ↔ e.name=f.name∧e.num=f.num∧e.dev=f.dev:=by
  have h1:Lib.compareBytes e.name f.name=0 ↔ e.name=f.name:=⟨cb_eq _ _,fun h=>by rw [h];exact cb_self _⟩
  rw [←h1]
  unfold plaV or3 cmpI
  generalize Lib.compareBytes e.name f.name=c
  simp only [bne_iff_ne,ne_eq]
  repeat (first|omega|(split <;> try omega))
theorem pla_anti (e f:En):plaV f e = - plaV e f:=by
  unfold plaV or3 cmpI
  rw [cb_anti e.name f.name]
  generalize Lib.compareBytes e.name f.name=c
  simp only [bne_iff_ne,ne_eq]
  repeat (first|omega|(split <;> try omega))
theorem pla_trans {e f g:En} (h1:plaV e f < 0) (h2:plaV f g < 0):plaV e g < 0:=by
  rw [pla_neg] at *
  obtain ⟨t1,t2,t3,_,_⟩:=cb_trans e.name f.name g.name
  rcases h1 with h1|⟨h1,k1⟩ <;> rcases h2 with h2|⟨h2,k2⟩
  · exact .inl (t1 h1 (by omega))
  · exact .inl (t1 h1 (by omega))
  · exact .inl (t2 (by omega) h2)
  · exact .inr ⟨t3 h1 h2,by omega⟩
def InOrd (l:List En):Prop:=l.Pairwise fun e f=>plaV e f < 0
theorem ord_one:∀{l m:List En},l.Perm m→InOrd l→InOrd m→l=m
  | [],m,h,_,_=>by rw [List.nil_perm] at h;exact h.symm
  | e :: l,[],h,_,_=>absurd h.length_eq (by simp)
  | e :: l,f :: m,h,h1,h2=>by
    unfold InOrd at h1 h2
    rw [List.pairwise_cons] at h1 h2
    have hef:e=f:=by
      have he:e∈f :: m:=h.mem_iff.1 (by simp)
      have hf:f∈e :: l:=h.mem_iff.2 (by simp)
      rcases List.mem_cons.1 he with he|he
      · exact he
      · rcases List.mem_cons.1 hf with hf|hf
        · exact hf.symm
        · have k1:=h2.1 e he
          have k2:=h1.1 f hf
          have:=pla_anti e f
          omega
    subst hef
    rw [ord_one ((List.perm_cons e).1 h) h1.2 h2.2]
end Go.Proofs.YtckajeippfpojaaGreat
