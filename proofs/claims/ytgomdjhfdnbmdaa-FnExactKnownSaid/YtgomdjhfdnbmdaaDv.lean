/-
  A device: a tree, two lists of manifests. The law's reckoning of its size, its copy, its comparison.
-/
import Derived.Test.YtgomdjhfdnbmdaaMn
namespace Go.Proofs.Ytgomdjhfdnbmdaa
open Go.RowKit Go.Maps

theorem Bx.put_else {w : World} {b b' o : Nat} {us vs : List Value} (h : Bx w b us) (hne : b ≠ b') : Bx (putAll b' o vs w) b us := fun j hj => (putAll_other hne).trans (h j hj)

/-- A device that was made, its parts apart. -/
def DvOwn (w : World) (L B : Nat) (AV : Option Addr) (vec : List Int) (A : Option Addr) (es : List En) (AH : Option Addr) (hs : List Mn) (AP : Option Addr) (ps : List Mn) : Prop :=
  ∃ L1 B1 L2 B2 L3 B3, L ≤ L1 ∧ B1 ≤ B ∧ L ≤ L2 ∧ B2 ≤ B ∧ L ≤ L3 ∧ B3 ≤ B ∧ (B1 ≤ L2 ∨ B2 ≤ L1) ∧ (B1 ≤ L3 ∨ B3 ≤ L1) ∧ (B2 ≤ L3 ∨ B3 ≤ L2) ∧ L1 ≤ B1 ∧ L2 ≤ B2 ∧ L3 ≤ B3 ∧ TrOwn w L1 B1 AV vec A es ∧ MnsOwn w L2 B2 AH hs ∧ MnsOwn w L3 B3 AP ps
section
variable {w w' : World} {L L' B B' : Nat} {AV A AH AP : Option Addr} {vec : List Int} {es : List En} {hs ps : List Mn}
theorem DvOwn.keep (h : DvOwn w L B AV vec A es AH hs AP ps) (hk : ∀ p : Addr, L ≤ p.block → p.block < B → w'.cell? p = w.cell? p ∧ w'.frozen? p = w.frozen? p) : DvOwn w' L B AV vec A es AH hs AP ps := by
  obtain ⟨L1, B1, L2, B2, L3, B3, h1, h2, h3, h4, h5, h6, h7, h8, h9, ha, hb, hc, ht, hh, hp⟩ := h
  exact ⟨L1, B1, L2, B2, L3, B3, h1, h2, h3, h4, h5, h6, h7, h8, h9, ha, hb, hc, ht.keep fun p hp hq => hk p (by omega) (by omega), hh.keep fun p hp hq => hk p (by omega) (by omega), hp.keep fun p hp hq => hk p (by omega) (by omega)⟩
theorem DvOwn.mono (h : DvOwn w L B AV vec A es AH hs AP ps) (hL : L' ≤ L) (hB : B ≤ B') : DvOwn w L' B' AV vec A es AH hs AP ps := by
  obtain ⟨L1, B1, L2, B2, L3, B3, h1, h2, h3, h4, h5, h6, h7, h8, h9, ha, hb, hc, ht, hh, hp⟩ := h
  exact ⟨L1, B1, L2, B2, L3, B3, by omega, by omega, by omega, by omega, by omega, by omega, h7, h8, h9, ha, hb, hc, ht, hh, hp⟩
theorem DvOwn.tree (h : DvOwn w L B AV vec A es AH hs AP ps) : TrOwn w L B AV vec A es := by
  obtain ⟨L1, B1, L2, B2, L3, B3, h1, h2, h3, h4, h5, h6, h7, h8, h9, ha, hb, hc, ht, hh, hp⟩ := h
  exact ht.mono h1 h2
theorem DvOwn.heads (h : DvOwn w L B AV vec A es AH hs AP ps) : MnsOwn w L B AH hs := by
  obtain ⟨L1, B1, L2, B2, L3, B3, h1, h2, h3, h4, h5, h6, h7, h8, h9, ha, hb, hc, ht, hh, hp⟩ := h
  exact hh.mono h3 h4
theorem DvOwn.proof (h : DvOwn w L B AV vec A es AH hs AP ps) : MnsOwn w L B AP ps := by
  obtain ⟨L1, B1, L2, B2, L3, B3, h1, h2, h3, h4, h5, h6, h7, h8, h9, ha, hb, hc, ht, hh, hp⟩ := h
  exact hp.mono h5 h6
end

/-- What a device holds, as the law reckons it. -/
def dsz (vec : List Int) (es : List En) (hs ps : List Mn) : Nat := (vec.length + (es.length + ebulk es)) + ((hs.length + mbulk hs) + (ps.length + mbulk ps))

set_option maxRecDepth 100000 in
set_option maxHeartbeats 1000000 in
theorem szDevice_any (id : Int) (AV : Option Addr) (vec : List Int) (cv : Nat) (A : Option Addr) (es : List En) (c : Nat) (AH : Option Addr) (hs : List Mn) (ch : Nat) (al : Bool) (AP : Option Addr) (ps : List Mn) (cp : Nat) (left : Int) (w : World) (hA : EnsIn w 0 w.heap.size A es) (hH : MnsIn w 0 w.heap.size AH hs) (hP : MnsIn w 0 w.heap.size AP ps) (hv : vec.length ≤ 9223372036854775807) (hn : es.length ≤ 9223372036854775807) (hbn : ∀ i (hi : i < es.length), es[i].name.length ≤ 9223372036854775807) (hhl : hs.length ≤ 9223372036854775807) (hhn : MnsSz hs) (hpl : ps.length ≤ 9223372036854775807) (hpn : MnsSz ps) (h0 : 0 ≤ left) (h1 : left ≤ 1048576) :
    Calls Try.prog 6 #[.agg #[.int .i64 id, .slice AV vec.length cv, .slice A es.length c, .slice AH hs.length ch, .bool al, .slice AP ps.length cp], .int .i64 left] w fun e w' => ∃ r : Int, e = .returned (.int .i64 r) ∧ SzOk left (dsz vec es hs ps) r ∧ Below w.heap.size w w' := by
  have HA := Lib.hid hA
  have HH := Lib.hid hH
  have HP := Lib.hid hP
  have HN := Lib.hid hbn
  have HNH := Lib.hid hhn
  have HNP := Lib.hid hpn
  clear hA hH hP hbn hhn hpn
  go_enter Try.func6, Try.ntmps6
  go_wp2_with fail
  obtain ⟨W1_0, hW1_0⟩ : ∃ x, x = w.alloc (.cells #[.int .i64 id, .slice AV vec.length cv, .slice A es.length c, .slice AH hs.length ch, .bool al, .slice AP ps.length cp] 28) := ⟨_, rfl⟩
  have hZ1_0 : W1_0.heap.size = w.heap.size + 1 := by rw [hW1_0]; simp
  have hx0 : Bx W1_0 (w.heap.size) [.int .i64 id, .slice AV vec.length cv, .slice A es.length c, .slice AH hs.length ch, .bool al, .slice AP ps.length cp] := by rw [hW1_0]; exact Bx.new' _ _ _ _ rfl
  have hb0 : Below w.heap.size w W1_0 := by rw [hW1_0]; exact ((Below.refl _ _).alloc (by first | exact Nat.le_refl _ | (simp; done) | (simp; omega)) _)
  have hlt : w.heap.size + 0 < W1_0.heap.size := by omega
  rw [← hW1_0]
  clear hW1_0 hZ1_0
  have z_2 := hb0.size
  have Hbel_3 := Lib.hid (hb0)
  have HD_4 := Lib.hid (hx0)
  clear hb0 hx0
  have hl_5 := hlt
  clear hlt
  refine (szTree_any AV vec cv A es c left W1_0 ((HA.out.keep fun p _ hp => Hbel_3.out.cell hp).mono (by omega)) hv hn HN.out h0 h1).mono ?_
  rintro e w1 ⟨r1, rfl, hsz, hb⟩
  have z_6 := hb.size
  have Hbel_7 := Lib.hid (Hbel_3.out.trans (hb.mono (by omega)))
  have HD_8 := Lib.hid (HD_4.out.below hb (by omega))
  clear Hbel_3 HD_4
  clear hb
  have HS1 := Lib.hid (show SzOk left (vec.length + (es.length + ebulk es)) r1 from hsz)
  clear hsz
  by_cases hr1 : r1 < 0
  case pos =>
    go_wp2_with fail
    go_ret
    exact ⟨-1, rfl, .inl rfl, Hbel_7.out⟩
  have p1 : 0 ≤ r1 := by omega
  have q1 : r1 ≤ 1048576 := by have := HS1.out; unfold SzOk at this; omega
  have qD_0 := HD_8.out 0 (by simp)
  have qD_1 := HD_8.out 1 (by simp)
  have qD_2 := HD_8.out 2 (by simp)
  have qD_3 := HD_8.out 3 (by simp)
  have qD_4 := HD_8.out 4 (by simp)
  have qD_5 := HD_8.out 5 (by simp)
  have lD : w.heap.size < w1.heap.size := by omega
  simp only [List.getElem_cons_succ, List.getElem_cons_zero] at qD_0 qD_1 qD_2 qD_3 qD_4 qD_5
  go_wp2_with fail
  refine (szManifestS_any AH hs ch r1 w1 ((HH.out.keep fun p _ hp => Hbel_7.out.cell hp).mono (by omega)) hhl HNH.out p1 q1).mono ?_
  rintro e w2 ⟨r2, rfl, hsz, hb⟩
  clear qD_0 qD_1 qD_2 qD_3 qD_4 qD_5 lD
  have z_9 := hb.size
  have Hbel_10 := Lib.hid (Hbel_7.out.trans (hb.mono (by omega)))
  have HD_11 := Lib.hid (HD_8.out.below hb (by omega))
  clear Hbel_7 HD_8
  clear hb
  have HS2 := Lib.hid (show SzOk r1 (hs.length + mbulk hs) r2 from hsz)
  clear hsz
  by_cases hr2 : r2 < 0
  case pos =>
    go_wp2_with fail
    go_ret
    exact ⟨-1, rfl, .inl rfl, Hbel_10.out⟩
  have p2 : 0 ≤ r2 := by omega
  have q2 : r2 ≤ 1048576 := by have := HS2.out; unfold SzOk at this; omega
  have qD_0 := HD_11.out 0 (by simp)
  have qD_1 := HD_11.out 1 (by simp)
  have qD_2 := HD_11.out 2 (by simp)
  have qD_3 := HD_11.out 3 (by simp)
  have qD_4 := HD_11.out 4 (by simp)
  have qD_5 := HD_11.out 5 (by simp)
  have lD : w.heap.size < w2.heap.size := by omega
  simp only [List.getElem_cons_succ, List.getElem_cons_zero] at qD_0 qD_1 qD_2 qD_3 qD_4 qD_5
  go_wp2_with fail
  refine (szManifestS_any AP ps cp r2 w2 ((HP.out.keep fun p _ hp => Hbel_10.out.cell hp).mono (by omega)) hpl HNP.out p2 q2).mono ?_
  rintro e w3 ⟨r3, rfl, hsz, hb⟩
  clear qD_0 qD_1 qD_2 qD_3 qD_4 qD_5 lD
  have z_12 := hb.size
  have Hbel_13 := Lib.hid (Hbel_10.out.trans (hb.mono (by omega)))
  have HD_14 := Lib.hid (HD_11.out.below hb (by omega))
  clear Hbel_10 HD_11
  clear hb
  have HS3 := Lib.hid (show SzOk r2 (ps.length + mbulk ps) r3 from hsz)
  clear hsz
  by_cases hr3 : r3 < 0
  case pos =>
    go_wp2_with fail
    go_ret
    exact ⟨-1, rfl, .inl rfl, Hbel_13.out⟩
  have p3 : 0 ≤ r3 := by omega
  have q3 : r3 ≤ 1048576 := by have := HS3.out; unfold SzOk at this; omega
  have HF := Lib.hid (show SzOk left (dsz vec es hs ps) r3 by
    have a1 := HS1.out
    have a2 := HS2.out
    have a3 := HS3.out
    unfold SzOk dsz at *
    omega)
  go_wp2_with fail
  go_ret
  exact ⟨r3, rfl, HF.out, Hbel_13.out⟩

set_option maxRecDepth 100000 in
set_option maxHeartbeats 2000000 in
theorem toDevice_own (id : Int) (AV : Option Addr) (vec : List Int) (cv : Nat) (A : Option Addr) (es : List En) (c : Nat) (AH : Option Addr) (hs : List Mn) (ch : Nat) (al : Bool) (AP : Option Addr) (ps : List Mn) (cp : Nat) (w : World) (hV : IntsIn w 0 w.heap.size AV vec) (hA : EnsIn w 0 w.heap.size A es) (hH : MnsIn w 0 w.heap.size AH hs) (hP : MnsIn w 0 w.heap.size AP ps) (hv : vec.length ≤ 1048576) (hn : es.length ≤ 1048576) (hbk : ebulk es ≤ 1048576) (hhl : hs.length ≤ 1048576) (hhb : mbulk hs ≤ 1048576) (hpl : ps.length ≤ 1048576) (hpb : mbulk ps ≤ 1048576) :
    Calls Try.prog 8 #[.agg #[.int .i64 id, .slice AV vec.length cv, .slice A es.length c, .slice AH hs.length ch, .bool al, .slice AP ps.length cp]] w fun e w' => ∃ gv ge gh gp, e = .returned (.agg #[.int .i64 id, .slice (some ⟨gv, 0, none⟩) vec.length vec.length, .slice (some ⟨ge, 0, none⟩) es.length es.length, .slice (some ⟨gh, 0, none⟩) hs.length hs.length, .bool al, .slice (some ⟨gp, 0, none⟩) ps.length ps.length]) ∧ w.heap.size < w'.heap.size ∧ DvOwn w' w.heap.size w'.heap.size (some ⟨gv, 0, none⟩) vec (some ⟨ge, 0, none⟩) es (some ⟨gh, 0, none⟩) hs (some ⟨gp, 0, none⟩) ps ∧ Below w.heap.size w w' := by
  have HV := Lib.hid hV
  have HA := Lib.hid hA
  have HH := Lib.hid hH
  have HP := Lib.hid hP
  clear hV hA hH hP
  go_enter Try.func8, Try.ntmps8
  go_wp2_with fail
  obtain ⟨W1_0, hW1_0⟩ : ∃ x, x = w.alloc (.cells #[.int .i64 id, .slice AV vec.length cv, .slice A es.length c, .slice AH hs.length ch, .bool al, .slice AP ps.length cp] 28) := ⟨_, rfl⟩
  obtain ⟨W1_1, hW1_1⟩ : ∃ x, x = W1_0.alloc (.cells #[.int .i64 0, .slice none 0 0, .slice none 0 0, .slice none 0 0, .bool false, .slice none 0 0] 36) := ⟨_, rfl⟩
  obtain ⟨W1_2, hW1_2⟩ : ∃ x, x = W1_1.alloc (.cells #[.int .i64 id, .slice none 0 0, .slice none 0 0, .slice none 0 0, .bool false, .slice none 0 0] 36) := ⟨_, rfl⟩
  have hZ1_0 : W1_0.heap.size = w.heap.size + 1 := by rw [hW1_0]; simp
  have hZ1_1 : W1_1.heap.size = w.heap.size + 2 := by rw [hW1_1]; simp [hZ1_0]
  have hZ1_2 : W1_2.heap.size = w.heap.size + 3 := by rw [hW1_2]; simp [hZ1_1]
  have hx0 : Bx W1_0 (w.heap.size) [.int .i64 id, .slice AV vec.length cv, .slice A es.length c, .slice AH hs.length ch, .bool al, .slice AP ps.length cp] := by rw [hW1_0]; exact Bx.new' _ _ _ _ rfl
  replace hx0 : Bx W1_1 (w.heap.size) [.int .i64 id, .slice AV vec.length cv, .slice A es.length c, .slice AH hs.length ch, .bool al, .slice AP ps.length cp] := by rw [hW1_1]; exact hx0.alloc (by omega) _
  replace hx0 : Bx W1_2 (w.heap.size) [.int .i64 id, .slice AV vec.length cv, .slice A es.length c, .slice AH hs.length ch, .bool al, .slice AP ps.length cp] := by rw [hW1_2]; exact hx0.alloc (by omega) _
  have hx1 : Bx W1_1 (w.heap.size + 1) [.int .i64 0, .slice none 0 0, .slice none 0 0, .slice none 0 0, .bool false, .slice none 0 0] := by rw [hW1_1, ← hZ1_0]; exact Bx.new' _ _ _ _ rfl
  replace hx1 : Bx W1_2 (w.heap.size + 1) [.int .i64 0, .slice none 0 0, .slice none 0 0, .slice none 0 0, .bool false, .slice none 0 0] := by rw [hW1_2]; exact hx1.alloc (by omega) _
  have hx2 : Bx W1_2 (w.heap.size + 2) [.int .i64 id, .slice none 0 0, .slice none 0 0, .slice none 0 0, .bool false, .slice none 0 0] := by rw [hW1_2, ← hZ1_1]; exact Bx.new' _ _ _ _ rfl
  have hb0 : Below w.heap.size w W1_2 := by rw [hW1_2, hW1_1, hW1_0]; exact ((((Below.refl _ _).alloc (by first | exact Nat.le_refl _ | (simp; done) | (simp; omega)) _).alloc (by first | exact Nat.le_refl _ | (simp; done) | (simp; omega)) _).alloc (by first | exact Nat.le_refl _ | (simp; done) | (simp; omega)) _)
  have hf1 : ∀ o, W1_2.frozen? ⟨w.heap.size + 1, o, none⟩ = false := fun o => by rw [hW1_2, hW1_1, hW1_0]; exact ((((Fresh.refl w).alloc _ _).alloc _ _).alloc _ _) ⟨w.heap.size + 1, o, none⟩ (by show w.heap.size ≤ w.heap.size + 1; omega)
  have hf2 : ∀ o, W1_2.frozen? ⟨w.heap.size + 2, o, none⟩ = false := fun o => by rw [hW1_2, hW1_1, hW1_0]; exact ((((Fresh.refl w).alloc _ _).alloc _ _).alloc _ _) ⟨w.heap.size + 2, o, none⟩ (by show w.heap.size ≤ w.heap.size + 2; omega)
  have hlt : w.heap.size + 2 < W1_2.heap.size := by omega
  rw [← hW1_0, ← hW1_1, ← hW1_2]
  clear hW1_0 hZ1_0 hW1_1 hZ1_1 hW1_2 hZ1_2
  have z_2 := hb0.size
  have Hbel_3 := Lib.hid (hb0)
  have HD_4 := Lib.hid (hx0)
  have HR_5 := Lib.hid (hx1)
  have HRF_6 := Lib.hid (hf1)
  clear hf1
  have HO_7 := Lib.hid (hx2)
  have HOF_8 := Lib.hid (hf2)
  clear hf2
  clear hb0 hx0 hx1 hx2
  have hl_9 := hlt
  clear hlt
  have hW0 : W1_2.heap.size ≤ W1_2.heap.size := Nat.le_refl _
  refine (toTree_own AV vec cv A es c W1_2 ((HV.out.keep fun p _ hp => Hbel_3.out.cell hp).mono (by omega)) ((HA.out.keep fun p _ hp => Hbel_3.out.cell hp).mono (by omega)) hv hn hbk).mono ?_
  rintro e w1 ⟨gv, ge, rfl, _, hown, hb⟩
  have z_10 := hb.size
  have Hbel_11 := Lib.hid (Hbel_3.out.trans (hb.mono (by omega)))
  have HD_12 := Lib.hid (HD_4.out.below hb (by omega))
  have HR_13 := Lib.hid (HR_5.out.below hb (by omega))
  have HRF_14 := Lib.hid (show ∀ o, w1.frozen? ⟨w.heap.size + 1, o, none⟩ = false from fun o => (hb.frozen (p := ⟨w.heap.size + 1, o, none⟩) (by show w.heap.size + 1 < _; omega)).trans (HRF_6.out o))
  have HO_15 := Lib.hid (HO_7.out.below hb (by omega))
  have HOF_16 := Lib.hid (show ∀ o, w1.frozen? ⟨w.heap.size + 2, o, none⟩ = false from fun o => (hb.frozen (p := ⟨w.heap.size + 2, o, none⟩) (by show w.heap.size + 2 < _; omega)).trans (HOF_8.out o))
  clear Hbel_3 HD_4 HR_5 HRF_6 HO_7 HOF_8
  have Htr_17 := Lib.hid (hown)
  clear hb
  clear hown
  have qD_0 := HD_12.out 0 (by simp)
  have qD_1 := HD_12.out 1 (by simp)
  have qD_2 := HD_12.out 2 (by simp)
  have qD_3 := HD_12.out 3 (by simp)
  have qD_4 := HD_12.out 4 (by simp)
  have qD_5 := HD_12.out 5 (by simp)
  have lD : w.heap.size < w1.heap.size := by omega
  have qO_0 := HO_15.out 0 (by simp)
  have qO_1 := HO_15.out 1 (by simp)
  have qO_2 := HO_15.out 2 (by simp)
  have qO_3 := HO_15.out 3 (by simp)
  have qO_4 := HO_15.out 4 (by simp)
  have qO_5 := HO_15.out 5 (by simp)
  have lO : w.heap.size + 2 < w1.heap.size := by omega
  have fOF_0 := HOF_16.out 0
  have fOF_1 := HOF_16.out 1
  have fOF_2 := HOF_16.out 2
  have fOF_3 := HOF_16.out 3
  have fOF_4 := HOF_16.out 4
  have fOF_5 := HOF_16.out 5
  simp only [List.getElem_cons_succ, List.getElem_cons_zero] at qD_0 qD_1 qD_2 qD_3 qD_4 qD_5 qO_0 qO_1 qO_2 qO_3 qO_4 qO_5
  go_wp2_with fail
  clear qD_0 qD_1 qD_2 qD_3 qD_4 qD_5 lD qO_0 qO_1 qO_2 qO_3 qO_4 qO_5 lO fOF_0 fOF_1 fOF_2 fOF_3 fOF_4 fOF_5
  obtain ⟨w2, hW18⟩ : ∃ x, x = putAll (w.heap.size + 2) 1 [.slice (some ⟨gv, 0, none⟩) vec.length vec.length, .slice (some ⟨ge, 0, none⟩) es.length es.length] w1 := ⟨_, rfl⟩
  have hs18 : w2.heap.size = w1.heap.size := by rw [hW18]; exact putAll_size
  have Hbel_19 := Lib.hid (show Below w.heap.size w w2 by rw [hW18]; exact putAll_below Hbel_11.out (by omega))
  have HD_20 := Lib.hid (show Bx w2 (w.heap.size) [.int .i64 id, .slice AV vec.length cv, .slice A es.length c, .slice AH hs.length ch, .bool al, .slice AP ps.length cp] by rw [hW18]; exact HD_12.out.put_else (by omega))
  have HR_21 := Lib.hid (show Bx w2 (w.heap.size + 1) [.int .i64 0, .slice none 0 0, .slice none 0 0, .slice none 0 0, .bool false, .slice none 0 0] by rw [hW18]; exact HR_13.out.put_else (by omega))
  have HRF_22 := Lib.hid (show ∀ o, w2.frozen? ⟨w.heap.size + 1, o, none⟩ = false from fun o => by rw [hW18]; exact (putAll_frozen _).trans (HRF_14.out o))
  have HO_23 := Lib.hid (show Bx w2 (w.heap.size + 2) [.int .i64 id, .slice (some ⟨gv, 0, none⟩) vec.length vec.length, .slice (some ⟨ge, 0, none⟩) es.length es.length, .slice none 0 0, .bool false, .slice none 0 0] by rw [hW18]; have hq := HO_15.out.put 1 [.slice (some ⟨gv, 0, none⟩) vec.length vec.length, .slice (some ⟨ge, 0, none⟩) es.length es.length] (by simp); simpa using hq)
  have HOF_24 := Lib.hid (show ∀ o, w2.frozen? ⟨w.heap.size + 2, o, none⟩ = false from fun o => by rw [hW18]; exact (putAll_frozen _).trans (HOF_16.out o))
  have Htr_25 := Lib.hid (show TrOwn w2 W1_2.heap.size w1.heap.size (some ⟨gv, 0, none⟩) vec (some ⟨ge, 0, none⟩) es by rw [hW18]; exact Htr_17.out.keep fun p hp hq => ⟨putAll_other (by omega), putAll_frozen _⟩)
  simp only [putAll] at hW18
  rw [← hW18]
  have z_26 : w1.heap.size ≤ w2.heap.size := Nat.le_of_eq hs18.symm
  clear hW18 hs18 Hbel_11 HD_12 HR_13 HRF_14 HO_15 HOF_16 Htr_17
  refine (toManifestS_own AH hs ch w2 ((HH.out.keep fun p _ hp => Hbel_19.out.cell hp).mono (by omega)) hhl hhb).mono ?_
  rintro e w3 ⟨gh, rfl, _, hown, hb⟩
  have z_27 := hb.size
  have Hbel_28 := Lib.hid (Hbel_19.out.trans (hb.mono (by omega)))
  have HD_29 := Lib.hid (HD_20.out.below hb (by omega))
  have HR_30 := Lib.hid (HR_21.out.below hb (by omega))
  have HRF_31 := Lib.hid (show ∀ o, w3.frozen? ⟨w.heap.size + 1, o, none⟩ = false from fun o => (hb.frozen (p := ⟨w.heap.size + 1, o, none⟩) (by show w.heap.size + 1 < _; omega)).trans (HRF_22.out o))
  have HO_32 := Lib.hid (HO_23.out.below hb (by omega))
  have HOF_33 := Lib.hid (show ∀ o, w3.frozen? ⟨w.heap.size + 2, o, none⟩ = false from fun o => (hb.frozen (p := ⟨w.heap.size + 2, o, none⟩) (by show w.heap.size + 2 < _; omega)).trans (HOF_24.out o))
  have Htr_34 := Lib.hid (show TrOwn w3 W1_2.heap.size w1.heap.size (some ⟨gv, 0, none⟩) vec (some ⟨ge, 0, none⟩) es from Htr_25.out.keep fun p hp hq => ⟨hb.cell (by omega), hb.frozen (by omega)⟩)
  clear Hbel_19 HD_20 HR_21 HRF_22 HO_23 HOF_24 Htr_25
  have Hmh_35 := Lib.hid (hown)
  clear hb
  clear hown
  have qD_0 := HD_29.out 0 (by simp)
  have qD_1 := HD_29.out 1 (by simp)
  have qD_2 := HD_29.out 2 (by simp)
  have qD_3 := HD_29.out 3 (by simp)
  have qD_4 := HD_29.out 4 (by simp)
  have qD_5 := HD_29.out 5 (by simp)
  have lD : w.heap.size < w3.heap.size := by omega
  have qO_0 := HO_32.out 0 (by simp)
  have qO_1 := HO_32.out 1 (by simp)
  have qO_2 := HO_32.out 2 (by simp)
  have qO_3 := HO_32.out 3 (by simp)
  have qO_4 := HO_32.out 4 (by simp)
  have qO_5 := HO_32.out 5 (by simp)
  have lO : w.heap.size + 2 < w3.heap.size := by omega
  have fOF_0 := HOF_33.out 0
  have fOF_1 := HOF_33.out 1
  have fOF_2 := HOF_33.out 2
  have fOF_3 := HOF_33.out 3
  have fOF_4 := HOF_33.out 4
  have fOF_5 := HOF_33.out 5
  simp only [List.getElem_cons_succ, List.getElem_cons_zero] at qD_0 qD_1 qD_2 qD_3 qD_4 qD_5 qO_0 qO_1 qO_2 qO_3 qO_4 qO_5
  go_wp2_with fail
  clear qD_0 qD_1 qD_2 qD_3 qD_4 qD_5 lD qO_0 qO_1 qO_2 qO_3 qO_4 qO_5 lO fOF_0 fOF_1 fOF_2 fOF_3 fOF_4 fOF_5
  obtain ⟨w4, hW36⟩ : ∃ x, x = putAll (w.heap.size + 2) 3 [.slice (some ⟨gh, 0, none⟩) hs.length hs.length, .bool al] w3 := ⟨_, rfl⟩
  have hs36 : w4.heap.size = w3.heap.size := by rw [hW36]; exact putAll_size
  have Hbel_37 := Lib.hid (show Below w.heap.size w w4 by rw [hW36]; exact putAll_below Hbel_28.out (by omega))
  have HD_38 := Lib.hid (show Bx w4 (w.heap.size) [.int .i64 id, .slice AV vec.length cv, .slice A es.length c, .slice AH hs.length ch, .bool al, .slice AP ps.length cp] by rw [hW36]; exact HD_29.out.put_else (by omega))
  have HR_39 := Lib.hid (show Bx w4 (w.heap.size + 1) [.int .i64 0, .slice none 0 0, .slice none 0 0, .slice none 0 0, .bool false, .slice none 0 0] by rw [hW36]; exact HR_30.out.put_else (by omega))
  have HRF_40 := Lib.hid (show ∀ o, w4.frozen? ⟨w.heap.size + 1, o, none⟩ = false from fun o => by rw [hW36]; exact (putAll_frozen _).trans (HRF_31.out o))
  have HO_41 := Lib.hid (show Bx w4 (w.heap.size + 2) [.int .i64 id, .slice (some ⟨gv, 0, none⟩) vec.length vec.length, .slice (some ⟨ge, 0, none⟩) es.length es.length, .slice (some ⟨gh, 0, none⟩) hs.length hs.length, .bool al, .slice none 0 0] by rw [hW36]; have hq := HO_32.out.put 3 [.slice (some ⟨gh, 0, none⟩) hs.length hs.length, .bool al] (by simp); simpa using hq)
  have HOF_42 := Lib.hid (show ∀ o, w4.frozen? ⟨w.heap.size + 2, o, none⟩ = false from fun o => by rw [hW36]; exact (putAll_frozen _).trans (HOF_33.out o))
  have Htr_43 := Lib.hid (show TrOwn w4 W1_2.heap.size w1.heap.size (some ⟨gv, 0, none⟩) vec (some ⟨ge, 0, none⟩) es by rw [hW36]; exact Htr_34.out.keep fun p hp hq => ⟨putAll_other (by omega), putAll_frozen _⟩)
  have Hmh_44 := Lib.hid (show MnsOwn w4 w2.heap.size w3.heap.size (some ⟨gh, 0, none⟩) hs by rw [hW36]; exact Hmh_35.out.keep fun p hp hq => ⟨putAll_other (by omega), putAll_frozen _⟩)
  simp only [putAll] at hW36
  rw [← hW36]
  have z_45 : w3.heap.size ≤ w4.heap.size := Nat.le_of_eq hs36.symm
  clear hW36 hs36 Hbel_28 HD_29 HR_30 HRF_31 HO_32 HOF_33 Htr_34 Hmh_35
  refine (toManifestS_own AP ps cp w4 ((HP.out.keep fun p _ hp => Hbel_37.out.cell hp).mono (by omega)) hpl hpb).mono ?_
  rintro e w5 ⟨gp, rfl, _, hown, hb⟩
  have z_46 := hb.size
  have Hbel_47 := Lib.hid (Hbel_37.out.trans (hb.mono (by omega)))
  have HD_48 := Lib.hid (HD_38.out.below hb (by omega))
  have HR_49 := Lib.hid (HR_39.out.below hb (by omega))
  have HRF_50 := Lib.hid (show ∀ o, w5.frozen? ⟨w.heap.size + 1, o, none⟩ = false from fun o => (hb.frozen (p := ⟨w.heap.size + 1, o, none⟩) (by show w.heap.size + 1 < _; omega)).trans (HRF_40.out o))
  have HO_51 := Lib.hid (HO_41.out.below hb (by omega))
  have HOF_52 := Lib.hid (show ∀ o, w5.frozen? ⟨w.heap.size + 2, o, none⟩ = false from fun o => (hb.frozen (p := ⟨w.heap.size + 2, o, none⟩) (by show w.heap.size + 2 < _; omega)).trans (HOF_42.out o))
  have Htr_53 := Lib.hid (show TrOwn w5 W1_2.heap.size w1.heap.size (some ⟨gv, 0, none⟩) vec (some ⟨ge, 0, none⟩) es from Htr_43.out.keep fun p hp hq => ⟨hb.cell (by omega), hb.frozen (by omega)⟩)
  have Hmh_54 := Lib.hid (show MnsOwn w5 w2.heap.size w3.heap.size (some ⟨gh, 0, none⟩) hs from Hmh_44.out.keep fun p hp hq => ⟨hb.cell (by omega), hb.frozen (by omega)⟩)
  clear Hbel_37 HD_38 HR_39 HRF_40 HO_41 HOF_42 Htr_43 Hmh_44
  have Hmp_55 := Lib.hid (hown)
  clear hb
  clear hown
  have qO_0 := HO_51.out 0 (by simp)
  have qO_1 := HO_51.out 1 (by simp)
  have qO_2 := HO_51.out 2 (by simp)
  have qO_3 := HO_51.out 3 (by simp)
  have qO_4 := HO_51.out 4 (by simp)
  have qO_5 := HO_51.out 5 (by simp)
  have lO : w.heap.size + 2 < w5.heap.size := by omega
  have fOF_0 := HOF_52.out 0
  have fOF_1 := HOF_52.out 1
  have fOF_2 := HOF_52.out 2
  have fOF_3 := HOF_52.out 3
  have fOF_4 := HOF_52.out 4
  have fOF_5 := HOF_52.out 5
  have qR_0 := HR_49.out 0 (by simp)
  have qR_1 := HR_49.out 1 (by simp)
  have qR_2 := HR_49.out 2 (by simp)
  have qR_3 := HR_49.out 3 (by simp)
  have qR_4 := HR_49.out 4 (by simp)
  have qR_5 := HR_49.out 5 (by simp)
  have lR : w.heap.size + 1 < w5.heap.size := by omega
  have fRF_0 := HRF_50.out 0
  have fRF_1 := HRF_50.out 1
  have fRF_2 := HRF_50.out 2
  have fRF_3 := HRF_50.out 3
  have fRF_4 := HRF_50.out 4
  have fRF_5 := HRF_50.out 5
  simp only [List.getElem_cons_succ, List.getElem_cons_zero] at qO_0 qO_1 qO_2 qO_3 qO_4 qO_5 qR_0 qR_1 qR_2 qR_3 qR_4 qR_5
  go_wp2_with fail
  clear qO_0 qO_1 qO_2 qO_3 qO_4 qO_5 lO fOF_0 fOF_1 fOF_2 fOF_3 fOF_4 fOF_5 qR_0 qR_1 qR_2 qR_3 qR_4 qR_5 lR fRF_0 fRF_1 fRF_2 fRF_3 fRF_4 fRF_5
  obtain ⟨w6, hW56⟩ : ∃ x, x = putAll (w.heap.size + 2) 5 [.slice (some ⟨gp, 0, none⟩) ps.length ps.length] w5 := ⟨_, rfl⟩
  have hs56 : w6.heap.size = w5.heap.size := by rw [hW56]; exact putAll_size
  have Hbel_57 := Lib.hid (show Below w.heap.size w w6 by rw [hW56]; exact putAll_below Hbel_47.out (by omega))
  have HD_58 := Lib.hid (show Bx w6 (w.heap.size) [.int .i64 id, .slice AV vec.length cv, .slice A es.length c, .slice AH hs.length ch, .bool al, .slice AP ps.length cp] by rw [hW56]; exact HD_48.out.put_else (by omega))
  have HR_59 := Lib.hid (show Bx w6 (w.heap.size + 1) [.int .i64 0, .slice none 0 0, .slice none 0 0, .slice none 0 0, .bool false, .slice none 0 0] by rw [hW56]; exact HR_49.out.put_else (by omega))
  have HRF_60 := Lib.hid (show ∀ o, w6.frozen? ⟨w.heap.size + 1, o, none⟩ = false from fun o => by rw [hW56]; exact (putAll_frozen _).trans (HRF_50.out o))
  have HO_61 := Lib.hid (show Bx w6 (w.heap.size + 2) [.int .i64 id, .slice (some ⟨gv, 0, none⟩) vec.length vec.length, .slice (some ⟨ge, 0, none⟩) es.length es.length, .slice (some ⟨gh, 0, none⟩) hs.length hs.length, .bool al, .slice (some ⟨gp, 0, none⟩) ps.length ps.length] by rw [hW56]; have hq := HO_51.out.put 5 [.slice (some ⟨gp, 0, none⟩) ps.length ps.length] (by simp); simpa using hq)
  have HOF_62 := Lib.hid (show ∀ o, w6.frozen? ⟨w.heap.size + 2, o, none⟩ = false from fun o => by rw [hW56]; exact (putAll_frozen _).trans (HOF_52.out o))
  have Htr_63 := Lib.hid (show TrOwn w6 W1_2.heap.size w1.heap.size (some ⟨gv, 0, none⟩) vec (some ⟨ge, 0, none⟩) es by rw [hW56]; exact Htr_53.out.keep fun p hp hq => ⟨putAll_other (by omega), putAll_frozen _⟩)
  have Hmh_64 := Lib.hid (show MnsOwn w6 w2.heap.size w3.heap.size (some ⟨gh, 0, none⟩) hs by rw [hW56]; exact Hmh_54.out.keep fun p hp hq => ⟨putAll_other (by omega), putAll_frozen _⟩)
  have Hmp_65 := Lib.hid (show MnsOwn w6 w4.heap.size w5.heap.size (some ⟨gp, 0, none⟩) ps by rw [hW56]; exact Hmp_55.out.keep fun p hp hq => ⟨putAll_other (by omega), putAll_frozen _⟩)
  simp only [putAll] at hW56
  rw [← hW56]
  have z_66 : w5.heap.size ≤ w6.heap.size := Nat.le_of_eq hs56.symm
  clear hW56 hs56 Hbel_47 HD_48 HR_49 HRF_50 HO_51 HOF_52 Htr_53 Hmh_54 Hmp_55
  obtain ⟨w7, hW67⟩ : ∃ x, x = putAll (w.heap.size + 1) 0 [.int .i64 id, .slice (some ⟨gv, 0, none⟩) vec.length vec.length, .slice (some ⟨ge, 0, none⟩) es.length es.length, .slice (some ⟨gh, 0, none⟩) hs.length hs.length, .bool al, .slice (some ⟨gp, 0, none⟩) ps.length ps.length] w6 := ⟨_, rfl⟩
  have hs67 : w7.heap.size = w6.heap.size := by rw [hW67]; exact putAll_size
  have Hbel_68 := Lib.hid (show Below w.heap.size w w7 by rw [hW67]; exact putAll_below Hbel_57.out (by omega))
  have HD_69 := Lib.hid (show Bx w7 (w.heap.size) [.int .i64 id, .slice AV vec.length cv, .slice A es.length c, .slice AH hs.length ch, .bool al, .slice AP ps.length cp] by rw [hW67]; exact HD_58.out.put_else (by omega))
  have HR_70 := Lib.hid (show Bx w7 (w.heap.size + 1) [.int .i64 id, .slice (some ⟨gv, 0, none⟩) vec.length vec.length, .slice (some ⟨ge, 0, none⟩) es.length es.length, .slice (some ⟨gh, 0, none⟩) hs.length hs.length, .bool al, .slice (some ⟨gp, 0, none⟩) ps.length ps.length] by rw [hW67]; have hq := HR_59.out.put 0 [.int .i64 id, .slice (some ⟨gv, 0, none⟩) vec.length vec.length, .slice (some ⟨ge, 0, none⟩) es.length es.length, .slice (some ⟨gh, 0, none⟩) hs.length hs.length, .bool al, .slice (some ⟨gp, 0, none⟩) ps.length ps.length] (by simp); simpa using hq)
  have HRF_71 := Lib.hid (show ∀ o, w7.frozen? ⟨w.heap.size + 1, o, none⟩ = false from fun o => by rw [hW67]; exact (putAll_frozen _).trans (HRF_60.out o))
  have HO_72 := Lib.hid (show Bx w7 (w.heap.size + 2) [.int .i64 id, .slice (some ⟨gv, 0, none⟩) vec.length vec.length, .slice (some ⟨ge, 0, none⟩) es.length es.length, .slice (some ⟨gh, 0, none⟩) hs.length hs.length, .bool al, .slice (some ⟨gp, 0, none⟩) ps.length ps.length] by rw [hW67]; exact HO_61.out.put_else (by omega))
  have HOF_73 := Lib.hid (show ∀ o, w7.frozen? ⟨w.heap.size + 2, o, none⟩ = false from fun o => by rw [hW67]; exact (putAll_frozen _).trans (HOF_62.out o))
  have Htr_74 := Lib.hid (show TrOwn w7 W1_2.heap.size w1.heap.size (some ⟨gv, 0, none⟩) vec (some ⟨ge, 0, none⟩) es by rw [hW67]; exact Htr_63.out.keep fun p hp hq => ⟨putAll_other (by omega), putAll_frozen _⟩)
  have Hmh_75 := Lib.hid (show MnsOwn w7 w2.heap.size w3.heap.size (some ⟨gh, 0, none⟩) hs by rw [hW67]; exact Hmh_64.out.keep fun p hp hq => ⟨putAll_other (by omega), putAll_frozen _⟩)
  have Hmp_76 := Lib.hid (show MnsOwn w7 w4.heap.size w5.heap.size (some ⟨gp, 0, none⟩) ps by rw [hW67]; exact Hmp_65.out.keep fun p hp hq => ⟨putAll_other (by omega), putAll_frozen _⟩)
  simp only [putAll] at hW67
  rw [← hW67]
  have z_77 : w6.heap.size ≤ w7.heap.size := Nat.le_of_eq hs67.symm
  clear hW67 hs67 Hbel_57 HD_58 HR_59 HRF_60 HO_61 HOF_62 Htr_63 Hmh_64 Hmp_65
  have qR_0 := HR_70.out 0 (by simp)
  have qR_1 := HR_70.out 1 (by simp)
  have qR_2 := HR_70.out 2 (by simp)
  have qR_3 := HR_70.out 3 (by simp)
  have qR_4 := HR_70.out 4 (by simp)
  have qR_5 := HR_70.out 5 (by simp)
  have lR : w.heap.size + 1 < w7.heap.size := by omega
  simp only [List.getElem_cons_succ, List.getElem_cons_zero] at qR_0 qR_1 qR_2 qR_3 qR_4 qR_5
  have HD := Lib.hid (show DvOwn w7 w.heap.size w7.heap.size (some ⟨gv, 0, none⟩) vec (some ⟨ge, 0, none⟩) es (some ⟨gh, 0, none⟩) hs (some ⟨gp, 0, none⟩) ps from ⟨_, _, _, _, _, _, by omega, by omega, by omega, by omega, by omega, by omega, .inl (by omega), .inl (by omega), .inl (by omega), by omega, by omega, by omega, Htr_74.out, Hmh_75.out, Hmp_76.out⟩)
  refine bodyPost_ret (v := .agg #[.int .i64 id, .slice (some ⟨gv, 0, none⟩) vec.length vec.length, .slice (some ⟨ge, 0, none⟩) es.length es.length, .slice (some ⟨gh, 0, none⟩) hs.length hs.length, .bool al, .slice (some ⟨gp, 0, none⟩) ps.length ps.length]) (by simp [results, Try.results8, qR_0, qR_1, qR_2, qR_3, qR_4, qR_5, go_sem]) rfl ⟨gv, ge, gh, gp, rfl, by omega, HD.out, Hbel_68.out⟩

set_option maxRecDepth 100000 in
set_option maxHeartbeats 2000000 in
theorem eqDevice_same (id : Int) (AV AV' A A' AH AH' AP AP' : Option Addr) (vec : List Int) (es : List En) (hs ps : List Mn) (al : Bool) (cv cv' c c' ch ch' cp cp' L L' B B' : Nat) (w : World) (h : DvOwn w L B AV vec A es AH hs AP ps) (h' : DvOwn w L' B' AV' vec A' es AH' hs AP' ps) (hB : B ≤ w.heap.size) (hB' : B' ≤ w.heap.size) (hv : vec.length ≤ 1048576) (hn : es.length ≤ 1048576) (hbk : ebulk es ≤ 1048576) (hhl : hs.length ≤ 1048576) (hhb : mbulk hs ≤ 1048576) (hpl : ps.length ≤ 1048576) (hpb : mbulk ps ≤ 1048576) :
    Calls Try.prog 10 #[.agg #[.int .i64 id, .slice AV vec.length cv, .slice A es.length c, .slice AH hs.length ch, .bool al, .slice AP ps.length cp], .agg #[.int .i64 id, .slice AV' vec.length cv', .slice A' es.length c', .slice AH' hs.length ch', .bool al, .slice AP' ps.length cp']] w fun e w' => e = .returned (.bool true) ∧ Below w.heap.size w w' := by
  have HT := Lib.hid h
  have HT' := Lib.hid h'
  clear h h'
  have e1 : (id != id) = false := by simp
  have e2 : (al != al) = false := by simp
  go_enter Try.func10, Try.ntmps10
  go_wp2_with fail
  obtain ⟨W1_0, hW1_0⟩ : ∃ x, x = w.alloc (.cells #[.int .i64 id, .slice AV vec.length cv, .slice A es.length c, .slice AH hs.length ch, .bool al, .slice AP ps.length cp] 36) := ⟨_, rfl⟩
  obtain ⟨W1_1, hW1_1⟩ : ∃ x, x = W1_0.alloc (.cells #[.int .i64 id, .slice AV' vec.length cv', .slice A' es.length c', .slice AH' hs.length ch', .bool al, .slice AP' ps.length cp'] 36) := ⟨_, rfl⟩
  have hZ1_0 : W1_0.heap.size = w.heap.size + 1 := by rw [hW1_0]; simp
  have hZ1_1 : W1_1.heap.size = w.heap.size + 2 := by rw [hW1_1]; simp [hZ1_0]
  have hx0 : Bx W1_0 (w.heap.size) [.int .i64 id, .slice AV vec.length cv, .slice A es.length c, .slice AH hs.length ch, .bool al, .slice AP ps.length cp] := by rw [hW1_0]; exact Bx.new' _ _ _ _ rfl
  replace hx0 : Bx W1_1 (w.heap.size) [.int .i64 id, .slice AV vec.length cv, .slice A es.length c, .slice AH hs.length ch, .bool al, .slice AP ps.length cp] := by rw [hW1_1]; exact hx0.alloc (by omega) _
  have hx1 : Bx W1_1 (w.heap.size + 1) [.int .i64 id, .slice AV' vec.length cv', .slice A' es.length c', .slice AH' hs.length ch', .bool al, .slice AP' ps.length cp'] := by rw [hW1_1, ← hZ1_0]; exact Bx.new' _ _ _ _ rfl
  have hb0 : Below w.heap.size w W1_1 := by rw [hW1_1, hW1_0]; exact (((Below.refl _ _).alloc (by first | exact Nat.le_refl _ | (simp; done) | (simp; omega)) _).alloc (by first | exact Nat.le_refl _ | (simp; done) | (simp; omega)) _)
  have hlt : w.heap.size + 1 < W1_1.heap.size := by omega
  rw [← hW1_0, ← hW1_1]
  clear hW1_0 hZ1_0 hW1_1 hZ1_1
  have z_2 := hb0.size
  have Hbel_3 := Lib.hid (hb0)
  have HX_4 := Lib.hid (hx0)
  have HY_5 := Lib.hid (hx1)
  clear hb0 hx0 hx1
  have hl_6 := hlt
  clear hlt
  refine (eqTree_same AV AV' A A' vec es cv cv' c c' L L' B B' W1_1 (HT.out.tree.keep fun p _ hp => ⟨Hbel_3.out.cell (by omega), Hbel_3.out.frozen (by omega)⟩) (HT'.out.tree.keep fun p _ hp => ⟨Hbel_3.out.cell (by omega), Hbel_3.out.frozen (by omega)⟩) (by omega) (by omega) hv hn hbk).mono ?_
  rintro e w1 ⟨rfl, hb⟩
  have z_7 := hb.size
  have Hbel_8 := Lib.hid (Hbel_3.out.trans (hb.mono (by omega)))
  have HX_9 := Lib.hid (HX_4.out.below hb (by omega))
  have HY_10 := Lib.hid (HY_5.out.below hb (by omega))
  clear Hbel_3 HX_4 HY_5
  clear hb
  have qX_0 := HX_9.out 0 (by simp)
  have qX_1 := HX_9.out 1 (by simp)
  have qX_2 := HX_9.out 2 (by simp)
  have qX_3 := HX_9.out 3 (by simp)
  have qX_4 := HX_9.out 4 (by simp)
  have qX_5 := HX_9.out 5 (by simp)
  have lX : w.heap.size < w1.heap.size := by omega
  have qY_0 := HY_10.out 0 (by simp)
  have qY_1 := HY_10.out 1 (by simp)
  have qY_2 := HY_10.out 2 (by simp)
  have qY_3 := HY_10.out 3 (by simp)
  have qY_4 := HY_10.out 4 (by simp)
  have qY_5 := HY_10.out 5 (by simp)
  have lY : w.heap.size + 1 < w1.heap.size := by omega
  simp only [List.getElem_cons_succ, List.getElem_cons_zero] at qX_0 qX_1 qX_2 qX_3 qX_4 qX_5 qY_0 qY_1 qY_2 qY_3 qY_4 qY_5
  go_wp2_with fail
  refine (eqManifestS_same AH AH' hs ch ch' L L' B B' w1 (HT.out.heads.keep fun p _ hp => ⟨Hbel_8.out.cell (by omega), Hbel_8.out.frozen (by omega)⟩) (HT'.out.heads.keep fun p _ hp => ⟨Hbel_8.out.cell (by omega), Hbel_8.out.frozen (by omega)⟩) (by omega) (by omega) hhl hhb).mono ?_
  rintro e w2 ⟨rfl, hb⟩
  clear qX_0 qX_1 qX_2 qX_3 qX_4 qX_5 lX qY_0 qY_1 qY_2 qY_3 qY_4 qY_5 lY
  have z_11 := hb.size
  have Hbel_12 := Lib.hid (Hbel_8.out.trans (hb.mono (by omega)))
  have HX_13 := Lib.hid (HX_9.out.below hb (by omega))
  have HY_14 := Lib.hid (HY_10.out.below hb (by omega))
  clear Hbel_8 HX_9 HY_10
  clear hb
  have qX_0 := HX_13.out 0 (by simp)
  have qX_1 := HX_13.out 1 (by simp)
  have qX_2 := HX_13.out 2 (by simp)
  have qX_3 := HX_13.out 3 (by simp)
  have qX_4 := HX_13.out 4 (by simp)
  have qX_5 := HX_13.out 5 (by simp)
  have lX : w.heap.size < w2.heap.size := by omega
  have qY_0 := HY_14.out 0 (by simp)
  have qY_1 := HY_14.out 1 (by simp)
  have qY_2 := HY_14.out 2 (by simp)
  have qY_3 := HY_14.out 3 (by simp)
  have qY_4 := HY_14.out 4 (by simp)
  have qY_5 := HY_14.out 5 (by simp)
  have lY : w.heap.size + 1 < w2.heap.size := by omega
  simp only [List.getElem_cons_succ, List.getElem_cons_zero] at qX_0 qX_1 qX_2 qX_3 qX_4 qX_5 qY_0 qY_1 qY_2 qY_3 qY_4 qY_5
  go_wp2_with fail
  refine (eqManifestS_same AP AP' ps cp cp' L L' B B' w2 (HT.out.proof.keep fun p _ hp => ⟨Hbel_12.out.cell (by omega), Hbel_12.out.frozen (by omega)⟩) (HT'.out.proof.keep fun p _ hp => ⟨Hbel_12.out.cell (by omega), Hbel_12.out.frozen (by omega)⟩) (by omega) (by omega) hpl hpb).mono ?_
  rintro e w3 ⟨rfl, hb⟩
  clear qX_0 qX_1 qX_2 qX_3 qX_4 qX_5 lX qY_0 qY_1 qY_2 qY_3 qY_4 qY_5 lY
  have z_15 := hb.size
  have Hbel_16 := Lib.hid (Hbel_12.out.trans (hb.mono (by omega)))
  have HX_17 := Lib.hid (HX_13.out.below hb (by omega))
  have HY_18 := Lib.hid (HY_14.out.below hb (by omega))
  clear Hbel_12 HX_13 HY_14
  clear hb
  go_wp2_with fail
  go_ret
  exact ⟨rfl, Hbel_16.out⟩


end Go.Proofs.Ytgomdjhfdnbmdaa
