/-
  A manifest is copied; HeadOf: what is answered, the model, the program.
-/
import Derived.Test.YtgomdjhfdnbmdaaCpI
import Derived.Test.YtgomdjhfdnbmdaaKn
namespace Go.Proofs.Ytgomdjhfdnbmdaa
open Go.RowKit Go.Maps

/-- A manifest is handed back. -/
def NewMn (m : Mn) (w : World) (e : Ending) (w' : World) : Prop :=
  ∃ AV cv A c, e = .returned (.agg #[.int .i64 m.au, .int .i64 m.sq, .int .i64 m.pv, .slice AV m.vec.length cv, .slice A m.es.length c, .int .i64 m.sg]) ∧ TrOwn w' w.heap.size w'.heap.size AV m.vec A m.es ∧ w.heap.size < w'.heap.size ∧ Below w.heap.size w w'
/-- A manifest is handed back, and whether there is one. -/
def NewMnB (m : Mn) (b : Bool) (w : World) (e : Ending) (w' : World) : Prop :=
  ∃ AV cv A c, e = .returned (.tuple #[.agg #[.int .i64 m.au, .int .i64 m.sq, .int .i64 m.pv, .slice AV m.vec.length cv, .slice A m.es.length c, .int .i64 m.sg], .bool b]) ∧ TrOwn w' w.heap.size w'.heap.size AV m.vec A m.es ∧ w.heap.size < w'.heap.size ∧ Below w.heap.size w w'
/-- No manifest. -/
def noMn : Mn := ⟨0, 0, 0, [], [], 0⟩
def hdM (hs : List Mn) (a : Int) : Mn := if h : headN hs a < hs.length then hs[headN hs a] else noMn
def hdB (hs : List Mn) (a : Int) : Bool := decide (headN hs a < hs.length)
theorem hdM_none {hs : List Mn} {a : Int} (h : ¬ headN hs a < hs.length) : hdM hs a = noMn := by unfold hdM; rw [dif_neg h]
theorem hdM_at {hs : List Mn} {a : Int} (h : headN hs a < hs.length) : hdM hs a = hs[headN hs a] := by unfold hdM; rw [dif_pos h]
theorem hdM_bd {hs : List Mn} {a : Int} (hb : mbulk hs ≤ 1048576) : (hdM hs a).vec.length ≤ 1048576 ∧ (hdM hs a).es.length ≤ 1048576 ∧ ebulk (hdM hs a).es ≤ 1048576 := by
  by_cases h : headN hs a < hs.length
  · rw [hdM_at h]
    have := one_le_mbulk hs _ h
    omega
  · rw [hdM_none h]
    simp [noMn, ebulk]
theorem tr_none (w : World) (L B : Nat) (h : L ≤ B) : TrOwn w L B none [] none [] :=
  ⟨L, L, L, L, Nat.le_refl _, h, Nat.le_refl _, h, .inl (Nat.le_refl _), fun h => absurd h (by simp), .nil⟩

set_option maxRecDepth 100000 in
set_option maxHeartbeats 1000000 in
theorem l4own_any (m : Mn) (AV : Option Addr) (cv : Nat) (A : Option Addr) (c : Nat) (w : World) (hV : IntsIn w 0 w.heap.size AV m.vec) (hA : EnsIn w 0 w.heap.size A m.es) (hv : m.vec.length ≤ 1048576) (hn : m.es.length ≤ 1048576) (hbk : ebulk m.es ≤ 1048576) :
    Calls Try.prog 28 #[.agg #[.int .i64 m.au, .int .i64 m.sq, .int .i64 m.pv, .slice AV m.vec.length cv, .slice A m.es.length c, .int .i64 m.sg]] w (NewMn m w) := by
  have HV := Lib.hid hV
  have HA := Lib.hid hA
  clear hV hA
  go_enter Try.func28, Try.ntmps28
  go_wp2_with fail
  obtain ⟨W1_0, hW1_0⟩ : ∃ x, x = w.alloc (.cells #[.int .i64 m.au, .int .i64 m.sq, .int .i64 m.pv, .slice AV m.vec.length cv, .slice A m.es.length c, .int .i64 m.sg] 41) := ⟨_, rfl⟩
  obtain ⟨W1_1, hW1_1⟩ : ∃ x, x = W1_0.alloc (.cells #[.int .i64 0, .int .i64 0, .int .i64 0, .slice none 0 0, .slice none 0 0, .int .i64 0] 41) := ⟨_, rfl⟩
  have hZ1_0 : W1_0.heap.size = w.heap.size + 1 := by rw [hW1_0]; simp
  have hZ1_1 : W1_1.heap.size = w.heap.size + 2 := by rw [hW1_1]; simp [hZ1_0]
  have hx0 : Bx W1_0 (w.heap.size) [.int .i64 m.au, .int .i64 m.sq, .int .i64 m.pv, .slice AV m.vec.length cv, .slice A m.es.length c, .int .i64 m.sg] := by rw [hW1_0]; exact Bx.new' _ _ _ _ rfl
  replace hx0 : Bx W1_1 (w.heap.size) [.int .i64 m.au, .int .i64 m.sq, .int .i64 m.pv, .slice AV m.vec.length cv, .slice A m.es.length c, .int .i64 m.sg] := by rw [hW1_1]; exact hx0.alloc (by omega) _
  have hx1 : Bx W1_1 (w.heap.size + 1) [.int .i64 0, .int .i64 0, .int .i64 0, .slice none 0 0, .slice none 0 0, .int .i64 0] := by rw [hW1_1, ← hZ1_0]; exact Bx.new' _ _ _ _ rfl
  have hb0 : Below w.heap.size w W1_1 := by rw [hW1_1, hW1_0]; exact (((Below.refl _ _).alloc (by first | exact Nat.le_refl _ | (simp; done) | (simp; omega)) _).alloc (by first | exact Nat.le_refl _ | (simp; done) | (simp; omega)) _)
  have hf0 : ∀ o, W1_1.frozen? ⟨w.heap.size, o, none⟩ = false := fun o => by rw [hW1_1, hW1_0]; exact (((Fresh.refl w).alloc _ _).alloc _ _) ⟨w.heap.size, o, none⟩ (by show w.heap.size ≤ w.heap.size; omega)
  have hf1 : ∀ o, W1_1.frozen? ⟨w.heap.size + 1, o, none⟩ = false := fun o => by rw [hW1_1, hW1_0]; exact (((Fresh.refl w).alloc _ _).alloc _ _) ⟨w.heap.size + 1, o, none⟩ (by show w.heap.size ≤ w.heap.size + 1; omega)
  have hlt : w.heap.size + 1 < W1_1.heap.size := by omega
  rw [← hW1_0, ← hW1_1]
  clear hW1_0 hZ1_0 hW1_1 hZ1_1
  have z_2 := hb0.size
  have Hbel_3 := Lib.hid (hb0)
  have HM_4 := Lib.hid (hx0)
  have HMF_5 := Lib.hid (hf0)
  clear hf0
  have HR_6 := Lib.hid (hx1)
  have HRF_7 := Lib.hid (hf1)
  clear hf1
  clear hb0 hx0 hx1
  have hl_8 := hlt
  clear hlt
  refine (l3own_gen AV m.vec cv A m.es c W1_1 ((HV.out.keep fun p _ hp => Hbel_3.out.cell hp).mono (by omega)) ((HA.out.keep fun p _ hp => Hbel_3.out.cell hp).mono (by omega)) hv hn hbk).mono ?_
  rintro e w1 ⟨AV1, cv1, A1, c1, rfl, hown, hlt, hb⟩
  have z_9 := hb.size
  have Hbel_10 := Lib.hid (Hbel_3.out.trans (hb.mono (by omega)))
  have HM_11 := Lib.hid (HM_4.out.below hb (by omega))
  have HMF_12 := Lib.hid (show ∀ o, w1.frozen? ⟨w.heap.size, o, none⟩ = false from fun o => (hb.frozen (p := ⟨w.heap.size, o, none⟩) (by show w.heap.size < _; omega)).trans (HMF_5.out o))
  have HR_13 := Lib.hid (HR_6.out.below hb (by omega))
  have HRF_14 := Lib.hid (show ∀ o, w1.frozen? ⟨w.heap.size + 1, o, none⟩ = false from fun o => (hb.frozen (p := ⟨w.heap.size + 1, o, none⟩) (by show w.heap.size + 1 < _; omega)).trans (HRF_7.out o))
  clear Hbel_3 HM_4 HMF_5 HR_6 HRF_7
  have Htr_15 := Lib.hid (hown)
  clear hb
  clear hown
  have qM_0 := HM_11.out 0 (by simp)
  have qM_1 := HM_11.out 1 (by simp)
  have qM_2 := HM_11.out 2 (by simp)
  have qM_3 := HM_11.out 3 (by simp)
  have qM_4 := HM_11.out 4 (by simp)
  have qM_5 := HM_11.out 5 (by simp)
  have lM : w.heap.size < w1.heap.size := by omega
  have fMF_0 := HMF_12.out 0
  have fMF_1 := HMF_12.out 1
  have fMF_2 := HMF_12.out 2
  have fMF_3 := HMF_12.out 3
  have fMF_4 := HMF_12.out 4
  have fMF_5 := HMF_12.out 5
  have qR_0 := HR_13.out 0 (by simp)
  have qR_1 := HR_13.out 1 (by simp)
  have qR_2 := HR_13.out 2 (by simp)
  have qR_3 := HR_13.out 3 (by simp)
  have qR_4 := HR_13.out 4 (by simp)
  have qR_5 := HR_13.out 5 (by simp)
  have lR : w.heap.size + 1 < w1.heap.size := by omega
  have fRF_0 := HRF_14.out 0
  have fRF_1 := HRF_14.out 1
  have fRF_2 := HRF_14.out 2
  have fRF_3 := HRF_14.out 3
  have fRF_4 := HRF_14.out 4
  have fRF_5 := HRF_14.out 5
  simp only [List.getElem_cons_succ, List.getElem_cons_zero] at qM_0 qM_1 qM_2 qM_3 qM_4 qM_5 qR_0 qR_1 qR_2 qR_3 qR_4 qR_5
  go_wp2_with fail
  clear qM_0 qM_1 qM_2 qM_3 qM_4 qM_5 lM fMF_0 fMF_1 fMF_2 fMF_3 fMF_4 fMF_5 qR_0 qR_1 qR_2 qR_3 qR_4 qR_5 lR fRF_0 fRF_1 fRF_2 fRF_3 fRF_4 fRF_5
  obtain ⟨w2, hW16⟩ : ∃ x, x = putAll (w.heap.size) 3 [.slice AV1 m.vec.length cv1, .slice A1 m.es.length c1] w1 := ⟨_, rfl⟩
  have hs16 : w2.heap.size = w1.heap.size := by rw [hW16]; exact putAll_size
  have Hbel_17 := Lib.hid (show Below w.heap.size w w2 by rw [hW16]; exact putAll_below Hbel_10.out (by omega))
  have HM_18 := Lib.hid (show Bx w2 (w.heap.size) [.int .i64 m.au, .int .i64 m.sq, .int .i64 m.pv, .slice AV1 m.vec.length cv1, .slice A1 m.es.length c1, .int .i64 m.sg] by rw [hW16]; have hq := HM_11.out.put 3 [.slice AV1 m.vec.length cv1, .slice A1 m.es.length c1] (by simp); simpa using hq)
  have HMF_19 := Lib.hid (show ∀ o, w2.frozen? ⟨w.heap.size, o, none⟩ = false from fun o => by rw [hW16]; exact (putAll_frozen _).trans (HMF_12.out o))
  have HR_20 := Lib.hid (show Bx w2 (w.heap.size + 1) [.int .i64 0, .int .i64 0, .int .i64 0, .slice none 0 0, .slice none 0 0, .int .i64 0] by rw [hW16]; exact HR_13.out.put_else (by omega))
  have HRF_21 := Lib.hid (show ∀ o, w2.frozen? ⟨w.heap.size + 1, o, none⟩ = false from fun o => by rw [hW16]; exact (putAll_frozen _).trans (HRF_14.out o))
  have Htr_22 := Lib.hid (show TrOwn w2 W1_1.heap.size w1.heap.size AV1 m.vec A1 m.es by rw [hW16]; exact Htr_15.out.keep fun p hp hq => ⟨putAll_other (by omega), putAll_frozen _⟩)
  simp only [putAll] at hW16
  rw [← hW16]
  have z_23 : w1.heap.size ≤ w2.heap.size := Nat.le_of_eq hs16.symm
  clear hW16 hs16 Hbel_10 HM_11 HMF_12 HR_13 HRF_14 Htr_15
  obtain ⟨w3, hW24⟩ : ∃ x, x = putAll (w.heap.size + 1) 0 [.int .i64 m.au, .int .i64 m.sq, .int .i64 m.pv, .slice AV1 m.vec.length cv1, .slice A1 m.es.length c1, .int .i64 m.sg] w2 := ⟨_, rfl⟩
  have hs24 : w3.heap.size = w2.heap.size := by rw [hW24]; exact putAll_size
  have Hbel_25 := Lib.hid (show Below w.heap.size w w3 by rw [hW24]; exact putAll_below Hbel_17.out (by omega))
  have HM_26 := Lib.hid (show Bx w3 (w.heap.size) [.int .i64 m.au, .int .i64 m.sq, .int .i64 m.pv, .slice AV1 m.vec.length cv1, .slice A1 m.es.length c1, .int .i64 m.sg] by rw [hW24]; exact HM_18.out.put_else (by omega))
  have HMF_27 := Lib.hid (show ∀ o, w3.frozen? ⟨w.heap.size, o, none⟩ = false from fun o => by rw [hW24]; exact (putAll_frozen _).trans (HMF_19.out o))
  have HR_28 := Lib.hid (show Bx w3 (w.heap.size + 1) [.int .i64 m.au, .int .i64 m.sq, .int .i64 m.pv, .slice AV1 m.vec.length cv1, .slice A1 m.es.length c1, .int .i64 m.sg] by rw [hW24]; have hq := HR_20.out.put 0 [.int .i64 m.au, .int .i64 m.sq, .int .i64 m.pv, .slice AV1 m.vec.length cv1, .slice A1 m.es.length c1, .int .i64 m.sg] (by simp); simpa using hq)
  have HRF_29 := Lib.hid (show ∀ o, w3.frozen? ⟨w.heap.size + 1, o, none⟩ = false from fun o => by rw [hW24]; exact (putAll_frozen _).trans (HRF_21.out o))
  have Htr_30 := Lib.hid (show TrOwn w3 W1_1.heap.size w1.heap.size AV1 m.vec A1 m.es by rw [hW24]; exact Htr_22.out.keep fun p hp hq => ⟨putAll_other (by omega), putAll_frozen _⟩)
  simp only [putAll] at hW24
  rw [← hW24]
  have z_31 : w2.heap.size ≤ w3.heap.size := Nat.le_of_eq hs24.symm
  clear hW24 hs24 Hbel_17 HM_18 HMF_19 HR_20 HRF_21 Htr_22
  have qR_0 := HR_28.out 0 (by simp)
  have qR_1 := HR_28.out 1 (by simp)
  have qR_2 := HR_28.out 2 (by simp)
  have qR_3 := HR_28.out 3 (by simp)
  have qR_4 := HR_28.out 4 (by simp)
  have qR_5 := HR_28.out 5 (by simp)
  have lR : w.heap.size + 1 < w3.heap.size := by omega
  simp only [List.getElem_cons_succ, List.getElem_cons_zero] at qR_0 qR_1 qR_2 qR_3 qR_4 qR_5
  have HT := Lib.hid (show TrOwn w3 w.heap.size w3.heap.size AV1 m.vec A1 m.es from Htr_30.out.mono (by omega) (by omega))
  refine bodyPost_ret (v := .agg #[.int .i64 m.au, .int .i64 m.sq, .int .i64 m.pv, .slice AV1 m.vec.length cv1, .slice A1 m.es.length c1, .int .i64 m.sg]) (by simp [results, Try.results28, qR_0, qR_1, qR_2, qR_3, qR_4, qR_5, go_sem]) rfl ⟨AV1, cv1, A1, c1, rfl, HT.out, by omega, Hbel_25.out⟩

set_option maxRecDepth 100000 in
set_option maxHeartbeats 1000000 in
theorem copyMan_any (m : Mn) (AV : Option Addr) (cv : Nat) (A : Option Addr) (c : Nat) (w : World) (hV : IntsIn w 0 w.heap.size AV m.vec) (hA : EnsIn w 0 w.heap.size A m.es) (hv : m.vec.length ≤ 1048576) (hn : m.es.length ≤ 1048576) (hbk : ebulk m.es ≤ 1048576) :
    Calls Try.prog 29 #[.agg #[.int .i64 m.au, .int .i64 m.sq, .int .i64 m.pv, .slice AV m.vec.length cv, .slice A m.es.length c, .int .i64 m.sg]] w (NewMn m w) := by
  have HV := Lib.hid hV
  have HA := Lib.hid hA
  clear hV hA
  go_enter Try.func29, Try.ntmps29
  go_wp2_with fail
  obtain ⟨W1_0, hW1_0⟩ : ∃ x, x = w.alloc (.cells #[.int .i64 m.au, .int .i64 m.sq, .int .i64 m.pv, .slice AV m.vec.length cv, .slice A m.es.length c, .int .i64 m.sg] 41) := ⟨_, rfl⟩
  obtain ⟨W1_1, hW1_1⟩ : ∃ x, x = W1_0.alloc (.cells #[.int .i64 0, .int .i64 0, .int .i64 0, .slice none 0 0, .slice none 0 0, .int .i64 0] 41) := ⟨_, rfl⟩
  have hZ1_0 : W1_0.heap.size = w.heap.size + 1 := by rw [hW1_0]; simp
  have hZ1_1 : W1_1.heap.size = w.heap.size + 2 := by rw [hW1_1]; simp [hZ1_0]
  have hx0 : Bx W1_0 (w.heap.size) [.int .i64 m.au, .int .i64 m.sq, .int .i64 m.pv, .slice AV m.vec.length cv, .slice A m.es.length c, .int .i64 m.sg] := by rw [hW1_0]; exact Bx.new' _ _ _ _ rfl
  replace hx0 : Bx W1_1 (w.heap.size) [.int .i64 m.au, .int .i64 m.sq, .int .i64 m.pv, .slice AV m.vec.length cv, .slice A m.es.length c, .int .i64 m.sg] := by rw [hW1_1]; exact hx0.alloc (by omega) _
  have hx1 : Bx W1_1 (w.heap.size + 1) [.int .i64 0, .int .i64 0, .int .i64 0, .slice none 0 0, .slice none 0 0, .int .i64 0] := by rw [hW1_1, ← hZ1_0]; exact Bx.new' _ _ _ _ rfl
  have hb0 : Below w.heap.size w W1_1 := by rw [hW1_1, hW1_0]; exact (((Below.refl _ _).alloc (by first | exact Nat.le_refl _ | (simp; done) | (simp; omega)) _).alloc (by first | exact Nat.le_refl _ | (simp; done) | (simp; omega)) _)
  have hf0 : ∀ o, W1_1.frozen? ⟨w.heap.size, o, none⟩ = false := fun o => by rw [hW1_1, hW1_0]; exact (((Fresh.refl w).alloc _ _).alloc _ _) ⟨w.heap.size, o, none⟩ (by show w.heap.size ≤ w.heap.size; omega)
  have hf1 : ∀ o, W1_1.frozen? ⟨w.heap.size + 1, o, none⟩ = false := fun o => by rw [hW1_1, hW1_0]; exact (((Fresh.refl w).alloc _ _).alloc _ _) ⟨w.heap.size + 1, o, none⟩ (by show w.heap.size ≤ w.heap.size + 1; omega)
  have hlt : w.heap.size + 1 < W1_1.heap.size := by omega
  rw [← hW1_0, ← hW1_1]
  clear hW1_0 hZ1_0 hW1_1 hZ1_1
  have z_2 := hb0.size
  have Hbel_3 := Lib.hid (hb0)
  have HM_4 := Lib.hid (hx0)
  have HMF_5 := Lib.hid (hf0)
  clear hf0
  have HR_6 := Lib.hid (hx1)
  have HRF_7 := Lib.hid (hf1)
  clear hf1
  clear hb0 hx0 hx1
  have hl_8 := hlt
  clear hlt
  refine (copyTree_any AV m.vec cv A m.es c W1_1 ((HV.out.keep fun p _ hp => Hbel_3.out.cell hp).mono (by omega)) ((HA.out.keep fun p _ hp => Hbel_3.out.cell hp).mono (by omega)) hv hn hbk).mono ?_
  rintro e w1 ⟨AV1, cv1, A1, c1, rfl, hown, hlt, hb⟩
  have z_9 := hb.size
  have Hbel_10 := Lib.hid (Hbel_3.out.trans (hb.mono (by omega)))
  have HM_11 := Lib.hid (HM_4.out.below hb (by omega))
  have HMF_12 := Lib.hid (show ∀ o, w1.frozen? ⟨w.heap.size, o, none⟩ = false from fun o => (hb.frozen (p := ⟨w.heap.size, o, none⟩) (by show w.heap.size < _; omega)).trans (HMF_5.out o))
  have HR_13 := Lib.hid (HR_6.out.below hb (by omega))
  have HRF_14 := Lib.hid (show ∀ o, w1.frozen? ⟨w.heap.size + 1, o, none⟩ = false from fun o => (hb.frozen (p := ⟨w.heap.size + 1, o, none⟩) (by show w.heap.size + 1 < _; omega)).trans (HRF_7.out o))
  clear Hbel_3 HM_4 HMF_5 HR_6 HRF_7
  have Htr_15 := Lib.hid (hown)
  clear hb
  clear hown
  have qM_0 := HM_11.out 0 (by simp)
  have qM_1 := HM_11.out 1 (by simp)
  have qM_2 := HM_11.out 2 (by simp)
  have qM_3 := HM_11.out 3 (by simp)
  have qM_4 := HM_11.out 4 (by simp)
  have qM_5 := HM_11.out 5 (by simp)
  have lM : w.heap.size < w1.heap.size := by omega
  have fMF_0 := HMF_12.out 0
  have fMF_1 := HMF_12.out 1
  have fMF_2 := HMF_12.out 2
  have fMF_3 := HMF_12.out 3
  have fMF_4 := HMF_12.out 4
  have fMF_5 := HMF_12.out 5
  have qR_0 := HR_13.out 0 (by simp)
  have qR_1 := HR_13.out 1 (by simp)
  have qR_2 := HR_13.out 2 (by simp)
  have qR_3 := HR_13.out 3 (by simp)
  have qR_4 := HR_13.out 4 (by simp)
  have qR_5 := HR_13.out 5 (by simp)
  have lR : w.heap.size + 1 < w1.heap.size := by omega
  have fRF_0 := HRF_14.out 0
  have fRF_1 := HRF_14.out 1
  have fRF_2 := HRF_14.out 2
  have fRF_3 := HRF_14.out 3
  have fRF_4 := HRF_14.out 4
  have fRF_5 := HRF_14.out 5
  simp only [List.getElem_cons_succ, List.getElem_cons_zero] at qM_0 qM_1 qM_2 qM_3 qM_4 qM_5 qR_0 qR_1 qR_2 qR_3 qR_4 qR_5
  go_wp2_with fail
  clear qM_0 qM_1 qM_2 qM_3 qM_4 qM_5 lM fMF_0 fMF_1 fMF_2 fMF_3 fMF_4 fMF_5 qR_0 qR_1 qR_2 qR_3 qR_4 qR_5 lR fRF_0 fRF_1 fRF_2 fRF_3 fRF_4 fRF_5
  obtain ⟨w2, hW16⟩ : ∃ x, x = putAll (w.heap.size) 3 [.slice AV1 m.vec.length cv1, .slice A1 m.es.length c1] w1 := ⟨_, rfl⟩
  have hs16 : w2.heap.size = w1.heap.size := by rw [hW16]; exact putAll_size
  have Hbel_17 := Lib.hid (show Below w.heap.size w w2 by rw [hW16]; exact putAll_below Hbel_10.out (by omega))
  have HM_18 := Lib.hid (show Bx w2 (w.heap.size) [.int .i64 m.au, .int .i64 m.sq, .int .i64 m.pv, .slice AV1 m.vec.length cv1, .slice A1 m.es.length c1, .int .i64 m.sg] by rw [hW16]; have hq := HM_11.out.put 3 [.slice AV1 m.vec.length cv1, .slice A1 m.es.length c1] (by simp); simpa using hq)
  have HMF_19 := Lib.hid (show ∀ o, w2.frozen? ⟨w.heap.size, o, none⟩ = false from fun o => by rw [hW16]; exact (putAll_frozen _).trans (HMF_12.out o))
  have HR_20 := Lib.hid (show Bx w2 (w.heap.size + 1) [.int .i64 0, .int .i64 0, .int .i64 0, .slice none 0 0, .slice none 0 0, .int .i64 0] by rw [hW16]; exact HR_13.out.put_else (by omega))
  have HRF_21 := Lib.hid (show ∀ o, w2.frozen? ⟨w.heap.size + 1, o, none⟩ = false from fun o => by rw [hW16]; exact (putAll_frozen _).trans (HRF_14.out o))
  have Htr_22 := Lib.hid (show TrOwn w2 W1_1.heap.size w1.heap.size AV1 m.vec A1 m.es by rw [hW16]; exact Htr_15.out.keep fun p hp hq => ⟨putAll_other (by omega), putAll_frozen _⟩)
  simp only [putAll] at hW16
  rw [← hW16]
  have z_23 : w1.heap.size ≤ w2.heap.size := Nat.le_of_eq hs16.symm
  clear hW16 hs16 Hbel_10 HM_11 HMF_12 HR_13 HRF_14 Htr_15
  obtain ⟨w3, hW24⟩ : ∃ x, x = putAll (w.heap.size + 1) 0 [.int .i64 m.au, .int .i64 m.sq, .int .i64 m.pv, .slice AV1 m.vec.length cv1, .slice A1 m.es.length c1, .int .i64 m.sg] w2 := ⟨_, rfl⟩
  have hs24 : w3.heap.size = w2.heap.size := by rw [hW24]; exact putAll_size
  have Hbel_25 := Lib.hid (show Below w.heap.size w w3 by rw [hW24]; exact putAll_below Hbel_17.out (by omega))
  have HM_26 := Lib.hid (show Bx w3 (w.heap.size) [.int .i64 m.au, .int .i64 m.sq, .int .i64 m.pv, .slice AV1 m.vec.length cv1, .slice A1 m.es.length c1, .int .i64 m.sg] by rw [hW24]; exact HM_18.out.put_else (by omega))
  have HMF_27 := Lib.hid (show ∀ o, w3.frozen? ⟨w.heap.size, o, none⟩ = false from fun o => by rw [hW24]; exact (putAll_frozen _).trans (HMF_19.out o))
  have HR_28 := Lib.hid (show Bx w3 (w.heap.size + 1) [.int .i64 m.au, .int .i64 m.sq, .int .i64 m.pv, .slice AV1 m.vec.length cv1, .slice A1 m.es.length c1, .int .i64 m.sg] by rw [hW24]; have hq := HR_20.out.put 0 [.int .i64 m.au, .int .i64 m.sq, .int .i64 m.pv, .slice AV1 m.vec.length cv1, .slice A1 m.es.length c1, .int .i64 m.sg] (by simp); simpa using hq)
  have HRF_29 := Lib.hid (show ∀ o, w3.frozen? ⟨w.heap.size + 1, o, none⟩ = false from fun o => by rw [hW24]; exact (putAll_frozen _).trans (HRF_21.out o))
  have Htr_30 := Lib.hid (show TrOwn w3 W1_1.heap.size w1.heap.size AV1 m.vec A1 m.es by rw [hW24]; exact Htr_22.out.keep fun p hp hq => ⟨putAll_other (by omega), putAll_frozen _⟩)
  simp only [putAll] at hW24
  rw [← hW24]
  have z_31 : w2.heap.size ≤ w3.heap.size := Nat.le_of_eq hs24.symm
  clear hW24 hs24 Hbel_17 HM_18 HMF_19 HR_20 HRF_21 Htr_22
  have qR_0 := HR_28.out 0 (by simp)
  have qR_1 := HR_28.out 1 (by simp)
  have qR_2 := HR_28.out 2 (by simp)
  have qR_3 := HR_28.out 3 (by simp)
  have qR_4 := HR_28.out 4 (by simp)
  have qR_5 := HR_28.out 5 (by simp)
  have lR : w.heap.size + 1 < w3.heap.size := by omega
  simp only [List.getElem_cons_succ, List.getElem_cons_zero] at qR_0 qR_1 qR_2 qR_3 qR_4 qR_5
  have HT := Lib.hid (show TrOwn w3 w.heap.size w3.heap.size AV1 m.vec A1 m.es from Htr_30.out.mono (by omega) (by omega))
  refine bodyPost_ret (v := .agg #[.int .i64 m.au, .int .i64 m.sq, .int .i64 m.pv, .slice AV1 m.vec.length cv1, .slice A1 m.es.length c1, .int .i64 m.sg]) (by simp [results, Try.results29, qR_0, qR_1, qR_2, qR_3, qR_4, qR_5, go_sem]) rfl ⟨AV1, cv1, A1, c1, rfl, HT.out, by omega, Hbel_25.out⟩

set_option maxRecDepth 100000 in
set_option maxHeartbeats 1000000 in
theorem specHeadOf_any (id : Int) (AV : Option Addr) (vec : List Int) (cv : Nat) (A : Option Addr) (es : List En) (c : Nat) (AH : Option Addr) (hs : List Mn) (ch : Nat) (al : Bool) (AP : Option Addr) (ps : List Mn) (cp : Nat) (a : Int) (w : World) (_hV : IntsIn w 0 w.heap.size AV vec) (_hA : EnsIn w 0 w.heap.size A es) (hH : MnsRd w 0 w.heap.size AH hs) (_hP : MnsRd w 0 w.heap.size AP ps) (_hv : vec.length ≤ 1048576) (_hn : es.length ≤ 1048576) (_hbk : ebulk es ≤ 1048576) (hhl : hs.length ≤ 1048576) (hhb : mbulk hs ≤ 1048576) (_hpl : ps.length ≤ 1048576) (_hpb : mbulk ps ≤ 1048576) :
    Calls Try.prog 11 #[.agg #[.int .i64 id, .slice AV vec.length cv, .slice A es.length c, .slice AH hs.length ch, .bool al, .slice AP ps.length cp], .int .i64 a] w (NewMnB (hdM hs a) (hdB hs a) w) := by
  have HH := Lib.hid hH.in
  clear hH
  go_enter Try.func11, Try.ntmps11
  go_wp2_with fail
  obtain ⟨W1_0, hW1_0⟩ : ∃ x, x = w.alloc (.cells #[.int .i64 id, .slice AV vec.length cv, .slice A es.length c, .slice AH hs.length ch, .bool al, .slice AP ps.length cp] 36) := ⟨_, rfl⟩
  obtain ⟨W1_1, hW1_1⟩ : ∃ x, x = W1_0.alloc (.cells #[.int .i64 0, .int .i64 0, .int .i64 0, .slice none 0 0, .slice none 0 0, .int .i64 0] 41) := ⟨_, rfl⟩
  have hZ1_0 : W1_0.heap.size = w.heap.size + 1 := by rw [hW1_0]; simp
  have hZ1_1 : W1_1.heap.size = w.heap.size + 2 := by rw [hW1_1]; simp [hZ1_0]
  have hx0 : Bx W1_0 (w.heap.size) [.int .i64 id, .slice AV vec.length cv, .slice A es.length c, .slice AH hs.length ch, .bool al, .slice AP ps.length cp] := by rw [hW1_0]; exact Bx.new' _ _ _ _ rfl
  replace hx0 : Bx W1_1 (w.heap.size) [.int .i64 id, .slice AV vec.length cv, .slice A es.length c, .slice AH hs.length ch, .bool al, .slice AP ps.length cp] := by rw [hW1_1]; exact hx0.alloc (by omega) _
  have hx1 : Bx W1_1 (w.heap.size + 1) [.int .i64 0, .int .i64 0, .int .i64 0, .slice none 0 0, .slice none 0 0, .int .i64 0] := by rw [hW1_1, ← hZ1_0]; exact Bx.new' _ _ _ _ rfl
  have hb0 : Below w.heap.size w W1_1 := by rw [hW1_1, hW1_0]; exact (((Below.refl _ _).alloc (by first | exact Nat.le_refl _ | (simp; done) | (simp; omega)) _).alloc (by first | exact Nat.le_refl _ | (simp; done) | (simp; omega)) _)
  have hf1 : ∀ o, W1_1.frozen? ⟨w.heap.size + 1, o, none⟩ = false := fun o => by rw [hW1_1, hW1_0]; exact (((Fresh.refl w).alloc _ _).alloc _ _) ⟨w.heap.size + 1, o, none⟩ (by show w.heap.size ≤ w.heap.size + 1; omega)
  have hlt : w.heap.size + 1 < W1_1.heap.size := by omega
  rw [← hW1_0, ← hW1_1]
  clear hW1_0 hZ1_0 hW1_1 hZ1_1
  have z_2 := hb0.size
  have Hbel_3 := Lib.hid (hb0)
  have HD_4 := Lib.hid (hx0)
  have HR_5 := Lib.hid (hx1)
  have HRF_6 := Lib.hid (hf1)
  clear hf1
  clear hb0 hx0 hx1
  have hl_7 := hlt
  clear hlt
  refine (l5head_any id AV vec.length cv A es.length c AH hs ch al AP ps.length cp a W1_1 ((HH.out.keep fun p _ hp => Hbel_3.out.cell hp).mono (by omega)) hhl).mono ?_
  rintro e w1 ⟨rfl, hb⟩
  have z_8 := hb.size
  have Hbel_9 := Lib.hid (Hbel_3.out.trans (hb.mono (by omega)))
  have HD_10 := Lib.hid (HD_4.out.below hb (by omega))
  have HR_11 := Lib.hid (HR_5.out.below hb (by omega))
  have HRF_12 := Lib.hid (show ∀ o, w1.frozen? ⟨w.heap.size + 1, o, none⟩ = false from fun o => (hb.frozen (p := ⟨w.heap.size + 1, o, none⟩) (by show w.heap.size + 1 < _; omega)).trans (HRF_6.out o))
  clear Hbel_3 HD_4 HR_5 HRF_6
  clear hb
  rcases headI_cases hs a with ⟨h1, h2⟩ | ⟨k, h1, h2, h3⟩
  · have HM := Lib.hid (hdM_none h2)
    have HBb := Lib.hid (show hdB hs a = false from decide_eq_false h2)
    rw [h1]
    clear h1
    have qR_0 := HR_11.out 0 (by simp)
    have qR_1 := HR_11.out 1 (by simp)
    have qR_2 := HR_11.out 2 (by simp)
    have qR_3 := HR_11.out 3 (by simp)
    have qR_4 := HR_11.out 4 (by simp)
    have qR_5 := HR_11.out 5 (by simp)
    have lR : w.heap.size + 1 < w1.heap.size := by omega
    have fRF_0 := HRF_12.out 0
    have fRF_1 := HRF_12.out 1
    have fRF_2 := HRF_12.out 2
    have fRF_3 := HRF_12.out 3
    have fRF_4 := HRF_12.out 4
    have fRF_5 := HRF_12.out 5
    simp only [List.getElem_cons_succ, List.getElem_cons_zero] at qR_0 qR_1 qR_2 qR_3 qR_4 qR_5
    go_wp2_with fail
    clear qR_0 qR_1 qR_2 qR_3 qR_4 qR_5 lR fRF_0 fRF_1 fRF_2 fRF_3 fRF_4 fRF_5
    obtain ⟨w2, hW13⟩ : ∃ x, x = putAll (w.heap.size + 1) 0 [.int .i64 0, .int .i64 0, .int .i64 0, .slice none 0 0, .slice none 0 0, .int .i64 0] w1 := ⟨_, rfl⟩
    have hs13 : w2.heap.size = w1.heap.size := by rw [hW13]; exact putAll_size
    have Hbel_14 := Lib.hid (show Below w.heap.size w w2 by rw [hW13]; exact putAll_below Hbel_9.out (by omega))
    have HD_15 := Lib.hid (show Bx w2 (w.heap.size) [.int .i64 id, .slice AV vec.length cv, .slice A es.length c, .slice AH hs.length ch, .bool al, .slice AP ps.length cp] by rw [hW13]; exact HD_10.out.put_else (by omega))
    have HR_16 := Lib.hid (show Bx w2 (w.heap.size + 1) [.int .i64 0, .int .i64 0, .int .i64 0, .slice none 0 0, .slice none 0 0, .int .i64 0] by rw [hW13]; have hq := HR_11.out.put 0 [.int .i64 0, .int .i64 0, .int .i64 0, .slice none 0 0, .slice none 0 0, .int .i64 0] (by simp); simpa using hq)
    have HRF_17 := Lib.hid (show ∀ o, w2.frozen? ⟨w.heap.size + 1, o, none⟩ = false from fun o => by rw [hW13]; exact (putAll_frozen _).trans (HRF_12.out o))
    simp only [putAll] at hW13
    rw [← hW13]
    have z_18 : w1.heap.size ≤ w2.heap.size := Nat.le_of_eq hs13.symm
    clear hW13 hs13 Hbel_9 HD_10 HR_11 HRF_12
    have qR_0 := HR_16.out 0 (by simp)
    have qR_1 := HR_16.out 1 (by simp)
    have qR_2 := HR_16.out 2 (by simp)
    have qR_3 := HR_16.out 3 (by simp)
    have qR_4 := HR_16.out 4 (by simp)
    have qR_5 := HR_16.out 5 (by simp)
    have lR : w.heap.size + 1 < w2.heap.size := by omega
    simp only [List.getElem_cons_succ, List.getElem_cons_zero] at qR_0 qR_1 qR_2 qR_3 qR_4 qR_5
    refine bodyPost_ret (v := .tuple #[.agg #[.int .i64 0, .int .i64 0, .int .i64 0, .slice none 0 0, .slice none 0 0, .int .i64 0], .bool false]) (by simp [results, Try.results11, qR_0, qR_1, qR_2, qR_3, qR_4, qR_5, go_sem]) rfl ?_
    rw [HM.out, HBb.out]
    exact ⟨none, 0, none, 0, rfl, tr_none _ _ _ (by omega), by omega, Hbel_14.out⟩
  · obtain ⟨m, hm⟩ : ∃ m, m = hs[k] := ⟨_, rfl⟩
    have HM := Lib.hid (show hdM hs a = m by subst h2; rw [hm, hdM_at h3])
    have HBb := Lib.hid (show hdB hs a = true by subst h2; exact decide_eq_true h3)
    have hle := one_le_mbulk hs k h3
    obtain ⟨b, o, rfl, hL, hb, hc⟩ := HH.out (by omega)
    obtain ⟨AV0, cv0, A0, c0, d0, d1, d2, d3, d4, d5, hv0, he0⟩ := (hc k h3).keep (w' := w1) hL hb (fun p _ hp => Hbel_9.out.cell hp)
    rw [← hm] at d0 d1 d2 d3 d4 d5 hv0 he0 hle
    have HV0 := Lib.hid hv0
    have HE0 := Lib.hid he0
    have hk' : (k : Int) < (hs.length : Int) := by omega
    have hk0 : ¬ ((k : Int) < 0) := by omega
    have lb : b < w1.heap.size := by omega
    rw [h1]
    clear h1 h2 hc hm hv0 he0
    have qD_0 := HD_10.out 0 (by simp)
    have qD_1 := HD_10.out 1 (by simp)
    have qD_2 := HD_10.out 2 (by simp)
    have qD_3 := HD_10.out 3 (by simp)
    have qD_4 := HD_10.out 4 (by simp)
    have qD_5 := HD_10.out 5 (by simp)
    have lD : w.heap.size < w1.heap.size := by omega
    simp only [List.getElem_cons_succ, List.getElem_cons_zero] at qD_0 qD_1 qD_2 qD_3 qD_4 qD_5
    go_wp2_with fail
    clear d0 d1 d2 d3 d4 d5
    refine (l4own_any m AV0 cv0 A0 c0 w1 (HV0.out.mono (by omega)) (HE0.out.mono (by omega)) (by omega) (by omega) (by omega)).mono ?_
    rintro e w2 ⟨AV1, cv1, A1, c1, rfl, hown, hlt, hb⟩
    clear qD_0 qD_1 qD_2 qD_3 qD_4 qD_5 lD
    have z_13 := hb.size
    have Hbel_14 := Lib.hid (Hbel_9.out.trans (hb.mono (by omega)))
    have HR_15 := Lib.hid (HR_11.out.below hb (by omega))
    have HRF_16 := Lib.hid (show ∀ o, w2.frozen? ⟨w.heap.size + 1, o, none⟩ = false from fun o => (hb.frozen (p := ⟨w.heap.size + 1, o, none⟩) (by show w.heap.size + 1 < _; omega)).trans (HRF_12.out o))
    clear Hbel_9 HD_10 HR_11 HRF_12
    have Htr_17 := Lib.hid (hown)
    clear hb
    clear hown
    have qR_0 := HR_15.out 0 (by simp)
    have qR_1 := HR_15.out 1 (by simp)
    have qR_2 := HR_15.out 2 (by simp)
    have qR_3 := HR_15.out 3 (by simp)
    have qR_4 := HR_15.out 4 (by simp)
    have qR_5 := HR_15.out 5 (by simp)
    have lR : w.heap.size + 1 < w2.heap.size := by omega
    have fRF_0 := HRF_16.out 0
    have fRF_1 := HRF_16.out 1
    have fRF_2 := HRF_16.out 2
    have fRF_3 := HRF_16.out 3
    have fRF_4 := HRF_16.out 4
    have fRF_5 := HRF_16.out 5
    simp only [List.getElem_cons_succ, List.getElem_cons_zero] at qR_0 qR_1 qR_2 qR_3 qR_4 qR_5
    go_wp2_with fail
    clear qR_0 qR_1 qR_2 qR_3 qR_4 qR_5 lR fRF_0 fRF_1 fRF_2 fRF_3 fRF_4 fRF_5
    obtain ⟨w3, hW18⟩ : ∃ x, x = putAll (w.heap.size + 1) 0 [.int .i64 m.au, .int .i64 m.sq, .int .i64 m.pv, .slice AV1 m.vec.length cv1, .slice A1 m.es.length c1, .int .i64 m.sg] w2 := ⟨_, rfl⟩
    have hs18 : w3.heap.size = w2.heap.size := by rw [hW18]; exact putAll_size
    have Hbel_19 := Lib.hid (show Below w.heap.size w w3 by rw [hW18]; exact putAll_below Hbel_14.out (by omega))
    have HR_20 := Lib.hid (show Bx w3 (w.heap.size + 1) [.int .i64 m.au, .int .i64 m.sq, .int .i64 m.pv, .slice AV1 m.vec.length cv1, .slice A1 m.es.length c1, .int .i64 m.sg] by rw [hW18]; have hq := HR_15.out.put 0 [.int .i64 m.au, .int .i64 m.sq, .int .i64 m.pv, .slice AV1 m.vec.length cv1, .slice A1 m.es.length c1, .int .i64 m.sg] (by simp); simpa using hq)
    have HRF_21 := Lib.hid (show ∀ o, w3.frozen? ⟨w.heap.size + 1, o, none⟩ = false from fun o => by rw [hW18]; exact (putAll_frozen _).trans (HRF_16.out o))
    have Htr_22 := Lib.hid (show TrOwn w3 w1.heap.size w2.heap.size AV1 m.vec A1 m.es by rw [hW18]; exact Htr_17.out.keep fun p hp hq => ⟨putAll_other (by omega), putAll_frozen _⟩)
    simp only [putAll] at hW18
    rw [← hW18]
    have z_23 : w2.heap.size ≤ w3.heap.size := Nat.le_of_eq hs18.symm
    clear hW18 hs18 Hbel_14 HR_15 HRF_16 Htr_17
    have HT := Lib.hid (show TrOwn w3 w.heap.size w3.heap.size AV1 m.vec A1 m.es from Htr_22.out.mono (by omega) (by omega))
    have qR_0 := HR_20.out 0 (by simp)
    have qR_1 := HR_20.out 1 (by simp)
    have qR_2 := HR_20.out 2 (by simp)
    have qR_3 := HR_20.out 3 (by simp)
    have qR_4 := HR_20.out 4 (by simp)
    have qR_5 := HR_20.out 5 (by simp)
    have lR : w.heap.size + 1 < w3.heap.size := by omega
    simp only [List.getElem_cons_succ, List.getElem_cons_zero] at qR_0 qR_1 qR_2 qR_3 qR_4 qR_5
    refine bodyPost_ret (v := .tuple #[.agg #[.int .i64 m.au, .int .i64 m.sq, .int .i64 m.pv, .slice AV1 m.vec.length cv1, .slice A1 m.es.length c1, .int .i64 m.sg], .bool true]) (by simp [results, Try.results11, qR_0, qR_1, qR_2, qR_3, qR_4, qR_5, go_sem]) rfl ?_
    rw [HM.out, HBb.out]
    exact ⟨AV1, cv1, A1, c1, rfl, HT.out, by omega, Hbel_19.out⟩

set_option maxRecDepth 100000 in
set_option maxHeartbeats 1000000 in
theorem implHeadOf_any (id : Int) (AV : Option Addr) (vec : List Int) (cv : Nat) (A : Option Addr) (es : List En) (c : Nat) (AH : Option Addr) (hs : List Mn) (ch : Nat) (al : Bool) (AP : Option Addr) (ps : List Mn) (cp : Nat) (a : Int) (w : World) (_hV : IntsIn w 0 w.heap.size AV vec) (_hA : EnsIn w 0 w.heap.size A es) (hH : MnsRd w 0 w.heap.size AH hs) (_hP : MnsRd w 0 w.heap.size AP ps) (_hv : vec.length ≤ 1048576) (_hn : es.length ≤ 1048576) (_hbk : ebulk es ≤ 1048576) (hhl : hs.length ≤ 1048576) (hhb : mbulk hs ≤ 1048576) (_hpl : ps.length ≤ 1048576) (_hpb : mbulk ps ≤ 1048576) :
    Calls Try.prog 12 #[.agg #[.int .i64 id, .slice AV vec.length cv, .slice A es.length c, .slice AH hs.length ch, .bool al, .slice AP ps.length cp], .int .i64 a] w (NewMnB (hdM hs a) (hdB hs a) w) := by
  have HH := Lib.hid hH.in
  clear hH
  go_enter Try.func12, Try.ntmps12
  go_wp2_with fail
  obtain ⟨W1_0, hW1_0⟩ : ∃ x, x = w.alloc (.cells #[.int .i64 id, .slice AV vec.length cv, .slice A es.length c, .slice AH hs.length ch, .bool al, .slice AP ps.length cp] 36) := ⟨_, rfl⟩
  obtain ⟨W1_1, hW1_1⟩ : ∃ x, x = W1_0.alloc (.cells #[.int .i64 0, .int .i64 0, .int .i64 0, .slice none 0 0, .slice none 0 0, .int .i64 0] 41) := ⟨_, rfl⟩
  have hZ1_0 : W1_0.heap.size = w.heap.size + 1 := by rw [hW1_0]; simp
  have hZ1_1 : W1_1.heap.size = w.heap.size + 2 := by rw [hW1_1]; simp [hZ1_0]
  have hx0 : Bx W1_0 (w.heap.size) [.int .i64 id, .slice AV vec.length cv, .slice A es.length c, .slice AH hs.length ch, .bool al, .slice AP ps.length cp] := by rw [hW1_0]; exact Bx.new' _ _ _ _ rfl
  replace hx0 : Bx W1_1 (w.heap.size) [.int .i64 id, .slice AV vec.length cv, .slice A es.length c, .slice AH hs.length ch, .bool al, .slice AP ps.length cp] := by rw [hW1_1]; exact hx0.alloc (by omega) _
  have hx1 : Bx W1_1 (w.heap.size + 1) [.int .i64 0, .int .i64 0, .int .i64 0, .slice none 0 0, .slice none 0 0, .int .i64 0] := by rw [hW1_1, ← hZ1_0]; exact Bx.new' _ _ _ _ rfl
  have hb0 : Below w.heap.size w W1_1 := by rw [hW1_1, hW1_0]; exact (((Below.refl _ _).alloc (by first | exact Nat.le_refl _ | (simp; done) | (simp; omega)) _).alloc (by first | exact Nat.le_refl _ | (simp; done) | (simp; omega)) _)
  have hf1 : ∀ o, W1_1.frozen? ⟨w.heap.size + 1, o, none⟩ = false := fun o => by rw [hW1_1, hW1_0]; exact (((Fresh.refl w).alloc _ _).alloc _ _) ⟨w.heap.size + 1, o, none⟩ (by show w.heap.size ≤ w.heap.size + 1; omega)
  have hlt : w.heap.size + 1 < W1_1.heap.size := by omega
  rw [← hW1_0, ← hW1_1]
  clear hW1_0 hZ1_0 hW1_1 hZ1_1
  have z_2 := hb0.size
  have Hbel_3 := Lib.hid (hb0)
  have HD_4 := Lib.hid (hx0)
  have HR_5 := Lib.hid (hx1)
  have HRF_6 := Lib.hid (hf1)
  clear hf1
  clear hb0 hx0 hx1
  have hl_7 := hlt
  clear hlt
  refine (headAt_any id AV vec.length cv A es.length c AH hs ch al AP ps.length cp a W1_1 ((HH.out.keep fun p _ hp => Hbel_3.out.cell hp).mono (by omega)) hhl).mono ?_
  rintro e w1 ⟨rfl, hb⟩
  have z_8 := hb.size
  have Hbel_9 := Lib.hid (Hbel_3.out.trans (hb.mono (by omega)))
  have HD_10 := Lib.hid (HD_4.out.below hb (by omega))
  have HR_11 := Lib.hid (HR_5.out.below hb (by omega))
  have HRF_12 := Lib.hid (show ∀ o, w1.frozen? ⟨w.heap.size + 1, o, none⟩ = false from fun o => (hb.frozen (p := ⟨w.heap.size + 1, o, none⟩) (by show w.heap.size + 1 < _; omega)).trans (HRF_6.out o))
  clear Hbel_3 HD_4 HR_5 HRF_6
  clear hb
  rcases headI_cases hs a with ⟨h1, h2⟩ | ⟨k, h1, h2, h3⟩
  · have HM := Lib.hid (hdM_none h2)
    have HBb := Lib.hid (show hdB hs a = false from decide_eq_false h2)
    rw [h1]
    clear h1
    have qR_0 := HR_11.out 0 (by simp)
    have qR_1 := HR_11.out 1 (by simp)
    have qR_2 := HR_11.out 2 (by simp)
    have qR_3 := HR_11.out 3 (by simp)
    have qR_4 := HR_11.out 4 (by simp)
    have qR_5 := HR_11.out 5 (by simp)
    have lR : w.heap.size + 1 < w1.heap.size := by omega
    have fRF_0 := HRF_12.out 0
    have fRF_1 := HRF_12.out 1
    have fRF_2 := HRF_12.out 2
    have fRF_3 := HRF_12.out 3
    have fRF_4 := HRF_12.out 4
    have fRF_5 := HRF_12.out 5
    simp only [List.getElem_cons_succ, List.getElem_cons_zero] at qR_0 qR_1 qR_2 qR_3 qR_4 qR_5
    go_wp2_with fail
    clear qR_0 qR_1 qR_2 qR_3 qR_4 qR_5 lR fRF_0 fRF_1 fRF_2 fRF_3 fRF_4 fRF_5
    obtain ⟨w2, hW13⟩ : ∃ x, x = putAll (w.heap.size + 1) 0 [.int .i64 0, .int .i64 0, .int .i64 0, .slice none 0 0, .slice none 0 0, .int .i64 0] w1 := ⟨_, rfl⟩
    have hs13 : w2.heap.size = w1.heap.size := by rw [hW13]; exact putAll_size
    have Hbel_14 := Lib.hid (show Below w.heap.size w w2 by rw [hW13]; exact putAll_below Hbel_9.out (by omega))
    have HD_15 := Lib.hid (show Bx w2 (w.heap.size) [.int .i64 id, .slice AV vec.length cv, .slice A es.length c, .slice AH hs.length ch, .bool al, .slice AP ps.length cp] by rw [hW13]; exact HD_10.out.put_else (by omega))
    have HR_16 := Lib.hid (show Bx w2 (w.heap.size + 1) [.int .i64 0, .int .i64 0, .int .i64 0, .slice none 0 0, .slice none 0 0, .int .i64 0] by rw [hW13]; have hq := HR_11.out.put 0 [.int .i64 0, .int .i64 0, .int .i64 0, .slice none 0 0, .slice none 0 0, .int .i64 0] (by simp); simpa using hq)
    have HRF_17 := Lib.hid (show ∀ o, w2.frozen? ⟨w.heap.size + 1, o, none⟩ = false from fun o => by rw [hW13]; exact (putAll_frozen _).trans (HRF_12.out o))
    simp only [putAll] at hW13
    rw [← hW13]
    have z_18 : w1.heap.size ≤ w2.heap.size := Nat.le_of_eq hs13.symm
    clear hW13 hs13 Hbel_9 HD_10 HR_11 HRF_12
    have qR_0 := HR_16.out 0 (by simp)
    have qR_1 := HR_16.out 1 (by simp)
    have qR_2 := HR_16.out 2 (by simp)
    have qR_3 := HR_16.out 3 (by simp)
    have qR_4 := HR_16.out 4 (by simp)
    have qR_5 := HR_16.out 5 (by simp)
    have lR : w.heap.size + 1 < w2.heap.size := by omega
    simp only [List.getElem_cons_succ, List.getElem_cons_zero] at qR_0 qR_1 qR_2 qR_3 qR_4 qR_5
    refine bodyPost_ret (v := .tuple #[.agg #[.int .i64 0, .int .i64 0, .int .i64 0, .slice none 0 0, .slice none 0 0, .int .i64 0], .bool false]) (by simp [results, Try.results12, qR_0, qR_1, qR_2, qR_3, qR_4, qR_5, go_sem]) rfl ?_
    rw [HM.out, HBb.out]
    exact ⟨none, 0, none, 0, rfl, tr_none _ _ _ (by omega), by omega, Hbel_14.out⟩
  · obtain ⟨m, hm⟩ : ∃ m, m = hs[k] := ⟨_, rfl⟩
    have HM := Lib.hid (show hdM hs a = m by subst h2; rw [hm, hdM_at h3])
    have HBb := Lib.hid (show hdB hs a = true by subst h2; exact decide_eq_true h3)
    have hle := one_le_mbulk hs k h3
    obtain ⟨b, o, rfl, hL, hb, hc⟩ := HH.out (by omega)
    obtain ⟨AV0, cv0, A0, c0, d0, d1, d2, d3, d4, d5, hv0, he0⟩ := (hc k h3).keep (w' := w1) hL hb (fun p _ hp => Hbel_9.out.cell hp)
    rw [← hm] at d0 d1 d2 d3 d4 d5 hv0 he0 hle
    have HV0 := Lib.hid hv0
    have HE0 := Lib.hid he0
    have hk' : (k : Int) < (hs.length : Int) := by omega
    have hk0 : ¬ ((k : Int) < 0) := by omega
    have lb : b < w1.heap.size := by omega
    rw [h1]
    clear h1 h2 hc hm hv0 he0
    have qD_0 := HD_10.out 0 (by simp)
    have qD_1 := HD_10.out 1 (by simp)
    have qD_2 := HD_10.out 2 (by simp)
    have qD_3 := HD_10.out 3 (by simp)
    have qD_4 := HD_10.out 4 (by simp)
    have qD_5 := HD_10.out 5 (by simp)
    have lD : w.heap.size < w1.heap.size := by omega
    simp only [List.getElem_cons_succ, List.getElem_cons_zero] at qD_0 qD_1 qD_2 qD_3 qD_4 qD_5
    go_wp2_with fail
    clear d0 d1 d2 d3 d4 d5
    refine (copyMan_any m AV0 cv0 A0 c0 w1 (HV0.out.mono (by omega)) (HE0.out.mono (by omega)) (by omega) (by omega) (by omega)).mono ?_
    rintro e w2 ⟨AV1, cv1, A1, c1, rfl, hown, hlt, hb⟩
    clear qD_0 qD_1 qD_2 qD_3 qD_4 qD_5 lD
    have z_13 := hb.size
    have Hbel_14 := Lib.hid (Hbel_9.out.trans (hb.mono (by omega)))
    have HR_15 := Lib.hid (HR_11.out.below hb (by omega))
    have HRF_16 := Lib.hid (show ∀ o, w2.frozen? ⟨w.heap.size + 1, o, none⟩ = false from fun o => (hb.frozen (p := ⟨w.heap.size + 1, o, none⟩) (by show w.heap.size + 1 < _; omega)).trans (HRF_12.out o))
    clear Hbel_9 HD_10 HR_11 HRF_12
    have Htr_17 := Lib.hid (hown)
    clear hb
    clear hown
    have qR_0 := HR_15.out 0 (by simp)
    have qR_1 := HR_15.out 1 (by simp)
    have qR_2 := HR_15.out 2 (by simp)
    have qR_3 := HR_15.out 3 (by simp)
    have qR_4 := HR_15.out 4 (by simp)
    have qR_5 := HR_15.out 5 (by simp)
    have lR : w.heap.size + 1 < w2.heap.size := by omega
    have fRF_0 := HRF_16.out 0
    have fRF_1 := HRF_16.out 1
    have fRF_2 := HRF_16.out 2
    have fRF_3 := HRF_16.out 3
    have fRF_4 := HRF_16.out 4
    have fRF_5 := HRF_16.out 5
    simp only [List.getElem_cons_succ, List.getElem_cons_zero] at qR_0 qR_1 qR_2 qR_3 qR_4 qR_5
    go_wp2_with fail
    clear qR_0 qR_1 qR_2 qR_3 qR_4 qR_5 lR fRF_0 fRF_1 fRF_2 fRF_3 fRF_4 fRF_5
    obtain ⟨w3, hW18⟩ : ∃ x, x = putAll (w.heap.size + 1) 0 [.int .i64 m.au, .int .i64 m.sq, .int .i64 m.pv, .slice AV1 m.vec.length cv1, .slice A1 m.es.length c1, .int .i64 m.sg] w2 := ⟨_, rfl⟩
    have hs18 : w3.heap.size = w2.heap.size := by rw [hW18]; exact putAll_size
    have Hbel_19 := Lib.hid (show Below w.heap.size w w3 by rw [hW18]; exact putAll_below Hbel_14.out (by omega))
    have HR_20 := Lib.hid (show Bx w3 (w.heap.size + 1) [.int .i64 m.au, .int .i64 m.sq, .int .i64 m.pv, .slice AV1 m.vec.length cv1, .slice A1 m.es.length c1, .int .i64 m.sg] by rw [hW18]; have hq := HR_15.out.put 0 [.int .i64 m.au, .int .i64 m.sq, .int .i64 m.pv, .slice AV1 m.vec.length cv1, .slice A1 m.es.length c1, .int .i64 m.sg] (by simp); simpa using hq)
    have HRF_21 := Lib.hid (show ∀ o, w3.frozen? ⟨w.heap.size + 1, o, none⟩ = false from fun o => by rw [hW18]; exact (putAll_frozen _).trans (HRF_16.out o))
    have Htr_22 := Lib.hid (show TrOwn w3 w1.heap.size w2.heap.size AV1 m.vec A1 m.es by rw [hW18]; exact Htr_17.out.keep fun p hp hq => ⟨putAll_other (by omega), putAll_frozen _⟩)
    simp only [putAll] at hW18
    rw [← hW18]
    have z_23 : w2.heap.size ≤ w3.heap.size := Nat.le_of_eq hs18.symm
    clear hW18 hs18 Hbel_14 HR_15 HRF_16 Htr_17
    have HT := Lib.hid (show TrOwn w3 w.heap.size w3.heap.size AV1 m.vec A1 m.es from Htr_22.out.mono (by omega) (by omega))
    have qR_0 := HR_20.out 0 (by simp)
    have qR_1 := HR_20.out 1 (by simp)
    have qR_2 := HR_20.out 2 (by simp)
    have qR_3 := HR_20.out 3 (by simp)
    have qR_4 := HR_20.out 4 (by simp)
    have qR_5 := HR_20.out 5 (by simp)
    have lR : w.heap.size + 1 < w3.heap.size := by omega
    simp only [List.getElem_cons_succ, List.getElem_cons_zero] at qR_0 qR_1 qR_2 qR_3 qR_4 qR_5
    refine bodyPost_ret (v := .tuple #[.agg #[.int .i64 m.au, .int .i64 m.sq, .int .i64 m.pv, .slice AV1 m.vec.length cv1, .slice A1 m.es.length c1, .int .i64 m.sg], .bool true]) (by simp [results, Try.results12, qR_0, qR_1, qR_2, qR_3, qR_4, qR_5, go_sem]) rfl ?_
    rw [HM.out, HBb.out]
    exact ⟨AV1, cv1, A1, c1, rfl, HT.out, by omega, Hbel_19.out⟩


end Go.Proofs.Ytgomdjhfdnbmdaa
