/-
  A new device: what is answered, and the model.
-/
import Derived.Test.YtgomdjhfdnbmdaaTrNew
import Derived.Test.YtgomdjhfdnbmdaaMnM
import Derived.Test.YtgomdjhfdnbmdaaFit
namespace Go.Proofs.Ytgomdjhfdnbmdaa
open Go.RowKit Go.Maps

/-- What DeviceNew answers. -/
def dnId (id : Int) : Int := if devB id then id else 0
def dnVec (id : Int) : List Int := if devB id then [0, 0, 0, 0] else []
def noEs : List En := []
def noMs : List Mn := []
theorem dn_bounds (id : Int) : (dnVec id).length ≤ 1048576 := by unfold dnVec; split <;> simp
theorem noEs_len : noEs.length ≤ 1048576 := by unfold noEs; simp
theorem noEs_bulk : ebulk noEs ≤ 1048576 := by unfold noEs; simp [ebulk]
theorem noMs_len : noMs.length ≤ 1048576 := by unfold noMs; simp
theorem noMs_bulk : mbulk noMs ≤ 1048576 := by unfold noMs; simp [mbulk]

/-- A new device is handed back. -/
def NewDv (id : Int) (vec : List Int) (es : List En) (hs : List Mn) (al : Bool) (ps : List Mn) (w : World) (e : Ending) (w' : World) : Prop :=
  ∃ AV cv A c AH ch AP cp, e = .returned (.agg #[.int .i64 id, .slice AV vec.length cv, .slice A es.length c, .slice AH hs.length ch, .bool al, .slice AP ps.length cp]) ∧ DvOwn w' w.heap.size w'.heap.size AV vec A es AH hs AP ps ∧ w.heap.size < w'.heap.size ∧ Below w.heap.size w w'
/-- A device is handed back, and whether there is one. -/
def NewDvB (id : Int) (vec : List Int) (es : List En) (hs : List Mn) (al : Bool) (ps : List Mn) (b : Bool) (w : World) (e : Ending) (w' : World) : Prop :=
  ∃ AV cv A c AH ch AP cp, e = .returned (.tuple #[.agg #[.int .i64 id, .slice AV vec.length cv, .slice A es.length c, .slice AH hs.length ch, .bool al, .slice AP ps.length cp], .bool b]) ∧ DvOwn w' w.heap.size w'.heap.size AV vec A es AH hs AP ps ∧ w.heap.size < w'.heap.size ∧ Below w.heap.size w w'
theorem dv_none (w : World) (L B : Nat) (h : L ≤ B) : DvOwn w L B none [] none [] none [] none [] :=
  ⟨L, L, L, L, L, L, Nat.le_refl _, h, Nat.le_refl _, h, Nat.le_refl _, h, .inl (Nat.le_refl _), .inl (Nat.le_refl _), .inl (Nat.le_refl _), Nat.le_refl _, Nat.le_refl _, Nat.le_refl _, ⟨L, L, L, L, Nat.le_refl _, Nat.le_refl _, Nat.le_refl _, Nat.le_refl _, .inl (Nat.le_refl _), fun h => absurd h (by simp), .nil⟩, .nil, .nil⟩
theorem dv_tree {w : World} {L B L1 B1 : Nat} {AV A : Option Addr} {vec : List Int} {es : List En} (h : TrOwn w L1 B1 AV vec A es) (h1 : L ≤ L1) (h2 : B1 ≤ B) (h3 : L1 ≤ B1) : DvOwn w L B AV vec A es none [] none [] :=
  ⟨L1, B1, L1, L1, L1, L1, h1, h2, h1, by omega, h1, by omega, .inr (Nat.le_refl _), .inr (Nat.le_refl _), .inl (Nat.le_refl _), h3, Nat.le_refl _, Nat.le_refl _, h, .nil, .nil⟩

set_option maxRecDepth 100000 in
set_option maxHeartbeats 1000000 in
theorem l5new_any (id : Int) (w : World) :
    Calls Try.prog 33 #[.int .i64 id] w (NewDv id [0, 0, 0, 0] [] [] false [] w) := by
  go_enter Try.func33, Try.ntmps33
  go_wp2_with fail
  obtain ⟨W1_0, hW1_0⟩ : ∃ x, x = w.alloc (.cells #[.int .i64 0, .slice none 0 0, .slice none 0 0, .slice none 0 0, .bool false, .slice none 0 0] 36) := ⟨_, rfl⟩
  have hZ1_0 : W1_0.heap.size = w.heap.size + 1 := by rw [hW1_0]; simp
  have hx0 : Bx W1_0 (w.heap.size) [.int .i64 0, .slice none 0 0, .slice none 0 0, .slice none 0 0, .bool false, .slice none 0 0] := by rw [hW1_0]; exact Bx.new' _ _ _ _ rfl
  have hb0 : Below w.heap.size w W1_0 := by rw [hW1_0]; exact ((Below.refl _ _).alloc (by first | exact Nat.le_refl _ | (simp; done) | (simp; omega)) _)
  have hf0 : ∀ o, W1_0.frozen? ⟨w.heap.size, o, none⟩ = false := fun o => by rw [hW1_0]; exact ((Fresh.refl w).alloc _ _) ⟨w.heap.size, o, none⟩ (by show w.heap.size ≤ w.heap.size; omega)
  have hlt : w.heap.size + 0 < W1_0.heap.size := by omega
  rw [← hW1_0]
  clear hW1_0 hZ1_0
  have z_2 := hb0.size
  have Hbel_3 := Lib.hid (hb0)
  have HR_4 := Lib.hid (hx0)
  have HRF_5 := Lib.hid (hf0)
  clear hf0
  clear hb0 hx0
  have hl_6 := hlt
  clear hlt
  refine (l3new_any W1_0).mono ?_
  rintro e w1 ⟨AV, cv, A, c, rfl, hown, hlt, hb⟩
  have z_7 := hb.size
  have Hbel_8 := Lib.hid (Hbel_3.out.trans (hb.mono (by omega)))
  have HR_9 := Lib.hid (HR_4.out.below hb (by omega))
  have HRF_10 := Lib.hid (show ∀ o, w1.frozen? ⟨w.heap.size, o, none⟩ = false from fun o => (hb.frozen (p := ⟨w.heap.size, o, none⟩) (by show w.heap.size < _; omega)).trans (HRF_5.out o))
  clear Hbel_3 HR_4 HRF_5
  have Htr_11 := Lib.hid (hown)
  clear hb
  clear hown
  have qR_0 := HR_9.out 0 (by simp)
  have qR_1 := HR_9.out 1 (by simp)
  have qR_2 := HR_9.out 2 (by simp)
  have qR_3 := HR_9.out 3 (by simp)
  have qR_4 := HR_9.out 4 (by simp)
  have qR_5 := HR_9.out 5 (by simp)
  have lR : w.heap.size < w1.heap.size := by omega
  have fRF_0 := HRF_10.out 0
  have fRF_1 := HRF_10.out 1
  have fRF_2 := HRF_10.out 2
  have fRF_3 := HRF_10.out 3
  have fRF_4 := HRF_10.out 4
  have fRF_5 := HRF_10.out 5
  simp only [List.getElem_cons_succ, List.getElem_cons_zero] at qR_0 qR_1 qR_2 qR_3 qR_4 qR_5
  go_wp2_with fail
  clear qR_0 qR_1 qR_2 qR_3 qR_4 qR_5 lR fRF_0 fRF_1 fRF_2 fRF_3 fRF_4 fRF_5
  obtain ⟨w2, hW12⟩ : ∃ x, x = putAll (w.heap.size) 0 [.int .i64 id, .slice AV 4 cv, .slice A 0 c, .slice none 0 0, .bool false, .slice none 0 0] w1 := ⟨_, rfl⟩
  have hs12 : w2.heap.size = w1.heap.size := by rw [hW12]; exact putAll_size
  have Hbel_13 := Lib.hid (show Below w.heap.size w w2 by rw [hW12]; exact putAll_below Hbel_8.out (by omega))
  have HR_14 := Lib.hid (show Bx w2 (w.heap.size) [.int .i64 id, .slice AV 4 cv, .slice A 0 c, .slice none 0 0, .bool false, .slice none 0 0] by rw [hW12]; have hq := HR_9.out.put 0 [.int .i64 id, .slice AV 4 cv, .slice A 0 c, .slice none 0 0, .bool false, .slice none 0 0] (by simp); simpa using hq)
  have HRF_15 := Lib.hid (show ∀ o, w2.frozen? ⟨w.heap.size, o, none⟩ = false from fun o => by rw [hW12]; exact (putAll_frozen _).trans (HRF_10.out o))
  have Htr_16 := Lib.hid (show TrOwn w2 W1_0.heap.size w1.heap.size AV [0, 0, 0, 0] A [] by rw [hW12]; exact Htr_11.out.keep fun p hp hq => ⟨putAll_other (by omega), putAll_frozen _⟩)
  simp only [putAll] at hW12
  rw [← hW12]
  have z_17 : w1.heap.size ≤ w2.heap.size := Nat.le_of_eq hs12.symm
  clear hW12 hs12 Hbel_8 HR_9 HRF_10 Htr_11
  have qR_0 := HR_14.out 0 (by simp)
  have qR_1 := HR_14.out 1 (by simp)
  have qR_2 := HR_14.out 2 (by simp)
  have qR_3 := HR_14.out 3 (by simp)
  have qR_4 := HR_14.out 4 (by simp)
  have qR_5 := HR_14.out 5 (by simp)
  have lR : w.heap.size < w2.heap.size := by omega
  simp only [List.getElem_cons_succ, List.getElem_cons_zero] at qR_0 qR_1 qR_2 qR_3 qR_4 qR_5
  have HD := Lib.hid (show DvOwn w2 w.heap.size w2.heap.size AV [0, 0, 0, 0] A [] none [] none [] from dv_tree Htr_16.out (by omega) (by omega) (by omega))
  refine bodyPost_ret (v := .agg #[.int .i64 id, .slice AV 4 cv, .slice A 0 c, .slice none 0 0, .bool false, .slice none 0 0]) (by simp [results, Try.results33, qR_0, qR_1, qR_2, qR_3, qR_4, qR_5, go_sem]) rfl ⟨AV, cv, A, c, none, 0, none, 0, rfl, HD.out, by omega, Hbel_13.out⟩

set_option maxRecDepth 100000 in
set_option maxHeartbeats 1000000 in
theorem specDeviceNew_any (id : Int) (w : World) :
    Calls Try.prog 17 #[.int .i64 id] w (NewDvB (dnId id) (dnVec id) noEs noMs false noMs (devB id) w) := by
  have HI := Lib.hid (show dnId id = (if devB id then id else 0) ∧ dnVec id = (if devB id then [0, 0, 0, 0] else []) from ⟨rfl, rfl⟩)
  have HD := Lib.hid (show devB id = (decide (0 ≤ id) && decide (id < 4)) from rfl)
  obtain ⟨b, hb⟩ : ∃ b, b = devB id := ⟨_, rfl⟩
  rw [← hb] at HI HD ⊢
  have HBb := Lib.hid hb
  clear hb
  go_enter Try.func17, Try.ntmps17
  cases b with
  | false =>
    obtain ⟨e1, e2⟩ := HI.out
    have hd : id < 0 ∨ 4 ≤ id := by have := HD.out; by_cases h1 : 0 ≤ id <;> by_cases h2 : id < 4 <;> simp [h1, h2] at this <;> omega
    rcases hd with hd | hd
    · go_wp2_with fail
      obtain ⟨W1_0, hW1_0⟩ : ∃ x, x = w.alloc (.cells #[.int .i64 0, .slice none 0 0, .slice none 0 0, .slice none 0 0, .bool false, .slice none 0 0] 36) := ⟨_, rfl⟩
      have hZ1_0 : W1_0.heap.size = w.heap.size + 1 := by rw [hW1_0]; simp
      have hx0 : Bx W1_0 (w.heap.size) [.int .i64 0, .slice none 0 0, .slice none 0 0, .slice none 0 0, .bool false, .slice none 0 0] := by rw [hW1_0]; exact Bx.new' _ _ _ _ rfl
      have hb0 : Below w.heap.size w W1_0 := by rw [hW1_0]; exact ((Below.refl _ _).alloc (by first | exact Nat.le_refl _ | (simp; done) | (simp; omega)) _)
      have hf0 : ∀ o, W1_0.frozen? ⟨w.heap.size, o, none⟩ = false := fun o => by rw [hW1_0]; exact ((Fresh.refl w).alloc _ _) ⟨w.heap.size, o, none⟩ (by show w.heap.size ≤ w.heap.size; omega)
      have hlt : w.heap.size + 0 < W1_0.heap.size := by omega
      rw [← hW1_0]
      clear hW1_0 hZ1_0
      have z_2 := hb0.size
      have Hbel_3 := Lib.hid (hb0)
      have HR_4 := Lib.hid (hx0)
      have HRF_5 := Lib.hid (hf0)
      clear hf0
      clear hb0 hx0
      have hl_6 := hlt
      clear hlt
      have HDv := Lib.hid (dv_none W1_0 w.heap.size W1_0.heap.size (by omega))
      have qR_0 := HR_4.out 0 (by simp)
      have qR_1 := HR_4.out 1 (by simp)
      have qR_2 := HR_4.out 2 (by simp)
      have qR_3 := HR_4.out 3 (by simp)
      have qR_4 := HR_4.out 4 (by simp)
      have qR_5 := HR_4.out 5 (by simp)
      have lR : w.heap.size < W1_0.heap.size := by omega
      simp only [List.getElem_cons_succ, List.getElem_cons_zero] at qR_0 qR_1 qR_2 qR_3 qR_4 qR_5
      rw [e1, e2]
      refine bodyPost_ret (v := .tuple #[.agg #[.int .i64 0, .slice none 0 0, .slice none 0 0, .slice none 0 0, .bool false, .slice none 0 0], .bool false]) (by simp [results, Try.results17, qR_0, qR_1, qR_2, qR_3, qR_4, qR_5, go_sem]) rfl ⟨none, 0, none, 0, none, 0, none, 0, rfl, HDv.out, by omega, Hbel_3.out⟩
    · go_wp2_with fail
      obtain ⟨W1_0, hW1_0⟩ : ∃ x, x = w.alloc (.cells #[.int .i64 0, .slice none 0 0, .slice none 0 0, .slice none 0 0, .bool false, .slice none 0 0] 36) := ⟨_, rfl⟩
      have hZ1_0 : W1_0.heap.size = w.heap.size + 1 := by rw [hW1_0]; simp
      have hx0 : Bx W1_0 (w.heap.size) [.int .i64 0, .slice none 0 0, .slice none 0 0, .slice none 0 0, .bool false, .slice none 0 0] := by rw [hW1_0]; exact Bx.new' _ _ _ _ rfl
      have hb0 : Below w.heap.size w W1_0 := by rw [hW1_0]; exact ((Below.refl _ _).alloc (by first | exact Nat.le_refl _ | (simp; done) | (simp; omega)) _)
      have hf0 : ∀ o, W1_0.frozen? ⟨w.heap.size, o, none⟩ = false := fun o => by rw [hW1_0]; exact ((Fresh.refl w).alloc _ _) ⟨w.heap.size, o, none⟩ (by show w.heap.size ≤ w.heap.size; omega)
      have hlt : w.heap.size + 0 < W1_0.heap.size := by omega
      rw [← hW1_0]
      clear hW1_0 hZ1_0
      have z_2 := hb0.size
      have Hbel_3 := Lib.hid (hb0)
      have HR_4 := Lib.hid (hx0)
      have HRF_5 := Lib.hid (hf0)
      clear hf0
      clear hb0 hx0
      have hl_6 := hlt
      clear hlt
      have HDv := Lib.hid (dv_none W1_0 w.heap.size W1_0.heap.size (by omega))
      have qR_0 := HR_4.out 0 (by simp)
      have qR_1 := HR_4.out 1 (by simp)
      have qR_2 := HR_4.out 2 (by simp)
      have qR_3 := HR_4.out 3 (by simp)
      have qR_4 := HR_4.out 4 (by simp)
      have qR_5 := HR_4.out 5 (by simp)
      have lR : w.heap.size < W1_0.heap.size := by omega
      simp only [List.getElem_cons_succ, List.getElem_cons_zero] at qR_0 qR_1 qR_2 qR_3 qR_4 qR_5
      rw [e1, e2]
      refine bodyPost_ret (v := .tuple #[.agg #[.int .i64 0, .slice none 0 0, .slice none 0 0, .slice none 0 0, .bool false, .slice none 0 0], .bool false]) (by simp [results, Try.results17, qR_0, qR_1, qR_2, qR_3, qR_4, qR_5, go_sem]) rfl ⟨none, 0, none, 0, none, 0, none, 0, rfl, HDv.out, by omega, Hbel_3.out⟩
  | true =>
  obtain ⟨e1, e2⟩ := HI.out
  have hd : 0 ≤ id ∧ id < 4 := by have := HD.out.symm; simp at this; exact this
  obtain ⟨hd0, hd1⟩ := hd
  go_wp2_with fail
  obtain ⟨W1_0, hW1_0⟩ : ∃ x, x = w.alloc (.cells #[.int .i64 0, .slice none 0 0, .slice none 0 0, .slice none 0 0, .bool false, .slice none 0 0] 36) := ⟨_, rfl⟩
  have hZ1_0 : W1_0.heap.size = w.heap.size + 1 := by rw [hW1_0]; simp
  have hx0 : Bx W1_0 (w.heap.size) [.int .i64 0, .slice none 0 0, .slice none 0 0, .slice none 0 0, .bool false, .slice none 0 0] := by rw [hW1_0]; exact Bx.new' _ _ _ _ rfl
  have hb0 : Below w.heap.size w W1_0 := by rw [hW1_0]; exact ((Below.refl _ _).alloc (by first | exact Nat.le_refl _ | (simp; done) | (simp; omega)) _)
  have hf0 : ∀ o, W1_0.frozen? ⟨w.heap.size, o, none⟩ = false := fun o => by rw [hW1_0]; exact ((Fresh.refl w).alloc _ _) ⟨w.heap.size, o, none⟩ (by show w.heap.size ≤ w.heap.size; omega)
  have hlt : w.heap.size + 0 < W1_0.heap.size := by omega
  rw [← hW1_0]
  clear hW1_0 hZ1_0
  have z_2 := hb0.size
  have Hbel_3 := Lib.hid (hb0)
  have HR_4 := Lib.hid (hx0)
  have HRF_5 := Lib.hid (hf0)
  clear hf0
  clear hb0 hx0
  have hl_6 := hlt
  clear hlt
  refine (l5new_any id W1_0).mono ?_
  rintro e w1 ⟨AV, cv, A, c, AH, ch, AP, cp, rfl, hown, hlt, hb⟩
  have z_7 := hb.size
  have Hbel_8 := Lib.hid (Hbel_3.out.trans (hb.mono (by omega)))
  have HR_9 := Lib.hid (HR_4.out.below hb (by omega))
  have HRF_10 := Lib.hid (show ∀ o, w1.frozen? ⟨w.heap.size, o, none⟩ = false from fun o => (hb.frozen (p := ⟨w.heap.size, o, none⟩) (by show w.heap.size < _; omega)).trans (HRF_5.out o))
  clear Hbel_3 HR_4 HRF_5
  have Hdv_11 := Lib.hid (hown)
  clear hb
  clear hown
  have qR_0 := HR_9.out 0 (by simp)
  have qR_1 := HR_9.out 1 (by simp)
  have qR_2 := HR_9.out 2 (by simp)
  have qR_3 := HR_9.out 3 (by simp)
  have qR_4 := HR_9.out 4 (by simp)
  have qR_5 := HR_9.out 5 (by simp)
  have lR : w.heap.size < w1.heap.size := by omega
  have fRF_0 := HRF_10.out 0
  have fRF_1 := HRF_10.out 1
  have fRF_2 := HRF_10.out 2
  have fRF_3 := HRF_10.out 3
  have fRF_4 := HRF_10.out 4
  have fRF_5 := HRF_10.out 5
  simp only [List.getElem_cons_succ, List.getElem_cons_zero] at qR_0 qR_1 qR_2 qR_3 qR_4 qR_5
  go_wp2_with fail
  clear qR_0 qR_1 qR_2 qR_3 qR_4 qR_5 lR fRF_0 fRF_1 fRF_2 fRF_3 fRF_4 fRF_5
  obtain ⟨w2, hW12⟩ : ∃ x, x = putAll (w.heap.size) 0 [.int .i64 id, .slice AV 4 cv, .slice A 0 c, .slice AH 0 ch, .bool false, .slice AP 0 cp] w1 := ⟨_, rfl⟩
  have hs12 : w2.heap.size = w1.heap.size := by rw [hW12]; exact putAll_size
  have Hbel_13 := Lib.hid (show Below w.heap.size w w2 by rw [hW12]; exact putAll_below Hbel_8.out (by omega))
  have HR_14 := Lib.hid (show Bx w2 (w.heap.size) [.int .i64 id, .slice AV 4 cv, .slice A 0 c, .slice AH 0 ch, .bool false, .slice AP 0 cp] by rw [hW12]; have hq := HR_9.out.put 0 [.int .i64 id, .slice AV 4 cv, .slice A 0 c, .slice AH 0 ch, .bool false, .slice AP 0 cp] (by simp); simpa using hq)
  have HRF_15 := Lib.hid (show ∀ o, w2.frozen? ⟨w.heap.size, o, none⟩ = false from fun o => by rw [hW12]; exact (putAll_frozen _).trans (HRF_10.out o))
  have Hdv_16 := Lib.hid (show DvOwn w2 W1_0.heap.size w1.heap.size AV [0, 0, 0, 0] A [] AH [] AP [] by rw [hW12]; exact Hdv_11.out.keep fun p hp hq => ⟨putAll_other (by omega), putAll_frozen _⟩)
  simp only [putAll] at hW12
  rw [← hW12]
  have z_17 : w1.heap.size ≤ w2.heap.size := Nat.le_of_eq hs12.symm
  clear hW12 hs12 Hbel_8 HR_9 HRF_10 Hdv_11
  have HDv := Lib.hid (show DvOwn w2 w.heap.size w2.heap.size AV [0, 0, 0, 0] A [] AH [] AP [] from Hdv_16.out.mono (by omega) (by omega))
  have qR_0 := HR_14.out 0 (by simp)
  have qR_1 := HR_14.out 1 (by simp)
  have qR_2 := HR_14.out 2 (by simp)
  have qR_3 := HR_14.out 3 (by simp)
  have qR_4 := HR_14.out 4 (by simp)
  have qR_5 := HR_14.out 5 (by simp)
  have lR : w.heap.size < w2.heap.size := by omega
  simp only [List.getElem_cons_succ, List.getElem_cons_zero] at qR_0 qR_1 qR_2 qR_3 qR_4 qR_5
  rw [e1, e2]
  refine bodyPost_ret (v := .tuple #[.agg #[.int .i64 id, .slice AV 4 cv, .slice A 0 c, .slice AH 0 ch, .bool false, .slice AP 0 cp], .bool true]) (by simp [results, Try.results17, qR_0, qR_1, qR_2, qR_3, qR_4, qR_5, go_sem]) rfl ⟨AV, cv, A, c, AH, ch, AP, cp, rfl, HDv.out, by omega, Hbel_13.out⟩


end Go.Proofs.Ytgomdjhfdnbmdaa
