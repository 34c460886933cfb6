/-
  Lookup: the model's and the program's answer alike; the model's l1lookup and the program's numberOf.
-/
import Derived.Test.YtblmhhijgdkkoaaTermOk
namespace Go.Proofs.Ytblmhhijgdkkoaa
open Go.RowKit Go.Maps

/-- The first place of t in ts, or -1. -/
def lookI (ts : List Tm) (t : Tm) : Int := if t ∈ ts then (ts.idxOf t : Int) else -1

theorem idxOf_first (ts : List Tm) (t : Tm) (k : Nat) (hk : k < ts.length) (he : ts[k] = t) (hne : ∀ j (_ : j < k), ts[j]? ≠ some t) : ts.idxOf t = k := by
  induction ts generalizing k with
  | nil => simp at hk
  | cons x xs ih =>
    cases k with
    | zero => simp at he; subst he; simp
    | succ k =>
      have hx : x ≠ t := fun h => hne 0 (by omega) (by simp [h])
      rw [List.idxOf_cons, show (x == t) = false by simpa using hx, cond_false, ih k (by simpa using hk) (by simpa using he) (fun j hj h => hne (j + 1) (by omega) (by simpa using h))]

theorem lookI_found {ts : List Tm} {t : Tm} {k : Nat} (hk : k < ts.length) (he : ts[k] = t) (hne : ∀ j (_ : j < k), ts[j]? ≠ some t) : lookI ts t = k := by
  unfold lookI
  rw [if_pos (he ▸ List.getElem_mem hk), idxOf_first ts t k hk he hne]

theorem lookI_none {ts : List Tm} {t : Tm} (h : t ∉ ts) : lookI ts t = -1 := by
  unfold lookI
  rw [if_neg h]

theorem lookI_range (ts : List Tm) (t : Tm) : lookI ts t = -1 ∧ t ∉ ts ∨ 0 ≤ lookI ts t ∧ lookI ts t < ts.length ∧ t ∈ ts := by
  by_cases h : t ∈ ts
  · have := List.idxOf_lt_length_of_mem h
    exact .inr ⟨by unfold lookI; rw [if_pos h]; omega, by unfold lookI; rw [if_pos h]; omega, h⟩
  · exact .inl ⟨lookI_none h, h⟩

/-- What Lookup answers. -/
noncomputable def lookV (ts : List Tm) (t : Tm) : Int := if lokB ts = true then lookI ts t else -1

theorem okB_mono {k n : Nat} {t : Tm} (h : okB k t = true) (hk : k ≤ n) : okB n t = true := by
  obtain ⟨kd, a, b, l⟩ := t
  unfold okB at h ⊢
  simp only at h ⊢
  generalize l.length = m at h ⊢
  by_cases h0 : kd = 0 ∨ kd = 1
  · simp [h0] at h ⊢; omega
  by_cases h2 : kd = 2
  · subst h2; simp at h ⊢; omega
  by_cases h4 : kd = 4
  · subst h4; simp at h ⊢; omega
  by_cases h3 : kd = 3 ∨ kd = 5 ∨ kd = 6
  · rcases h3 with rfl | rfl | rfl <;> (simp at h ⊢; omega)
  · simp [h0, h2, h4, h3] at h

/-- What is in a ledger could stand behind it, but for its likeness. -/
theorem readB_of_mem {ts : List Tm} {t : Tm} (hl : LOk ts) (h : t ∈ ts) : readB ts t = true := by
  obtain ⟨k, hk, rfl⟩ := List.mem_iff_getElem.1 h
  obtain ⟨_, h1, h2, _⟩ := hl.2 k hk
  rw [readB_eq', okB_mono h1 (by omega), h2]
  rfl

theorem lookV_of_not {ts : List Tm} {t : Tm} (h : termB ts t = false) : lookV ts t = -1 := by
  unfold lookV
  cases hl : lokB ts with
  | false => simp
  | true =>
    simp only [if_pos]
    refine lookI_none fun hm => ?_
    rw [termB, hl, readB_of_mem (lok_of hl) hm] at h
    cases h

theorem all_wf {ts : List Tm} (hl : LOk ts) : ∀ u ∈ ts, WfT u := by
  have h := take_wf (ts := ts) (k := ts.length) (by have := hl.1; omega) (fun j hj => hl.2 j hj)
  rwa [List.take_length] at h

section
variable (A A' : Option Addr) (ts : List Tm) (t : Tm) (c c' L B L' B' : Nat) (w : World)

set_option maxRecDepth 100000 in
set_option maxHeartbeats 1000000 in
theorem l1lookup_any (hA : TmsIn w L B A ts) (hB : B ≤ w.heap.size) (hA' : BytesIn w L' B' A' t.text) (hB' : B' ≤ w.heap.size) (hn : ts.length ≤ 1048576) :
    Calls Try.prog 80 #[.agg #[.slice A ts.length c], .agg #[.int .i64 t.kind, .int .i64 t.a, .int .i64 t.b, .slice A' t.text.length c']] w fun e w' => e = .returned (.int .i64 (lookI ts t)) ∧ Below w.heap.size w w' := by
  have HA := Lib.hid hA
  have HA' := Lib.hid hA'
  clear hA hA'
  go_enter Try.func80, Try.ntmps80
  go_wp2_with fail
  obtain ⟨W0, hW0⟩ : ∃ W0, W0 = (w.alloc (.cells #[.slice A ts.length c] 66)).alloc (.cells #[.int .i64 t.kind, .int .i64 t.a, .int .i64 t.b, .slice A' t.text.length c'] 116) := ⟨_, rfl⟩
  have hb0 : Below w.heap.size w W0 := by subst hW0; exact ((Below.refl _ _).alloc (Nat.le_refl _) _).alloc (by simp) _
  have c0 : W0.cell? ⟨w.heap.size, 0, none⟩ = some (.slice A ts.length c) := by subst hW0; simp
  have d0 : W0.cell? ⟨w.heap.size + 1, 0, none⟩ = some (.int .i64 t.kind) := by subst hW0; simp
  have d1 : W0.cell? ⟨w.heap.size + 1, 1, none⟩ = some (.int .i64 t.a) := by subst hW0; simp
  have d2 : W0.cell? ⟨w.heap.size + 1, 2, none⟩ = some (.int .i64 t.b) := by subst hW0; simp
  have d3 : W0.cell? ⟨w.heap.size + 1, 3, none⟩ = some (.slice A' t.text.length c') := by subst hW0; simp
  have hsz : W0.heap.size = w.heap.size + 1 + 1 := by subst hW0; simp
  rw [← hW0]
  clear hW0
  have HB0 := Lib.hid hb0
  clear hb0
  go_loopw [5] (fun i wr => ∃ k : Nat, k ≤ ts.length ∧ i = .int .i64 k ∧ (∀ j (_ : j < k), ts[j]? ≠ some t) ∧ Below W0.heap.size W0 wr) (fun i _ => ts.length - (intOf i).toNat)
  case atStart => exact ⟨0, Nat.zero_le _, rfl, fun j h => absurd h (by omega), Below.refl _ _⟩
  case round =>
    obtain ⟨k, hk, rfl, hne, hbel⟩ := hrel
    have e0 := (hbel.cell (p := ⟨w.heap.size, 0, none⟩) (by show w.heap.size < _; omega)).trans c0
    by_cases hlt : k < ts.length
    · have f0 := (hbel.cell (p := ⟨w.heap.size + 1, 0, none⟩) (by show w.heap.size + 1 < _; omega)).trans d0
      have f1 := (hbel.cell (p := ⟨w.heap.size + 1, 1, none⟩) (by show w.heap.size + 1 < _; omega)).trans d1
      have f2 := (hbel.cell (p := ⟨w.heap.size + 1, 2, none⟩) (by show w.heap.size + 1 < _; omega)).trans d2
      have f3 := (hbel.cell (p := ⟨w.heap.size + 1, 3, none⟩) (by show w.heap.size + 1 < _; omega)).trans d3
      obtain ⟨b, o, rfl, hL, hb, hc⟩ := HA.out (by omega)
      have hbw : Below w.heap.size w wr := HB0.out.trans (hbel.mono (by omega))
      obtain ⟨A1, c1, x0, x1, x2, x3, _, _, hby⟩ := (hc k hlt).keep hL hb (fun p _ hp => hbw.cell (by omega))
      have kb : ∀ x : Kp wr, x.val.cell? ⟨w.heap.size, 0, none⟩ = some (.slice (some ⟨b, o, none⟩) ts.length c) := fun x => x.cell e0
      have k0 : ∀ x : Kp wr, x.val.cell? ⟨b, o + k * 4, none⟩ = some (.int .i64 ts[k].kind) := fun x => x.cell x0
      have k1 : ∀ x : Kp wr, x.val.cell? ⟨b, o + k * 4 + 1, none⟩ = some (.int .i64 ts[k].a) := fun x => x.cell x1
      have k2 : ∀ x : Kp wr, x.val.cell? ⟨b, o + k * 4 + 2, none⟩ = some (.int .i64 ts[k].b) := fun x => x.cell x2
      have k3 : ∀ x : Kp wr, x.val.cell? ⟨b, o + k * 4 + 3, none⟩ = some (.slice A1 ts[k].text.length c1) := fun x => x.cell x3
      have l0 : ∀ x : Kp wr, x.val.cell? ⟨w.heap.size + 1, 0, none⟩ = some (.int .i64 t.kind) := fun x => x.cell f0
      have l1 : ∀ x : Kp wr, x.val.cell? ⟨w.heap.size + 1, 1, none⟩ = some (.int .i64 t.a) := fun x => x.cell f1
      have l2 : ∀ x : Kp wr, x.val.cell? ⟨w.heap.size + 1, 2, none⟩ = some (.int .i64 t.b) := fun x => x.cell f2
      have l3 : ∀ x : Kp wr, x.val.cell? ⟨w.heap.size + 1, 3, none⟩ = some (.slice A' t.text.length c') := fun x => x.cell f3
      have hszr := hbel.size
      have hB2 : ∀ x : Kp wr, (B ≤ x.val.heap.size ∧ B' ≤ x.val.heap.size) ∧ BytesIn x.val L B A1 ts[k].text ∧ BytesIn x.val L' B' A' t.text := fun x => ⟨by have := x.ok.size; constructor <;> omega, hby.keep fun p _ hp => x.ok.cell (by omega), HA'.out.keep fun p _ hp => (x.ok.cell (by omega)).trans (hbw.cell (by omega))⟩
      have HB2 := Lib.hid hB2
      have HBel := Lib.hid hbel
      have HN := Lib.hid hne
      clear hby hB2 hbel hne hc hbw
      go_wp2_with fail
      by_cases heq : ts[k] = t
      · have HV := Lib.hid (lookI_found hlt heq HN.out)
        have HD := Lib.hid (show decide (ts[k] = t) = true by simpa using heq)
        clear heq
        refine wp_region_kept (by kernel_rfl) (by kernel_rfl) ?_
        repeat (go_big_quiet_step ((go_at_call 112; refine kept_of (v := .bool true) ((l1same_any ts[k] t A1 A' c1 c' L L' B B' _ (HB2.out _).2.1 (HB2.out _).2.2 (HB2.out _).1.1 (HB2.out _).1.2).mono ?_); rintro e w' ⟨rfl, hb'⟩; exact ⟨by rw [HD.out], hb'⟩)))
        refine wpQuiet_nil ?_
        rintro _ ⟨x, rfl⟩
        have HX := Lib.hid x.ok
        go_wp2_with fail
        go_ret
        exact ⟨ret_int HV.out.symm, HB0.out.trans ((HBel.out.mono (by omega)).trans (HX.out.mono (by omega)))⟩
      · have HD := Lib.hid (show decide (ts[k] = t) = false by simpa using heq)
        have HE := Lib.hid heq
        clear heq
        refine wp_region_kept (by kernel_rfl) (by kernel_rfl) ?_
        repeat (go_big_quiet_step ((go_at_call 112; refine kept_of (v := .bool false) ((l1same_any ts[k] t A1 A' c1 c' L L' B B' _ (HB2.out _).2.1 (HB2.out _).2.2 (HB2.out _).1.1 (HB2.out _).1.2).mono ?_); rintro e w' ⟨rfl, hb'⟩; exact ⟨by rw [HD.out], hb'⟩)))
        refine wpQuiet_nil ?_
        rintro _ ⟨x, rfl⟩
        have HX := Lib.hid x.ok
        go_wp2_with fail
        go_roundw
        case rel =>
          refine ⟨k + 1, by omega, by go_num, fun j hj => ?_, HBel.out.trans (HX.out.mono HBel.out.size)⟩
          by_cases e : j = k
          · subst e
            rw [List.getElem?_eq_getElem hlt]
            intro h
            exact HE.out (Option.some.inj h)
          · exact HN.out j (by omega)
        case measure => simp [intOf]; omega
    · have HV := Lib.hid (lookI_none (ts := ts) (t := t) (fun h => by
        obtain ⟨j, hj, e⟩ := List.mem_iff_getElem.1 h
        exact hne j (by omega) (by rw [List.getElem?_eq_getElem hj, e])))
      have HBel := Lib.hid hbel
      clear hbel hne
      go_wp2_with fail
      go_ret
      exact ⟨ret_int HV.out.symm, HB0.out.trans (HBel.out.mono (by omega))⟩

set_option maxRecDepth 100000 in
set_option maxHeartbeats 1000000 in
theorem numberOf_any (V : Value) (M : Nat) (hl : LOk ts) (hM : w.ownsMap (H := Unit) Try.prog 157 (plainElem Try.prog 3) M ts.length (mapOf ts)) (hwf : WfT t) (hA' : BytesIn w L' B' A' t.text) (hB' : B' ≤ w.heap.size) :
    Calls Try.prog 116 #[.agg #[V, .map (some M)], .agg #[.int .i64 t.kind, .int .i64 t.a, .int .i64 t.b, .slice A' t.text.length c']] w fun e w' => e = .returned (.int .i64 (lookI ts t)) ∧ Below w.heap.size w w' := by
  have HA' := Lib.hid hA'
  have HM := Lib.hid hM
  clear hA' hM
  go_enter Try.func116, Try.ntmps116
  go_wp2_with fail
  obtain ⟨W0, hW0⟩ : ∃ W0, W0 = (w.alloc (.cells #[V, .map (some M)] 122)).alloc (.cells #[.int .i64 t.kind, .int .i64 t.a, .int .i64 t.b, .slice A' t.text.length c'] 116) := ⟨_, rfl⟩
  have hb0 : Below w.heap.size w W0 := by subst hW0; exact ((Below.refl _ _).alloc (Nat.le_refl _) _).alloc (by simp) _
  have c0 : W0.cell? ⟨w.heap.size, 1, none⟩ = some (.map (some M)) := by subst hW0; simp
  have d0 : W0.cell? ⟨w.heap.size + 1, 0, none⟩ = some (.int .i64 t.kind) := by subst hW0; simp
  have d1 : W0.cell? ⟨w.heap.size + 1, 1, none⟩ = some (.int .i64 t.a) := by subst hW0; simp
  have d2 : W0.cell? ⟨w.heap.size + 1, 2, none⟩ = some (.int .i64 t.b) := by subst hW0; simp
  have d3 : W0.cell? ⟨w.heap.size + 1, 3, none⟩ = some (.slice A' t.text.length c') := by subst hW0; simp
  have hsz : W0.heap.size = w.heap.size + 1 + 1 := by subst hW0; simp
  rw [← hW0]
  clear hW0
  have kb : ∀ x : Kp W0, x.val.cell? ⟨w.heap.size, 1, none⟩ = some (.map (some M)) := fun x => x.cell c0
  have l0 : ∀ x : Kp W0, x.val.cell? ⟨w.heap.size + 1, 0, none⟩ = some (.int .i64 t.kind) := fun x => x.cell d0
  have l1 : ∀ x : Kp W0, x.val.cell? ⟨w.heap.size + 1, 1, none⟩ = some (.int .i64 t.a) := fun x => x.cell d1
  have l2 : ∀ x : Kp W0, x.val.cell? ⟨w.heap.size + 1, 2, none⟩ = some (.int .i64 t.b) := fun x => x.cell d2
  have l3 : ∀ x : Kp W0, x.val.cell? ⟨w.heap.size + 1, 3, none⟩ = some (.slice A' t.text.length c') := fun x => x.cell d3
  have hby : ∀ x : Kp W0, BytesIn x.val L' B' A' t.text ∧ B' ≤ x.val.heap.size := fun x => ⟨HA'.out.keep fun p _ hp => (x.ok.cell (by omega)).trans (hb0.cell (by omega)), by have := x.ok.size; omega⟩
  have HBy := Lib.hid hby
  have hmap : ∀ x : Kp W0, x.val.ownsMap (H := Unit) Try.prog 157 (plainElem Try.prog 3) M ts.length (mapOf ts) := fun x => (HM.out.kept (grown_of_below hb0) (by simp)).kept (grown_of_below x.ok) (by simp)
  obtain ⟨n, hn, hat⟩ : ∃ n : Int, (lookI ts t = if t ∈ ts then n else -1) ∧ (mapOf ts).atKey (klOf t) (.lit (.int .i64 0)) = .lit (.int .i64 n) := by
    obtain ⟨v, ps, _, hv⟩ := (hmap ⟨W0, Below.refl _ _⟩).look_ok Try.keyed Try.underlying120 (zeroInt _) (plainElem_int Try.underlying3 (by decide)) (key := .agg #[.int .i64 t.kind, .int .i64 t.a, .int .i64 t.b, .string ⟨t.text.toArray⟩]) (keyOf_tk t hwf)
    obtain ⟨n, rfl, hz, _⟩ := plainElem_int_inv Try.underlying3 hv
    refine ⟨n, ?_, congrArg Prod.fst hz⟩
    by_cases hm : t ∈ ts
    · rw [if_pos hm]
      obtain ⟨i, hi, rfl⟩ := List.mem_iff_getElem.1 hm
      have h1 := atKey_mapOf ts i hi (.lit (.int .i64 0)) (all_wf hl) (fun j k hj hk => by
        obtain ⟨_, _, _, h3⟩ := hl.2 j hj
        exact h3 k hk)
      have h2 : (mapOf ts).atKey (klOf ts[i]) (.lit (.int .i64 0)) = .lit (.int .i64 n) := congrArg Prod.fst hz
      rw [h1] at h2
      rw [lookI_found hi rfl (fun j hj => by
        obtain ⟨_, _, _, h3⟩ := hl.2 i hi
        rw [List.getElem?_eq_getElem (by omega)]
        intro e
        exact h3 j hj (Option.some.inj e))]
      injection h2 with h2
      injection h2
    · rw [if_neg hm, lookI_none hm]
  have hlook : ∀ x : Kp W0, (Instr.lookup 120 (.map (some M)) (.agg #[.int .i64 t.kind, .int .i64 t.a, .int .i64 t.b, .string ⟨t.text.toArray⟩]) true).run Try.prog x.val = .ok (.tuple #[.int .i64 n, .bool (decide (t ∈ ts))]) x.val := fun x => by
    obtain ⟨v, ps, hrun, hv⟩ := (hmap x).look_ok Try.keyed Try.underlying120 (zeroInt _) (plainElem_int Try.underlying3 (by decide)) (key := .agg #[.int .i64 t.kind, .int .i64 t.a, .int .i64 t.b, .string ⟨t.text.toArray⟩]) (keyOf_tk t hwf)
    obtain ⟨n', rfl, hz, _⟩ := plainElem_int_inv Try.underlying3 hv
    have h2 := (congrArg Prod.fst hz).symm.trans hat
    injection h2 with h2
    injection h2 with _ h2
    rw [hrun, has_mapOf ts t (all_wf hl) hwf, h2]
  have HB0 := Lib.hid hb0
  clear hmap hat c0 d0 d1 d2 d3 hby hb0
  by_cases hm : t ∈ ts
  · have HV := Lib.hid (show lookI ts t = n by rw [hn, if_pos hm])
    simp only [decide_eq_true hm] at hlook
    clear hm hn
    refine wp_region_kept (by kernel_rfl) (by kernel_rfl) ?_
    repeat (go_big_quiet_step ((go_at_call 115; refine kept_of (v := .agg #[.int .i64 t.kind, .int .i64 t.a, .int .i64 t.b, .string ⟨t.text.toArray⟩]) (termKeyOf_any t A' c' L' B' _ (HBy.out _).1 (HBy.out _).2))))
    refine wpQuiet_nil ?_
    rintro _ ⟨x, rfl⟩
    have HX := Lib.hid x.ok
    go_wp2_with fail
    go_ret
    exact ⟨ret_int HV.out.symm, HB0.out.trans (HX.out.mono (by omega))⟩
  · have HV := Lib.hid (show lookI ts t = -1 by rw [hn, if_neg hm])
    simp only [decide_eq_false hm] at hlook
    clear hm hn
    refine wp_region_kept (by kernel_rfl) (by kernel_rfl) ?_
    repeat (go_big_quiet_step ((go_at_call 115; refine kept_of (v := .agg #[.int .i64 t.kind, .int .i64 t.a, .int .i64 t.b, .string ⟨t.text.toArray⟩]) (termKeyOf_any t A' c' L' B' _ (HBy.out _).1 (HBy.out _).2))))
    refine wpQuiet_nil ?_
    rintro _ ⟨x, rfl⟩
    have HX := Lib.hid x.ok
    go_wp2_with fail
    go_ret
    exact ⟨ret_int HV.out.symm, HB0.out.trans (HX.out.mono (by omega))⟩

end

end Go.Proofs.Ytblmhhijgdkkoaa
