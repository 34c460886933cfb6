/-
  Several texts in one: L3a, L3m.
-/
import Derived.Test.YtepkicgnhjaokaaGreatDoorGCmp
import Derived.Test.YtepkicgnhjaokaaGreatDoorKept
import Derived.Deep.CutRange
import Derived.Test.YtepkicgnhjaokaaGreatDoorGPs
import Derived.Test.YtepkicgnhjaokaaGreatDoorGMgA
namespace Go.Proofs.YtepkicgnhjaokaaGreatDoor
open Go.RowKit Go.Maps

/-- That deed is told unlike there. -/
def unA (us : List En) (e : En) : Bool := decide (0 ≤ dotV us e.dev e.num) && (!decide (plaV e (us.getD (dotV us e.dev e.num).toNat default) = 0) || !(e.val == (us.getD (dotV us e.dev e.num).toNat default).val))
def agB (es us : List En) : Bool := es.all fun e => !unA us e
theorem agB_no {es us : List En} {k : Nat} (hk : k < es.length) (h : unA us es[k] = true) : agB es us = false := by
  unfold agB
  rw [List.all_eq_false]
  exact ⟨es[k], List.getElem_mem hk, by simp [h]⟩
theorem agB_yes {es us : List En} (h : ∀ j (hj : j < es.length), unA us es[j] = false) : agB es us = true := by
  unfold agB
  rw [List.all_eq_true]
  intro x hx
  obtain ⟨j, hj, rfl⟩ := List.getElem_of_mem hx
  simp [h j hj]
theorem dotV_lt {es : List En} {d m : Int} (h : 0 ≤ dotV es d m) : (dotV es d m).toNat < es.length ∧ ∃ hi : (dotV es d m).toNat < es.length, es[(dotV es d m).toNat].dev = d ∧ es[(dotV es d m).toNat].num = m := by
  unfold dotV at *
  cases hf : es.findIdx? (fun e => e.dev == d && e.num == m) with
  | none => rw [hf] at h; simp at h
  | some i =>
    rw [List.findIdx?_eq_some_iff_getElem] at hf
    obtain ⟨hi, hp, _⟩ := hf
    simp only [Int.toNat_natCast, Bool.and_eq_true, beq_iff_eq] at hp ⊢
    exact ⟨hi, hi, hp⟩
theorem dotV_neg {es : List En} {d m : Int} (h : dotV es d m < 0) : unA es ⟨[], 0, d, m⟩ = false := by
  unfold unA
  simp
  omega
theorem unA_neg {us : List En} {e : En} (h : dotV us e.dev e.num < 0) : unA us e = false := by
  unfold unA
  have : decide (0 ≤ dotV us e.dev e.num) = false := by simp; omega
  rw [this, Bool.false_and]
theorem unA_at {us : List En} {e : En} {j : Nat} (hj : j < us.length) (h : dotV us e.dev e.num = j) : unA us e = (!decide (plaV e us[j] = 0) || !(e.val == us[j].val)) := by
  unfold unA
  rw [h]
  simp [hj]

end Go.Proofs.YtepkicgnhjaokaaGreatDoor

namespace Go.Proofs.YtepkicgnhjaokaaGreatDoor
open Go.RowKit Go.Maps

def insAll (l es : List En) : List En := es.foldl insE l
theorem insAll_snoc (l es : List En) (e : En) : insAll l (es ++ [e]) = insE (insAll l es) e := by simp [insAll]
theorem insAll_len : ∀ (es l : List En), (insAll l es).length = l.length + es.length
  | [], l => by simp [insAll]
  | e :: es, l => by
    have h := insAll_len es (insE l e)
    have h2 := (ins_perm l e).length_eq
    simp only [List.length_cons] at h2 ⊢
    unfold insAll at *
    rw [List.foldl_cons, h]
    omega
/-- What the model takes of the first; of the second. -/
def q1B (vec2 : List Int) (us : List En) (e : En) : Bool := decide (0 ≤ dotV us e.dev e.num) || decide (vec2.getD e.dev.toNat 0 < e.num)
def q2B (vec : List Int) (es : List En) (e : En) : Bool := decide (dotV es e.dev e.num < 0) && decide (vec.getD e.dev.toNat 0 < e.num)
def mg1 (vec2 : List Int) (es us : List En) : List En := insAll [] (fil (q1B vec2 us) es)
def mgE (vec : List Int) (es : List En) (vec2 : List Int) (us : List En) : List En := insAll (mg1 vec2 es us) (fil (q2B vec es) us)

/-- The merged tree's box, while entries come. -/
structure Mi (q : Nat) (V0 : Value) (A : Option Addr) (c : Nat) (acc : List En) (X : World) : Prop where
  c0 : X.cell? ⟨q, 0, none⟩ = some V0
  c1 : X.cell? ⟨q, 1, none⟩ = some (.slice A acc.length c)
  fz : X.frozen? ⟨q, 1, none⟩ = false
  en : EnsIn X 0 X.heap.size A acc
  cap : acc.length ≤ c
  row : A = none ∧ c = 0 ∨ ∃ g, A = some ⟨g, 0, none⟩ ∧ q < g
  lt : q < X.heap.size
section
variable {q : Nat} {V0 : Value} {A : Option Addr} {c : Nat} {acc : List En} {X Y : World}
theorem Mi.below (h : Mi q V0 A c acc X) (hb : Below X.heap.size X Y) : Mi q V0 A c acc Y where
  c0 := (hb.cell (p := ⟨q, 0, none⟩) h.lt).trans h.c0
  c1 := (hb.cell (p := ⟨q, 1, none⟩) h.lt).trans h.c1
  fz := (hb.frozen (p := ⟨q, 1, none⟩) h.lt).trans h.fz
  en := (h.en.below hb).mono hb.size
  cap := h.cap
  row := h.row
  lt := Nat.lt_of_lt_of_le h.lt hb.size
theorem Mi.set (h : Mi q V0 A c acc X) {A2 : Option Addr} {c2 : Nat} {acc2 : List En} (hE : EnsIn X 0 X.heap.size A2 acc2) (hc : acc2.length ≤ c2) (hg : ∃ g, A2 = some ⟨g, 0, none⟩ ∧ q < g) :
    Mi q V0 A2 c2 acc2 (X.setCell ⟨q, 1, none⟩ (.slice A2 acc2.length c2)) where
  c0 := (World.cell?_setCell_other _ _ _ _ (by simp)).trans h.c0
  c1 := World.cell?_setCell_same _ _ _ h.c1
  fz := by rw [World.frozen?_setCell]; exact h.fz
  en := (ens_set1 hE h.c1 (fun b o e => by
    obtain ⟨g, e2, hl⟩ := hg
    rw [e2] at e
    injection e with e
    injection e with e
    show b ≠ q
    omega) _).mono (by simp)
  cap := hc
  row := .inr hg
  lt := by have := h.lt; simpa using this
end
set_option maxRecDepth 100000 in
theorem l3ins_mi {q : Nat} {V0 : Value} {A : Option Addr} {c : Nat} {acc : List En} {X : World} (h : Mi q V0 A c acc X) (e : En) (An : Option Addr) (cn : Nat) (hN : BytesIn X 0 X.heap.size An e.name) (hl : acc.length ≤ 999) :
    Calls Tryz.prog 96 #[.slice A acc.length c, .agg #[.slice An e.name.length cn, .int .i64 e.val, .int .i64 e.dev, .int .i64 e.num]] X
      fun r w' => ∃ A2 c2, r = .returned (.slice A2 (insE acc e).length c2) ∧ (insE acc e).length ≤ c2 ∧ (∃ g, A2 = some ⟨g, 0, none⟩ ∧ q < g) ∧ EnsIn w' 0 w'.heap.size A2 (insE acc e) ∧ Below X.heap.size X w' := by
  have h1 := l3insert_any A acc c e An cn X.heap.size X h.en (Nat.le_refl _) (by omega) h.cap (by rcases h.row with k | ⟨g, k, _⟩; exact .inl k; exact .inr ⟨g, 0, k⟩) hN
  unfold enV at h1
  refine h1.mono ?_
  rintro r w' ⟨A8, c8, rfl, hc8, ⟨R, hR⟩, h3, h4⟩
  refine ⟨A8, c8, rfl, hc8, ⟨R, hR, ?_⟩, h3.ens h4.size, h4⟩
  obtain ⟨R', e', hL, _⟩ := h3 (by rw [(ins_perm _ _).length_eq]; simp)
  rw [hR] at e'
  injection e' with e'
  injection e' with e'
  have := h.lt
  omega

set_option maxRecDepth 100000 in
set_option maxHeartbeats 4000000 in
theorem l3merge_own (AV : Option Addr) (vec : List Int) (cv : Nat) (A : Option Addr) (es : List En) (cA : Nat) (AV2 : Option Addr) (vec2 : List Int) (cv2 : Nat) (Au : Option Addr) (us : List En) (cu : Nat) (w : World) (hV : IntsIn w 0 w.heap.size AV vec) (hA : EnsIn w 0 w.heap.size A es) (hV2 : IntsIn w 0 w.heap.size AV2 vec2) (hU : EnsIn w 0 w.heap.size Au us) (hvl : vec.length = 4) (hvl2 : vec2.length = 4) (hn : es.length ≤ 400) (hnu : us.length ≤ 400) (hde : ∀ e ∈ es, 0 ≤ e.dev ∧ e.dev < 4) (hdu : ∀ e ∈ us, 0 ≤ e.dev ∧ e.dev < 4) :
    Calls Tryz.prog 77 #[.agg #[.slice AV 4 cv, .slice A es.length cA], .agg #[.slice AV2 4 cv2, .slice Au us.length cu]] w
      fun r w' => ∃ AV' cv' A' c', r = .returned (.agg #[.slice AV' 4 cv', .slice A' (mgE vec es vec2 us).length c']) ∧ (mgE vec es vec2 us).length ≤ c' ∧ IntsIn w' 0 w'.heap.size AV' (mxs vec vec2 4) ∧ EnsIn w' 0 w'.heap.size A' (mgE vec es vec2 us) ∧ (A' = none ∨ ∃ g, A' = some ⟨g, 0, none⟩) ∧ Below w.heap.size w w' := by
  have HV := Lib.hid hV
  have HA := Lib.hid hA
  have HV2 := Lib.hid hV2
  have HU := Lib.hid hU
  have HL1 := Lib.hid hvl
  have HL2 := Lib.hid hvl2
  have HDe := Lib.hid hde
  have HDu := Lib.hid hdu
  clear hV hA hV2 hU hvl hvl2 hde hdu
  go_enter Tryz.func77, Tryz.ntmps77
  go_wp2_with fail
  obtain ⟨W0, hW0⟩ : ∃ W0, W0 = w.alloc (.cells #[.slice AV 4 cv, .slice A es.length cA] 26) := ⟨_, rfl⟩
  obtain ⟨W1, hW1⟩ : ∃ W1, W1 = W0.alloc (.cells #[.slice AV2 4 cv2, .slice Au us.length cu] 26) := ⟨_, rfl⟩
  obtain ⟨W, hW⟩ : ∃ W, W = W1.alloc (.cells #[.slice none 0 0, .slice none 0 0] 26) := ⟨_, rfl⟩
  have hz0 : W0.heap.size = w.heap.size + 1 := by rw [hW0]; simp
  have hz1 : W1.heap.size = w.heap.size + 1 + 1 := by rw [hW1]; simp [hz0]
  have hz : w.heap.size + 1 + 1 < W.heap.size := by rw [hW]; simp [hz1]
  have HX := Lib.hid (show Bx W w.heap.size [.slice AV 4 cv, .slice A es.length cA] by rw [hW]; exact Bx.alloc (by rw [hW1]; exact Bx.alloc (by rw [hW0]; exact Bx.new' _ _ _ _ rfl) (by omega) _) (by omega) _)
  have HY := Lib.hid (show Bx W (w.heap.size + 1) [.slice AV2 4 cv2, .slice Au us.length cu] by rw [hW]; exact Bx.alloc (by rw [hW1, ← hz0]; exact Bx.new' _ _ _ _ rfl) (by omega) _)
  have HR := Lib.hid (show Bx W (w.heap.size + 1 + 1) [.slice none 0 0, .slice none 0 0] by rw [hW, ← hz1]; exact Bx.new' _ _ _ _ rfl)
  have HF := Lib.hid (show ∀ o, W.frozen? ⟨w.heap.size + 1 + 1, o, none⟩ = false from fun o => by rw [hW, hW1, hW0]; exact ((((Fresh.refl w).alloc _ _).alloc _ _).alloc _ _) ⟨w.heap.size + 1 + 1, o, none⟩ (by show w.heap.size ≤ w.heap.size + 1 + 1; omega))
  have HBel := Lib.hid (show Below w.heap.size w W by rw [hW, hW1, hW0]; exact (((Below.refl _ _).alloc (Nat.le_refl _) _).alloc (by simp) _).alloc (by simp; omega) _)
  rw [← hW0, ← hW1, ← hW]
  clear hW hW1 hW0 hz0 hz1
  refine (l3up_any AV AV2 vec vec2 cv cv2 W ((HV.out.keep fun p _ hp => HBel.out.cell hp).mono (by omega)) ((HV2.out.keep fun p _ hp => HBel.out.cell hp).mono (by omega)) HL1.out HL2.out).mono ?_
  rintro r w2 ⟨AVu, cvu, rfl, hiu, hb2⟩
  rw [mxs_length]
  have HIu := Lib.hid hiu
  have hz2 := hb2.size
  have HX2 := Lib.hid (HX.out.below hb2 (by omega))
  have HY2 := Lib.hid (HY.out.below hb2 (by omega))
  have HR2 := Lib.hid (HR.out.below hb2 hz)
  have HF2 := Lib.hid (show ∀ o, w2.frozen? ⟨w.heap.size + 1 + 1, o, none⟩ = false from fun o => (hb2.frozen (p := ⟨w.heap.size + 1 + 1, o, none⟩) hz).trans (HF.out o))
  have HB2 := Lib.hid (show Below w.heap.size w w2 from HBel.out.trans (hb2.mono (by omega)))
  clear hiu hb2
  go_upto_region 2 with fail
  obtain ⟨W7, hW7⟩ : ∃ W7, W7 = w2.alloc (.cells #[.slice AVu 4 cvu, .slice none 0 0] 26) := ⟨_, rfl⟩
  have hlq : w.heap.size + 1 + 1 < w2.heap.size := by omega
  obtain ⟨q, hq⟩ : ∃ q, q = w2.heap.size := ⟨_, rfl⟩
  have hb7 : Below q w2 W7 := by rw [hW7, hq]; exact (Below.refl _ _).alloc (Nat.le_refl _) _
  have hz7 : q < W7.heap.size := by rw [hW7, hq]; simp
  have HMi := Lib.hid (show Mi q (.slice AVu 4 cvu) none 0 [] W7 from by
    have hh : W7.heap[q]? = some (.cells #[.slice AVu 4 cvu, .slice none 0 0] 26 (0, 0)) := by rw [hW7, hq]; exact heap_alloc_new w2 _
    exact ⟨by simp [World.cell?, hh], by simp [World.cell?, hh], by simp [World.frozen?, hh], fun h => absurd h (by simp), Nat.le_refl _, .inl ⟨rfl, rfl⟩, hz7⟩)
  rw [← hq] at hlq
  have HX7 := Lib.hid (HX2.out.below hb7 (by omega))
  have HY7 := Lib.hid (HY2.out.below hb7 (by omega))
  have HR7 := Lib.hid (HR2.out.below hb7 hlq)
  have HF7 := Lib.hid (show ∀ o, W7.frozen? ⟨w.heap.size + 1 + 1, o, none⟩ = false from fun o => (hb7.frozen (p := ⟨w.heap.size + 1 + 1, o, none⟩) hlq).trans (HF2.out o))
  have HB7 := Lib.hid (show Below w.heap.size w W7 from HB2.out.trans (hb7.mono (by omega)))
  have HIu7 := Lib.hid (show IntsIn W7 W.heap.size q AVu (mxs vec vec2 4) from (HIu.out.ints.keep fun p _ hp => hb7.cell (by omega)).mono (by omega))
  have hzW : W.heap.size ≤ q := by omega
  rw [← hW7, ← hq]
  clear hW7 hq hb7
  go_wp2_with fail
  go_loopw [6] (fun i wr => ∃ (k : Nat) (A' : Option Addr) (c' : Nat), k ≤ es.length ∧ i = .int .i64 k ∧ Mi q (.slice AVu 4 cvu) A' c' (insAll [] (fil (q1B vec2 us) (es.take k))) wr ∧ Below q W7 wr) (fun i _ => es.length - (intOf i).toNat)
  case atStart => exact ⟨0, none, 0, Nat.zero_le _, rfl, HMi.out, Below.refl _ _⟩
  case round =>
    obtain ⟨k, A', c', hk, rfl, hmi, hbq⟩ := hrel
    obtain ⟨wq, rfl⟩ : ∃ X : World, X = wr := ⟨_, rfl⟩
    have HMk := Lib.hid hmi
    have HBq := Lib.hid hbq
    have HBw := Lib.hid (show Below w.heap.size w wq from HB7.out.trans (hbq.mono (by omega)))
    have lq := hmi.lt
    have y1 := (HX7.out.below hbq (by omega)) 1 (by simp)
    have x0 := (HY7.out.below hbq (by omega)) 0 (by simp)
    have x1 := (HY7.out.below hbq (by omega)) 1 (by simp)
    simp only [List.getElem_cons_succ, List.getElem_cons_zero] at y1 x0 x1
    clear hmi hbq
    have hlw : w.heap.size + 1 + 1 < wq.heap.size := by omega
    by_cases hlt : k < es.length
    · obtain ⟨bA, oA, hAe, _, hbA, hcA⟩ := HA.out (by omega)
      obtain ⟨An, cn, c0, c1, c2, c3, hby⟩ := hcA k hlt
      obtain ⟨e, he⟩ : ∃ e, e = es[k] := ⟨_, rfl⟩
      rw [← he] at c0 c1 c2 c3 hby
      have HS := Lib.hid (fil_succ (q1B vec2 us) es k hlt)
      rw [← he] at HS
      have hd := HDe.out es[k] (List.getElem_mem hlt)
      rw [← he] at hd
      obtain ⟨hd0, hd4⟩ := hd
      obtain ⟨acc, hacc⟩ : ∃ acc, acc = insAll [] (fil (q1B vec2 us) (es.take k)) := ⟨_, rfl⟩
      have hal : acc.length ≤ 900 := by rw [hacc, insAll_len]; have h1 := fil_le (q1B vec2 us) (es.take k); have h2 := List.length_take_le k es; simp only [List.length_nil]; omega
      have HAc := Lib.hid (show ∀ b : Bool, (q1B vec2 us) e = b → insAll [] (fil (q1B vec2 us) (es.take (k + 1))) = if b then insE acc e else acc from fun b hb => by
        rw [HS.out, hb, hacc]
        cases b with
        | true => exact insAll_snoc _ _ _
        | false => simp)
      rw [← hacc] at HMk
      have C0 := (HBw.out.cell (p := ⟨bA, oA + k * 4, none⟩) (by show bA < _; omega)).trans c0
      have C1 := (HBw.out.cell (p := ⟨bA, oA + k * 4 + 1, none⟩) (by show bA < _; omega)).trans c1
      have C2 := (HBw.out.cell (p := ⟨bA, oA + k * 4 + 2, none⟩) (by show bA < _; omega)).trans c2
      have C3 := (HBw.out.cell (p := ⟨bA, oA + k * 4 + 3, none⟩) (by show bA < _; omega)).trans c3
      have HBy := Lib.hid hby
      obtain ⟨bV, oV, hVe, _, hbV, hcV⟩ := HV2.out (by rw [HL2.out]; omega)
      subst hAe
      clear hcA he hacc hby c0 c1 c2 c3
      have hlt' : (k : Int) < (es.length : Int) := by omega
      obtain ⟨n1, v1, d1, m1⟩ := e
      simp only at C0 C1 C2 C3 hd0 hd4
      obtain ⟨m, rfl⟩ := Int.eq_ofNat_of_zero_le hd0
      have hm4 : m < 4 := by omega
      obtain ⟨x, hx⟩ : ∃ x, x = vec2.getD m 0 := ⟨_, rfl⟩
      have hcVm := hcV m (by rw [HL2.out]; exact hm4)
      have hgx : vec2[m]'(by rw [HL2.out]; exact hm4) = x := by rw [hx]; simp [HL2.out, hm4]
      rw [hgx] at hcVm
      have HXm := Lib.hid hx
      clear hcV hgx hx
      go_upto_region 6 with fail
      obtain ⟨W8, hW8⟩ : ∃ W8, W8 = wq.alloc (.cells #[.slice An n1.length cn, .int .i64 v1, .int .i64 (m : Int), .int .i64 m1] 34) := ⟨_, rfl⟩
      have hb8 : Below wq.heap.size wq W8 := by rw [hW8]; exact (Below.refl _ _).alloc (Nat.le_refl _) _
      have hz8 : wq.heap.size < W8.heap.size := by rw [hW8]; simp
      have HZ8 := Lib.hid (show Bx W8 wq.heap.size [.slice An n1.length cn, .int .i64 v1, .int .i64 (m : Int), .int .i64 m1] by rw [hW8]; exact Bx.new' _ _ _ _ rfl)
      have HM8 := Lib.hid (HMk.out.below hb8)
      have HBw8 := Lib.hid (HBw.out.trans (hb8.mono (by omega)))
      have HBq8 := Lib.hid (show Below q W7 W8 from HBq.out.trans (hb8.mono (by omega)))
      have X0 := (hb8.cell (p := ⟨w.heap.size + 1, 0, none⟩) (by show w.heap.size + 1 < _; omega)).trans x0
      have X1 := (hb8.cell (p := ⟨w.heap.size + 1, 1, none⟩) (by show w.heap.size + 1 < _; omega)).trans x1
      have XV := (HBw8.out.cell (p := ⟨bV, oV + m, none⟩) hbV).trans hcVm
      obtain ⟨z0, z1, z2, z3⟩ := HZ8.out.four
      obtain ⟨dv, hdv⟩ : ∃ y, y = dotV us m m1 := ⟨_, rfl⟩
      have HDt := Lib.hid (fun (x : Kp W8) => show Calls Tryz.prog 56 #[.slice Au us.length cu, .agg #[.slice An n1.length cn, .int .i64 v1, .int .i64 (m : Int), .int .i64 m1]] x.val (fun r w' => r = .returned (.int .i64 dv) ∧ Below x.val.heap.size x.val w') from by
        have hx : Below w.heap.size w x.val := HBw8.out.trans (x.ok.mono (by omega))
        have h := l3dot_any Au An cu cn us ⟨n1, v1, m, m1⟩ x.val ((HU.out.below hx).mono hx.size) (by omega)
        unfold enV at h
        rw [hdv]
        exact h)
      have q0 : ∀ y : Kp W8, y.val.cell? ⟨w.heap.size + 1, 0, none⟩ = some (.slice AV2 4 cv2) := fun y => y.cell X0
      have q1 : ∀ y : Kp W8, y.val.cell? ⟨w.heap.size + 1, 1, none⟩ = some (.slice Au us.length cu) := fun y => y.cell X1
      have q2 : ∀ y : Kp W8, y.val.cell? ⟨bV, oV + m, none⟩ = some (.int .i64 x) := fun y => y.cell XV
      have s0 : ∀ y : Kp W8, y.val.cell? ⟨wq.heap.size, 0, none⟩ = some (.slice An n1.length cn) := fun y => y.cell z0
      have s1 : ∀ y : Kp W8, y.val.cell? ⟨wq.heap.size, 1, none⟩ = some (.int .i64 v1) := fun y => y.cell z1
      have s2 : ∀ y : Kp W8, y.val.cell? ⟨wq.heap.size, 2, none⟩ = some (.int .i64 (m : Int)) := fun y => y.cell z2
      have s3 : ∀ y : Kp W8, y.val.cell? ⟨wq.heap.size, 3, none⟩ = some (.int .i64 m1) := fun y => y.cell z3
      have HDv := Lib.hid hdv
      have HQe := Lib.hid (show (q1B vec2 us) ⟨n1, v1, m, m1⟩ = (decide (0 ≤ dv) || decide (x < m1)) from by show (decide (0 ≤ dotV us m m1) || decide (vec2.getD (Int.toNat (m : Int)) 0 < m1)) = _; rw [← hdv, Int.toNat_natCast, ← HXm.out])
      have hmi : (m : Int) < 4 := by omega
      rw [← hW8]
      clear hW8 hb8 hdv x0 x1 X0 X1 XV hcVm C0 C1 C2 C3 z0 z1 z2 z3 y1
      subst hVe
      by_cases hp : 0 ≤ dv
      · skip
        have HN := Lib.hid (HAc.out true (by rw [HQe.out]; simp; omega))
        skip
        refine wp_region_kept (by kernel_rfl) (by kernel_rfl) ?_
        repeat (go_big_quiet_step ((go_at_call 56; refine kept_of (v := .int .i64 dv) (HDt.out _))))
        refine wpQuiet_nil ?_
        rintro W6 ⟨⟨_, hb6⟩, rfl⟩
        have HM6 := Lib.hid (HM8.out.below hb6)
        have HZ6 := Lib.hid (HZ8.out.below hb6 hz8)
        have HBq6 := Lib.hid (show Below q W7 W6 from HBq8.out.trans (hb6.mono (by omega)))
        have HBw6 := Lib.hid (HBw8.out.trans (hb6.mono (by omega)))
        clear q0 q1 q2 s0 s1 s2 s3 HDt hb6
        have m1c := HM6.out.c1
        obtain ⟨z0, z1, z2, z3⟩ := HZ6.out.four
        have HNm := Lib.hid (show BytesIn W6 0 W6.heap.size An n1 from (HBy.out.keep fun p _ hp => HBw6.out.cell hp).mono HBw6.out.size)
        have l6 := HM6.out.lt
        go_wp2_with fail
        refine (l3ins_mi HM6.out ⟨n1, v1, m, m1⟩ An cn HNm.out (by omega)).mono ?_
        rintro r w8 ⟨A8, c8, rfl, hc8, hg8, he8, hb8⟩
        have HM9 := Lib.hid ((HM6.out.below hb8).set he8 hc8 hg8)
        have HBq9 := Lib.hid (show Below q W7 (w8.setCell ⟨q, 1, none⟩ (.slice A8 (insE acc ⟨n1, v1, m, m1⟩).length c8)) from (show Below q W7 w8 from HBq6.out.trans (hb8.mono (by omega))).setCell (show q ≤ q from Nat.le_refl _) _)
        have m8 := (HM6.out.below hb8).c1
        have f8 := (HM6.out.below hb8).fz
        clear hc8 hg8 he8 hb8 m1c z0 z1 z2 z3
        go_wp2_with fail
        go_roundw
        case rel =>
          have hN := HN.out
          simp only [if_true] at hN
          exact ⟨k + 1, A8, c8, by omega, by go_num, by rw [hN]; exact HM9.out, HBq9.out⟩
        case measure => simp [intOf]; omega
      · have hpn : decide (0 ≤ dv) = false := by simp; omega
        by_cases hxx : x < m1
        · skip
          have HN := Lib.hid (HAc.out true (by rw [HQe.out]; simp; omega))
          have hxd : decide (x < m1) = true := by simp; omega
          refine wp_region_kept (by kernel_rfl) (by kernel_rfl) ?_
          repeat (go_big_quiet_step ((go_at_call 56; refine kept_of (v := .int .i64 dv) (HDt.out _))))
          refine wpQuiet_nil ?_
          rintro W6 ⟨⟨_, hb6⟩, rfl⟩
          have HM6 := Lib.hid (HM8.out.below hb6)
          have HZ6 := Lib.hid (HZ8.out.below hb6 hz8)
          have HBq6 := Lib.hid (show Below q W7 W6 from HBq8.out.trans (hb6.mono (by omega)))
          have HBw6 := Lib.hid (HBw8.out.trans (hb6.mono (by omega)))
          clear q0 q1 q2 s0 s1 s2 s3 HDt hb6
          have m1c := HM6.out.c1
          obtain ⟨z0, z1, z2, z3⟩ := HZ6.out.four
          have HNm := Lib.hid (show BytesIn W6 0 W6.heap.size An n1 from (HBy.out.keep fun p _ hp => HBw6.out.cell hp).mono HBw6.out.size)
          have l6 := HM6.out.lt
          go_wp2_with fail
          refine (l3ins_mi HM6.out ⟨n1, v1, m, m1⟩ An cn HNm.out (by omega)).mono ?_
          rintro r w8 ⟨A8, c8, rfl, hc8, hg8, he8, hb8⟩
          have HM9 := Lib.hid ((HM6.out.below hb8).set he8 hc8 hg8)
          have HBq9 := Lib.hid (show Below q W7 (w8.setCell ⟨q, 1, none⟩ (.slice A8 (insE acc ⟨n1, v1, m, m1⟩).length c8)) from (show Below q W7 w8 from HBq6.out.trans (hb8.mono (by omega))).setCell (show q ≤ q from Nat.le_refl _) _)
          have m8 := (HM6.out.below hb8).c1
          have f8 := (HM6.out.below hb8).fz
          clear hc8 hg8 he8 hb8 m1c z0 z1 z2 z3
          go_wp2_with fail
          go_roundw
          case rel =>
            have hN := HN.out
            simp only [if_true] at hN
            exact ⟨k + 1, A8, c8, by omega, by go_num, by rw [hN]; exact HM9.out, HBq9.out⟩
          case measure => simp [intOf]; omega
        · skip
          have HN := Lib.hid (HAc.out false (by rw [HQe.out]; simp; omega))
          have hxd : decide (x < m1) = false := by simp; omega
          refine wp_region_kept (by kernel_rfl) (by kernel_rfl) ?_
          repeat (go_big_quiet_step ((go_at_call 56; refine kept_of (v := .int .i64 dv) (HDt.out _))))
          refine wpQuiet_nil ?_
          rintro W6 ⟨⟨_, hb6⟩, rfl⟩
          have HM6 := Lib.hid (HM8.out.below hb6)
          have HZ6 := Lib.hid (HZ8.out.below hb6 hz8)
          have HBq6 := Lib.hid (show Below q W7 W6 from HBq8.out.trans (hb6.mono (by omega)))
          have HBw6 := Lib.hid (HBw8.out.trans (hb6.mono (by omega)))
          clear q0 q1 q2 s0 s1 s2 s3 HDt hb6
          go_wp2_with fail
          go_roundw
          case rel =>
            have hN := HN.out
            simp only [Bool.false_eq_true, if_false] at hN
            exact ⟨k + 1, A', c', by omega, by go_num, by rw [hN]; exact HM6.out, HBq6.out⟩
          case measure => simp [intOf]; omega
    · have hke : k = es.length := by omega
      have HMm := Lib.hid (show Mi q (.slice AVu 4 cvu) A' c' (insAll (mg1 vec2 es us) (fil (q2B vec es) (us.take 0))) wq from by
        have h := HMk.out
        rw [hke, List.take_length] at h
        exact h)
      have HBqm := Lib.hid HBq.out
      have hlt' : ¬ ((k : Int) < (es.length : Int)) := by omega
      clear hke HMk HBw
      clear x0 x1
      go_wp2_with fail
      go_loopw [8] (fun i wr => ∃ (k : Nat) (A' : Option Addr) (c' : Nat), k ≤ us.length ∧ i = .int .i64 k ∧ Mi q (.slice AVu 4 cvu) A' c' (insAll (mg1 vec2 es us) (fil (q2B vec es) (us.take k))) wr ∧ Below q W7 wr) (fun i _ => us.length - (intOf i).toNat)
      case atStart => exact ⟨0, A', c', Nat.zero_le _, rfl, HMm.out, HBqm.out⟩
      case round =>
        obtain ⟨k, A', c', hk, rfl, hmi, hbq⟩ := hrel
        obtain ⟨wq, rfl⟩ : ∃ X : World, X = wr := ⟨_, rfl⟩
        have HMk := Lib.hid hmi
        have HBq := Lib.hid hbq
        have HBw := Lib.hid (show Below w.heap.size w wq from HB7.out.trans (hbq.mono (by omega)))
        have lq := hmi.lt
        have y1 := (HY7.out.below hbq (by omega)) 1 (by simp)
        have x0 := (HX7.out.below hbq (by omega)) 0 (by simp)
        have x1 := (HX7.out.below hbq (by omega)) 1 (by simp)
        simp only [List.getElem_cons_succ, List.getElem_cons_zero] at y1 x0 x1
        clear hmi hbq
        have hlw : w.heap.size + 1 + 1 < wq.heap.size := by omega
        by_cases hlt : k < us.length
        · obtain ⟨bA, oA, hAe, _, hbA, hcA⟩ := HU.out (by omega)
          obtain ⟨An, cn, c0, c1, c2, c3, hby⟩ := hcA k hlt
          obtain ⟨e, he⟩ : ∃ e, e = us[k] := ⟨_, rfl⟩
          rw [← he] at c0 c1 c2 c3 hby
          have HS := Lib.hid (fil_succ (q2B vec es) us k hlt)
          rw [← he] at HS
          have hd := HDu.out us[k] (List.getElem_mem hlt)
          rw [← he] at hd
          obtain ⟨hd0, hd4⟩ := hd
          obtain ⟨acc, hacc⟩ : ∃ acc, acc = insAll (mg1 vec2 es us) (fil (q2B vec es) (us.take k)) := ⟨_, rfl⟩
          have hal : acc.length ≤ 900 := by rw [hacc, insAll_len]; have h1 := fil_le (q2B vec es) (us.take k); have h2 := List.length_take_le k us; have h3 : (mg1 vec2 es us).length ≤ 400 := (by unfold mg1; rw [insAll_len]; have := fil_le (q1B vec2 us) es; simp only [List.length_nil]; omega); omega
          have HAc := Lib.hid (show ∀ b : Bool, (q2B vec es) e = b → insAll (mg1 vec2 es us) (fil (q2B vec es) (us.take (k + 1))) = if b then insE acc e else acc from fun b hb => by
            rw [HS.out, hb, hacc]
            cases b with
            | true => exact insAll_snoc _ _ _
            | false => simp)
          rw [← hacc] at HMk
          have C0 := (HBw.out.cell (p := ⟨bA, oA + k * 4, none⟩) (by show bA < _; omega)).trans c0
          have C1 := (HBw.out.cell (p := ⟨bA, oA + k * 4 + 1, none⟩) (by show bA < _; omega)).trans c1
          have C2 := (HBw.out.cell (p := ⟨bA, oA + k * 4 + 2, none⟩) (by show bA < _; omega)).trans c2
          have C3 := (HBw.out.cell (p := ⟨bA, oA + k * 4 + 3, none⟩) (by show bA < _; omega)).trans c3
          have HBy := Lib.hid hby
          obtain ⟨bV, oV, hVe, _, hbV, hcV⟩ := HV.out (by rw [HL1.out]; omega)
          subst hAe
          clear hcA he hacc hby c0 c1 c2 c3
          have hlt' : (k : Int) < (us.length : Int) := by omega
          obtain ⟨n1, v1, d1, m1⟩ := e
          simp only at C0 C1 C2 C3 hd0 hd4
          obtain ⟨m, rfl⟩ := Int.eq_ofNat_of_zero_le hd0
          have hm4 : m < 4 := by omega
          obtain ⟨x, hx⟩ : ∃ x, x = vec.getD m 0 := ⟨_, rfl⟩
          have hcVm := hcV m (by rw [HL1.out]; exact hm4)
          have hgx : vec[m]'(by rw [HL1.out]; exact hm4) = x := by rw [hx]; simp [HL1.out, hm4]
          rw [hgx] at hcVm
          have HXm := Lib.hid hx
          clear hcV hgx hx
          go_upto_region 12 with fail
          obtain ⟨W8, hW8⟩ : ∃ W8, W8 = wq.alloc (.cells #[.slice An n1.length cn, .int .i64 v1, .int .i64 (m : Int), .int .i64 m1] 34) := ⟨_, rfl⟩
          have hb8 : Below wq.heap.size wq W8 := by rw [hW8]; exact (Below.refl _ _).alloc (Nat.le_refl _) _
          have hz8 : wq.heap.size < W8.heap.size := by rw [hW8]; simp
          have HZ8 := Lib.hid (show Bx W8 wq.heap.size [.slice An n1.length cn, .int .i64 v1, .int .i64 (m : Int), .int .i64 m1] by rw [hW8]; exact Bx.new' _ _ _ _ rfl)
          have HM8 := Lib.hid (HMk.out.below hb8)
          have HBw8 := Lib.hid (HBw.out.trans (hb8.mono (by omega)))
          have HBq8 := Lib.hid (show Below q W7 W8 from HBq.out.trans (hb8.mono (by omega)))
          have X0 := (hb8.cell (p := ⟨w.heap.size, 0, none⟩) (by show w.heap.size < _; omega)).trans x0
          have X1 := (hb8.cell (p := ⟨w.heap.size, 1, none⟩) (by show w.heap.size < _; omega)).trans x1
          have XV := (HBw8.out.cell (p := ⟨bV, oV + m, none⟩) hbV).trans hcVm
          obtain ⟨z0, z1, z2, z3⟩ := HZ8.out.four
          obtain ⟨dv, hdv⟩ : ∃ y, y = dotV es m m1 := ⟨_, rfl⟩
          have HDt := Lib.hid (fun (x : Kp W8) => show Calls Tryz.prog 56 #[.slice A es.length cA, .agg #[.slice An n1.length cn, .int .i64 v1, .int .i64 (m : Int), .int .i64 m1]] x.val (fun r w' => r = .returned (.int .i64 dv) ∧ Below x.val.heap.size x.val w') from by
            have hx : Below w.heap.size w x.val := HBw8.out.trans (x.ok.mono (by omega))
            have h := l3dot_any A An cA cn es ⟨n1, v1, m, m1⟩ x.val ((HA.out.below hx).mono hx.size) (by omega)
            unfold enV at h
            rw [hdv]
            exact h)
          have q0 : ∀ y : Kp W8, y.val.cell? ⟨w.heap.size, 0, none⟩ = some (.slice AV 4 cv) := fun y => y.cell X0
          have q1 : ∀ y : Kp W8, y.val.cell? ⟨w.heap.size, 1, none⟩ = some (.slice A es.length cA) := fun y => y.cell X1
          have q2 : ∀ y : Kp W8, y.val.cell? ⟨bV, oV + m, none⟩ = some (.int .i64 x) := fun y => y.cell XV
          have s0 : ∀ y : Kp W8, y.val.cell? ⟨wq.heap.size, 0, none⟩ = some (.slice An n1.length cn) := fun y => y.cell z0
          have s1 : ∀ y : Kp W8, y.val.cell? ⟨wq.heap.size, 1, none⟩ = some (.int .i64 v1) := fun y => y.cell z1
          have s2 : ∀ y : Kp W8, y.val.cell? ⟨wq.heap.size, 2, none⟩ = some (.int .i64 (m : Int)) := fun y => y.cell z2
          have s3 : ∀ y : Kp W8, y.val.cell? ⟨wq.heap.size, 3, none⟩ = some (.int .i64 m1) := fun y => y.cell z3
          have HDv := Lib.hid hdv
          have HQe := Lib.hid (show (q2B vec es) ⟨n1, v1, m, m1⟩ = (decide (dv < 0) && decide (x < m1)) from by show (decide (dotV es m m1 < 0) && decide (vec.getD (Int.toNat (m : Int)) 0 < m1)) = _; rw [← hdv, Int.toNat_natCast, ← HXm.out])
          have hmi : (m : Int) < 4 := by omega
          rw [← hW8]
          clear hW8 hb8 hdv x0 x1 X0 X1 XV hcVm C0 C1 C2 C3 z0 z1 z2 z3 y1
          subst hVe
          by_cases hp : dv < 0
          · by_cases hxx : x < m1
            · skip
              have HN := Lib.hid (HAc.out true (by rw [HQe.out]; simp; omega))
              have hxd : decide (x < m1) = true := by simp; omega
              refine wp_region_kept (by kernel_rfl) (by kernel_rfl) ?_
              repeat (go_big_quiet_step ((go_at_call 56; refine kept_of (v := .int .i64 dv) (HDt.out _))))
              refine wpQuiet_nil ?_
              rintro W6 ⟨⟨_, hb6⟩, rfl⟩
              have HM6 := Lib.hid (HM8.out.below hb6)
              have HZ6 := Lib.hid (HZ8.out.below hb6 hz8)
              have HBq6 := Lib.hid (show Below q W7 W6 from HBq8.out.trans (hb6.mono (by omega)))
              have HBw6 := Lib.hid (HBw8.out.trans (hb6.mono (by omega)))
              clear q0 q1 q2 s0 s1 s2 s3 HDt hb6
              have m1c := HM6.out.c1
              obtain ⟨z0, z1, z2, z3⟩ := HZ6.out.four
              have HNm := Lib.hid (show BytesIn W6 0 W6.heap.size An n1 from (HBy.out.keep fun p _ hp => HBw6.out.cell hp).mono HBw6.out.size)
              have l6 := HM6.out.lt
              go_wp2_with fail
              refine (l3ins_mi HM6.out ⟨n1, v1, m, m1⟩ An cn HNm.out (by omega)).mono ?_
              rintro r w8 ⟨A8, c8, rfl, hc8, hg8, he8, hb8⟩
              have HM9 := Lib.hid ((HM6.out.below hb8).set he8 hc8 hg8)
              have HBq9 := Lib.hid (show Below q W7 (w8.setCell ⟨q, 1, none⟩ (.slice A8 (insE acc ⟨n1, v1, m, m1⟩).length c8)) from (show Below q W7 w8 from HBq6.out.trans (hb8.mono (by omega))).setCell (show q ≤ q from Nat.le_refl _) _)
              have m8 := (HM6.out.below hb8).c1
              have f8 := (HM6.out.below hb8).fz
              clear hc8 hg8 he8 hb8 m1c z0 z1 z2 z3
              go_wp2_with fail
              go_roundw
              case rel =>
                have hN := HN.out
                simp only [if_true] at hN
                exact ⟨k + 1, A8, c8, by omega, by go_num, by rw [hN]; exact HM9.out, HBq9.out⟩
              case measure => simp [intOf]; omega
            · skip
              have HN := Lib.hid (HAc.out false (by rw [HQe.out]; simp; omega))
              have hxd : decide (x < m1) = false := by simp; omega
              refine wp_region_kept (by kernel_rfl) (by kernel_rfl) ?_
              repeat (go_big_quiet_step ((go_at_call 56; refine kept_of (v := .int .i64 dv) (HDt.out _))))
              refine wpQuiet_nil ?_
              rintro W6 ⟨⟨_, hb6⟩, rfl⟩
              have HM6 := Lib.hid (HM8.out.below hb6)
              have HZ6 := Lib.hid (HZ8.out.below hb6 hz8)
              have HBq6 := Lib.hid (show Below q W7 W6 from HBq8.out.trans (hb6.mono (by omega)))
              have HBw6 := Lib.hid (HBw8.out.trans (hb6.mono (by omega)))
              clear q0 q1 q2 s0 s1 s2 s3 HDt hb6
              go_wp2_with fail
              go_roundw
              case rel =>
                have hN := HN.out
                simp only [Bool.false_eq_true, if_false] at hN
                exact ⟨k + 1, A', c', by omega, by go_num, by rw [hN]; exact HM6.out, HBq6.out⟩
              case measure => simp [intOf]; omega
          · have hpn : decide (dv < 0) = false := by simp; omega
            have HN := Lib.hid (HAc.out false (by rw [HQe.out]; simp; omega))
            skip
            refine wp_region_kept (by kernel_rfl) (by kernel_rfl) ?_
            repeat (go_big_quiet_step ((go_at_call 56; refine kept_of (v := .int .i64 dv) (HDt.out _))))
            refine wpQuiet_nil ?_
            rintro W6 ⟨⟨_, hb6⟩, rfl⟩
            have HM6 := Lib.hid (HM8.out.below hb6)
            have HZ6 := Lib.hid (HZ8.out.below hb6 hz8)
            have HBq6 := Lib.hid (show Below q W7 W6 from HBq8.out.trans (hb6.mono (by omega)))
            have HBw6 := Lib.hid (HBw8.out.trans (hb6.mono (by omega)))
            clear q0 q1 q2 s0 s1 s2 s3 HDt hb6
            go_wp2_with fail
            go_roundw
            case rel =>
              have hN := HN.out
              simp only [Bool.false_eq_true, if_false] at hN
              exact ⟨k + 1, A', c', by omega, by go_num, by rw [hN]; exact HM6.out, HBq6.out⟩
            case measure => simp [intOf]; omega
        · have hke : k = us.length := by omega
          have HMe := Lib.hid (show Mi q (.slice AVu 4 cvu) A' c' (mgE vec es vec2 us) wq from by
            have h := HMk.out
            rw [hke, List.take_length] at h
            exact h)
          have hlt' : ¬ ((k : Int) < (us.length : Int)) := by omega
          clear hke HMk
          obtain ⟨E, hE⟩ : ∃ E, E = mgE vec es vec2 us := ⟨_, rfl⟩
          rw [← hE] at HMe
          have HEe := Lib.hid hE
          clear hE x0 x1
          have p0 := HMe.out.c0
          have p1 := HMe.out.c1
          have r0 := (HR7.out.below HBq.out (by omega)) 0 (by simp)
          have r1 := (HR7.out.below HBq.out (by omega)) 1 (by simp)
          simp only [List.getElem_cons_succ, List.getElem_cons_zero] at r0 r1
          have f0 := (HBq.out.frozen (p := ⟨w.heap.size + 1 + 1, 0, none⟩) (by show w.heap.size + 1 + 1 < q; omega)).trans (HF7.out 0)
          have f1 := (HBq.out.frozen (p := ⟨w.heap.size + 1 + 1, 1, none⟩) (by show w.heap.size + 1 + 1 < q; omega)).trans (HF7.out 1)
          obtain ⟨g0, g1⟩ := two_get (v0 := .slice AVu 4 cvu) (v1 := .slice A' E.length c') r0 r1
          have HG := Lib.hid (And.intro g0 g1)
          have HT := Lib.hid (And.intro r0 r1)
          clear g0 g1
          go_wp2_with fail
          obtain ⟨g0, g1⟩ := HG.out
          refine bodyPost_ret (v := .agg #[.slice AVu 4 cvu, .slice A' E.length c']) (by simp [results, Tryz.results77, g0, g1, go_sem]) rfl ?_
          rw [← HEe.out]
          have hne : ∀ b' o', A' = some ⟨b', o', none⟩ → b' ≠ w.heap.size + 1 + 1 := fun b' o' e => by
            rcases HMe.out.row with ⟨h, _⟩ | ⟨g, h, hl⟩
            · rw [h] at e; cases e
            · rw [h] at e
              injection e with e
              injection e with e
              omega
          refine ⟨AVu, cvu, A', c', rfl, HMe.out.cap, ?_, ?_, HMe.out.row.imp And.left (fun ⟨g, h, _⟩ => ⟨g, h⟩), ?_⟩
          · have h := (HIu7.out.keep fun p h1 h2 => HBq.out.cell h2).keep fun p h1 h2 => (two_other (w := wq) (b := w.heap.size + 1 + 1) (v0 := .slice AVu 4 cvu) (v1 := .slice A' E.length c') (p := p) (by omega)).1
            exact (h.low (Nat.zero_le _)).mono (by simp; omega)
          · have h1 := ens_set1 HMe.out.en HT.out.1 (fun b' o' e => hne b' o' e) (.slice AVu 4 cvu)
            have h2 := ens_set1 (p := ⟨w.heap.size + 1 + 1, 1, none⟩) h1 ((World.cell?_setCell_other _ _ _ _ (by simp)).trans HT.out.2) (fun b' o' e => hne b' o' e) (.slice A' E.length c')
            exact h2.mono (by simp)
          · exact (HBw.out.setCell (show w.heap.size ≤ w.heap.size + 1 + 1 by omega) _).setCell (show w.heap.size ≤ w.heap.size + 1 + 1 by omega) _

theorem l3merge_any (AV : Option Addr) (vec : List Int) (cv : Nat) (A : Option Addr) (es : List En) (cA : Nat) (AV2 : Option Addr) (vec2 : List Int) (cv2 : Nat) (Au : Option Addr) (us : List En) (cu : Nat) (w : World) (hV : IntsIn w 0 w.heap.size AV vec) (hA : EnsIn w 0 w.heap.size A es) (hV2 : IntsIn w 0 w.heap.size AV2 vec2) (hU : EnsIn w 0 w.heap.size Au us) (hvl : vec.length = 4) (hvl2 : vec2.length = 4) (hn : es.length ≤ 400) (hnu : us.length ≤ 400) (hde : ∀ e ∈ es, 0 ≤ e.dev ∧ e.dev < 4) (hdu : ∀ e ∈ us, 0 ≤ e.dev ∧ e.dev < 4) :
    Calls Tryz.prog 77 #[.agg #[.slice AV 4 cv, .slice A es.length cA], .agg #[.slice AV2 4 cv2, .slice Au us.length cu]] w
      fun r w' => ∃ AV' cv' A' c', r = .returned (.agg #[.slice AV' 4 cv', .slice A' (mgE vec es vec2 us).length c']) ∧ (mgE vec es vec2 us).length ≤ c' ∧ IntsIn w' 0 w'.heap.size AV' (mxs vec vec2 4) ∧ EnsIn w' 0 w'.heap.size A' (mgE vec es vec2 us) ∧ Below w.heap.size w w' :=
  (l3merge_own AV vec cv A es cA AV2 vec2 cv2 Au us cu w hV hA hV2 hU hvl hvl2 hn hnu hde hdu).mono fun _ _ ⟨AV', cv', A', c', h1, h2, h3, h4, _, h5⟩ => ⟨AV', cv', A', c', h1, h2, h3, h4, h5⟩

end Go.Proofs.YtepkicgnhjaokaaGreatDoor
