/-
  The bytes of what a manifest says: plain data, and the program's side.
-/
import Derived.Test.YtblmhhijgdkkoaaL3b
import Derived.Test.YtblmhhijgdkkoaaRdM
namespace Go.Proofs.Ytblmhhijgdkkoaa
open Go.RowKit Go.Maps

/-- The bytes of what is said. -/
def bdV (au sq pv : Int) (vec : List Int) (es : List En) : List UInt8 := [lo8 au, lo8 sq] ++ b2 pv ++ tbV vec es
theorem bdV_length (au sq pv : Int) (vec : List Int) (es : List En) : (bdV au sq pv vec es).length = 4 + (tbV vec es).length := by
  unfold bdV
  rw [List.length_append, List.length_append]
  rfl
theorem cells_pair (a b : Int) : Lib.byteCells [lo8 a, lo8 b] = [.int .u8 (a % 256), .int .u8 (b % 256)] := by simp [Lib.byteCells, lo8_val]

/-- A slice that was just built is a row of the call's own. -/
theorem rw_built (w : World) (B b : Nat) (hb : w.heap.size = b) (l : List UInt8) (cs : Array Value) (hc : cs.toList = Lib.byteCells l) (hB : B ≤ w.heap.size) (hl : l.length ≤ 1000000) : Rw (w.alloc (.cells cs 5)) B (.slice (some ⟨b, 0, none⟩) l.length l.length) l := by
  subst hb
  have hs : cs.size = l.length := by rw [← Array.length_toList, hc, cells_length]
  exact .inr ⟨cells_length l, w.heap.size, l.length, cs, (0, 0), rfl, hB, heap_alloc_new w _, .inl rfl, Nat.le_refl _, by unfold maxLen; omega, hs, by rw [hc, ← cells_length l, List.take_length]⟩
/-- Its bytes, to be appended elsewhere. -/
theorem Rw.src {w : World} {B : Nat} {v : Value} {l : List UInt8} (h : Rw w B v l) (hl : 0 < l.length) : Src Try.prog 1 26 v l.length (Lib.byteCells l) w := by
  rcases h with ⟨_, rfl⟩ | h
  · simp at hl
  · obtain ⟨g, cap, rfl, _, _, _, _, hc⟩ := h.cells
    exact Src.ofSlice _ Try.underlying26 ⟨g, 0, none⟩ l.length cap _ (by simp [cells_length]) hc (fun u hu => by
      simp only [Lib.byteCells, List.mem_map] at hu
      obtain ⟨b, _, rfl⟩ := hu
      rfl)
theorem Rw.below {w w' : World} {B : Nat} {v : Value} {l : List UInt8} (h : Rw w B v l) (hb : Below w.heap.size w w') : Rw w' B v l := h.same fun g hg => hb.block g hg
/-- What was handed back is in memory of the call's own. -/
theorem Rw.fr {w : World} {B : Nat} {v : Value} {l : List UInt8} (h : Rw w B v l) : ∃ A c, v = .slice A l.length c ∧ BytesFr w B w.heap.size A l := by
  rcases h with ⟨rfl, rfl⟩ | ⟨_, g, cap, cur, fz, rfl, hb, hg, hfz, hnc, _, hcs, htk⟩
  · exact ⟨none, 0, rfl, fun h => absurd h (by simp)⟩
  · refine ⟨some ⟨g, 0, none⟩, cap, rfl, fun _ => ⟨g, 0, rfl, hb, (Array.getElem?_eq_some_iff.1 hg).1, fun j hj => ⟨?_, ?_⟩⟩⟩
    · have hu : (Lib.byteCells l)[j]? = some (.int .u8 (l[j].toNat : Int)) := by simp [Lib.byteCells, hj]
      rw [← htk, List.getElem?_take, if_pos (by omega)] at hu
      rw [Nat.zero_add, World.cell?, hg]
      simpa using hu
    · rw [Nat.zero_add]
      simp only [World.frozen?, hg]
      rcases hfz with h2 | h2
      · simp [h2]
      · simp
        omega

/-- New bytes and a Bool are handed back. -/
def NewByB (l : List UInt8) (b : Bool) (w : World) (e : Ending) (w' : World) : Prop :=
  ∃ A c, e = .returned (.tuple #[.slice A l.length c, .bool b]) ∧ BytesFr w' w.heap.size w'.heap.size A l ∧ Below w.heap.size w w'

theorem treeB_names0 {vec : List Int} {es : List En} (h : treeB vec es = true) : ∀ i (hi : i < es.length), 0 < es[i].name.length := by
  intro i hi
  unfold treeB at h
  simp only [Bool.and_eq_true, decide_eq_true_eq] at h
  have hn := List.all_eq_true.1 h.1.2 _ (List.getElem_mem hi)
  cases hx : es[i].name with
  | nil => rw [hx] at hn; exact absurd hn (by decide)
  | cons x xs => simp

/-- The answer of BodyBytes. -/
def bbV (au sq pv : Int) (vec : List Int) (es : List En) (sg : Int) : List UInt8 := if manB au sq pv vec es sg then bdV au sq pv vec es else []

set_option maxRecDepth 100000 in
set_option maxHeartbeats 2000000 in
theorem bodyEnc_any (au sq pv a b c d : Int) (A : Option Addr) (es : List En) (cap : Nat) (w : World) (hA : EvsIn w 0 w.heap.size A es) (hn : es.length ≤ 1000) (hbk : ebulk es ≤ 1048576) :
    Calls Try.prog 75 #[.agg #[.int .i64 au, .int .i64 sq, .int .i64 pv, .int .i64 a, .int .i64 b, .int .i64 c, .int .i64 d, .slice A es.length cap]] w (NewRw (bdV au sq pv [a, b, c, d] es) w) := by
  have HA := Lib.hid hA
  have HT := Lib.hid (tbV_length [a, b, c, d] es)
  clear hA
  go_enter Try.func75, Try.ntmps75
  go_wp2_with fail
  obtain ⟨W, hW⟩ : ∃ W, W = w.alloc (.cells #[.int .i64 au, .int .i64 sq, .int .i64 pv, .int .i64 a, .int .i64 b, .int .i64 c, .int .i64 d, .slice A es.length cap] 105) := ⟨_, rfl⟩
  have HX := Lib.hid (show Bx W w.heap.size [.int .i64 au, .int .i64 sq, .int .i64 pv, .int .i64 a, .int .i64 b, .int .i64 c, .int .i64 d, .slice A es.length cap] by rw [hW]; exact Bx.new' _ _ _ _ rfl)
  have HBel := Lib.hid (show Below w.heap.size w W by rw [hW]; exact (Below.refl _ _).alloc (Nat.le_refl _) _)
  have hz : W.heap.size = w.heap.size + 1 := by rw [hW]; simp
  obtain ⟨W2, hW2⟩ : ∃ W2, W2 = W.alloc (.cells #[.int .u8 (au % 256), .int .u8 (sq % 256)] 5) := ⟨_, rfl⟩
  have HR2 := Lib.hid (show Rw W2 W.heap.size (.slice (some ⟨w.heap.size + 1, 0, none⟩) 2 2) [lo8 au, lo8 sq] by rw [hW2]; exact rw_built W W.heap.size (w.heap.size + 1) hz [lo8 au, lo8 sq] _ (by rw [cells_pair]) (Nat.le_refl _) (by simp))
  have HBW2 := Lib.hid (show Below W.heap.size W W2 by rw [hW2]; exact (Below.refl _ _).alloc (Nat.le_refl _) _)
  rw [← hW, ← hW2]
  have hzw : w.heap.size < W.heap.size := by omega
  have hz2 := HBW2.out.size
  clear hW hW2 hz
  refine (appendTwo_any _ [lo8 au, lo8 sq] pv W.heap.size W2 HR2.out (by simp) hz2).mono ?_
  rintro e w3 ⟨v3, rfl, hr3, hg3⟩
  have HR3 := Lib.hid hr3
  have HB3 := Lib.hid (below_grownRw HBW2.out HR2.out hg3 hz2)
  have hz3 := HB3.out.size
  have x3 := (HB3.out.cell (p := ⟨w.heap.size, 3, none⟩) hzw).trans (HX.out 3 (by simp))
  have x4 := (HB3.out.cell (p := ⟨w.heap.size, 4, none⟩) hzw).trans (HX.out 4 (by simp))
  have x5 := (HB3.out.cell (p := ⟨w.heap.size, 5, none⟩) hzw).trans (HX.out 5 (by simp))
  have x6 := (HB3.out.cell (p := ⟨w.heap.size, 6, none⟩) hzw).trans (HX.out 6 (by simp))
  have x7 := (HB3.out.cell (p := ⟨w.heap.size, 7, none⟩) hzw).trans (HX.out 7 (by simp))
  simp only [List.getElem_cons_succ, List.getElem_cons_zero] at x3 x4 x5 x6 x7
  have lw : w.heap.size < w3.heap.size := by omega
  clear hr3 hg3
  go_wp2_with fail
  refine (encoded_any a b c d A es cap w3 ((HA.out.below (HBel.out.trans (HB3.out.mono (by omega)))).mono (by omega)) hn hbk).mono ?_
  rintro e w4 ⟨v4, rfl, hr4, hb4⟩
  have HR4 := Lib.hid hr4
  have HR3b := Lib.hid (HR3.out.below hb4)
  have HB4 := Lib.hid (HB3.out.trans (hb4.mono hz3))
  have hz4 := HB4.out.size
  obtain ⟨T, hT⟩ : ∃ T, T = tbV [a, b, c, d] es := ⟨_, rfl⟩
  rw [← hT] at HR4 HT
  have hTl : T.length = 2 * [a, b, c, d].length + 1 + (ebulk es + 6 * es.length) := HT.out
  have hT0 : 0 < T.length := by omega
  have hT1 : T.length ≤ 2000000 := by
    have : [a, b, c, d].length = 4 := rfl
    omega
  have HTe := Lib.hid hT
  obtain ⟨L3, hL3⟩ : ∃ L3, L3 = [lo8 au, lo8 sq] ++ b2 pv := ⟨_, rfl⟩
  have hl3 : L3.length = 4 := by rw [hL3]; rfl
  rw [← hL3] at HR3b
  have HL3 := Lib.hid hL3
  clear hr4 hb4 hT hTl hL3 HT x3 x4 x5 x6 x7 HR3 HR2 HX
  go_wp2_with (at_builtin; refine wpList_append_rw _ rfl _ _ 26 rfl W.heap.size v3 L3 rfl HR3b.out v4 T rfl (HR4.out.src hT0) ?c1 ?c2 ?c3 ?_)
  try case c1 => omega
  try case c2 => exact .inl hT0
  try case c3 => exact hz4
  intro v5 w5 hr5 hg5
  have HR5 := Lib.hid hr5
  have HB5 := Lib.hid (HBel.out.trans ((below_grownRw HB4.out HR3b.out hg5 hz4).mono (by omega)))
  clear hr5 hg5
  have hWw : w.heap.size ≤ W.heap.size := by omega
  go_wp2_with fail
  go_ret
  refine ⟨v5, rfl, ?_, HB5.out⟩
  have h := HR5.out
  rw [HL3.out, HTe.out] at h
  exact h.low hWw

set_option maxRecDepth 100000 in
set_option maxHeartbeats 2000000 in
theorem implBodyBytes_any (au sq pv : Int) (AV : Option Addr) (vec : List Int) (cv : Nat) (A : Option Addr) (es : List En) (c : Nat) (sg : Int) (w : World) (hV : IntsIn w 0 w.heap.size AV vec) (hA : EnsIn w 0 w.heap.size A es) (_hv : vec.length ≤ 1048576) (hn : es.length ≤ 1048576) (hbk : ebulk es ≤ 1048576) :
    Calls Try.prog 36 #[.agg #[.int .i64 au, .int .i64 sq, .int .i64 pv, .slice AV vec.length cv, .slice A es.length c, .int .i64 sg]] w (NewByB (bbV au sq pv vec es sg) (manB au sq pv vec es sg) w) := by
  have HV := Lib.hid hV
  have HA := Lib.hid hA
  have HM := Lib.hid (@manB_tree au sq pv vec es sg)
  have HM2 := Lib.hid (@manB_said au sq pv vec es sg)
  obtain ⟨L, hL⟩ : ∃ L, L = bbV au sq pv vec es sg := ⟨_, rfl⟩
  have HL := Lib.hid (show L = if manB au sq pv vec es sg then bdV au sq pv vec es else [] from hL)
  rw [← hL]
  clear hV hA hL
  go_enter Try.func36, Try.ntmps36
  go_wp2_with fail
  obtain ⟨W, hW⟩ : ∃ W, W = w.alloc (.cells #[.int .i64 au, .int .i64 sq, .int .i64 pv, .slice AV vec.length cv, .slice A es.length c, .int .i64 sg] 52) := ⟨_, rfl⟩
  have HBel := Lib.hid (show Below w.heap.size w W by rw [hW]; exact (Below.refl _ _).alloc (Nat.le_refl _) _)
  have hzW : w.heap.size < W.heap.size := by rw [hW]; simp
  rw [← hW]
  clear hW
  refine (readManifest_any au sq pv AV vec cv A es c sg W ((HV.out.keep fun p _ hp => HBel.out.cell hp).mono (by omega)) ((HA.out.below HBel.out).mono (by omega)) hn hbk).mono ?_
  rintro e w1 ⟨x0, x1, x2, x3, A', n, c', rfl, htr, hb1⟩
  have HTr := Lib.hid htr
  have HB1 := Lib.hid (HBel.out.trans (hb1.mono (by omega)))
  have hz1 := hb1.size
  clear hb1 htr
  obtain ⟨mb, hmb⟩ : ∃ mb, mb = manB au sq pv vec es sg := ⟨_, rfl⟩
  rw [← hmb] at HM HM2 HL ⊢
  have HMe := Lib.hid hmb.symm
  clear hmb
  cases mb with
  | false =>
    have HL0 := Lib.hid (show L = [] from HL.out)
    go_wp2_with fail
    go_ret2
    exact ⟨none, 0, by rw [HL0.out, HMe.out]; rfl, by rw [HL0.out]; exact fun h => absurd h (by simp), HB1.out.alloc (by omega) _⟩
  | true =>
  obtain ⟨hvx, hne, hev⟩ := HTr.out (HM.out rfl)
  have hs8 := (HM2.out rfl).2.2.2.2.2.2.1
  subst hne
  subst hvx
  have HEv := Lib.hid hev
  have HL0 := Lib.hid (show L = bdV au sq pv [x0, x1, x2, x3] es from HL.out)
  clear hev HTr HM HM2 HL
  go_wp2_with fail
  obtain ⟨W2, hW2⟩ : ∃ W2, W2 = w1.alloc (.cells #[.int .i64 au, .int .i64 sq, .int .i64 pv, .int .i64 x0, .int .i64 x1, .int .i64 x2, .int .i64 x3, .slice A' es.length c', .int .i64 sg] 107) := ⟨_, rfl⟩
  have hb2 : Below w1.heap.size w1 W2 := by rw [hW2]; exact (Below.refl _ _).alloc (Nat.le_refl _) _
  have hz2 := hb2.size
  have HB2 := Lib.hid (HB1.out.trans (hb2.mono (by omega)))
  have HEv2 := Lib.hid (((HEv.out.below hb2).low (Nat.zero_le _)).mono hz2)
  rw [← hW2]
  clear hW2 hb2 HEv
  refine (bodyEnc_any au sq pv x0 x1 x2 x3 A' es c' W2 HEv2.out (by omega) hbk).mono ?_
  rintro e w3 ⟨v3, rfl, hr3, hb3⟩
  obtain ⟨A3, c3, rfl, hfr⟩ := hr3.fr
  have hz3 := hb3.size
  have HFr := Lib.hid hfr
  have HB3 := Lib.hid (HB2.out.trans (hb3.mono (by omega)))
  rw [← HL0.out] at HFr ⊢
  clear hr3 hfr hb3
  go_wp2_with fail
  go_ret2
  exact ⟨A3, c3, by rw [HMe.out]; rfl, HFr.out.low (by omega), HB3.out⟩

end Go.Proofs.Ytblmhhijgdkkoaa
