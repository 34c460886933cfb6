/-
  The draw's term.
-/
import Derived.Test.YtkmoihkpaccbdaaDoorCu
import Derived.Lib.ConvBytes
import Derived.Maps.OwnIn
namespace Go.Proofs.YtkmoihkpaccbdaaDoor
open Go.RowKit Go.Maps

theorem Cur.set {w : World} {K : Nat} {code : List UInt8} (h : Cur w K code) {p : Addr} (hp : K < p.block) (v : Value) : Cur (w.setCell p v) K code := by
  obtain ⟨A, c, i, x, h1, h2, h3, h4, h5, h6, h7⟩ := h
  have hne : ∀ j, p ≠ (⟨K, j, none⟩ : Addr) := fun j e => by rw [e] at hp; exact Nat.lt_irrefl _ hp
  exact ⟨A, c, i, x, h1, (World.cell?_setCell_other _ _ _ _ (hne 0)).trans h2, (World.cell?_setCell_other _ _ _ _ (hne 1)).trans h3, (World.cell?_setCell_other _ _ _ _ (hne 2)).trans h4, (World.frozen?_setCell _ _ _ _).trans h5, (World.frozen?_setCell _ _ _ _).trans h6,
    h7.keep fun q _ hq => World.cell?_setCell_other _ _ _ _ (fun e => by rw [e] at hp; omega)⟩

/-- A variable of four cells. -/
structure Bq (W : World) (g : Nat) (v0 v1 v2 v3 : Value) : Prop where
  c0 : W.cell? ⟨g, 0, none⟩ = some v0
  c1 : W.cell? ⟨g, 1, none⟩ = some v1
  c2 : W.cell? ⟨g, 2, none⟩ = some v2
  c3 : W.cell? ⟨g, 3, none⟩ = some v3
  f0 : W.frozen? ⟨g, 0, none⟩ = false
  f1 : W.frozen? ⟨g, 1, none⟩ = false
  f2 : W.frozen? ⟨g, 2, none⟩ = false
  f3 : W.frozen? ⟨g, 3, none⟩ = false

section
variable {W W' : World} {g K B : Nat} {v0 v1 v2 v3 : Value}
theorem Bq.lt (h : Bq W g v0 v1 v2 v3) : g < W.heap.size := World.block_lt_of_cell? W _ h.c0
theorem Bq.off (h : Bq W g v0 v1 v2 v3) (ho : OffK K W W') (hne : g ≠ K) : Bq W' g v0 v1 v2 v3 :=
  ⟨(ho.cell (p := ⟨g, 0, none⟩) h.lt hne).trans h.c0, (ho.cell (p := ⟨g, 1, none⟩) h.lt hne).trans h.c1, (ho.cell (p := ⟨g, 2, none⟩) h.lt hne).trans h.c2, (ho.cell (p := ⟨g, 3, none⟩) h.lt hne).trans h.c3,
   (ho.frozen (p := ⟨g, 0, none⟩) h.lt hne).trans h.f0, (ho.frozen (p := ⟨g, 1, none⟩) h.lt hne).trans h.f1, (ho.frozen (p := ⟨g, 2, none⟩) h.lt hne).trans h.f2, (ho.frozen (p := ⟨g, 3, none⟩) h.lt hne).trans h.f3⟩
theorem Bq.below (h : Bq W g v0 v1 v2 v3) (hb : Below B W W') (hB : W.heap.size ≤ B) : Bq W' g v0 v1 v2 v3 :=
  have hlt := h.lt
  ⟨(hb.cell (p := ⟨g, 0, none⟩) (by show g < B; omega)).trans h.c0, (hb.cell (p := ⟨g, 1, none⟩) (by show g < B; omega)).trans h.c1, (hb.cell (p := ⟨g, 2, none⟩) (by show g < B; omega)).trans h.c2, (hb.cell (p := ⟨g, 3, none⟩) (by show g < B; omega)).trans h.c3,
   (hb.frozen (p := ⟨g, 0, none⟩) (by show g < B; omega)).trans h.f0, (hb.frozen (p := ⟨g, 1, none⟩) (by show g < B; omega)).trans h.f1, (hb.frozen (p := ⟨g, 2, none⟩) (by show g < B; omega)).trans h.f2, (hb.frozen (p := ⟨g, 3, none⟩) (by show g < B; omega)).trans h.f3⟩
theorem Bq.other (h : Bq W g v0 v1 v2 v3) {p : Addr} (hp : p.block ≠ g) (v : Value) : Bq (W.setCell p v) g v0 v1 v2 v3 := by
  have hne : ∀ j, p ≠ (⟨g, j, none⟩ : Addr) := fun j e => hp (by rw [e])
  exact ⟨(World.cell?_setCell_other _ _ _ _ (hne 0)).trans h.c0, (World.cell?_setCell_other _ _ _ _ (hne 1)).trans h.c1, (World.cell?_setCell_other _ _ _ _ (hne 2)).trans h.c2, (World.cell?_setCell_other _ _ _ _ (hne 3)).trans h.c3,
    (World.frozen?_setCell _ _ _ _).trans h.f0, (World.frozen?_setCell _ _ _ _).trans h.f1, (World.frozen?_setCell _ _ _ _).trans h.f2, (World.frozen?_setCell _ _ _ _).trans h.f3⟩
theorem Bq.set0 (h : Bq W g v0 v1 v2 v3) (u : Value) : Bq (W.setCell ⟨g, 0, none⟩ u) g u v1 v2 v3 :=
  ⟨World.cell?_setCell_same _ _ _ (by rw [h.c0]), (World.cell?_setCell_other _ _ _ _ (by simp)).trans h.c1, (World.cell?_setCell_other _ _ _ _ (by simp)).trans h.c2, (World.cell?_setCell_other _ _ _ _ (by simp)).trans h.c3, (World.frozen?_setCell _ _ _ _).trans h.f0, (World.frozen?_setCell _ _ _ _).trans h.f1, (World.frozen?_setCell _ _ _ _).trans h.f2, (World.frozen?_setCell _ _ _ _).trans h.f3⟩
theorem Bq.set1 (h : Bq W g v0 v1 v2 v3) (u : Value) : Bq (W.setCell ⟨g, 1, none⟩ u) g v0 u v2 v3 :=
  ⟨(World.cell?_setCell_other _ _ _ _ (by simp)).trans h.c0, World.cell?_setCell_same _ _ _ (by rw [h.c1]), (World.cell?_setCell_other _ _ _ _ (by simp)).trans h.c2, (World.cell?_setCell_other _ _ _ _ (by simp)).trans h.c3, (World.frozen?_setCell _ _ _ _).trans h.f0, (World.frozen?_setCell _ _ _ _).trans h.f1, (World.frozen?_setCell _ _ _ _).trans h.f2, (World.frozen?_setCell _ _ _ _).trans h.f3⟩
theorem Bq.set2 (h : Bq W g v0 v1 v2 v3) (u : Value) : Bq (W.setCell ⟨g, 2, none⟩ u) g v0 v1 u v3 :=
  ⟨(World.cell?_setCell_other _ _ _ _ (by simp)).trans h.c0, (World.cell?_setCell_other _ _ _ _ (by simp)).trans h.c1, World.cell?_setCell_same _ _ _ (by rw [h.c2]), (World.cell?_setCell_other _ _ _ _ (by simp)).trans h.c3, (World.frozen?_setCell _ _ _ _).trans h.f0, (World.frozen?_setCell _ _ _ _).trans h.f1, (World.frozen?_setCell _ _ _ _).trans h.f2, (World.frozen?_setCell _ _ _ _).trans h.f3⟩
theorem Bq.set3 (h : Bq W g v0 v1 v2 v3) (u : Value) : Bq (W.setCell ⟨g, 3, none⟩ u) g v0 v1 v2 u :=
  ⟨(World.cell?_setCell_other _ _ _ _ (by simp)).trans h.c0, (World.cell?_setCell_other _ _ _ _ (by simp)).trans h.c1, (World.cell?_setCell_other _ _ _ _ (by simp)).trans h.c2, World.cell?_setCell_same _ _ _ (by rw [h.c3]), (World.frozen?_setCell _ _ _ _).trans h.f0, (World.frozen?_setCell _ _ _ _).trans h.f1, (World.frozen?_setCell _ _ _ _).trans h.f2, (World.frozen?_setCell _ _ _ _).trans h.f3⟩
theorem Bq.new (w : World) (v0 v1 v2 v3 : Value) (t : TypeId) : Bq (w.alloc (.cells #[v0, v1, v2, v3] t)) w.heap.size v0 v1 v2 v3 :=
  ⟨by simp, by simp, by simp, by simp, by simp, by simp, by simp, by simp⟩
end

/-- A term as it is drawn. -/
structure SomeT (n : Nat) (t : Tm) : Prop where
  text : t.text.length ≤ 2
  kind : 0 ≤ t.kind ∧ t.kind < 7
  a : 0 ≤ t.a ∧ (t.a < 4 ∨ t.a < n)
  b : 0 ≤ t.b ∧ (t.b = 0 ∨ t.b < n)
  low : t.kind ≤ 1 → t.a < 4

/-- A term is drawn. -/
def NewSome (K : Nat) (code : List UInt8) (n : Nat) (w : World) (e : Ending) (w' : World) : Prop :=
  ∃ (t : Tm) (A : Option Addr) (c : Nat), e = .returned (.agg #[.int .i64 t.kind, .int .i64 t.a, .int .i64 t.b, .slice A t.text.length c]) ∧ SomeT n t ∧ BytesIn w' w.heap.size w'.heap.size A t.text ∧ (t.text.length ≤ c ∧ c ≤ maxLen) ∧ Cur w' K code ∧ OffK K w w'

theorem some_fin {K n : Nat} {code : List UInt8} {w W : World} (t : Tm) (A : Option Addr) (c : Nat) {u0 u1 u2 u3 : Value} (hC : Cur W K code) (hO : OffK K w W) (hK : K < w.heap.size) (hS : SomeT n t) (hB : BytesIn W (w.heap.size + 2) W.heap.size A t.text) (hc : t.text.length ≤ c ∧ c ≤ maxLen) :
    NewSome K code n w (.returned (.agg #[.int .i64 t.kind, .int .i64 t.a, .int .i64 t.b, .slice A t.text.length c])) ((((W.setCell ⟨w.heap.size + 1, 0, none⟩ u0).setCell ⟨w.heap.size + 1, 1, none⟩ u1).setCell ⟨w.heap.size + 1, 2, none⟩ u2).setCell ⟨w.heap.size + 1, 3, none⟩ u3) := by
  have hne : ∀ (p : Addr) j, w.heap.size + 2 ≤ p.block → (⟨w.heap.size + 1, j, none⟩ : Addr) ≠ p := fun p j h e => by
    rw [← e] at h
    simp at h
  refine ⟨t, A, c, rfl, hS, ?_, hc, (((hC.set (by show K < w.heap.size + 1; omega) _).set (by show K < w.heap.size + 1; omega) _).set (by show K < w.heap.size + 1; omega) _).set (by show K < w.heap.size + 1; omega) _, (((hO.setCell (.inr (by show w.heap.size ≤ w.heap.size + 1; omega)) _).setCell (.inr (by show w.heap.size ≤ w.heap.size + 1; omega)) _).setCell (.inr (by show w.heap.size ≤ w.heap.size + 1; omega)) _).setCell (.inr (by show w.heap.size ≤ w.heap.size + 1; omega)) _⟩
  refine BytesIn.mono (BytesIn.low (hB.keep fun p hp _ => ?_) (by omega)) (by simp)
  rw [World.cell?_setCell_other _ _ _ _ (hne p 3 hp), World.cell?_setCell_other _ _ _ _ (hne p 2 hp), World.cell?_setCell_other _ _ _ _ (hne p 1 hp), World.cell?_setCell_other _ _ _ _ (hne p 0 hp)]

theorem conv_drawn (w : World) (e : TypeId) (s : ByteArray) (l : List UInt8) (hs : s.data.toList = l) (L : Nat) (hL : L ≤ w.heap.size) : BytesIn (Lib.bytesWorld w e s) L (Lib.bytesWorld w e s).heap.size (some ⟨w.heap.size, 0, none⟩) l := fun hl => by
  refine ⟨w.heap.size, 0, rfl, hL, by rw [Lib.bytesWorld_size]; omega, fun j hj => ?_⟩
  have hsz : s.size = l.length := by rw [← hs]; rfl
  rw [Nat.zero_add, Lib.bytesWorld_cell w e s j (by omega), hs]
  simp [hj]
theorem conv_below (w : World) (e : TypeId) (s : ByteArray) : Below w.heap.size w (Lib.bytesWorld w e s) :=
  ⟨rfl, rfl, rfl, by rw [Lib.bytesWorld_size]; omega, fun j hj => Lib.bytesWorld_at_old w e s j hj⟩

set_option maxRecDepth 100000 in
set_option maxHeartbeats 1000000 in
theorem l1some_any (K : Nat) (code : List UInt8) (A : Option Addr) (n c : Nat) (w : World) (hC : Cur w K code) :
    Calls Tryd.prog 66 #[.pointer (some ⟨K, 0, none⟩), .agg #[.slice A n c]] w (NewSome K code n w) := by
  have HC := Lib.hid hC
  have hK := hC.lt
  clear hC
  go_enter Tryd.func66, Tryd.ntmps66
  go_wp2_with fail
  obtain ⟨W0, hW0⟩ : ∃ y, y = (w.alloc (.cells #[.slice A n c] 25)).alloc (.cells #[.int .i64 0, .int .i64 0, .int .i64 0, .slice none 0 0] 71) := ⟨_, rfl⟩
  have hb0 : Below w.heap.size w W0 := by rw [hW0]; exact ((Below.refl _ _).alloc (Nat.le_refl _) _).alloc (by simp) _
  have hq0 : Bq W0 (w.heap.size + 1) (.int .i64 0) (.int .i64 0) (.int .i64 0) (.slice none 0 0) := by
    rw [hW0]
    have := Bq.new (w.alloc (.cells #[.slice A n c] 25)) (.int .i64 0) (.int .i64 0) (.int .i64 0) (.slice none 0 0) 71
    simpa using this
  have hz0 : w.heap.size + 2 ≤ W0.heap.size := by rw [hW0]; simp
  rw [← hW0]
  clear hW0
  have HR0 := Lib.hid hq0
  have HO0 := Lib.hid (show OffK K w W0 from OffK.of_below hb0 (Nat.le_refl _))
  refine (l1Below_any K code 7 _ (HC.out.below hb0 hK)).mono ?_
  rintro e w1 ⟨x1, rfl, hx1, hc1, ho1⟩
  have hzA := ho1.size
  obtain ⟨W2, hW2⟩ : ∃ y, y = w1.alloc (.cells #[.int .i64 x1, .int .i64 0, .int .i64 0, .slice none 0 0] 71) := ⟨_, rfl⟩
  have hb2 : Below w1.heap.size w1 W2 := by rw [hW2]; exact (Below.refl _ _).alloc (Nat.le_refl _) _
  have HT := Lib.hid (show Bq W2 w1.heap.size (.int .i64 x1) (.int .i64 0) (.int .i64 0) (.slice none 0 0) by rw [hW2]; exact Bq.new _ _ _ _ _ _)
  have HR := Lib.hid ((HR0.out.off ho1 (by omega)).below hb2 (Nat.le_refl _))
  have HO := Lib.hid ((HO0.out.trans ho1 (.inl rfl)).below hb2)
  have hgK : K < w1.heap.size := by omega
  have HC2 := Lib.hid (hc1.below hb2 hgK)
  have hz2 : w1.heap.size < W2.heap.size := HT.out.lt
  have hx1a : 0 ≤ x1 ∧ x1 < 7 := ⟨hx1.1, hx1.2.1 (by omega)⟩
  obtain ⟨t0, t1, t2, t3, s0, s1, s2, s3⟩ := HT.out
  go_upto_region 5 with fail
  rw [← hW2]
  clear hW2
  clear hb0 hq0 HR0 HO0 HC hc1 ho1 hb2 hx1
  by_cases h1 : x1 ≤ 1
  · clear hx1a
    go_wp2_with fail
    refine (l1Below_any K code 2 _ HC2.out).mono ?_
    rintro e v1 ⟨y1, rfl, hy1, hc1, ho1⟩
    have hv1 := ho1.size
    have RT1 := Lib.hid (HT.out.off ho1 (by omega))
    have RR1 := Lib.hid (HR.out.off ho1 (by omega))
    have RO1 := Lib.hid (HO.out.trans ho1 (.inl rfl))
    have RC1 := Lib.hid hc1
    clear t0 t1 t2 t3 s0 s1 s2 s3 hc1 ho1
    obtain ⟨t0_1, t1_1, t2_1, t3_1, s0_1, s1_1, s2_1, s3_1⟩ := RT1.out
    go_wp2_with fail
    obtain ⟨Z1, hZ1⟩ : ∃ y, y = v1.setCell ⟨w1.heap.size, 0, none⟩ (.int .i64 y1) := ⟨_, rfl⟩
    have ST1 := Lib.hid (show Bq Z1 w1.heap.size (.int .i64 y1) (.int .i64 0) (.int .i64 0) (.slice none 0 0) by rw [hZ1]; exact RT1.out.set0 _)
    have SR1 := Lib.hid (show Bq Z1 (w.heap.size + 1) (.int .i64 0) (.int .i64 0) (.int .i64 0) (.slice none 0 0) by rw [hZ1]; exact RR1.out.other (by show w1.heap.size ≠ w.heap.size + 1; omega) _)
    have SO1 := Lib.hid (show OffK K w Z1 by rw [hZ1]; exact RO1.out.setCell (.inr (by show w.heap.size ≤ w1.heap.size; omega)) _)
    have SC1 := Lib.hid (show Cur Z1 K code by rw [hZ1]; exact RC1.out.set hgK _)
    have hs1 : v1.heap.size ≤ Z1.heap.size := by rw [hZ1]; simp
    rw [← hZ1]
    clear hZ1 t0_1 t1_1 t2_1 t3_1 s0_1 s1_1 s2_1 s3_1
    refine (l1Below_any K code 4 _ SC1.out).mono ?_
    rintro e v2 ⟨y2, rfl, hy2, hc2, ho2⟩
    have hv2 := ho2.size
    have RT2 := Lib.hid (ST1.out.off ho2 (by omega))
    have RR2 := Lib.hid (SR1.out.off ho2 (by omega))
    have RO2 := Lib.hid (SO1.out.trans ho2 (.inl rfl))
    have RC2 := Lib.hid hc2
    clear  hc2 ho2
    obtain ⟨t0_2, t1_2, t2_2, t3_2, s0_2, s1_2, s2_2, s3_2⟩ := RT2.out
    obtain ⟨r0, r1, r2, r3, p0, p1, p2, p3⟩ := RR2.out
    go_wp2_with fail
    refine bodyPost_ret (v := .agg #[.int .i64 y1, .int .i64 y2, .int .i64 0, .slice none 0 0]) (by simp [results, Tryd.results66, go_sem, *]) rfl ?_
    exact some_fin ⟨y1, y2, 0, []⟩ none 0 (RC2.out.set hgK _) (RO2.out.setCell (.inr (by show w.heap.size ≤ w1.heap.size; omega)) _) hK ⟨by simp, ⟨hy1.1, by have := hy1.2.1 (by omega); show y1 < 7; omega⟩, ⟨hy2.1, .inl (hy2.2.1 (by omega))⟩, ⟨Int.le_refl _, .inl rfl⟩, fun _ => hy2.2.1 (by omega)⟩ (fun h => absurd h (by simp)) ⟨Nat.le_refl _, by unfold maxLen; omega⟩
  · by_cases hn : n = 0
    · have h1b : (x1 ≤ 1) = False := by simp [h1]
      clear h1b
      go_wp2_with fail
      refine (l1Below_any K code 2 _ HC2.out).mono ?_
      rintro e v1 ⟨y1, rfl, hy1, hc1, ho1⟩
      have hv1 := ho1.size
      have RT1 := Lib.hid (HT.out.off ho1 (by omega))
      have RR1 := Lib.hid (HR.out.off ho1 (by omega))
      have RO1 := Lib.hid (HO.out.trans ho1 (.inl rfl))
      have RC1 := Lib.hid hc1
      clear t0 t1 t2 t3 s0 s1 s2 s3 hc1 ho1
      obtain ⟨t0_1, t1_1, t2_1, t3_1, s0_1, s1_1, s2_1, s3_1⟩ := RT1.out
      go_wp2_with fail
      obtain ⟨Z1, hZ1⟩ : ∃ y, y = v1.setCell ⟨w1.heap.size, 0, none⟩ (.int .i64 y1) := ⟨_, rfl⟩
      have ST1 := Lib.hid (show Bq Z1 w1.heap.size (.int .i64 y1) (.int .i64 0) (.int .i64 0) (.slice none 0 0) by rw [hZ1]; exact RT1.out.set0 _)
      have SR1 := Lib.hid (show Bq Z1 (w.heap.size + 1) (.int .i64 0) (.int .i64 0) (.int .i64 0) (.slice none 0 0) by rw [hZ1]; exact RR1.out.other (by show w1.heap.size ≠ w.heap.size + 1; omega) _)
      have SO1 := Lib.hid (show OffK K w Z1 by rw [hZ1]; exact RO1.out.setCell (.inr (by show w.heap.size ≤ w1.heap.size; omega)) _)
      have SC1 := Lib.hid (show Cur Z1 K code by rw [hZ1]; exact RC1.out.set hgK _)
      have hs1 : v1.heap.size ≤ Z1.heap.size := by rw [hZ1]; simp
      rw [← hZ1]
      clear hZ1 t0_1 t1_1 t2_1 t3_1 s0_1 s1_1 s2_1 s3_1
      refine (l1Below_any K code 4 _ SC1.out).mono ?_
      rintro e v2 ⟨y2, rfl, hy2, hc2, ho2⟩
      have hv2 := ho2.size
      have RT2 := Lib.hid (ST1.out.off ho2 (by omega))
      have RR2 := Lib.hid (SR1.out.off ho2 (by omega))
      have RO2 := Lib.hid (SO1.out.trans ho2 (.inl rfl))
      have RC2 := Lib.hid hc2
      clear  hc2 ho2
      obtain ⟨t0_2, t1_2, t2_2, t3_2, s0_2, s1_2, s2_2, s3_2⟩ := RT2.out
      obtain ⟨r0, r1, r2, r3, p0, p1, p2, p3⟩ := RR2.out
      go_wp2_with fail
      refine bodyPost_ret (v := .agg #[.int .i64 y1, .int .i64 y2, .int .i64 0, .slice none 0 0]) (by simp [results, Tryd.results66, go_sem, *]) rfl ?_
      exact some_fin ⟨y1, y2, 0, []⟩ none 0 (RC2.out.set hgK _) (RO2.out.setCell (.inr (by show w.heap.size ≤ w1.heap.size; omega)) _) hK ⟨by simp, ⟨hy1.1, by have := hy1.2.1 (by omega); show y1 < 7; omega⟩, ⟨hy2.1, .inl (hy2.2.1 (by omega))⟩, ⟨Int.le_refl _, .inl rfl⟩, fun _ => hy2.2.1 (by omega)⟩ (fun h => absurd h (by simp)) ⟨Nat.le_refl _, by unfold maxLen; omega⟩
    · by_cases h2 : x1 = 2
      · subst h2
        go_wp2_with fail
        obtain ⟨Wd, hWd⟩ : ∃ y, y = W2.alloc (.cells #[.string ⟨#[]⟩, .string ⟨#[97]⟩, .string ⟨#[98, 99]⟩] 9) := ⟨_, rfl⟩
        have hbd : Below W2.heap.size W2 Wd := by rw [hWd]; exact (Below.refl _ _).alloc (Nat.le_refl _) _
        have hzd : W2.heap.size < Wd.heap.size := by rw [hWd]; simp
        have e0 : Wd.cell? ⟨W2.heap.size, 0, none⟩ = some (.string ⟨#[]⟩) := by rw [hWd]; simp
        have e1 : Wd.cell? ⟨W2.heap.size, 1, none⟩ = some (.string ⟨#[97]⟩) := by rw [hWd]; simp
        have e2 : Wd.cell? ⟨W2.heap.size, 2, none⟩ = some (.string ⟨#[98, 99]⟩) := by rw [hWd]; simp
        rw [← hWd]
        refine (l1Below_any K code 3 _ (HC2.out.below hbd (by omega))).mono ?_
        rintro e v1 ⟨y1, rfl, hy1, hc1, ho1⟩
        have hv1 := ho1.size
        have q0 := (ho1.cell (p := ⟨W2.heap.size, 0, none⟩) hzd (by show W2.heap.size ≠ K; omega)).trans e0
        have q1 := (ho1.cell (p := ⟨W2.heap.size, 1, none⟩) hzd (by show W2.heap.size ≠ K; omega)).trans e1
        have q2 := (ho1.cell (p := ⟨W2.heap.size, 2, none⟩) hzd (by show W2.heap.size ≠ K; omega)).trans e2
        have RT1 := Lib.hid ((HT.out.below hbd (Nat.le_refl _)).off ho1 (by omega))
        have RR1 := Lib.hid ((HR.out.below hbd (Nat.le_refl _)).off ho1 (by omega))
        have RO1 := Lib.hid ((HO.out.below hbd).trans ho1 (.inl rfl))
        have RC1 := Lib.hid hc1
        have hy : y1 = 0 ∨ y1 = 1 ∨ y1 = 2 := by have := hy1.2.1 (by omega); omega
        clear t0 t1 t2 t3 s0 s1 s2 s3 hc1 ho1 hWd hbd e0 e1 e2
        rcases hy with rfl | rfl | rfl
        · have hcv := Lib.run_convert_string_bytes (P := Tryd.prog) v1 9 22 5 ⟨#[]⟩ Tryd.underlying9 Tryd.underlying22 Tryd.underlying5
          obtain ⟨W5, hW5⟩ : ∃ y, y = Lib.bytesWorld v1 5 ⟨#[]⟩ := ⟨_, rfl⟩
          obtain ⟨gc, hgc⟩ : ∃ y, y = grownCap v1 (ByteArray.size ⟨#[]⟩) 0 5 := ⟨_, rfl⟩
          have hgb : 0 ≤ gc ∧ gc ≤ maxLen := by
            rw [hgc]
            exact ⟨grownCap_ge v1 0 0 5, grownCap_le_maxLen v1 0 0 5 (by unfold maxLen; omega)⟩
          rw [← hW5, ← hgc, show ByteArray.size ⟨#[]⟩ = 0 from rfl] at hcv
          have hb5 : Below v1.heap.size v1 W5 := by rw [hW5]; exact conv_below _ _ _
          have HB := Lib.hid (show BytesIn W5 v1.heap.size W5.heap.size (some ⟨v1.heap.size, 0, none⟩) [] by rw [hW5]; exact conv_drawn v1 _ _ _ rfl _ (Nat.le_refl _))
          obtain ⟨t0_1, t1_1, t2_1, t3_1, s0_1, s1_1, s2_1, s3_1⟩ := RT1.out.below hb5 (Nat.le_refl _)
          obtain ⟨r0, r1, r2, r3, p0, p1, p2, p3⟩ := RR1.out.below hb5 (Nat.le_refl _)
          have RO5 := Lib.hid (RO1.out.below hb5)
          have RC5 := Lib.hid (RC1.out.below hb5 (by omega))
          have HG := Lib.hid hgb
          clear hW5 hgc hb5 hgb
          go_wp2_with fail
          refine bodyPost_ret (v := .agg #[.int .i64 2, .int .i64 0, .int .i64 0, .slice (some ⟨v1.heap.size, 0, none⟩) 0 gc]) (by simp [results, Tryd.results66, go_sem, *]) rfl ?_
          refine some_fin ⟨2, 0, 0, []⟩ (some ⟨v1.heap.size, 0, none⟩) gc (RC5.out.set hgK _) (RO5.out.setCell (.inr (by show w.heap.size ≤ w1.heap.size; omega)) _) hK ⟨by simp, ⟨by decide, by decide⟩, ⟨by decide, .inl (by decide)⟩, ⟨by decide, .inl rfl⟩, fun _ => by decide⟩ ?_ HG.out
          refine BytesIn.mono (BytesIn.low (HB.out.keep fun p hp _ => World.cell?_setCell_other _ _ _ _ (fun e => by rw [← e] at hp; have : v1.heap.size ≤ w1.heap.size := hp; omega)) (by omega)) (by simp)
        · have hcv := Lib.run_convert_string_bytes (P := Tryd.prog) v1 9 22 5 ⟨#[97]⟩ Tryd.underlying9 Tryd.underlying22 Tryd.underlying5
          obtain ⟨W5, hW5⟩ : ∃ y, y = Lib.bytesWorld v1 5 ⟨#[97]⟩ := ⟨_, rfl⟩
          obtain ⟨gc, hgc⟩ : ∃ y, y = grownCap v1 (ByteArray.size ⟨#[97]⟩) 0 5 := ⟨_, rfl⟩
          have hgb : 1 ≤ gc ∧ gc ≤ maxLen := by
            rw [hgc]
            exact ⟨grownCap_ge v1 1 0 5, grownCap_le_maxLen v1 1 0 5 (by unfold maxLen; omega)⟩
          rw [← hW5, ← hgc, show ByteArray.size ⟨#[97]⟩ = 1 from rfl] at hcv
          have hb5 : Below v1.heap.size v1 W5 := by rw [hW5]; exact conv_below _ _ _
          have HB := Lib.hid (show BytesIn W5 v1.heap.size W5.heap.size (some ⟨v1.heap.size, 0, none⟩) [97] by rw [hW5]; exact conv_drawn v1 _ _ _ rfl _ (Nat.le_refl _))
          obtain ⟨t0_1, t1_1, t2_1, t3_1, s0_1, s1_1, s2_1, s3_1⟩ := RT1.out.below hb5 (Nat.le_refl _)
          obtain ⟨r0, r1, r2, r3, p0, p1, p2, p3⟩ := RR1.out.below hb5 (Nat.le_refl _)
          have RO5 := Lib.hid (RO1.out.below hb5)
          have RC5 := Lib.hid (RC1.out.below hb5 (by omega))
          have HG := Lib.hid hgb
          clear hW5 hgc hb5 hgb
          go_wp2_with fail
          refine bodyPost_ret (v := .agg #[.int .i64 2, .int .i64 0, .int .i64 0, .slice (some ⟨v1.heap.size, 0, none⟩) 1 gc]) (by simp [results, Tryd.results66, go_sem, *]) rfl ?_
          refine some_fin ⟨2, 0, 0, [97]⟩ (some ⟨v1.heap.size, 0, none⟩) gc (RC5.out.set hgK _) (RO5.out.setCell (.inr (by show w.heap.size ≤ w1.heap.size; omega)) _) hK ⟨by simp, ⟨by decide, by decide⟩, ⟨by decide, .inl (by decide)⟩, ⟨by decide, .inl rfl⟩, fun _ => by decide⟩ ?_ HG.out
          refine BytesIn.mono (BytesIn.low (HB.out.keep fun p hp _ => World.cell?_setCell_other _ _ _ _ (fun e => by rw [← e] at hp; have : v1.heap.size ≤ w1.heap.size := hp; omega)) (by omega)) (by simp)
        · have hcv := Lib.run_convert_string_bytes (P := Tryd.prog) v1 9 22 5 ⟨#[98, 99]⟩ Tryd.underlying9 Tryd.underlying22 Tryd.underlying5
          obtain ⟨W5, hW5⟩ : ∃ y, y = Lib.bytesWorld v1 5 ⟨#[98, 99]⟩ := ⟨_, rfl⟩
          obtain ⟨gc, hgc⟩ : ∃ y, y = grownCap v1 (ByteArray.size ⟨#[98, 99]⟩) 0 5 := ⟨_, rfl⟩
          have hgb : 2 ≤ gc ∧ gc ≤ maxLen := by
            rw [hgc]
            exact ⟨grownCap_ge v1 2 0 5, grownCap_le_maxLen v1 2 0 5 (by unfold maxLen; omega)⟩
          rw [← hW5, ← hgc, show ByteArray.size ⟨#[98, 99]⟩ = 2 from rfl] at hcv
          have hb5 : Below v1.heap.size v1 W5 := by rw [hW5]; exact conv_below _ _ _
          have HB := Lib.hid (show BytesIn W5 v1.heap.size W5.heap.size (some ⟨v1.heap.size, 0, none⟩) [98, 99] by rw [hW5]; exact conv_drawn v1 _ _ _ rfl _ (Nat.le_refl _))
          obtain ⟨t0_1, t1_1, t2_1, t3_1, s0_1, s1_1, s2_1, s3_1⟩ := RT1.out.below hb5 (Nat.le_refl _)
          obtain ⟨r0, r1, r2, r3, p0, p1, p2, p3⟩ := RR1.out.below hb5 (Nat.le_refl _)
          have RO5 := Lib.hid (RO1.out.below hb5)
          have RC5 := Lib.hid (RC1.out.below hb5 (by omega))
          have HG := Lib.hid hgb
          clear hW5 hgc hb5 hgb
          go_wp2_with fail
          refine bodyPost_ret (v := .agg #[.int .i64 2, .int .i64 0, .int .i64 0, .slice (some ⟨v1.heap.size, 0, none⟩) 2 gc]) (by simp [results, Tryd.results66, go_sem, *]) rfl ?_
          refine some_fin ⟨2, 0, 0, [98, 99]⟩ (some ⟨v1.heap.size, 0, none⟩) gc (RC5.out.set hgK _) (RO5.out.setCell (.inr (by show w.heap.size ≤ w1.heap.size; omega)) _) hK ⟨by simp, ⟨by decide, by decide⟩, ⟨by decide, .inl (by decide)⟩, ⟨by decide, .inl rfl⟩, fun _ => by decide⟩ ?_ HG.out
          refine BytesIn.mono (BytesIn.low (HB.out.keep fun p hp _ => World.cell?_setCell_other _ _ _ _ (fun e => by rw [← e] at hp; have : v1.heap.size ≤ w1.heap.size := hp; omega)) (by omega)) (by simp)
      · by_cases h4 : x1 = 4
        · have h4' := h4
          go_wp2_with fail
          refine (l1Below_any K code n _ HC2.out).mono ?_
          rintro e v1 ⟨y1, rfl, hy1, hc1, ho1⟩
          have hv1 := ho1.size
          have RT1 := Lib.hid (HT.out.off ho1 (by omega))
          have RR1 := Lib.hid (HR.out.off ho1 (by omega))
          have RO1 := Lib.hid (HO.out.trans ho1 (.inl rfl))
          have RC1 := Lib.hid hc1
          clear t0 t1 t2 t3 s0 s1 s2 s3 hc1 ho1
          obtain ⟨t0_1, t1_1, t2_1, t3_1, s0_1, s1_1, s2_1, s3_1⟩ := RT1.out
          obtain ⟨r0, r1, r2, r3, p0, p1, p2, p3⟩ := RR1.out
          go_wp2_with fail
          refine bodyPost_ret (v := .agg #[.int .i64 x1, .int .i64 y1, .int .i64 0, .slice none 0 0]) (by simp [results, Tryd.results66, go_sem, *]) rfl ?_
          exact some_fin ⟨x1, y1, 0, []⟩ none 0 (RC1.out.set hgK _) (RO1.out.setCell (.inr (by show w.heap.size ≤ w1.heap.size; omega)) _) hK ⟨by simp, hx1a, ⟨hy1.1, .inr (hy1.2.1 (by omega))⟩, ⟨Int.le_refl _, .inl rfl⟩, fun h => absurd (show x1 ≤ 1 from h) (by omega)⟩ (fun h => absurd h (by simp)) ⟨Nat.le_refl _, by unfold maxLen; omega⟩
        · have h4' := h4
          go_wp2_with fail
          refine (l1Below_any K code n _ HC2.out).mono ?_
          rintro e v1 ⟨y1, rfl, hy1, hc1, ho1⟩
          have hv1 := ho1.size
          have RT1 := Lib.hid (HT.out.off ho1 (by omega))
          have RR1 := Lib.hid (HR.out.off ho1 (by omega))
          have RO1 := Lib.hid (HO.out.trans ho1 (.inl rfl))
          have RC1 := Lib.hid hc1
          clear t0 t1 t2 t3 s0 s1 s2 s3 hc1 ho1
          obtain ⟨t0_1, t1_1, t2_1, t3_1, s0_1, s1_1, s2_1, s3_1⟩ := RT1.out
          go_wp2_with fail
          obtain ⟨Z1, hZ1⟩ : ∃ y, y = v1.setCell ⟨w1.heap.size, 1, none⟩ (.int .i64 y1) := ⟨_, rfl⟩
          have ST1 := Lib.hid (show Bq Z1 w1.heap.size (.int .i64 x1) (.int .i64 y1) (.int .i64 0) (.slice none 0 0) by rw [hZ1]; exact RT1.out.set1 _)
          have SR1 := Lib.hid (show Bq Z1 (w.heap.size + 1) (.int .i64 0) (.int .i64 0) (.int .i64 0) (.slice none 0 0) by rw [hZ1]; exact RR1.out.other (by show w1.heap.size ≠ w.heap.size + 1; omega) _)
          have SO1 := Lib.hid (show OffK K w Z1 by rw [hZ1]; exact RO1.out.setCell (.inr (by show w.heap.size ≤ w1.heap.size; omega)) _)
          have SC1 := Lib.hid (show Cur Z1 K code by rw [hZ1]; exact RC1.out.set hgK _)
          have hs1 : v1.heap.size ≤ Z1.heap.size := by rw [hZ1]; simp
          rw [← hZ1]
          clear hZ1 t0_1 t1_1 t2_1 t3_1 s0_1 s1_1 s2_1 s3_1
          refine (l1Below_any K code n _ SC1.out).mono ?_
          rintro e v2 ⟨y2, rfl, hy2, hc2, ho2⟩
          have hv2 := ho2.size
          have RT2 := Lib.hid (ST1.out.off ho2 (by omega))
          have RR2 := Lib.hid (SR1.out.off ho2 (by omega))
          have RO2 := Lib.hid (SO1.out.trans ho2 (.inl rfl))
          have RC2 := Lib.hid hc2
          clear  hc2 ho2
          obtain ⟨t0_2, t1_2, t2_2, t3_2, s0_2, s1_2, s2_2, s3_2⟩ := RT2.out
          obtain ⟨r0, r1, r2, r3, p0, p1, p2, p3⟩ := RR2.out
          go_wp2_with fail
          refine bodyPost_ret (v := .agg #[.int .i64 x1, .int .i64 y1, .int .i64 y2, .slice none 0 0]) (by simp [results, Tryd.results66, go_sem, *]) rfl ?_
          exact some_fin ⟨x1, y1, y2, []⟩ none 0 (RC2.out.set hgK _) (RO2.out.setCell (.inr (by show w.heap.size ≤ w1.heap.size; omega)) _) hK ⟨by simp, hx1a, ⟨hy1.1, .inr (hy1.2.1 (by omega))⟩, ⟨hy2.1, .inr (hy2.2.1 (by omega))⟩, fun h => absurd (show x1 ≤ 1 from h) (by omega)⟩ (fun h => absurd h (by simp)) ⟨Nat.le_refl _, by unfold maxLen; omega⟩
end Go.Proofs.YtkmoihkpaccbdaaDoor
