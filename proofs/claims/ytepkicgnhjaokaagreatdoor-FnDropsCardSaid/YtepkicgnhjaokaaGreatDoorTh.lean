/-
  A tree and a name are drawn.
-/
import Derived.Test.YtepkicgnhjaokaaGreatDoorGTd
namespace Go.Proofs.YtepkicgnhjaokaaGreatDoor
open Go.RowKit Go.Maps

/-- A tree and a name, drawn. -/
def NewTn (w : World) (e : Ending) (w' : World) : Prop :=
  ∃ (t : Tt) (A : Option Addr) (l : List UInt8) (c : Nat), e = .returned (.tuple #[.agg #[.slice t.AV t.vec.length t.cv, .slice t.A t.es.length t.c], .slice A l.length c]) ∧ TdIn w' 0 t ∧ (l.length ≤ 24 ∧ BytesIn w' 0 w'.heap.size A l) ∧ Below w.heap.size w w'

set_option maxRecDepth 100000 in
set_option maxHeartbeats 4000000 in
theorem drawDrop_any (A : Option Addr) (c : Nat) (code : List UInt8) (w : World) (hA : BytesIn w 0 w.heap.size A code) (hn : code.length ≤ 9223372036854775807) :
    Calls Tryz.prog 17 #[.slice A code.length c] w (NewTn w) := by
  have HA := Lib.hid hA
  clear hA
  go_enter Tryz.func17, Tryz.ntmps17
  go_wp2_with fail
  obtain ⟨W0, hW0⟩ : ∃ x, x = w.alloc (.cells #[.slice none 0 0, .slice none 0 0] 26) := ⟨_, rfl⟩
  have hb0 : Below w.heap.size w W0 := by rw [hW0]; exact (Below.refl _ _).alloc (Nat.le_refl _) _
  have hz0 : w.heap.size < W0.heap.size := by rw [hW0]; simp
  have HR0 := Lib.hid (show Rs W0 w.heap.size w.heap.size from by
    obtain ⟨q0, q1, q2⟩ := two_new w (.slice none 0 0) (.slice none 0 0) 26
    rw [← hW0] at q0 q1 q2
    exact ⟨q0, q1, q0, q1, q2, q2⟩)
  have HB0 := Lib.hid hb0
  rw [← hW0]
  clear hW0 hb0
  refine (l1New_any A c code W0 ((HA.out.below HB0.out).mono (by omega)) hn).mono ?_
  rintro e w1 ⟨rfl, hc1, hb1⟩
  obtain ⟨K, hKe⟩ : ∃ K, K = W0.heap.size := ⟨_, rfl⟩
  have hKw : w.heap.size < K := by omega
  have HR1 := Lib.hid (HR0.out.off (K := W0.heap.size) (OffK.of_below hb1 (Nat.le_refl _)) hz0 hz0 (by omega) (by omega))
  have HB1 := Lib.hid (HB0.out.trans (hb1.mono (by omega)))
  rw [← hKe] at hc1 ⊢
  have HC1 := Lib.hid hc1
  have hz1 := hc1.lt
  clear hc1 hb1 hKe HR0 HB0 HA hz0
  go_wp2_with fail
  refine (l3bent_any K code w1 HC1.out).mono ?_
  rintro e w2 ⟨t, rfl, ht, hc2, ho2⟩
  have hz2 := ho2.size
  go_upto_region 3 with fail
  obtain ⟨W3, hW3⟩ : ∃ x, x = w2.alloc (.cells #[.slice t.AV t.vec.length t.cv, .slice t.A t.es.length t.c] 26) := ⟨_, rfl⟩
  have hb3 : Below w2.heap.size w2 W3 := by rw [hW3]; exact (Below.refl _ _).alloc (Nat.le_refl _) _
  obtain ⟨q0, q1, qf⟩ : W3.cell? ⟨w2.heap.size, 0, none⟩ = some (.slice t.AV t.vec.length t.cv) ∧ W3.cell? ⟨w2.heap.size, 1, none⟩ = some (.slice t.A t.es.length t.c) ∧ ∀ o, W3.frozen? ⟨w2.heap.size, o, none⟩ = false := by rw [hW3]; exact two_new _ _ _ _
  have ho3 := ho2.below hb3
  have lg : w2.heap.size < W3.heap.size := World.block_lt_of_cell? W3 _ q0
  have hz3 := hb3.size
  have HT3 := Lib.hid (show TdIn W3 (K + 1) t from (ht.below hb3).low (by omega))
  have HC3 := Lib.hid (hc2.below hb3 (by omega))
  have HR3 := Lib.hid (HR1.out.off ho3 (by omega) (by omega) (by omega) (by omega))
  have HB3 := Lib.hid (HB1.out.trans (ho3.low (by omega) (by omega)))
  rw [← hW3]
  have hgK : w2.heap.size ≠ K := by omega
  clear hW3 ht hc2 ho2 hb3 ho3 HR1 HB1 HC1 qf
  have HC3d := Lib.hid (show Cur W3.drew K code from HC3.out)
  go_region_law
    (first
      | (go_simp
         go_at_call 34
         first
           | with_reducible refine (l3name_any K code W3.drew HC3d.out).mono ?_
           | with_reducible refine (l3name_any K code W3 HC3.out).mono ?_
         rintro r w5 ⟨An, nm, cn, rfl, hnl, hnb, hc5, ho5'⟩
         have ho5 : OffK K W3 w5 := by first | with_reducible exact ho5' | with_reducible exact (OffK.refl K W3).drew.trans ho5' (.inl rfl)
         have HN5 := Lib.hid (show nm.length ≤ 24 ∧ BytesIn w5 (K + 1) w5.heap.size An nm from ⟨hnl.2, hnb.low (by show K + 1 ≤ W3.heap.size; omega)⟩)
         have hz5 := ho5.size
         have HT5 := Lib.hid (HT3.out.off ho5 (Nat.lt_succ_self K))
         have HR5 := Lib.hid (HR3.out.off ho5 (by omega) (by omega) (by omega) (by omega))
         have HB5 := Lib.hid (HB3.out.trans (ho5.low (by omega) (by omega)))
         have q05 := (ho5.cell (p := ⟨w2.heap.size, 0, none⟩) lg hgK).trans q0
         have q15 := (ho5.cell (p := ⟨w2.heap.size, 1, none⟩) lg hgK).trans q1
         have lg5 : w2.heap.size < w5.heap.size := by omega
         obtain ⟨ra0, ra1, _, _, rfa, _⟩ := HR5.out
         have rf0 := rfa 0
         have rf1 := rfa 1
         have lw5 : w.heap.size < w5.heap.size := by omega
         clear rfa hnl hnb hc5 ho5 ho5'
         go_wp2_with fail))
  all_goals
    have hg2 := two_get (v0 := .slice t.AV t.vec.length t.cv) (v1 := .slice t.A t.es.length t.c) ra0 ra1
    have HG := Lib.hid hg2
    clear hg2
    go_wp2_with fail
    obtain ⟨g0, g1⟩ := HG.out
    refine bodyPost_ret (v := .tuple #[.agg #[.slice t.AV t.vec.length t.cv, .slice t.A t.es.length t.c], .slice An nm.length cn]) (by simp [results, Tryz.results17, g0, g1, go_sem]) rfl ?_
    exact ⟨t, An, nm, cn, rfl, ((HT5.out.set (p := ⟨w.heap.size, 0, none⟩) (by show w.heap.size < K + 1; omega) _).set (p := ⟨w.heap.size, 1, none⟩) (by show w.heap.size < K + 1; omega) _).low (Nat.zero_le _), ⟨HN5.out.1, ((HN5.out.2.keep fun p h1 _ => (two_other (by omega)).1).low (Nat.zero_le _)).mono (by simp)⟩, (HB5.out.setCell (Nat.le_refl _) _).setCell (Nat.le_refl _) _⟩

end Go.Proofs.YtepkicgnhjaokaaGreatDoor
