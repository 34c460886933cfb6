/-
  The law on Intern, walked: it answers true, and turns nothing that was there.
-/
import Derived.Test.YtgogapgkgbffpaaSz
import Derived.Test.YtgogapgkgbffpaaTo
import Derived.Test.YtgogapgkgbffpaaEq
import Derived.Test.YtgogapgkgbffpaaLx
import Derived.Test.YtgogapgkgbffpaaInternI
import Derived.Deep.RegionHeld3
import Derived.Deep.CutRange
namespace Go.Proofs.Ytgogapgkgbffpaa
open Go.RowKit Go.Maps

theorem Lx.setb {A : Option Addr} {ts : List Tm} {c : Nat} {t : Tm} {A' : Option Addr} {c' : Nat} {w W : World} {b : Nat} (h : Lx A ts c t A' c' w W) (hb : w.heap.size + 2 ≤ b) (v : Value) : Lx A ts c t A' c' w (W.setCell ⟨b, 0, none⟩ v) := h.set hb v

theorem LedFr.mono {w : World} {L E E' : Nat} {A : Option Addr} {us : List Tx} (h : LedFr w L E A us) (hE : E ≤ E') : LedFr w L E' A us := fun hl => by
  obtain ⟨R, m, f, e, h1, h2, h3, h4, h5, h6⟩ := h hl
  exact ⟨R, m, f, e, h1, by omega, h3, h4, h5, h6.mono hE⟩

set_option maxRecDepth 100000 in
set_option maxHeartbeats 8000000 in
theorem lawIntern_any (A : Option Addr) (ts : List Tm) (c : Nat) (t : Tm) (A' : Option Addr) (c' : Nat) (w : World) (hA : TmsIn w 0 w.heap.size A ts) (hn : ts.length ≤ 9223372036854775807) (hA' : BytesIn w 0 w.heap.size A' t.text) (hn' : t.text.length ≤ 9223372036854775807) :
    Calls Try.prog 6 #[.agg #[.slice A ts.length c], .agg #[.int .i64 t.kind, .int .i64 t.a, .int .i64 t.b, .slice A' t.text.length c']] w fun e w' => e = .returned (.bool true) ∧ Below w.heap.size w w' := by
  have HA := Lib.hid hA
  have HA' := Lib.hid hA'
  clear hA hA'
  go_enter Try.func6, Try.ntmps6
  go_wp2_with fail
  obtain ⟨W0, hW0⟩ : ∃ W0, W0 = (w.alloc (.cells #[.slice A ts.length c] 24)).alloc (.cells #[.int .i64 t.kind, .int .i64 t.a, .int .i64 t.b, .slice A' t.text.length c'] 27) := ⟨_, rfl⟩
  have hb0 : Below w.heap.size w W0 := by rw [hW0]; exact ((Below.refl _ _).alloc (Nat.le_refl _) _).alloc (by simp) _
  have hz0 : W0.heap.size = w.heap.size + 2 := by rw [hW0]; simp
  have hbx : Bx W0 w.heap.size [.slice A ts.length c] := by rw [hW0]; exact (Bx.new' _ _ _ _ rfl).alloc (by simp) _
  have htb : Bx W0 (w.heap.size + 1) [.int .i64 t.kind, .int .i64 t.a, .int .i64 t.b, .slice A' t.text.length c'] := by
    have h := Bx.new' (w.alloc (.cells #[.slice A ts.length c] 24)) #[.int .i64 t.kind, .int .i64 t.a, .int .i64 t.b, .slice A' t.text.length c'] 27 [.int .i64 t.kind, .int .i64 t.a, .int .i64 t.b, .slice A' t.text.length c'] rfl
    rw [hW0]
    simpa using h
  have P0 : Lx A ts c t A' c' w W0 := ⟨hbx, htb, HA.out.keep fun p _ hp => hb0.cell hp, HA'.out.keep fun p _ hp => hb0.cell hp, hb0, by omega⟩
  rw [← hW0]
  clear hW0 hbx htb hb0
  refine (szLedger_any A ts c _ _ P0.tms hn (by omega) (by omega)).mono ?_
  rintro e w1 ⟨r, rfl, hsz, hb1⟩
  have P1 := P0.below hb1 P0.sz
  obtain ⟨b_1, t0_1, t1_1, t2_1, t3_1⟩ := P1.five
  have HP1 := Lib.hid P1
  have HSz := Lib.hid hsz
  clear P0 P1 hb1 hsz hz0
  by_cases hr : r < 0
  · go_wp2_with fail
    all_goals go_ret
    all_goals exact ⟨rfl, HP1.out.bel⟩
  · have hr' : 0 ≤ r := by omega
    have hrm : r ≤ 1048576 := by have := HSz.out; unfold SzOk at this; omega
    clear hr
    go_wp2_with fail
    refine (szTerm_any _ _ _ A' t.text.length c' r w1 hn' hr' hrm).mono ?_
    rintro e w2 ⟨r2, rfl, hsz2, hb2⟩
    have P2 := HP1.out.below hb2 HP1.out.sz
    obtain ⟨b_2, t0_2, t1_2, t2_2, t3_2⟩ := P2.five
    have HP2 := Lib.hid P2
    have HSz2 := Lib.hid hsz2
    clear P2 hb2 hsz2 b_1 t0_1 t1_1 t2_1 t3_1
    by_cases hr2 : r2 < 0
    · go_wp2_with fail
      all_goals go_ret
      all_goals exact ⟨rfl, HP2.out.bel⟩
    · have hr2' : 0 ≤ r2 := by omega
      have hall : ts.length + bulk ts + t.text.length ≤ 1048576 := by have h1 := HSz.out; have h2 := HSz2.out; unfold SzOk at h1 h2; omega
      have htl : t.text.length ≤ 1048576 := by omega
      obtain ⟨ls, hls⟩ : ∃ ls, ls = internL ts t := ⟨_, rfl⟩
      obtain ⟨ri, hri⟩ : ∃ ri, ri = internI ts t := ⟨_, rfl⟩
      have hlsz := internL_size ts t hall
      rw [← hls] at hlsz
      obtain ⟨hls1, hls2⟩ := hlsz
      have HLs := Lib.hid hls
      have HRi := Lib.hid hri
      clear hr2 hls hri hr' hrm
      have hs2 := HP2.out.sz
      go_upto_region 8 with fail
      clear hr2'
      go_cut [6, 7] from 27 to 34 (fun s6 s7 wx => ∃ (pb : Nat) (us : List Tx) (A0 : Option Addr) (c0 : Nat), s6 = .pointer (some ⟨pb, 0, none⟩) ∧ s7 = .int .i64 ri ∧ wx.cell? ⟨pb, 0, none⟩ = some (.slice A0 ls.length c0) ∧ us.map (·.t) = ls ∧ (∀ x ∈ us, x.t.text.length ≤ x.c ∧ x.c ≤ maxLen) ∧ LedFr wx w2.heap.size wx.heap.size A0 us ∧ Lx A ts c t A' c' w wx ∧ Below w2.heap.size w2 wx ∧ w2.heap.size ≤ pb ∧ pb < wx.heap.size)
      case first =>
        go_region_held3 (fun W => W.cell? ⟨w.heap.size, 0, none⟩ = some (.slice A ts.length c) ∧ W.cell? ⟨w.heap.size + 1, 0, none⟩ = some (.int .i64 t.kind) ∧ W.cell? ⟨w.heap.size + 1, 1, none⟩ = some (.int .i64 t.a) ∧ W.cell? ⟨w.heap.size + 1, 2, none⟩ = some (.int .i64 t.b) ∧ W.cell? ⟨w.heap.size + 1, 3, none⟩ = some (.slice A' t.text.length c'))
          (first | (refine Lx.five ?_; repeat first | with_reducible exact P5 | with_reducible exact P4 | with_reducible exact P3 | with_reducible exact HP2.out | with_reducible apply Lx.drew | with_reducible apply Lx.alloc | with_reducible refine Lx.setb ?_ (by omega) _))
          (first
            | (go_at_call 17
               refine (toLedger_nn A ts c _ (Lx.tms (by repeat first | with_reducible exact HP2.out | with_reducible apply Lx.drew | with_reducible apply Lx.alloc | with_reducible refine Lx.setb ?_ (by omega) _)) (by omega) (by omega)).mono ?_
               rintro e w3 ⟨g3, rfl, _, hg3, hcp3, hnn3, _, hb3⟩
               have P3 : Lx A ts c t A' c' w w3 := Lx.below (by repeat first | with_reducible exact HP2.out | with_reducible apply Lx.drew | with_reducible apply Lx.alloc | with_reducible refine Lx.setb ?_ (by omega) _) hb3 (Lx.sz (by repeat first | with_reducible exact HP2.out | with_reducible apply Lx.drew | with_reducible apply Lx.alloc | with_reducible refine Lx.setb ?_ (by omega) _))
               have hz3 : w2.heap.size ≤ w3.heap.size := by have := hb3.size; first | exact this | (simp at this; omega)
               have HB3 := Lib.hid (show Below w2.heap.size w2 w3 from Below.trans (by repeat first | with_reducible exact Below.refl _ _ | with_reducible apply Below.drew | with_reducible refine Below.alloc ?_ (by first | (simp; done) | omega | (simp; omega)) _) (hb3.mono (by first | (simp; done) | omega | (simp; omega))))
               have HC3 := Lib.hid hcp3
               have HN3 := Lib.hid hnn3
               try (obtain ⟨q3a1, q3a2⟩ : w3.cell? ⟨w2.heap.size, 0, none⟩ = some (.slice none 0 0) ∧ w3.frozen? ⟨w2.heap.size, 0, none⟩ = false
                    · constructor
                      · refine (hb3.cell (p := ⟨w2.heap.size, 0, none⟩) ?_).trans ?_
                        · (simp; done)
                        · (simp; done)
                      · refine (hb3.frozen (p := ⟨w2.heap.size, 0, none⟩) ?_).trans ?_
                        · (simp; done)
                        · (simp; done))
               clear hcp3 hnn3 hb3)
            | (go_at_call 18
               refine (toTerm_any _ _ _ A' t.text c' _ (Lx.txs (by repeat first | with_reducible exact P3 | with_reducible apply Lx.drew | with_reducible apply Lx.alloc | with_reducible refine Lx.setb ?_ (by omega) _)) htl).mono ?_
               rintro e w4 ⟨g4, rfl, _, _, hby4, hb4⟩
               have P4 : Lx A ts c t A' c' w w4 := Lx.below (by repeat first | with_reducible exact P3 | with_reducible apply Lx.drew | with_reducible apply Lx.alloc | with_reducible refine Lx.setb ?_ (by omega) _) hb4 (Lx.sz (by repeat first | with_reducible exact P3 | with_reducible apply Lx.drew | with_reducible apply Lx.alloc | with_reducible refine Lx.setb ?_ (by omega) _))
               have hb34 : Below w3.heap.size w3 w4 := Below.trans (by repeat first | with_reducible exact Below.refl _ _ | with_reducible apply Below.drew | with_reducible refine Below.alloc ?_ (by first | (simp; done) | omega | (simp; omega)) _) (hb4.mono (by first | (simp; done) | omega | (simp; omega)))
               have hz4 : w3.heap.size ≤ w4.heap.size := hb34.size
               have HB4 := Lib.hid (HB3.out.trans (hb34.mono (by omega)))
               have HC4 := Lib.hid (HC3.out.keep (fun p _ hp => hb34.cell (by omega)) hg3)
               have HN4 := Lib.hid (HN3.out.keep fun p hp => hb34.cell (by omega))
               have HY4 := Lib.hid (hby4.low (L' := 0) (Nat.zero_le _))
               try (obtain ⟨q4a1, q4a2⟩ : w4.cell? ⟨w2.heap.size, 0, none⟩ = some (.slice none 0 0) ∧ w4.frozen? ⟨w2.heap.size, 0, none⟩ = false
                    · exact ⟨(hb34.cell (World.block_lt_of_cell? w3 _ q3a1)).trans q3a1, (hb34.frozen (p := ⟨w2.heap.size, 0, none⟩) (World.block_lt_of_cell? w3 _ q3a1)).trans q3a2⟩)
               try (obtain ⟨q4b1, q4b2⟩ : w4.cell? ⟨w3.heap.size, 0, none⟩ = some (.slice none 0 0) ∧ w4.frozen? ⟨w3.heap.size, 0, none⟩ = false
                    · constructor
                      · refine (hb4.cell (p := ⟨w3.heap.size, 0, none⟩) ?_).trans ?_
                        · (simp; done)
                        · (simp; done)
                      · refine (hb4.frozen (p := ⟨w3.heap.size, 0, none⟩) ?_).trans ?_
                        · (simp; done)
                        · (simp; done))
               clear hby4 hb4 hb34)
            | (go_at_call 26
               have hW : ∀ W : World, Below w4.heap.size w4 W → Calls Try.prog 26 #[.agg #[.slice (some ⟨g3, 0, none⟩) ts.length ts.length], .agg #[.int .i64 t.kind, .int .i64 t.a, .int .i64 t.b, .slice (some ⟨g4, 0, none⟩) t.text.length t.text.length]] W (NewLedI ls ri W) := fun W hW => by
                 rw [HLs.out, HRi.out]
                 exact specIntern_any g3 w3.heap.size ts ts.length t g4 0 w4.heap.size W (HC4.out.keep (fun p _ hp => hW.cell (by omega)) hg3) (HN4.out.keep fun p hp => hW.cell (by omega)) hg3 (by have := hW.size; omega) (by omega) (by omega) (HY4.out.keep fun p _ hp => hW.cell (by omega)) hW.size htl
               refine (hW _ (by repeat first | with_reducible exact Below.refl _ _ | with_reducible apply Below.drew | with_reducible refine Below.alloc ?_ (by first | (simp; done) | omega | (simp; omega)) _)).mono ?_
               rintro e w5 ⟨us5, A5, c5, rfl, hus5, hbd5, hfr5, hb5⟩
               have P5 : Lx A ts c t A' c' w w5 := Lx.below (by repeat first | with_reducible exact P4 | with_reducible apply Lx.drew | with_reducible apply Lx.alloc | with_reducible refine Lx.setb ?_ (by omega) _) hb5 (Lx.sz (by repeat first | with_reducible exact P4 | with_reducible apply Lx.drew | with_reducible apply Lx.alloc | with_reducible refine Lx.setb ?_ (by omega) _))
               have hz5 : w4.heap.size ≤ w5.heap.size := by have := hb5.size; first | exact this | (simp at this; omega)
               have HFr5 := Lib.hid hfr5
               have hb45 : Below w4.heap.size w4 w5 := Below.trans (by repeat first | with_reducible exact Below.refl _ _ | with_reducible apply Below.drew | with_reducible refine Below.alloc ?_ (by first | (simp; done) | omega | (simp; omega)) _) (hb5.mono (by first | (simp; done) | omega | (simp; omega)))
               have HB5 := Lib.hid (HB4.out.trans (hb45.mono (by omega)))
               try (obtain ⟨q5a1, q5a2⟩ : w5.cell? ⟨w2.heap.size, 0, none⟩ = some (.slice none 0 0) ∧ w5.frozen? ⟨w2.heap.size, 0, none⟩ = false
                    · exact ⟨(hb45.cell (World.block_lt_of_cell? w4 _ q4a1)).trans q4a1, (hb45.frozen (p := ⟨w2.heap.size, 0, none⟩) (World.block_lt_of_cell? w4 _ q4a1)).trans q4a2⟩)
               try (obtain ⟨q5b1, q5b2⟩ : w5.cell? ⟨w3.heap.size, 0, none⟩ = some (.slice none 0 0) ∧ w5.frozen? ⟨w3.heap.size, 0, none⟩ = false
                    · exact ⟨(hb45.cell (World.block_lt_of_cell? w4 _ q4b1)).trans q4b1, (hb45.frozen (p := ⟨w3.heap.size, 0, none⟩) (World.block_lt_of_cell? w4 _ q4b1)).trans q4b2⟩)
               try (obtain ⟨q5c1, q5c2⟩ : w5.cell? ⟨w4.heap.size, 0, none⟩ = some (.slice none 0 0) ∧ w5.frozen? ⟨w4.heap.size, 0, none⟩ = false
                    · constructor
                      · refine (hb5.cell (p := ⟨w4.heap.size, 0, none⟩) ?_).trans ?_
                        · (simp; done)
                        · (simp; done)
                      · refine (hb5.frozen (p := ⟨w4.heap.size, 0, none⟩) ?_).trans ?_
                        · (simp; done)
                        · (simp; done))
               clear hW hfr5 hb5))

        all_goals go_wp2_with fail
        all_goals go_meet
        all_goals try (have l4a : w2.heap.size < w4.heap.size := World.block_lt_of_cell? w4 _ q4a1)
        all_goals try (have l4b : w3.heap.size < w4.heap.size := World.block_lt_of_cell? w4 _ q4b1)
        all_goals try (have l5a : w2.heap.size < w5.heap.size := World.block_lt_of_cell? w5 _ q5a1)
        all_goals try (have l5b : w3.heap.size < w5.heap.size := World.block_lt_of_cell? w5 _ q5b1)
        all_goals try (have l5c : w4.heap.size < w5.heap.size := World.block_lt_of_cell? w5 _ q5c1)
        all_goals refine ⟨_, us5, A5, c5, rfl, rfl, ?_, hus5, hbd5, ?_, ?_, ?_, ?_, ?_⟩
        all_goals first
          | (simp; done)
          | exact World.cell?_setCell_same _ _ _ q5a1
          | exact World.cell?_setCell_same _ _ _ q5b1
          | exact World.cell?_setCell_same _ _ _ q5c1
          | (refine LedFr.mono (LedFr.low (LedFr.alloc HFr5.out (Nat.le_refl _) _) ?_) ?_
             all_goals first | omega | (simp; done) | (simp; omega))
          | (refine LedFr.mono (LedFr.low (LedFr.set HFr5.out ?_ _) ?_) ?_
             all_goals first | omega | (simp; done) | (simp; omega))
          | (refine Lx.alloc P5 _)
          | (refine Lx.setb P5 ?_ _
             omega)
          | (refine Below.alloc HB5.out ?_ _
             omega)
          | (refine Below.setCell HB5.out ?_ _
             first | omega | (show w2.heap.size ≤ w2.heap.size; omega) | (show w2.heap.size ≤ w3.heap.size; omega) | (show w2.heap.size ≤ w4.heap.size; omega))
          | omega
          | (simp; done)
          | (rw [World.size_setCell]; omega)
          | (simp; omega)
      case rest =>
      obtain ⟨pb, us0, A0, c0, rfl, rfl, hpc, hus0, hbd0, hfr0, hP, hbw, hpb, hpb'⟩ := hcut
      rename World => v5
      have HPv5 := Lib.hid hP
      have HBv5 := Lib.hid (show Bx v5 pb [.slice A0 ls.length c0] from fun j hj => by
        have h0 : j = 0 := by simp at hj; omega
        subst h0
        exact hpc)
      have HWv5 := Lib.hid (hfr0.tms hus0 hbd0)
      have hsv : w.heap.size + 2 ≤ v5.heap.size := hP.sz
      have hs25 : w2.heap.size ≤ v5.heap.size := hbw.size
      have b_v := hP.bx.one
      clear hfr0 hP hbw hpc hus0 hbd0 us0 b_2 t0_2 t1_2 t2_2 t3_2
      have hcmp : (ri != ri) = false := by simp
      -- the program's arguments
      go_wp2_with fail
      refine (toLedger_nn A ts c v5 HPv5.out.tms (by omega) (by omega)).mono ?_
      rintro e w6 ⟨g6, rfl, hg6, hg6', hcp6, hnn6, hfz6, hb6⟩
      have hz6 := hb6.size
      have HCw6 := Lib.hid hcp6
      have HNw6 := Lib.hid hnn6
      have HFw6 := Lib.hid (fun (p : Addr) (hp : g6 ≤ p.block) (_ : p.block < w6.heap.size) => hfz6 p (by omega))
      have HPw6 := Lib.hid (HPv5.out.below hb6 HPv5.out.sz)
      have HBw6 := Lib.hid (HBv5.out.below hb6 (by omega))
      have HWw6 := Lib.hid (HWv5.out.below (hb6.mono (by omega)))
      obtain ⟨b_6, t_60, t_61, t_62, t_63⟩ := (HPw6.out.alloc (.cells #[.slice (some ⟨g6, 0, none⟩) ts.length ts.length] 33)).five
      clear hcp6 hnn6 hfz6 hb6 b_v HPv5 HBv5 HWv5
      go_wp2_with fail
      obtain ⟨w6a, hw6a⟩ : ∃ x, x = w6.alloc (.cells #[.slice (some ⟨g6, 0, none⟩) ts.length ts.length] 33) := ⟨_, rfl⟩
      have hbw6a : Below w6.heap.size w6 w6a := by rw [hw6a]; exact (Below.refl _ _).alloc (Nat.le_refl _) _
      have hzw6a : w6a.heap.size = w6.heap.size + 1 := by rw [hw6a]; simp
      have HXw6a := Lib.hid (show Bx w6a w6.heap.size [.slice (some ⟨g6, 0, none⟩) ts.length ts.length] by rw [hw6a]; exact Bx.new' _ _ _ _ rfl)
      have HPw6a := Lib.hid (HPw6.out.below hbw6a HPw6.out.sz)
      have HBw6a := Lib.hid (HBw6.out.below hbw6a (by omega))
      have HWw6a := Lib.hid (HWw6.out.below (hbw6a.mono (by omega)))
      have HCw6a := Lib.hid (HCw6.out.keep (fun p _ hp => hbw6a.cell (by omega)) hg6')
      have HNw6a := Lib.hid (HNw6.out.keep fun p hp => hbw6a.cell (by omega))
      have HFw6a := Lib.hid (fun (p : Addr) (hp : g6 ≤ p.block) (hpB : p.block < w6.heap.size) => (hbw6a.frozen (by omega)).trans (HFw6.out p hp hpB))
      rw [← hw6a]
      clear hw6a hbw6a b_6 t_60 t_61 t_62 t_63 HPw6 HBw6 HWw6 HCw6 HNw6 HFw6
      refine (toTerm_fr _ _ _ A' t.text c' w6a HPw6a.out.txs htl).mono ?_
      rintro e w7 ⟨g7, rfl, _, _, hby7, hfz7, hb7⟩
      have hz7 := hb7.size
      have HYw7 := Lib.hid (hby7.fr fun p hp _ => hfz7 p hp)
      have HPw7 := Lib.hid (HPw6a.out.below hb7 HPw6a.out.sz)
      have HBw7 := Lib.hid (HBw6a.out.below hb7 (by omega))
      have HWw7 := Lib.hid (HWw6a.out.below (hb7.mono (by omega)))
      have HCw7 := Lib.hid (HCw6a.out.keep (fun p _ hp => hb7.cell (by omega)) hg6')
      have HNw7 := Lib.hid (HNw6a.out.keep fun p hp => hb7.cell (by omega))
      have HFw7 := Lib.hid (fun (p : Addr) (hp : g6 ≤ p.block) (hpB : p.block < w6.heap.size) => (hb7.frozen (by omega)).trans (HFw6a.out p hp hpB))
      have HXw7 := Lib.hid (HXw6a.out.below hb7 (by omega))
      have x_7 := (HXw7.out.alloc (by omega) (.cells #[.int .i64 t.kind, .int .i64 t.a, .int .i64 t.b, .slice (some ⟨g7, 0, none⟩) t.text.length t.text.length] 35)).one
      clear hby7 hfz7 hb7 HPw6a HBw6a HWw6a HCw6a HNw6a HFw6a HXw6a
      go_wp2_with fail
      obtain ⟨w7a, hw7a⟩ : ∃ x, x = w7.alloc (.cells #[.int .i64 t.kind, .int .i64 t.a, .int .i64 t.b, .slice (some ⟨g7, 0, none⟩) t.text.length t.text.length] 35) := ⟨_, rfl⟩
      have hbw7a : Below w7.heap.size w7 w7a := by rw [hw7a]; exact (Below.refl _ _).alloc (Nat.le_refl _) _
      have hzw7a : w7a.heap.size = w7.heap.size + 1 := by rw [hw7a]; simp
      have HTw7a := Lib.hid (show Bx w7a w7.heap.size [.int .i64 t.kind, .int .i64 t.a, .int .i64 t.b, .slice (some ⟨g7, 0, none⟩) t.text.length t.text.length] by rw [hw7a]; exact Bx.new' _ _ _ _ rfl)
      have HPw7a := Lib.hid (HPw7.out.below hbw7a HPw7.out.sz)
      have HBw7a := Lib.hid (HBw7.out.below hbw7a (by omega))
      have HWw7a := Lib.hid (HWw7.out.below (hbw7a.mono (by omega)))
      have HCw7a := Lib.hid (HCw7.out.keep (fun p _ hp => hbw7a.cell (by omega)) hg6')
      have HNw7a := Lib.hid (HNw7.out.keep fun p hp => hbw7a.cell (by omega))
      have HFw7a := Lib.hid (fun (p : Addr) (hp : g6 ≤ p.block) (hpB : p.block < w6.heap.size) => (hbw7a.frozen (by omega)).trans (HFw7.out p hp hpB))
      have HXw7a := Lib.hid (HXw7.out.below hbw7a (by omega))
      have HYw7a := Lib.hid (HYw7.out.keep fun p _ hp => ⟨hbw7a.cell (by omega), hbw7a.frozen (by omega)⟩)
      rw [← hw7a]
      clear hw7a hbw7a x_7 HPw7 HBw7 HWw7 HCw7 HNw7 HFw7 HXw7 HYw7
      -- the program
      have himpl := implIntern_any g6 w6.heap.size ts ts.length t g7 w6a.heap.size w7.heap.size w7a HCw7a.out HNw7a.out hg6' (by omega) (by omega) (by omega) HYw7a.out.bytes (by omega) htl
      rw [← HLs.out, ← HRi.out] at himpl
      refine himpl.mono ?_
      rintro e w8 ⟨us8, A8, c8, rfl, hus8, hbd8, hfr8, hb8⟩
      have hz8 := hb8.size
      have HUs8 := Lib.hid hus8
      have HBd8 := Lib.hid hbd8
      have HGw8 := Lib.hid hfr8
      have HPw8 := Lib.hid (HPw7a.out.below hb8 HPw7a.out.sz)
      have HBw8 := Lib.hid (HBw7a.out.below hb8 (by omega))
      have HWw8 := Lib.hid (HWw7a.out.below (hb8.mono (by omega)))
      have HCw8 := Lib.hid (HCw7a.out.keep (fun p _ hp => hb8.cell (by omega)) hg6')
      have HFw8 := Lib.hid (fun (p : Addr) (hp : g6 ≤ p.block) (hpB : p.block < w6.heap.size) => (hb8.frozen (by omega)).trans (HFw7a.out p hp hpB))
      have HXw8 := Lib.hid (HXw7a.out.below hb8 (by omega))
      have HYw8 := Lib.hid (HYw7a.out.keep fun p _ hp => ⟨hb8.cell (by omega), hb8.frozen (by omega)⟩)
      have HTw8 := Lib.hid (HTw7a.out.below hb8 (by omega))
      have p_8 := (HBw8.out.alloc (by omega) (.cells #[.slice A8 ls.length c8] 33)).one
      clear himpl hus8 hbd8 hfr8 hb8 HPw7a HBw7a HWw7a HCw7a HNw7a HFw7a HXw7a HYw7a HTw7a
      go_wp2_with fail
      obtain ⟨w8a, hw8a⟩ : ∃ x, x = w8.alloc (.cells #[.slice A8 ls.length c8] 33) := ⟨_, rfl⟩
      have hbw8a : Below w8.heap.size w8 w8a := by rw [hw8a]; exact (Below.refl _ _).alloc (Nat.le_refl _) _
      have hzw8a : w8a.heap.size = w8.heap.size + 1 := by rw [hw8a]; simp
      have HG0w8a := Lib.hid (show Bx w8a w8.heap.size [.slice A8 ls.length c8] by rw [hw8a]; exact Bx.new' _ _ _ _ rfl)
      have HPw8a := Lib.hid (HPw8.out.below hbw8a HPw8.out.sz)
      have HBw8a := Lib.hid (HBw8.out.below hbw8a (by omega))
      have HWw8a := Lib.hid (HWw8.out.below (hbw8a.mono (by omega)))
      have HCw8a := Lib.hid (HCw8.out.keep (fun p _ hp => hbw8a.cell (by omega)) hg6')
      have HFw8a := Lib.hid (fun (p : Addr) (hp : g6 ≤ p.block) (hpB : p.block < w6.heap.size) => (hbw8a.frozen (by omega)).trans (HFw8.out p hp hpB))
      have HXw8a := Lib.hid (HXw8.out.below hbw8a (by omega))
      have HYw8a := Lib.hid (HYw8.out.keep fun p _ hp => ⟨hbw8a.cell (by omega), hbw8a.frozen (by omega)⟩)
      have HTw8a := Lib.hid (HTw8.out.below hbw8a (by omega))
      have HGw8a := Lib.hid (HGw8.out.keep fun b _ hb' => hbw8a.block b (by omega))
      rw [← hw8a]
      clear hw8a hbw8a p_8 HPw8 HBw8 HWw8 HCw8 HFw8 HXw8 HYw8 HTw8 HGw8
      refine (eqLedger_same A8 A0 ls c8 c0 w7a.heap.size w2.heap.size w8.heap.size v5.heap.size w8a (HGw8a.out.tms HUs8.out HBd8.out) HWw8a.out (by omega) (by omega) (by omega) hls2).mono ?_
      rintro e w9 ⟨rfl, hb9⟩
      have hz9 := hb9.size
      have HPw9 := Lib.hid (HPw8a.out.below hb9 HPw8a.out.sz)
      have HBw9 := Lib.hid (HBw8a.out.below hb9 (by omega))
      have HWw9 := Lib.hid (HWw8a.out.below (hb9.mono (by omega)))
      have HCw9 := Lib.hid (HCw8a.out.keep (fun p _ hp => hb9.cell (by omega)) hg6')
      have HFw9 := Lib.hid (fun (p : Addr) (hp : g6 ≤ p.block) (hpB : p.block < w6.heap.size) => (hb9.frozen (by omega)).trans (HFw8a.out p hp hpB))
      have HXw9 := Lib.hid (HXw8a.out.below hb9 (by omega))
      have HYw9 := Lib.hid (HYw8a.out.keep fun p _ hp => ⟨hb9.cell (by omega), hb9.frozen (by omega)⟩)
      have HTw9 := Lib.hid (HTw8a.out.below hb9 (by omega))
      have HGw9 := Lib.hid (HGw8a.out.keep fun b _ hb' => hb9.block b (by omega))
      have HG0w9 := Lib.hid (HG0w8a.out.below hb9 (by omega))
      have x_9 := HXw9.out.one
      have b_9 := HPw9.out.bx.one
      clear hb9 HPw8a HBw8a HWw8a HCw8a HFw8a HXw8a HYw8a HTw8a HGw8a HG0w8a
      go_wp2_with fail
      -- the arguments are as they were
      go_region_held3 (fun W => W.cell? ⟨w6.heap.size, 0, none⟩ = some (.slice (some ⟨g6, 0, none⟩) ts.length ts.length) ∧ W.cell? ⟨w.heap.size, 0, none⟩ = some (.slice A ts.length c))
        (first | exact ⟨x_9, b_9⟩ | exact ⟨x_10, b_10⟩ | exact ⟨x_11, b_11⟩)
        (first
          | (go_at_call 17
             refine (toLedger_any A ts c _ ?_ (by omega) (by omega)).mono ?_
             · exact HPw9.out.tms
             rintro e w10 ⟨n10, rfl, _, hts10, hb10⟩
             have hb910 : Below w9.heap.size w9 w10 := by first | exact hb10 | exact (Below.refl w9.heap.size w9).drew.trans hb10
             have x_10 := (hb910.cell (p := ⟨w6.heap.size, 0, none⟩) (by show w6.heap.size < w9.heap.size; omega)).trans x_9
             have b_10 := (hb910.cell (p := ⟨w.heap.size, 0, none⟩) (by show w.heap.size < w9.heap.size; omega)).trans b_9
             have hz10 : w9.heap.size ≤ w10.heap.size := hb910.size
             have HT10 := Lib.hid (show TmsIn w10 w9.heap.size w10.heap.size _ ts from hts10)
             have HB910 := Lib.hid hb910
             clear hts10 hb10 hb910)
          | (go_at_call 20
             refine (eqLedger_same _ _ ts _ _ g6 w9.heap.size w6.heap.size w10.heap.size _ ((HCw9.out.tms hg6').keep fun p _ hp => HB910.out.cell (by show p.block < w9.heap.size; omega)) HT10.out (by show w6.heap.size ≤ w10.heap.size; omega) (Nat.le_refl _) (by omega) (by omega)).mono ?_
             rintro e w11 ⟨rfl, hb11⟩
             have hb1011 : Below w10.heap.size w10 w11 := by first | exact hb11 | exact (Below.refl w10.heap.size w10).drew.trans hb11
             have x_11 := (hb1011.cell (p := ⟨w6.heap.size, 0, none⟩) (by show w6.heap.size < w10.heap.size; omega)).trans x_10
             have b_11 := (hb1011.cell (p := ⟨w.heap.size, 0, none⟩) (by show w.heap.size < w10.heap.size; omega)).trans b_10
             have hz11 : w10.heap.size ≤ w11.heap.size := hb1011.size
             have HB911 := Lib.hid (HB910.out.trans (hb1011.mono (by omega)))
             clear hb11 hb1011))
      have hb911 := HB911.out
      have HPw11 := Lib.hid (HPw9.out.below hb911 HPw9.out.sz)
      have HBw11 := Lib.hid (HBw9.out.below hb911 (by omega))
      have HWw11 := Lib.hid (HWw9.out.below (hb911.mono (by omega)))
      have HCw11 := Lib.hid (HCw9.out.keep (fun p _ hp => hb911.cell (by omega)) hg6')
      have HFw11 := Lib.hid (fun (p : Addr) (hp : g6 ≤ p.block) (hpB : p.block < w6.heap.size) => (hb911.frozen (by omega)).trans (HFw9.out p hp hpB))
      have HXw11 := Lib.hid (HXw9.out.below hb911 (by omega))
      have HYw11 := Lib.hid (HYw9.out.keep fun p _ hp => ⟨hb911.cell (by omega), hb911.frozen (by omega)⟩)
      have HTw11 := Lib.hid (HTw9.out.below hb911 (by omega))
      have HGw11 := Lib.hid (HGw9.out.keep fun b _ hb' => hb911.block b (by omega))
      have HG0w11 := Lib.hid (HG0w9.out.below hb911 (by omega))
      clear hb911 x_9 b_9 x_10 b_10 x_11 b_11 HB910 HB911 HT10 HPw9 HBw9 HWw9 HCw9 HFw9 HXw9 HYw9 HTw9 HGw9 HG0w9
      obtain ⟨y_110, y_111, y_112, y_113⟩ := HTw11.out.four
      obtain ⟨t_110, t_111, t_112, t_113⟩ := HPw11.out.tb.four
      go_wp2_with fail
      go_region_held3 (fun W => W.cell? ⟨w7.heap.size, 0, none⟩ = some (.int .i64 t.kind) ∧ W.cell? ⟨w7.heap.size, 1, none⟩ = some (.int .i64 t.a) ∧ W.cell? ⟨w7.heap.size, 2, none⟩ = some (.int .i64 t.b) ∧ W.cell? ⟨w7.heap.size, 3, none⟩ = some (.slice (some ⟨g7, 0, none⟩) t.text.length t.text.length) ∧ W.cell? ⟨w.heap.size + 1, 0, none⟩ = some (.int .i64 t.kind) ∧ W.cell? ⟨w.heap.size + 1, 1, none⟩ = some (.int .i64 t.a) ∧ W.cell? ⟨w.heap.size + 1, 2, none⟩ = some (.int .i64 t.b) ∧ W.cell? ⟨w.heap.size + 1, 3, none⟩ = some (.slice A' t.text.length c'))
        (first | exact ⟨y_110, y_111, y_112, y_113, t_110, t_111, t_112, t_113⟩ | exact ⟨y_120, y_121, y_122, y_123, t_120, t_121, t_122, t_123⟩ | exact ⟨y_130, y_131, y_132, y_133, t_130, t_131, t_132, t_133⟩)
        (first
          | (go_at_call 18
             refine (toTerm_any _ _ _ A' t.text c' _ ?_ htl).mono ?_
             · exact HPw11.out.txs
             rintro e w12 ⟨g12, rfl, _, _, hby12, hb12⟩
             have hb1112 : Below w11.heap.size w11 w12 := by first | exact hb12 | exact (Below.refl w11.heap.size w11).drew.trans hb12
             have hz12 : w11.heap.size ≤ w12.heap.size := hb1112.size
             have y_120 := (hb1112.cell (p := ⟨w7.heap.size, 0, none⟩) (by show w7.heap.size < w11.heap.size; omega)).trans y_110
             have t_120 := (hb1112.cell (p := ⟨w.heap.size + 1, 0, none⟩) (by show w.heap.size + 1 < w11.heap.size; omega)).trans t_110
             have y_121 := (hb1112.cell (p := ⟨w7.heap.size, 1, none⟩) (by show w7.heap.size < w11.heap.size; omega)).trans y_111
             have t_121 := (hb1112.cell (p := ⟨w.heap.size + 1, 1, none⟩) (by show w.heap.size + 1 < w11.heap.size; omega)).trans t_111
             have y_122 := (hb1112.cell (p := ⟨w7.heap.size, 2, none⟩) (by show w7.heap.size < w11.heap.size; omega)).trans y_112
             have t_122 := (hb1112.cell (p := ⟨w.heap.size + 1, 2, none⟩) (by show w.heap.size + 1 < w11.heap.size; omega)).trans t_112
             have y_123 := (hb1112.cell (p := ⟨w7.heap.size, 3, none⟩) (by show w7.heap.size < w11.heap.size; omega)).trans y_113
             have t_123 := (hb1112.cell (p := ⟨w.heap.size + 1, 3, none⟩) (by show w.heap.size + 1 < w11.heap.size; omega)).trans t_113
             have HY12 := Lib.hid (show BytesIn w12 w11.heap.size w12.heap.size _ t.text from hby12)
             have HB1112 := Lib.hid hb1112
             clear hby12 hb12 hb1112)
          | (go_at_call 21
             refine (eqTerm_same t.kind t.a t.b _ _ t.text _ _ w6a.heap.size w11.heap.size w7.heap.size w12.heap.size _ (HYw11.out.bytes.keep fun p _ hp => HB1112.out.cell (by show p.block < w11.heap.size; omega)) HY12.out (by show w7.heap.size ≤ w12.heap.size; omega) (Nat.le_refl _) htl).mono ?_
             rintro e w13 ⟨rfl, hb13⟩
             have hb1213 : Below w12.heap.size w12 w13 := by first | exact hb13 | exact (Below.refl w12.heap.size w12).drew.trans hb13
             have hz13 : w12.heap.size ≤ w13.heap.size := hb1213.size
             have y_130 := (hb1213.cell (p := ⟨w7.heap.size, 0, none⟩) (by show w7.heap.size < w12.heap.size; omega)).trans y_120
             have t_130 := (hb1213.cell (p := ⟨w.heap.size + 1, 0, none⟩) (by show w.heap.size + 1 < w12.heap.size; omega)).trans t_120
             have y_131 := (hb1213.cell (p := ⟨w7.heap.size, 1, none⟩) (by show w7.heap.size < w12.heap.size; omega)).trans y_121
             have t_131 := (hb1213.cell (p := ⟨w.heap.size + 1, 1, none⟩) (by show w.heap.size + 1 < w12.heap.size; omega)).trans t_121
             have y_132 := (hb1213.cell (p := ⟨w7.heap.size, 2, none⟩) (by show w7.heap.size < w12.heap.size; omega)).trans y_122
             have t_132 := (hb1213.cell (p := ⟨w.heap.size + 1, 2, none⟩) (by show w.heap.size + 1 < w12.heap.size; omega)).trans t_122
             have y_133 := (hb1213.cell (p := ⟨w7.heap.size, 3, none⟩) (by show w7.heap.size < w12.heap.size; omega)).trans y_123
             have t_133 := (hb1213.cell (p := ⟨w.heap.size + 1, 3, none⟩) (by show w.heap.size + 1 < w12.heap.size; omega)).trans t_123
             have HB1113 := Lib.hid (HB1112.out.trans (hb1213.mono (by omega)))
             clear hb13 hb1213))
      have hb1113 := HB1113.out
      have HPw13 := Lib.hid (HPw11.out.below hb1113 HPw11.out.sz)
      have HBw13 := Lib.hid (HBw11.out.below hb1113 (by omega))
      have HWw13 := Lib.hid (HWw11.out.below (hb1113.mono (by omega)))
      have HCw13 := Lib.hid (HCw11.out.keep (fun p _ hp => hb1113.cell (by omega)) hg6')
      have HFw13 := Lib.hid (fun (p : Addr) (hp : g6 ≤ p.block) (hpB : p.block < w6.heap.size) => (hb1113.frozen (by omega)).trans (HFw11.out p hp hpB))
      have HXw13 := Lib.hid (HXw11.out.below hb1113 (by omega))
      have HYw13 := Lib.hid (HYw11.out.keep fun p _ hp => ⟨hb1113.cell (by omega), hb1113.frozen (by omega)⟩)
      have HTw13 := Lib.hid (HTw11.out.below hb1113 (by omega))
      have HGw13 := Lib.hid (HGw11.out.keep fun b _ hb' => hb1113.block b (by omega))
      have HG0w13 := Lib.hid (HG0w11.out.below hb1113 (by omega))
      clear hb1113 y_110 y_111 y_112 y_113 y_120 y_121 y_122 y_123 y_130 y_131 y_132 y_133 t_110 t_111 t_112 t_113 t_120 t_121 t_122 t_123 t_130 t_131 t_132 t_133 HB1112 HB1113 HY12 HPw11 HBw11 HWw11 HCw11 HFw11 HXw11 HYw11 HTw11 HGw11 HG0w11
      have x_13 := HXw13.out.one
      go_wp2_with fail
      -- numbers are written into the arguments: the answer stays
      refine (markLedger_num g6 ts ts.length w6.heap.size 1 w13 HCw13.out hg6' (by omega) HFw13.out (by omega) (by omega) (by omega) (by omega)).mono ?_
      rintro e w14 ⟨⟨k14, rfl, hk0, hk1⟩, hin14⟩
      have hz14 := hin14.below.size
      have HPw14 := Lib.hid (HPw13.out.below hin14.below (by omega))
      have HBw14 := Lib.hid (HBw13.out.inside hin14 (.inl (by omega)))
      have HWw14 := Lib.hid (HWw13.out.below (hin14.below.mono (by omega)))
      have HTw14 := Lib.hid (HTw13.out.inside hin14 (.inr ⟨by omega, by omega⟩))
      have HYw14 := Lib.hid (HYw13.out.keep fun p hp hpB => ⟨hin14.cell (.inr ⟨by omega, by omega⟩), hin14.frozen p (by omega)⟩)
      have HGw14 := Lib.hid (HGw13.out.keep fun b hb1 hb2 => hin14.above b (by omega) (by omega))
      have HG0w14 := Lib.hid (HG0w13.out.inside hin14 (.inr ⟨by omega, by omega⟩))
      obtain ⟨y_140, y_141, y_142, y_143⟩ := HTw14.out.four
      clear hin14 x_13 HPw13 HBw13 HWw13 HCw13 HFw13 HXw13 HYw13 HTw13 HGw13 HG0w13
      go_wp2_with fail
      refine (markTerm_any t (some ⟨g7, 0, none⟩) t.text.length w6a.heap.size w7.heap.size k14 w14 HYw14.out (by omega) htl hk0 (by omega) (by omega)).mono ?_
      rintro e w15 ⟨rfl, _, hin15⟩
      have hz15 := hin15.below.size
      have HPw15 := Lib.hid (HPw14.out.below hin15.below (by omega))
      have HBw15 := Lib.hid (HBw14.out.inside hin15 (.inl (by omega)))
      have HWw15 := Lib.hid (HWw14.out.below (hin15.below.mono (by omega)))
      have HGw15 := Lib.hid (HGw14.out.keep fun b hb1 hb2 => hin15.above b (by omega) (by omega))
      have HG0w15 := Lib.hid (HG0w14.out.inside hin15 (.inr ⟨by omega, by omega⟩))
      have p_15 := HBw15.out.one
      have g_15 := HG0w15.out.one
      have hk15 : 0 ≤ k14 + (t.text.length : Int) := by omega
      clear hin15 y_140 y_141 y_142 y_143 HPw14 HBw14 HWw14 HTw14 HYw14 HGw14 HG0w14
      go_wp2_with fail
      refine (eqLedger_same A8 A0 ls c8 c0 w7a.heap.size w2.heap.size w8.heap.size v5.heap.size w15 (HGw15.out.tms HUs8.out HBd8.out) HWw15.out (by omega) (by omega) (by omega) hls2).mono ?_
      rintro e w16 ⟨rfl, hb16⟩
      have hz16 := hb16.size
      have HPw16 := Lib.hid (HPw15.out.below hb16 HPw15.out.sz)
      have HBw16 := Lib.hid (HBw15.out.below hb16 (by omega))
      have HWw16 := Lib.hid (HWw15.out.below (hb16.mono (by omega)))
      have HGw16 := Lib.hid (HGw15.out.keep fun b _ hb' => hb16.block b (by omega))
      have HG0w16 := Lib.hid (HG0w15.out.below hb16 (by omega))
      have g_16 := HG0w16.out.one
      have hl8 : us8.length = ls.length := by rw [← HUs8.out, List.length_map]
      have hmk := markLedger_ex A8 us8 c8 w7a.heap.size w8.heap.size 1 w16 HGw16.out (by omega) (by omega) (by rw [mkN_texts us8 ls HUs8.out]; omega) (by omega) (by omega)
      have hmN := mkN_texts us8 ls HUs8.out
      rw [hl8] at hmk
      have HMk := Lib.hid hmk
      have HL8 := Lib.hid hl8
      have hmB : mkN us8 ≤ 4194304 := by omega
      obtain ⟨mN, hmNe⟩ : ∃ mN, mN = mkN us8 := ⟨_, rfl⟩
      have HMN := Lib.hid hmNe
      rw [← hmNe] at hmB
      clear hb16 p_15 g_15 hk15 hk0 hk1 hmk hl8 hmN hmNe HPw15 HBw15 HWw15 HGw15 HG0w15
      go_wp2_with fail
      -- numbers are written into the answer
      refine HMk.out.mono ?_
      rintro e w17 ⟨rfl, hmk17, hin17⟩
      rw [← HMN.out]
      have hz17 := hin17.below.size
      have HMw17 := Lib.hid hmk17
      have HPw17 := Lib.hid (HPw16.out.below hin17.below (by omega))
      have HBw17 := Lib.hid (HBw16.out.inside hin17 (.inl (by omega)))
      have HWw17 := Lib.hid (HWw16.out.below (hin17.below.mono (by omega)))
      have HG0w17 := Lib.hid (HG0w16.out.inside hin17 (.inr ⟨by omega, by omega⟩))
      have g_17 := HG0w17.out.one
      have htx : ∀ x ∈ us8, x.t.text.length ≤ 1048576 := fun x hx => by
        have h1 : x.t ∈ ls := by rw [← HUs8.out]; exact List.mem_map_of_mem hx
        obtain ⟨i, hi, he⟩ := List.mem_iff_getElem.1 h1
        have h2 := text_le_bulk ls i hi
        rw [he] at h2
        omega
      have HTx := Lib.hid htx
      clear hmk17 hin17 g_16 htx HMk HPw16 HBw16 HWw16 HGw16 HG0w16
      have hhw17 := heldLedger_any A8 us8 c8 w7a.heap.size w8.heap.size 1 w17 HMw17.out (by omega) (by rw [← HMN.out]; omega) HTx.out (by omega) (by omega)
      rw [HL8.out, ← HMN.out] at hhw17
      have HHw17 := Lib.hid hhw17
      clear hhw17
      have hq0 : (0 : Int) ≤ 1 + (mN : Int) := by omega
      have hq1 : ((1 + (mN : Int)) != 1 + (mN : Int)) = false := by simp
      go_wp2_with fail
      refine HHw17.out.mono ?_
      rintro e w18 ⟨rfl, hb18⟩
      have hz18 := hb18.size
      have HPw18 := Lib.hid (HPw17.out.below hb18 HPw17.out.sz)
      have HBw18 := Lib.hid (HBw17.out.below hb18 (by omega))
      have HWw18 := Lib.hid (HWw17.out.below (hb18.mono (by omega)))
      have HG0w18 := Lib.hid (HG0w17.out.below hb18 (by omega))
      have HMw18 := Lib.hid (HMw17.out.keep fun b _ hb' => hb18.block b (by omega))
      clear hb18 g_17 HHw17 HPw17 HBw17 HWw17 HG0w17 HMw17
      obtain ⟨b_18, t_180, t_181, t_182, t_183⟩ := HPw18.out.five
      have hs18 := HPw18.out.sz
      -- once more
      go_upto_region 31 with fail
      go_cut [15, 16] from 94 to 101 (fun s15 s16 wx => ∃ (pb : Nat) (us : List Tx) (A0 : Option Addr) (c0 : Nat), s15 = .pointer (some ⟨pb, 0, none⟩) ∧ s16 = .int .i64 ri ∧ wx.cell? ⟨pb, 0, none⟩ = some (.slice A0 ls.length c0) ∧ us.map (·.t) = ls ∧ (∀ x ∈ us, x.t.text.length ≤ x.c ∧ x.c ≤ maxLen) ∧ LedFr wx w18.heap.size wx.heap.size A0 us ∧ Lx A ts c t A' c' w wx ∧ Below w18.heap.size w18 wx ∧ w18.heap.size ≤ pb ∧ pb < wx.heap.size)
      case first =>
        go_region_held3 (fun W => W.cell? ⟨w.heap.size, 0, none⟩ = some (.slice A ts.length c) ∧ W.cell? ⟨w.heap.size + 1, 0, none⟩ = some (.int .i64 t.kind) ∧ W.cell? ⟨w.heap.size + 1, 1, none⟩ = some (.int .i64 t.a) ∧ W.cell? ⟨w.heap.size + 1, 2, none⟩ = some (.int .i64 t.b) ∧ W.cell? ⟨w.heap.size + 1, 3, none⟩ = some (.slice A' t.text.length c'))
          (first | (refine Lx.five ?_; repeat first | with_reducible exact P5 | with_reducible exact P4 | with_reducible exact P3 | with_reducible exact HPw18.out | with_reducible apply Lx.drew | with_reducible apply Lx.alloc | with_reducible refine Lx.setb ?_ (by omega) _))
          (first
            | (go_at_call 17
               refine (toLedger_nn A ts c _ (Lx.tms (by repeat first | with_reducible exact HPw18.out | with_reducible apply Lx.drew | with_reducible apply Lx.alloc | with_reducible refine Lx.setb ?_ (by omega) _)) (by omega) (by omega)).mono ?_
               rintro e w3 ⟨g3, rfl, _, hg3, hcp3, hnn3, _, hb3⟩
               have P3 : Lx A ts c t A' c' w w3 := Lx.below (by repeat first | with_reducible exact HPw18.out | with_reducible apply Lx.drew | with_reducible apply Lx.alloc | with_reducible refine Lx.setb ?_ (by omega) _) hb3 (Lx.sz (by repeat first | with_reducible exact HPw18.out | with_reducible apply Lx.drew | with_reducible apply Lx.alloc | with_reducible refine Lx.setb ?_ (by omega) _))
               have hz3 : w18.heap.size ≤ w3.heap.size := by have := hb3.size; first | exact this | (simp at this; omega)
               have HB3 := Lib.hid (show Below w18.heap.size w18 w3 from Below.trans (by repeat first | with_reducible exact Below.refl _ _ | with_reducible apply Below.drew | with_reducible refine Below.alloc ?_ (by first | (simp; done) | omega | (simp; omega)) _) (hb3.mono (by first | (simp; done) | omega | (simp; omega))))
               have HC3 := Lib.hid hcp3
               have HN3 := Lib.hid hnn3
               try (obtain ⟨q3a1, q3a2⟩ : w3.cell? ⟨w18.heap.size, 0, none⟩ = some (.slice none 0 0) ∧ w3.frozen? ⟨w18.heap.size, 0, none⟩ = false
                    · constructor
                      · refine (hb3.cell (p := ⟨w18.heap.size, 0, none⟩) ?_).trans ?_
                        · (simp; done)
                        · (simp; done)
                      · refine (hb3.frozen (p := ⟨w18.heap.size, 0, none⟩) ?_).trans ?_
                        · (simp; done)
                        · (simp; done))
               clear hcp3 hnn3 hb3)
            | (go_at_call 18
               refine (toTerm_any _ _ _ A' t.text c' _ (Lx.txs (by repeat first | with_reducible exact P3 | with_reducible apply Lx.drew | with_reducible apply Lx.alloc | with_reducible refine Lx.setb ?_ (by omega) _)) htl).mono ?_
               rintro e w4 ⟨g4, rfl, _, _, hby4, hb4⟩
               have P4 : Lx A ts c t A' c' w w4 := Lx.below (by repeat first | with_reducible exact P3 | with_reducible apply Lx.drew | with_reducible apply Lx.alloc | with_reducible refine Lx.setb ?_ (by omega) _) hb4 (Lx.sz (by repeat first | with_reducible exact P3 | with_reducible apply Lx.drew | with_reducible apply Lx.alloc | with_reducible refine Lx.setb ?_ (by omega) _))
               have hb34 : Below w3.heap.size w3 w4 := Below.trans (by repeat first | with_reducible exact Below.refl _ _ | with_reducible apply Below.drew | with_reducible refine Below.alloc ?_ (by first | (simp; done) | omega | (simp; omega)) _) (hb4.mono (by first | (simp; done) | omega | (simp; omega)))
               have hz4 : w3.heap.size ≤ w4.heap.size := hb34.size
               have HB4 := Lib.hid (HB3.out.trans (hb34.mono (by omega)))
               have HC4 := Lib.hid (HC3.out.keep (fun p _ hp => hb34.cell (by omega)) hg3)
               have HN4 := Lib.hid (HN3.out.keep fun p hp => hb34.cell (by omega))
               have HY4 := Lib.hid (hby4.low (L' := 0) (Nat.zero_le _))
               try (obtain ⟨q4a1, q4a2⟩ : w4.cell? ⟨w18.heap.size, 0, none⟩ = some (.slice none 0 0) ∧ w4.frozen? ⟨w18.heap.size, 0, none⟩ = false
                    · exact ⟨(hb34.cell (World.block_lt_of_cell? w3 _ q3a1)).trans q3a1, (hb34.frozen (p := ⟨w18.heap.size, 0, none⟩) (World.block_lt_of_cell? w3 _ q3a1)).trans q3a2⟩)
               try (obtain ⟨q4b1, q4b2⟩ : w4.cell? ⟨w3.heap.size, 0, none⟩ = some (.slice none 0 0) ∧ w4.frozen? ⟨w3.heap.size, 0, none⟩ = false
                    · constructor
                      · refine (hb4.cell (p := ⟨w3.heap.size, 0, none⟩) ?_).trans ?_
                        · (simp; done)
                        · (simp; done)
                      · refine (hb4.frozen (p := ⟨w3.heap.size, 0, none⟩) ?_).trans ?_
                        · (simp; done)
                        · (simp; done))
               clear hby4 hb4 hb34)
            | (go_at_call 27
               have hW : ∀ W : World, Below w4.heap.size w4 W → Calls Try.prog 27 #[.agg #[.slice (some ⟨g3, 0, none⟩) ts.length ts.length], .agg #[.int .i64 t.kind, .int .i64 t.a, .int .i64 t.b, .slice (some ⟨g4, 0, none⟩) t.text.length t.text.length]] W (NewLedI ls ri W) := fun W hW => by
                 rw [HLs.out, HRi.out]
                 exact implIntern_any g3 w3.heap.size ts ts.length t g4 0 w4.heap.size W (HC4.out.keep (fun p _ hp => hW.cell (by omega)) hg3) (HN4.out.keep fun p hp => hW.cell (by omega)) hg3 (by have := hW.size; omega) (by omega) (by omega) (HY4.out.keep fun p _ hp => hW.cell (by omega)) hW.size htl
               refine (hW _ (by repeat first | with_reducible exact Below.refl _ _ | with_reducible apply Below.drew | with_reducible refine Below.alloc ?_ (by first | (simp; done) | omega | (simp; omega)) _)).mono ?_
               rintro e w5 ⟨us5, A5, c5, rfl, hus5, hbd5, hfr5, hb5⟩
               have P5 : Lx A ts c t A' c' w w5 := Lx.below (by repeat first | with_reducible exact P4 | with_reducible apply Lx.drew | with_reducible apply Lx.alloc | with_reducible refine Lx.setb ?_ (by omega) _) hb5 (Lx.sz (by repeat first | with_reducible exact P4 | with_reducible apply Lx.drew | with_reducible apply Lx.alloc | with_reducible refine Lx.setb ?_ (by omega) _))
               have hz5 : w4.heap.size ≤ w5.heap.size := by have := hb5.size; first | exact this | (simp at this; omega)
               have HFr5 := Lib.hid hfr5
               have hb45 : Below w4.heap.size w4 w5 := Below.trans (by repeat first | with_reducible exact Below.refl _ _ | with_reducible apply Below.drew | with_reducible refine Below.alloc ?_ (by first | (simp; done) | omega | (simp; omega)) _) (hb5.mono (by first | (simp; done) | omega | (simp; omega)))
               have HB5 := Lib.hid (HB4.out.trans (hb45.mono (by omega)))
               try (obtain ⟨q5a1, q5a2⟩ : w5.cell? ⟨w18.heap.size, 0, none⟩ = some (.slice none 0 0) ∧ w5.frozen? ⟨w18.heap.size, 0, none⟩ = false
                    · exact ⟨(hb45.cell (World.block_lt_of_cell? w4 _ q4a1)).trans q4a1, (hb45.frozen (p := ⟨w18.heap.size, 0, none⟩) (World.block_lt_of_cell? w4 _ q4a1)).trans q4a2⟩)
               try (obtain ⟨q5b1, q5b2⟩ : w5.cell? ⟨w3.heap.size, 0, none⟩ = some (.slice none 0 0) ∧ w5.frozen? ⟨w3.heap.size, 0, none⟩ = false
                    · exact ⟨(hb45.cell (World.block_lt_of_cell? w4 _ q4b1)).trans q4b1, (hb45.frozen (p := ⟨w3.heap.size, 0, none⟩) (World.block_lt_of_cell? w4 _ q4b1)).trans q4b2⟩)
               try (obtain ⟨q5c1, q5c2⟩ : w5.cell? ⟨w4.heap.size, 0, none⟩ = some (.slice none 0 0) ∧ w5.frozen? ⟨w4.heap.size, 0, none⟩ = false
                    · constructor
                      · refine (hb5.cell (p := ⟨w4.heap.size, 0, none⟩) ?_).trans ?_
                        · (simp; done)
                        · (simp; done)
                      · refine (hb5.frozen (p := ⟨w4.heap.size, 0, none⟩) ?_).trans ?_
                        · (simp; done)
                        · (simp; done))
               clear hW hfr5 hb5))
        all_goals go_wp2_with fail
        all_goals go_meet
        all_goals try (have l4a : w18.heap.size < w4.heap.size := World.block_lt_of_cell? w4 _ q4a1)
        all_goals try (have l4b : w3.heap.size < w4.heap.size := World.block_lt_of_cell? w4 _ q4b1)
        all_goals try (have l5a : w18.heap.size < w5.heap.size := World.block_lt_of_cell? w5 _ q5a1)
        all_goals try (have l5b : w3.heap.size < w5.heap.size := World.block_lt_of_cell? w5 _ q5b1)
        all_goals try (have l5c : w4.heap.size < w5.heap.size := World.block_lt_of_cell? w5 _ q5c1)
        all_goals refine ⟨_, us5, A5, c5, rfl, rfl, ?_, hus5, hbd5, ?_, ?_, ?_, ?_, ?_⟩
        all_goals first
          | (simp; done)
          | exact World.cell?_setCell_same _ _ _ q5a1
          | exact World.cell?_setCell_same _ _ _ q5b1
          | exact World.cell?_setCell_same _ _ _ q5c1
          | (refine LedFr.mono (LedFr.low (LedFr.alloc HFr5.out (Nat.le_refl _) _) ?_) ?_
             all_goals first | omega | (simp; done) | (simp; omega))
          | (refine LedFr.mono (LedFr.low (LedFr.set HFr5.out ?_ _) ?_) ?_
             all_goals first | omega | (simp; done) | (simp; omega))
          | (refine Lx.alloc P5 _)
          | (refine Lx.setb P5 ?_ _
             omega)
          | (refine Below.alloc HB5.out ?_ _
             omega)
          | (refine Below.setCell HB5.out ?_ _
             first | omega | (show w18.heap.size ≤ w18.heap.size; omega) | (show w18.heap.size ≤ w3.heap.size; omega) | (show w18.heap.size ≤ w4.heap.size; omega))
          | omega
          | (simp; done)
          | (rw [World.size_setCell]; omega)
          | (simp; omega)
      case rest =>
      obtain ⟨ph, us19, A19, c19, rfl, rfl, hph, hus19, hbd19, hfr19, hP19, hbw19, _, hph'⟩ := hcut
      rename World => w19
      have hz19 := hbw19.size
      have HPw19 := Lib.hid (HPw18.out.below hbw19 HPw18.out.sz)
      have HBw19 := Lib.hid (HBw18.out.below hbw19 (by omega))
      have HWw19 := Lib.hid (HWw18.out.below (hbw19.mono (by omega)))
      have HG0w19 := Lib.hid (HG0w18.out.below hbw19 (by omega))
      have HMw19 := Lib.hid (HMw18.out.keep fun b _ hb' => hbw19.block b (by omega))
      have HW19 := Lib.hid (hfr19.tms hus19 hbd19)
      have p_19 := HBw19.out.one
      clear hus19 hbd19 hfr19 hP19 hbw19 b_18 t_180 t_181 t_182 t_183 HPw18 HBw18 HWw18 HG0w18 HMw18
      go_wp2_with fail
      refine (eqLedger_same A19 A0 ls c19 c0 w18.heap.size w2.heap.size w19.heap.size v5.heap.size w19 HW19.out HWw19.out (Nat.le_refl _) (by omega) (by omega) hls2).mono ?_
      rintro e w20 ⟨rfl, hb20⟩
      have hz20 := hb20.size
      have HPw20 := Lib.hid (HPw19.out.below hb20 HPw19.out.sz)
      have HG0w20 := Lib.hid (HG0w19.out.below hb20 (by omega))
      have HMw20 := Lib.hid (HMw19.out.keep fun b _ hb' => hb20.block b (by omega))
      have g_20 := HG0w20.out.one
      clear hb20 p_19 hph HW19 HPw19 HBw19 HWw19 HG0w19 HMw19
      have hhw20 := heldLedger_any A8 us8 c8 w7a.heap.size w8.heap.size 1 w20 HMw20.out (by omega) (by rw [← HMN.out]; omega) HTx.out (by omega) (by omega)
      rw [HL8.out, ← HMN.out] at hhw20
      have HHw20 := Lib.hid hhw20
      clear hhw20
      go_wp2_with fail
      refine HHw20.out.mono ?_
      rintro e w21 ⟨rfl, hb21⟩
      have HB21 := Lib.hid (HPw20.out.bel.trans (hb21.mono (by omega)))
      clear hb21 g_20
      go_wp2_with fail
      go_ret
      exact ⟨rfl, HB21.out⟩

end Go.Proofs.Ytgogapgkgbffpaa
