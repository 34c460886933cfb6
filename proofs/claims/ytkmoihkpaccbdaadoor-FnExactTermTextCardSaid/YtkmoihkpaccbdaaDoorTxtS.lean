/-
  The model's TermText.
-/
import Derived.Test.YtkmoihkpaccbdaaDoorTxtT
namespace Go.Proofs.YtkmoihkpaccbdaaDoor
open Go.RowKit Go.Maps

theorem ts_start (s : ByteArray) (hs : s.size ≤ 10) (w w1 : World) (hb : Below w.heap.size w w1) (v0 v1 v2 v3 : Value) (t1 t2 : TypeId) (ws : Array Value) :
    ∃ (rv : Value) (WK : World) (n0 : Nat) (xs0 : List Value), n0 = s.data.toList.length ∧ xs0 = Lib.byteCells s.data.toList ∧ n0 ≤ 10 ∧
      (convert 9 22 (.string s)).run Tryd.prog ((w1.alloc (.cells #[v0, v1, v2, v3] t1)).alloc (.cells ws t2)) = .ok rv WK ∧ Yx w w1.heap.size v0 v1 v2 v3 rv n0 xs0 WK := by
  have h := run_bytes_of_string (P := Tryd.prog) ((w1.alloc (.cells #[v0, v1, v2, v3] t1)).alloc (.cells ws t2)) 9 22 5 s Tryd.underlying9 Tryd.underlying22 Tryd.underlying5
  have hby := Byt.ofString ((w1.alloc (.cells #[v0, v1, v2, v3] t1)).alloc (.cells ws t2)) 5 s (B := w1.heap.size + 1) (by simp) (by unfold maxLen; omega)
  have hd : ∀ (o : Obj) j u, w1.heap.size < ((w1.alloc (.cells #[v0, v1, v2, v3] t1)).alloc (.cells ws t2)).heap.size → ((w1.alloc (.cells #[v0, v1, v2, v3] t1)).alloc (.cells ws t2)).cell? ⟨w1.heap.size, j, none⟩ = some u → (((w1.alloc (.cells #[v0, v1, v2, v3] t1)).alloc (.cells ws t2)).drew.alloc o).cell? ⟨w1.heap.size, j, none⟩ = some u := fun o j u hlt hu =>
    (World.cell?_alloc_lt _ _ _ hlt).trans hu
  refine ⟨_, _, s.size, byteCells s, rfl, rfl, hs, h, ⟨?_, ?_, ?_, ?_, hby, ?_, hb.size⟩⟩
  · exact hd _ _ _ (by simp; omega) (by simp)
  · exact hd _ _ _ (by simp; omega) (by simp)
  · exact hd _ _ _ (by simp; omega) (by simp)
  · exact hd _ _ _ (by simp; omega) (by simp)
  · exact (((hb.alloc hb.size _).alloc (by have := hb.size; simp; omega) _).drew).alloc (by have := hb.size; simp; omega) _

theorem Yx.fin {w W : World} {b : Nat} {v0 v1 v2 v3 rv : Value} {n : Nat} {xs : List Value} (P : Yx w b v0 v1 v2 v3 rv n xs W) (l : List UInt8) (hn : n = l.length) (hx : xs = Lib.byteCells l) : NewBytesFr l w (.returned rv) W := by
  have hrow := P.row
  subst hn hx
  obtain ⟨A, c, rfl⟩ := byt_shape hrow
  exact ⟨A, c, rfl, (bytes_of_byt hrow).low (by have := P.hb; omega), P.bel⟩

section
variable (A : Option Addr) (ts : List Tm) (c L B : Nat) (id : Int) (w : World)

set_option maxRecDepth 100000 in
set_option maxHeartbeats 16000000 in
theorem specTermText_any (hA : TmsIn w L B A ts) (hB : B ≤ w.heap.size) (hn : ts.length ≤ 1048576) (hbk : bulk ts ≤ 1048576) :
    Calls Tryd.prog 12 #[.agg #[.slice A ts.length c], .int .i64 id] w (NewBytesFr (ttV ts id) w) := by
  have HA := Lib.hid hA
  clear hA
  go_enter Tryd.func12, Tryd.ntmps12
  go_wp2_with fail
  have hb0 : Below w.heap.size w (w.alloc (.cells #[.slice A ts.length c] 25)) := (Below.refl _ _).alloc (Nat.le_refl _) _
  refine (specLedgerOk_any A ts c L B _ (HA.out.keep fun p _ hp => hb0.cell (by omega)) (by simp; omega) hn hbk).mono ?_
  rintro e w1 ⟨rfl, hb1⟩
  have b1 : w1.cell? ⟨w.heap.size, 0, none⟩ = some (.slice A ts.length c) := (hb1.cell (p := ⟨w.heap.size, 0, none⟩) (by simp)).trans (by simp)
  have hz1 : w.heap.size < w1.heap.size := by have := hb1.size; simp at this; omega
  have HB := Lib.hid (hb0.trans (hb1.mono (by simp)))
  clear hb0 hb1
  cases hl : lokB ts with
  | false =>
    have HV := Lib.hid (show ttV ts id = [] by simp [ttV, hl])
    clear hl
    go_wp2_with fail
    all_goals go_ret
    all_goals (rw [HV.out]; exact .nil HB.out)
  | true =>
    have HOk := Lib.hid (lok_of hl)
    by_cases hr : 0 ≤ id ∧ id < ts.length
    · obtain ⟨i, rfl⟩ := Int.eq_ofNat_of_zero_le hr.1
      have hi : i < ts.length := by omega
      have hhas := (hasB_iff ts.length i).2 hr
      have HV := Lib.hid (show ttV ts i = ttB ts[i] by simp [ttV, hl, hhas, tmAt_nat ts i hi])
      obtain ⟨ab, ao, rfl, hL, hab, hc⟩ := HA.out (by omega)
      obtain ⟨A2, c2, x0, x1, x2, x3, _, _, _⟩ := hc i hi
      have y0 := (HB.out.cell (p := ⟨ab, ao + i * 4, none⟩) (by show ab < _; omega)).trans x0
      have y1 := (HB.out.cell (p := ⟨ab, ao + i * 4 + 1, none⟩) (by show ab < _; omega)).trans x1
      have y2 := (HB.out.cell (p := ⟨ab, ao + i * 4 + 2, none⟩) (by show ab < _; omega)).trans x2
      have y3 := (HB.out.cell (p := ⟨ab, ao + i * 4 + 3, none⟩) (by show ab < _; omega)).trans x3
      obtain ⟨_, hkind⟩ := kind_of_good (HOk.out.2 i hi)
      obtain ⟨na, nb, hna, hnb, hna3, hnb3, htx⟩ := good_nums HOk.out hi
      clear hhas hr hc hl x0 x1 x2 x3
      rw [hna] at y1
      rw [hnb] at y2
      have hda := digits20 na (by omega)
      have hdb := digits20 nb (by omega)
      have hdl := digits20 ts[i].text.length (by omega)
      obtain ⟨i0, hi0, hz0, hz1', hz2⟩ := info_parts (show (Tryd.prog.info? 5).map (fun i => (i.zero, i.size, i.bytes)) = some (some (.int .u8 0), 1, 1) by kernel_rfl)
      rcases hkind with hk | hk | hk | hk | hk | hk | hk
      · have hT := ttB_0 ts[i] hk
        rw [hna, Int.toNat_natCast] at hT
        have HT := Lib.hid hT
        rw [hk] at y0
        obtain ⟨rv, WK, n0, xs0, hn0, hxs0, hn10, hcv, P0⟩ := ts_start { data := #[110, 111, 110, 99, 101] } (by decide) w w1 HB.out (.int .i64 0) (.int .i64 na) (.int .i64 nb) (.slice A2 ts[i].text.length c2) 71 9 #[.string { data := #[110, 111, 110, 99, 101] }, .string { data := #[107, 101, 121] }, .string { data := #[116, 101, 120, 116] }, .string { data := #[112, 97, 105, 114] }, .string { data := #[104, 97, 115, 104] }, .string { data := #[115, 101, 97, 108] }, .string { data := #[115, 105, 103, 110] }]
        have HP := Lib.hid P0
        have HN := Lib.hid hn0
        have HX := Lib.hid hxs0
        have p0 := P0.t0
        have hq0 := P0.lt
        clear hT hk hna hnb P0 hn0 hxs0
        go_wp2_with fail
        go_region_held3 (fun W => W.cell? ⟨w1.heap.size, 1, none⟩ = some (.int .i64 na))
          (first | exact Yx.t1 (w := w) (by repeat first | with_reducible exact P8a | with_reducible exact P7a | with_reducible exact P5a | with_reducible exact HP.out | with_reducible apply Yx.drew | with_reducible apply Yx.alloc))
          (first
            | (refine step_append_byt (by rfl) _ _ _ _ (by rfl) (w1.heap.size + 1) 5 i0 Tryd.underlying22 hi0 hz0 hz1' hz2 v5a (n0 + 1) (xs0 ++ [.int .u8 32]) (by rfl) ?_ (.slice (some ⟨gda, 0, none⟩) (Lib.decDigits na).length cda) (Lib.decDigits na).length (Lib.byteCells (Lib.decDigits na)) (by rfl) (Dg.src (g := gda) (c := cda) ?_) (by omega) ?_ ?_
               · exact Yx.row (w := w) (b := w1.heap.size) (by repeat first | with_reducible exact P7a | with_reducible apply Yx.drew | with_reducible apply Yx.alloc)
               · (repeat first | with_reducible exact D7a | with_reducible apply Dg.drew | with_reducible apply Dg.alloc)
               · exact Yx.le (w := w) (b := w1.heap.size) (by repeat first | with_reducible exact P7a | with_reducible apply Yx.drew | with_reducible apply Yx.alloc)
               intro v8a w8a hb8a hg8a
               have P8a : Yx w w1.heap.size (.int .i64 0) (.int .i64 na) (.int .i64 nb) (.slice A2 ts[i].text.length c2) v8a (n0 + 1 + (Lib.decDigits na).length) (xs0 ++ [.int .u8 32] ++ Lib.byteCells (Lib.decDigits na)) w8a := Yx.put (by repeat first | with_reducible exact P7a | with_reducible apply Yx.drew | with_reducible apply Yx.alloc) hb8a hg8a)
            | (refine step_append_byt (by rfl) _ _ _ _ (by rfl) (w1.heap.size + 1) 5 i0 Tryd.underlying22 hi0 hz0 hz1' hz2 rv n0 xs0 (by rfl) ?_ (.slice (some ⟨_, 0, none⟩) 1 1) 1 [.int .u8 32] (by rfl) (SpIn.src ?_) (by omega) ?_ ?_
               · exact Yx.row (w := w) (b := w1.heap.size) (by repeat first | with_reducible exact HP.out | with_reducible apply Yx.drew | with_reducible apply Yx.alloc)
               · (repeat first | with_reducible exact SpIn.fresh (by simp) | with_reducible apply SpIn.drew | with_reducible apply SpIn.alloc)
               · exact Yx.le (w := w) (b := w1.heap.size) (by repeat first | with_reducible exact HP.out | with_reducible apply Yx.drew | with_reducible apply Yx.alloc)
               intro v5a w5a hb5a hg5a
               have P5a : Yx w w1.heap.size (.int .i64 0) (.int .i64 na) (.int .i64 nb) (.slice A2 ts[i].text.length c2) v5a (n0 + 1) (xs0 ++ [.int .u8 32]) w5a := Yx.put (by repeat first | with_reducible exact HP.out | with_reducible apply Yx.drew | with_reducible apply Yx.alloc) hb5a hg5a)
            | (go_at_call 30
               refine (l1digits_dg na (by omega) _).mono ?_
               rintro e w7a ⟨gda, cda, rfl, D7a, hgda, hb7a⟩
               have P7a : Yx w w1.heap.size (.int .i64 0) (.int .i64 na) (.int .i64 nb) (.slice A2 ts[i].text.length c2) v5a (n0 + 1) (xs0 ++ [.int .u8 32]) w7a := Yx.below (by repeat first | with_reducible exact P5a | with_reducible apply Yx.drew | with_reducible apply Yx.alloc) hb7a))
        have hfin := Yx.fin P8a (ttB ts[i]) (by rw [HT.out, HN.out]; simp [numsV]; try omega) (by rw [HT.out, HX.out]; simp [numsV, Lib.byteCells])
        rw [← HV.out] at hfin
        have HFin := Lib.hid hfin
        clear P8a P7a D7a P5a hb5a hg5a hb7a hb8a hg8a hgda hfin
        go_wp2_with fail
        go_ret
        exact HFin.out
      · have hT := ttB_1 ts[i] hk
        rw [hna, Int.toNat_natCast] at hT
        have HT := Lib.hid hT
        rw [hk] at y0
        obtain ⟨rv, WK, n0, xs0, hn0, hxs0, hn10, hcv, P0⟩ := ts_start { data := #[107, 101, 121] } (by decide) w w1 HB.out (.int .i64 1) (.int .i64 na) (.int .i64 nb) (.slice A2 ts[i].text.length c2) 71 9 #[.string { data := #[110, 111, 110, 99, 101] }, .string { data := #[107, 101, 121] }, .string { data := #[116, 101, 120, 116] }, .string { data := #[112, 97, 105, 114] }, .string { data := #[104, 97, 115, 104] }, .string { data := #[115, 101, 97, 108] }, .string { data := #[115, 105, 103, 110] }]
        have HP := Lib.hid P0
        have HN := Lib.hid hn0
        have HX := Lib.hid hxs0
        have p0 := P0.t0
        have hq0 := P0.lt
        clear hT hk hna hnb P0 hn0 hxs0
        go_wp2_with fail
        go_region_held3 (fun W => W.cell? ⟨w1.heap.size, 1, none⟩ = some (.int .i64 na))
          (first | exact Yx.t1 (w := w) (by repeat first | with_reducible exact P8a | with_reducible exact P7a | with_reducible exact P5a | with_reducible exact HP.out | with_reducible apply Yx.drew | with_reducible apply Yx.alloc))
          (first
            | (refine step_append_byt (by rfl) _ _ _ _ (by rfl) (w1.heap.size + 1) 5 i0 Tryd.underlying22 hi0 hz0 hz1' hz2 v5a (n0 + 1) (xs0 ++ [.int .u8 32]) (by rfl) ?_ (.slice (some ⟨gda, 0, none⟩) (Lib.decDigits na).length cda) (Lib.decDigits na).length (Lib.byteCells (Lib.decDigits na)) (by rfl) (Dg.src (g := gda) (c := cda) ?_) (by omega) ?_ ?_
               · exact Yx.row (w := w) (b := w1.heap.size) (by repeat first | with_reducible exact P7a | with_reducible apply Yx.drew | with_reducible apply Yx.alloc)
               · (repeat first | with_reducible exact D7a | with_reducible apply Dg.drew | with_reducible apply Dg.alloc)
               · exact Yx.le (w := w) (b := w1.heap.size) (by repeat first | with_reducible exact P7a | with_reducible apply Yx.drew | with_reducible apply Yx.alloc)
               intro v8a w8a hb8a hg8a
               have P8a : Yx w w1.heap.size (.int .i64 1) (.int .i64 na) (.int .i64 nb) (.slice A2 ts[i].text.length c2) v8a (n0 + 1 + (Lib.decDigits na).length) (xs0 ++ [.int .u8 32] ++ Lib.byteCells (Lib.decDigits na)) w8a := Yx.put (by repeat first | with_reducible exact P7a | with_reducible apply Yx.drew | with_reducible apply Yx.alloc) hb8a hg8a)
            | (refine step_append_byt (by rfl) _ _ _ _ (by rfl) (w1.heap.size + 1) 5 i0 Tryd.underlying22 hi0 hz0 hz1' hz2 rv n0 xs0 (by rfl) ?_ (.slice (some ⟨_, 0, none⟩) 1 1) 1 [.int .u8 32] (by rfl) (SpIn.src ?_) (by omega) ?_ ?_
               · exact Yx.row (w := w) (b := w1.heap.size) (by repeat first | with_reducible exact HP.out | with_reducible apply Yx.drew | with_reducible apply Yx.alloc)
               · (repeat first | with_reducible exact SpIn.fresh (by simp) | with_reducible apply SpIn.drew | with_reducible apply SpIn.alloc)
               · exact Yx.le (w := w) (b := w1.heap.size) (by repeat first | with_reducible exact HP.out | with_reducible apply Yx.drew | with_reducible apply Yx.alloc)
               intro v5a w5a hb5a hg5a
               have P5a : Yx w w1.heap.size (.int .i64 1) (.int .i64 na) (.int .i64 nb) (.slice A2 ts[i].text.length c2) v5a (n0 + 1) (xs0 ++ [.int .u8 32]) w5a := Yx.put (by repeat first | with_reducible exact HP.out | with_reducible apply Yx.drew | with_reducible apply Yx.alloc) hb5a hg5a)
            | (go_at_call 30
               refine (l1digits_dg na (by omega) _).mono ?_
               rintro e w7a ⟨gda, cda, rfl, D7a, hgda, hb7a⟩
               have P7a : Yx w w1.heap.size (.int .i64 1) (.int .i64 na) (.int .i64 nb) (.slice A2 ts[i].text.length c2) v5a (n0 + 1) (xs0 ++ [.int .u8 32]) w7a := Yx.below (by repeat first | with_reducible exact P5a | with_reducible apply Yx.drew | with_reducible apply Yx.alloc) hb7a))
        have hfin := Yx.fin P8a (ttB ts[i]) (by rw [HT.out, HN.out]; simp [numsV]; try omega) (by rw [HT.out, HX.out]; simp [numsV, Lib.byteCells])
        rw [← HV.out] at hfin
        have HFin := Lib.hid hfin
        clear P8a P7a D7a P5a hb5a hg5a hb7a hb8a hg8a hgda hfin
        go_wp2_with fail
        go_ret
        exact HFin.out
      · have hT := ttB_2 ts[i] hk
        have HT := Lib.hid hT
        rw [hk] at y0
        obtain ⟨rv, WK, n0, xs0, hn0, hxs0, hn10, hcv, P0⟩ := ts_start { data := #[116, 101, 120, 116] } (by decide) w w1 HB.out (.int .i64 2) (.int .i64 na) (.int .i64 nb) (.slice A2 ts[i].text.length c2) 71 9 #[.string { data := #[110, 111, 110, 99, 101] }, .string { data := #[107, 101, 121] }, .string { data := #[116, 101, 120, 116] }, .string { data := #[112, 97, 105, 114] }, .string { data := #[104, 97, 115, 104] }, .string { data := #[115, 101, 97, 108] }, .string { data := #[115, 105, 103, 110] }]
        have HP := Lib.hid P0
        have HN := Lib.hid hn0
        have HX := Lib.hid hxs0
        have p0 := P0.t0
        have hq0 := P0.lt
        clear hT hk hna hnb P0 hn0 hxs0
        go_wp2_with fail
        go_region_held3 (fun W => W.cell? ⟨w1.heap.size, 3, none⟩ = some (.slice A2 ts[i].text.length c2))
          (first | exact Yx.t3 (w := w) (by repeat first | with_reducible exact P8a | with_reducible exact P7a | with_reducible exact P5a | with_reducible exact HP.out | with_reducible apply Yx.drew | with_reducible apply Yx.alloc))
          (first
            | (refine step_append_byt (by rfl) _ _ _ _ (by rfl) (w1.heap.size + 1) 5 i0 Tryd.underlying22 hi0 hz0 hz1' hz2 v5a (n0 + 1) (xs0 ++ [.int .u8 32]) (by rfl) ?_ (.slice (some ⟨gda, 0, none⟩) (Lib.decDigits ts[i].text.length).length cda) (Lib.decDigits ts[i].text.length).length (Lib.byteCells (Lib.decDigits ts[i].text.length)) (by rfl) (Dg.src (g := gda) (c := cda) ?_) (by omega) ?_ ?_
               · exact Yx.row (w := w) (b := w1.heap.size) (by repeat first | with_reducible exact P7a | with_reducible apply Yx.drew | with_reducible apply Yx.alloc)
               · (repeat first | with_reducible exact D7a | with_reducible apply Dg.drew | with_reducible apply Dg.alloc)
               · exact Yx.le (w := w) (b := w1.heap.size) (by repeat first | with_reducible exact P7a | with_reducible apply Yx.drew | with_reducible apply Yx.alloc)
               intro v8a w8a hb8a hg8a
               have P8a : Yx w w1.heap.size (.int .i64 2) (.int .i64 na) (.int .i64 nb) (.slice A2 ts[i].text.length c2) v8a (n0 + 1 + (Lib.decDigits ts[i].text.length).length) (xs0 ++ [.int .u8 32] ++ Lib.byteCells (Lib.decDigits ts[i].text.length)) w8a := Yx.put (by repeat first | with_reducible exact P7a | with_reducible apply Yx.drew | with_reducible apply Yx.alloc) hb8a hg8a)
            | (refine step_append_byt (by rfl) _ _ _ _ (by rfl) (w1.heap.size + 1) 5 i0 Tryd.underlying22 hi0 hz0 hz1' hz2 rv n0 xs0 (by rfl) ?_ (.slice (some ⟨_, 0, none⟩) 1 1) 1 [.int .u8 32] (by rfl) (SpIn.src ?_) (by omega) ?_ ?_
               · exact Yx.row (w := w) (b := w1.heap.size) (by repeat first | with_reducible exact HP.out | with_reducible apply Yx.drew | with_reducible apply Yx.alloc)
               · (repeat first | with_reducible exact SpIn.fresh (by simp) | with_reducible apply SpIn.drew | with_reducible apply SpIn.alloc)
               · exact Yx.le (w := w) (b := w1.heap.size) (by repeat first | with_reducible exact HP.out | with_reducible apply Yx.drew | with_reducible apply Yx.alloc)
               intro v5a w5a hb5a hg5a
               have P5a : Yx w w1.heap.size (.int .i64 2) (.int .i64 na) (.int .i64 nb) (.slice A2 ts[i].text.length c2) v5a (n0 + 1) (xs0 ++ [.int .u8 32]) w5a := Yx.put (by repeat first | with_reducible exact HP.out | with_reducible apply Yx.drew | with_reducible apply Yx.alloc) hb5a hg5a)
            | (go_at_call 30
               refine (l1digits_dg ts[i].text.length (by omega) _).mono ?_
               rintro e w7a ⟨gda, cda, rfl, D7a, hgda, hb7a⟩
               have P7a : Yx w w1.heap.size (.int .i64 2) (.int .i64 na) (.int .i64 nb) (.slice A2 ts[i].text.length c2) v5a (n0 + 1) (xs0 ++ [.int .u8 32]) w7a := Yx.below (by repeat first | with_reducible exact P5a | with_reducible apply Yx.drew | with_reducible apply Yx.alloc) hb7a))
        have hfin := Yx.fin P8a (ttB ts[i]) (by rw [HT.out, HN.out]; simp [numsV]; try omega) (by rw [HT.out, HX.out]; simp [numsV, Lib.byteCells])
        rw [← HV.out] at hfin
        have HFin := Lib.hid hfin
        clear P8a P7a D7a P5a hb5a hg5a hb7a hb8a hg8a hgda hfin
        go_wp2_with fail
        go_ret
        exact HFin.out
      · have hT := ttB_3 ts[i] hk
        rw [hna, hnb, Int.toNat_natCast, Int.toNat_natCast] at hT
        have HT := Lib.hid hT
        rw [hk] at y0
        obtain ⟨rv, WK, n0, xs0, hn0, hxs0, hn10, hcv, P0⟩ := ts_start { data := #[112, 97, 105, 114] } (by decide) w w1 HB.out (.int .i64 3) (.int .i64 na) (.int .i64 nb) (.slice A2 ts[i].text.length c2) 71 9 #[.string { data := #[110, 111, 110, 99, 101] }, .string { data := #[107, 101, 121] }, .string { data := #[116, 101, 120, 116] }, .string { data := #[112, 97, 105, 114] }, .string { data := #[104, 97, 115, 104] }, .string { data := #[115, 101, 97, 108] }, .string { data := #[115, 105, 103, 110] }]
        have HP := Lib.hid P0
        have HN := Lib.hid hn0
        have HX := Lib.hid hxs0
        have p0 := P0.t0
        have hq0 := P0.lt
        clear hT hk hna hnb P0 hn0 hxs0
        go_wp2_with fail
        go_region_held3 (fun W => W.cell? ⟨w1.heap.size, 1, none⟩ = some (.int .i64 na))
          (first | exact Yx.t1 (w := w) (by repeat first | with_reducible exact P8a | with_reducible exact P7a | with_reducible exact P5a | with_reducible exact HP.out | with_reducible apply Yx.drew | with_reducible apply Yx.alloc))
          (first
            | (refine step_append_byt (by rfl) _ _ _ _ (by rfl) (w1.heap.size + 1) 5 i0 Tryd.underlying22 hi0 hz0 hz1' hz2 v5a (n0 + 1) (xs0 ++ [.int .u8 32]) (by rfl) ?_ (.slice (some ⟨gda, 0, none⟩) (Lib.decDigits na).length cda) (Lib.decDigits na).length (Lib.byteCells (Lib.decDigits na)) (by rfl) (Dg.src (g := gda) (c := cda) ?_) (by omega) ?_ ?_
               · exact Yx.row (w := w) (b := w1.heap.size) (by repeat first | with_reducible exact P7a | with_reducible apply Yx.drew | with_reducible apply Yx.alloc)
               · (repeat first | with_reducible exact D7a | with_reducible apply Dg.drew | with_reducible apply Dg.alloc)
               · exact Yx.le (w := w) (b := w1.heap.size) (by repeat first | with_reducible exact P7a | with_reducible apply Yx.drew | with_reducible apply Yx.alloc)
               intro v8a w8a hb8a hg8a
               have P8a : Yx w w1.heap.size (.int .i64 3) (.int .i64 na) (.int .i64 nb) (.slice A2 ts[i].text.length c2) v8a (n0 + 1 + (Lib.decDigits na).length) (xs0 ++ [.int .u8 32] ++ Lib.byteCells (Lib.decDigits na)) w8a := Yx.put (by repeat first | with_reducible exact P7a | with_reducible apply Yx.drew | with_reducible apply Yx.alloc) hb8a hg8a)
            | (refine step_append_byt (by rfl) _ _ _ _ (by rfl) (w1.heap.size + 1) 5 i0 Tryd.underlying22 hi0 hz0 hz1' hz2 rv n0 xs0 (by rfl) ?_ (.slice (some ⟨_, 0, none⟩) 1 1) 1 [.int .u8 32] (by rfl) (SpIn.src ?_) (by omega) ?_ ?_
               · exact Yx.row (w := w) (b := w1.heap.size) (by repeat first | with_reducible exact HP.out | with_reducible apply Yx.drew | with_reducible apply Yx.alloc)
               · (repeat first | with_reducible exact SpIn.fresh (by simp) | with_reducible apply SpIn.drew | with_reducible apply SpIn.alloc)
               · exact Yx.le (w := w) (b := w1.heap.size) (by repeat first | with_reducible exact HP.out | with_reducible apply Yx.drew | with_reducible apply Yx.alloc)
               intro v5a w5a hb5a hg5a
               have P5a : Yx w w1.heap.size (.int .i64 3) (.int .i64 na) (.int .i64 nb) (.slice A2 ts[i].text.length c2) v5a (n0 + 1) (xs0 ++ [.int .u8 32]) w5a := Yx.put (by repeat first | with_reducible exact HP.out | with_reducible apply Yx.drew | with_reducible apply Yx.alloc) hb5a hg5a)
            | (go_at_call 30
               refine (l1digits_dg na (by omega) _).mono ?_
               rintro e w7a ⟨gda, cda, rfl, D7a, hgda, hb7a⟩
               have P7a : Yx w w1.heap.size (.int .i64 3) (.int .i64 na) (.int .i64 nb) (.slice A2 ts[i].text.length c2) v5a (n0 + 1) (xs0 ++ [.int .u8 32]) w7a := Yx.below (by repeat first | with_reducible exact P5a | with_reducible apply Yx.drew | with_reducible apply Yx.alloc) hb7a))
        have HP8a := Lib.hid P8a
        clear P8a P7a D7a P5a hb5a hg5a hb7a hb8a hg8a hgda
        go_wp2_with fail
        go_region_held3 (fun W => W.cell? ⟨w1.heap.size, 2, none⟩ = some (.int .i64 nb))
          (first | exact Yx.t2 (w := w) (by repeat first | with_reducible exact P8b | with_reducible exact P7b | with_reducible exact P5b | with_reducible exact HP8a.out | with_reducible apply Yx.drew | with_reducible apply Yx.alloc))
          (first
            | (refine step_append_byt (by rfl) _ _ _ _ (by rfl) (w1.heap.size + 1) 5 i0 Tryd.underlying22 hi0 hz0 hz1' hz2 v5b ((n0 + 1 + (Lib.decDigits na).length) + 1) ((xs0 ++ [.int .u8 32] ++ Lib.byteCells (Lib.decDigits na)) ++ [.int .u8 32]) (by rfl) ?_ (.slice (some ⟨gdb, 0, none⟩) (Lib.decDigits nb).length cdb) (Lib.decDigits nb).length (Lib.byteCells (Lib.decDigits nb)) (by rfl) (Dg.src (g := gdb) (c := cdb) ?_) (by omega) ?_ ?_
               · exact Yx.row (w := w) (b := w1.heap.size) (by repeat first | with_reducible exact P7b | with_reducible apply Yx.drew | with_reducible apply Yx.alloc)
               · (repeat first | with_reducible exact D7b | with_reducible apply Dg.drew | with_reducible apply Dg.alloc)
               · exact Yx.le (w := w) (b := w1.heap.size) (by repeat first | with_reducible exact P7b | with_reducible apply Yx.drew | with_reducible apply Yx.alloc)
               intro v8b w8b hb8b hg8b
               have P8b : Yx w w1.heap.size (.int .i64 3) (.int .i64 na) (.int .i64 nb) (.slice A2 ts[i].text.length c2) v8b ((n0 + 1 + (Lib.decDigits na).length) + 1 + (Lib.decDigits nb).length) ((xs0 ++ [.int .u8 32] ++ Lib.byteCells (Lib.decDigits na)) ++ [.int .u8 32] ++ Lib.byteCells (Lib.decDigits nb)) w8b := Yx.put (by repeat first | with_reducible exact P7b | with_reducible apply Yx.drew | with_reducible apply Yx.alloc) hb8b hg8b)
            | (refine step_append_byt (by rfl) _ _ _ _ (by rfl) (w1.heap.size + 1) 5 i0 Tryd.underlying22 hi0 hz0 hz1' hz2 v8a (n0 + 1 + (Lib.decDigits na).length) (xs0 ++ [.int .u8 32] ++ Lib.byteCells (Lib.decDigits na)) (by rfl) ?_ (.slice (some ⟨_, 0, none⟩) 1 1) 1 [.int .u8 32] (by rfl) (SpIn.src ?_) (by omega) ?_ ?_
               · exact Yx.row (w := w) (b := w1.heap.size) (by repeat first | with_reducible exact HP8a.out | with_reducible apply Yx.drew | with_reducible apply Yx.alloc)
               · (repeat first | with_reducible exact SpIn.fresh (by simp) | with_reducible apply SpIn.drew | with_reducible apply SpIn.alloc)
               · exact Yx.le (w := w) (b := w1.heap.size) (by repeat first | with_reducible exact HP8a.out | with_reducible apply Yx.drew | with_reducible apply Yx.alloc)
               intro v5b w5b hb5b hg5b
               have P5b : Yx w w1.heap.size (.int .i64 3) (.int .i64 na) (.int .i64 nb) (.slice A2 ts[i].text.length c2) v5b ((n0 + 1 + (Lib.decDigits na).length) + 1) ((xs0 ++ [.int .u8 32] ++ Lib.byteCells (Lib.decDigits na)) ++ [.int .u8 32]) w5b := Yx.put (by repeat first | with_reducible exact HP8a.out | with_reducible apply Yx.drew | with_reducible apply Yx.alloc) hb5b hg5b)
            | (go_at_call 30
               refine (l1digits_dg nb (by omega) _).mono ?_
               rintro e w7b ⟨gdb, cdb, rfl, D7b, hgdb, hb7b⟩
               have P7b : Yx w w1.heap.size (.int .i64 3) (.int .i64 na) (.int .i64 nb) (.slice A2 ts[i].text.length c2) v5b ((n0 + 1 + (Lib.decDigits na).length) + 1) ((xs0 ++ [.int .u8 32] ++ Lib.byteCells (Lib.decDigits na)) ++ [.int .u8 32]) w7b := Yx.below (by repeat first | with_reducible exact P5b | with_reducible apply Yx.drew | with_reducible apply Yx.alloc) hb7b))
        have hfin := Yx.fin P8b (ttB ts[i]) (by rw [HT.out, HN.out]; simp [numsV]; try omega) (by rw [HT.out, HX.out]; simp [numsV, Lib.byteCells])
        rw [← HV.out] at hfin
        have HFin := Lib.hid hfin
        clear P8b P7b D7b P5b hb5b hg5b hb7b hb8b hg8b hgdb hfin
        go_wp2_with fail
        go_ret
        exact HFin.out
      · have hT := ttB_4 ts[i] hk
        rw [hna, Int.toNat_natCast] at hT
        have HT := Lib.hid hT
        rw [hk] at y0
        obtain ⟨rv, WK, n0, xs0, hn0, hxs0, hn10, hcv, P0⟩ := ts_start { data := #[104, 97, 115, 104] } (by decide) w w1 HB.out (.int .i64 4) (.int .i64 na) (.int .i64 nb) (.slice A2 ts[i].text.length c2) 71 9 #[.string { data := #[110, 111, 110, 99, 101] }, .string { data := #[107, 101, 121] }, .string { data := #[116, 101, 120, 116] }, .string { data := #[112, 97, 105, 114] }, .string { data := #[104, 97, 115, 104] }, .string { data := #[115, 101, 97, 108] }, .string { data := #[115, 105, 103, 110] }]
        have HP := Lib.hid P0
        have HN := Lib.hid hn0
        have HX := Lib.hid hxs0
        have p0 := P0.t0
        have hq0 := P0.lt
        clear hT hk hna hnb P0 hn0 hxs0
        go_wp2_with fail
        go_region_held3 (fun W => W.cell? ⟨w1.heap.size, 1, none⟩ = some (.int .i64 na))
          (first | exact Yx.t1 (w := w) (by repeat first | with_reducible exact P8a | with_reducible exact P7a | with_reducible exact P5a | with_reducible exact HP.out | with_reducible apply Yx.drew | with_reducible apply Yx.alloc))
          (first
            | (refine step_append_byt (by rfl) _ _ _ _ (by rfl) (w1.heap.size + 1) 5 i0 Tryd.underlying22 hi0 hz0 hz1' hz2 v5a (n0 + 1) (xs0 ++ [.int .u8 32]) (by rfl) ?_ (.slice (some ⟨gda, 0, none⟩) (Lib.decDigits na).length cda) (Lib.decDigits na).length (Lib.byteCells (Lib.decDigits na)) (by rfl) (Dg.src (g := gda) (c := cda) ?_) (by omega) ?_ ?_
               · exact Yx.row (w := w) (b := w1.heap.size) (by repeat first | with_reducible exact P7a | with_reducible apply Yx.drew | with_reducible apply Yx.alloc)
               · (repeat first | with_reducible exact D7a | with_reducible apply Dg.drew | with_reducible apply Dg.alloc)
               · exact Yx.le (w := w) (b := w1.heap.size) (by repeat first | with_reducible exact P7a | with_reducible apply Yx.drew | with_reducible apply Yx.alloc)
               intro v8a w8a hb8a hg8a
               have P8a : Yx w w1.heap.size (.int .i64 4) (.int .i64 na) (.int .i64 nb) (.slice A2 ts[i].text.length c2) v8a (n0 + 1 + (Lib.decDigits na).length) (xs0 ++ [.int .u8 32] ++ Lib.byteCells (Lib.decDigits na)) w8a := Yx.put (by repeat first | with_reducible exact P7a | with_reducible apply Yx.drew | with_reducible apply Yx.alloc) hb8a hg8a)
            | (refine step_append_byt (by rfl) _ _ _ _ (by rfl) (w1.heap.size + 1) 5 i0 Tryd.underlying22 hi0 hz0 hz1' hz2 rv n0 xs0 (by rfl) ?_ (.slice (some ⟨_, 0, none⟩) 1 1) 1 [.int .u8 32] (by rfl) (SpIn.src ?_) (by omega) ?_ ?_
               · exact Yx.row (w := w) (b := w1.heap.size) (by repeat first | with_reducible exact HP.out | with_reducible apply Yx.drew | with_reducible apply Yx.alloc)
               · (repeat first | with_reducible exact SpIn.fresh (by simp) | with_reducible apply SpIn.drew | with_reducible apply SpIn.alloc)
               · exact Yx.le (w := w) (b := w1.heap.size) (by repeat first | with_reducible exact HP.out | with_reducible apply Yx.drew | with_reducible apply Yx.alloc)
               intro v5a w5a hb5a hg5a
               have P5a : Yx w w1.heap.size (.int .i64 4) (.int .i64 na) (.int .i64 nb) (.slice A2 ts[i].text.length c2) v5a (n0 + 1) (xs0 ++ [.int .u8 32]) w5a := Yx.put (by repeat first | with_reducible exact HP.out | with_reducible apply Yx.drew | with_reducible apply Yx.alloc) hb5a hg5a)
            | (go_at_call 30
               refine (l1digits_dg na (by omega) _).mono ?_
               rintro e w7a ⟨gda, cda, rfl, D7a, hgda, hb7a⟩
               have P7a : Yx w w1.heap.size (.int .i64 4) (.int .i64 na) (.int .i64 nb) (.slice A2 ts[i].text.length c2) v5a (n0 + 1) (xs0 ++ [.int .u8 32]) w7a := Yx.below (by repeat first | with_reducible exact P5a | with_reducible apply Yx.drew | with_reducible apply Yx.alloc) hb7a))
        have hfin := Yx.fin P8a (ttB ts[i]) (by rw [HT.out, HN.out]; simp [numsV]; try omega) (by rw [HT.out, HX.out]; simp [numsV, Lib.byteCells])
        rw [← HV.out] at hfin
        have HFin := Lib.hid hfin
        clear P8a P7a D7a P5a hb5a hg5a hb7a hb8a hg8a hgda hfin
        go_wp2_with fail
        go_ret
        exact HFin.out
      · have hT := ttB_5 ts[i] hk
        rw [hna, hnb, Int.toNat_natCast, Int.toNat_natCast] at hT
        have HT := Lib.hid hT
        rw [hk] at y0
        obtain ⟨rv, WK, n0, xs0, hn0, hxs0, hn10, hcv, P0⟩ := ts_start { data := #[115, 101, 97, 108] } (by decide) w w1 HB.out (.int .i64 5) (.int .i64 na) (.int .i64 nb) (.slice A2 ts[i].text.length c2) 71 9 #[.string { data := #[110, 111, 110, 99, 101] }, .string { data := #[107, 101, 121] }, .string { data := #[116, 101, 120, 116] }, .string { data := #[112, 97, 105, 114] }, .string { data := #[104, 97, 115, 104] }, .string { data := #[115, 101, 97, 108] }, .string { data := #[115, 105, 103, 110] }]
        have HP := Lib.hid P0
        have HN := Lib.hid hn0
        have HX := Lib.hid hxs0
        have p0 := P0.t0
        have hq0 := P0.lt
        clear hT hk hna hnb P0 hn0 hxs0
        go_wp2_with fail
        go_region_held3 (fun W => W.cell? ⟨w1.heap.size, 1, none⟩ = some (.int .i64 na))
          (first | exact Yx.t1 (w := w) (by repeat first | with_reducible exact P8a | with_reducible exact P7a | with_reducible exact P5a | with_reducible exact HP.out | with_reducible apply Yx.drew | with_reducible apply Yx.alloc))
          (first
            | (refine step_append_byt (by rfl) _ _ _ _ (by rfl) (w1.heap.size + 1) 5 i0 Tryd.underlying22 hi0 hz0 hz1' hz2 v5a (n0 + 1) (xs0 ++ [.int .u8 32]) (by rfl) ?_ (.slice (some ⟨gda, 0, none⟩) (Lib.decDigits na).length cda) (Lib.decDigits na).length (Lib.byteCells (Lib.decDigits na)) (by rfl) (Dg.src (g := gda) (c := cda) ?_) (by omega) ?_ ?_
               · exact Yx.row (w := w) (b := w1.heap.size) (by repeat first | with_reducible exact P7a | with_reducible apply Yx.drew | with_reducible apply Yx.alloc)
               · (repeat first | with_reducible exact D7a | with_reducible apply Dg.drew | with_reducible apply Dg.alloc)
               · exact Yx.le (w := w) (b := w1.heap.size) (by repeat first | with_reducible exact P7a | with_reducible apply Yx.drew | with_reducible apply Yx.alloc)
               intro v8a w8a hb8a hg8a
               have P8a : Yx w w1.heap.size (.int .i64 5) (.int .i64 na) (.int .i64 nb) (.slice A2 ts[i].text.length c2) v8a (n0 + 1 + (Lib.decDigits na).length) (xs0 ++ [.int .u8 32] ++ Lib.byteCells (Lib.decDigits na)) w8a := Yx.put (by repeat first | with_reducible exact P7a | with_reducible apply Yx.drew | with_reducible apply Yx.alloc) hb8a hg8a)
            | (refine step_append_byt (by rfl) _ _ _ _ (by rfl) (w1.heap.size + 1) 5 i0 Tryd.underlying22 hi0 hz0 hz1' hz2 rv n0 xs0 (by rfl) ?_ (.slice (some ⟨_, 0, none⟩) 1 1) 1 [.int .u8 32] (by rfl) (SpIn.src ?_) (by omega) ?_ ?_
               · exact Yx.row (w := w) (b := w1.heap.size) (by repeat first | with_reducible exact HP.out | with_reducible apply Yx.drew | with_reducible apply Yx.alloc)
               · (repeat first | with_reducible exact SpIn.fresh (by simp) | with_reducible apply SpIn.drew | with_reducible apply SpIn.alloc)
               · exact Yx.le (w := w) (b := w1.heap.size) (by repeat first | with_reducible exact HP.out | with_reducible apply Yx.drew | with_reducible apply Yx.alloc)
               intro v5a w5a hb5a hg5a
               have P5a : Yx w w1.heap.size (.int .i64 5) (.int .i64 na) (.int .i64 nb) (.slice A2 ts[i].text.length c2) v5a (n0 + 1) (xs0 ++ [.int .u8 32]) w5a := Yx.put (by repeat first | with_reducible exact HP.out | with_reducible apply Yx.drew | with_reducible apply Yx.alloc) hb5a hg5a)
            | (go_at_call 30
               refine (l1digits_dg na (by omega) _).mono ?_
               rintro e w7a ⟨gda, cda, rfl, D7a, hgda, hb7a⟩
               have P7a : Yx w w1.heap.size (.int .i64 5) (.int .i64 na) (.int .i64 nb) (.slice A2 ts[i].text.length c2) v5a (n0 + 1) (xs0 ++ [.int .u8 32]) w7a := Yx.below (by repeat first | with_reducible exact P5a | with_reducible apply Yx.drew | with_reducible apply Yx.alloc) hb7a))
        have HP8a := Lib.hid P8a
        clear P8a P7a D7a P5a hb5a hg5a hb7a hb8a hg8a hgda
        go_wp2_with fail
        go_region_held3 (fun W => W.cell? ⟨w1.heap.size, 2, none⟩ = some (.int .i64 nb))
          (first | exact Yx.t2 (w := w) (by repeat first | with_reducible exact P8b | with_reducible exact P7b | with_reducible exact P5b | with_reducible exact HP8a.out | with_reducible apply Yx.drew | with_reducible apply Yx.alloc))
          (first
            | (refine step_append_byt (by rfl) _ _ _ _ (by rfl) (w1.heap.size + 1) 5 i0 Tryd.underlying22 hi0 hz0 hz1' hz2 v5b ((n0 + 1 + (Lib.decDigits na).length) + 1) ((xs0 ++ [.int .u8 32] ++ Lib.byteCells (Lib.decDigits na)) ++ [.int .u8 32]) (by rfl) ?_ (.slice (some ⟨gdb, 0, none⟩) (Lib.decDigits nb).length cdb) (Lib.decDigits nb).length (Lib.byteCells (Lib.decDigits nb)) (by rfl) (Dg.src (g := gdb) (c := cdb) ?_) (by omega) ?_ ?_
               · exact Yx.row (w := w) (b := w1.heap.size) (by repeat first | with_reducible exact P7b | with_reducible apply Yx.drew | with_reducible apply Yx.alloc)
               · (repeat first | with_reducible exact D7b | with_reducible apply Dg.drew | with_reducible apply Dg.alloc)
               · exact Yx.le (w := w) (b := w1.heap.size) (by repeat first | with_reducible exact P7b | with_reducible apply Yx.drew | with_reducible apply Yx.alloc)
               intro v8b w8b hb8b hg8b
               have P8b : Yx w w1.heap.size (.int .i64 5) (.int .i64 na) (.int .i64 nb) (.slice A2 ts[i].text.length c2) v8b ((n0 + 1 + (Lib.decDigits na).length) + 1 + (Lib.decDigits nb).length) ((xs0 ++ [.int .u8 32] ++ Lib.byteCells (Lib.decDigits na)) ++ [.int .u8 32] ++ Lib.byteCells (Lib.decDigits nb)) w8b := Yx.put (by repeat first | with_reducible exact P7b | with_reducible apply Yx.drew | with_reducible apply Yx.alloc) hb8b hg8b)
            | (refine step_append_byt (by rfl) _ _ _ _ (by rfl) (w1.heap.size + 1) 5 i0 Tryd.underlying22 hi0 hz0 hz1' hz2 v8a (n0 + 1 + (Lib.decDigits na).length) (xs0 ++ [.int .u8 32] ++ Lib.byteCells (Lib.decDigits na)) (by rfl) ?_ (.slice (some ⟨_, 0, none⟩) 1 1) 1 [.int .u8 32] (by rfl) (SpIn.src ?_) (by omega) ?_ ?_
               · exact Yx.row (w := w) (b := w1.heap.size) (by repeat first | with_reducible exact HP8a.out | with_reducible apply Yx.drew | with_reducible apply Yx.alloc)
               · (repeat first | with_reducible exact SpIn.fresh (by simp) | with_reducible apply SpIn.drew | with_reducible apply SpIn.alloc)
               · exact Yx.le (w := w) (b := w1.heap.size) (by repeat first | with_reducible exact HP8a.out | with_reducible apply Yx.drew | with_reducible apply Yx.alloc)
               intro v5b w5b hb5b hg5b
               have P5b : Yx w w1.heap.size (.int .i64 5) (.int .i64 na) (.int .i64 nb) (.slice A2 ts[i].text.length c2) v5b ((n0 + 1 + (Lib.decDigits na).length) + 1) ((xs0 ++ [.int .u8 32] ++ Lib.byteCells (Lib.decDigits na)) ++ [.int .u8 32]) w5b := Yx.put (by repeat first | with_reducible exact HP8a.out | with_reducible apply Yx.drew | with_reducible apply Yx.alloc) hb5b hg5b)
            | (go_at_call 30
               refine (l1digits_dg nb (by omega) _).mono ?_
               rintro e w7b ⟨gdb, cdb, rfl, D7b, hgdb, hb7b⟩
               have P7b : Yx w w1.heap.size (.int .i64 5) (.int .i64 na) (.int .i64 nb) (.slice A2 ts[i].text.length c2) v5b ((n0 + 1 + (Lib.decDigits na).length) + 1) ((xs0 ++ [.int .u8 32] ++ Lib.byteCells (Lib.decDigits na)) ++ [.int .u8 32]) w7b := Yx.below (by repeat first | with_reducible exact P5b | with_reducible apply Yx.drew | with_reducible apply Yx.alloc) hb7b))
        have hfin := Yx.fin P8b (ttB ts[i]) (by rw [HT.out, HN.out]; simp [numsV]; try omega) (by rw [HT.out, HX.out]; simp [numsV, Lib.byteCells])
        rw [← HV.out] at hfin
        have HFin := Lib.hid hfin
        clear P8b P7b D7b P5b hb5b hg5b hb7b hb8b hg8b hgdb hfin
        go_wp2_with fail
        go_ret
        exact HFin.out
      · have hT := ttB_6 ts[i] hk
        rw [hna, hnb, Int.toNat_natCast, Int.toNat_natCast] at hT
        have HT := Lib.hid hT
        rw [hk] at y0
        obtain ⟨rv, WK, n0, xs0, hn0, hxs0, hn10, hcv, P0⟩ := ts_start { data := #[115, 105, 103, 110] } (by decide) w w1 HB.out (.int .i64 6) (.int .i64 na) (.int .i64 nb) (.slice A2 ts[i].text.length c2) 71 9 #[.string { data := #[110, 111, 110, 99, 101] }, .string { data := #[107, 101, 121] }, .string { data := #[116, 101, 120, 116] }, .string { data := #[112, 97, 105, 114] }, .string { data := #[104, 97, 115, 104] }, .string { data := #[115, 101, 97, 108] }, .string { data := #[115, 105, 103, 110] }]
        have HP := Lib.hid P0
        have HN := Lib.hid hn0
        have HX := Lib.hid hxs0
        have p0 := P0.t0
        have hq0 := P0.lt
        clear hT hk hna hnb P0 hn0 hxs0
        go_wp2_with fail
        go_region_held3 (fun W => W.cell? ⟨w1.heap.size, 1, none⟩ = some (.int .i64 na))
          (first | exact Yx.t1 (w := w) (by repeat first | with_reducible exact P8a | with_reducible exact P7a | with_reducible exact P5a | with_reducible exact HP.out | with_reducible apply Yx.drew | with_reducible apply Yx.alloc))
          (first
            | (refine step_append_byt (by rfl) _ _ _ _ (by rfl) (w1.heap.size + 1) 5 i0 Tryd.underlying22 hi0 hz0 hz1' hz2 v5a (n0 + 1) (xs0 ++ [.int .u8 32]) (by rfl) ?_ (.slice (some ⟨gda, 0, none⟩) (Lib.decDigits na).length cda) (Lib.decDigits na).length (Lib.byteCells (Lib.decDigits na)) (by rfl) (Dg.src (g := gda) (c := cda) ?_) (by omega) ?_ ?_
               · exact Yx.row (w := w) (b := w1.heap.size) (by repeat first | with_reducible exact P7a | with_reducible apply Yx.drew | with_reducible apply Yx.alloc)
               · (repeat first | with_reducible exact D7a | with_reducible apply Dg.drew | with_reducible apply Dg.alloc)
               · exact Yx.le (w := w) (b := w1.heap.size) (by repeat first | with_reducible exact P7a | with_reducible apply Yx.drew | with_reducible apply Yx.alloc)
               intro v8a w8a hb8a hg8a
               have P8a : Yx w w1.heap.size (.int .i64 6) (.int .i64 na) (.int .i64 nb) (.slice A2 ts[i].text.length c2) v8a (n0 + 1 + (Lib.decDigits na).length) (xs0 ++ [.int .u8 32] ++ Lib.byteCells (Lib.decDigits na)) w8a := Yx.put (by repeat first | with_reducible exact P7a | with_reducible apply Yx.drew | with_reducible apply Yx.alloc) hb8a hg8a)
            | (refine step_append_byt (by rfl) _ _ _ _ (by rfl) (w1.heap.size + 1) 5 i0 Tryd.underlying22 hi0 hz0 hz1' hz2 rv n0 xs0 (by rfl) ?_ (.slice (some ⟨_, 0, none⟩) 1 1) 1 [.int .u8 32] (by rfl) (SpIn.src ?_) (by omega) ?_ ?_
               · exact Yx.row (w := w) (b := w1.heap.size) (by repeat first | with_reducible exact HP.out | with_reducible apply Yx.drew | with_reducible apply Yx.alloc)
               · (repeat first | with_reducible exact SpIn.fresh (by simp) | with_reducible apply SpIn.drew | with_reducible apply SpIn.alloc)
               · exact Yx.le (w := w) (b := w1.heap.size) (by repeat first | with_reducible exact HP.out | with_reducible apply Yx.drew | with_reducible apply Yx.alloc)
               intro v5a w5a hb5a hg5a
               have P5a : Yx w w1.heap.size (.int .i64 6) (.int .i64 na) (.int .i64 nb) (.slice A2 ts[i].text.length c2) v5a (n0 + 1) (xs0 ++ [.int .u8 32]) w5a := Yx.put (by repeat first | with_reducible exact HP.out | with_reducible apply Yx.drew | with_reducible apply Yx.alloc) hb5a hg5a)
            | (go_at_call 30
               refine (l1digits_dg na (by omega) _).mono ?_
               rintro e w7a ⟨gda, cda, rfl, D7a, hgda, hb7a⟩
               have P7a : Yx w w1.heap.size (.int .i64 6) (.int .i64 na) (.int .i64 nb) (.slice A2 ts[i].text.length c2) v5a (n0 + 1) (xs0 ++ [.int .u8 32]) w7a := Yx.below (by repeat first | with_reducible exact P5a | with_reducible apply Yx.drew | with_reducible apply Yx.alloc) hb7a))
        have HP8a := Lib.hid P8a
        clear P8a P7a D7a P5a hb5a hg5a hb7a hb8a hg8a hgda
        go_wp2_with fail
        go_region_held3 (fun W => W.cell? ⟨w1.heap.size, 2, none⟩ = some (.int .i64 nb))
          (first | exact Yx.t2 (w := w) (by repeat first | with_reducible exact P8b | with_reducible exact P7b | with_reducible exact P5b | with_reducible exact HP8a.out | with_reducible apply Yx.drew | with_reducible apply Yx.alloc))
          (first
            | (refine step_append_byt (by rfl) _ _ _ _ (by rfl) (w1.heap.size + 1) 5 i0 Tryd.underlying22 hi0 hz0 hz1' hz2 v5b ((n0 + 1 + (Lib.decDigits na).length) + 1) ((xs0 ++ [.int .u8 32] ++ Lib.byteCells (Lib.decDigits na)) ++ [.int .u8 32]) (by rfl) ?_ (.slice (some ⟨gdb, 0, none⟩) (Lib.decDigits nb).length cdb) (Lib.decDigits nb).length (Lib.byteCells (Lib.decDigits nb)) (by rfl) (Dg.src (g := gdb) (c := cdb) ?_) (by omega) ?_ ?_
               · exact Yx.row (w := w) (b := w1.heap.size) (by repeat first | with_reducible exact P7b | with_reducible apply Yx.drew | with_reducible apply Yx.alloc)
               · (repeat first | with_reducible exact D7b | with_reducible apply Dg.drew | with_reducible apply Dg.alloc)
               · exact Yx.le (w := w) (b := w1.heap.size) (by repeat first | with_reducible exact P7b | with_reducible apply Yx.drew | with_reducible apply Yx.alloc)
               intro v8b w8b hb8b hg8b
               have P8b : Yx w w1.heap.size (.int .i64 6) (.int .i64 na) (.int .i64 nb) (.slice A2 ts[i].text.length c2) v8b ((n0 + 1 + (Lib.decDigits na).length) + 1 + (Lib.decDigits nb).length) ((xs0 ++ [.int .u8 32] ++ Lib.byteCells (Lib.decDigits na)) ++ [.int .u8 32] ++ Lib.byteCells (Lib.decDigits nb)) w8b := Yx.put (by repeat first | with_reducible exact P7b | with_reducible apply Yx.drew | with_reducible apply Yx.alloc) hb8b hg8b)
            | (refine step_append_byt (by rfl) _ _ _ _ (by rfl) (w1.heap.size + 1) 5 i0 Tryd.underlying22 hi0 hz0 hz1' hz2 v8a (n0 + 1 + (Lib.decDigits na).length) (xs0 ++ [.int .u8 32] ++ Lib.byteCells (Lib.decDigits na)) (by rfl) ?_ (.slice (some ⟨_, 0, none⟩) 1 1) 1 [.int .u8 32] (by rfl) (SpIn.src ?_) (by omega) ?_ ?_
               · exact Yx.row (w := w) (b := w1.heap.size) (by repeat first | with_reducible exact HP8a.out | with_reducible apply Yx.drew | with_reducible apply Yx.alloc)
               · (repeat first | with_reducible exact SpIn.fresh (by simp) | with_reducible apply SpIn.drew | with_reducible apply SpIn.alloc)
               · exact Yx.le (w := w) (b := w1.heap.size) (by repeat first | with_reducible exact HP8a.out | with_reducible apply Yx.drew | with_reducible apply Yx.alloc)
               intro v5b w5b hb5b hg5b
               have P5b : Yx w w1.heap.size (.int .i64 6) (.int .i64 na) (.int .i64 nb) (.slice A2 ts[i].text.length c2) v5b ((n0 + 1 + (Lib.decDigits na).length) + 1) ((xs0 ++ [.int .u8 32] ++ Lib.byteCells (Lib.decDigits na)) ++ [.int .u8 32]) w5b := Yx.put (by repeat first | with_reducible exact HP8a.out | with_reducible apply Yx.drew | with_reducible apply Yx.alloc) hb5b hg5b)
            | (go_at_call 30
               refine (l1digits_dg nb (by omega) _).mono ?_
               rintro e w7b ⟨gdb, cdb, rfl, D7b, hgdb, hb7b⟩
               have P7b : Yx w w1.heap.size (.int .i64 6) (.int .i64 na) (.int .i64 nb) (.slice A2 ts[i].text.length c2) v5b ((n0 + 1 + (Lib.decDigits na).length) + 1) ((xs0 ++ [.int .u8 32] ++ Lib.byteCells (Lib.decDigits na)) ++ [.int .u8 32]) w7b := Yx.below (by repeat first | with_reducible exact P5b | with_reducible apply Yx.drew | with_reducible apply Yx.alloc) hb7b))
        have hfin := Yx.fin P8b (ttB ts[i]) (by rw [HT.out, HN.out]; simp [numsV]; try omega) (by rw [HT.out, HX.out]; simp [numsV, Lib.byteCells])
        rw [← HV.out] at hfin
        have HFin := Lib.hid hfin
        clear P8b P7b D7b P5b hb5b hg5b hb7b hb8b hg8b hgdb hfin
        go_wp2_with fail
        go_ret
        exact HFin.out
    · have HV := Lib.hid (show ttV ts id = [] by simp [ttV, hasB_iff, hr])
      clear hl
      by_cases h0 : id < 0
      · clear hr
        go_wp2_with fail
        all_goals go_ret
        all_goals (rw [HV.out]; exact .nil HB.out)
      · have h1 : (ts.length : Int) ≤ id := by omega
        have h0' : 0 ≤ id := by omega
        clear hr h0
        go_wp2_with fail
        all_goals go_ret
        all_goals (rw [HV.out]; exact .nil HB.out)
end

end Go.Proofs.YtkmoihkpaccbdaaDoor
