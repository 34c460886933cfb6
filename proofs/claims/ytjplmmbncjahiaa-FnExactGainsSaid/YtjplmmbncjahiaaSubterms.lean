/-
  Subterms: the model's and the program's answer alike.
-/
import Derived.Test.YtjplmmbncjahiaaReach
import Derived.Deep.RegionHeld3
namespace Go.Proofs.Ytjplmmbncjahiaa
open Go.RowKit Go.Maps

set_option maxRecDepth 100000 in
set_option maxHeartbeats 2000000 in
theorem l1mark_any (ts : List Tm) (hok : LOk ts) (R : Nat) : ∀ (i : Nat) (_ : i < ts.length) (f : Nat → Bool) (A : Option Addr) (c L B : Nat) (w : World) (_ : TmsIn w L B A ts) (_ : B ≤ w.heap.size) (_ : R < L ∨ B ≤ R)
    (_ : w.rowIs R 4 ts.length (fun m => .bool (f m))) (_ : Cl ts f i),
    Calls Try.prog 70 #[.agg #[.slice A ts.length c], .int .i64 i, .slice (some ⟨R, 0, none⟩) ts.length ts.length] w fun e w' => e = .returned (.tuple #[]) ∧ w'.rowIs R 4 ts.length (fun m => .bool (f m || reachB ts i m)) ∧ w.grownBy w' (some R) := by
  intro i
  induction i using Nat.strongRecOn with
  | ind i ih =>
  intro hi f A c L B w hA hB hRB hrow hcl
  have IH := Lib.hid ih
  have HA := Lib.hid hA
  have HRow := Lib.hid hrow
  have hRlt := hrow.lt
  have hn4 : ts.length ≤ 400 := hok.1
  obtain ⟨b, o, rfl, hL, hb, hc⟩ := hA (by omega)
  obtain ⟨A1, c1, x0, x1, x2, x3, _⟩ := hc i hi
  have hbR : b ≠ R := by omega
  obtain ⟨ob, hob⟩ : ∃ ob : Obj, ob = .cells #[.slice (some ⟨b, o, none⟩) ts.length c] 30 := ⟨_, rfl⟩
  have hk0 := (hrow.alloc ob).cell (i := i) hi
  have hf0 := (hrow.alloc ob).frozen i
  have hX : ∀ m v, w.cell? ⟨b, m, none⟩ = some v → ((w.setCell ⟨R, i, none⟩ (.bool true)).alloc ob).cell? ⟨b, m, none⟩ = some v := fun m v hv => by
    rw [World.cell?_alloc_lt _ _ _ (by simp; omega), World.cell?_setCell_other _ _ _ _ (fun h => hbR (congrArg Addr.block h).symm)]
    exact hv
  have y0 := hX _ _ x0
  have y1 := hX _ _ x1
  have y2 := hX _ _ x2
  have y3 := hX _ _ x3
  have yb : ((w.setCell ⟨R, i, none⟩ (.bool true)).alloc ob).cell? ⟨w.heap.size, 0, none⟩ = some (.slice (some ⟨b, o, none⟩) ts.length c) := by
    rw [hob]
    simpa using World.cell?_alloc_new (w.setCell ⟨R, i, none⟩ (.bool true)) #[.slice (some ⟨b, o, none⟩) ts.length c] 30 0
  have hgb : w.grownBy ((w.setCell ⟨R, i, none⟩ (.bool true)).alloc ob) (some R) := gb_below (gb_set (gb_refl _ _) _ _) ((Below.refl _ _).alloc (Nat.le_refl _) _)
  have hrow1 := ((hrow.set i (.bool true)).alloc ob).congr (g := fun m => .bool (if m = i then true else f m)) (fun m _ => by split <;> rfl)
  have HGb := Lib.hid hgb
  have HRow1 := Lib.hid hrow1
  have HC := Lib.hid hcl
  have hs1 : ((w.setCell ⟨R, i, none⟩ (.bool true)).alloc ob).heap.size = w.heap.size + 1 := by simp
  subst hob
  clear ih hA hrow hc x0 x1 x2 x3 hX hgb hrow1 hcl
  go_enter Try.func70, Try.ntmps70
  go_wp2_with fail
  refine (l1parts_any ts[i] A1 c1 _).mono ?_
  rintro e w2 ⟨A2, c2, rfl, _, _, hints, hb2⟩
  rw [hs1] at hints hb2
  have hat := tmAt_nat ts i hi
  have hlen2 := partsV_length ts[i]
  have HL := Lib.hid (show partsV (tmAt ts i) = partsV ts[i] by rw [hat])
  have hz2 : w.heap.size + 1 ≤ w2.heap.size := by have := hb2.size; rw [hs1] at this; exact this
  have HInts := Lib.hid hints
  have HRow2 := Lib.hid (rowIs_below HRow1.out hb2 (by omega))
  have HG2 := Lib.hid (gb_below HGb.out (by rw [hs1]; exact hb2))
  have HBox2 := Lib.hid ((hb2.cell (p := ⟨w.heap.size, 0, none⟩) (by show w.heap.size < _; omega)).trans yb)
  generalize partsV ts[i] = l at *
  clear y0 y1 y2 y3 yb hk0 hf0 hints hb2 hat hs1
  go_wp2_with fail
  go_loopw [7] (fun y wi => ∃ (j : Nat) (g : Nat → Bool), j ≤ l.length ∧ y = .int .i64 j ∧ Mk ts i l f j g ∧ wi.rowIs R 4 ts.length (fun m => .bool (g m)) ∧ w2.grownBy wi (some R)) (fun y _ => l.length - (intOf y).toNat)
  case atStart => exact ⟨0, _, Nat.zero_le _, rfl, Mk.start hok hi HC.out, HRow2.out, gb_refl _ _⟩
  case round =>
    obtain ⟨j, g, hj, rfl, hmk, hrowj, hgj⟩ := hrel
    have HMk := Lib.hid hmk
    have HRowj := Lib.hid hrowj
    have HGj := Lib.hid hgj
    have hzj := hgj.size
    clear hmk
    by_cases hjl : j < l.length
    · obtain ⟨b2, o2, rfl, hL2, hlt2, hcell⟩ := HInts.out (by omega)
      have hmem : l[j] ∈ partsV (tmAt ts i) := by rw [HL.out]; exact List.getElem_mem hjl
      obtain ⟨hp0, hpi⟩ := parts_lt hok hi hmem
      obtain ⟨q, hq⟩ := Int.eq_ofNat_of_zero_le hp0
      have hcj := (gb_cell hgj (p := ⟨b2, o2 + j, none⟩) hlt2 (by show b2 ≠ R; omega)).trans (hcell j hjl)
      have hbx := (gb_cell hgj (p := ⟨w.heap.size, 0, none⟩) (by show w.heap.size < _; omega) (by show w.heap.size ≠ R; omega)).trans HBox2.out
      have HMem := Lib.hid hmem
      have HQ := Lib.hid (show l[j].toNat = q by rw [hq, Int.toNat_natCast])
      rw [hq] at hcj hpi
      have hqi : q < i := by omega
      have hqn : q < ts.length := by omega
      have hq0 := hrowj.cell (i := q) hqn
      clear hrowj hgj hcell hmem hp0 hpi hq
      cases hg : g q with
      | true =>
        have HX := Lib.hid (show g l[j].toNat = true by rw [HQ.out, hg])
        simp only [hg] at hq0
        clear hg
        go_wp2_with fail
        go_roundw
        case rel => exact ⟨j + 1, g, by omega, by go_num, HMk.out.skip hjl HX.out, HRowj.out, HGj.out⟩
        case measure => simp [intOf]; omega
      | false =>
        simp only [hg] at hq0
        clear hg
        go_wp2_with fail
        go_region_held3 (fun W => W.cell? ⟨w.heap.size, 0, none⟩ = some (.slice (some ⟨b, o, none⟩) ts.length c) ∧ W.cell? ⟨b2, o2 + j, none⟩ = some (.int .i64 q))
          (first | exact ⟨hbx, hcj⟩ | exact ⟨hbx5, hcj5⟩)
          (first
            | (go_at_call 70
               refine (IH.out q hqi hqn g _ c L B _ ?_ ?_ hRB ?_ (fun m hm hg p hp => HMk.out.closed m (by omega) hg p hp)).mono ?_
               · exact HA.out.keep fun p hp hpB => (gb_cell (gb_trans HG2.out HGj.out) (by omega) (by omega))
               · show B ≤ wr.heap.size
                 omega
               · exact HRowj.out
               rintro e w5 ⟨rfl, hrow5, hg5⟩
               have hbx5 := (gb_cell hg5 (p := ⟨w.heap.size, 0, none⟩) (by show w.heap.size < wr.heap.size; omega) (by show w.heap.size ≠ R; omega)).trans hbx
               have hcj5 := (gb_cell hg5 (p := ⟨b2, o2 + j, none⟩) (by show b2 < wr.heap.size; omega) (by show b2 ≠ R; omega)).trans hcj
               have HRow5 := Lib.hid hrow5
               have HG5 := Lib.hid (show w2.grownBy w5 (some R) by first | exact gb_trans HGj.out hg5 | exact gb_trans (gb_drew HGj.out) hg5 | exact gb_trans (gb_drew (gb_drew HGj.out)) hg5)
               clear hrow5 hg5))
        go_wp2_with fail
        go_roundw
        case rel =>
          refine ⟨j + 1, _, by omega, by go_num, HMk.out.sub hjl HMem.out, ?_, HG5.out⟩
          rw [HQ.out]
          exact HRow5.out
        case measure => simp [intOf]; omega
    · have hje : j = l.length := by omega
      have HFin := Lib.hid (show wr.rowIs R 4 ts.length (fun m => .bool (f m || reachB ts i m)) from hrowj.congr fun m _ => by
        have h := HMk.out
        rw [hje, ← HL.out] at h
        rw [h.all hok hi m])
      clear hrowj hgj hje
      go_wp2_with fail
      go_returns
      exact ⟨rfl, HFin.out, gb_trans HG2.out HGj.out⟩

theorem Down.pass {ts : List Tm} {i k : Nat} {g : Nat → Bool} (h : Down ts i (k + 1) g) (hk : g k = true → ∀ p ∈ partsV (tmAt ts k), g p.toNat = true) : Down ts i k g where
  own := h.own
  sole := h.sole
  done m hm hg p hp := by
    by_cases e : m = k
    · subst e; exact hk hg p hp
    · exact h.done m (by omega) hg p hp

theorem Down.put {ts : List Tm} {i k q : Nat} {g : Nat → Bool} (h : Down ts i (k + 1) g) (hk : g k = true) (hq : q < k) (hp : ((q : Nat) : Int) ∈ partsV (tmAt ts k)) : Down ts i (k + 1) (fun m => if m = q then true else g m) where
  own := by show (if i = q then true else g i) = true; split <;> simp [h.own]
  sole m hm := by
    by_cases e : m = q
    · subst e
      have := reach_step (h.sole k hk) hp
      simpa using this
    · exact h.sole m (by simpa [e] using hm)
  done m hm hg p hpm := by
    simp only [show m ≠ q by omega, if_false] at hg
    show (if p.toNat = q then true else g p.toNat) = true
    split
    · rfl
    · exact h.done m hm hg p hpm

theorem Down.start (ts : List Tm) (i : Nat) : Down ts i (i + 1) (fun m => if m = i then true else false) where
  own := if_pos rfl
  sole m hm := by
    by_cases e : m = i
    · subst e; exact .refl _
    · simp [e] at hm
  done m hm hg := by simp [show m ≠ i by omega] at hg

section
variable (A : Option Addr) (ts : List Tm) (c L B : Nat) (id : Int) (w : World)

set_option maxRecDepth 100000 in
set_option maxHeartbeats 1000000 in
theorem specSubterms_any (hA : TmsIn w L B A ts) (hB : B ≤ w.heap.size) (hn : ts.length ≤ 1048576) (hbk : bulk ts ≤ 1048576) :
    Calls Try.prog 47 #[.agg #[.slice A ts.length c], .int .i64 id] w (NewIntsFr (subsV ts id) w) := by
  have HA := Lib.hid hA
  clear hA
  go_enter Try.func47, Try.ntmps47
  go_wp2_with fail
  have hb0 : Below w.heap.size w (w.alloc (.cells #[.slice A ts.length c] 30)) := (Below.refl _ _).alloc (Nat.le_refl _) _
  refine (specLedgerOk_any A ts c L B _ (HA.out.keep fun p _ hp => hb0.cell (by omega)) (by simp; omega) hn hbk).mono ?_
  rintro e w1 ⟨rfl, hb1⟩
  have b1 : w1.cell? ⟨w.heap.size, 0, none⟩ = some (.slice A ts.length c) := (hb1.cell (p := ⟨w.heap.size, 0, none⟩) (by simp)).trans (by simp)
  have hz1 : w.heap.size < w1.heap.size := by have := hb1.size; simp at this; omega
  have HB := Lib.hid (hb0.trans (hb1.mono (by simp)))
  clear hb0 hb1
  cases hl : lokB ts with
  | false =>
    have HV := Lib.hid (show subsV ts id = [] by simp [subsV, hl])
    clear hl
    go_wp2_with fail
    all_goals go_ret
    all_goals (rw [HV.out]; exact .nil HB.out)
  | true =>
    have HOk := Lib.hid (lok_of hl)
    by_cases hr : 0 ≤ id ∧ id < ts.length
    · obtain ⟨i, rfl⟩ := Int.eq_ofNat_of_zero_le hr.1
      have hi : i < ts.length := by omega
      have hhas := (hasB_iff ts.length i).2 hr
      have HV := Lib.hid (show subsV ts i = pick (reachB ts i) ts.length by simp [subsV, hl, hhas])
      have hmk := run_make_bools ts.length hn
      obtain ⟨R, hR⟩ : ∃ R, R = w1.heap.size := ⟨_, rfl⟩
      have b1a : (w1.alloc (.cells (madeCells #[.bool false] ts.length) 4)).cell? ⟨w.heap.size, 0, none⟩ = some (.slice A ts.length c) := (World.cell?_alloc_lt _ _ _ hz1).trans b1
      have hrow := World.rowIs_made w1 (.bool false) ts.length 4
      have hbm : Below w1.heap.size w1 (w1.alloc (.cells (madeCells #[.bool false] ts.length) 4)) := (Below.refl _ _).alloc (Nat.le_refl _) _
      have HRow := Lib.hid (hrow.congr (g := fun m => .bool ((fun _ => false) m)) (fun _ _ => rfl))
      have HBm := Lib.hid hbm
      clear hl hhas hr hrow hbm
      go_wp2_with fail
      clear hmk b1a
      refine (l1mark_any ts HOk.out w1.heap.size i hi (fun _ => false) A c L B _ (HA.out.keep fun p _ hp => (HBm.out.cell (by omega)).trans (HB.out.cell (by omega))) (by have := HBm.out.size; omega) (.inr (by omega)) HRow.out (fun _ _ h => by cases h)).mono ?_
      rintro e w2 ⟨rfl, hrow2, hg2⟩
      rw [← hR] at hrow2 hg2
      rw [← hR]
      have HRow2 := Lib.hid (hrow2.congr (g := fun m => .bool (reachB ts i m)) (fun m _ => by simp))
      have hRlt := hrow2.lt
      have HBw := Lib.hid (show Below w.heap.size w w2 from ⟨hg2.os.trans (HBm.out.os.trans HB.out.os), hg2.tape.trans (HBm.out.tape.trans HB.out.tape), hg2.output.trans (HBm.out.output.trans HB.out.output), Nat.le_trans HB.out.size (Nat.le_trans HBm.out.size hg2.size), fun k hk => (hg2.block k (by have := HBm.out.size; omega) (by simp; omega)).trans ((HBm.out.block k (by omega)).trans (HB.out.block k hk))⟩)
      have hwz := HBw.out.size
      clear hrow2 hg2 hR b1
      go_wp2_with fail
      go_loopw [5, 7] (fun x y wr => ∃ (k : Nat) (A' : Option Addr) (c' : Nat), k ≤ ts.length ∧ y = .int .i64 k ∧ x = .slice A' (pick (reachB ts i) k).length c' ∧ wr.ownsRow w2.heap.size 3 1 (.slice A' (pick (reachB ts i) k).length c') (pick (reachB ts i) k).length ((pick (reachB ts i) k).map vint) ∧ Below w2.heap.size w2 wr) (fun _ y _ => ts.length - (intOf y).toNat)
      case atStart => exact ⟨0, none, 0, Nat.zero_le _, rfl, rfl, World.ownsRow_nil _ _ _ _, Below.refl _ _⟩
      case round =>
        obtain ⟨k, A', c', hk, rfl, rfl, hown, hbel⟩ := hrel
        have HOwn := Lib.hid hown
        have HBel := Lib.hid hbel
        have hlen := pick_length (reachB ts i) k
        clear hown
        by_cases hlt : k < ts.length
        · have hc := (rowIs_below HRow2.out hbel hRlt).cell hlt
          cases hf : reachB ts i k with
          | false =>
            have HP := Lib.hid (pick_false hf)
            rw [hf] at hc
            clear hbel hf
            go_wp2_with fail
            go_roundw
            case rel => exact ⟨k + 1, A', c', by omega, by go_num, by rw [HP.out], by rw [HP.out]; exact HOwn.out, HBel.out⟩
            case measure => simp [intOf]; omega
          | true =>
            have HP := Lib.hid (pick_true hf)
            rw [hf] at hc
            have hsz := hbel.size
            obtain ⟨i0, hi0, hz0, hz1', hz2'⟩ := info_parts Try.infoInt
            clear hbel hf
            go_wp2_with (at_builtin; refine wpList_append_own _ rfl _ _ 25 rfl w2.heap.size 3 i0 (.int .i64 0) 1 8 Try.underlying25 hi0 hz0 hz1' hz2' rfl (by decide) _ _ _ rfl (HOwn.out.alloc _) ⟨wr.heap.size, 0, none⟩ 1 1 [.int .i64 k] rfl rfl ?c1 ?c2 ?c3 ?c4 ?c5 ?_)
            try case c1 => exact cell_one_new _ _ _
            case c2 => first | rfl | (intro u hu; simp at hu; subst hu; rfl)
            case c3 => first | omega | (unfold maxLen; omega)
            case c4 => omega
            case c5 => first | omega | (simp; omega)
            intro v' w5 hrow5 hgr5 _
            obtain ⟨A5, c5, rfl⟩ := row_shape hrow5
            have HRow5 := Lib.hid hrow5
            have HB5 := Lib.hid ((HBel.out.alloc hsz (.cells #[.int .i64 k] 3)).grown hgr5 (by simp; omega) (fun g hg => (HOwn.out.lt g hg).1))
            clear hrow5 hgr5
            go_wp2_with fail
            go_roundw
            case rel =>
              refine ⟨k + 1, A5, c5, by omega, by go_num, by rw [HP.out]; simp, ?_, HB5.out⟩
              have := HRow5.out
              rw [HP.out]
              simpa [vint] using this
            case measure => simp [intOf]; omega
        · have hke : k = ts.length := by omega
          have HR := Lib.hid (show NewIntsFr (subsV ts i) w (.returned (.slice A' (pick (reachB ts i) k).length c')) wr from by
            rw [HV.out]
            subst hke
            exact ⟨A', c', rfl, (ints_of_row HOwn.out).low (by omega), HBw.out.trans (hbel.mono (by omega))⟩)
          clear hbel
          go_wp2_with fail
          go_ret
          exact HR.out
    · have HV := Lib.hid (show subsV ts id = [] by simp [subsV, hasB_iff, hr])
      clear hl
      by_cases h0 : id < 0
      · clear hr
        go_wp2_with fail
        all_goals go_ret
        all_goals (rw [HV.out]; exact .nil HB.out)
      · have h1 : (ts.length : Int) ≤ id := by omega
        have h0' : 0 ≤ id := by omega
        clear hr h0
        go_wp2_with fail
        all_goals go_ret
        all_goals (rw [HV.out]; exact .nil HB.out)

set_option maxRecDepth 100000 in
set_option maxHeartbeats 1000000 in
theorem implSubterms_any (hA : TmsIn w L B A ts) (hB : B ≤ w.heap.size) (hn : ts.length ≤ 1048576) (hbk : bulk ts ≤ 1048576) :
    Calls Try.prog 50 #[.agg #[.slice A ts.length c], .int .i64 id] w (NewIntsFr (subsV ts id) w) := by
  have HA := Lib.hid hA
  clear hA
  go_enter Try.func50, Try.ntmps50
  go_wp2_with fail
  have hb0 : Below w.heap.size w (w.alloc (.cells #[.slice A ts.length c] 30)) := (Below.refl _ _).alloc (Nat.le_refl _) _
  refine (readLedger_any A ts c L B _ (HA.out.keep fun p _ hp => hb0.cell (by omega)) (by simp; omega) hn hbk).mono ?_
  rintro e w1 (⟨hok, A1, c1, M, rfl, _, hbk1, _, hb1⟩ | ⟨hno, rfl, hb1⟩)
  · have HB := Lib.hid (hb0.trans (hb1.mono (by simp)))
    have HK := Lib.hid (lokB_true hok)
    have HOk := Lib.hid hok
    have HBk := Lib.hid hbk1
    clear hb0 hb1 hok hbk1
    go_wp2_with fail
    have hb2 : Below w1.heap.size w1 (w1.alloc (.cells #[.slice A1 ts.length c1, .map (some M)] 51)) := (Below.refl _ _).alloc (Nat.le_refl _) _
    refine (has_any _ _ _ _ _ _).mono ?_
    rintro e w2 ⟨rfl, hb3⟩
    have d0 : w2.cell? ⟨w1.heap.size, 0, none⟩ = some (.slice A1 ts.length c1) := (hb3.cell (p := ⟨w1.heap.size, 0, none⟩) (by simp)).trans (by simp)
    have hz2 : w1.heap.size < w2.heap.size := by have := hb3.size; simp at this; omega
    have HB2 := Lib.hid (hb2.trans (hb3.mono (by simp)))
    clear hb2 hb3
    cases hh : hasB ts.length id with
    | false =>
      have HV := Lib.hid (show subsV ts id = [] by simp [subsV, hh])
      clear hh
      go_wp2_with fail
      all_goals go_ret
      all_goals (rw [HV.out]; exact .nil (HB.out.trans (HB2.out.mono HB.out.size)))
    | true =>
      have hr := (hasB_iff _ _).1 hh
      obtain ⟨i, rfl⟩ := Int.eq_ofNat_of_zero_le hr.1
      have hi : i < ts.length := by omega
      have hi4 : ts.length ≤ 400 := HOk.out.1
      have HV := Lib.hid (show subsV ts i = pick (reachB ts i) (i + 1) by simp [subsV, HK.out, hh, subs_short HOk.out hi])
      obtain ⟨b, o, rfl, hL, hb, hc⟩ := HBk.out (by omega)
      have HC := Lib.hid hc
      have hmk := run_make_bools (i + 1) (by omega)
      rw [show ((i + 1 : Nat) : Int) = (i : Int) + 1 from rfl] at hmk
      have hwz := HB.out.size
      have hrow := World.rowIs_made w2 (.bool false) (i + 1) 4
      have hci := hrow.cell (i := i) (by omega)
      have hfi := hrow.frozen i
      clear hh hr hc hrow
      go_wp2_with fail
      clear hmk hci hfi
      obtain ⟨R, hR⟩ : ∃ R, R = w2.heap.size := ⟨_, rfl⟩
      have hrow0 : (w2.alloc (.cells ((madeCells #[.bool false] (i + 1)).setIfInBounds i (.bool true)) 4)).rowIs w2.heap.size 4 (i + 1) (fun m => .bool (if m = i then true else false)) := by
        refine ⟨_, heap_alloc_new w2 _, by simp [size_madeCells], fun m hm => ?_⟩
        rw [Array.getElem?_setIfInBounds]
        by_cases e : i = m
        · subst e
          simp [size_madeCells]
        · rw [if_neg e]
          have e' : ¬ m = i := fun h => e h.symm
          simp [madeCells, hm, Nat.mod_one, e']
      have HRow0 := Lib.hid hrow0
      have HB0 := Lib.hid ((Below.refl w2.heap.size w2).alloc (Nat.le_refl _) (.cells ((madeCells #[.bool false] (i + 1)).setIfInBounds i (.bool true)) 4))
      clear hrow0
      rw [← hR] at HRow0 HB0
      rw [← hR]
      have hwR : w1.heap.size < R := by omega
      go_loopw [8] (fun x wr => ∃ (k : Nat) (g : Nat → Bool), k ≤ i + 1 ∧ x = .int .i64 ((k : Int) - 1) ∧ Down ts i k g ∧ wr.rowIs R 4 (i + 1) (fun m => .bool (g m)) ∧ Below R w2 wr) (fun x _ => (intOf x + 1).toNat)
      case atStart => exact ⟨i + 1, _, Nat.le_refl _, by simp, Down.start ts i, HRow0.out, HB0.out⟩
      case round =>
        clear hR
        obtain ⟨k, g, hk, rfl, hdown, hrow, hbel⟩ := hrel
        have e0 := (hbel.cell (p := ⟨w1.heap.size, 0, none⟩) hwR).trans d0
        have HRowk := Lib.hid hrow
        have HBel := Lib.hid hbel
        have HD := Lib.hid hdown
        have hRlt := hrow.lt
        clear hdown
        cases k with
        | zero =>
          have hrw := hrow.congr (g := fun m => .bool (reachB ts i m)) (fun m _ => by rw [HD.out.all HOk.out hi m])
          have HRw := Lib.hid hrw
          clear hrow hbel hrw e0
          go_wp2_with fail
          refine (marked_any R (i + 1) (reachB ts i) wr HRw.out (by omega)).mono ?_
          rintro e w4 ⟨A4, c4, rfl, hints, hb4⟩
          have HR := Lib.hid (show NewIntsFr (subsV ts i) w (.returned (.slice A4 (pick (reachB ts i) (i + 1)).length c4)) w4 from by
            rw [HV.out]
            have h1 := HB2.out.size
            have h2 := HBel.out.size
            exact ⟨A4, c4, rfl, hints.low (by omega), HB.out.trans ((HB2.out.mono (by omega)).trans ((HBel.out.mono (by omega)).trans (hb4.mono (by omega))))⟩)
          clear hints hb4
          go_wp2_with fail
          go_ret
          exact HR.out
        | succ k =>
          rw [show (((k + 1 : Nat) : Int) - 1) = (k : Int) by omega]
          have hki := hrow.cell (i := k) (by omega)
          have hkl : k < ts.length := by omega
          cases hg : g k with
          | false =>
            have HD' := Lib.hid (HD.out.pass (fun h => by rw [hg] at h; cases h))
            simp only [hg] at hki
            clear hrow hbel hg e0
            go_wp2_with fail
            go_roundw
            case rel => exact ⟨k, g, by omega, by go_num, HD'.out, HRowk.out, HBel.out⟩
            case measure => simp [intOf]; try omega
          | true =>
            have HG := Lib.hid hg
            simp only [hg] at hki
            have hck := (hbel.cell (p := ⟨b, o + k, none⟩) (by show b < R; omega)).trans ((HB2.out.cell (p := ⟨b, o + k, none⟩) hb).trans (HC.out k hkl))
            obtain ⟨_, hkind⟩ := kind_of_good (HOk.out.2 k hkl)
            obtain ⟨T, v, F, htv, hmeth, hcf, hcall⟩ := parts_invoke ts[k] hkind
            rw [htv] at hck
            clear htv hkind hrow hbel hg
            go_wp2_with fail
            refine (hcall wr).mono ?_
            rintro e w3 ⟨A2, c2, rfl, _, _, hints, hb2⟩
            have hlen2 := partsV_length ts[k]
            have HL := Lib.hid (show partsV (tmAt ts k) = partsV ts[k] by rw [tmAt_nat ts k hkl])
            have HRow2 := Lib.hid (rowIs_below HRowk.out hb2 hRlt)
            have HBel2 := Lib.hid (HBel.out.trans (hb2.mono (by omega)))
            have HInts := Lib.hid (hints.low (L' := R + 1) (by omega))
            generalize partsV ts[k] = l at *
            clear hints hb2 hck hmeth hcf hcall e0 hki
            go_wp2_with fail
            go_loopw [46] (fun y wi => ∃ (j : Nat) (h : Nat → Bool), j ≤ l.length ∧ y = .int .i64 j ∧ Down ts i (k + 1) h ∧ h k = true ∧ (∀ q (hq : q < l.length), q < j → h l[q].toNat = true) ∧ wi.rowIs R 4 (i + 1) (fun m => .bool (h m)) ∧ IntsIn wi (R + 1) w3.heap.size A2 l ∧ Below R w2 wi) (fun y _ => l.length - (intOf y).toNat)
            case atStart => exact ⟨0, g, Nat.zero_le _, rfl, HD.out, HG.out, fun q _ h => absurd h (by omega), HRow2.out, HInts.out, HBel2.out⟩
            case round =>
              obtain ⟨j, h, hj, rfl, hdn, hhk, hdone, hrowj, hintsj, hbelj⟩ := hrel
              have HDn := Lib.hid hdn
              have HHk := Lib.hid hhk
              have HDone := Lib.hid hdone
              have HRowj := Lib.hid hrowj
              have HIntsj := Lib.hid hintsj
              have HBelj := Lib.hid hbelj
              clear hdn hhk hdone
              by_cases hjl : j < l.length
              · obtain ⟨b2, o2, rfl, hL2, hlt2, hcell⟩ := hintsj (by omega)
                have hcj := hcell j hjl
                have hmem : l[j] ∈ partsV (tmAt ts k) := by rw [HL.out]; exact List.getElem_mem hjl
                obtain ⟨hp0, hpk⟩ := parts_lt HOk.out hkl hmem
                obtain ⟨q, hq⟩ := Int.eq_ofNat_of_zero_le hp0
                have HQ := Lib.hid (show l[j].toNat = q by rw [hq, Int.toNat_natCast])
                rw [hq] at hcj hpk hmem
                have hqk : q < k := by omega
                have HMem := Lib.hid hmem
                have hq0 := hrowj.cell (i := q) (by omega)
                have hf0 := hrowj.frozen q
                clear hrowj hintsj hbelj hcell hmem hp0 hpk hq
                go_wp2_with fail
                go_roundw
                case rel =>
                  refine ⟨j + 1, fun m => if m = q then true else h m, by omega, by go_num, HDn.out.put HHk.out hqk HMem.out, by simp [HHk.out], fun q' hq' hlt => ?_, ?_, HIntsj.out.keep fun p hp _ => World.cell?_setCell_other _ _ _ _ (by rintro rfl; simp at hp; omega), HBelj.out.setCell (Nat.le_refl _) _⟩
                  · by_cases e : q' = j
                    · subst e; simp [HQ.out]
                    · have := HDone.out q' hq' (by omega)
                      simp [this]
                  · exact (HRowj.out.set q _).congr fun m _ => by show (if m = q then Value.bool true else Value.bool (h m)) = Value.bool (if m = q then true else h m); split <;> rfl
                case measure => simp [intOf]; omega
              · clear hrowj hintsj hbelj
                have hje : j = l.length := by omega
                have HD' := Lib.hid (HDn.out.pass (fun _ p hp => by
                  rw [HL.out] at hp
                  obtain ⟨q, hq, rfl⟩ := List.mem_iff_getElem.1 hp
                  exact HDone.out q hq (by omega)))
                clear hje
                go_wp2_with fail
                go_roundw
                case rel => exact ⟨k, h, by omega, by go_num, HD'.out, HRowj.out, HBelj.out⟩
                case measure => simp [intOf]; try omega
  · have HB := Lib.hid (hb0.trans (hb1.mono (by simp)))
    have HV := Lib.hid (show subsV ts id = [] by simp [subsV, lokB_false hno])
    clear hb0 hb1 hno
    go_wp2_with fail
    all_goals go_ret
    all_goals (rw [HV.out]; exact .nil (HB.out.alloc HB.out.size _))
end

end Go.Proofs.Ytjplmmbncjahiaa
