/-
  TermText: the answer as plain data; the program's answer.
-/
import Derived.Test.YtkmoihkpaccbdaaDoorTxtI
import Derived.Test.YtkmoihkpaccbdaaDoorOpen
namespace Go.Proofs.YtkmoihkpaccbdaaDoor
open Go.RowKit Go.Maps

/-- The word of a kind. -/
def ttW (k : Int) : ByteArray :=
  if k = 0 then { data := #[110, 111, 110, 99, 101] }
  else if k = 1 then { data := #[107, 101, 121] }
  else if k = 2 then { data := #[116, 101, 120, 116] }
  else if k = 3 then { data := #[112, 97, 105, 114] }
  else if k = 4 then { data := #[104, 97, 115, 104] }
  else if k = 5 then { data := #[115, 101, 97, 108] }
  else { data := #[115, 105, 103, 110] }

/-- The numbers of a term. -/
def ttN (t : Tm) : List Nat := if t.kind = 2 then [t.text.length] else if t.kind = 3 ∨ t.kind = 5 ∨ t.kind = 6 then [t.a.toNat, t.b.toNat] else [t.a.toNat]

/-- A term as text. -/
def ttB (t : Tm) : List UInt8 := (ttW t.kind).data.toList ++ numsV (ttN t)

/-- What TermText answers. -/
noncomputable def ttV (ts : List Tm) (id : Int) : List UInt8 := if lokB ts = true ∧ hasB ts.length id = true then ttB (tmAt ts id) else []

/-- A new list of bytes that may be written into is handed back. -/
def NewBytesFr (l : List UInt8) (w : World) (e : Ending) (w' : World) : Prop :=
  ∃ A c, e = .returned (.slice A l.length c) ∧ BytesFr w' w.heap.size w'.heap.size A l ∧ Below w.heap.size w w'

theorem NewBytesFr.nil {w w' : World} {c : Nat} (h : Below w.heap.size w w') : NewBytesFr [] w (.returned (.slice none 0 c)) w' := ⟨none, c, rfl, BytesFr.nil, h⟩

theorem bytes_of_byt {w : World} {B : Nat} {e : TypeId} {A : Option Addr} {c : Nat} {l : List UInt8} (h : Byt w B e (.slice A l.length c) l.length (Lib.byteCells l)) : BytesFr w B w.heap.size A l := fun hl => by
  have h0 := h
  obtain ⟨g, cap, hv, hnc, hcm, hb, hlt, hc⟩ := h0.cells
  injection hv with h1 _ _
  obtain ⟨_, g', cap', cur, fz, hv', _, hgg, hfz, hnc', _, hcs, _⟩ := h
  injection hv' with h1' _ _
  rw [h1] at h1'
  injection h1' with h1'
  injection h1' with h1' _ _
  subst h1'
  refine ⟨g, 0, h1, hb, hlt, fun j hj => ⟨?_, ?_⟩⟩
  · have := hc j (.int .u8 (l[j].toNat : Int)) (by simp [Lib.byteCells, hj])
    rw [Addr.add_lit] at this
    exact this
  · simp only [World.frozen?, hgg, Nat.zero_add, Bool.and_eq_false_iff, decide_eq_false_iff_not]
    omega

theorem byt_shape {w : World} {B : Nat} {e : TypeId} {v : Value} {n : Nat} {xs : List Value} (h : Byt w B e v n xs) : ∃ A c, v = .slice A n c := by
  obtain ⟨_, g, cap, cur, fz, rfl, _⟩ := h
  exact ⟨_, _, rfl⟩

theorem NewByt.fr {l : List UInt8} {w w0 : World} {e : Ending} {w' : World} (h : NewByt l w e w') (hb : Below w0.heap.size w0 w) : NewBytesFr l w0 e w' := by
  obtain ⟨v, rfl, hby, hbel⟩ := h
  obtain ⟨A, c, rfl⟩ := byt_shape hby
  exact ⟨A, c, rfl, (bytes_of_byt hby).low hb.size, hb.trans (hbel.mono hb.size)⟩

theorem Byt.low {w : World} {B B' : Nat} {e : TypeId} {v : Value} {n : Nat} {xs : List Value} (h : Byt w B e v n xs) (hB : B' ≤ B) : Byt w B' e v n xs := by
  obtain ⟨hl, g, cap, cur, fz, hv, hb, rest⟩ := h
  exact ⟨hl, g, cap, cur, fz, hv, by omega, rest⟩

theorem word_new {w w' : World} {s : ByteArray} {l : List Nat} {o : Obj} {e : Ending} (h : ∃ v, e = .returned v ∧ Byt w' (w.alloc o).heap.size 5 v (s.size + (numsV l).length) (byteCells s ++ Lib.byteCells (numsV l)) ∧ Below (w.alloc o).heap.size (w.alloc o) w') : NewByt (s.data.toList ++ numsV l) w e w' := by
  obtain ⟨v, rfl, hby, hbel⟩ := h
  refine ⟨v, rfl, ?_, ((Below.refl _ w).alloc (Nat.le_refl _) o).trans (hbel.mono (by simp))⟩
  rw [bcells_append, List.length_append]
  exact hby.low (by simp)

theorem word1_any (s : ByteArray) (hs : s.size ≤ 100) (n : Nat) (h63 : n < 9223372036854775808) (q : Nat) (w : World) (hq : w.heap.size = q) (htab : Lib.TabIs Tryd.prog w "internal/strconv.uint64pow10" .u64 Lib.pow10Tab) :
    Calls Tryd.prog 23 #[.string s, .slice (some ⟨q, 0, none⟩) 1 1] (w.alloc (.cells #[.int .i64 (n : Int)] 3)) (NewByt (s.data.toList ++ numsV [n]) w) := by
  subst hq
  exact (word_any s hs [n] (by simp) (by simpa using h63) w.heap.size 1 _ (by simp) (fun j hj => by match j, hj with | 0, _ => simp) (Lib.tabIs_alloc htab _)).mono fun _ _ h => word_new h

theorem word2_any (s : ByteArray) (hs : s.size ≤ 100) (n m : Nat) (h63 : n < 9223372036854775808) (h63' : m < 9223372036854775808) (q : Nat) (w : World) (hq : w.heap.size = q) (htab : Lib.TabIs Tryd.prog w "internal/strconv.uint64pow10" .u64 Lib.pow10Tab) :
    Calls Tryd.prog 23 #[.string s, .slice (some ⟨q, 0, none⟩) 2 2] (w.alloc (.cells #[.int .i64 (n : Int), .int .i64 (m : Int)] 3)) (NewByt (s.data.toList ++ numsV [n, m]) w) := by
  subst hq
  exact (word_any s hs [n, m] (by simp) (by simp; omega) w.heap.size 2 _ (by simp) (fun j hj => by match j, hj with | 0, _ => simp | 1, _ => simp) (Lib.tabIs_alloc htab _)).mono fun _ _ h => word_new h

/-- A good term's numbers are none below zero, and small. -/
theorem good_nums {ts : List Tm} {i : Nat} (hok : LOk ts) (hi : i < ts.length) : ∃ na nb : Nat, ts[i].a = na ∧ ts[i].b = nb ∧ na < 1000 ∧ nb < 1000 ∧ ts[i].text.length ≤ 300 := by
  have h4 := hok.1
  obtain ⟨_, h1, _⟩ := hok.2 i hi
  unfold okB at h1
  suffices h : 0 ≤ ts[i].a ∧ ts[i].a < 1000 ∧ 0 ≤ ts[i].b ∧ ts[i].b < 1000 ∧ ts[i].text.length ≤ 300 from ⟨ts[i].a.toNat, ts[i].b.toNat, by omega, by omega, by omega, by omega, h.2.2.2.2⟩
  split at h1
  · simp only [Bool.and_eq_true, decide_eq_true_eq, beq_iff_eq] at h1; omega
  · split at h1
    · simp only [Bool.and_eq_true, decide_eq_true_eq, beq_iff_eq] at h1; omega
    · split at h1
      · simp only [Bool.and_eq_true, decide_eq_true_eq, beq_iff_eq] at h1; omega
      · split at h1
        · simp only [Bool.and_eq_true, decide_eq_true_eq, beq_iff_eq] at h1; omega
        · cases h1

theorem ttB_0 (t : Tm) (h : t.kind = 0) : ttB t = ({ data := #[110, 111, 110, 99, 101] } : ByteArray).data.toList ++ numsV [t.a.toNat] := by simp [ttB, ttW, ttN, h]
theorem ttB_1 (t : Tm) (h : t.kind = 1) : ttB t = ({ data := #[107, 101, 121] } : ByteArray).data.toList ++ numsV [t.a.toNat] := by simp [ttB, ttW, ttN, h]
theorem ttB_2 (t : Tm) (h : t.kind = 2) : ttB t = ({ data := #[116, 101, 120, 116] } : ByteArray).data.toList ++ numsV [t.text.length] := by simp [ttB, ttW, ttN, h]
theorem ttB_3 (t : Tm) (h : t.kind = 3) : ttB t = ({ data := #[112, 97, 105, 114] } : ByteArray).data.toList ++ numsV [t.a.toNat, t.b.toNat] := by simp [ttB, ttW, ttN, h]
theorem ttB_4 (t : Tm) (h : t.kind = 4) : ttB t = ({ data := #[104, 97, 115, 104] } : ByteArray).data.toList ++ numsV [t.a.toNat] := by simp [ttB, ttW, ttN, h]
theorem ttB_5 (t : Tm) (h : t.kind = 5) : ttB t = ({ data := #[115, 101, 97, 108] } : ByteArray).data.toList ++ numsV [t.a.toNat, t.b.toNat] := by simp [ttB, ttW, ttN, h]
theorem ttB_6 (t : Tm) (h : t.kind = 6) : ttB t = ({ data := #[115, 105, 103, 110] } : ByteArray).data.toList ++ numsV [t.a.toNat, t.b.toNat] := by simp [ttB, ttW, ttN, h]

section
variable (A : Option Addr) (ts : List Tm) (c L B : Nat) (id : Int) (w : World)

set_option maxRecDepth 100000 in
set_option maxHeartbeats 4000000 in
theorem implTermText_any (hA : TmsIn w L B A ts) (hB : B ≤ w.heap.size) (hn : ts.length ≤ 1048576) (hbk : bulk ts ≤ 1048576) (htab : Lib.TabIs Tryd.prog w "internal/strconv.uint64pow10" .u64 Lib.pow10Tab) :
    Calls Tryd.prog 8 #[.agg #[.slice A ts.length c], .int .i64 id] w (NewBytesFr (ttV ts id) w) := by
  have HA := Lib.hid hA
  have HTab := Lib.hid (Lib.tabBelow_of_tabIs htab)
  clear hA htab
  go_enter Tryd.func8, Tryd.ntmps8
  go_wp2_with fail
  have hb0 : Below w.heap.size w (w.alloc (.cells #[.slice A ts.length c] 25)) := (Below.refl _ _).alloc (Nat.le_refl _) _
  refine (readLedger_any A ts c L B _ (HA.out.keep fun p _ hp => hb0.cell (by omega)) (by simp; omega) hn hbk).mono ?_
  rintro e w1 (⟨hok, A1, c1, M, rfl, _, hbk1, _, hb1⟩ | ⟨hno, rfl, hb1⟩)
  · have HB := Lib.hid (hb0.trans (hb1.mono (by simp)))
    have HK := Lib.hid (lokB_true hok)
    have HOk := Lib.hid hok
    have HBk := Lib.hid hbk1
    clear hb0 hb1 hok hbk1
    go_wp2_with fail
    have hb2 : Below w1.heap.size w1 (w1.alloc (.cells #[.slice A1 ts.length c1, .map (some M)] 47)) := (Below.refl _ _).alloc (Nat.le_refl _) _
    refine (has_any _ _ _ _ _ _).mono ?_
    rintro e w2 ⟨rfl, hb3⟩
    have d0 : w2.cell? ⟨w1.heap.size, 0, none⟩ = some (.slice A1 ts.length c1) := (hb3.cell (p := ⟨w1.heap.size, 0, none⟩) (by simp)).trans (by simp)
    have hz2 : w1.heap.size < w2.heap.size := by have := hb3.size; simp at this; omega
    have hb12 := hb2.trans (hb3.mono (by simp))
    have HB2 := Lib.hid (HB.out.trans (hb12.mono HB.out.size))
    have HB12 := Lib.hid hb12
    clear hb2 hb3 hb12
    cases hh : hasB ts.length id with
    | false =>
      have HV := Lib.hid (show ttV ts id = [] by simp [ttV, hh])
      clear hh
      go_wp2_with fail
      all_goals go_ret
      all_goals (rw [HV.out]; exact .nil HB2.out)
    | true =>
      have hr := (hasB_iff _ _).1 hh
      obtain ⟨i, rfl⟩ := Int.eq_ofNat_of_zero_le hr.1
      have hi : i < ts.length := by omega
      have hi4 : ts.length ≤ 400 := HOk.out.1
      have HV := Lib.hid (show ttV ts i = ttB ts[i] by simp [ttV, HK.out, hh, tmAt_nat ts i hi])
      obtain ⟨b, o, rfl, hL, hb, hc⟩ := HBk.out (by omega)
      have hci := (HB12.out.cell (p := ⟨b, o + i, none⟩) hb).trans (hc i hi)
      obtain ⟨_, hkind⟩ := kind_of_good (HOk.out.2 i hi)
      obtain ⟨na, nb, hna, hnb, hna3, hnb3, htx⟩ := good_nums HOk.out hi
      clear hh hr hc
      rcases hkind with hk | hk | hk | hk | hk | hk | hk
      · rw [show tv ts[i] = .iface 57 (.agg #[.int .i64 ts[i].a]) by simp [tv, hk]] at hci
        have hT := ttB_0 ts[i] hk
        rw [hna] at hci hT
        rw [Int.toNat_natCast] at hT
        have HT := Lib.hid hT
        clear hk hna hnb hT
        go_wp2_with fail
        refine (word1_any _ (by decide) na (by omega) _ _ (by simp) (HTab.out _ ?d0)).mono ?_
        case d0 => exact HB2.out.alloc HB2.out.size _
        intro e w3 hnew
        have hfr := hnew.fr (HB2.out.alloc HB2.out.size (.cells #[.int .i64 na] 57))
        have HR := Lib.hid (show NewBytesFr (ttV ts i) w e w3 by rw [HV.out, HT.out]; exact hfr)
        obtain ⟨v3, rfl, _⟩ := hnew
        clear hfr
        go_wp2_with fail
        go_ret
        exact HR.out
      · rw [show tv ts[i] = .iface 59 (.agg #[.int .i64 ts[i].a]) by simp [tv, hk]] at hci
        have hT := ttB_1 ts[i] hk
        rw [hna] at hci hT
        rw [Int.toNat_natCast] at hT
        have HT := Lib.hid hT
        clear hk hna hnb hT
        go_wp2_with fail
        refine (word1_any _ (by decide) na (by omega) _ _ (by simp) (HTab.out _ ?d0)).mono ?_
        case d0 => exact HB2.out.alloc HB2.out.size _
        intro e w3 hnew
        have hfr := hnew.fr (HB2.out.alloc HB2.out.size (.cells #[.int .i64 na] 59))
        have HR := Lib.hid (show NewBytesFr (ttV ts i) w e w3 by rw [HV.out, HT.out]; exact hfr)
        obtain ⟨v3, rfl, _⟩ := hnew
        clear hfr
        go_wp2_with fail
        go_ret
        exact HR.out
      · rw [show tv ts[i] = .iface 61 (.agg #[.string ⟨ts[i].text.toArray⟩]) by simp [tv, hk]] at hci
        have hT := ttB_2 ts[i] hk
        have HT := Lib.hid hT
        clear hk hna hnb hT
        go_wp2_with fail
        refine (word1_any _ (by decide) ts[i].text.length (by omega) _ _ (by simp) (HTab.out _ ?d0)).mono ?_
        case d0 => exact HB2.out.alloc HB2.out.size _
        intro e w3 hnew
        have hfr := hnew.fr (HB2.out.alloc HB2.out.size (.cells #[.string ⟨ts[i].text.toArray⟩] 61))
        have HR := Lib.hid (show NewBytesFr (ttV ts i) w e w3 by rw [HV.out, HT.out]; exact hfr)
        obtain ⟨v3, rfl, _⟩ := hnew
        clear hfr
        go_wp2_with fail
        go_ret
        exact HR.out
      · rw [show tv ts[i] = .iface 63 (.agg #[.int .i64 ts[i].a, .int .i64 ts[i].b]) by simp [tv, hk]] at hci
        have hT := ttB_3 ts[i] hk
        rw [hna, hnb] at hci hT
        rw [Int.toNat_natCast, Int.toNat_natCast] at hT
        have HT := Lib.hid hT
        clear hk hna hnb hT
        go_wp2_with fail
        refine (word2_any _ (by decide) na nb (by omega) (by omega) _ _ (by simp) (HTab.out _ ?d0)).mono ?_
        case d0 => exact HB2.out.alloc HB2.out.size _
        intro e w3 hnew
        have hfr := hnew.fr (HB2.out.alloc HB2.out.size (.cells #[.int .i64 na, .int .i64 nb] 63))
        have HR := Lib.hid (show NewBytesFr (ttV ts i) w e w3 by rw [HV.out, HT.out]; exact hfr)
        obtain ⟨v3, rfl, _⟩ := hnew
        clear hfr
        go_wp2_with fail
        go_ret
        exact HR.out
      · rw [show tv ts[i] = .iface 65 (.agg #[.int .i64 ts[i].a]) by simp [tv, hk]] at hci
        have hT := ttB_4 ts[i] hk
        rw [hna] at hci hT
        rw [Int.toNat_natCast] at hT
        have HT := Lib.hid hT
        clear hk hna hnb hT
        go_wp2_with fail
        refine (word1_any _ (by decide) na (by omega) _ _ (by simp) (HTab.out _ ?d0)).mono ?_
        case d0 => exact HB2.out.alloc HB2.out.size _
        intro e w3 hnew
        have hfr := hnew.fr (HB2.out.alloc HB2.out.size (.cells #[.int .i64 na] 65))
        have HR := Lib.hid (show NewBytesFr (ttV ts i) w e w3 by rw [HV.out, HT.out]; exact hfr)
        obtain ⟨v3, rfl, _⟩ := hnew
        clear hfr
        go_wp2_with fail
        go_ret
        exact HR.out
      · rw [show tv ts[i] = .iface 67 (.agg #[.int .i64 ts[i].a, .int .i64 ts[i].b]) by simp [tv, hk]] at hci
        have hT := ttB_5 ts[i] hk
        rw [hna, hnb] at hci hT
        rw [Int.toNat_natCast, Int.toNat_natCast] at hT
        have HT := Lib.hid hT
        clear hk hna hnb hT
        go_wp2_with fail
        refine (word2_any _ (by decide) na nb (by omega) (by omega) _ _ (by simp) (HTab.out _ ?d0)).mono ?_
        case d0 => exact HB2.out.alloc HB2.out.size _
        intro e w3 hnew
        have hfr := hnew.fr (HB2.out.alloc HB2.out.size (.cells #[.int .i64 na, .int .i64 nb] 67))
        have HR := Lib.hid (show NewBytesFr (ttV ts i) w e w3 by rw [HV.out, HT.out]; exact hfr)
        obtain ⟨v3, rfl, _⟩ := hnew
        clear hfr
        go_wp2_with fail
        go_ret
        exact HR.out
      · rw [show tv ts[i] = .iface 68 (.agg #[.int .i64 ts[i].a, .int .i64 ts[i].b]) by simp [tv, hk]] at hci
        have hT := ttB_6 ts[i] hk
        rw [hna, hnb] at hci hT
        rw [Int.toNat_natCast, Int.toNat_natCast] at hT
        have HT := Lib.hid hT
        clear hk hna hnb hT
        go_wp2_with fail
        refine (word2_any _ (by decide) na nb (by omega) (by omega) _ _ (by simp) (HTab.out _ ?d0)).mono ?_
        case d0 => exact HB2.out.alloc HB2.out.size _
        intro e w3 hnew
        have hfr := hnew.fr (HB2.out.alloc HB2.out.size (.cells #[.int .i64 na, .int .i64 nb] 68))
        have HR := Lib.hid (show NewBytesFr (ttV ts i) w e w3 by rw [HV.out, HT.out]; exact hfr)
        obtain ⟨v3, rfl, _⟩ := hnew
        clear hfr
        go_wp2_with fail
        go_ret
        exact HR.out
  · have HB := Lib.hid (hb0.trans (hb1.mono (by simp)))
    have HV := Lib.hid (show ttV ts id = [] by simp [ttV, lokB_false hno])
    clear hb0 hb1 hno
    go_wp2_with fail
    go_ret
    rw [HV.out]
    exact .nil (HB.out.alloc HB.out.size _)
end

end Go.Proofs.YtkmoihkpaccbdaaDoor
