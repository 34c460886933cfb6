/-
  The program's word and numbers: the word's bytes, and for each number a blank and its digits.
-/
import Derived.Test.YtkmoihkpaccbdaaDoorShelf
import Derived.Test.YtkmoihkpaccbdaaDoorTxtM
namespace Go.Proofs.YtkmoihkpaccbdaaDoor
open Go.RowKit Go.Maps

/-- ' ' and the digits, of each number. -/
def numsV : List Nat → List UInt8
  | [] => []
  | n :: r => 32 :: Lib.decDigits n ++ numsV r

theorem numsV_append : ∀ (l m : List Nat), numsV (l ++ m) = numsV l ++ numsV m
  | [], _ => rfl
  | n :: r, m => by simp only [List.cons_append, numsV, numsV_append r m, List.append_assoc]

theorem numsV_length : ∀ (l : List Nat) (_ : ∀ n ∈ l, n < 9223372036854775808), (numsV l).length ≤ 21 * l.length
  | [], _ => Nat.le_refl _
  | n :: r, h => by
    have h1 := digits20 n (by have := h n (by simp); omega)
    have h2 := numsV_length r (fun m hm => h m (by simp [hm]))
    simp only [numsV, List.length_append, List.length_cons]
    omega

theorem numsV_take (l : List Nat) (k : Nat) (hk : k < l.length) : numsV (l.take (k + 1)) = numsV (l.take k) ++ [32] ++ Lib.decDigits l[k] := by
  rw [List.take_succ_eq_append_getElem hk, numsV_append]
  simp [numsV]

theorem bcells_append (a b : List UInt8) : Lib.byteCells (a ++ b) = Lib.byteCells a ++ Lib.byteCells b := by simp [Lib.byteCells]

/-- strconv.AppendInt, here. -/
theorem appInt_here (B n u : Nat) (hu : u < 9223372036854775808) (sv : Value) (xs : List Value) (w : World) (hown : Byt w B 5 sv n xs) (hB : B ≤ w.heap.size) (hlim : n + 20 ≤ 140737488355328)
    (htab : Lib.TabIs Tryd.prog w "internal/strconv.uint64pow10" .u64 Lib.pow10Tab) :
    Calls Tryd.prog 39 #[sv, .int .i64 (u : Int), .int .i64 10] w fun e w' => ∃ v', e = .returned v' ∧ Byt w' B 5 v' (n + (Lib.decDigits u).length) (xs ++ Lib.byteCells (Lib.decDigits u)) ∧ Below B w w' :=
  appInt_byt laysM176 B n u hu sv xs w hown hB hlim htab

set_option maxRecDepth 100000 in
set_option maxHeartbeats 2000000 in
theorem word_any (s : ByteArray) (hs : s.size ≤ 100) (l : List Nat) (hl : l.length ≤ 8) (h63 : ∀ n ∈ l, n < 9223372036854775808) (q cap : Nat) (w : World) (hq : q < w.heap.size)
    (hc : ∀ j (hj : j < l.length), w.cell? ⟨q, j, none⟩ = some (.int .i64 (l[j] : Int))) (htab : Lib.TabIs Tryd.prog w "internal/strconv.uint64pow10" .u64 Lib.pow10Tab) :
    Calls Tryd.prog 23 #[.string s, .slice (some ⟨q, 0, none⟩) l.length cap] w fun e w' => ∃ v, e = .returned v ∧ Byt w' w.heap.size 5 v (s.size + (numsV l).length) (byteCells s ++ Lib.byteCells (numsV l)) ∧ Below w.heap.size w w' := by
  have hcv := run_bytes_of_string (P := Tryd.prog) w 9 22 5 s Tryd.underlying9 Tryd.underlying22 Tryd.underlying5
  obtain ⟨i0, hi, hz0, hz1, hz2⟩ := info_parts (show (Tryd.prog.info? 5).map (fun i => (i.zero, i.size, i.bytes)) = some (some (.int .u8 0), 1, 1) by kernel_rfl)
  have HTab := Lib.hid (Lib.tabBelow_of_tabIs htab)
  have HC := Lib.hid hc
  have H63 := Lib.hid h63
  have hby := Byt.ofString w 5 s (Nat.le_refl _) (by unfold maxLen; omega)
  have hb0 : Below w.heap.size w (w.drew.alloc (.cells (bytesRow s (grownCap w s.size 0 5)) 5 ((bytesRow s (grownCap w s.size 0 5)).size, (bytesRow s (grownCap w s.size 0 5)).size + 1))) := (Below.refl _ w).drew.alloc (Nat.le_refl _) _
  obtain ⟨W, hW⟩ : ∃ W, W = w.drew.alloc (.cells (bytesRow s (grownCap w s.size 0 5)) 5 ((bytesRow s (grownCap w s.size 0 5)).size, (bytesRow s (grownCap w s.size 0 5)).size + 1)) := ⟨_, rfl⟩
  rw [← hW] at hcv hby hb0
  have HBy := Lib.hid hby
  have HB0 := Lib.hid hb0
  clear hc h63 htab hby hb0 hW
  go_enter Tryd.func23, Tryd.ntmps23
  go_wp2_with fail
  clear hcv
  go_loopw [5, 12] (fun x y wr => ∃ k, k ≤ l.length ∧ y = .int .i64 k ∧ Byt wr w.heap.size 5 x (s.size + (numsV (l.take k)).length) (byteCells s ++ Lib.byteCells (numsV (l.take k))) ∧ Below w.heap.size w wr) (fun _ y _ => l.length - (intOf y).toNat)
  case atStart => exact ⟨0, Nat.zero_le _, rfl, by simpa [numsV, Lib.byteCells] using HBy.out, HB0.out⟩
  case round =>
    obtain ⟨k, hk, rfl, hown, hbel⟩ := hrel
    have HOwn := Lib.hid hown
    have HBel := Lib.hid hbel
    have hsz := hbel.size
    by_cases hlt : k < l.length
    · have hck := (hbel.cell (p := ⟨q, k, none⟩) hq).trans (HC.out k hlt)
      have hnl := numsV_length (l.take k) (fun n hn => H63.out n (List.mem_of_mem_take hn))
      rw [List.length_take] at hnl
      have hl63 : l[k] < 9223372036854775808 := H63.out _ (List.getElem_mem hlt)
      have HT := Lib.hid (numsV_take l k hlt)
      clear hown hbel
      go_wp2_with (at_builtin; refine wpList_append_byt _ rfl _ _ 22 22 rfl w.heap.size 5 i0 Tryd.underlying22 hi hz0 hz1 hz2 _ _ _ rfl (HOwn.out.alloc _) _ 1 [.int .u8 32] rfl (Src.ofSlice _ Tryd.underlying22 ⟨wr.heap.size, 0, none⟩ 1 1 _ rfl ?c1 ?c2) ?c3 ?c4 ?_)
      case c1 => intro j u hj; match j, hj with | 0, hj => simp at hj; subst hj; simp [Addr.add]
      case c2 => intro u hu; simp at hu; subst hu; rfl
      case c3 => omega
      case c4 => simp; omega
      intro v2 w2 hb2 hg2
      have HB2 := Lib.hid hb2
      have HBel2 := Lib.hid ((HBel.out.alloc hsz _).grown hg2 (by simp; omega) (fun g hg => (HOwn.out.lt g hg).1))
      have hs2 := HBel2.out.size
      clear hb2 hg2
      go_wp2_with fail
      refine (appInt_here w.heap.size _ l[k] hl63 v2 _ w2 HB2.out hs2 ?d1 (HTab.out _ HBel2.out)).mono ?_
      case d1 => omega
      rintro e w3 ⟨v3, rfl, hb3, hbel3⟩
      have HB3 := Lib.hid hb3
      have HBel3 := Lib.hid (HBel2.out.trans hbel3)
      clear hb3 hbel3
      go_wp2_with fail
      go_roundw
      case rel =>
        refine ⟨k + 1, by omega, by go_num, ?_, HBel3.out⟩
        have h := HB3.out
        rw [HT.out]
        have h32 : Lib.byteCells [32] = [.int .u8 32] := rfl
        have l32 : ([32] : List UInt8).length = 1 := rfl
        simpa only [bcells_append, List.append_assoc, List.length_append, Nat.add_assoc, h32, l32] using h
      case measure => simp [intOf]; omega
    · have hke : k = l.length := by omega
      subst hke
      rw [List.take_length] at hown
      have HO := Lib.hid hown
      clear hown hbel
      go_wp2_with fail
      go_ret
      exact ⟨_, rfl, HO.out, HBel.out⟩

end Go.Proofs.YtkmoihkpaccbdaaDoor
