/-
  The program's reading of one term behind those of a book.
-/
import Derived.Test.YtblmhhijgdkkoaaImplParts
namespace Go.Proofs.Ytblmhhijgdkkoaa
open Go.RowKit

/-- May t stand behind the terms us? -/
def readB (us : List Tm) (t : Tm) : Bool := fieldsB t && partsB us t

/-- What 'read' hands back. -/
def readV (us : List Tm) (t : Tm) : Value := if readB us t = true then .tuple #[tv t, .bool true] else .tuple #[.nilIface, .bool false]

set_option maxRecDepth 100000 in
set_option maxHeartbeats 1000000 in
theorem read_any (A A' : Option Addr) (us : List Tm) (t : Tm) (c c' L B L' B' : Nat) (m : Option Nat) (w : World) (hA : BkIn w L B A us) (hB : B ≤ w.heap.size) (hA' : BytesIn w L' B' A' t.text) (hB' : B' ≤ w.heap.size) (hn : us.length ≤ 1048576) (hl : t.text.length ≤ 1048576) :
    Calls Try.prog 114 #[.agg #[.slice A us.length c, .map m], .agg #[.int .i64 t.kind, .int .i64 t.a, .int .i64 t.b, .slice A' t.text.length c']] w fun e w' => e = .returned (readV us t) ∧ Below w.heap.size w w' := by
  have HA := Lib.hid hA
  have HA' := Lib.hid hA'
  clear hA hA'
  cases h1 : fieldsB t with
  | false =>
    have HR := Lib.hid (show readV us t = .tuple #[.nilIface, .bool false] by simp [readV, readB, h1])
    have H1 := Lib.hid h1
    clear h1
    go_enter Try.func114, Try.ntmps114
    go_wp2_with fail
    refine (fieldsOk_any _ _ _ _ hl).mono ?_
    rintro e w1 ⟨rfl, hb⟩
    rw [H1.out]
    have HB := Lib.hid (((Below.refl _ _).alloc (Nat.le_refl _) _).alloc (by simp) _ |>.trans (hb.mono (by simp; omega)))
    clear hb
    go_wp2_with fail
    go_ret2
    exact ⟨ret_val HR.out.symm, HB.out⟩
  | true =>
    have H1 := Lib.hid h1
    cases h2 : partsB us t with
    | false =>
      have HR := Lib.hid (show readV us t = .tuple #[.nilIface, .bool false] by simp [readV, readB, h2])
      have H2 := Lib.hid h2
      clear h1 h2
      go_enter Try.func114, Try.ntmps114
      go_wp2_with fail
      refine (fieldsOk_any _ _ _ _ hl).mono ?_
      rintro e w1 ⟨rfl, hb⟩
      rw [H1.out]
      obtain ⟨hc, _⟩ := bcell hb
      have b0 : w1.cell? ⟨w.heap.size, 0, none⟩ = some (.slice A us.length c) := (hc _ _ (by simp; omega)).trans (by simp)
      have b1 : w1.cell? ⟨w.heap.size, 1, none⟩ = some (.map m) := (hc _ _ (by simp; omega)).trans (by simp)
      have hz1 : w.heap.size + 1 + 1 ≤ w1.heap.size := by simpa using hb.size
      have HB := Lib.hid (((Below.refl _ _).alloc (Nat.le_refl _) _).alloc (by simp) _ |>.trans (hb.mono (by simp; omega)))
      clear hb
      go_wp2_with fail
      refine (readTerm_any t _ _ L' B' _ (HA'.out.keep fun p _ hp => HB.out.cell (by omega)) (by have := HB.out.size; omega)).mono ?_
      rintro e w2 ⟨rfl, hb2⟩
      have d0 := (hb2.cell (p := ⟨w.heap.size, 0, none⟩) (by show w.heap.size < _; omega)).trans b0
      have d1 := (hb2.cell (p := ⟨w.heap.size, 1, none⟩) (by show w.heap.size < _; omega)).trans b1
      have hz := HB.out.size
      clear b0 b1 hc
      have HB2 := Lib.hid (HB.out.trans (hb2.mono hz))
      clear hb2
      go_wp2_with fail
      refine (hasPartsOf_any A us c L B m _ t (HA.out.keep fun p _ hp => HB2.out.cell (by omega)) (by have := HB2.out.size; omega) hn).mono ?_
      rintro e w3 ⟨rfl, hb3⟩
      rw [H2.out]
      have HB3 := Lib.hid (HB2.out.trans (hb3.mono HB2.out.size))
      clear hb3
      go_wp2_with fail
      go_ret2
      exact ⟨ret_val HR.out.symm, HB3.out⟩
    | true =>
      have HR := Lib.hid (show readV us t = .tuple #[tv t, .bool true] by simp [readV, readB, h1, h2])
      have H2 := Lib.hid h2
      clear h1 h2
      go_enter Try.func114, Try.ntmps114
      go_wp2_with fail
      refine (fieldsOk_any _ _ _ _ hl).mono ?_
      rintro e w1 ⟨rfl, hb⟩
      rw [H1.out]
      obtain ⟨hc, _⟩ := bcell hb
      have b0 : w1.cell? ⟨w.heap.size, 0, none⟩ = some (.slice A us.length c) := (hc _ _ (by simp; omega)).trans (by simp)
      have b1 : w1.cell? ⟨w.heap.size, 1, none⟩ = some (.map m) := (hc _ _ (by simp; omega)).trans (by simp)
      have hz1 : w.heap.size + 1 + 1 ≤ w1.heap.size := by simpa using hb.size
      have HB := Lib.hid (((Below.refl _ _).alloc (Nat.le_refl _) _).alloc (by simp) _ |>.trans (hb.mono (by simp; omega)))
      clear hb
      go_wp2_with fail
      refine (readTerm_any t _ _ L' B' _ (HA'.out.keep fun p _ hp => HB.out.cell (by omega)) (by have := HB.out.size; omega)).mono ?_
      rintro e w2 ⟨rfl, hb2⟩
      have d0 := (hb2.cell (p := ⟨w.heap.size, 0, none⟩) (by show w.heap.size < _; omega)).trans b0
      have d1 := (hb2.cell (p := ⟨w.heap.size, 1, none⟩) (by show w.heap.size < _; omega)).trans b1
      have hz := HB.out.size
      clear b0 b1 hc
      have HB2 := Lib.hid (HB.out.trans (hb2.mono hz))
      clear hb2
      go_wp2_with fail
      refine (hasPartsOf_any A us c L B m _ t (HA.out.keep fun p _ hp => HB2.out.cell (by omega)) (by have := HB2.out.size; omega) hn).mono ?_
      rintro e w3 ⟨rfl, hb3⟩
      rw [H2.out]
      have HB3 := Lib.hid (HB2.out.trans (hb3.mono HB2.out.size))
      clear hb3
      go_wp2_with fail
      go_ret2
      exact ⟨ret_val HR.out.symm, HB3.out⟩

end Go.Proofs.Ytblmhhijgdkkoaa
