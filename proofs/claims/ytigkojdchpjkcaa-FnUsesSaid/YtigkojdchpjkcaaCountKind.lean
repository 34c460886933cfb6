/-
  CountKind: the model's and the program's answer alike.
-/
import Derived.Test.YtigkojdchpjkcaaOpen
namespace Go.Proofs.Ytigkojdchpjkcaa
open Go.RowKit Go.Maps

/-- How many of a kind. -/
def countK (ts : List Tm) (kind : Int) : Nat := ts.countP fun t => t.kind == kind
/-- What CountKind answers. -/
noncomputable def countV (ts : List Tm) (kind : Int) : Int := if lokB ts = true then countK ts kind else -1

theorem countK_succ (ts : List Tm) (kind : Int) (k : Nat) (h : k < ts.length) : countK (ts.take (k + 1)) kind = countK (ts.take k) kind + (if ts[k].kind == kind then 1 else 0) := by
  unfold countK
  rw [List.take_succ_eq_append_getElem h, List.countP_append]
  simp [List.countP_cons]

theorem countK_le (ts : List Tm) (kind : Int) : countK ts kind ≤ ts.length := List.countP_le_length

section
variable (A : Option Addr) (ts : List Tm) (c L B : Nat) (kind : Int) (w : World)

set_option maxRecDepth 100000 in
set_option maxHeartbeats 1000000 in
theorem implCountKind_any (hA : TmsIn w L B A ts) (hB : B ≤ w.heap.size) (hn : ts.length ≤ 1048576) (hbk : bulk ts ≤ 1048576) :
    Calls Try.prog 38 #[.agg #[.slice A ts.length c], .int .i64 kind] w fun e w' => e = .returned (.int .i64 (countV ts kind)) ∧ Below w.heap.size w w' := by
  have HA := Lib.hid hA
  clear hA
  go_enter Try.func38, Try.ntmps38
  go_wp2_with fail
  have hb0 : Below w.heap.size w (w.alloc (.cells #[.slice A ts.length c] 25)) := (Below.refl _ _).alloc (Nat.le_refl _) _
  refine (implLedgerOk_any A ts c L B _ (HA.out.keep fun p _ hp => hb0.cell (by omega)) (by simp; omega) hn hbk).mono ?_
  rintro e w1 ⟨rfl, hb1⟩
  have b1 : w1.cell? ⟨w.heap.size, 0, none⟩ = some (.slice A ts.length c) := (hb1.cell (p := ⟨w.heap.size, 0, none⟩) (by simp)).trans (by simp)
  have HB := Lib.hid (hb0.trans (hb1.mono (by simp)))
  clear hb0 hb1
  cases hl : lokB ts with
  | false =>
    have HV := Lib.hid (show countV ts kind = -1 by simp [countV, hl])
    clear hl
    go_wp2_with fail
    all_goals go_ret
    all_goals exact ⟨ret_int HV.out.symm, HB.out⟩
  | true =>
    have HV := Lib.hid (show countV ts kind = countK ts kind by simp [countV, hl])
    clear hl
    go_wp2_with fail
    go_loopw [5, 14] (fun n i wr => ∃ k : Nat, k ≤ ts.length ∧ i = .int .i64 k ∧ n = .int .i64 (countK (ts.take k) kind) ∧ Below w.heap.size w wr) (fun _ i _ => ts.length - (intOf i).toNat)
    case atStart => exact ⟨0, Nat.zero_le _, rfl, by simp [countK], HB.out⟩
    case round =>
      obtain ⟨k, hk, rfl, rfl, hbel⟩ := hrel
      have hle := countK_le (ts.take k) kind
      have hlt2 : (ts.take k).length ≤ k := List.length_take_le _ _
      by_cases hlt : k < ts.length
      · obtain ⟨b, o, rfl, hL, hb, hc⟩ := HA.out (by omega)
        obtain ⟨A1, c1, x0, x1, x2, x3, _⟩ := (hc k hlt).keep hL hb (fun p _ hp => hbel.cell (by omega))
        have HS := Lib.hid (countK_succ ts kind k hlt)
        have HBel := Lib.hid (hbel.alloc hbel.size (.cells #[.int .i64 ts[k].kind, .int .i64 ts[k].a, .int .i64 ts[k].b, .slice A1 ts[k].text.length c1] 27))
        clear hc hbel
        cases hq : (ts[k].kind == kind) with
        | true =>
          have HQ := Lib.hid hq
          go_wp2_with fail
          go_roundw
          case rel => exact ⟨k + 1, by omega, by go_num, by rw [HS.out, HQ.out]; simp, HBel.out⟩
          case measure => simp [intOf]; omega
        | false =>
          have HQ := Lib.hid hq
          go_wp2_with fail
          go_roundw
          case rel => exact ⟨k + 1, by omega, by go_num, by rw [HS.out, HQ.out]; simp, HBel.out⟩
          case measure => simp [intOf]; omega
      · have HBel := Lib.hid hbel
        clear hbel
        go_wp2_with fail
        all_goals go_ret
        all_goals exact ⟨ret_int (by rw [HV.out, List.take_of_length_le (by omega)]), HBel.out⟩
end

end Go.Proofs.Ytigkojdchpjkcaa
