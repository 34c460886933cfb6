/-
  The model's l3dot: where an entry of the same deed stands.
-/
import Derived.Test.YtblmhhijgdkkoaaCmpS
namespace Go.Proofs.Ytblmhhijgdkkoaa
open Go.RowKit Go.Maps

/-- Has one of the first entries this deed? -/
def hasDeed (es : List En) (d m : Int) : Bool := es.any fun e => e.dev == d && e.num == m

/-- Where that deed stands; -1 if nowhere. -/
def dotV (es : List En) (d m : Int) : Int := match es.findIdx? (fun e => e.dev == d && e.num == m) with | some i => (i : Int) | none => -1

theorem dotV_has (es : List En) (d m : Int) : decide (0 ≤ dotV es d m) = hasDeed es d m := by
  unfold dotV hasDeed
  cases h : es.findIdx? (fun e => e.dev == d && e.num == m) with
  | none =>
    rw [List.findIdx?_eq_none_iff] at h
    have : es.any (fun e => e.dev == d && e.num == m) = false := by
      rw [List.any_eq_false]
      intro x hx
      rw [h x hx]
      simp
    rw [this]
    simp
  | some i =>
    rw [List.findIdx?_eq_some_iff_getElem] at h
    obtain ⟨hi, hp, _⟩ := h
    have : es.any (fun e => e.dev == d && e.num == m) = true := List.any_eq_true.2 ⟨es[i], List.getElem_mem hi, hp⟩
    rw [this]
    simp
theorem dotV_at {es : List En} {d m : Int} {k : Nat} (hk : k < es.length) (h : (es[k].dev == d && es[k].num == m) = true) (hb : ∀ j (hj : j < es.length), j < k → (es[j].dev == d && es[j].num == m) = false) : dotV es d m = k := by
  unfold dotV
  rw [List.findIdx?_eq_some_iff_getElem.2 ⟨hk, h, fun j hj => by rw [hb j (by omega) hj]; simp⟩]
theorem dotV_none {es : List En} {d m : Int} (hb : ∀ j (hj : j < es.length), (es[j].dev == d && es[j].num == m) = false) : dotV es d m = -1 := by
  unfold dotV
  rw [List.findIdx?_eq_none_iff.2]
  intro x hx
  obtain ⟨j, hj, rfl⟩ := List.getElem_of_mem hx
  exact hb j hj

theorem inB_hasDeed (es : List En) (e : En) : inB (es.map deedOf) (deedOf e) = hasDeed es e.dev e.num := by
  unfold inB hasDeed
  rw [Bool.eq_iff_iff]
  simp [deedOf]

set_option maxRecDepth 100000 in
set_option maxHeartbeats 2000000 in
theorem l3dot_any (A B : Option Addr) (c cb : Nat) (es : List En) (e : En) (w : World) (hA : EnsIn w 0 w.heap.size A es) (hn : es.length ≤ 1048576) :
    Calls Try.prog 96 #[.slice A es.length c, enV B cb e] w fun r w' => r = .returned (.int .i64 (dotV es e.dev e.num)) ∧ Below w.heap.size w w' := by
  have HA := Lib.hid hA
  clear hA
  obtain ⟨n1, v1, d1, m1⟩ := e
  unfold enV
  simp only
  go_enter Try.func96, Try.ntmps96
  go_wp2_with fail
  obtain ⟨W, hW⟩ : ∃ W, W = w.alloc (.cells #[.slice B n1.length cb, .int .i64 v1, .int .i64 d1, .int .i64 m1] 93) := ⟨_, rfl⟩
  have HX := Lib.hid (show Bx W w.heap.size [.slice B n1.length cb, .int .i64 v1, .int .i64 d1, .int .i64 m1] by rw [hW]; exact Bx.new' _ _ _ _ rfl)
  have HBel := Lib.hid (show Below w.heap.size w W by rw [hW]; exact (Below.refl _ _).alloc (Nat.le_refl _) _)
  have hzW : w.heap.size < W.heap.size := by rw [hW]; simp
  rw [← hW]
  clear hW
  go_loopw [5] (fun i wr => ∃ k n : Nat, k ≤ es.length ∧ i = .int .i64 k ∧ wr = W.drewN n ∧ ∀ j (hj : j < es.length), j < k → (es[j].dev == d1 && es[j].num == m1) = false) (fun i _ => es.length - (intOf i).toNat)
  case atStart => exact ⟨0, 0, Nat.zero_le _, rfl, rfl, fun j _ hj => absurd hj (by omega)⟩
  case round =>
    obtain ⟨k, n, hk, rfl, rfl, hall⟩ := hrel
    have HAll := Lib.hid hall
    clear hall
    by_cases hlt : k < es.length
    · obtain ⟨bA, oA, rfl, _, hbA, hcA⟩ := HA.out (by omega)
      obtain ⟨An, cn, _, _, c2, c3, _⟩ := (hcA k hlt).keep (Nat.zero_le _) hbA (fun p _ hp => HBel.out.cell hp)
      obtain ⟨f, hf⟩ : ∃ f, f = es[k] := ⟨_, rfl⟩
      rw [← hf] at c2 c3
      have HF := Lib.hid hf
      have x2 := HX.out 2 (by simp)
      have x3 := HX.out 3 (by simp)
      simp only [List.getElem_cons_succ, List.getElem_cons_zero] at x2 x3
      obtain ⟨n2, v2, d2, m2⟩ := f
      simp only at c2 c3
      have hlt' : (k : Int) < (es.length : Int) := by omega
      clear hcA hf
      cases hd : (d2 == d1) with
      | true =>
        cases hm : (m2 == m1) with
        | true =>
          have HT := Lib.hid (show dotV es d1 m1 = k from dotV_at hlt (by rw [← HF.out]; show (d2 == d1 && m2 == m1) = true; rw [hd, hm]; rfl) HAll.out)
          go_wp2_with fail
          go_quiet (fail)
          go_wp2_with fail
          go_ret
          exact ⟨ret_int (a := (k : Int)) HT.out.symm, below_drewN (below_drewN HBel.out _) _⟩
        | false =>
          have HN := Lib.hid (show (es[k].dev == d1 && es[k].num == m1) = false by rw [← HF.out]; show (d2 == d1 && m2 == m1) = false; rw [hm]; simp)
          go_wp2_with fail
          go_quiet (fail)
          go_wp2_with fail
          go_roundw
          case rel =>
            refine ⟨k + 1, n + nq, by omega, by go_num, by simp [World.drewN], fun j hj hjk => ?_⟩
            by_cases ej : j = k
            · subst ej; exact HN.out
            · exact HAll.out j hj (by omega)
          case measure => simp [intOf]; omega
      | false =>
        have HN := Lib.hid (show (es[k].dev == d1 && es[k].num == m1) = false by rw [← HF.out]; show (d2 == d1 && m2 == m1) = false; rw [hd]; simp)
        go_wp2_with fail
        go_quiet (fail)
        go_wp2_with fail
        go_roundw
        case rel =>
          refine ⟨k + 1, n + nq, by omega, by go_num, by simp [World.drewN], fun j hj hjk => ?_⟩
          by_cases ej : j = k
          · subst ej; exact HN.out
          · exact HAll.out j hj (by omega)
        case measure => simp [intOf]; omega
    · have HT := Lib.hid (show dotV es d1 m1 = -1 from dotV_none fun j hj => HAll.out j hj (by omega))
      go_wp2_with fail
      go_ret
      exact ⟨ret_int (a := -1) HT.out.symm, below_drewN HBel.out _⟩

end Go.Proofs.Ytblmhhijgdkkoaa
