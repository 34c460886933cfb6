/-
  The model's VecOk, VecUp, VecBelow.
-/
import Derived.Test.YtblmhhijgdkkoaaVecX
namespace Go.Proofs.Ytblmhhijgdkkoaa
open Go.RowKit Go.Maps

theorem vecB_all {l : List Int} (h : ∀ j (hj : j < l.length), numB l[j] = true) : vecB l = decide (l.length = 4) := by
  unfold vecB
  rw [Bool.and_eq_left_iff_imp]
  intro _
  rw [List.all_eq_true]
  intro x hx
  obtain ⟨j, hj, rfl⟩ := List.getElem_of_mem hx
  exact h j hj
theorem vecB_bad {l : List Int} {j : Nat} (hj : j < l.length) (h : numB l[j] = false) : vecB l = false := by
  unfold vecB
  rw [Bool.and_eq_false_iff]
  refine .inr ?_
  rw [List.all_eq_false]
  exact ⟨l[j], List.getElem_mem hj, by simpa [numB] using h⟩

set_option maxRecDepth 100000 in
set_option maxHeartbeats 1000000 in
theorem l3vecOk_any (A : Option Addr) (l : List Int) (cap : Nat) (w : World) (hA : IntsIn w 0 w.heap.size A l) (hn : l.length ≤ 9223372036854775807) :
    Calls Try.prog 94 #[.slice A l.length cap] w fun e w' => e = .returned (.bool (vecB l)) ∧ w = w' := by
  have HA := Lib.hid hA
  clear hA
  go_enter Try.func94, Try.ntmps94
  go_wp2_with fail
  go_loop [3] (fun i => ∃ k : Nat, k ≤ l.length ∧ i = .int .i64 k ∧ ∀ j (hj : j < l.length), j < k → numB l[j] = true) (fun i => l.length - (intOf i).toNat)
  case atStart => exact ⟨0, Nat.zero_le _, rfl, fun j _ hj => absurd hj (by omega)⟩
  case round =>
    obtain ⟨k, hk, rfl, hall⟩ := hrel
    have HAll := Lib.hid hall
    clear hall
    by_cases hlt : k < l.length
    · obtain ⟨b, o, rfl, _, hb, hc⟩ := HA.out (by omega)
      have c0 := hc k hlt
      obtain ⟨x, hx⟩ : ∃ x, x = l[k] := ⟨_, rfl⟩
      rw [← hx] at c0
      have HX := Lib.hid hx
      clear hc hx
      cases hnb : numB x with
      | true =>
        have HN := Lib.hid hnb
        obtain ⟨h0, h1⟩ := numB_true hnb
        have h0' : ¬ x < 0 := by omega
        have h1' : ¬ 1000 < x := by omega
        clear hnb
        go_wp2_with fail
        go_round
        case rel =>
          refine ⟨k + 1, by omega, by go_num, fun j hj hjk => ?_⟩
          by_cases e : j = k
          · subst e; rw [← HX.out]; exact HN.out
          · exact HAll.out j hj (by omega)
        case measure => simp [intOf]; omega
      | false =>
        have HF := Lib.hid (vecB_bad hlt (by rw [← HX.out]; exact hnb))
        have hn' := numB_false hnb
        clear hnb
        by_cases h0 : x < 0
        all_goals
          go_wp2_with fail
          go_ret
          exact ⟨ret_bool (a := false) HF.out.symm, rfl⟩
    · have HT := Lib.hid (vecB_all fun j hj => HAll.out j hj (by omega))
      by_cases h4 : l.length = 4
      · have h4' : ((l.length : Int) == 4) = true := by simp; omega
        have HT' := Lib.hid (HT.out.trans (decide_eq_true h4))
        clear h4
        go_wp2_with fail
        go_ret
        exact ⟨ret_bool (a := true) HT'.out.symm, rfl⟩
      · have h4' : ((l.length : Int) == 4) = false := by simp; omega
        have HT' := Lib.hid (HT.out.trans (decide_eq_false h4))
        clear h4
        go_wp2_with fail
        go_ret
        exact ⟨ret_bool (a := false) HT'.out.symm, rfl⟩

theorem specVecOk_any (A : Option Addr) (l : List Int) (cap : Nat) (w : World) (hA : IntsIn w 0 w.heap.size A l) (hn : l.length ≤ 9223372036854775807) :
    Calls Try.prog 94 #[.slice A l.length cap] w fun e w' => e = .returned (.bool (vecB l)) ∧ Below w.heap.size w w' :=
  (l3vecOk_any A l cap w hA hn).mono fun _ _ ⟨he, hw⟩ => ⟨he, hw ▸ Below.refl _ _⟩

/-- The greater ones of the first k. -/
def mxs (l m : List Int) (k : Nat) : List Int := (List.range k).map fun j => mx (l.getD j 0) (m.getD j 0)
theorem mxs_length (l m : List Int) (k : Nat) : (mxs l m k).length = k := by simp [mxs]
theorem mxs_succ (l m : List Int) (k : Nat) : mxs l m (k + 1) = mxs l m k ++ [mx (l.getD k 0) (m.getD k 0)] := by
  simp [mxs, List.range_succ]
theorem mxs_four {l m : List Int} (hl : vecB l = true) (hm : vecB m = true) : mxs l m 4 = upV l m := by
  simp [mxs, upV, hl, hm, List.range_succ]

set_option maxRecDepth 100000 in
set_option maxHeartbeats 1000000 in
theorem l3below_any (A A2 : Option Addr) (a b c d a' b' c' d' : Int) (cap cap2 : Nat) (w : World) (hA : IntsIn w 0 w.heap.size A [a, b, c, d]) (hA2 : IntsIn w 0 w.heap.size A2 [a', b', c', d']) :
    Calls Try.prog 122 #[.slice A 4 cap, .slice A2 4 cap2] w fun e w' => e = .returned (.bool (belB a b c d a' b' c' d')) ∧ Below w.heap.size w w' := by
  obtain ⟨g, o, rfl, _, hb, hc⟩ := hA (by simp)
  obtain ⟨g', o', rfl, _, hb', hc'⟩ := hA2 (by simp)
  have HC := Lib.hid (show ∀ k, k < 4 → w.cell? ⟨g, o + k, none⟩ = some (.int .i64 (nth4 a b c d k)) from fun k hk => by
    have : k = 0 ∨ k = 1 ∨ k = 2 ∨ k = 3 := by omega
    rcases this with rfl | rfl | rfl | rfl
    · exact hc 0 (by simp)
    · exact hc 1 (by simp)
    · exact hc 2 (by simp)
    · exact hc 3 (by simp))
  have HC' := Lib.hid (show ∀ k, k < 4 → w.cell? ⟨g', o' + k, none⟩ = some (.int .i64 (nth4 a' b' c' d' k)) from fun k hk => by
    have : k = 0 ∨ k = 1 ∨ k = 2 ∨ k = 3 := by omega
    rcases this with rfl | rfl | rfl | rfl
    · exact hc' 0 (by simp)
    · exact hc' 1 (by simp)
    · exact hc' 2 (by simp)
    · exact hc' 3 (by simp))
  clear hc hc' hA hA2
  go_enter Try.func122, Try.ntmps122
  go_wp2_with fail
  go_loopw [5] (fun i wr => ∃ k n : Nat, k ≤ 4 ∧ i = .int .i64 k ∧ wr = w.drewN n ∧ ∀ j, j < k → nth4 a b c d j ≤ nth4 a' b' c' d' j) (fun i _ => 4 - (intOf i).toNat)
  case atStart => exact ⟨0, 0, Nat.zero_le _, rfl, rfl, fun j hj => absurd hj (by omega)⟩
  case round =>
    obtain ⟨k, n, hk, rfl, rfl, hall⟩ := hrel
    have HAll := Lib.hid hall
    clear hall
    by_cases hlt : k < 4
    · have c0 := HC.out k hlt
      have c1 := HC'.out k hlt
      obtain ⟨x, hx⟩ : ∃ x, x = nth4 a b c d k := ⟨_, rfl⟩
      obtain ⟨y, hy⟩ : ∃ y, y = nth4 a' b' c' d' k := ⟨_, rfl⟩
      rw [← hx] at c0
      rw [← hy] at c1
      have HX := Lib.hid hx
      have HY := Lib.hid hy
      have hlt' : (k : Int) < 4 := by omega
      clear hx hy
      by_cases hxy : y < x
      · have HF := Lib.hid (show belB a b c d a' b' c' d' = false by
          have hx := HX.out
          have hy := HY.out
          unfold belB
          rw [mx_beq, mx_beq, mx_beq, mx_beq]
          have : k = 0 ∨ k = 1 ∨ k = 2 ∨ k = 3 := by omega
          rcases this with rfl | rfl | rfl | rfl
          · have : ¬ a ≤ a' := by simp [nth4] at hx hy; omega
            simp [this]
          · have : ¬ b ≤ b' := by simp [nth4] at hx hy; omega
            simp [this]
          · have : ¬ c ≤ c' := by simp [nth4] at hx hy; omega
            simp [this]
          · have : ¬ d ≤ d' := by simp [nth4] at hx hy; omega
            simp [this])
        go_wp2_with fail
        go_quiet (fail)
        go_wp2_with fail
        go_ret
        exact ⟨ret_bool (a := false) HF.out.symm, below_drewN (below_drewN (Below.refl _ _) _) _⟩
      · have hxy' : x ≤ y := by omega
        go_wp2_with fail
        go_quiet (fail)
        go_wp2_with fail
        go_roundw
        case rel =>
          refine ⟨k + 1, n + nq, by omega, by go_num, by simp [World.drewN], fun j hj => ?_⟩
          by_cases e : j = k
          · rw [e, ← HX.out, ← HY.out]; exact hxy'
          · exact HAll.out j (by omega)
        case measure => simp [intOf]; omega
    · have HT := Lib.hid (show belB a b c d a' b' c' d' = true by
        unfold belB
        rw [mx_beq, mx_beq, mx_beq, mx_beq]
        have h0 := HAll.out 0 (by omega)
        have h1 := HAll.out 1 (by omega)
        have h2 := HAll.out 2 (by omega)
        have h3 := HAll.out 3 (by omega)
        simp [nth4] at h0 h1 h2 h3
        simp [h0, h1, h2, h3])
      go_wp2_with fail
      go_ret
      exact ⟨ret_bool (a := true) HT.out.symm, below_drewN (Below.refl _ _) _⟩

theorem upV_length (l m : List Int) : (upV l m).length ≤ 4 := by
  unfold upV
  split <;> simp

end Go.Proofs.Ytblmhhijgdkkoaa
