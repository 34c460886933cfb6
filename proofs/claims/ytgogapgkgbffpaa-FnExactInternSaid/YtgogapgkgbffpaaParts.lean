/-
  What a term is made of: the model's list and the program's, from whatever kind.
-/
import Derived.Test.YtgogapgkgbffpaaOpen
import Derived.Handy
namespace Go.Proofs.Ytgogapgkgbffpaa
open Go.RowKit Go.Maps

/-- The slice address A (of l.length numbers) holds the numbers l, in a block from L on, below B. -/
def IntsIn (w : World) (L B : Nat) (A : Option Addr) (l : List Int) : Prop :=
  0 < l.length → ∃ b o, A = some ⟨b, o, none⟩ ∧ L ≤ b ∧ b < B ∧ ∀ j (hj : j < l.length), w.cell? ⟨b, o + j, none⟩ = some (.int .i64 l[j])

section
variable {w w' : World} {L L' B B' : Nat} {A : Option Addr} {l : List Int}

theorem IntsIn.mono (h : IntsIn w L B A l) (hB : B ≤ B') : IntsIn w L B' A l := fun hl => by
  obtain ⟨b, o, e, hL, hb, hc⟩ := h hl
  exact ⟨b, o, e, hL, by omega, hc⟩

theorem IntsIn.low (h : IntsIn w L B A l) (hL' : L' ≤ L) : IntsIn w L' B A l := fun hl => by
  obtain ⟨b, o, e, hL, hb, hc⟩ := h hl
  exact ⟨b, o, e, by omega, hb, hc⟩

theorem IntsIn.keep (h : IntsIn w L B A l) (hk : ∀ p : Addr, L ≤ p.block → p.block < B → w'.cell? p = w.cell? p) : IntsIn w' L B A l := fun hl => by
  obtain ⟨b, o, e, hL, hb, hc⟩ := h hl
  exact ⟨b, o, e, hL, hb, fun j hj => (hk _ hL hb).trans (hc j hj)⟩
end

/-- What a term is made of. -/
def partsV (t : Tm) : List Int :=
  if t.kind = 4 then [t.a] else if t.kind = 3 ∨ t.kind = 5 ∨ t.kind = 6 then [t.a, t.b] else []

/-- A new list of numbers is handed back. -/
def NewInts (l : List Int) (w : World) (e : Ending) (w' : World) : Prop :=
  ∃ A c, e = .returned (.slice A l.length c) ∧ l.length ≤ c ∧ c ≤ maxLen ∧ IntsIn w' w.heap.size w'.heap.size A l ∧ Below w.heap.size w w'

theorem NewInts.nil {w w' : World} (hb : Below w.heap.size w w') : NewInts [] w (.returned (.slice none 0 0)) w' :=
  ⟨none, 0, rfl, Nat.le_refl _, by unfold maxLen; omega, fun h => absurd h (by simp), hb⟩
theorem NewInts.one {w w1 : World} {a : Int} {T : TypeId} {g : Nat} {e : Ending} (he : e = .returned (.slice (some ⟨g, 0, none⟩) 1 1)) (hg : g = w1.heap.size) (hb : Below w.heap.size w w1) : NewInts [a] w e (w1.alloc (.cells #[.int .i64 a] T)) :=
  ⟨_, 1, by rw [he, hg]; rfl, Nat.le_refl _, by unfold maxLen; omega, fun _ => ⟨_, 0, rfl, hb.size, by simp, fun j hj => by
    have hj0 : j = 0 := by simpa using hj
    subst hj0
    simp⟩, hb.alloc hb.size _⟩
theorem NewInts.two {w w1 : World} {a b : Int} {T : TypeId} {g : Nat} {e : Ending} (he : e = .returned (.slice (some ⟨g, 0, none⟩) 2 2)) (hg : g = w1.heap.size) (hb : Below w.heap.size w w1) : NewInts [a, b] w e (w1.alloc (.cells #[.int .i64 a, .int .i64 b] T)) :=
  ⟨_, 2, by rw [he, hg]; rfl, Nat.le_refl _, by unfold maxLen; omega, fun _ => ⟨_, 0, rfl, hb.size, by simp, fun j hj => by
    have hj2 : j = 0 ∨ j = 1 := by simp at hj; omega
    rcases hj2 with rfl | rfl <;> simp⟩, hb.alloc hb.size _⟩

set_option maxHeartbeats 1000000 in
theorem l1parts_any (t : Tm) (A : Option Addr) (c : Nat) (w : World) :
    Calls Try.prog 74 #[.agg #[.int .i64 t.kind, .int .i64 t.a, .int .i64 t.b, .slice A t.text.length c]] w (NewInts (partsV t) w) := by
  obtain ⟨k, a, b, l⟩ := t
  go_enter Try.func74, Try.ntmps74
  go_wp2
  · go_ret
    rw [show partsV ⟨k, a, b, l⟩ = [a] by simp_all [partsV]]
    exact .one rfl (by simp) ((Below.refl _ _).alloc (Nat.le_refl _) _)
  · go_ret
    rw [show partsV ⟨k, a, b, l⟩ = [a, b] by simp_all [partsV]]
    exact .two rfl (by simp) ((Below.refl _ _).alloc (Nat.le_refl _) _)
  · go_ret
    rw [show partsV ⟨k, a, b, l⟩ = [a, b] by simp_all [partsV]]
    exact .two rfl (by simp) ((Below.refl _ _).alloc (Nat.le_refl _) _)
  · go_ret
    rw [show partsV ⟨k, a, b, l⟩ = [a, b] by simp_all [partsV]]
    exact .two rfl (by simp) ((Below.refl _ _).alloc (Nat.le_refl _) _)
  · go_ret
    rw [show partsV ⟨k, a, b, l⟩ = [] by simp_all [partsV]]
    exact .nil ((Below.refl _ _).alloc (Nat.le_refl _) _)

set_option maxHeartbeats 1000000 in
theorem partsNonce_any (a : Int) (w : World) : Calls Try.prog 99 #[.agg #[.int .i64 a]] w (NewInts [] w) := by
  go_enter Try.func99, Try.ntmps99
  go_wp2
  go_ret
  exact .nil ((Below.refl _ _).alloc (Nat.le_refl _) _)

set_option maxHeartbeats 1000000 in
theorem partsKey_any (a : Int) (w : World) : Calls Try.prog 98 #[.agg #[.int .i64 a]] w (NewInts [] w) := by
  go_enter Try.func98, Try.ntmps98
  go_wp2
  go_ret
  exact .nil ((Below.refl _ _).alloc (Nat.le_refl _) _)

set_option maxHeartbeats 1000000 in
theorem partsText_any (s : ByteArray) (w : World) : Calls Try.prog 100 #[.agg #[.string s]] w (NewInts [] w) := by
  go_enter Try.func100, Try.ntmps100
  go_wp2
  go_ret
  exact .nil ((Below.refl _ _).alloc (Nat.le_refl _) _)

set_option maxHeartbeats 1000000 in
theorem partsHash_any (a : Int) (w : World) : Calls Try.prog 102 #[.agg #[.int .i64 a]] w (NewInts [a] w) := by
  go_enter Try.func102, Try.ntmps102
  go_wp2
  go_ret
  exact .one rfl (by simp) ((Below.refl _ _).alloc (Nat.le_refl _) _)

set_option maxHeartbeats 1000000 in
theorem partsPair_any (a b : Int) (w : World) : Calls Try.prog 101 #[.agg #[.int .i64 a, .int .i64 b]] w (NewInts [a, b] w) := by
  go_enter Try.func101, Try.ntmps101
  go_wp2
  go_ret
  exact .two rfl (by simp) ((Below.refl _ _).alloc (Nat.le_refl _) _)

set_option maxHeartbeats 1000000 in
theorem partsSeal_any (a b : Int) (w : World) : Calls Try.prog 96 #[.agg #[.int .i64 a, .int .i64 b]] w (NewInts [a, b] w) := by
  go_enter Try.func96, Try.ntmps96
  go_wp2
  go_ret
  exact .two rfl (by simp) ((Below.refl _ _).alloc (Nat.le_refl _) _)

set_option maxHeartbeats 1000000 in
theorem partsSign_any (a b : Int) (w : World) : Calls Try.prog 97 #[.agg #[.int .i64 a, .int .i64 b]] w (NewInts [a, b] w) := by
  go_enter Try.func97, Try.ntmps97
  go_wp2
  go_ret
  exact .two rfl (by simp) ((Below.refl _ _).alloc (Nat.le_refl _) _)

/-- Whatever kind a term is of: a call of its method 'parts' comes to a function that answers what it is made of. -/
theorem parts_invoke (t : Tm) (h : t.kind = 0 ∨ t.kind = 1 ∨ t.kind = 2 ∨ t.kind = 3 ∨ t.kind = 4 ∨ t.kind = 5 ∨ t.kind = 6) :
    ∃ T v F, tv t = .iface T v ∧ (∀ n w, (method (n + 1) T v "loop.example/g00642/impl.parts").run Try.prog w = .ok (F, v) w) ∧ (∀ args w, (callFunc F args).run Try.prog w = .ok (.enter F args) w) ∧
      ∀ w, Calls Try.prog F #[v] w (NewInts (partsV t) w) := by
  rcases h with h | h | h | h | h | h | h
  · exact ⟨_, _, 99, by simp [tv, h]; exact ⟨rfl, rfl⟩, fun _ _ => by kernel_rfl, fun _ _ => by kernel_rfl, fun w => by rw [show partsV t = [] by simp [partsV, h]]; exact partsNonce_any t.a w⟩
  · exact ⟨_, _, 98, by simp [tv, h]; exact ⟨rfl, rfl⟩, fun _ _ => by kernel_rfl, fun _ _ => by kernel_rfl, fun w => by rw [show partsV t = [] by simp [partsV, h]]; exact partsKey_any t.a w⟩
  · exact ⟨_, _, 100, by simp [tv, h]; exact ⟨rfl, rfl⟩, fun _ _ => by kernel_rfl, fun _ _ => by kernel_rfl, fun w => by rw [show partsV t = [] by simp [partsV, h]]; exact partsText_any _ w⟩
  · exact ⟨_, _, 101, by simp [tv, h]; exact ⟨rfl, rfl⟩, fun _ _ => by kernel_rfl, fun _ _ => by kernel_rfl, fun w => by rw [show partsV t = [t.a, t.b] by simp [partsV, h]]; exact partsPair_any t.a t.b w⟩
  · exact ⟨_, _, 102, by simp [tv, h]; exact ⟨rfl, rfl⟩, fun _ _ => by kernel_rfl, fun _ _ => by kernel_rfl, fun w => by rw [show partsV t = [t.a] by simp [partsV, h]]; exact partsHash_any t.a w⟩
  · exact ⟨_, _, 96, by simp [tv, h]; exact ⟨rfl, rfl⟩, fun _ _ => by kernel_rfl, fun _ _ => by kernel_rfl, fun w => by rw [show partsV t = [t.a, t.b] by simp [partsV, h]]; exact partsSeal_any t.a t.b w⟩
  · exact ⟨_, _, 97, by simp [tv, h]; exact ⟨rfl, rfl⟩, fun _ _ => by kernel_rfl, fun _ _ => by kernel_rfl, fun w => by rw [show partsV t = [t.a, t.b] by simp [partsV, h]]; exact partsSign_any t.a t.b w⟩

end Go.Proofs.Ytgogapgkgbffpaa
