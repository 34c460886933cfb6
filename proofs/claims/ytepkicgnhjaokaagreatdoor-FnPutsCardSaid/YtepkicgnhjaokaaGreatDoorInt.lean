/-
  Lists of numbers in memory: read, new, copied by the law.
-/
import Derived.Test.YtepkicgnhjaokaaGreatDoorMark
import Derived.Deep.OwnRows
namespace Go.Proofs.YtepkicgnhjaokaaGreatDoor
open Go.RowKit Go.Maps

/-- The slice address A (of l.length numbers) holds the numbers l, in a block from L on, below B. -/
def IntsIn (w : World) (L B : Nat) (A : Option Addr) (l : List Int) : Prop :=
  0 < l.length → ∃ b o, A = some ⟨b, o, none⟩ ∧ L ≤ b ∧ b < B ∧ ∀ j (hj : j < l.length), w.cell? ⟨b, o + j, none⟩ = some (.int .i64 l[j])

section

variable {w w' : World} {L L' B B' : Nat} {A : Option Addr} {l : List Int}

theorem IntsIn.mono (h : IntsIn w L B A l) (hB : B ≤ B') : IntsIn w L B' A l := fun hl => by
  obtain ⟨b, o, e, hL, hb, hc⟩ := h hl
  exact ⟨b, o, e, hL, by omega, hc⟩

theorem IntsIn.low (h : IntsIn w L B A l) (hL' : L' ≤ L) : IntsIn w L' B A l := fun hl => by
  obtain ⟨b, o, e, hL, hb, hc⟩ := h hl
  exact ⟨b, o, e, by omega, hb, hc⟩

theorem IntsIn.keep (h : IntsIn w L B A l) (hk : ∀ p : Addr, L ≤ p.block → p.block < B → w'.cell? p = w.cell? p) : IntsIn w' L B A l := fun hl => by
  obtain ⟨b, o, e, hL, hb, hc⟩ := h hl
  exact ⟨b, o, e, hL, hb, fun j hj => (hk _ hL hb).trans (hc j hj)⟩

end

/-- A new list of numbers is handed back. -/
def NewInts (l : List Int) (w : World) (e : Ending) (w' : World) : Prop :=
  ∃ A c, e = .returned (.slice A l.length c) ∧ l.length ≤ c ∧ c ≤ maxLen ∧ IntsIn w' w.heap.size w'.heap.size A l ∧ Below w.heap.size w w'

theorem NewInts.nil {w w' : World} (hb : Below w.heap.size w w') : NewInts [] w (.returned (.slice none 0 0)) w' :=
  ⟨none, 0, rfl, Nat.le_refl _, by unfold maxLen; omega, fun h => absurd h (by simp), hb⟩

theorem NewInts.one {w w1 : World} {a : Int} {T : TypeId} {g : Nat} {e : Ending} (he : e = .returned (.slice (some ⟨g, 0, none⟩) 1 1)) (hg : g = w1.heap.size) (hb : Below w.heap.size w w1) : NewInts [a] w e (w1.alloc (.cells #[.int .i64 a] T)) :=
  ⟨_, 1, by rw [he, hg]; rfl, Nat.le_refl _, by unfold maxLen; omega, fun _ => ⟨_, 0, rfl, hb.size, by simp, fun j hj => by
    have hj0 : j = 0 := by simpa using hj
    subst hj0
    simp⟩, hb.alloc hb.size _⟩

theorem NewInts.two {w w1 : World} {a b : Int} {T : TypeId} {g : Nat} {e : Ending} (he : e = .returned (.slice (some ⟨g, 0, none⟩) 2 2)) (hg : g = w1.heap.size) (hb : Below w.heap.size w w1) : NewInts [a, b] w e (w1.alloc (.cells #[.int .i64 a, .int .i64 b] T)) :=
  ⟨_, 2, by rw [he, hg]; rfl, Nat.le_refl _, by unfold maxLen; omega, fun _ => ⟨_, 0, rfl, hb.size, by simp, fun j hj => by
    have hj2 : j = 0 ∨ j = 1 := by simp at hj; omega
    rcases hj2 with rfl | rfl <;> simp⟩, hb.alloc hb.size _⟩

theorem Tryz.infoInt : (Tryz.prog.info? 3).map (fun i => (i.zero, i.size, i.bytes)) = some (some (.int .i64 0), 1, 8) := by kernel_rfl

/-- 'make([]int, n)'. -/
theorem run_make_ints (n : Nat) (hn : n ≤ 1048576) (w : World) :
    (Instr.makeSlice 23 (.int .i64 (n : Int)) (.int .i64 (n : Int))).run Tryz.prog w = .ok (.slice (some ⟨w.heap.size, 0, none⟩) n n) (w.alloc (.cells (madeCells #[.int .i64 0] n) 3)) :=
  run_make_row' (P := Tryz.prog) 23 3 (.int .i64 0) 8 Tryz.underlying23 Tryz.infoInt rfl .i64 .i64 n (by omega) (by omega) w

theorem rowIs_below {w w' : World} {b : Nat} {t : TypeId} {n : Nat} {f : Nat → Value} (h : w.rowIs b t n f) {B : Nat} (hb : Below B w w') (hlt : b < B) : w'.rowIs b t n f := h.of_block (hb.block b hlt)

theorem row_shape {w : World} {base : Nat} {e : TypeId} {v : Value} {n : Nat} {xs : List Value} (h : w.ownsRow base e 1 v n xs) : ∃ A c, v = .slice A n c := by
  obtain ⟨_, h | ⟨g, cap, cur, hv, _⟩⟩ := h
  · exact ⟨none, 0, by rw [h.1, h.2]⟩
  · exact ⟨_, _, hv⟩

theorem row_shapeN {w : World} {base : Nat} {e : TypeId} {size : Nat} {v : Value} {n : Nat} {xs : List Value} (h : w.ownsRow base e size v n xs) : ∃ A c, v = .slice A n c := by
  obtain ⟨_, h | ⟨g, cap, cur, hv, _⟩⟩ := h
  · exact ⟨none, 0, by rw [h.1, h.2]⟩
  · exact ⟨_, _, hv⟩

def vint (x : Int) : Value := .int .i64 x

/-- A new list of numbers that may be written into is handed back. -/
def NewIntsFr (l : List Int) (w : World) (e : Ending) (w' : World) : Prop :=
  ∃ A c, e = .returned (.slice A l.length c) ∧ IntsFr w' w.heap.size w'.heap.size A l ∧ Below w.heap.size w w'

theorem ints_of_row {w : World} {base : Nat} {e : TypeId} {A : Option Addr} {c : Nat} {l : List Int} (h : w.ownsRow base e 1 (.slice A l.length c) l.length (l.map vint)) : IntsFr w base w.heap.size A l := fun hl => by
  obtain ⟨_, hh | ⟨g, cap, cur, hv, hg, hb, _, _, _, htk⟩⟩ := h
  · omega
  · injection hv with h1 _ _
    subst h1
    refine ⟨g, 0, rfl, hg, (Array.getElem?_eq_some_iff.1 hb).1, fun i hi => ⟨?_, ?_⟩⟩
    · rw [Nat.zero_add]
      have h2 : (l.map vint)[i]? = some (vint l[i]) := by simp [hi]
      rw [← htk, Nat.mul_one, List.getElem?_take, if_pos hi] at h2
      rw [World.cell?, hb]
      simpa [vint] using h2
    · simp [World.frozen?, hb]

theorem IntsFr.ints {w : World} {L B : Nat} {A : Option Addr} {l : List Int} (h : IntsFr w L B A l) : IntsIn w L B A l := fun hl => by
  obtain ⟨b, o, e, hL, hb, hc⟩ := h hl
  exact ⟨b, o, e, hL, hb, fun j hj => (hc j hj).1⟩

end Go.Proofs.YtepkicgnhjaokaaGreatDoor
