/-
  The device that has been read, whole: its 43 cells as one range.
-/
import Derived.Test.YtgomdjhfdnbmdaaDnS
import Derived.Deep.MidRow
namespace Go.Proofs.Ytgomdjhfdnbmdaa
open Go.RowKit Go.Maps

/-- The zero device with a number. -/
def d43 (id : Int) : List Value := [.int .i64 id, .int .i64 0, .int .i64 0, .int .i64 0, .int .i64 0, .slice none 0 0, .int .i64 0, .int .i64 0, .int .i64 0, .int .i64 0, .int .i64 0, .int .i64 0, .int .i64 0, .slice none 0 0, .int .i64 0, .int .i64 0, .int .i64 0, .int .i64 0, .int .i64 0, .int .i64 0, .int .i64 0, .int .i64 0, .slice none 0 0, .int .i64 0, .int .i64 0, .int .i64 0, .int .i64 0, .int .i64 0, .int .i64 0, .int .i64 0, .int .i64 0, .slice none 0 0, .int .i64 0, .int .i64 0, .int .i64 0, .int .i64 0, .int .i64 0, .int .i64 0, .int .i64 0, .int .i64 0, .slice none 0 0, .int .i64 0, .slice none 0 0]
theorem d43_len (id : Int) : (d43 id).length = 43 := rfl
theorem bx_range {w : World} {b : Nat} {l : List Value} (h : Bx w b l) : w.rangeAt b 0 l := fun j v hv => by
  have hj : j < l.length := (List.getElem?_eq_some_iff.1 hv).1
  have h0 := h j hj
  have he : l[j] = v := by rw [List.getElem?_eq_getElem hj] at hv; exact Option.some.inj hv
  rw [← he, Nat.zero_add]; exact h0
theorem range_below {w w' : World} {b B : Nat} {l : List Value} (h : w.rangeAt b 0 l) (hb : Below B w w') (hlt : b < B) : w'.rangeAt b 0 l := fun j v hv => (hb.cell (p := ⟨b, 0 + j, none⟩) hlt).trans (h j v hv)
theorem u43 : (Try.prog.underlying 71).map TypeDesc.isRow = some true := by kernel_rfl
theorem i43 : (Try.prog.info? 71).map (·.size) = some 43 := by kernel_rfl
theorem load43 {id : Int} {X : World} {b : Nat} (h : X.rangeAt b 0 (d43 id)) : (Instr.loadAt 71 (.pointer (some ⟨b, 0, none⟩))).run Try.prog X = .ok (.agg (d43 id).toArray) X := by
  obtain ⟨d, hd, hr⟩ := Option.map_eq_some_iff.1 u43
  exact run_loadAt_mid X b 0 71 (d43 id) d h hd hr i43

/-- The load of a device, by a name of its own: the walk is not to lay it open cell by cell. -/
def LA43 (v : Value) : Sem Value := Instr.loadAt 71 v
def LV43 (p : Addr) : Sem Value := loadVar 71 p
theorem la43_run {id : Int} {X : World} {b : Nat} (h : X.rangeAt b 0 (d43 id)) : (LA43 (.pointer (some ⟨b, 0, none⟩))).run Try.prog X = .ok (.agg (d43 id).toArray) X := load43 h
theorem lv43_run {id : Int} {X : World} {b : Nat} (h : X.rangeAt b 0 (d43 id)) : (LV43 ⟨b, 0, none⟩).run Try.prog X = .ok (.agg (d43 id).toArray) X := by
  obtain ⟨d, hd, hr⟩ := Option.map_eq_some_iff.1 u43
  exact run_loadVar_mid X b 0 71 (d43 id) d h hd hr i43

theorem la43_name (v : Value) : Instr.loadAt 71 v = LA43 v := rfl
theorem lv43_name (p : Addr) : loadVar 71 p = LV43 p := rfl

/-- The four heads, none of them there. -/
def z36 : List Value := [.int .i64 0, .int .i64 0, .int .i64 0, .int .i64 0, .int .i64 0, .int .i64 0, .int .i64 0, .slice none 0 0, .int .i64 0, .int .i64 0, .int .i64 0, .int .i64 0, .int .i64 0, .int .i64 0, .int .i64 0, .int .i64 0, .slice none 0 0, .int .i64 0, .int .i64 0, .int .i64 0, .int .i64 0, .int .i64 0, .int .i64 0, .int .i64 0, .int .i64 0, .slice none 0 0, .int .i64 0, .int .i64 0, .int .i64 0, .int .i64 0, .int .i64 0, .int .i64 0, .int .i64 0, .int .i64 0, .slice none 0 0, .int .i64 0]
theorem z36_of {id : Int} {X : World} {b : Nat} (h : X.rangeAt b 0 (d43 id)) : X.rangeAt b 6 z36 := fun j v hv => by
  have hj : j < 36 := (List.getElem?_eq_some_iff.1 hv).1
  have e : d43 id = [.int .i64 id, .int .i64 0, .int .i64 0, .int .i64 0, .int .i64 0, .slice none 0 0] ++ (z36 ++ [.slice none 0 0]) := rfl
  have := h (6 + j) v (by rw [e, List.getElem?_append_right (by simp), List.getElem?_append_left (show 6 + j - 6 < 36 by omega), ← hv]; simp)
  rw [Nat.zero_add] at this; exact this
theorem u36 : (Try.prog.underlying 68).map TypeDesc.isRow = some true := by kernel_rfl
theorem i36 : (Try.prog.info? 68).map (·.size) = some 36 := by kernel_rfl
def LA36 (v : Value) : Sem Value := Instr.loadAt 68 v
def LV36 (p : Addr) : Sem Value := loadVar 68 p
theorem la36_name (v : Value) : Instr.loadAt 68 v = LA36 v := rfl
theorem lv36_name (p : Addr) : loadVar 68 p = LV36 p := rfl
theorem la36_run {X : World} {b : Nat} (h : X.rangeAt b 6 z36) : (LA36 (.pointer (some ⟨b, 6, none⟩))).run Try.prog X = .ok (.agg z36.toArray) X := by
  obtain ⟨d, hd, hr⟩ := Option.map_eq_some_iff.1 u36
  exact run_loadAt_mid X b 6 68 z36 d h hd hr i36
theorem lv36_run {X : World} {b : Nat} (h : X.rangeAt b 6 z36) : (LV36 ⟨b, 6, none⟩).run Try.prog X = .ok (.agg z36.toArray) X := by
  obtain ⟨d, hd, hr⟩ := Option.map_eq_some_iff.1 u36
  exact run_loadVar_mid X b 6 68 z36 d h hd hr i36
/-- One of the four. -/
def z9 : Value := .agg #[.int .i64 0, .int .i64 0, .int .i64 0, .int .i64 0, .int .i64 0, .int .i64 0, .int .i64 0, .slice none 0 0, .int .i64 0]
theorem ix0 (w : World) : (Instr.index 68 (.agg z36.toArray) (.int .i64 0)).run Try.prog w = .ok z9 w := by kernel_rfl
theorem ix1 (w : World) : (Instr.index 68 (.agg z36.toArray) (.int .i64 1)).run Try.prog w = .ok z9 w := by kernel_rfl
theorem ix2 (w : World) : (Instr.index 68 (.agg z36.toArray) (.int .i64 2)).run Try.prog w = .ok z9 w := by kernel_rfl
theorem ix3 (w : World) : (Instr.index 68 (.agg z36.toArray) (.int .i64 3)).run Try.prog w = .ok z9 w := by kernel_rfl
theorem ix36 (k : Nat) (hk : k < 4) (w : World) : (Instr.index 68 (.agg z36.toArray) (.int .i64 (k : Int))).run Try.prog w = .ok z9 w := by
  have : k = 0 ∨ k = 1 ∨ k = 2 ∨ k = 3 := by omega
  rcases this with rfl | rfl | rfl | rfl
  · exact ix0 w
  · exact ix1 w
  · exact ix2 w
  · exact ix3 w

end Go.Proofs.Ytgomdjhfdnbmdaa
