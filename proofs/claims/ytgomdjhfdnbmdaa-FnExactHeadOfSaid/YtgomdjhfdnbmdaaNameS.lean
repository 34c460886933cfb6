/-
  Names: as plain data; the model's NameOk and the program's.
-/
import Derived.Test.YtgomdjhfdnbmdaaLok
import Derived.Laws.RangeAny
import Derived.Laws.RangeString
import Derived.Laws.BytesString
import Derived.Lib.OthersKept
import Derived.Outline
namespace Go.Proofs.Ytgomdjhfdnbmdaa
open Go.RowKit Go.Maps

/-- A rune that no name has. -/
def badRune (r : Int) : Bool := decide (r ≤ 32) || r == 47 || r == 126 || r == 65533
theorem badRune_false {r : Int} (h : badRune r = false) : ¬ r ≤ 32 ∧ (r == 47) = false ∧ (r == 126) = false ∧ (r == 65533) = false := by
  simp [badRune] at h
  simp
  omega

/-- How many runes there are from pos on and n ahead of it; none: one of them is bad. -/
def scan (s : ByteArray) : Nat → Nat → Nat → Option Nat
  | 0, _, n => some n
  | f + 1, pos, n => if pos < s.size then (if badRune (Utf8.decode s pos).1 = true then none else scan s f (pos + (Utf8.decode s pos).2) (n + 1)) else some n

theorem wd_pos (s : ByteArray) (pos : Nat) (h : pos < s.size) : 1 ≤ (Utf8.decode s pos).2 := by
  by_cases ha : (s[pos]'h).toNat < 128
  · rw [decode_ascii s pos h ha]
    exact Nat.le_refl _
  · exact (decode_high s pos h (by omega)).2

theorem scan_end (s : ByteArray) (f pos n : Nat) (h : ¬ pos < s.size) : scan s f pos n = some n := by
  cases f with
  | zero => rfl
  | succ f => simp [scan, h]

def nameB (l : List UInt8) : Bool := match scan ⟨l.toArray⟩ l.length 0 0 with
  | none => false
  | some n => decide (1 ≤ n) && decide (n ≤ 6) && decide (l.length ≤ 24)

end Go.Proofs.Ytgomdjhfdnbmdaa
