/-
  The program's word and numbers: the word's bytes, and for each number a blank and its digits.
-/
import Derived.Test.YtepkicgnhjaokaaDoorShelf
import Derived.Test.YtepkicgnhjaokaaDoorTxtM
namespace Go.Proofs.YtepkicgnhjaokaaDoor
open Go.RowKit Go.Maps

/-- ' ' and the digits, of each number. -/
def numsV : List Nat → List UInt8
  | [] => []
  | n :: r => 32 :: Lib.decDigits n ++ numsV r

theorem numsV_append : ∀ (l m : List Nat), numsV (l ++ m) = numsV l ++ numsV m
  | [], _ => rfl
  | n :: r, m => by simp only [List.cons_append, numsV, numsV_append r m, List.append_assoc]

theorem numsV_length : ∀ (l : List Nat) (_ : ∀ n ∈ l, n < 9223372036854775808), (numsV l).length ≤ 21 * l.length
  | [], _ => Nat.le_refl _
  | n :: r, h => by
    have h1 := digits20 n (by have := h n (by simp); omega)
    have h2 := numsV_length r (fun m hm => h m (by simp [hm]))
    simp only [numsV, List.length_append, List.length_cons]
    omega

theorem numsV_take (l : List Nat) (k : Nat) (hk : k < l.length) : numsV (l.take (k + 1)) = numsV (l.take k) ++ [32] ++ Lib.decDigits l[k] := by
  rw [List.take_succ_eq_append_getElem hk, numsV_append]
  simp [numsV]

theorem bcells_append (a b : List UInt8) : Lib.byteCells (a ++ b) = Lib.byteCells a ++ Lib.byteCells b := by simp [Lib.byteCells]

/-- strconv.AppendInt, here. -/
theorem appInt_here (B n u : Nat) (hu : u < 9223372036854775808) (sv : Value) (xs : List Value) (w : World) (hown : Byt w B 5 sv n xs) (hB : B ≤ w.heap.size) (hlim : n + 20 ≤ 140737488355328)
    (htab : Lib.TabIs Tryd.prog w "internal/strconv.uint64pow10" .u64 Lib.pow10Tab) :
    Calls Tryd.prog 53 #[sv, .int .i64 (u : Int), .int .i64 10] w fun e w' => ∃ v', e = .returned v' ∧ Byt w' B 5 v' (n + (Lib.decDigits u).length) (xs ++ Lib.byteCells (Lib.decDigits u)) ∧ Below B w w' :=
  appInt_byt laysM176 B n u hu sv xs w hown hB hlim htab

end Go.Proofs.YtepkicgnhjaokaaDoor
