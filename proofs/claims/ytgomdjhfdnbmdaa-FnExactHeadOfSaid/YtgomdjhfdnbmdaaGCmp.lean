/-
  Several texts in one: CmpS, DotS, TreeOkS, ManS.
-/
import Derived.Test.YtgomdjhfdnbmdaaGVec
import Derived.Test.YtgomdjhfdnbmdaaTr
import Derived.Test.YtgomdjhfdnbmdaaTokI
import Derived.Test.YtgomdjhfdnbmdaaNameS
import Derived.Outline
import Derived.Test.YtgomdjhfdnbmdaaRdTr
namespace Go.Proofs.Ytgomdjhfdnbmdaa
open Go.RowKit Go.Maps

theorem compare_less : ∀ a b : List UInt8, Lib.compareBytes a b = if a = b then 0 else if Op.bytesLess a b then -1 else 1
  | [], [] => by simp [Lib.compareBytes]
  | [], _ :: _ => by simp [Lib.compareBytes, Op.bytesLess]
  | _ :: _, [] => by simp [Lib.compareBytes, Op.bytesLess]
  | x :: a, y :: b => by
    rw [Lib.compareBytes, compare_less a b, Op.bytesLess]
    by_cases h1 : x = y
    · subst h1
      have hlt : ¬ x < x := UInt8.lt_irrefl x
      simp [hlt]
    · by_cases h2 : x < y
      · simp [h1, h2]
      · have h3 : y < x := UInt8.lt_of_le_of_ne (UInt8.not_lt.1 h2) (Ne.symm h1)
        simp [h1, h2, h3]

/-- An entry of the model, read. -/
def enV (A : Option Addr) (c : Nat) (e : En) : Value := .agg #[.slice A e.name.length c, .int .i64 e.val, .int .i64 e.dev, .int .i64 e.num]

end Go.Proofs.Ytgomdjhfdnbmdaa

namespace Go.Proofs.Ytgomdjhfdnbmdaa
open Go.RowKit Go.Maps

/-- Has one of the first entries this deed? -/
def hasDeed (es : List En) (d m : Int) : Bool := es.any fun e => e.dev == d && e.num == m

/-- Where that deed stands; -1 if nowhere. -/
def dotV (es : List En) (d m : Int) : Int := match es.findIdx? (fun e => e.dev == d && e.num == m) with | some i => (i : Int) | none => -1

theorem dotV_has (es : List En) (d m : Int) : decide (0 ≤ dotV es d m) = hasDeed es d m := by
  unfold dotV hasDeed
  cases h : es.findIdx? (fun e => e.dev == d && e.num == m) with
  | none =>
    rw [List.findIdx?_eq_none_iff] at h
    have : es.any (fun e => e.dev == d && e.num == m) = false := by
      rw [List.any_eq_false]
      intro x hx
      rw [h x hx]
      simp
    rw [this]
    simp
  | some i =>
    rw [List.findIdx?_eq_some_iff_getElem] at h
    obtain ⟨hi, hp, _⟩ := h
    have : es.any (fun e => e.dev == d && e.num == m) = true := List.any_eq_true.2 ⟨es[i], List.getElem_mem hi, hp⟩
    rw [this]
    simp
theorem dotV_at {es : List En} {d m : Int} {k : Nat} (hk : k < es.length) (h : (es[k].dev == d && es[k].num == m) = true) (hb : ∀ j (hj : j < es.length), j < k → (es[j].dev == d && es[j].num == m) = false) : dotV es d m = k := by
  unfold dotV
  rw [List.findIdx?_eq_some_iff_getElem.2 ⟨hk, h, fun j hj => by rw [hb j (by omega) hj]; simp⟩]
theorem dotV_none {es : List En} {d m : Int} (hb : ∀ j (hj : j < es.length), (es[j].dev == d && es[j].num == m) = false) : dotV es d m = -1 := by
  unfold dotV
  rw [List.findIdx?_eq_none_iff.2]
  intro x hx
  obtain ⟨j, hj, rfl⟩ := List.getElem_of_mem hx
  exact hb j hj

theorem inB_hasDeed (es : List En) (e : En) : inB (es.map deedOf) (deedOf e) = hasDeed es e.dev e.num := by
  unfold inB hasDeed
  rw [Bool.eq_iff_iff]
  simp [deedOf]

end Go.Proofs.Ytgomdjhfdnbmdaa

namespace Go.Proofs.Ytgomdjhfdnbmdaa
open Go.RowKit Go.Maps

/-- May the i-th entry stand there, its name too? -/
def mB (a b c d : Int) (es : List En) (i : Nat) : Bool := nameB (es.getD i default).name && goodB a b c d es i

theorem treeB_mB {a b c d : Int} {es : List En} {i : Nat} (hi : i < es.length) (h : mB a b c d es i = false) : treeB [a, b, c, d] es = false := by
  unfold mB at h
  rw [Bool.and_eq_false_iff] at h
  rcases h with h | h
  · refine treeB_name hi ?_
    simpa [hi] using h
  · unfold treeB
    rw [show tokB ([a, b, c, d].getD 0 0) ([a, b, c, d].getD 1 0) ([a, b, c, d].getD 2 0) ([a, b, c, d].getD 3 0) es = tokB a b c d es from rfl, tokB_bad hi h]
    simp
theorem treeB_ok {a b c d : Int} {es : List En} (hv : vecB [a, b, c, d] = true) (hl : es.length ≤ 12) (h : ∀ i, i < es.length → mB a b c d es i = true) : treeB [a, b, c, d] es = true := by
  have hg : ∀ i, i < es.length → goodB a b c d es i = true := fun i hi => by
    have := h i hi
    unfold mB at this
    rw [Bool.and_eq_true] at this
    exact this.2
  have hn : es.all (fun e => nameB e.name) = true := by
    rw [List.all_eq_true]
    intro x hx
    obtain ⟨j, hj, rfl⟩ := List.getElem_of_mem hx
    have := h j hj
    unfold mB at this
    rw [Bool.and_eq_true] at this
    simpa [hj] using this.1
  unfold treeB
  rw [show tokB ([a, b, c, d].getD 0 0) ([a, b, c, d].getD 1 0) ([a, b, c, d].getD 2 0) ([a, b, c, d].getD 3 0) es = tokB a b c d es from rfl, tokB_all hv hl hg, hv, hn, decide_eq_true hl]
  rfl
theorem ens_take {w : World} {L B : Nat} {A : Option Addr} {es : List En} (h : EnsIn w L B A es) (k : Nat) : EnsIn w L B A (es.take k) := fun hl => by
  have hl' : 0 < es.length := by simp at hl; omega
  obtain ⟨b, o, e, hL, hb, hc⟩ := h hl'
  refine ⟨b, o, e, hL, hb, fun i hi => ?_⟩
  have hi' : i < es.length := by simp at hi; omega
  rw [List.getElem_take]
  exact hc i hi'

namespace Go.Proofs.Ytgomdjhfdnbmdaa
open Go.RowKit Go.Maps

/-- May it be said, but for its tree? -/
def saidB (au sq pv : Int) (n : Nat) : Bool := decide (0 ≤ au) && decide (au < 4) && decide (1 ≤ sq) && decide (sq ≤ 100) && (if sq = 1 then decide (pv = 0) else decide (1 ≤ pv) && decide (pv ≤ 400)) && decide (n ≤ 8)
/-- May it be? -/
def manB (au sq pv : Int) (vec : List Int) (es : List En) (sg : Int) : Bool := treeB vec es && saidB au sq pv es.length && decide (0 ≤ sg) && decide (sg < 400)

theorem manB_tree {au sq pv : Int} {vec : List Int} {es : List En} {sg : Int} (h : manB au sq pv vec es sg = true) : treeB vec es = true := by
  unfold manB at h
  simp only [Bool.and_eq_true] at h
  exact h.1.1.1
theorem manB_said {au sq pv : Int} {vec : List Int} {es : List En} {sg : Int} (h : manB au sq pv vec es sg = true) : 0 ≤ au ∧ au < 4 ∧ 1 ≤ sq ∧ sq ≤ 100 ∧ 0 ≤ pv ∧ pv ≤ 400 ∧ es.length ≤ 8 ∧ 0 ≤ sg ∧ sg < 400 := by
  unfold manB saidB at h
  simp only [Bool.and_eq_true, decide_eq_true_eq] at h
  obtain ⟨⟨⟨_, ⟨⟨⟨⟨h1, h2⟩, h3⟩, h4⟩, h5⟩, h6⟩, h7⟩, h8⟩ := h
  by_cases e : sq = 1
  · rw [if_pos e] at h5
    simp only [decide_eq_true_eq] at h5
    omega
  · rw [if_neg e] at h5
    simp only [Bool.and_eq_true, decide_eq_true_eq] at h5
    omega

end Go.Proofs.Ytgomdjhfdnbmdaa
