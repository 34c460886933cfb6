/-
  No cell of these rows narrows 'for every input' (looked for: loops, veiled, ifaces, maps, wideKeys, modest, calm, conditions, laid).
  DERIVED. THE GIVEN ROWS OF THIS SEAT. 8 by the template 'for every input the law returns true; each argument reads behind the call as it read before'; 0 by the template 'total and deterministic' (their statements: YtigkojdchpjkcaaTotals.lean).
  GIVEN WITH THE SEED: the statements are not yours to turn. If you find one false, say at which input.
  Laid BY PROGRAM, IN A SANDBOX (cutbox-rows.mjs): the forced cells as the released guide's own fill.sh prints them over the translation 00bd556faa9c7d8e… (all of the seat's roots in one cut). By AI agents, Wed Nov 11 2026. No macro, syntax, notation, axiom, sorry.
-/
import Derived.Test.YtigkojdchpjkcaaChecked
import GoSem.Claim
import GoSem.ClaimJoined
import GoSem.ClaimMapViews
import Derived.JoinedTies
import Derived.KernelRfl
namespace Go.Proofs.Ytigkojdchpjkcaa
/- THE CELL 'sum', in the pinned program and in every row, IS THE sha256 OF THE DUMP (.gsa) THAT YtigkojdchpjkcaaProg.lean LOADS. Nothing in Lean hashes anything: it is a label: what it is worth is what the hold of that sum in a sandbox is worth. -/
noncomputable def Try.pinned : Pinned := { name := "ytigkojdchpjkcaa", sum := "00bd556faa9c7d8ea10db0c9d4464637786c6833f90ef19213f5ab8e52d366f3", checked := Try.checked }
namespace Rows
def none {H : Type} : Left H := { results := [], args := [] }

/-- 'laws.FnTerms': WHATEVER THE INPUT: true; the input reads as it did. -/
def fnTermsSpec : ChangeSpec := { name := "fnTerms", fn := fun _ => fun
  | [d] => { results := [.lit (.bool true)], args := [d] }
  | _ => none }
def fnTermsRow : OpenClaim := { program := "ytigkojdchpjkcaa", sum := "00bd556faa9c7d8ea10db0c9d4464637786c6833f90ef19213f5ab8e52d366f3", func := "loop.example/g00642/laws.FnTerms", spec := "fnTerms", unfollowed := true, recurses := true, plainKeys := false, apart := false }
def FnTermsSaid : Prop := fnTermsRow.holds Try.pinned (OpenSpec.ofChange fnTermsSpec)

/-- ITS FALSE NEIGHBOUR: 'it returns false'. Refute it at one input. -/
def fnTermsWrong : ChangeSpec := { name := "fnTerms", fn := fun _ => fun
  | [d] => { results := [.lit (.bool false)], args := [d] }
  | _ => none }
def FnTermsWrongFalsely : Prop := fnTermsRow.holds Try.pinned (OpenSpec.ofChange fnTermsWrong)

/-- 'laws.FnOpens': WHATEVER THE INPUT: true; the input reads as it did. -/
def fnOpensSpec : ChangeSpec := { name := "fnOpens", fn := fun _ => fun
  | [d] => { results := [.lit (.bool true)], args := [d] }
  | _ => none }
def fnOpensRow : OpenClaim := { program := "ytigkojdchpjkcaa", sum := "00bd556faa9c7d8ea10db0c9d4464637786c6833f90ef19213f5ab8e52d366f3", func := "loop.example/g00642/laws.FnOpens", spec := "fnOpens", unfollowed := true, recurses := true, plainKeys := false, apart := false }
def FnOpensSaid : Prop := fnOpensRow.holds Try.pinned (OpenSpec.ofChange fnOpensSpec)

/-- ITS FALSE NEIGHBOUR: 'it returns false'. Refute it at one input. -/
def fnOpensWrong : ChangeSpec := { name := "fnOpens", fn := fun _ => fun
  | [d] => { results := [.lit (.bool false)], args := [d] }
  | _ => none }
def FnOpensWrongFalsely : Prop := fnOpensRow.holds Try.pinned (OpenSpec.ofChange fnOpensWrong)

/-- 'laws.FnOpened': WHATEVER THE INPUT: true; the input reads as it did. -/
def fnOpenedSpec : ChangeSpec := { name := "fnOpened", fn := fun _ => fun
  | [d] => { results := [.lit (.bool true)], args := [d] }
  | _ => none }
def fnOpenedRow : OpenClaim := { program := "ytigkojdchpjkcaa", sum := "00bd556faa9c7d8ea10db0c9d4464637786c6833f90ef19213f5ab8e52d366f3", func := "loop.example/g00642/laws.FnOpened", spec := "fnOpened", unfollowed := true, recurses := true, plainKeys := false, apart := false }
def FnOpenedSaid : Prop := fnOpenedRow.holds Try.pinned (OpenSpec.ofChange fnOpenedSpec)

/-- ITS FALSE NEIGHBOUR: 'it returns false'. Refute it at one input. -/
def fnOpenedWrong : ChangeSpec := { name := "fnOpened", fn := fun _ => fun
  | [d] => { results := [.lit (.bool false)], args := [d] }
  | _ => none }
def FnOpenedWrongFalsely : Prop := fnOpenedRow.holds Try.pinned (OpenSpec.ofChange fnOpenedWrong)

/-- 'laws.FnCans': WHATEVER THE INPUT: true; the input reads as it did. -/
def fnCansSpec : ChangeSpec := { name := "fnCans", fn := fun _ => fun
  | [d] => { results := [.lit (.bool true)], args := [d] }
  | _ => none }
def fnCansRow : OpenClaim := { program := "ytigkojdchpjkcaa", sum := "00bd556faa9c7d8ea10db0c9d4464637786c6833f90ef19213f5ab8e52d366f3", func := "loop.example/g00642/laws.FnCans", spec := "fnCans", unfollowed := true, recurses := true, plainKeys := false, apart := false }
def FnCansSaid : Prop := fnCansRow.holds Try.pinned (OpenSpec.ofChange fnCansSpec)

/-- ITS FALSE NEIGHBOUR: 'it returns false'. Refute it at one input. -/
def fnCansWrong : ChangeSpec := { name := "fnCans", fn := fun _ => fun
  | [d] => { results := [.lit (.bool false)], args := [d] }
  | _ => none }
def FnCansWrongFalsely : Prop := fnCansRow.holds Try.pinned (OpenSpec.ofChange fnCansWrong)

/-- 'laws.FnMissing': WHATEVER THE INPUT: true; the input reads as it did. -/
def fnMissingSpec : ChangeSpec := { name := "fnMissing", fn := fun _ => fun
  | [d] => { results := [.lit (.bool true)], args := [d] }
  | _ => none }
def fnMissingRow : OpenClaim := { program := "ytigkojdchpjkcaa", sum := "00bd556faa9c7d8ea10db0c9d4464637786c6833f90ef19213f5ab8e52d366f3", func := "loop.example/g00642/laws.FnMissing", spec := "fnMissing", unfollowed := true, recurses := true, plainKeys := false, apart := false }
def FnMissingSaid : Prop := fnMissingRow.holds Try.pinned (OpenSpec.ofChange fnMissingSpec)

/-- ITS FALSE NEIGHBOUR: 'it returns false'. Refute it at one input. -/
def fnMissingWrong : ChangeSpec := { name := "fnMissing", fn := fun _ => fun
  | [d] => { results := [.lit (.bool false)], args := [d] }
  | _ => none }
def FnMissingWrongFalsely : Prop := fnMissingRow.holds Try.pinned (OpenSpec.ofChange fnMissingWrong)

/-- 'laws.FnFresh': WHATEVER THE INPUT: true; the input reads as it did. -/
def fnFreshSpec : ChangeSpec := { name := "fnFresh", fn := fun _ => fun
  | [d] => { results := [.lit (.bool true)], args := [d] }
  | _ => none }
def fnFreshRow : OpenClaim := { program := "ytigkojdchpjkcaa", sum := "00bd556faa9c7d8ea10db0c9d4464637786c6833f90ef19213f5ab8e52d366f3", func := "loop.example/g00642/laws.FnFresh", spec := "fnFresh", unfollowed := true, recurses := true, plainKeys := false, apart := false }
def FnFreshSaid : Prop := fnFreshRow.holds Try.pinned (OpenSpec.ofChange fnFreshSpec)

/-- ITS FALSE NEIGHBOUR: 'it returns false'. Refute it at one input. -/
def fnFreshWrong : ChangeSpec := { name := "fnFresh", fn := fun _ => fun
  | [d] => { results := [.lit (.bool false)], args := [d] }
  | _ => none }
def FnFreshWrongFalsely : Prop := fnFreshRow.holds Try.pinned (OpenSpec.ofChange fnFreshWrong)

/-- 'laws.FnUses': WHATEVER THE INPUT: true; the input reads as it did. -/
def fnUsesSpec : ChangeSpec := { name := "fnUses", fn := fun _ => fun
  | [d] => { results := [.lit (.bool true)], args := [d] }
  | _ => none }
def fnUsesRow : OpenClaim := { program := "ytigkojdchpjkcaa", sum := "00bd556faa9c7d8ea10db0c9d4464637786c6833f90ef19213f5ab8e52d366f3", func := "loop.example/g00642/laws.FnUses", spec := "fnUses", unfollowed := true, recurses := true, plainKeys := false, apart := false }
def FnUsesSaid : Prop := fnUsesRow.holds Try.pinned (OpenSpec.ofChange fnUsesSpec)

/-- ITS FALSE NEIGHBOUR: 'it returns false'. Refute it at one input. -/
def fnUsesWrong : ChangeSpec := { name := "fnUses", fn := fun _ => fun
  | [d] => { results := [.lit (.bool false)], args := [d] }
  | _ => none }
def FnUsesWrongFalsely : Prop := fnUsesRow.holds Try.pinned (OpenSpec.ofChange fnUsesWrong)

/-- 'laws.FnGains': WHATEVER THE INPUT: true; the input reads as it did. -/
def fnGainsSpec : ChangeSpec := { name := "fnGains", fn := fun _ => fun
  | [d] => { results := [.lit (.bool true)], args := [d] }
  | _ => none }
def fnGainsRow : OpenClaim := { program := "ytigkojdchpjkcaa", sum := "00bd556faa9c7d8ea10db0c9d4464637786c6833f90ef19213f5ab8e52d366f3", func := "loop.example/g00642/laws.FnGains", spec := "fnGains", unfollowed := true, recurses := true, plainKeys := false, apart := false }
def FnGainsSaid : Prop := fnGainsRow.holds Try.pinned (OpenSpec.ofChange fnGainsSpec)

/-- ITS FALSE NEIGHBOUR: 'it returns false'. Refute it at one input. -/
def fnGainsWrong : ChangeSpec := { name := "fnGains", fn := fun _ => fun
  | [d] => { results := [.lit (.bool false)], args := [d] }
  | _ => none }
def FnGainsWrongFalsely : Prop := fnGainsRow.holds Try.pinned (OpenSpec.ofChange fnGainsWrong)

/- THE SECOND FORM. 'bulk': how many values and letters a reading holds, each counted each time it is reached (what is shared counts as often as it is met; a slice's spare places count too). A statement '..UptoSaid' is the law's where the arguments, and the package variables that the reading takes, are together of bulk at most 1048576: NARROWER than '..Said'. Prove '..Said' where nothing that the law and all that it calls make is longer than what came in: it says more and counts as full. Else prove '..UptoSaid'. A law counts once. -/
mutual
def uptoBulk {H : Type} : DataW H → Nat
  | .lit (.string bytes) => bytes.length + 1
  | .lit _ => 1
  | .nil => 1
  | .ptr d => uptoBulk d + 1
  | .slice elems spare => uptoBulkAll elems + uptoBulkAll spare + 1
  | .agg parts => uptoBulkAll parts + 1
  | .iface _ d => uptoBulk d + 1
  | .map entries => uptoBulkEntries entries + 1
  | .held _ => 1
def uptoBulkAll {H : Type} : List (DataW H) → Nat
  | [] => 0
  | d :: r => uptoBulk d + uptoBulkAll r
def uptoBulkEntries {H : Type} : List (Lit × DataW H) → Nat
  | [] => 0
  | x :: r => uptoBulkEntry x + uptoBulkEntries r
def uptoBulkEntry {H : Type} : Lit × DataW H → Nat
  | (.string bytes, d) => bytes.length + uptoBulk d + 1
  | (_, d) => uptoBulk d + 1
 end
def uptoSmall : (H : Type) → List (DataW H) → Bool := fun _ ds => decide (uptoBulkAll ds ≤ 1048576)
def OpenSpec.upto (s : _root_.Go.ChangeSpec) : _root_.Go.OpenSpec := { _root_.Go.OpenSpec.ofChange s with cond := some uptoSmall }

/-- 'laws.FnTerms', WHERE WHAT IT READS IS OF BULK AT MOST 1048576: true; the input reads as it did. -/
def fnTermsUptoRow : OpenClaim := { program := "ytigkojdchpjkcaa", sum := "00bd556faa9c7d8ea10db0c9d4464637786c6833f90ef19213f5ab8e52d366f3", func := "loop.example/g00642/laws.FnTerms", spec := "fnTerms", unfollowed := true, recurses := true, plainKeys := false, apart := false, narrowed := true }
def FnTermsUptoSaid : Prop := fnTermsUptoRow.holds Try.pinned (OpenSpec.upto fnTermsSpec)

/-- 'laws.FnOpens', WHERE WHAT IT READS IS OF BULK AT MOST 1048576: true; the input reads as it did. -/
def fnOpensUptoRow : OpenClaim := { program := "ytigkojdchpjkcaa", sum := "00bd556faa9c7d8ea10db0c9d4464637786c6833f90ef19213f5ab8e52d366f3", func := "loop.example/g00642/laws.FnOpens", spec := "fnOpens", unfollowed := true, recurses := true, plainKeys := false, apart := false, narrowed := true }
def FnOpensUptoSaid : Prop := fnOpensUptoRow.holds Try.pinned (OpenSpec.upto fnOpensSpec)

/-- 'laws.FnOpened', WHERE WHAT IT READS IS OF BULK AT MOST 1048576: true; the input reads as it did. -/
def fnOpenedUptoRow : OpenClaim := { program := "ytigkojdchpjkcaa", sum := "00bd556faa9c7d8ea10db0c9d4464637786c6833f90ef19213f5ab8e52d366f3", func := "loop.example/g00642/laws.FnOpened", spec := "fnOpened", unfollowed := true, recurses := true, plainKeys := false, apart := false, narrowed := true }
def FnOpenedUptoSaid : Prop := fnOpenedUptoRow.holds Try.pinned (OpenSpec.upto fnOpenedSpec)

/-- 'laws.FnCans', WHERE WHAT IT READS IS OF BULK AT MOST 1048576: true; the input reads as it did. -/
def fnCansUptoRow : OpenClaim := { program := "ytigkojdchpjkcaa", sum := "00bd556faa9c7d8ea10db0c9d4464637786c6833f90ef19213f5ab8e52d366f3", func := "loop.example/g00642/laws.FnCans", spec := "fnCans", unfollowed := true, recurses := true, plainKeys := false, apart := false, narrowed := true }
def FnCansUptoSaid : Prop := fnCansUptoRow.holds Try.pinned (OpenSpec.upto fnCansSpec)

/-- 'laws.FnMissing', WHERE WHAT IT READS IS OF BULK AT MOST 1048576: true; the input reads as it did. -/
def fnMissingUptoRow : OpenClaim := { program := "ytigkojdchpjkcaa", sum := "00bd556faa9c7d8ea10db0c9d4464637786c6833f90ef19213f5ab8e52d366f3", func := "loop.example/g00642/laws.FnMissing", spec := "fnMissing", unfollowed := true, recurses := true, plainKeys := false, apart := false, narrowed := true }
def FnMissingUptoSaid : Prop := fnMissingUptoRow.holds Try.pinned (OpenSpec.upto fnMissingSpec)

/-- 'laws.FnFresh', WHERE WHAT IT READS IS OF BULK AT MOST 1048576: true; the input reads as it did. -/
def fnFreshUptoRow : OpenClaim := { program := "ytigkojdchpjkcaa", sum := "00bd556faa9c7d8ea10db0c9d4464637786c6833f90ef19213f5ab8e52d366f3", func := "loop.example/g00642/laws.FnFresh", spec := "fnFresh", unfollowed := true, recurses := true, plainKeys := false, apart := false, narrowed := true }
def FnFreshUptoSaid : Prop := fnFreshUptoRow.holds Try.pinned (OpenSpec.upto fnFreshSpec)

/-- 'laws.FnUses', WHERE WHAT IT READS IS OF BULK AT MOST 1048576: true; the input reads as it did. -/
def fnUsesUptoRow : OpenClaim := { program := "ytigkojdchpjkcaa", sum := "00bd556faa9c7d8ea10db0c9d4464637786c6833f90ef19213f5ab8e52d366f3", func := "loop.example/g00642/laws.FnUses", spec := "fnUses", unfollowed := true, recurses := true, plainKeys := false, apart := false, narrowed := true }
def FnUsesUptoSaid : Prop := fnUsesUptoRow.holds Try.pinned (OpenSpec.upto fnUsesSpec)

/-- 'laws.FnGains', WHERE WHAT IT READS IS OF BULK AT MOST 1048576: true; the input reads as it did. -/
def fnGainsUptoRow : OpenClaim := { program := "ytigkojdchpjkcaa", sum := "00bd556faa9c7d8ea10db0c9d4464637786c6833f90ef19213f5ab8e52d366f3", func := "loop.example/g00642/laws.FnGains", spec := "fnGains", unfollowed := true, recurses := true, plainKeys := false, apart := false, narrowed := true }
def FnGainsUptoSaid : Prop := fnGainsUptoRow.holds Try.pinned (OpenSpec.upto fnGainsSpec)

end Rows
end Go.Proofs.Ytigkojdchpjkcaa
