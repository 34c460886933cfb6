/-
  No cell of these rows narrows 'for every input' (looked for: loops, veiled, ifaces, maps, wideKeys, modest, calm, conditions, laid).
  DERIVED. THE GIVEN ROWS OF THIS SEAT. 12 by the template 'for every input the law returns true; each argument reads behind the call as it read before'; 0 by the template 'total and deterministic' (their statements: YtnejbggbkjgfeaaTotals.lean).
  GIVEN WITH THE SEED: the statements are not yours to turn. If you find one false, say at which input.
  Laid BY PROGRAM, IN A SANDBOX (cutbox-rows.mjs): the forced cells as the released guide's own fill.sh prints them over the translation beeca8941fba620d… (all of the seat's roots in one cut). By AI agents, Wed Nov 11 2026. No macro, syntax, notation, axiom, sorry.
-/
import Derived.Test.YtnejbggbkjgfeaaChecked
import GoSem.Claim
import GoSem.ClaimJoined
import GoSem.ClaimMapViews
import Derived.JoinedTies
import Derived.KernelRfl
namespace Go.Proofs.Ytnejbggbkjgfeaa
/- THE CELL 'sum', in the pinned program and in every row, IS THE sha256 OF THE DUMP (.gsa) THAT YtnejbggbkjgfeaaProg.lean LOADS. Nothing in Lean hashes anything: it is a label: what it is worth is what the hold of that sum in a sandbox is worth. -/
noncomputable def Try.pinned : Pinned := { name := "ytnejbggbkjgfeaa", sum := "beeca8941fba620d091e95e4bc016810d8326da40e654e69e968f890ea0f2b00", checked := Try.checked }
namespace Rows
def none {H : Type} : Left H := { results := [], args := [] }

/-- 'laws.FnExactNameOk': WHATEVER THE INPUT: true; the input reads as it did. -/
def fnExactNameOkSpec : ChangeSpec := { name := "fnExactNameOk", fn := fun _ => fun
  | [d] => { results := [.lit (.bool true)], args := [d] }
  | _ => none }
def fnExactNameOkRow : OpenClaim := { program := "ytnejbggbkjgfeaa", sum := "beeca8941fba620d091e95e4bc016810d8326da40e654e69e968f890ea0f2b00", func := "loop.example/g00642/laws.FnExactNameOk", spec := "fnExactNameOk", plainKeys := false, apart := false }
def FnExactNameOkSaid : Prop := fnExactNameOkRow.holds Try.pinned (OpenSpec.ofChange fnExactNameOkSpec)

/-- ITS FALSE NEIGHBOUR: 'it returns false'. Refute it at one input. -/
def fnExactNameOkWrong : ChangeSpec := { name := "fnExactNameOk", fn := fun _ => fun
  | [d] => { results := [.lit (.bool false)], args := [d] }
  | _ => none }
def FnExactNameOkWrongFalsely : Prop := fnExactNameOkRow.holds Try.pinned (OpenSpec.ofChange fnExactNameOkWrong)

/-- 'laws.FnExactVecOk': WHATEVER THE INPUT: true; the input reads as it did. -/
def fnExactVecOkSpec : ChangeSpec := { name := "fnExactVecOk", fn := fun _ => fun
  | [d] => { results := [.lit (.bool true)], args := [d] }
  | _ => none }
def fnExactVecOkRow : OpenClaim := { program := "ytnejbggbkjgfeaa", sum := "beeca8941fba620d091e95e4bc016810d8326da40e654e69e968f890ea0f2b00", func := "loop.example/g00642/laws.FnExactVecOk", spec := "fnExactVecOk", plainKeys := false, apart := false }
def FnExactVecOkSaid : Prop := fnExactVecOkRow.holds Try.pinned (OpenSpec.ofChange fnExactVecOkSpec)

/-- ITS FALSE NEIGHBOUR: 'it returns false'. Refute it at one input. -/
def fnExactVecOkWrong : ChangeSpec := { name := "fnExactVecOk", fn := fun _ => fun
  | [d] => { results := [.lit (.bool false)], args := [d] }
  | _ => none }
def FnExactVecOkWrongFalsely : Prop := fnExactVecOkRow.holds Try.pinned (OpenSpec.ofChange fnExactVecOkWrong)

/-- 'laws.FnExactVecUp': WHATEVER THE INPUT: true; the input reads as it did. -/
def fnExactVecUpSpec : ChangeSpec := { name := "fnExactVecUp", fn := fun _ => fun
  | [d1, d2] => { results := [.lit (.bool true)], args := [d1, d2] }
  | _ => none }
def fnExactVecUpRow : OpenClaim := { program := "ytnejbggbkjgfeaa", sum := "beeca8941fba620d091e95e4bc016810d8326da40e654e69e968f890ea0f2b00", func := "loop.example/g00642/laws.FnExactVecUp", spec := "fnExactVecUp", plainKeys := false, apart := false }
def FnExactVecUpSaid : Prop := fnExactVecUpRow.holds Try.pinned (OpenSpec.ofChange fnExactVecUpSpec)

/-- ITS FALSE NEIGHBOUR: 'it returns false'. Refute it at one input. -/
def fnExactVecUpWrong : ChangeSpec := { name := "fnExactVecUp", fn := fun _ => fun
  | [d1, d2] => { results := [.lit (.bool false)], args := [d1, d2] }
  | _ => none }
def FnExactVecUpWrongFalsely : Prop := fnExactVecUpRow.holds Try.pinned (OpenSpec.ofChange fnExactVecUpWrong)

/-- 'laws.FnExactVecBelow': WHATEVER THE INPUT: true; the input reads as it did. -/
def fnExactVecBelowSpec : ChangeSpec := { name := "fnExactVecBelow", fn := fun _ => fun
  | [d1, d2] => { results := [.lit (.bool true)], args := [d1, d2] }
  | _ => none }
def fnExactVecBelowRow : OpenClaim := { program := "ytnejbggbkjgfeaa", sum := "beeca8941fba620d091e95e4bc016810d8326da40e654e69e968f890ea0f2b00", func := "loop.example/g00642/laws.FnExactVecBelow", spec := "fnExactVecBelow", plainKeys := false, apart := false }
def FnExactVecBelowSaid : Prop := fnExactVecBelowRow.holds Try.pinned (OpenSpec.ofChange fnExactVecBelowSpec)

/-- ITS FALSE NEIGHBOUR: 'it returns false'. Refute it at one input. -/
def fnExactVecBelowWrong : ChangeSpec := { name := "fnExactVecBelow", fn := fun _ => fun
  | [d1, d2] => { results := [.lit (.bool false)], args := [d1, d2] }
  | _ => none }
def FnExactVecBelowWrongFalsely : Prop := fnExactVecBelowRow.holds Try.pinned (OpenSpec.ofChange fnExactVecBelowWrong)

/-- 'laws.FnExactTreeOk': WHATEVER THE INPUT: true; the input reads as it did. -/
def fnExactTreeOkSpec : ChangeSpec := { name := "fnExactTreeOk", fn := fun _ => fun
  | [d] => { results := [.lit (.bool true)], args := [d] }
  | _ => none }
def fnExactTreeOkRow : OpenClaim := { program := "ytnejbggbkjgfeaa", sum := "beeca8941fba620d091e95e4bc016810d8326da40e654e69e968f890ea0f2b00", func := "loop.example/g00642/laws.FnExactTreeOk", spec := "fnExactTreeOk", inPlace := ["internal/bytealg.abigen_runtime_cmpstring"], plainKeys := false, apart := false }
def FnExactTreeOkSaid : Prop := fnExactTreeOkRow.holds Try.pinned (OpenSpec.ofChange fnExactTreeOkSpec)

/-- ITS FALSE NEIGHBOUR: 'it returns false'. Refute it at one input. -/
def fnExactTreeOkWrong : ChangeSpec := { name := "fnExactTreeOk", fn := fun _ => fun
  | [d] => { results := [.lit (.bool false)], args := [d] }
  | _ => none }
def FnExactTreeOkWrongFalsely : Prop := fnExactTreeOkRow.holds Try.pinned (OpenSpec.ofChange fnExactTreeOkWrong)

/-- 'laws.FnExactTreeNew': WHATEVER THE INPUT: true; the input reads as it did. -/
def fnExactTreeNewSpec : ChangeSpec := { name := "fnExactTreeNew", fn := fun _ => fun
  | [] => { results := [.lit (.bool true)], args := [] }
  | _ => none }
def fnExactTreeNewRow : OpenClaim := { program := "ytnejbggbkjgfeaa", sum := "beeca8941fba620d091e95e4bc016810d8326da40e654e69e968f890ea0f2b00", func := "loop.example/g00642/laws.FnExactTreeNew", spec := "fnExactTreeNew", plainKeys := false, apart := false }
def FnExactTreeNewSaid : Prop := fnExactTreeNewRow.holds Try.pinned (OpenSpec.ofChange fnExactTreeNewSpec)

/-- ITS FALSE NEIGHBOUR: 'it returns false'. Refute it at one input. -/
def fnExactTreeNewWrong : ChangeSpec := { name := "fnExactTreeNew", fn := fun _ => fun
  | [] => { results := [.lit (.bool false)], args := [] }
  | _ => none }
def FnExactTreeNewWrongFalsely : Prop := fnExactTreeNewRow.holds Try.pinned (OpenSpec.ofChange fnExactTreeNewWrong)

/-- 'laws.FnExactNamesOf': WHATEVER THE INPUT: true; the input reads as it did. -/
def fnExactNamesOfSpec : ChangeSpec := { name := "fnExactNamesOf", fn := fun _ => fun
  | [d] => { results := [.lit (.bool true)], args := [d] }
  | _ => none }
def fnExactNamesOfRow : OpenClaim := { program := "ytnejbggbkjgfeaa", sum := "beeca8941fba620d091e95e4bc016810d8326da40e654e69e968f890ea0f2b00", func := "loop.example/g00642/laws.FnExactNamesOf", spec := "fnExactNamesOf", inPlace := ["internal/bytealg.abigen_runtime_cmpstring"], plainKeys := false, apart := false }
def FnExactNamesOfSaid : Prop := fnExactNamesOfRow.holds Try.pinned (OpenSpec.ofChange fnExactNamesOfSpec)

/-- ITS FALSE NEIGHBOUR: 'it returns false'. Refute it at one input. -/
def fnExactNamesOfWrong : ChangeSpec := { name := "fnExactNamesOf", fn := fun _ => fun
  | [d] => { results := [.lit (.bool false)], args := [d] }
  | _ => none }
def FnExactNamesOfWrongFalsely : Prop := fnExactNamesOfRow.holds Try.pinned (OpenSpec.ofChange fnExactNamesOfWrong)

/-- 'laws.FnExactCopies': WHATEVER THE INPUT: true; the input reads as it did. -/
def fnExactCopiesSpec : ChangeSpec := { name := "fnExactCopies", fn := fun _ => fun
  | [d] => { results := [.lit (.bool true)], args := [d] }
  | _ => none }
def fnExactCopiesRow : OpenClaim := { program := "ytnejbggbkjgfeaa", sum := "beeca8941fba620d091e95e4bc016810d8326da40e654e69e968f890ea0f2b00", func := "loop.example/g00642/laws.FnExactCopies", spec := "fnExactCopies", inPlace := ["internal/bytealg.abigen_runtime_cmpstring"], plainKeys := false, apart := false }
def FnExactCopiesSaid : Prop := fnExactCopiesRow.holds Try.pinned (OpenSpec.ofChange fnExactCopiesSpec)

/-- ITS FALSE NEIGHBOUR: 'it returns false'. Refute it at one input. -/
def fnExactCopiesWrong : ChangeSpec := { name := "fnExactCopies", fn := fun _ => fun
  | [d] => { results := [.lit (.bool false)], args := [d] }
  | _ => none }
def FnExactCopiesWrongFalsely : Prop := fnExactCopiesRow.holds Try.pinned (OpenSpec.ofChange fnExactCopiesWrong)

/-- 'laws.FnExactValueOf': WHATEVER THE INPUT: true; the input reads as it did. -/
def fnExactValueOfSpec : ChangeSpec := { name := "fnExactValueOf", fn := fun _ => fun
  | [d1, d2] => { results := [.lit (.bool true)], args := [d1, d2] }
  | _ => none }
def fnExactValueOfRow : OpenClaim := { program := "ytnejbggbkjgfeaa", sum := "beeca8941fba620d091e95e4bc016810d8326da40e654e69e968f890ea0f2b00", func := "loop.example/g00642/laws.FnExactValueOf", spec := "fnExactValueOf", inPlace := ["internal/bytealg.abigen_runtime_cmpstring"], unfollowed := true, recurses := true, plainKeys := false, apart := false }
def FnExactValueOfSaid : Prop := fnExactValueOfRow.holds Try.pinned (OpenSpec.ofChange fnExactValueOfSpec)

/-- ITS FALSE NEIGHBOUR: 'it returns false'. Refute it at one input. -/
def fnExactValueOfWrong : ChangeSpec := { name := "fnExactValueOf", fn := fun _ => fun
  | [d1, d2] => { results := [.lit (.bool false)], args := [d1, d2] }
  | _ => none }
def FnExactValueOfWrongFalsely : Prop := fnExactValueOfRow.holds Try.pinned (OpenSpec.ofChange fnExactValueOfWrong)

/-- 'laws.FnExactWriters': WHATEVER THE INPUT: true; the input reads as it did. -/
def fnExactWritersSpec : ChangeSpec := { name := "fnExactWriters", fn := fun _ => fun
  | [d1, d2] => { results := [.lit (.bool true)], args := [d1, d2] }
  | _ => none }
def fnExactWritersRow : OpenClaim := { program := "ytnejbggbkjgfeaa", sum := "beeca8941fba620d091e95e4bc016810d8326da40e654e69e968f890ea0f2b00", func := "loop.example/g00642/laws.FnExactWriters", spec := "fnExactWriters", inPlace := ["internal/bytealg.abigen_runtime_cmpstring"], unfollowed := true, recurses := true, plainKeys := false, apart := false }
def FnExactWritersSaid : Prop := fnExactWritersRow.holds Try.pinned (OpenSpec.ofChange fnExactWritersSpec)

/-- ITS FALSE NEIGHBOUR: 'it returns false'. Refute it at one input. -/
def fnExactWritersWrong : ChangeSpec := { name := "fnExactWriters", fn := fun _ => fun
  | [d1, d2] => { results := [.lit (.bool false)], args := [d1, d2] }
  | _ => none }
def FnExactWritersWrongFalsely : Prop := fnExactWritersRow.holds Try.pinned (OpenSpec.ofChange fnExactWritersWrong)

/-- 'laws.FnExactDrop': WHATEVER THE INPUT: true; the input reads as it did. -/
def fnExactDropSpec : ChangeSpec := { name := "fnExactDrop", fn := fun _ => fun
  | [d1, d2] => { results := [.lit (.bool true)], args := [d1, d2] }
  | _ => none }
def fnExactDropRow : OpenClaim := { program := "ytnejbggbkjgfeaa", sum := "beeca8941fba620d091e95e4bc016810d8326da40e654e69e968f890ea0f2b00", func := "loop.example/g00642/laws.FnExactDrop", spec := "fnExactDrop", inPlace := ["internal/bytealg.abigen_runtime_cmpstring"], unfollowed := true, recurses := true, plainKeys := false, apart := false }
def FnExactDropSaid : Prop := fnExactDropRow.holds Try.pinned (OpenSpec.ofChange fnExactDropSpec)

/-- ITS FALSE NEIGHBOUR: 'it returns false'. Refute it at one input. -/
def fnExactDropWrong : ChangeSpec := { name := "fnExactDrop", fn := fun _ => fun
  | [d1, d2] => { results := [.lit (.bool false)], args := [d1, d2] }
  | _ => none }
def FnExactDropWrongFalsely : Prop := fnExactDropRow.holds Try.pinned (OpenSpec.ofChange fnExactDropWrong)

/-- 'laws.FnExactPut': WHATEVER THE INPUT: true; the input reads as it did. -/
def fnExactPutSpec : ChangeSpec := { name := "fnExactPut", fn := fun _ => fun
  | [d1, d2, d3, d4] => { results := [.lit (.bool true)], args := [d1, d2, d3, d4] }
  | _ => none }
def fnExactPutRow : OpenClaim := { program := "ytnejbggbkjgfeaa", sum := "beeca8941fba620d091e95e4bc016810d8326da40e654e69e968f890ea0f2b00", func := "loop.example/g00642/laws.FnExactPut", spec := "fnExactPut", inPlace := ["internal/bytealg.abigen_runtime_cmpstring"], unfollowed := true, recurses := true, plainKeys := false, apart := false }
def FnExactPutSaid : Prop := fnExactPutRow.holds Try.pinned (OpenSpec.ofChange fnExactPutSpec)

/-- ITS FALSE NEIGHBOUR: 'it returns false'. Refute it at one input. -/
def fnExactPutWrong : ChangeSpec := { name := "fnExactPut", fn := fun _ => fun
  | [d1, d2, d3, d4] => { results := [.lit (.bool false)], args := [d1, d2, d3, d4] }
  | _ => none }
def FnExactPutWrongFalsely : Prop := fnExactPutRow.holds Try.pinned (OpenSpec.ofChange fnExactPutWrong)

/- THE SECOND FORM. 'bulk': how many values and letters a reading holds, each counted each time it is reached (what is shared counts as often as it is met; a slice's spare places count too). A statement '..UptoSaid' is the law's where the arguments, and the package variables that the reading takes, are together of bulk at most 1048576: NARROWER than '..Said'. Prove '..Said' where nothing that the law and all that it calls make is longer than what came in: it says more and counts as full. Else prove '..UptoSaid'. A law counts once. -/
mutual
def uptoBulk {H : Type} : DataW H → Nat
  | .lit (.string bytes) => bytes.length + 1
  | .lit _ => 1
  | .nil => 1
  | .ptr d => uptoBulk d + 1
  | .slice elems spare => uptoBulkAll elems + uptoBulkAll spare + 1
  | .agg parts => uptoBulkAll parts + 1
  | .iface _ d => uptoBulk d + 1
  | .map entries => uptoBulkEntries entries + 1
  | .held _ => 1
def uptoBulkAll {H : Type} : List (DataW H) → Nat
  | [] => 0
  | d :: r => uptoBulk d + uptoBulkAll r
def uptoBulkEntries {H : Type} : List (Lit × DataW H) → Nat
  | [] => 0
  | x :: r => uptoBulkEntry x + uptoBulkEntries r
def uptoBulkEntry {H : Type} : Lit × DataW H → Nat
  | (.string bytes, d) => bytes.length + uptoBulk d + 1
  | (_, d) => uptoBulk d + 1
 end
def uptoSmall : (H : Type) → List (DataW H) → Bool := fun _ ds => decide (uptoBulkAll ds ≤ 1048576)
def OpenSpec.upto (s : _root_.Go.ChangeSpec) : _root_.Go.OpenSpec := { _root_.Go.OpenSpec.ofChange s with cond := some uptoSmall }

/-- 'laws.FnExactNameOk', WHERE WHAT IT READS IS OF BULK AT MOST 1048576: true; the input reads as it did. -/
def fnExactNameOkUptoRow : OpenClaim := { program := "ytnejbggbkjgfeaa", sum := "beeca8941fba620d091e95e4bc016810d8326da40e654e69e968f890ea0f2b00", func := "loop.example/g00642/laws.FnExactNameOk", spec := "fnExactNameOk", plainKeys := false, apart := false, narrowed := true }
def FnExactNameOkUptoSaid : Prop := fnExactNameOkUptoRow.holds Try.pinned (OpenSpec.upto fnExactNameOkSpec)

/-- 'laws.FnExactVecOk', WHERE WHAT IT READS IS OF BULK AT MOST 1048576: true; the input reads as it did. -/
def fnExactVecOkUptoRow : OpenClaim := { program := "ytnejbggbkjgfeaa", sum := "beeca8941fba620d091e95e4bc016810d8326da40e654e69e968f890ea0f2b00", func := "loop.example/g00642/laws.FnExactVecOk", spec := "fnExactVecOk", plainKeys := false, apart := false, narrowed := true }
def FnExactVecOkUptoSaid : Prop := fnExactVecOkUptoRow.holds Try.pinned (OpenSpec.upto fnExactVecOkSpec)

/-- 'laws.FnExactVecUp', WHERE WHAT IT READS IS OF BULK AT MOST 1048576: true; the input reads as it did. -/
def fnExactVecUpUptoRow : OpenClaim := { program := "ytnejbggbkjgfeaa", sum := "beeca8941fba620d091e95e4bc016810d8326da40e654e69e968f890ea0f2b00", func := "loop.example/g00642/laws.FnExactVecUp", spec := "fnExactVecUp", plainKeys := false, apart := false, narrowed := true }
def FnExactVecUpUptoSaid : Prop := fnExactVecUpUptoRow.holds Try.pinned (OpenSpec.upto fnExactVecUpSpec)

/-- 'laws.FnExactVecBelow', WHERE WHAT IT READS IS OF BULK AT MOST 1048576: true; the input reads as it did. -/
def fnExactVecBelowUptoRow : OpenClaim := { program := "ytnejbggbkjgfeaa", sum := "beeca8941fba620d091e95e4bc016810d8326da40e654e69e968f890ea0f2b00", func := "loop.example/g00642/laws.FnExactVecBelow", spec := "fnExactVecBelow", plainKeys := false, apart := false, narrowed := true }
def FnExactVecBelowUptoSaid : Prop := fnExactVecBelowUptoRow.holds Try.pinned (OpenSpec.upto fnExactVecBelowSpec)

/-- 'laws.FnExactTreeOk', WHERE WHAT IT READS IS OF BULK AT MOST 1048576: true; the input reads as it did. -/
def fnExactTreeOkUptoRow : OpenClaim := { program := "ytnejbggbkjgfeaa", sum := "beeca8941fba620d091e95e4bc016810d8326da40e654e69e968f890ea0f2b00", func := "loop.example/g00642/laws.FnExactTreeOk", spec := "fnExactTreeOk", inPlace := ["internal/bytealg.abigen_runtime_cmpstring"], plainKeys := false, apart := false, narrowed := true }
def FnExactTreeOkUptoSaid : Prop := fnExactTreeOkUptoRow.holds Try.pinned (OpenSpec.upto fnExactTreeOkSpec)

/-- 'laws.FnExactTreeNew', WHERE WHAT IT READS IS OF BULK AT MOST 1048576: true; the input reads as it did. -/
def fnExactTreeNewUptoRow : OpenClaim := { program := "ytnejbggbkjgfeaa", sum := "beeca8941fba620d091e95e4bc016810d8326da40e654e69e968f890ea0f2b00", func := "loop.example/g00642/laws.FnExactTreeNew", spec := "fnExactTreeNew", plainKeys := false, apart := false, narrowed := true }
def FnExactTreeNewUptoSaid : Prop := fnExactTreeNewUptoRow.holds Try.pinned (OpenSpec.upto fnExactTreeNewSpec)

/-- 'laws.FnExactNamesOf', WHERE WHAT IT READS IS OF BULK AT MOST 1048576: true; the input reads as it did. -/
def fnExactNamesOfUptoRow : OpenClaim := { program := "ytnejbggbkjgfeaa", sum := "beeca8941fba620d091e95e4bc016810d8326da40e654e69e968f890ea0f2b00", func := "loop.example/g00642/laws.FnExactNamesOf", spec := "fnExactNamesOf", inPlace := ["internal/bytealg.abigen_runtime_cmpstring"], plainKeys := false, apart := false, narrowed := true }
def FnExactNamesOfUptoSaid : Prop := fnExactNamesOfUptoRow.holds Try.pinned (OpenSpec.upto fnExactNamesOfSpec)

/-- 'laws.FnExactCopies', WHERE WHAT IT READS IS OF BULK AT MOST 1048576: true; the input reads as it did. -/
def fnExactCopiesUptoRow : OpenClaim := { program := "ytnejbggbkjgfeaa", sum := "beeca8941fba620d091e95e4bc016810d8326da40e654e69e968f890ea0f2b00", func := "loop.example/g00642/laws.FnExactCopies", spec := "fnExactCopies", inPlace := ["internal/bytealg.abigen_runtime_cmpstring"], plainKeys := false, apart := false, narrowed := true }
def FnExactCopiesUptoSaid : Prop := fnExactCopiesUptoRow.holds Try.pinned (OpenSpec.upto fnExactCopiesSpec)

/-- 'laws.FnExactValueOf', WHERE WHAT IT READS IS OF BULK AT MOST 1048576: true; the input reads as it did. -/
def fnExactValueOfUptoRow : OpenClaim := { program := "ytnejbggbkjgfeaa", sum := "beeca8941fba620d091e95e4bc016810d8326da40e654e69e968f890ea0f2b00", func := "loop.example/g00642/laws.FnExactValueOf", spec := "fnExactValueOf", inPlace := ["internal/bytealg.abigen_runtime_cmpstring"], unfollowed := true, recurses := true, plainKeys := false, apart := false, narrowed := true }
def FnExactValueOfUptoSaid : Prop := fnExactValueOfUptoRow.holds Try.pinned (OpenSpec.upto fnExactValueOfSpec)

/-- 'laws.FnExactWriters', WHERE WHAT IT READS IS OF BULK AT MOST 1048576: true; the input reads as it did. -/
def fnExactWritersUptoRow : OpenClaim := { program := "ytnejbggbkjgfeaa", sum := "beeca8941fba620d091e95e4bc016810d8326da40e654e69e968f890ea0f2b00", func := "loop.example/g00642/laws.FnExactWriters", spec := "fnExactWriters", inPlace := ["internal/bytealg.abigen_runtime_cmpstring"], unfollowed := true, recurses := true, plainKeys := false, apart := false, narrowed := true }
def FnExactWritersUptoSaid : Prop := fnExactWritersUptoRow.holds Try.pinned (OpenSpec.upto fnExactWritersSpec)

/-- 'laws.FnExactDrop', WHERE WHAT IT READS IS OF BULK AT MOST 1048576: true; the input reads as it did. -/
def fnExactDropUptoRow : OpenClaim := { program := "ytnejbggbkjgfeaa", sum := "beeca8941fba620d091e95e4bc016810d8326da40e654e69e968f890ea0f2b00", func := "loop.example/g00642/laws.FnExactDrop", spec := "fnExactDrop", inPlace := ["internal/bytealg.abigen_runtime_cmpstring"], unfollowed := true, recurses := true, plainKeys := false, apart := false, narrowed := true }
def FnExactDropUptoSaid : Prop := fnExactDropUptoRow.holds Try.pinned (OpenSpec.upto fnExactDropSpec)

/-- 'laws.FnExactPut', WHERE WHAT IT READS IS OF BULK AT MOST 1048576: true; the input reads as it did. -/
def fnExactPutUptoRow : OpenClaim := { program := "ytnejbggbkjgfeaa", sum := "beeca8941fba620d091e95e4bc016810d8326da40e654e69e968f890ea0f2b00", func := "loop.example/g00642/laws.FnExactPut", spec := "fnExactPut", inPlace := ["internal/bytealg.abigen_runtime_cmpstring"], unfollowed := true, recurses := true, plainKeys := false, apart := false, narrowed := true }
def FnExactPutUptoSaid : Prop := fnExactPutUptoRow.holds Try.pinned (OpenSpec.upto fnExactPutSpec)

end Rows
end Go.Proofs.Ytnejbggbkjgfeaa
