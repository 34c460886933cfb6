/-
  No cell of these rows narrows 'for every input' (looked for: loops, veiled, ifaces, maps, wideKeys, modest, calm, conditions, laid).
  DERIVED. THE GIVEN ROWS OF THIS SEAT. 10 by the template 'for every input the law returns true; each argument reads behind the call as it read before'; 0 by the template 'total and deterministic' (their statements: YtblmhhijgdkkoaaTotals.lean).
  GIVEN WITH THE SEED: the statements are not yours to turn. If you find one false, say at which input.
  Laid BY PROGRAM, IN A SANDBOX (cutbox-rows.mjs): the forced cells as the released guide's own fill.sh prints them over the translation ca9da787dac79a21… (all of the seat's roots in one cut). By AI agents, Wed Nov 11 2026. No macro, syntax, notation, axiom, sorry.
-/
import Derived.Test.YtblmhhijgdkkoaaChecked
import GoSem.Claim
import GoSem.ClaimJoined
import GoSem.ClaimMapViews
import Derived.JoinedTies
import Derived.KernelRfl
namespace Go.Proofs.Ytblmhhijgdkkoaa
/- THE CELL 'sum', in the pinned program and in every row, IS THE sha256 OF THE DUMP (.gsa) THAT YtblmhhijgdkkoaaProg.lean LOADS. Nothing in Lean hashes anything: it is a label: what it is worth is what the hold of that sum in a sandbox is worth. -/
noncomputable def Try.pinned : Pinned := { name := "ytblmhhijgdkkoaa", sum := "ca9da787dac79a217b97cd3eddfea07dc703d067c9e32723ee2d7d45adf9d33a", checked := Try.checked }
namespace Rows
def none {H : Type} : Left H := { results := [], args := [] }

/-- 'laws.FnExactDrop': WHATEVER THE INPUT: true; the input reads as it did. -/
def fnExactDropSpec : ChangeSpec := { name := "fnExactDrop", fn := fun _ => fun
  | [d1, d2] => { results := [.lit (.bool true)], args := [d1, d2] }
  | _ => none }
def fnExactDropRow : OpenClaim := { program := "ytblmhhijgdkkoaa", sum := "ca9da787dac79a217b97cd3eddfea07dc703d067c9e32723ee2d7d45adf9d33a", func := "loop.example/g00642/laws.FnExactDrop", spec := "fnExactDrop", inPlace := ["internal/bytealg.abigen_runtime_cmpstring"], unfollowed := true, recurses := true, plainKeys := false, apart := false }
def FnExactDropSaid : Prop := fnExactDropRow.holds Try.pinned (OpenSpec.ofChange fnExactDropSpec)

/-- ITS FALSE NEIGHBOUR: 'it returns false'. Refute it at one input. -/
def fnExactDropWrong : ChangeSpec := { name := "fnExactDrop", fn := fun _ => fun
  | [d1, d2] => { results := [.lit (.bool false)], args := [d1, d2] }
  | _ => none }
def FnExactDropWrongFalsely : Prop := fnExactDropRow.holds Try.pinned (OpenSpec.ofChange fnExactDropWrong)

/-- 'laws.FnExactNamesOf': WHATEVER THE INPUT: true; the input reads as it did. -/
def fnExactNamesOfSpec : ChangeSpec := { name := "fnExactNamesOf", fn := fun _ => fun
  | [d] => { results := [.lit (.bool true)], args := [d] }
  | _ => none }
def fnExactNamesOfRow : OpenClaim := { program := "ytblmhhijgdkkoaa", sum := "ca9da787dac79a217b97cd3eddfea07dc703d067c9e32723ee2d7d45adf9d33a", func := "loop.example/g00642/laws.FnExactNamesOf", spec := "fnExactNamesOf", inPlace := ["internal/bytealg.abigen_runtime_cmpstring"], plainKeys := false, apart := false }
def FnExactNamesOfSaid : Prop := fnExactNamesOfRow.holds Try.pinned (OpenSpec.ofChange fnExactNamesOfSpec)

/-- ITS FALSE NEIGHBOUR: 'it returns false'. Refute it at one input. -/
def fnExactNamesOfWrong : ChangeSpec := { name := "fnExactNamesOf", fn := fun _ => fun
  | [d] => { results := [.lit (.bool false)], args := [d] }
  | _ => none }
def FnExactNamesOfWrongFalsely : Prop := fnExactNamesOfRow.holds Try.pinned (OpenSpec.ofChange fnExactNamesOfWrong)

/-- 'laws.FnExactTreeCmp': WHATEVER THE INPUT: true; the input reads as it did. -/
def fnExactTreeCmpSpec : ChangeSpec := { name := "fnExactTreeCmp", fn := fun _ => fun
  | [d1, d2] => { results := [.lit (.bool true)], args := [d1, d2] }
  | _ => none }
def fnExactTreeCmpRow : OpenClaim := { program := "ytblmhhijgdkkoaa", sum := "ca9da787dac79a217b97cd3eddfea07dc703d067c9e32723ee2d7d45adf9d33a", func := "loop.example/g00642/laws.FnExactTreeCmp", spec := "fnExactTreeCmp", inPlace := ["internal/bytealg.abigen_runtime_cmpstring", "internal/bytealg.Compare"], plainKeys := false, apart := false }
def FnExactTreeCmpSaid : Prop := fnExactTreeCmpRow.holds Try.pinned (OpenSpec.ofChange fnExactTreeCmpSpec)

/-- ITS FALSE NEIGHBOUR: 'it returns false'. Refute it at one input. -/
def fnExactTreeCmpWrong : ChangeSpec := { name := "fnExactTreeCmp", fn := fun _ => fun
  | [d1, d2] => { results := [.lit (.bool false)], args := [d1, d2] }
  | _ => none }
def FnExactTreeCmpWrongFalsely : Prop := fnExactTreeCmpRow.holds Try.pinned (OpenSpec.ofChange fnExactTreeCmpWrong)

/-- 'laws.FnExactManifestOk': WHATEVER THE INPUT: true; the input reads as it did. -/
def fnExactManifestOkSpec : ChangeSpec := { name := "fnExactManifestOk", fn := fun _ => fun
  | [d] => { results := [.lit (.bool true)], args := [d] }
  | _ => none }
def fnExactManifestOkRow : OpenClaim := { program := "ytblmhhijgdkkoaa", sum := "ca9da787dac79a217b97cd3eddfea07dc703d067c9e32723ee2d7d45adf9d33a", func := "loop.example/g00642/laws.FnExactManifestOk", spec := "fnExactManifestOk", inPlace := ["internal/bytealg.abigen_runtime_cmpstring"], plainKeys := false, apart := false }
def FnExactManifestOkSaid : Prop := fnExactManifestOkRow.holds Try.pinned (OpenSpec.ofChange fnExactManifestOkSpec)

/-- ITS FALSE NEIGHBOUR: 'it returns false'. Refute it at one input. -/
def fnExactManifestOkWrong : ChangeSpec := { name := "fnExactManifestOk", fn := fun _ => fun
  | [d] => { results := [.lit (.bool false)], args := [d] }
  | _ => none }
def FnExactManifestOkWrongFalsely : Prop := fnExactManifestOkRow.holds Try.pinned (OpenSpec.ofChange fnExactManifestOkWrong)

/-- 'laws.FnExactBodyBytes': WHATEVER THE INPUT: true; the input reads as it did. -/
def fnExactBodyBytesSpec : ChangeSpec := { name := "fnExactBodyBytes", fn := fun _ => fun
  | [d] => { results := [.lit (.bool true)], args := [d] }
  | _ => none }
def fnExactBodyBytesRow : OpenClaim := { program := "ytblmhhijgdkkoaa", sum := "ca9da787dac79a217b97cd3eddfea07dc703d067c9e32723ee2d7d45adf9d33a", func := "loop.example/g00642/laws.FnExactBodyBytes", spec := "fnExactBodyBytes", inPlace := ["internal/bytealg.abigen_runtime_cmpstring"], plainKeys := false, apart := false }
def FnExactBodyBytesSaid : Prop := fnExactBodyBytesRow.holds Try.pinned (OpenSpec.ofChange fnExactBodyBytesSpec)

/-- ITS FALSE NEIGHBOUR: 'it returns false'. Refute it at one input. -/
def fnExactBodyBytesWrong : ChangeSpec := { name := "fnExactBodyBytes", fn := fun _ => fun
  | [d] => { results := [.lit (.bool false)], args := [d] }
  | _ => none }
def FnExactBodyBytesWrongFalsely : Prop := fnExactBodyBytesRow.holds Try.pinned (OpenSpec.ofChange fnExactBodyBytesWrong)

/-- 'laws.FnExactManifestBytes': WHATEVER THE INPUT: true; the input reads as it did. -/
def fnExactManifestBytesSpec : ChangeSpec := { name := "fnExactManifestBytes", fn := fun _ => fun
  | [d] => { results := [.lit (.bool true)], args := [d] }
  | _ => none }
def fnExactManifestBytesRow : OpenClaim := { program := "ytblmhhijgdkkoaa", sum := "ca9da787dac79a217b97cd3eddfea07dc703d067c9e32723ee2d7d45adf9d33a", func := "loop.example/g00642/laws.FnExactManifestBytes", spec := "fnExactManifestBytes", inPlace := ["internal/bytealg.abigen_runtime_cmpstring"], plainKeys := false, apart := false }
def FnExactManifestBytesSaid : Prop := fnExactManifestBytesRow.holds Try.pinned (OpenSpec.ofChange fnExactManifestBytesSpec)

/-- ITS FALSE NEIGHBOUR: 'it returns false'. Refute it at one input. -/
def fnExactManifestBytesWrong : ChangeSpec := { name := "fnExactManifestBytes", fn := fun _ => fun
  | [d] => { results := [.lit (.bool false)], args := [d] }
  | _ => none }
def FnExactManifestBytesWrongFalsely : Prop := fnExactManifestBytesRow.holds Try.pinned (OpenSpec.ofChange fnExactManifestBytesWrong)

/-- 'laws.FnExactBody': WHATEVER THE INPUT: true; the input reads as it did. -/
def fnExactBodySpec : ChangeSpec := { name := "fnExactBody", fn := fun _ => fun
  | [d1, d2] => { results := [.lit (.bool true)], args := [d1, d2] }
  | _ => none }
def fnExactBodyRow : OpenClaim := { program := "ytblmhhijgdkkoaa", sum := "ca9da787dac79a217b97cd3eddfea07dc703d067c9e32723ee2d7d45adf9d33a", func := "loop.example/g00642/laws.FnExactBody", spec := "fnExactBody", inPlace := ["internal/bytealg.abigen_runtime_cmpstring"], plainKeys := false, apart := false }
def FnExactBodySaid : Prop := fnExactBodyRow.holds Try.pinned (OpenSpec.ofChange fnExactBodySpec)

/-- ITS FALSE NEIGHBOUR: 'it returns false'. Refute it at one input. -/
def fnExactBodyWrong : ChangeSpec := { name := "fnExactBody", fn := fun _ => fun
  | [d1, d2] => { results := [.lit (.bool false)], args := [d1, d2] }
  | _ => none }
def FnExactBodyWrongFalsely : Prop := fnExactBodyRow.holds Try.pinned (OpenSpec.ofChange fnExactBodyWrong)

/-- 'laws.FnExactSigOk': WHATEVER THE INPUT: true; the input reads as it did. -/
def fnExactSigOkSpec : ChangeSpec := { name := "fnExactSigOk", fn := fun _ => fun
  | [d1, d2] => { results := [.lit (.bool true)], args := [d1, d2] }
  | _ => none }
def fnExactSigOkRow : OpenClaim := { program := "ytblmhhijgdkkoaa", sum := "ca9da787dac79a217b97cd3eddfea07dc703d067c9e32723ee2d7d45adf9d33a", func := "loop.example/g00642/laws.FnExactSigOk", spec := "fnExactSigOk", inPlace := ["internal/bytealg.abigen_runtime_cmpstring"], plainKeys := false, apart := false }
def FnExactSigOkSaid : Prop := fnExactSigOkRow.holds Try.pinned (OpenSpec.ofChange fnExactSigOkSpec)

/-- ITS FALSE NEIGHBOUR: 'it returns false'. Refute it at one input. -/
def fnExactSigOkWrong : ChangeSpec := { name := "fnExactSigOk", fn := fun _ => fun
  | [d1, d2] => { results := [.lit (.bool false)], args := [d1, d2] }
  | _ => none }
def FnExactSigOkWrongFalsely : Prop := fnExactSigOkRow.holds Try.pinned (OpenSpec.ofChange fnExactSigOkWrong)

/-- 'laws.FnExactFollows': WHATEVER THE INPUT: true; the input reads as it did. -/
def fnExactFollowsSpec : ChangeSpec := { name := "fnExactFollows", fn := fun _ => fun
  | [d1, d2, d3] => { results := [.lit (.bool true)], args := [d1, d2, d3] }
  | _ => none }
def fnExactFollowsRow : OpenClaim := { program := "ytblmhhijgdkkoaa", sum := "ca9da787dac79a217b97cd3eddfea07dc703d067c9e32723ee2d7d45adf9d33a", func := "loop.example/g00642/laws.FnExactFollows", spec := "fnExactFollows", inPlace := ["internal/bytealg.abigen_runtime_cmpstring"], plainKeys := false, apart := false }
def FnExactFollowsSaid : Prop := fnExactFollowsRow.holds Try.pinned (OpenSpec.ofChange fnExactFollowsSpec)

/-- ITS FALSE NEIGHBOUR: 'it returns false'. Refute it at one input. -/
def fnExactFollowsWrong : ChangeSpec := { name := "fnExactFollows", fn := fun _ => fun
  | [d1, d2, d3] => { results := [.lit (.bool false)], args := [d1, d2, d3] }
  | _ => none }
def FnExactFollowsWrongFalsely : Prop := fnExactFollowsRow.holds Try.pinned (OpenSpec.ofChange fnExactFollowsWrong)

/-- 'laws.FnExactForked': WHATEVER THE INPUT: true; the input reads as it did. -/
def fnExactForkedSpec : ChangeSpec := { name := "fnExactForked", fn := fun _ => fun
  | [d1, d2, d3] => { results := [.lit (.bool true)], args := [d1, d2, d3] }
  | _ => none }
def fnExactForkedRow : OpenClaim := { program := "ytblmhhijgdkkoaa", sum := "ca9da787dac79a217b97cd3eddfea07dc703d067c9e32723ee2d7d45adf9d33a", func := "loop.example/g00642/laws.FnExactForked", spec := "fnExactForked", inPlace := ["internal/bytealg.abigen_runtime_cmpstring"], plainKeys := false, apart := false }
def FnExactForkedSaid : Prop := fnExactForkedRow.holds Try.pinned (OpenSpec.ofChange fnExactForkedSpec)

/-- ITS FALSE NEIGHBOUR: 'it returns false'. Refute it at one input. -/
def fnExactForkedWrong : ChangeSpec := { name := "fnExactForked", fn := fun _ => fun
  | [d1, d2, d3] => { results := [.lit (.bool false)], args := [d1, d2, d3] }
  | _ => none }
def FnExactForkedWrongFalsely : Prop := fnExactForkedRow.holds Try.pinned (OpenSpec.ofChange fnExactForkedWrong)

/- THE SECOND FORM. 'bulk': how many values and letters a reading holds, each counted each time it is reached (what is shared counts as often as it is met; a slice's spare places count too). A statement '..UptoSaid' is the law's where the arguments, and the package variables that the reading takes, are together of bulk at most 1048576: NARROWER than '..Said'. Prove '..Said' where nothing that the law and all that it calls make is longer than what came in: it says more and counts as full. Else prove '..UptoSaid'. A law counts once. -/
mutual
def uptoBulk {H : Type} : DataW H → Nat
  | .lit (.string bytes) => bytes.length + 1
  | .lit _ => 1
  | .nil => 1
  | .ptr d => uptoBulk d + 1
  | .slice elems spare => uptoBulkAll elems + uptoBulkAll spare + 1
  | .agg parts => uptoBulkAll parts + 1
  | .iface _ d => uptoBulk d + 1
  | .map entries => uptoBulkEntries entries + 1
  | .held _ => 1
def uptoBulkAll {H : Type} : List (DataW H) → Nat
  | [] => 0
  | d :: r => uptoBulk d + uptoBulkAll r
def uptoBulkEntries {H : Type} : List (Lit × DataW H) → Nat
  | [] => 0
  | x :: r => uptoBulkEntry x + uptoBulkEntries r
def uptoBulkEntry {H : Type} : Lit × DataW H → Nat
  | (.string bytes, d) => bytes.length + uptoBulk d + 1
  | (_, d) => uptoBulk d + 1
 end
def uptoSmall : (H : Type) → List (DataW H) → Bool := fun _ ds => decide (uptoBulkAll ds ≤ 1048576)
def OpenSpec.upto (s : _root_.Go.ChangeSpec) : _root_.Go.OpenSpec := { _root_.Go.OpenSpec.ofChange s with cond := some uptoSmall }

/-- 'laws.FnExactDrop', WHERE WHAT IT READS IS OF BULK AT MOST 1048576: true; the input reads as it did. -/
def fnExactDropUptoRow : OpenClaim := { program := "ytblmhhijgdkkoaa", sum := "ca9da787dac79a217b97cd3eddfea07dc703d067c9e32723ee2d7d45adf9d33a", func := "loop.example/g00642/laws.FnExactDrop", spec := "fnExactDrop", inPlace := ["internal/bytealg.abigen_runtime_cmpstring"], unfollowed := true, recurses := true, plainKeys := false, apart := false, narrowed := true }
def FnExactDropUptoSaid : Prop := fnExactDropUptoRow.holds Try.pinned (OpenSpec.upto fnExactDropSpec)

/-- 'laws.FnExactNamesOf', WHERE WHAT IT READS IS OF BULK AT MOST 1048576: true; the input reads as it did. -/
def fnExactNamesOfUptoRow : OpenClaim := { program := "ytblmhhijgdkkoaa", sum := "ca9da787dac79a217b97cd3eddfea07dc703d067c9e32723ee2d7d45adf9d33a", func := "loop.example/g00642/laws.FnExactNamesOf", spec := "fnExactNamesOf", inPlace := ["internal/bytealg.abigen_runtime_cmpstring"], plainKeys := false, apart := false, narrowed := true }
def FnExactNamesOfUptoSaid : Prop := fnExactNamesOfUptoRow.holds Try.pinned (OpenSpec.upto fnExactNamesOfSpec)

/-- 'laws.FnExactTreeCmp', WHERE WHAT IT READS IS OF BULK AT MOST 1048576: true; the input reads as it did. -/
def fnExactTreeCmpUptoRow : OpenClaim := { program := "ytblmhhijgdkkoaa", sum := "ca9da787dac79a217b97cd3eddfea07dc703d067c9e32723ee2d7d45adf9d33a", func := "loop.example/g00642/laws.FnExactTreeCmp", spec := "fnExactTreeCmp", inPlace := ["internal/bytealg.abigen_runtime_cmpstring", "internal/bytealg.Compare"], plainKeys := false, apart := false, narrowed := true }
def FnExactTreeCmpUptoSaid : Prop := fnExactTreeCmpUptoRow.holds Try.pinned (OpenSpec.upto fnExactTreeCmpSpec)

/-- 'laws.FnExactManifestOk', WHERE WHAT IT READS IS OF BULK AT MOST 1048576: true; the input reads as it did. -/
def fnExactManifestOkUptoRow : OpenClaim := { program := "ytblmhhijgdkkoaa", sum := "ca9da787dac79a217b97cd3eddfea07dc703d067c9e32723ee2d7d45adf9d33a", func := "loop.example/g00642/laws.FnExactManifestOk", spec := "fnExactManifestOk", inPlace := ["internal/bytealg.abigen_runtime_cmpstring"], plainKeys := false, apart := false, narrowed := true }
def FnExactManifestOkUptoSaid : Prop := fnExactManifestOkUptoRow.holds Try.pinned (OpenSpec.upto fnExactManifestOkSpec)

/-- 'laws.FnExactBodyBytes', WHERE WHAT IT READS IS OF BULK AT MOST 1048576: true; the input reads as it did. -/
def fnExactBodyBytesUptoRow : OpenClaim := { program := "ytblmhhijgdkkoaa", sum := "ca9da787dac79a217b97cd3eddfea07dc703d067c9e32723ee2d7d45adf9d33a", func := "loop.example/g00642/laws.FnExactBodyBytes", spec := "fnExactBodyBytes", inPlace := ["internal/bytealg.abigen_runtime_cmpstring"], plainKeys := false, apart := false, narrowed := true }
def FnExactBodyBytesUptoSaid : Prop := fnExactBodyBytesUptoRow.holds Try.pinned (OpenSpec.upto fnExactBodyBytesSpec)

/-- 'laws.FnExactManifestBytes', WHERE WHAT IT READS IS OF BULK AT MOST 1048576: true; the input reads as it did. -/
def fnExactManifestBytesUptoRow : OpenClaim := { program := "ytblmhhijgdkkoaa", sum := "ca9da787dac79a217b97cd3eddfea07dc703d067c9e32723ee2d7d45adf9d33a", func := "loop.example/g00642/laws.FnExactManifestBytes", spec := "fnExactManifestBytes", inPlace := ["internal/bytealg.abigen_runtime_cmpstring"], plainKeys := false, apart := false, narrowed := true }
def FnExactManifestBytesUptoSaid : Prop := fnExactManifestBytesUptoRow.holds Try.pinned (OpenSpec.upto fnExactManifestBytesSpec)

/-- 'laws.FnExactBody', WHERE WHAT IT READS IS OF BULK AT MOST 1048576: true; the input reads as it did. -/
def fnExactBodyUptoRow : OpenClaim := { program := "ytblmhhijgdkkoaa", sum := "ca9da787dac79a217b97cd3eddfea07dc703d067c9e32723ee2d7d45adf9d33a", func := "loop.example/g00642/laws.FnExactBody", spec := "fnExactBody", inPlace := ["internal/bytealg.abigen_runtime_cmpstring"], plainKeys := false, apart := false, narrowed := true }
def FnExactBodyUptoSaid : Prop := fnExactBodyUptoRow.holds Try.pinned (OpenSpec.upto fnExactBodySpec)

/-- 'laws.FnExactSigOk', WHERE WHAT IT READS IS OF BULK AT MOST 1048576: true; the input reads as it did. -/
def fnExactSigOkUptoRow : OpenClaim := { program := "ytblmhhijgdkkoaa", sum := "ca9da787dac79a217b97cd3eddfea07dc703d067c9e32723ee2d7d45adf9d33a", func := "loop.example/g00642/laws.FnExactSigOk", spec := "fnExactSigOk", inPlace := ["internal/bytealg.abigen_runtime_cmpstring"], plainKeys := false, apart := false, narrowed := true }
def FnExactSigOkUptoSaid : Prop := fnExactSigOkUptoRow.holds Try.pinned (OpenSpec.upto fnExactSigOkSpec)

/-- 'laws.FnExactFollows', WHERE WHAT IT READS IS OF BULK AT MOST 1048576: true; the input reads as it did. -/
def fnExactFollowsUptoRow : OpenClaim := { program := "ytblmhhijgdkkoaa", sum := "ca9da787dac79a217b97cd3eddfea07dc703d067c9e32723ee2d7d45adf9d33a", func := "loop.example/g00642/laws.FnExactFollows", spec := "fnExactFollows", inPlace := ["internal/bytealg.abigen_runtime_cmpstring"], plainKeys := false, apart := false, narrowed := true }
def FnExactFollowsUptoSaid : Prop := fnExactFollowsUptoRow.holds Try.pinned (OpenSpec.upto fnExactFollowsSpec)

/-- 'laws.FnExactForked', WHERE WHAT IT READS IS OF BULK AT MOST 1048576: true; the input reads as it did. -/
def fnExactForkedUptoRow : OpenClaim := { program := "ytblmhhijgdkkoaa", sum := "ca9da787dac79a217b97cd3eddfea07dc703d067c9e32723ee2d7d45adf9d33a", func := "loop.example/g00642/laws.FnExactForked", spec := "fnExactForked", inPlace := ["internal/bytealg.abigen_runtime_cmpstring"], plainKeys := false, apart := false, narrowed := true }
def FnExactForkedUptoSaid : Prop := fnExactForkedUptoRow.holds Try.pinned (OpenSpec.upto fnExactForkedSpec)

end Rows
end Go.Proofs.Ytblmhhijgdkkoaa
