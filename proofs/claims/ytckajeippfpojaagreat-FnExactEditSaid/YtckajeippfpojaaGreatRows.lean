/-
  No cell of these rows narrows 'for every input' (looked for: loops, veiled, ifaces, maps, wideKeys, modest, calm, conditions, laid).
  DERIVED. THE GIVEN ROWS OF THIS SEAT. 9 by the template 'for every input the law returns true; each argument reads behind the call as it read before'; 0 by the template 'total and deterministic' (their statements: YtckajeippfpojaaGreatTotals.lean).
  GIVEN WITH THE SEED: the statements are not yours to turn. If you find one false, say at which input.
  Laid BY PROGRAM, IN A SANDBOX (cutbox-rows.mjs): the forced cells as the released guide's own fill.sh prints them over the translation 78191b6398cf7255… (all of the seat's roots in one cut). By AI agents, Wed Nov 11 2026. No macro, syntax, notation, axiom, sorry.
-/
import Derived.Test.YtckajeippfpojaaGreatChecked
import GoSem.Claim
import GoSem.ClaimJoined
import GoSem.ClaimMapViews
import Derived.JoinedTies
import Derived.KernelRfl
namespace Go.Proofs.YtckajeippfpojaaGreat
/- THE CELL 'sum', in the pinned program and in every row, IS THE sha256 OF THE DUMP (.gsa) THAT YtckajeippfpojaaGreatProg.lean LOADS. Nothing in Lean hashes anything: it is a label: what it is worth is what the hold of that sum in a sandbox is worth. -/
noncomputable def Tryz.pinned : Pinned := { name := "ytckajeippfpojaagreat", sum := "78191b6398cf7255f0f14332a424b743f3ae36df36cdbf147e9327cf4949edd1", checked := Tryz.checked }
namespace Rows
def none {H : Type} : Left H := { results := [], args := [] }

/-- 'laws.FnExactSigned': WHATEVER THE INPUT: true; the input reads as it did. -/
def fnExactSignedSpec : ChangeSpec := { name := "fnExactSigned", fn := fun _ => fun
  | [d1, d2] => { results := [.lit (.bool true)], args := [d1, d2] }
  | _ => none }
def fnExactSignedRow : OpenClaim := { program := "ytckajeippfpojaagreat", sum := "78191b6398cf7255f0f14332a424b743f3ae36df36cdbf147e9327cf4949edd1", func := "loop.example/g00642/laws.FnExactSigned", spec := "fnExactSigned", inPlace := ["internal/bytealg.abigen_runtime_cmpstring"], plainKeys := false, apart := false }
def FnExactSignedSaid : Prop := fnExactSignedRow.holds Tryz.pinned (OpenSpec.ofChange fnExactSignedSpec)

/-- ITS FALSE NEIGHBOUR: 'it returns false'. Refute it at one input. -/
def fnExactSignedWrong : ChangeSpec := { name := "fnExactSigned", fn := fun _ => fun
  | [d1, d2] => { results := [.lit (.bool false)], args := [d1, d2] }
  | _ => none }
def FnExactSignedWrongFalsely : Prop := fnExactSignedRow.holds Tryz.pinned (OpenSpec.ofChange fnExactSignedWrong)

/-- 'laws.FnExactDeviceOk': WHATEVER THE INPUT: true; the input reads as it did. -/
def fnExactDeviceOkSpec : ChangeSpec := { name := "fnExactDeviceOk", fn := fun _ => fun
  | [d1, d2] => { results := [.lit (.bool true)], args := [d1, d2] }
  | _ => none }
def fnExactDeviceOkRow : OpenClaim := { program := "ytckajeippfpojaagreat", sum := "78191b6398cf7255f0f14332a424b743f3ae36df36cdbf147e9327cf4949edd1", func := "loop.example/g00642/laws.FnExactDeviceOk", spec := "fnExactDeviceOk", inPlace := ["internal/bytealg.abigen_runtime_cmpstring"], plainKeys := false, apart := false }
def FnExactDeviceOkSaid : Prop := fnExactDeviceOkRow.holds Tryz.pinned (OpenSpec.ofChange fnExactDeviceOkSpec)

/-- ITS FALSE NEIGHBOUR: 'it returns false'. Refute it at one input. -/
def fnExactDeviceOkWrong : ChangeSpec := { name := "fnExactDeviceOk", fn := fun _ => fun
  | [d1, d2] => { results := [.lit (.bool false)], args := [d1, d2] }
  | _ => none }
def FnExactDeviceOkWrongFalsely : Prop := fnExactDeviceOkRow.holds Tryz.pinned (OpenSpec.ofChange fnExactDeviceOkWrong)

/-- 'laws.FnExactEdit': WHATEVER THE INPUT: true; the input reads as it did. -/
def fnExactEditSpec : ChangeSpec := { name := "fnExactEdit", fn := fun _ => fun
  | [d1, d2, d3, d4] => { results := [.lit (.bool true)], args := [d1, d2, d3, d4] }
  | _ => none }
def fnExactEditRow : OpenClaim := { program := "ytckajeippfpojaagreat", sum := "78191b6398cf7255f0f14332a424b743f3ae36df36cdbf147e9327cf4949edd1", func := "loop.example/g00642/laws.FnExactEdit", spec := "fnExactEdit", inPlace := ["internal/bytealg.abigen_runtime_cmpstring"], unfollowed := true, recurses := true, plainKeys := false, apart := false }
def FnExactEditSaid : Prop := fnExactEditRow.holds Tryz.pinned (OpenSpec.ofChange fnExactEditSpec)

/-- ITS FALSE NEIGHBOUR: 'it returns false'. Refute it at one input. -/
def fnExactEditWrong : ChangeSpec := { name := "fnExactEdit", fn := fun _ => fun
  | [d1, d2, d3, d4] => { results := [.lit (.bool false)], args := [d1, d2, d3, d4] }
  | _ => none }
def FnExactEditWrongFalsely : Prop := fnExactEditRow.holds Tryz.pinned (OpenSpec.ofChange fnExactEditWrong)

/-- 'laws.FnExactDelete': WHATEVER THE INPUT: true; the input reads as it did. -/
def fnExactDeleteSpec : ChangeSpec := { name := "fnExactDelete", fn := fun _ => fun
  | [d1, d2, d3] => { results := [.lit (.bool true)], args := [d1, d2, d3] }
  | _ => none }
def fnExactDeleteRow : OpenClaim := { program := "ytckajeippfpojaagreat", sum := "78191b6398cf7255f0f14332a424b743f3ae36df36cdbf147e9327cf4949edd1", func := "loop.example/g00642/laws.FnExactDelete", spec := "fnExactDelete", inPlace := ["internal/bytealg.abigen_runtime_cmpstring"], unfollowed := true, recurses := true, plainKeys := false, apart := false }
def FnExactDeleteSaid : Prop := fnExactDeleteRow.holds Tryz.pinned (OpenSpec.ofChange fnExactDeleteSpec)

/-- ITS FALSE NEIGHBOUR: 'it returns false'. Refute it at one input. -/
def fnExactDeleteWrong : ChangeSpec := { name := "fnExactDelete", fn := fun _ => fun
  | [d1, d2, d3] => { results := [.lit (.bool false)], args := [d1, d2, d3] }
  | _ => none }
def FnExactDeleteWrongFalsely : Prop := fnExactDeleteRow.holds Tryz.pinned (OpenSpec.ofChange fnExactDeleteWrong)

/-- 'laws.FnExactPush': WHATEVER THE INPUT: true; the input reads as it did. -/
def fnExactPushSpec : ChangeSpec := { name := "fnExactPush", fn := fun _ => fun
  | [d1, d2] => { results := [.lit (.bool true)], args := [d1, d2] }
  | _ => none }
def fnExactPushRow : OpenClaim := { program := "ytckajeippfpojaagreat", sum := "78191b6398cf7255f0f14332a424b743f3ae36df36cdbf147e9327cf4949edd1", func := "loop.example/g00642/laws.FnExactPush", spec := "fnExactPush", inPlace := ["internal/bytealg.abigen_runtime_cmpstring"], plainKeys := false, apart := false }
def FnExactPushSaid : Prop := fnExactPushRow.holds Tryz.pinned (OpenSpec.ofChange fnExactPushSpec)

/-- ITS FALSE NEIGHBOUR: 'it returns false'. Refute it at one input. -/
def fnExactPushWrong : ChangeSpec := { name := "fnExactPush", fn := fun _ => fun
  | [d1, d2] => { results := [.lit (.bool false)], args := [d1, d2] }
  | _ => none }
def FnExactPushWrongFalsely : Prop := fnExactPushRow.holds Tryz.pinned (OpenSpec.ofChange fnExactPushWrong)

/-- 'laws.FnExactPull': WHATEVER THE INPUT: true; the input reads as it did. -/
def fnExactPullSpec : ChangeSpec := { name := "fnExactPull", fn := fun _ => fun
  | [d1, d2, d3] => { results := [.lit (.bool true)], args := [d1, d2, d3] }
  | _ => none }
def fnExactPullRow : OpenClaim := { program := "ytckajeippfpojaagreat", sum := "78191b6398cf7255f0f14332a424b743f3ae36df36cdbf147e9327cf4949edd1", func := "loop.example/g00642/laws.FnExactPull", spec := "fnExactPull", inPlace := ["internal/bytealg.abigen_runtime_cmpstring"], unfollowed := true, recurses := true, plainKeys := false, apart := false }
def FnExactPullSaid : Prop := fnExactPullRow.holds Tryz.pinned (OpenSpec.ofChange fnExactPullSpec)

/-- ITS FALSE NEIGHBOUR: 'it returns false'. Refute it at one input. -/
def fnExactPullWrong : ChangeSpec := { name := "fnExactPull", fn := fun _ => fun
  | [d1, d2, d3] => { results := [.lit (.bool false)], args := [d1, d2, d3] }
  | _ => none }
def FnExactPullWrongFalsely : Prop := fnExactPullRow.holds Tryz.pinned (OpenSpec.ofChange fnExactPullWrong)

/-- 'laws.FnExactPullAll': WHATEVER THE INPUT: true; the input reads as it did. -/
def fnExactPullAllSpec : ChangeSpec := { name := "fnExactPullAll", fn := fun _ => fun
  | [d1, d2, d3] => { results := [.lit (.bool true)], args := [d1, d2, d3] }
  | _ => none }
def fnExactPullAllRow : OpenClaim := { program := "ytckajeippfpojaagreat", sum := "78191b6398cf7255f0f14332a424b743f3ae36df36cdbf147e9327cf4949edd1", func := "loop.example/g00642/laws.FnExactPullAll", spec := "fnExactPullAll", inPlace := ["internal/bytealg.abigen_runtime_cmpstring"], unfollowed := true, recurses := true, plainKeys := false, apart := false }
def FnExactPullAllSaid : Prop := fnExactPullAllRow.holds Tryz.pinned (OpenSpec.ofChange fnExactPullAllSpec)

/-- ITS FALSE NEIGHBOUR: 'it returns false'. Refute it at one input. -/
def fnExactPullAllWrong : ChangeSpec := { name := "fnExactPullAll", fn := fun _ => fun
  | [d1, d2, d3] => { results := [.lit (.bool false)], args := [d1, d2, d3] }
  | _ => none }
def FnExactPullAllWrongFalsely : Prop := fnExactPullAllRow.holds Tryz.pinned (OpenSpec.ofChange fnExactPullAllWrong)

/-- 'laws.FnExactExchange': WHATEVER THE INPUT: true; the input reads as it did. -/
def fnExactExchangeSpec : ChangeSpec := { name := "fnExactExchange", fn := fun _ => fun
  | [d1, d2, d3] => { results := [.lit (.bool true)], args := [d1, d2, d3] }
  | _ => none }
def fnExactExchangeRow : OpenClaim := { program := "ytckajeippfpojaagreat", sum := "78191b6398cf7255f0f14332a424b743f3ae36df36cdbf147e9327cf4949edd1", func := "loop.example/g00642/laws.FnExactExchange", spec := "fnExactExchange", inPlace := ["internal/bytealg.abigen_runtime_cmpstring"], plainKeys := false, apart := false }
def FnExactExchangeSaid : Prop := fnExactExchangeRow.holds Tryz.pinned (OpenSpec.ofChange fnExactExchangeSpec)

/-- ITS FALSE NEIGHBOUR: 'it returns false'. Refute it at one input. -/
def fnExactExchangeWrong : ChangeSpec := { name := "fnExactExchange", fn := fun _ => fun
  | [d1, d2, d3] => { results := [.lit (.bool false)], args := [d1, d2, d3] }
  | _ => none }
def FnExactExchangeWrongFalsely : Prop := fnExactExchangeRow.holds Tryz.pinned (OpenSpec.ofChange fnExactExchangeWrong)

/-- 'laws.FnExactWants': WHATEVER THE INPUT: true; the input reads as it did. -/
def fnExactWantsSpec : ChangeSpec := { name := "fnExactWants", fn := fun _ => fun
  | [d1, d2, d3] => { results := [.lit (.bool true)], args := [d1, d2, d3] }
  | _ => none }
def fnExactWantsRow : OpenClaim := { program := "ytckajeippfpojaagreat", sum := "78191b6398cf7255f0f14332a424b743f3ae36df36cdbf147e9327cf4949edd1", func := "loop.example/g00642/laws.FnExactWants", spec := "fnExactWants", inPlace := ["internal/bytealg.abigen_runtime_cmpstring"], unfollowed := true, recurses := true, plainKeys := false, apart := false }
def FnExactWantsSaid : Prop := fnExactWantsRow.holds Tryz.pinned (OpenSpec.ofChange fnExactWantsSpec)

/-- ITS FALSE NEIGHBOUR: 'it returns false'. Refute it at one input. -/
def fnExactWantsWrong : ChangeSpec := { name := "fnExactWants", fn := fun _ => fun
  | [d1, d2, d3] => { results := [.lit (.bool false)], args := [d1, d2, d3] }
  | _ => none }
def FnExactWantsWrongFalsely : Prop := fnExactWantsRow.holds Tryz.pinned (OpenSpec.ofChange fnExactWantsWrong)

/- THE SECOND FORM. 'bulk': how many values and letters a reading holds, each counted each time it is reached (what is shared counts as often as it is met; a slice's spare places count too). A statement '..UptoSaid' is the law's where the arguments, and the package variables that the reading takes, are together of bulk at most 1048576: NARROWER than '..Said'. Prove '..Said' where nothing that the law and all that it calls make is longer than what came in: it says more and counts as full. Else prove '..UptoSaid'. A law counts once. -/
mutual
def uptoBulk {H : Type} : DataW H → Nat
  | .lit (.string bytes) => bytes.length + 1
  | .lit _ => 1
  | .nil => 1
  | .ptr d => uptoBulk d + 1
  | .slice elems spare => uptoBulkAll elems + uptoBulkAll spare + 1
  | .agg parts => uptoBulkAll parts + 1
  | .iface _ d => uptoBulk d + 1
  | .map entries => uptoBulkEntries entries + 1
  | .held _ => 1
def uptoBulkAll {H : Type} : List (DataW H) → Nat
  | [] => 0
  | d :: r => uptoBulk d + uptoBulkAll r
def uptoBulkEntries {H : Type} : List (Lit × DataW H) → Nat
  | [] => 0
  | x :: r => uptoBulkEntry x + uptoBulkEntries r
def uptoBulkEntry {H : Type} : Lit × DataW H → Nat
  | (.string bytes, d) => bytes.length + uptoBulk d + 1
  | (_, d) => uptoBulk d + 1
 end
def uptoSmall : (H : Type) → List (DataW H) → Bool := fun _ ds => decide (uptoBulkAll ds ≤ 1048576)
def OpenSpec.upto (s : _root_.Go.ChangeSpec) : _root_.Go.OpenSpec := { _root_.Go.OpenSpec.ofChange s with cond := some uptoSmall }

/-- 'laws.FnExactSigned', WHERE WHAT IT READS IS OF BULK AT MOST 1048576: true; the input reads as it did. -/
def fnExactSignedUptoRow : OpenClaim := { program := "ytckajeippfpojaagreat", sum := "78191b6398cf7255f0f14332a424b743f3ae36df36cdbf147e9327cf4949edd1", func := "loop.example/g00642/laws.FnExactSigned", spec := "fnExactSigned", inPlace := ["internal/bytealg.abigen_runtime_cmpstring"], plainKeys := false, apart := false, narrowed := true }
def FnExactSignedUptoSaid : Prop := fnExactSignedUptoRow.holds Tryz.pinned (OpenSpec.upto fnExactSignedSpec)

/-- 'laws.FnExactDeviceOk', WHERE WHAT IT READS IS OF BULK AT MOST 1048576: true; the input reads as it did. -/
def fnExactDeviceOkUptoRow : OpenClaim := { program := "ytckajeippfpojaagreat", sum := "78191b6398cf7255f0f14332a424b743f3ae36df36cdbf147e9327cf4949edd1", func := "loop.example/g00642/laws.FnExactDeviceOk", spec := "fnExactDeviceOk", inPlace := ["internal/bytealg.abigen_runtime_cmpstring"], plainKeys := false, apart := false, narrowed := true }
def FnExactDeviceOkUptoSaid : Prop := fnExactDeviceOkUptoRow.holds Tryz.pinned (OpenSpec.upto fnExactDeviceOkSpec)

/-- 'laws.FnExactEdit', WHERE WHAT IT READS IS OF BULK AT MOST 1048576: true; the input reads as it did. -/
def fnExactEditUptoRow : OpenClaim := { program := "ytckajeippfpojaagreat", sum := "78191b6398cf7255f0f14332a424b743f3ae36df36cdbf147e9327cf4949edd1", func := "loop.example/g00642/laws.FnExactEdit", spec := "fnExactEdit", inPlace := ["internal/bytealg.abigen_runtime_cmpstring"], unfollowed := true, recurses := true, plainKeys := false, apart := false, narrowed := true }
def FnExactEditUptoSaid : Prop := fnExactEditUptoRow.holds Tryz.pinned (OpenSpec.upto fnExactEditSpec)

/-- 'laws.FnExactDelete', WHERE WHAT IT READS IS OF BULK AT MOST 1048576: true; the input reads as it did. -/
def fnExactDeleteUptoRow : OpenClaim := { program := "ytckajeippfpojaagreat", sum := "78191b6398cf7255f0f14332a424b743f3ae36df36cdbf147e9327cf4949edd1", func := "loop.example/g00642/laws.FnExactDelete", spec := "fnExactDelete", inPlace := ["internal/bytealg.abigen_runtime_cmpstring"], unfollowed := true, recurses := true, plainKeys := false, apart := false, narrowed := true }
def FnExactDeleteUptoSaid : Prop := fnExactDeleteUptoRow.holds Tryz.pinned (OpenSpec.upto fnExactDeleteSpec)

/-- 'laws.FnExactPush', WHERE WHAT IT READS IS OF BULK AT MOST 1048576: true; the input reads as it did. -/
def fnExactPushUptoRow : OpenClaim := { program := "ytckajeippfpojaagreat", sum := "78191b6398cf7255f0f14332a424b743f3ae36df36cdbf147e9327cf4949edd1", func := "loop.example/g00642/laws.FnExactPush", spec := "fnExactPush", inPlace := ["internal/bytealg.abigen_runtime_cmpstring"], plainKeys := false, apart := false, narrowed := true }
def FnExactPushUptoSaid : Prop := fnExactPushUptoRow.holds Tryz.pinned (OpenSpec.upto fnExactPushSpec)

/-- 'laws.FnExactPull', WHERE WHAT IT READS IS OF BULK AT MOST 1048576: true; the input reads as it did. -/
def fnExactPullUptoRow : OpenClaim := { program := "ytckajeippfpojaagreat", sum := "78191b6398cf7255f0f14332a424b743f3ae36df36cdbf147e9327cf4949edd1", func := "loop.example/g00642/laws.FnExactPull", spec := "fnExactPull", inPlace := ["internal/bytealg.abigen_runtime_cmpstring"], unfollowed := true, recurses := true, plainKeys := false, apart := false, narrowed := true }
def FnExactPullUptoSaid : Prop := fnExactPullUptoRow.holds Tryz.pinned (OpenSpec.upto fnExactPullSpec)

/-- 'laws.FnExactPullAll', WHERE WHAT IT READS IS OF BULK AT MOST 1048576: true; the input reads as it did. -/
def fnExactPullAllUptoRow : OpenClaim := { program := "ytckajeippfpojaagreat", sum := "78191b6398cf7255f0f14332a424b743f3ae36df36cdbf147e9327cf4949edd1", func := "loop.example/g00642/laws.FnExactPullAll", spec := "fnExactPullAll", inPlace := ["internal/bytealg.abigen_runtime_cmpstring"], unfollowed := true, recurses := true, plainKeys := false, apart := false, narrowed := true }
def FnExactPullAllUptoSaid : Prop := fnExactPullAllUptoRow.holds Tryz.pinned (OpenSpec.upto fnExactPullAllSpec)

/-- 'laws.FnExactExchange', WHERE WHAT IT READS IS OF BULK AT MOST 1048576: true; the input reads as it did. -/
def fnExactExchangeUptoRow : OpenClaim := { program := "ytckajeippfpojaagreat", sum := "78191b6398cf7255f0f14332a424b743f3ae36df36cdbf147e9327cf4949edd1", func := "loop.example/g00642/laws.FnExactExchange", spec := "fnExactExchange", inPlace := ["internal/bytealg.abigen_runtime_cmpstring"], plainKeys := false, apart := false, narrowed := true }
def FnExactExchangeUptoSaid : Prop := fnExactExchangeUptoRow.holds Tryz.pinned (OpenSpec.upto fnExactExchangeSpec)

/-- 'laws.FnExactWants', WHERE WHAT IT READS IS OF BULK AT MOST 1048576: true; the input reads as it did. -/
def fnExactWantsUptoRow : OpenClaim := { program := "ytckajeippfpojaagreat", sum := "78191b6398cf7255f0f14332a424b743f3ae36df36cdbf147e9327cf4949edd1", func := "loop.example/g00642/laws.FnExactWants", spec := "fnExactWants", inPlace := ["internal/bytealg.abigen_runtime_cmpstring"], unfollowed := true, recurses := true, plainKeys := false, apart := false, narrowed := true }
def FnExactWantsUptoSaid : Prop := fnExactWantsUptoRow.holds Tryz.pinned (OpenSpec.upto fnExactWantsSpec)

end Rows
end Go.Proofs.YtckajeippfpojaaGreat
