/-
  No cell of these rows narrows 'for every input' (looked for: loops, veiled, ifaces, maps, wideKeys, modest, calm, conditions, laid).
  DERIVED. THE GIVEN ROWS OF THIS SEAT. 7 by the template 'for every input the law returns true; each argument reads behind the call as it read before'; 0 by the template 'total and deterministic' (their statements: YtjplmmbncjahiaaTotals.lean).
  GIVEN WITH THE SEED: the statements are not yours to turn. If you find one false, say at which input.
  Laid BY PROGRAM, IN A SANDBOX (cutbox-rows.mjs): the forced cells as the released guide's own fill.sh prints them over the translation de8bd9d776f9e719… (all of the seat's roots in one cut). By AI agents, Wed Nov 11 2026. No macro, syntax, notation, axiom, sorry.
-/
import Derived.Test.YtjplmmbncjahiaaChecked
import GoSem.Claim
import GoSem.ClaimJoined
import GoSem.ClaimMapViews
import Derived.JoinedTies
import Derived.KernelRfl
namespace Go.Proofs.Ytjplmmbncjahiaa
/- THE CELL 'sum', in the pinned program and in every row, IS THE sha256 OF THE DUMP (.gsa) THAT YtjplmmbncjahiaaProg.lean LOADS. Nothing in Lean hashes anything: it is a label: what it is worth is what the hold of that sum in a sandbox is worth. -/
noncomputable def Try.pinned : Pinned := { name := "ytjplmmbncjahiaa", sum := "de8bd9d776f9e719a09defde001f90c30f2a37d5ea01cf26726a57034827bbeb", checked := Try.checked }
namespace Rows
def none {H : Type} : Left H := { results := [], args := [] }

/-- 'laws.FnExactOpened': WHATEVER THE INPUT: true; the input reads as it did. -/
def fnExactOpenedSpec : ChangeSpec := { name := "fnExactOpened", fn := fun _ => fun
  | [d1, d2] => { results := [.lit (.bool true)], args := [d1, d2] }
  | _ => none }
def fnExactOpenedRow : OpenClaim := { program := "ytjplmmbncjahiaa", sum := "de8bd9d776f9e719a09defde001f90c30f2a37d5ea01cf26726a57034827bbeb", func := "loop.example/g00642/laws.FnExactOpened", spec := "fnExactOpened", unfollowed := true, recurses := true, plainKeys := false, apart := false }
def FnExactOpenedSaid : Prop := fnExactOpenedRow.holds Try.pinned (OpenSpec.ofChange fnExactOpenedSpec)

/-- ITS FALSE NEIGHBOUR: 'it returns false'. Refute it at one input. -/
def fnExactOpenedWrong : ChangeSpec := { name := "fnExactOpened", fn := fun _ => fun
  | [d1, d2] => { results := [.lit (.bool false)], args := [d1, d2] }
  | _ => none }
def FnExactOpenedWrongFalsely : Prop := fnExactOpenedRow.holds Try.pinned (OpenSpec.ofChange fnExactOpenedWrong)

/-- 'laws.FnExactCan': WHATEVER THE INPUT: true; the input reads as it did. -/
def fnExactCanSpec : ChangeSpec := { name := "fnExactCan", fn := fun _ => fun
  | [d1, d2, d3] => { results := [.lit (.bool true)], args := [d1, d2, d3] }
  | _ => none }
def fnExactCanRow : OpenClaim := { program := "ytjplmmbncjahiaa", sum := "de8bd9d776f9e719a09defde001f90c30f2a37d5ea01cf26726a57034827bbeb", func := "loop.example/g00642/laws.FnExactCan", spec := "fnExactCan", unfollowed := true, recurses := true, plainKeys := false, apart := false }
def FnExactCanSaid : Prop := fnExactCanRow.holds Try.pinned (OpenSpec.ofChange fnExactCanSpec)

/-- ITS FALSE NEIGHBOUR: 'it returns false'. Refute it at one input. -/
def fnExactCanWrong : ChangeSpec := { name := "fnExactCan", fn := fun _ => fun
  | [d1, d2, d3] => { results := [.lit (.bool false)], args := [d1, d2, d3] }
  | _ => none }
def FnExactCanWrongFalsely : Prop := fnExactCanRow.holds Try.pinned (OpenSpec.ofChange fnExactCanWrong)

/-- 'laws.FnExactAll': WHATEVER THE INPUT: true; the input reads as it did. -/
def fnExactAllSpec : ChangeSpec := { name := "fnExactAll", fn := fun _ => fun
  | [d1, d2] => { results := [.lit (.bool true)], args := [d1, d2] }
  | _ => none }
def fnExactAllRow : OpenClaim := { program := "ytjplmmbncjahiaa", sum := "de8bd9d776f9e719a09defde001f90c30f2a37d5ea01cf26726a57034827bbeb", func := "loop.example/g00642/laws.FnExactAll", spec := "fnExactAll", unfollowed := true, recurses := true, plainKeys := false, apart := false }
def FnExactAllSaid : Prop := fnExactAllRow.holds Try.pinned (OpenSpec.ofChange fnExactAllSpec)

/-- ITS FALSE NEIGHBOUR: 'it returns false'. Refute it at one input. -/
def fnExactAllWrong : ChangeSpec := { name := "fnExactAll", fn := fun _ => fun
  | [d1, d2] => { results := [.lit (.bool false)], args := [d1, d2] }
  | _ => none }
def FnExactAllWrongFalsely : Prop := fnExactAllRow.holds Try.pinned (OpenSpec.ofChange fnExactAllWrong)

/-- 'laws.FnExactMissing': WHATEVER THE INPUT: true; the input reads as it did. -/
def fnExactMissingSpec : ChangeSpec := { name := "fnExactMissing", fn := fun _ => fun
  | [d1, d2, d3] => { results := [.lit (.bool true)], args := [d1, d2, d3] }
  | _ => none }
def fnExactMissingRow : OpenClaim := { program := "ytjplmmbncjahiaa", sum := "de8bd9d776f9e719a09defde001f90c30f2a37d5ea01cf26726a57034827bbeb", func := "loop.example/g00642/laws.FnExactMissing", spec := "fnExactMissing", unfollowed := true, recurses := true, plainKeys := false, apart := false }
def FnExactMissingSaid : Prop := fnExactMissingRow.holds Try.pinned (OpenSpec.ofChange fnExactMissingSpec)

/-- ITS FALSE NEIGHBOUR: 'it returns false'. Refute it at one input. -/
def fnExactMissingWrong : ChangeSpec := { name := "fnExactMissing", fn := fun _ => fun
  | [d1, d2, d3] => { results := [.lit (.bool false)], args := [d1, d2, d3] }
  | _ => none }
def FnExactMissingWrongFalsely : Prop := fnExactMissingRow.holds Try.pinned (OpenSpec.ofChange fnExactMissingWrong)

/-- 'laws.FnExactSecret': WHATEVER THE INPUT: true; the input reads as it did. -/
def fnExactSecretSpec : ChangeSpec := { name := "fnExactSecret", fn := fun _ => fun
  | [d1, d2, d3] => { results := [.lit (.bool true)], args := [d1, d2, d3] }
  | _ => none }
def fnExactSecretRow : OpenClaim := { program := "ytjplmmbncjahiaa", sum := "de8bd9d776f9e719a09defde001f90c30f2a37d5ea01cf26726a57034827bbeb", func := "loop.example/g00642/laws.FnExactSecret", spec := "fnExactSecret", unfollowed := true, recurses := true, plainKeys := false, apart := false }
def FnExactSecretSaid : Prop := fnExactSecretRow.holds Try.pinned (OpenSpec.ofChange fnExactSecretSpec)

/-- ITS FALSE NEIGHBOUR: 'it returns false'. Refute it at one input. -/
def fnExactSecretWrong : ChangeSpec := { name := "fnExactSecret", fn := fun _ => fun
  | [d1, d2, d3] => { results := [.lit (.bool false)], args := [d1, d2, d3] }
  | _ => none }
def FnExactSecretWrongFalsely : Prop := fnExactSecretRow.holds Try.pinned (OpenSpec.ofChange fnExactSecretWrong)

/-- 'laws.FnExactLeaks': WHATEVER THE INPUT: true; the input reads as it did. -/
def fnExactLeaksSpec : ChangeSpec := { name := "fnExactLeaks", fn := fun _ => fun
  | [d1, d2] => { results := [.lit (.bool true)], args := [d1, d2] }
  | _ => none }
def fnExactLeaksRow : OpenClaim := { program := "ytjplmmbncjahiaa", sum := "de8bd9d776f9e719a09defde001f90c30f2a37d5ea01cf26726a57034827bbeb", func := "loop.example/g00642/laws.FnExactLeaks", spec := "fnExactLeaks", unfollowed := true, recurses := true, plainKeys := false, apart := false }
def FnExactLeaksSaid : Prop := fnExactLeaksRow.holds Try.pinned (OpenSpec.ofChange fnExactLeaksSpec)

/-- ITS FALSE NEIGHBOUR: 'it returns false'. Refute it at one input. -/
def fnExactLeaksWrong : ChangeSpec := { name := "fnExactLeaks", fn := fun _ => fun
  | [d1, d2] => { results := [.lit (.bool false)], args := [d1, d2] }
  | _ => none }
def FnExactLeaksWrongFalsely : Prop := fnExactLeaksRow.holds Try.pinned (OpenSpec.ofChange fnExactLeaksWrong)

/-- 'laws.FnExactGains': WHATEVER THE INPUT: true; the input reads as it did. -/
def fnExactGainsSpec : ChangeSpec := { name := "fnExactGains", fn := fun _ => fun
  | [d1, d2, d3] => { results := [.lit (.bool true)], args := [d1, d2, d3] }
  | _ => none }
def fnExactGainsRow : OpenClaim := { program := "ytjplmmbncjahiaa", sum := "de8bd9d776f9e719a09defde001f90c30f2a37d5ea01cf26726a57034827bbeb", func := "loop.example/g00642/laws.FnExactGains", spec := "fnExactGains", unfollowed := true, recurses := true, plainKeys := false, apart := false }
def FnExactGainsSaid : Prop := fnExactGainsRow.holds Try.pinned (OpenSpec.ofChange fnExactGainsSpec)

/-- ITS FALSE NEIGHBOUR: 'it returns false'. Refute it at one input. -/
def fnExactGainsWrong : ChangeSpec := { name := "fnExactGains", fn := fun _ => fun
  | [d1, d2, d3] => { results := [.lit (.bool false)], args := [d1, d2, d3] }
  | _ => none }
def FnExactGainsWrongFalsely : Prop := fnExactGainsRow.holds Try.pinned (OpenSpec.ofChange fnExactGainsWrong)

/- THE SECOND FORM. 'bulk': how many values and letters a reading holds, each counted each time it is reached (what is shared counts as often as it is met; a slice's spare places count too). A statement '..UptoSaid' is the law's where the arguments, and the package variables that the reading takes, are together of bulk at most 1048576: NARROWER than '..Said'. Prove '..Said' where nothing that the law and all that it calls make is longer than what came in: it says more and counts as full. Else prove '..UptoSaid'. A law counts once. -/
mutual
def uptoBulk {H : Type} : DataW H → Nat
  | .lit (.string bytes) => bytes.length + 1
  | .lit _ => 1
  | .nil => 1
  | .ptr d => uptoBulk d + 1
  | .slice elems spare => uptoBulkAll elems + uptoBulkAll spare + 1
  | .agg parts => uptoBulkAll parts + 1
  | .iface _ d => uptoBulk d + 1
  | .map entries => uptoBulkEntries entries + 1
  | .held _ => 1
def uptoBulkAll {H : Type} : List (DataW H) → Nat
  | [] => 0
  | d :: r => uptoBulk d + uptoBulkAll r
def uptoBulkEntries {H : Type} : List (Lit × DataW H) → Nat
  | [] => 0
  | x :: r => uptoBulkEntry x + uptoBulkEntries r
def uptoBulkEntry {H : Type} : Lit × DataW H → Nat
  | (.string bytes, d) => bytes.length + uptoBulk d + 1
  | (_, d) => uptoBulk d + 1
 end
def uptoSmall : (H : Type) → List (DataW H) → Bool := fun _ ds => decide (uptoBulkAll ds ≤ 1048576)
def OpenSpec.upto (s : _root_.Go.ChangeSpec) : _root_.Go.OpenSpec := { _root_.Go.OpenSpec.ofChange s with cond := some uptoSmall }

/-- 'laws.FnExactOpened', WHERE WHAT IT READS IS OF BULK AT MOST 1048576: true; the input reads as it did. -/
def fnExactOpenedUptoRow : OpenClaim := { program := "ytjplmmbncjahiaa", sum := "de8bd9d776f9e719a09defde001f90c30f2a37d5ea01cf26726a57034827bbeb", func := "loop.example/g00642/laws.FnExactOpened", spec := "fnExactOpened", unfollowed := true, recurses := true, plainKeys := false, apart := false, narrowed := true }
def FnExactOpenedUptoSaid : Prop := fnExactOpenedUptoRow.holds Try.pinned (OpenSpec.upto fnExactOpenedSpec)

/-- 'laws.FnExactCan', WHERE WHAT IT READS IS OF BULK AT MOST 1048576: true; the input reads as it did. -/
def fnExactCanUptoRow : OpenClaim := { program := "ytjplmmbncjahiaa", sum := "de8bd9d776f9e719a09defde001f90c30f2a37d5ea01cf26726a57034827bbeb", func := "loop.example/g00642/laws.FnExactCan", spec := "fnExactCan", unfollowed := true, recurses := true, plainKeys := false, apart := false, narrowed := true }
def FnExactCanUptoSaid : Prop := fnExactCanUptoRow.holds Try.pinned (OpenSpec.upto fnExactCanSpec)

/-- 'laws.FnExactAll', WHERE WHAT IT READS IS OF BULK AT MOST 1048576: true; the input reads as it did. -/
def fnExactAllUptoRow : OpenClaim := { program := "ytjplmmbncjahiaa", sum := "de8bd9d776f9e719a09defde001f90c30f2a37d5ea01cf26726a57034827bbeb", func := "loop.example/g00642/laws.FnExactAll", spec := "fnExactAll", unfollowed := true, recurses := true, plainKeys := false, apart := false, narrowed := true }
def FnExactAllUptoSaid : Prop := fnExactAllUptoRow.holds Try.pinned (OpenSpec.upto fnExactAllSpec)

/-- 'laws.FnExactMissing', WHERE WHAT IT READS IS OF BULK AT MOST 1048576: true; the input reads as it did. -/
def fnExactMissingUptoRow : OpenClaim := { program := "ytjplmmbncjahiaa", sum := "de8bd9d776f9e719a09defde001f90c30f2a37d5ea01cf26726a57034827bbeb", func := "loop.example/g00642/laws.FnExactMissing", spec := "fnExactMissing", unfollowed := true, recurses := true, plainKeys := false, apart := false, narrowed := true }
def FnExactMissingUptoSaid : Prop := fnExactMissingUptoRow.holds Try.pinned (OpenSpec.upto fnExactMissingSpec)

/-- 'laws.FnExactSecret', WHERE WHAT IT READS IS OF BULK AT MOST 1048576: true; the input reads as it did. -/
def fnExactSecretUptoRow : OpenClaim := { program := "ytjplmmbncjahiaa", sum := "de8bd9d776f9e719a09defde001f90c30f2a37d5ea01cf26726a57034827bbeb", func := "loop.example/g00642/laws.FnExactSecret", spec := "fnExactSecret", unfollowed := true, recurses := true, plainKeys := false, apart := false, narrowed := true }
def FnExactSecretUptoSaid : Prop := fnExactSecretUptoRow.holds Try.pinned (OpenSpec.upto fnExactSecretSpec)

/-- 'laws.FnExactLeaks', WHERE WHAT IT READS IS OF BULK AT MOST 1048576: true; the input reads as it did. -/
def fnExactLeaksUptoRow : OpenClaim := { program := "ytjplmmbncjahiaa", sum := "de8bd9d776f9e719a09defde001f90c30f2a37d5ea01cf26726a57034827bbeb", func := "loop.example/g00642/laws.FnExactLeaks", spec := "fnExactLeaks", unfollowed := true, recurses := true, plainKeys := false, apart := false, narrowed := true }
def FnExactLeaksUptoSaid : Prop := fnExactLeaksUptoRow.holds Try.pinned (OpenSpec.upto fnExactLeaksSpec)

/-- 'laws.FnExactGains', WHERE WHAT IT READS IS OF BULK AT MOST 1048576: true; the input reads as it did. -/
def fnExactGainsUptoRow : OpenClaim := { program := "ytjplmmbncjahiaa", sum := "de8bd9d776f9e719a09defde001f90c30f2a37d5ea01cf26726a57034827bbeb", func := "loop.example/g00642/laws.FnExactGains", spec := "fnExactGains", unfollowed := true, recurses := true, plainKeys := false, apart := false, narrowed := true }
def FnExactGainsUptoSaid : Prop := fnExactGainsUptoRow.holds Try.pinned (OpenSpec.upto fnExactGainsSpec)

end Rows
end Go.Proofs.Ytjplmmbncjahiaa
