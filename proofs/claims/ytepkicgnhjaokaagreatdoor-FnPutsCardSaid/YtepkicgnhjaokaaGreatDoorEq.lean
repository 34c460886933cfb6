/-
  The law's own comparisons: what reads alike is told to be alike.
-/
import Derived.Test.YtepkicgnhjaokaaGreatDoorRows
import Derived.Test.YtepkicgnhjaokaaGreatDoorMem
import Derived.Deep.QuietTactic
import Derived.BigQuiet
import Derived.StillTailTactics
namespace Go.Proofs.YtepkicgnhjaokaaGreatDoor
open Go.RowKit

end Go.Proofs.YtepkicgnhjaokaaGreatDoor
