/-
  The law's own reckoning of how large its arguments are: what is left of the bound, or -1.
-/
import Derived.Test.YtepkicgnhjaokaaGreatDoorRows
import Derived.Test.YtepkicgnhjaokaaGreatDoorMem
namespace Go.Proofs.YtepkicgnhjaokaaGreatDoor
open Go.RowKit

end Go.Proofs.YtepkicgnhjaokaaGreatDoor
