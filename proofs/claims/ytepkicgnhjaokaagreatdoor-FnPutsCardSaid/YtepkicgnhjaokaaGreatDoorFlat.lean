/-
  For laws over lists of numbers and of bytes: the law's copies, in one form.
-/
import Derived.Test.YtepkicgnhjaokaaGreatDoorInt
import Derived.Test.YtepkicgnhjaokaaGreatDoorFresh2
import Derived.Test.YtepkicgnhjaokaaGreatDoorMark2
import Derived.Test.YtepkicgnhjaokaaGreatDoorEq
namespace Go.Proofs.YtepkicgnhjaokaaGreatDoor
open Go.RowKit Go.Maps

end Go.Proofs.YtepkicgnhjaokaaGreatDoor
