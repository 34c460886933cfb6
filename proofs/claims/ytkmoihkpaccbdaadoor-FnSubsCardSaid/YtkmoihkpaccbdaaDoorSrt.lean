/-
  Nothing of the library is sorted here.
-/
import Derived.Test.YtkmoihkpaccbdaaDoorProg
namespace Go.Proofs.YtkmoihkpaccbdaaDoor
end Go.Proofs.YtkmoihkpaccbdaaDoor
