/-
  The program's TreeOk.
-/
import Derived.Test.YtndcnomgaoadeaaRdTr
namespace Go.Proofs.Ytndcnomgaoadeaa
open Go.RowKit Go.Maps

end Go.Proofs.Ytndcnomgaoadeaa
