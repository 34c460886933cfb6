/-
  The program's TreeOk.
-/
import Derived.Test.YtgomdjhfdnbmdaaRdTr
namespace Go.Proofs.Ytgomdjhfdnbmdaa
open Go.RowKit Go.Maps

end Go.Proofs.Ytgomdjhfdnbmdaa
