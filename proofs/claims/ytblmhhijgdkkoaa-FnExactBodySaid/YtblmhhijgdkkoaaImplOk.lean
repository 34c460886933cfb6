/-
  The program's LedgerOk.
-/
import Derived.Test.YtblmhhijgdkkoaaImplLedger
namespace Go.Proofs.Ytblmhhijgdkkoaa
open Go.RowKit Go.Maps

end Go.Proofs.Ytblmhhijgdkkoaa
