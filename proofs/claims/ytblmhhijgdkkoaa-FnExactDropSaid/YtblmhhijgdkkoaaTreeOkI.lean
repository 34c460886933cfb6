/-
  The program's TreeOk.
-/
import Derived.Test.YtblmhhijgdkkoaaRdTr
namespace Go.Proofs.Ytblmhhijgdkkoaa
open Go.RowKit Go.Maps

end Go.Proofs.Ytblmhhijgdkkoaa
