/-
  TreeOk: the model's and the program's.
-/
import Derived.Test.YtnejbggbkjgfeaaTreeOkI
import Derived.Test.YtnejbggbkjgfeaaTreeOkS
namespace Go.Proofs.Ytnejbggbkjgfeaa
end Go.Proofs.Ytnejbggbkjgfeaa
