/-
  Writers: the model's and the program's.
-/
import Derived.Test.YtnejbggbkjgfeaaNamedS
namespace Go.Proofs.Ytnejbggbkjgfeaa
end Go.Proofs.Ytnejbggbkjgfeaa
