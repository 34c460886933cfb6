/-
  Copies: the model's and the program's.
-/
import Derived.Test.YtnejbggbkjgfeaaNamesS
namespace Go.Proofs.Ytnejbggbkjgfeaa
end Go.Proofs.Ytnejbggbkjgfeaa
