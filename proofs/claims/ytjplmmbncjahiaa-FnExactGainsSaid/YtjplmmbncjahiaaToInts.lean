/-
  The law's copy of a list of numbers.
-/
import Derived.Test.YtjplmmbncjahiaaPick
import Derived.Test.YtjplmmbncjahiaaInt
namespace Go.Proofs.Ytjplmmbncjahiaa
open Go.RowKit Go.Maps

end Go.Proofs.Ytjplmmbncjahiaa
