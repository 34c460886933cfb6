import Derived.Shelf.SlLaysF0
import Derived.Ground.SlsfProg
import Derived.Test.YtckajeippfpojaaGreatProg
namespace Go.Proofs.YtckajeippfpojaaGreat
open Go.Shelf
end Go.Proofs.YtckajeippfpojaaGreat
