import Derived.Test.YtckajeippfpojaaGreatZrGOw
import Derived.Test.YtckajeippfpojaaGreatZrGB
namespace Go.Proofs.YtckajeippfpojaaGreat
open Go.RowKit Go.Maps
end Go.Proofs.YtckajeippfpojaaGreat
