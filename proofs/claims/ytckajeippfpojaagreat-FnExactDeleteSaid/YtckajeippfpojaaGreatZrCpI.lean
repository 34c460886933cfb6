import Derived.Test.YtckajeippfpojaaGreatZrCpT
import Derived.Test.YtckajeippfpojaaGreatZrGB
import Derived.Deep.RegionLaw
import Derived.Deep.CutRange
namespace Go.Proofs.YtckajeippfpojaaGreat
open Go.RowKit Go.Maps
end Go.Proofs.YtckajeippfpojaaGreat
