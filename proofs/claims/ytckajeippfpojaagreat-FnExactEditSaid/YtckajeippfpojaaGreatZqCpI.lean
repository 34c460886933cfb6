import Derived.Test.YtckajeippfpojaaGreatZqCpT
import Derived.Test.YtckajeippfpojaaGreatZqGB
import Derived.Deep.RegionLaw
import Derived.Deep.CutRange
namespace Go.Proofs.YtckajeippfpojaaGreat
open Go.RowKit Go.Maps
end Go.Proofs.YtckajeippfpojaaGreat
