import Derived.Test.YtckajeippfpojaaGreatZrOrd
import Derived.Test.YtckajeippfpojaaGreatZrOutIf
namespace Go.Proofs.YtckajeippfpojaaGreat
open Go.RowKit Go.Maps
end Go.Proofs.YtckajeippfpojaaGreat
