import Derived.Test.YtckajeippfpojaaGreatZrDropI
import Derived.Deep.Cut
namespace Go.Proofs.YtckajeippfpojaaGreat
open Go.RowKit Go.Maps
end Go.Proofs.YtckajeippfpojaaGreat
