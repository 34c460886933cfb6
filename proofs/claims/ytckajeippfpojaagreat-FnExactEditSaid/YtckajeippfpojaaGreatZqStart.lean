import Derived.Test.YtckajeippfpojaaGreatZqTreeOkI
import Derived.Lib.ConvBytes
namespace Go.Proofs.YtckajeippfpojaaGreat
open Go.RowKit Go.Maps
end Go.Proofs.YtckajeippfpojaaGreat
