import Derived.Test.YtckajeippfpojaaGreatZqRdTr
namespace Go.Proofs.YtckajeippfpojaaGreat
open Go.RowKit Go.Maps
end Go.Proofs.YtckajeippfpojaaGreat
