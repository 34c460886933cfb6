import Derived.Test.YtckajeippfpojaaGreatZrCmp
import Derived.Sort.Grow
import Derived.Test.YtckajeippfpojaaGreatZrOrd
import Derived.Shelf.SlSortCmp.Insertion
import Derived.Test.YtckajeippfpojaaGreatZrRdTr
import Derived.Shelf.GgSortFunc.InsertionK
import Derived.Test.YtckajeippfpojaaGreatZrSrf
import Derived.Shelf.SlSortCmp.WholeK
namespace Go.Proofs.YtckajeippfpojaaGreat
open Go.RowKit Go.Maps
end Go.Proofs.YtckajeippfpojaaGreat
