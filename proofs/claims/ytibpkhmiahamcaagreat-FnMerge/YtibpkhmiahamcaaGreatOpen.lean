import Derived.Test.YtibpkhmiahamcaaGreatDec2
import Derived.Lib.SmallJoins
import Derived.Deep.MidRow
namespace Go.Proofs.YtibpkhmiahamcaaGreat
open Go.ChangeShapes Go.WideShapes Go.ChangeAt Go.RowKit Go.Deep
end Go.Proofs.YtibpkhmiahamcaaGreat
