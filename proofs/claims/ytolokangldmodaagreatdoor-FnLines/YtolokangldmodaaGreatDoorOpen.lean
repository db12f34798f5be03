import Derived.Test.YtolokangldmodaaGreatDoorDec2
import Derived.Lib.SmallJoins
import Derived.Deep.MidRow
namespace Go.Proofs.YtolokangldmodaaGreatDoor
open Go.ChangeShapes Go.WideShapes Go.ChangeAt Go.RowKit Go.Deep
end Go.Proofs.YtolokangldmodaaGreatDoor
