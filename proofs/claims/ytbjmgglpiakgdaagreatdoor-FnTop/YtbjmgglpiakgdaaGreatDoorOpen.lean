import Derived.Test.YtbjmgglpiakgdaaGreatDoorDec2
import Derived.Lib.SmallJoins
import Derived.Deep.MidRow
namespace Go.Proofs.YtbjmgglpiakgdaaGreatDoor
open Go.ChangeShapes Go.WideShapes Go.ChangeAt Go.RowKit Go.Deep
end Go.Proofs.YtbjmgglpiakgdaaGreatDoor
