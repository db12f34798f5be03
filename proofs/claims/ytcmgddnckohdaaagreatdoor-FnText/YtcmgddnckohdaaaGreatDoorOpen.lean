import Derived.Test.YtcmgddnckohdaaaGreatDoorDec2
import Derived.Lib.SmallJoins
import Derived.Deep.MidRow
namespace Go.Proofs.YtcmgddnckohdaaaGreatDoor
open Go.ChangeShapes Go.WideShapes Go.ChangeAt Go.RowKit Go.Deep
end Go.Proofs.YtcmgddnckohdaaaGreatDoor
