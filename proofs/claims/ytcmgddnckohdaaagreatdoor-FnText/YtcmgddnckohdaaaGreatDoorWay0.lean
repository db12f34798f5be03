import Derived.WalkKit
namespace Go.Proofs.YtcmgddnckohdaaaGreatDoor
open Go.RowKit
set_option linter.unusedVariables false
end Go.Proofs.YtcmgddnckohdaaaGreatDoor
