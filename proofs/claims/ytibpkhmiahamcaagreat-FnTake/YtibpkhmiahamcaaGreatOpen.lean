
/-
 What the form reads of a base (a struct of two slices of structs) is a list of kinds and a list of points that lie in memory.
-/
import Derived.Test.YtibpkhmiahamcaaGreatTri
import Derived.ProofKit
import Derived.OpenShut
import Derived.ChangeOld
import Derived.Lib.SmallJoins
import Derived.Deep.Slices
import Derived.Deep.Strs
import Derived.Deep.MidRow
namespace Go.Proofs.YtibpkhmiahamcaaGreat
open Go.ChangeShapes Go.WideShapes Go.ChangeAt Go.RowKit Go.Deep

end Go.Proofs.YtibpkhmiahamcaaGreat
