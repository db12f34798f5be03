import Derived.Test.YtbjmgglpiakgdaaGreatDoorCbase
import Derived.Deep.AppendLies
namespace Go.Proofs.YtbjmgglpiakgdaaGreatDoor
open Go.RowKit
set_option linter.unusedSimpArgs false
set_option linter.unusedVariables false
theorem grown_rowF (w:World) (g:Nat) (cs:Array Value):w.grownBy (w.setRow g cs) (some g):=⟨rfl,rfl,rfl,by simp,fun k _ hk=>setRow_other _ _ _ _ (fun e=>hk (by rw [e]))⟩
end Go.Proofs.YtbjmgglpiakgdaaGreatDoor
