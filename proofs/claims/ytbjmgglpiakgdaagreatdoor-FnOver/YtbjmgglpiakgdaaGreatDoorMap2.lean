import Derived.Test.YtbjmgglpiakgdaaGreatDoorMap1
import Derived.Sort.KeysCollected
namespace Go.Proofs.YtbjmgglpiakgdaaGreatDoor
open Go.RowKit
theorem MapIs.has {D:DataW Unit} {S:List Chg} (h:∀ k:Chg,KeyFit k→∀ z,D.atKey (klK k.f k.what) z=match S.find? fun a=>keyEq a k with | some a=>fldD (fldC a) | none=>z) (k:Chg) (hk:KeyFit k):Maps.has D (klK k.f k.what)=S.any fun a=>keyEq a k:=by
 cases hf:S.find? fun a=>keyEq a k with
 | none =>
  rw [Maps.has_false_of_atKey (fun z=>by rw [h k hk z,hf])]
  rw [List.find?_eq_none] at hf
  exact (List.any_eq_false.2 (fun a ha=>by simpa using hf a ha)).symm
 | some a =>
  rw [Maps.has_true_of_atKey (y:=fldD (fldC a)) (fun z=>by rw [h k hk z,hf])]
  exact (List.any_eq_true.2 ⟨a,List.mem_of_find?_eq_some hf,List.find?_some (p:=fun a=>keyEq a k) hf⟩).symm
end Go.Proofs.YtbjmgglpiakgdaaGreatDoor
