import Derived.Test.YtolokangldmodaaGreatDoorDec2
import Derived.BigQuiet
open Go Go.Proofs.YtolokangldmodaaGreatDoor
variable {w:World} {P:Program} {args:Array Value} {v:Value}
namespace Go.Proofs.YtolokangldmodaaGreatDoor
open Go.RowKit
structure Later (w:World) where
 val:World
 below:Bw w val
theorem Later.some(w:World):Nonempty (Later w):=⟨⟨w,Below.refl _ _⟩⟩
theorem Later.cell(x:Later w)(b o:Nat)(h:b<w.heap.size):x.val.cell? ⟨b,o,none⟩=w.cell? ⟨b,o,none⟩:=x.below.cell (p:=⟨b,o,none⟩) h
theorem Later.frozen(x:Later w)(b o:Nat)(h:b<w.heap.size):x.val.frozen? ⟨b,o,none⟩=w.frozen? ⟨b,o,none⟩:=x.below.frozen (p:=⟨b,o,none⟩) h
theorem ar{id:Nat}{Q:Exit->Act->World->Prop}{a:Act}{l:List Oper}(h:wpQuiet P l.toArray (λw'=>∃x:Later w,w'=x.val) (λa'=>∀w',(∃x:Later w,w'=x.val)->Q .normal a' w') l a)(hm:P.follows .mixedOrders=true:=by kernel_rfl)(hB:Region.lexB .any l.toArray=true:=by kernel_rfl):(Code.region id l.toArray true).wp P Q a w :=
 wp_region_quiet (C:=λw'=>∃x:Later w,w'=x.val) hm hB ⟨⟨_,(Below.refl _ _).drew⟩,rfl⟩ (by simpa using h)
theorem Calls.later{f:FuncId}{x:Later w}(h:Calls P f args x.val λe w'=>e=.returned v/\Below x.val.heap.size x.val w'):Calls P f args x.val λe ab=>e=.returned v/\∃y:Later w,ab=y.val :=
 h.mono λ_ _ ⟨he,hb⟩=>⟨he,⟨_,aa x.below hb⟩,rfl⟩
theorem Calls.Cy{f:FuncId}{x:Later w}(h:Calls P f args x.val λe w'=>e=.returned v/\w'=x.val):Calls P f args x.val λe ab=>e=.returned v/\∃y:Later w,ab=y.val :=
 h.mono λ_ _ ⟨he,hb⟩=>⟨he,x,hb⟩
end Go.Proofs.YtolokangldmodaaGreatDoor
