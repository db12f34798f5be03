import Derived.Test.YtbjmgglpiakgdaaGreatDoorMap2
import Derived.Test.YtbjmgglpiakgdaaGreatDoorCbase
import Derived.Deep.AppendLies
namespace Go.Proofs.YtbjmgglpiakgdaaGreatDoor
open Go.RowKit
set_option linter.unusedSimpArgs false
set_option linter.unusedVariables false
abbrev KeyP:=ByteArray × Int
def keyRow (p:KeyP):List Value:=[.string p.1,.int .i64 p.2]
def keyRows (l:List KeyP):List Value:=l.flatMap keyRow
def FitP (p:KeyP):Prop:=p.1.size≤maxLen∧(Lit.int .i64 p.2).wf=true
def CollK (D:DataW Unit) (left:Lit→Bool) (ss:List KeyP):Prop:=ss.Nodup∧(∀ p ∈ ss,FitP p)∧∀ p:KeyP,FitP p→(p ∈ ss ↔ (Maps.has D (klK p.1 p.2)=true∧left (klK p.1 p.2)=false))
theorem CollK.start (D:DataW Unit):CollK D (Maps.has D) []:=⟨List.nodup_nil,(fun p h=>by cases h),(fun p _=>by cases Maps.has D (klK p.1 p.2) <;> simp)⟩
theorem kl_same {p q:KeyP} (hp:FitP p) (hq:FitP q):(klK p.1 p.2).sameKey (klK q.1 q.2)=decide (p=q):=by
 by_cases h:p=q
 ·subst h
  rw [WideAt.sameKey_self (keyedK.key (keyOf_K hp.1 hp.2))]; simp
 ·have hne:klK p.1 p.2 ≠ klK q.1 q.2:=fun e=>h (by
   obtain ⟨e1,e2⟩:=klK_inj hp.1 hp.2 hq.1 hq.2 e
   exact Prod.ext e1 e2)
  rw [Maps.sameKey_ne hne]; simp [h]
theorem CollK.step {D:DataW Unit} {left:Lit→Bool} {ss:List KeyP} (h:CollK D left ss) {p:KeyP} (hp:FitP p) (hl:left (klK p.1 p.2)=true) (hh:Maps.has D (klK p.1 p.2)=true):CollK D (fun z=>left z && !z.sameKey (klK p.1 p.2)) (ss ++ [p]):=by
 obtain ⟨h1,h2,h3⟩:=h
 have hno:p ∉ ss:=fun hm=>by have:=((h3 p hp).1 hm).2; rw [hl] at this; cases this
 refine ⟨?_,?_,fun q hq=>?_⟩
 ·rw [List.nodup_append]; exact ⟨h1,by simp,fun a ha b hb=>by simp at hb; subst hb; exact fun e=>hno (e ▸ ha)⟩
 ·intro q hq
  rcases List.mem_append.1 hq with hq | hq
  ·exact h2 q hq
  ·simp at hq; subst hq; exact hp
 ·rw [List.mem_append,h3 q hq]
  show _ ↔ _∧(left (klK q.1 q.2) && !(klK q.1 q.2).sameKey (klK p.1 p.2))=false
  rw [kl_same hq hp]
  by_cases e:q=p
  ·subst e; simp [hh]
  ·simp [e]
theorem cell_two_new (w:World) (a b:Value) (t:TypeId):∀ j u,[a,b][j]?=some u→(w.alloc (.cells #[a,b] t)).cell? ((⟨w.heap.size,0,none⟩:Addr).add j)=some u:=by
 intro j u h
 match j,h with
 | 0,h=>simp at h; subst h; simp [Addr.add]
 | 1,h=>simp at h; subst h; simp [Addr.add]
 | n+2,h=>simp at h
end Go.Proofs.YtbjmgglpiakgdaaGreatDoor
