import Derived.Test.YtcmgddnckohdaaaGreatDoorMap2
import Derived.Test.YtcmgddnckohdaaaGreatDoorCbase
import Derived.Deep.AppendLies
namespace Go.Proofs.YtcmgddnckohdaaaGreatDoor
open Go.RowKit
set_option linter.unusedSimpArgs false
set_option linter.unusedVariables false
abbrev jl:=ByteArray×Int
def keyV (p:jl):Value:=.agg #[.string p.1,.int .i64 p.2]
def gW (p:jl):List Value:=[.string p.1,.int .i64 p.2]
def fT (l:List jl):List Value:=l.flatMap gW
theorem Ca (l:List jl) (t:jl):fT (l++[t])=fT l++gW t:=by simp [fT]
theorem infoKey:(Tryz.prog.info? 295).map (fun i=>(i.zero,i.size,i.bytes))=some (some (.agg #[.string ByteArray.empty,.int .i64 0]),2,24):=by kernel_rfl
def CK (p:jl):Prop:=p.1.size≤maxLen∧(Lit.int .i64 p.2).wf=true
def tX (D:DataW Unit) (left:Lit→Bool) (ss:List jl):Prop:=ss.Nodup∧(∀ p∈ss,CK p)∧∀ p:jl,CK p→(p∈ss ↔ (Maps.has D (vR p.1 p.2)=true∧left (vR p.1 p.2)=false))
theorem tX.start (D:DataW Unit):tX D (Maps.has D) []:=⟨List.nodup_nil,(fun p h=>by cases h),(fun p _=>by cases Maps.has D (vR p.1 p.2) <;> simp)⟩
theorem kl_same {p q:jl} (hp:CK p) (hq:CK q):(vR p.1 p.2).sameKey (vR q.1 q.2)=decide (p=q):=by
 by_cases h:p=q
 ·subst h
  rw [WideAt.sameKey_self (qX.key (pF hp.1 hp.2))];simp
 ·have hne:vR p.1 p.2≠vR q.1 q.2:=fun e=>h (by
   obtain ⟨e1,e2⟩:=Ir hp.1 hp.2 hq.1 hq.2 e
   exact Prod.ext e1 e2)
  rw [Maps.sameKey_ne hne];simp [h]
theorem tX.step {D:DataW Unit} {left:Lit→Bool} {ss:List jl} (h:tX D left ss) {p:jl} (hp:CK p) (hl:left (vR p.1 p.2)=true) (hh:Maps.has D (vR p.1 p.2)=true):tX D (fun z=>left z&&!z.sameKey (vR p.1 p.2)) (ss++[p]):=by
 obtain ⟨h1,h2,h3⟩:=h
 have hno:p ∉ ss:=fun hm=>by have:=((h3 p hp).1 hm).2;rw [hl] at this;cases this
 refine ⟨?_,?_,fun q hq=>?_⟩
 ·rw [List.nodup_append];exact ⟨h1,by simp,fun a ha b hb=>by simp at hb;subst hb;exact fun e=>hno (e ▸ ha)⟩
 ·intro q hq
  rcases List.mem_append.1 hq with hq | hq
  ·exact h2 q hq
  ·simp at hq;subst hq;exact hp
 ·rw [List.mem_append,h3 q hq]
  show _ ↔ _∧(left (vR q.1 q.2)&&!(vR q.1 q.2).sameKey (vR p.1 p.2))=false
  rw [kl_same hq hp]
  by_cases e:q=p
  ·subst e;simp [hh]
  ·simp [e]
theorem MJ (v:Value) (y:DataW Unit×List MemPlace) (h:RF v=some y):∃ f:fI,v=.agg #[.int .i64 f.what,.int .i64 f.num,.string f.v]:=by
 cases v
 case agg cs =>
  have h':RFL cs.toList=some y:=h;unfold RFL at h'
  split at h'
  ·rename_i a b s e
   exact ⟨⟨a,b,s⟩,by rw [← Array.toArray_toList (xs:=cs),e]⟩
  ·cases h'
 all_goals cases h
theorem size_le {w:World} {b n:Nat} {D:DataW Unit} (h:w.ownsMap Tryz.prog 295 RF b n D):Maps.size D≤n:=by
 obtain ⟨es,clock,_,_,hs,rfl⟩:=h;rw [Maps.size_eq,length_sorted]
 simpa using hs
theorem cell_two_new (w:World) (a b:Value) (t:TypeId):∀ j u,[a,b][j]?=some u→(w.alloc (.cells #[a,b] t)).cell? ((⟨w.heap.size,0,none⟩:Addr).add j)=some u:=by
 intro j u h
 match j,h with
 | 0,h=>simp at h;subst h;simp [Addr.add]
 | 1,h=>simp at h;subst h;simp [Addr.add]
 | n+2,h=>simp at h
theorem xm {w:World} {b r n cnt:Nat} {D:DataW Unit} {left:Lit→Bool} {base:Nat} {e:TypeId} {size:Nat} {v:Value} {m:Nat} {xs:List Value} (h:w.ranges Tryz.prog 295 RF b r n D left cnt) (ho:w.ownsRow base e size v m xs):∀ k,v.ownBlock=some k→some k≠some r∧some k≠some b:=by
 obtain ⟨es,clock,since,seen,c0,hb,_,_,_,hr,_⟩:=h;intro k hk
 rcases ho.2 with ⟨rfl,_⟩ | ⟨g,cap,cur,rfl,_,hc,_⟩
 ·cases hk
 ·cases hk
  refine ⟨fun e=>?_,fun e=>?_⟩
  ·injection e with e;subst e;rw [hc] at hr;cases hr
  ·injection e with e;subst e;rw [hc] at hb;cases hb
end Go.Proofs.YtcmgddnckohdaaaGreatDoor
