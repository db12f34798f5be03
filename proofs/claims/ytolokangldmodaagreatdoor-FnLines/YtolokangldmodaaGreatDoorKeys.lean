import Derived.Test.YtolokangldmodaaGreatDoorMap2
import Derived.Test.YtolokangldmodaaGreatDoorCbase2
namespace Go.Proofs.YtolokangldmodaaGreatDoor
open Go.RowKit
set_option linter.unusedSimpArgs false
set_option linter.unusedVariables false
abbrev kL:=ByteArray×Int
def keyV(p:kL):Value:=.agg #[.string p.1,.int .i64 p.2]
def iU(p:kL):List Value:=[.string p.1,.int .i64 p.2]
def gL(l:List kL):List Value:=l.flatMap iU
theorem Ie(l:List kL)(t:kL):gL (l++[t])=gL l++iU t:=by simp[gL]
theorem infoKey:(Tryz.prog.info? 299).map (λi=>(i.zero,i.size,i.bytes))=some (some (.agg #[.string ByteArray.empty,.int .i64 0]),2,24):=by kernel_rfl
def IK(p:kL):Prop:=p.1.size<=maxLen/\(Lit.int .i64 p.2).wf=true
def xN(D:DataW Unit)(left:Lit->Bool)(ss:List kL):Prop:=ss.Nodup/\(∀p∈ss,IK p)/\∀p:kL,IK p->(p∈ss↔(Maps.has D (Ac p.1 p.2)=true/\left (Ac p.1 p.2)=false))
theorem xN.start(D:DataW Unit):xN D (Maps.has D) []:=⟨List.nodup_nil,(λp h=>by cases h),(λp _=>by cases Maps.has D (Ac p.1 p.2)<;>simp)⟩
theorem kl_same{p q:kL}(hp:IK p)(hq:IK q):(Ac p.1 p.2).sameKey (Ac q.1 q.2)=decide (p=q):=by
 by_cases h:p=q
 .subst h
  rw[WideAt.sameKey_self (vg.key (tY hp.1 hp.2))];simp
 .have ad:Ac p.1 p.2≠Ac q.1 q.2:=λe=>h (by
   obtain⟨e1,e2⟩:=O1 hp.1 hp.2 hq.1 hq.2 e
   exact Prod.ext e1 e2)
  rw[Maps.sameKey_ne ad];simp[h]
theorem xN.step{D:DataW Unit}{left:Lit->Bool}{ss:List kL}(h:xN D left ss){p:kL}(hp:IK p)(hl:left (Ac p.1 p.2)=true)(hh:Maps.has D (Ac p.1 p.2)=true):xN D (λz=>left z&&!z.sameKey (Ac p.1 p.2)) (ss++[p]):=by
 obtain⟨h1,h2,h3⟩:=h
 have ab:p ∉ ss:=λhm=>by have:=((h3 p hp).1 hm).2;rw[hl] at this;cases this
 refine⟨?_,?_,λq hq=>?_⟩
 .rw [List.nodup_append];exact⟨h1,by simp,λa ha b hb=>by simp at hb;subst hb;exact λe=>ab (e▸ha)⟩
 .intro q hq
  rcases List.mem_append.1 hq with hq|hq
  .exact h2 q hq
  .simp at hq;subst hq;exact hp
 .rw [List.mem_append,h3 q hq]
  show _↔_/\(left (Ac q.1 q.2)&&!(Ac q.1 q.2).sameKey (Ac p.1 p.2))=false
  rw[kl_same hq hp]
  by_cases e:q=p
  .subst e;simp[hh]
  .simp [e]
theorem U7(v:Value)(y:DataW Unit×List MemPlace)(h:RF v=some y):∃f:eT,v=.agg #[.int .i64 f.what,.int .i64 f.num,.string f.v]:=by
 cases v
 case agg cs =>
  have h':RFL cs.toList=some y:=h;unfold RFL at h'
  split at h'
  .rename_i a b s e
   exact⟨⟨a,b,s⟩,by rw[<-Array.toArray_toList (xs:=cs),e]⟩
  .cases h'
 all_goals cases h
theorem size_le{w:World}{b n:Nat}{D:DataW Unit}(h:w.ownsMap Tryz.prog 299 RF b n D):Maps.size D<=n:=by
 obtain⟨es,clock,_,_,hs,rfl⟩:=h;rw[Maps.size_eq,length_sorted]
 simpa using hs
theorem cell_two_new(w:World)(a b:Value)(t:TypeId):∀j u,[a,b][j]?=some u->(w.alloc (.cells #[a,b] t)).cell? ((⟨w.heap.size,0,none⟩:Addr).add j)=some u:=by
 intro j u h
 match j,h with
 |0,h=>simp at h;subst h;simp[Addr.add]
 |1,h=>simp at h;subst h;simp[Addr.add]
 |n+2,h=>simp at h
theorem Bp{w:World}{b r n cnt:Nat}{D:DataW Unit}{left:Lit->Bool}{base:Nat}{e:TypeId}{size:Nat}{v:Value}{m:Nat}{xs:List Value}(h:w.ranges Tryz.prog 299 RF b r n D left cnt)(ho:w.ownsRow base e size v m xs):∀k,v.ownBlock=some k->some k≠some r/\some k≠some b:=by
 obtain⟨es,clock,since,seen,c0,hb,_,_,_,hr,_⟩:=h;intro k hk
 rcases ho.2 with⟨rfl,_⟩|⟨g,cap,cur,rfl,_,hc,_⟩
 .cases hk
 .cases hk
  refine⟨λe=>?_,λe=>?_⟩
  .injection e with e;subst e;rw[hc] at hr;cases hr
  .injection e with e;subst e;rw[hc] at hb;cases hb
end Go.Proofs.YtolokangldmodaaGreatDoor
