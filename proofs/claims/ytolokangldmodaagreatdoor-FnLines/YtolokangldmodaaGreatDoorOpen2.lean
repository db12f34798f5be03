import Derived.Test.YtolokangldmodaaGreatDoorOpen
import Derived.Test.YtolokangldmodaaGreatDoorSame
namespace Go.Proofs.YtolokangldmodaaGreatDoor
open Go.ChangeShapes Go.WideShapes Go.ChangeAt Go.RowKit Go.Deep Go.Joins
theorem Nb{α:Type}{H:Type}{enc:TypeId×Value->H}{P:Program}{w:World}{base:Nat}{spare:Nat->Bool}{held:Bool}{fuel:Nat}{t e:TypeId}{v:Value}{x:DataW H×List MemPlace}{c:Nat}(ht:P.underlying t=some (.slice e))(hC:P.cellsOf e=c)(hc0:0<c)(R:Nat->Nat->α->Prop)(each:∀(n b off:Nat) (cs:List Value) (y:DataW H×List MemPlace),cs.length=c->(∀j v,cs[j]?=some v->w.cell? ⟨b,off+j,none⟩=some v)->DataW.trod enc P w base spare held n e cs=some y->∃a:α,R b off a)(h:DataW.trod enc P w base spare held fuel t [v]=some x) :
  ∃l:List α,∃ad cap,v=.slice ad l.length cap/\l.length<=cap/\cap<=maxLen/\∀i t,l[i]?=some t->∃b off,ad=some ⟨b,off,none⟩/\R b (off+i*c) t:=by
 rcases open_slice ht h with⟨h0,_⟩|⟨a,len,cap,m,n,D,Pl,hv,_,hl,hm,hmm,_,hx⟩
 .cases h0
  exact⟨[],none,0,rfl,Nat.le_refl _,Nat.zero_le _,λi t ht=>by simp at ht⟩
 .cases hv
  have hlm:len<=m:=by rw[hmm];split<;>omega
  have each':∀i,i<len->∃t:α,∃b off,a=⟨b,off,none⟩/\R b (off+i*c) t:=λi hi=>by
   obtain⟨cs,h1,h2⟩:=hx i (by omega)
   rw[hC] at h1;obtain⟨_,hlen,hcell⟩:=World.cells?_some h1
   have hspot:a.spot=none:=by
    obtain⟨cs0,g1,_⟩:=hx 0 (by omega)
    rw[hC] at g1;obtain⟨_,glen,gcell⟩:=World.cells?_some g1
    have p0:=(gcell 0 (by omega)).trans (List.getElem?_eq_getElem (show 0<cs0.length by omega))
    simpa[Addr.add] using World.cell?_spot p0
   obtain⟨b,off,spot⟩:=a
   simp only at hspot
   subst hspot
   obtain⟨t,ht⟩:=each n b (off+i*c) cs _ hlen (λj v hv=>by
    have hj:j<cs.length:=(List.getElem?_eq_some_iff.1 hv).1
    have pj:=hcell j (by omega)
    rw[Addr.add_mid,Addr.add_mid] at pj
    exact pj.trans hv) h2
   exact⟨t,b,off,rfl,ht⟩
  have pick:=λi:Fin len=>each' i.1 i.2
  let F:Fin len->α:=λi=>Classical.choose (pick i)
  have hF:∀i:Fin len,_:=λi=>Classical.choose_spec (pick i)
  refine⟨List.ofFn F,some a,cap,by simp,by simpa using hl,hm,λi t ht=>?_⟩
  have hi:i<len:=by
   have:=(List.getElem?_eq_some_iff.1 ht).1
   simpa using this
  have e:t=F ⟨i,hi⟩:=by
   rw[List.getElem?_eq_some_iff] at ht;obtain⟨_,h⟩:=ht
   simpa using h.symm
  obtain⟨b,off,ha,hr⟩:=hF ⟨i,hi⟩
  exact⟨b,off,by rw[ha],by rw[e];exact hr⟩
section
variable {H:Type} {enc:TypeId×Value->H} {P:Program} {w:World} {base:Nat} {spare:Nat->Bool} {held:Bool}
end
end Go.Proofs.YtolokangldmodaaGreatDoor
