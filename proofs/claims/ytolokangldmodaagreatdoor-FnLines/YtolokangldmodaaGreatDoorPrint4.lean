import Derived.Test.YtolokangldmodaaGreatDoorRead1
import Derived.Test.YtolokangldmodaaGreatDoorBook7
import Derived.Test.YtolokangldmodaaGreatDoorBuild0
import Derived.Deep.AppendLies
set_option maxRecDepth 100000
set_option maxHeartbeats 12800000
set_option linter.unusedSimpArgs false
set_option linter.unusedVariables false
open Go.Value renaming int->I,string->AE,slice->AG
open Go.Obj renaming cells->AH
open Option renaming none->AF,some->AD
open Go.IntKind renaming i64->U
open Go.World renaming cell?->AN
open List renaming append_assoc->AO,length_append->AS,take_of_length_le->AW,take_append_drop->Aj,map_append->An,take_succ_eq_append_getElem->As,mem_of_getElem?->Aw,append_nil->AI,length_singleton->AJ
open Bool renaming and_eq_true->AT
open Nat renaming zero_le->At
open Go Go.Proofs.YtolokangldmodaaGreatDoor
variable {word out:ByteArray} {t:dE} {w:World} {v:Value} {l:List ByteArray} {ks ps:List dE} {es:List eF}
open Go.Proofs.Tryz
namespace Go.Proofs.YtolokangldmodaaGreatDoor
open Go.RowKit
attribute [local go_sem] Later.cell Later.frozen
def jH:ByteArray:=⟨#[112,111,105,110,116]⟩
def OH:ByteArray:=⟨#[10]⟩
def ed(word:ByteArray)(t:dE):ByteArray:=cat (cat (cat (cat (cat (cat word mD) t.s) mD) (dL t.x.toNat)) mD) (dL t.y.toNat)
structure Pv (word:ByteArray) (t:dE):Prop where
 a0:Small word
 a1:Small mD
 a2:Small (cat word mD)
 a3:Small t.s
 a4:Small (cat (cat word mD) t.s)
 a5:Small (cat (cat (cat word mD) t.s) mD)
 a6:Small (dL t.x.toNat)
 a7:Small (cat (cat (cat (cat word mD) t.s) mD) (dL t.x.toNat))
 a8:Small (cat (cat (cat (cat (cat word mD) t.s) mD) (dL t.x.toNat)) mD)
 a9:Small (dL t.y.toNat)
theorem qm(hw:word.size<=5)(hx:t.x.toNat<10000000)(hy:t.y.toNat<10000000):(ed word t).size<=t.s.size+22:=by
 have h2:mD.size=1:=rfl;have h3:=aR t.x.toNat hx;have h4:=aR t.y.toNat hy;unfold ed
 simp only[aU]
 omega
theorem Pv.of(hw:word.size<=5)(hs:t.s.size<=1048576)(hx:t.x.toNat<10000000)(hy:t.y.toNat<10000000):Pv word t:=by
 have h2:mD.size=1:=rfl;have h3:=aR t.x.toNat hx;have h4:=aR t.y.toNat hy
 constructor<;>unfold Small<;>(try simp only[aU])<;>omega
def qK(w:World)(v:Value)(l:List ByteArray):Prop :=
 ∃a cap,v=AG a l.length cap/\l.length<=cap/\cap<=maxLen/\∀i s,l[i]?=AD s->∃g off,a=AD ⟨g,off,AF⟩/\w.cell? ⟨g,off+i,AF⟩=AD (AE s)
theorem qK.keep{w':World}(h:qK w v l)(hb:Bw w w'):qK w' v l:=by
 obtain⟨a,cap,rfl,h1,h2,h3⟩:=h;refine⟨a,cap,rfl,h1,h2,λi s hs=>?_⟩;obtain⟨g,off,ha,hc⟩:=h3 i s hs;exact⟨g,off,ha,ac hb aE hc⟩
theorem p8{base:Nat}{e:TypeId}{ws:List ByteArray}(h:w.ownsRow base e 1 v ws.length (ws.map AE)):qK w v ws:=by
 by_cases ax:ws=[]
 .subst ax
  rcases h.2 with⟨rfl,h0⟩|⟨g,cap,cur,rfl,_,hb,hn,hc,_,ht⟩
  .exact ⟨AF,0,rfl,Nat.le_refl _,At _,λi s hs=>by simp at hs⟩
  .exact ⟨_,cap,rfl,hn,hc,λi s hs=>by simp at hs⟩
 .obtain ⟨g,off,cap,rfl,h1,h2,h3⟩:=bq h ax
  exact⟨_,cap,rfl,h1,h2,λi s hs=>⟨g,off,rfl,h3 i s hs⟩⟩
def joinL:List ByteArray->List UInt8
 |[]=>[]
 |s::r=>(bytes s++[10])++joinL r
theorem bI(a b:List ByteArray):joinL (a++b)=joinL a++joinL b:=by
 induction a with
 |nil=>rfl
 |cons x a ih=>simp only[List.cons_append,joinL,ih,AO]
theorem CO{k:Nat}(h:k<l.length):joinL (l.take (k+1))=joinL (l.take k)++(bytes (dC l k)++[10]):=by
 rw[As h,bI]
 have:dC l k=l[k]:=by simp[dC,h]
 rw[this]
 simp[joinL]
theorem KP(l:List ByteArray)(k:Nat):(joinL (l.take k)).length<=(joinL l).length:=by
 conv=>rhs;rw[<-Aj k l,bI,AS]
 omega
theorem A8(v:Value)(l:List ByteArray)(w:World)(hv:qK w v l)(hl:(joinL l).length<=70368744177664) :
 Rb 14 #[v] w (AE ⟨(joinL l).toArray⟩):=by
 have HV:Hid (qK w v l):=hv;obtain⟨a,cap,rfl,hlc,du,-⟩:=hv;unfold maxLen at du;have b3:Hid (Lib.IsBuilder 62 5 w.heap.size w.heap.size [] (w.alloc (AH #[.pointer AF,AG AF 0 0] 62))):=Lib.fresh_isBuilder _ _ w
 go_enter func14,ntmps14
 go_wp2
 go_loopw [8] (λi wr=>∃k:Nat,k<=l.length/\i=I U k/\Bw w wr/\Hid (Lib.IsBuilder 62 5 w.heap.size w.heap.size (Lib.byteCells (joinL (l.take k))) wr)) (λi _=>l.length-(intOf i).toNat)
 case atStart=>exact⟨0,At _,rfl,(aG),b3.out⟩
 case round =>
  obtain⟨k,hk,rfl,hb,HI⟩:=hrel
  by_cases ab:k<l.length
  .obtain ⟨_,_,cL,_,_,hc⟩:=HV.out.keep hb
   cases cL
   obtain⟨g,off,rfl,d0⟩:=hc k _ (bp ab)
   have b6:(0:Int)<=(k:Int):=by omega
   have bn:(k:Int)<(l.length:Int):=by omega
   have ca:(joinL (l.take (k+1))).length<=(joinL l).length:=KP l _;rw[CO ab,AS,AS,AJ] at ca;rw[aF] at ca;have HN:Hid (joinL (l.take (k+1))=joinL (l.take k)++(bytes (dC l k)++[10])):=CO ab;generalize dC l k=s at *;generalize joinL (l.take k)=J at *;clear hc;go_wp2_with fail
   refine(qO w.heap.size w.heap.size (Lib.byteCells J) s _ HI.out (by rw[Lib.byteCells_length];omega) hb.size).mono ?_
   rintro e w1⟨rfl,h1,b1⟩;have ay:Bw w w1:=hb.trans b1;go_wp2_with fail
   refine(qO w.heap.size w.heap.size _ OH _ (Or.inr h1) (by rw[AS,Lib.byteCells_length,Lib.strCells_length];have:OH.size=1:=rfl;omega) ay.size).mono ?_
   rintro e w2⟨rfl,h2,b2⟩
   have ad:Hid (Lib.IsBuilder 62 5 w.heap.size w.heap.size (Lib.byteCells (joinL (l.take (k+1)))) w2):=by
    rw[HN.out,Lib.byteCells_append,Lib.byteCells_append];rw[Lib.strCells_eq,Lib.strCells_eq,AO] at h2;exact Or.inr h2
   go_wp2
   exact⟨⟨k+1,by omega,by go_num,ay.trans b2,ad.out⟩,by simp[intOf];omega⟩
  .have ad:Hid (Lib.IsBuilder 62 5 w.heap.size w.heap.size (Lib.byteCells (joinL l)) wr):=by
    have:=HI.out
    rw[AW (by omega)] at this
    exact this
   go_wp2_with fail;refine(Tryz.Builder_String_any w.heap.size w.heap.size (joinL l) _ ad.out hb.size).mono ?_;rintro e w1⟨rfl,b1⟩;go_wp2;go_ret;exact⟨rfl,hb.trans b1⟩
end Go.Proofs.YtolokangldmodaaGreatDoor
namespace Go.Proofs.YtolokangldmodaaGreatDoor
open Go.RowKit
attribute [local go_sem] Later.cell Later.frozen
def kY(ks:List dE):List ByteArray:=ks.map (ed ik)
def kX(ps:List dE):List ByteArray:=ps.map (ed jH)
def lK(cs:List eH):List ByteArray:=cs.map fe
def gy(ks ps:List dE)(cs:List eH):List ByteArray:=kY ks++kX ps++lK cs
theorem qp{α β:Type}(f:α->β)(l:List α)(k:Nat)(x:α)(h:l[k]?=AD x):(l.take (k+1)).map f=(l.take k).map f++[f x]:=by
 obtain⟨hk,rfl⟩:=List.getElem?_eq_some_iff.1 h;rw[As hk,An];rfl
structure oL (t:dE):Prop where
 s:t.s.size<=1048576
 x0:0<=t.x
 x1:t.x<10000000
 y0:0<=t.y
 y1:t.y<10000000
theorem Hm{s:ByteArray}(h:dJ s=true):s.size<=8:=by
 unfold dJ fE at h
 simp at h
 omega
theorem Kg{l:List dE}{m:Nat}(h:fF l m=true):∀i,i<l.length->dJ (at' l i).s=true:=λi hi=>by
 unfold fF at h;rw[AT] at h;have:=bj h.2 i hi;rw[AT] at this;exact this.1
theorem Nv(h:dU ks=true):∀i,i<ks.length->oL (at' ks i):=λi hi=>by
 unfold dU at h;rw[AT] at h;have h1:=Hm (Kg h.1 i hi);have h2:=bj h.2 i hi;unfold gW at h2
 simp at h2
 exact⟨by omega,by omega,by omega,by omega,by omega⟩
theorem JO(h:dI ps=true):∀i,i<ps.length->oL (at' ps i):=λi hi=>by
 unfold dI at h;rw[AT] at h;have h1:=Hm (Kg h.1 i hi);have h2:=bj h.2 i hi;rw[AT] at h2;have h3:=h2.1;unfold fq fE at h3
 simp at h3
 exact⟨by omega,by omega,by omega,by omega,by omega⟩
theorem zM{M:Nat}(h:∀s∈l,s.size+1<=M):(joinL l).length<=l.length*M:=by
 induction l with
 |nil=>simp[joinL]
 |cons a l ih =>
  have h1:=h a (by simp)
  have h2:=ih λs hs=>h s (by simp[hs])
  simp only[joinL,AS,AJ,List.length_cons,List.length_nil,aF]
  rw[Nat.add_mul,Nat.one_mul]
  omega
theorem vR{c:eH}(hf:c.f.size<=1048576)(hv:c.v.size<=1048576):(fe c).size+1<=3000000:=by
 unfold fe
 cases h:jA c
 .show 0+1<=3000000
  omega
 .have hn:fE c.num 1 1000000=true:=by
   unfold jA at h
   simp only[AT] at h
   exact h.2.2.1
  have h1:x8.size=4:=rfl;have h2:mD.size=1:=rfl;have h3:=Je c.what
  have h4:=aR c.num.toNat (by simp[fE] at hn;omega)
  simp only[cond_true,jE,aU]
  omega
theorem N8(h:ic ks ps es):∀c∈dD es,c.f.size<=1048576/\c.v.size<=1048576:=λc hc=>by
 unfold dD at hc;rw[List.mem_flatMap] at hc;obtain⟨e,he,hc⟩:=hc;rw[List.mem_map] at hc;obtain⟨f,hf,rfl⟩:=hc;exact⟨h.n e he,h.v e he f hf⟩
theorem Ki(hw:word.size<=5)(h:oL t):(ed word t).size+1<=3000000:=by
 have h0:=h.x0;have h1:=h.x1;have h2:=h.y0;have h3:=h.y1;have h4:=h.s
 have:=qm (word:=word) (t:=t) hw (by omega) (by omega)
 omega
theorem Tz{l:List dE}(h:t∈l):∃i,i<l.length/\at' l i=t:=by
 obtain⟨i,hi,rfl⟩:=List.getElem_of_mem h
 exact⟨i,hi,by simp[at',hi]⟩
theorem Qt(hk:∀i,i<ks.length->oL (at' ks i))(hp:∀i,i<ps.length->oL (at' ps i))(hs:ic ks ps es):∀s∈gy ks ps (dD es),s.size+1<=3000000:=λs h=>by
 unfold gy at h;rw[List.mem_append,List.mem_append] at h
 rcases h with(h|h)|h
 .obtain ⟨t,ht,rfl⟩:=List.mem_map.1 h
  obtain⟨i,hi,rfl⟩:=Tz ht
  exact Ki (by decide) (hk i hi)
 .obtain ⟨t,ht,rfl⟩:=List.mem_map.1 h
  obtain⟨i,hi,rfl⟩:=Tz ht
  exact Ki (by decide) (hp i hi)
 .obtain ⟨c,hc,rfl⟩:=List.mem_map.1 h
  have:=N8 hs c hc;exact vR this.1 this.2
theorem Hq(hk:∀i,i<ks.length->oL (at' ks i))(hp:∀i,i<ps.length->oL (at' ps i))(hs:ic ks ps es)(hl:(dD es).length<=1048576):(joinL (gy ks ps (dD es))).length<=70368744177664:=by
 refine Nat.le_trans (zM (Qt hk hp hs)) ?_;have h1:=hs.k;have h2:=hs.p
 have:(gy ks ps (dD es)).length<=3145728:=by
  unfold gy kY kX lK
  simp only[AS,List.length_map]
  omega
 have:=Nat.mul_le_mul_right 3000000 this
 omega
def jf(ks ps:List dE)(es:List eF):ByteArray:=bif dP ks ps es then⟨(joinL (gy ks ps (dD es))).toArray⟩ else⟨#[]⟩
end Go.Proofs.YtolokangldmodaaGreatDoor
namespace Go.Proofs.YtolokangldmodaaGreatDoor
open Go.RowKit
attribute [local go_sem] Later.cell Later.frozen
def wm:ByteArray:=⟨#[107,105,110,100,32]⟩
def rJ:ByteArray:=⟨#[112,111,105,110,116,32]⟩
def stepT(word out:ByteArray)(t:dE):ByteArray:=cat (cat (cat (cat (cat (cat (cat out word) t.s) mD) (dL t.x.toNat)) mD) (dL t.y.toNat)) OH
def Su(out:ByteArray)(c:eH):ByteArray:=cat (cat out (fe c)) OH
def DV(l:List ByteArray):ByteArray:=⟨(joinL l).toArray⟩
theorem vG(a b:ByteArray):bytes (cat a b)=bytes a++bytes b:=by simp[bytes,cat]
theorem uh(l:List ByteArray):bytes (DV l)=joinL l:=by simp[bytes,DV]
theorem Ce(l:List ByteArray):(DV l).size=(joinL l).length:=by rw[<-aF,uh]
theorem Sq(l:List ByteArray)(t:dE):stepT wm (DV l) t=DV (l++[ed ik t]):=by
 refine bd ?_;have e:bytes wm=bytes ik++bytes mD:=rfl;have e2:bytes OH=[10]:=rfl
 simp only[stepT,ed,vG,uh,bI,joinL,e,e2,AO,AI]
theorem Sn(l:List ByteArray)(t:dE):stepT rJ (DV l) t=DV (l++[ed jH t]):=by
 refine bd ?_;have e:bytes rJ=bytes jH++bytes mD:=rfl;have e2:bytes OH=[10]:=rfl
 simp only[stepT,ed,vG,uh,bI,joinL,e,e2,AO,AI]
theorem Sr(l:List ByteArray)(c:eH):Su (DV l) c=DV (l++[fe c]):=by
 refine bd ?_;have e2:bytes OH=[10]:=rfl
 simp only[Su,vG,uh,bI,joinL,e2,AO,AI]
structure AB (word out:ByteArray) (t:dE):Prop where
 a0:Small out
 a1:Small word
 a2:Small (cat out word)
 a3:Small t.s
 a4:Small (cat (cat out word) t.s)
 a5:Small mD
 a6:Small (cat (cat (cat out word) t.s) mD)
 a7:Small (dL t.x.toNat)
 a8:Small (cat (cat (cat (cat out word) t.s) mD) (dL t.x.toNat))
 a9:Small (cat (cat (cat (cat (cat out word) t.s) mD) (dL t.x.toNat)) mD)
 aA:Small (dL t.y.toNat)
 aB:Small (cat (cat (cat (cat (cat (cat out word) t.s) mD) (dL t.x.toNat)) mD) (dL t.y.toNat))
 aC:Small OH
theorem AB.of(hw:word.size<=6)(ho:out.size<=70368744177664)(h:oL t):AB word out t:=by
 have h0:=h.x0;have h1:=h.x1;have h2:=h.y0;have h3:=h.y1;have h4:=h.s;have e2:mD.size=1:=rfl;have e5:OH.size=1:=rfl
 have e3:=aR t.x.toNat (by omega)
 have e4:=aR t.y.toNat (by omega)
 constructor<;>unfold Small<;>(try simp only[aU])<;>omega
theorem NZ(es:List eF)(k:Nat):dD es=dD (es.take k)++dD (es.drop k):=by
 unfold dD;rw[<-List.flatMap_append,Aj]
theorem Qa{full P R:List ByteArray}(h:(joinL full).length<=70368744177664)(e:full=P++R):(DV P).size<=70368744177664:=by
 rw[Ce];rw[e,bI,AS] at h
 omega
theorem small_c{f:ByteArray}(ho:out.size<=70368744177664)(hf:f.size+1<=3000000):Small out/\Small f/\Small (cat out f)/\Small OH:=by
 have e5:OH.size=1:=rfl
 refine⟨?_,?_,?_,?_⟩<;>unfold Small<;>(try simp only[aU])<;>omega
theorem Gp{P:Prop}(h:P):Hid P:=h
theorem Ec(vk vp ve:Value)(ks ps:List dE)(es:List eF)(w:World)(hB:dW w vk vp ve ks ps es)(nB:jV ks ps es)(sB:ic ks ps es)(hsz:mq (λe=>e.fs.length) es<=1048576) :
 Rb 24 #[.agg #[vk,vp,ve]] w (AE (jf ks ps es)):=by
 have HB:Hid _:=hB;have NB:Hid _:=nB;have SB:Hid (ic ks ps es):=sB
 have Vl:Hid ((dD es).length<=1048576):=by
  show(dD es).length<=1048576
  rw[qH];exact hsz
 obtain⟨⟨ak,ck,rfl,bn,c9,c7⟩,⟨ap,cp,rfl,hp1,c6,c4⟩,⟨ae,ce,rfl,he1,dt,ds⟩⟩:=hB;unfold maxLen at c9 c6 dt;have ec:Hid (∀i t,ks[i]?=AD t->∃b off,ak=AD ⟨b,off,AF⟩/\jG w b (off+i*3) t):=c7;have eb:Hid (∀i t,ps[i]?=AD t->∃b off,ap=AD ⟨b,off,AF⟩/\jG w b (off+i*3) t):=c4;have PE:Hid (∀i e,es[i]?=AD e->∃b off,ae=AD ⟨b,off,AF⟩/\ou w b (off+i*2) e):=ds;have cc:Hid (OwnAt w (w.alloc (AH #[AG ak ks.length ck,AG ap ps.length cp,AG ae es.length ce] 41)) [[AG ak ks.length ck,AG ap ps.length cp,AG ae es.length ce]]):=(OwnAt.start w).push rfl _ _
 go_enter func24,ntmps24
 go_wp2_with fail;refine(cr _ _ _ ks ps es _ (HB.out.keep cc.out.below) NB.out SB.out).mono ?_;rintro e w1⟨rfl,ay⟩;have oO:Hid (OwnAt w w1 _):=cc.out.call ay
 have ba:Hid (w1.heap[w.heap.size]?=AD (AH #[AG ak ks.length ck,AG ap ps.length cp,AG ae es.length ce] 41 (0,0))):=(ay.block _ (by simp)).trans (by show(w.heap.push _)[w.heap.size]?=_;simp)
 cases af:dP ks ps es
 .have HE:Hid (jf ks ps es=⟨#[]⟩):=by show jf ks ps es=_;unfold jf;rw[af];rfl
  go_wp2;go_ret;exact⟨cn HE.out.symm,oO.out.below⟩
 have HE:Hid (jf ks ps es=DV (gy ks ps (dD es))):=by show jf ks ps es=_;unfold jf;rw[af];rfl
 have cl:Hid (∀i,i<ks.length->oL (at' ks i)):=by
  unfold dP fB at af
  simp only[AT] at af
  exact Nv af.1.1
 have cg:Hid (∀i,i<ps.length->oL (at' ps i)):=by
  unfold dP fB at af
  simp only[AT] at af
  exact JO af.1.2
 have an:Hid ((joinL (gy ks ps (dD es))).length<=70368744177664):=Hq cl.out cg.out SB.out Vl.out;obtain⟨bx,cb⟩:∃bx:Obj,bx=AH #[AG ak ks.length ck,AG ap ps.length cp,AG ae es.length ce] 41 (0,0):=⟨_,rfl⟩;have RN:Hid (bx=AH #[AG ak ks.length ck,AG ap ps.length cp,AG ae es.length ce] 41 (0,0)):=cb;rw[<-cb] at ba;have dv:=cI prog
 -- GENERATED
 have b3:Hid (Bw w w1/\w1.heap[w.heap.size]?=AD bx):=⟨oO.out.below,ba.out⟩;have ea:Hid ((⟨#[]⟩:ByteArray)=DV []):=rfl;go_wp2
 go_loopw [3,4,5] (λo i _ wr=>∃(k:Nat) (z:ByteArray),k<=ks.length/\i=I U k/\o=AE z/\Hid (z=DV ((ks.take k).map (ed ik)))/\Hid (Bw w wr/\wr.heap[w.heap.size]?=AD bx)) (λ_ i _ _=>ks.length-(intOf i).toNat)
 case atStart=>exact⟨0,_,At _,rfl,rfl,Gp (by simpa using ea.out),b3⟩
 case round =>
  obtain⟨k,z,hk,rfl,rfl,HZ,HI⟩:=hrel
  have y0:wr.cell? ⟨w.heap.size,0,AF⟩=AD (AG ak ks.length ck):=by have h:=HI.out.2;rw[RN.out] at h;simp[AN,h]
  have y1:wr.cell? ⟨w.heap.size,1,AF⟩=AD (AG ap ps.length cp):=by have h:=HI.out.2;rw[RN.out] at h;simp[AN,h]
  have y2:wr.cell? ⟨w.heap.size,2,AF⟩=AD (AG ae es.length ce):=by have h:=HI.out.2;rw[RN.out] at h;simp[AN,h]
  have ao:w.heap.size<wr.heap.size:=(Array.getElem?_eq_some_iff.1 HI.out.2).1
  by_cases ab:k<ks.length
  .obtain ⟨b,off,aL,hc⟩:=ec.out k _ (bG ab)
   obtain⟨d0,d1,d2⟩:=hc.keep HI.out.1 aE;have Vi:Hid _:=cl k ab
   have av:z.size<=70368744177664:=by
    rw[HZ.out,Ce];have h:=an.out
    have e:gy ks ps (dD es)=((ks.take k).map (ed ik))++((ks.drop k).map (ed ik)++(ps.map (ed jH)++(dD es).map fe)):=by
     have h2:ks.map (ed ik)=(ks.take k).map (ed ik)++(ks.drop k).map (ed ik):=by rw[<-An,Aj]
     simp only[gy,kY,kX,lK,AO]
     rw[h2]
     simp only[AO]
    rw[e,bI,AS] at h
    omega
   have aT:Hid (stepT wm z (at' ks k)=DV ((ks.take (k+1)).map (ed ik))):=by
    show _=_
    rw[HZ.out,Sq,qp _ ks k _ (bG ab)]
    skip
   generalize at' ks k=t at *;obtain rfl:=aL
   obtain⟨s0,s1,s2,s3,s4,s5,s6,s7,s8,s9,sA,sB,sC⟩:=AB.of (word:=wm) (out:=z) (t:=t) (by decide) av Vi
   simp only[mD,wm,OH] at s0 s1 s2 s3 s4 s5 s6 s7 s8 s9 sA sB sC
   have b6:(0:Int)<=(k:Int):=by omega
   have bn:(k:Int)<(ks.length:Int):=by omega
   have CU:(wr.alloc (AH #[AE t.s,I U t.x,I U t.y] 79)).heap[wr.heap.size]?=AD (AH #[AE t.s,I U t.x,I U t.y] 79):=by show(wr.heap.push _)[wr.heap.size]?=_;simp
   have vH:Hid (Bw w (wr.alloc (AH #[AE t.s,I U t.x,I U t.y] 79))/\(wr.alloc (AH #[AE t.s,I U t.x,I U t.y] 79)).heap[w.heap.size]?=AD bx/\(wr.alloc (AH #[AE t.s,I U t.x,I U t.y] 79)).cell? ⟨wr.heap.size,0,AF⟩=AD (AE t.s)/\(wr.alloc (AH #[AE t.s,I U t.x,I U t.y] 79)).cell? ⟨wr.heap.size,1,AF⟩=AD (I U t.x)/\(wr.alloc (AH #[AE t.s,I U t.x,I U t.y] 79)).cell? ⟨wr.heap.size,2,AF⟩=AD (I U t.y)):=⟨HI.1.alloc HI.1.size _,(Below.heap_alloc _ _ _ ao).trans HI.2,by simp only[AN,CU];rfl,by simp only[AN,CU];rfl,by simp only[AN,CU];rfl⟩
   go_wp2;generalize wr.alloc _=wy at *;generalize wr.heap.size=X at *;obtain⟨c0,c1,c2⟩:=vH.2.2;have zc:=am c0;have cy:=Vi.out.x0;have cx:=Vi.out.x1;have cu:=Vi.out.y0;have ct:=Vi.out.y1
   have GO:Hid (∀(x:Later wy) (n:Int),0<=n->n<10000000->Calls prog 25 #[I U n] x.val λe au=>e=.returned (AE (dL n.toNat))/\∃y:Later wy,au=y.val):=λx n h0 h1=>Calls.later (by
    have h:=bE n.toNat (by omega) x.val
    rw[Int.toNat_of_nonneg h0] at h
    exact h)
   have ax:=Later.some wy;refine ar ?_
   repeat(go_big_quiet_step (exact GO.out _ _ (by assumption) (by assumption)))
   refine wpQuiet_nil ?_;rintro _⟨x,rfl⟩;have ad:Hid (Bw w x.val/\x.val.heap[w.heap.size]?=AD bx):=⟨aa vH.1 x.below,(x.below.block _ (Array.getElem?_eq_some_iff.1 vH.2.1).1).trans vH.2.1⟩;go_wp2
   exact⟨⟨k+1,_,by omega,by go_num,rfl,aT,ad⟩,by simp[intOf];omega⟩
  .have ai:Hid (z=DV (ks.map (ed ik))):=by
    have:=HZ
    rw[AW (by omega)] at this
    exact this
   have bY:Hid _:=HI;go_wp2
   go_loopw [3,6,7] (λo i _ wr=>∃(k:Nat) (z:ByteArray),k<=ps.length/\i=I U k/\o=AE z/\Hid (z=DV (ks.map (ed ik)++(ps.take k).map (ed jH)))/\Hid (Bw w wr/\wr.heap[w.heap.size]?=AD bx)) (λ_ i _ _=>ps.length-(intOf i).toNat)
   case atStart=>exact⟨0,_,At _,rfl,rfl,Gp (by simpa using ai.out),bY⟩
   case round =>
    obtain⟨k,z,hk,rfl,rfl,HZ,HI⟩:=hrel
    have y0:wr.cell? ⟨w.heap.size,0,AF⟩=AD (AG ak ks.length ck):=by have h:=HI.2;rw[RN.out] at h;simp[AN,h]
    have y1:wr.cell? ⟨w.heap.size,1,AF⟩=AD (AG ap ps.length cp):=by have h:=HI.2;rw[RN.out] at h;simp[AN,h]
    have y2:wr.cell? ⟨w.heap.size,2,AF⟩=AD (AG ae es.length ce):=by have h:=HI.2;rw[RN.out] at h;simp[AN,h]
    have ao:=(Array.getElem?_eq_some_iff.1 HI.2).1
    by_cases ab:k<ps.length
    .obtain ⟨b,off,aL,hc⟩:=eb.out k _ (bG ab)
     obtain⟨d0,d1,d2⟩:=hc.keep HI.out.1 aE;have Vi:Hid _:=cg k ab
     have av:z.size<=70368744177664:=by
      rw[HZ.out,Ce];have h:=an.out
      have e:gy ks ps (dD es)=(ks.map (ed ik)++(ps.take k).map (ed jH))++((ps.drop k).map (ed jH)++((dD es).map fe)):=by
       have h2:ps.map (ed jH)=(ps.take k).map (ed jH)++(ps.drop k).map (ed jH):=by rw[<-An,Aj]
       simp only[gy,kY,kX,lK,AO]
       rw[h2]
       simp only[AO]
      rw[e,bI,AS] at h
      omega
     have aT:Hid (stepT rJ z (at' ps k)=DV (ks.map (ed ik)++(ps.take (k+1)).map (ed jH))):=by
      show _=_
      rw[HZ.out,Sn,qp _ ps k _ (bG ab)]
      simp
     generalize at' ps k=t at *;obtain rfl:=aL
     obtain⟨s0,s1,s2,s3,s4,s5,s6,s7,s8,s9,sA,sB,sC⟩:=AB.of (word:=rJ) (out:=z) (t:=t) (by decide) av Vi
     simp only[mD,rJ,OH] at s0 s1 s2 s3 s4 s5 s6 s7 s8 s9 sA sB sC
     have b6:(0:Int)<=(k:Int):=by omega
     have bn:(k:Int)<(ps.length:Int):=by omega
     have CU:(wr.alloc (AH #[AE t.s,I U t.x,I U t.y] 101)).heap[wr.heap.size]?=AD (AH #[AE t.s,I U t.x,I U t.y] 101):=by show(wr.heap.push _)[wr.heap.size]?=_;simp
     have vH:Hid (Bw w (wr.alloc (AH #[AE t.s,I U t.x,I U t.y] 101))/\(wr.alloc (AH #[AE t.s,I U t.x,I U t.y] 101)).heap[w.heap.size]?=AD bx/\(wr.alloc (AH #[AE t.s,I U t.x,I U t.y] 101)).cell? ⟨wr.heap.size,0,AF⟩=AD (AE t.s)/\(wr.alloc (AH #[AE t.s,I U t.x,I U t.y] 101)).cell? ⟨wr.heap.size,1,AF⟩=AD (I U t.x)/\(wr.alloc (AH #[AE t.s,I U t.x,I U t.y] 101)).cell? ⟨wr.heap.size,2,AF⟩=AD (I U t.y)):=⟨HI.1.alloc HI.1.size _,(Below.heap_alloc _ _ _ ao).trans HI.2,by simp only[AN,CU];rfl,by simp only[AN,CU];rfl,by simp only[AN,CU];rfl⟩
     go_wp2;generalize wr.alloc _=wy at *;generalize wr.heap.size=X at *;obtain⟨c0,c1,c2⟩:=vH.2.2;have zc:=am c0;have cy:=Vi.out.x0;have cx:=Vi.out.x1;have cu:=Vi.out.y0;have ct:=Vi.out.y1
     have GO:Hid (∀(x:Later wy) (n:Int),0<=n->n<10000000->Calls prog 25 #[I U n] x.val λe au=>e=.returned (AE (dL n.toNat))/\∃y:Later wy,au=y.val):=λx n h0 h1=>Calls.later (by
      have h:=bE n.toNat (by omega) x.val
      rw[Int.toNat_of_nonneg h0] at h
      exact h)
     have ax:=Later.some wy;refine ar ?_
     repeat(go_big_quiet_step (exact GO.out _ _ (by assumption) (by assumption)))
     refine wpQuiet_nil ?_;rintro _⟨x,rfl⟩;have ad:Hid (Bw w x.val/\x.val.heap[w.heap.size]?=AD bx):=⟨aa vH.1 x.below,(x.below.block _ (Array.getElem?_eq_some_iff.1 vH.2.1).1).trans vH.2.1⟩;go_wp2
     exact⟨⟨k+1,_,by omega,by go_num,rfl,aT,ad⟩,by simp[intOf];omega⟩
    .have ai:Hid (z=DV (ks.map (ed ik)++ps.map (ed jH))):=by
      have:=HZ
      rw[AW (by omega)] at this
      exact this
     have bY:Hid _:=HI;go_wp2
     go_loopw [3,8,9,10] (λo i _ _ wr=>∃(k:Nat) (z:ByteArray),k<=es.length/\i=I U k/\o=AE z/\Hid (z=DV (ks.map (ed ik)++ps.map (ed jH)++(dD (es.take k)).map fe))/\Hid (Bw w wr/\wr.heap[w.heap.size]?=AD bx)) (λ_ i _ _ _=>es.length-(intOf i).toNat)
     case atStart=>exact⟨0,_,At _,rfl,rfl,Gp (by simpa[dD] using ai.out),bY⟩
     case round =>
      obtain⟨k,z,hk,rfl,rfl,HZ,HI⟩:=hrel
      have y0:wr.cell? ⟨w.heap.size,0,AF⟩=AD (AG ak ks.length ck):=by have h:=HI.2;rw[RN.out] at h;simp[AN,h]
      have y1:wr.cell? ⟨w.heap.size,1,AF⟩=AD (AG ap ps.length cp):=by have h:=HI.2;rw[RN.out] at h;simp[AN,h]
      have y2:wr.cell? ⟨w.heap.size,2,AF⟩=AD (AG ae es.length ce):=by have h:=HI.2;rw[RN.out] at h;simp[AN,h]
      have ao:=(Array.getElem?_eq_some_iff.1 HI.2).1
      by_cases ab:k<es.length
      .obtain ⟨b,off,aL,fv,dz,dy,dm⟩:=PE.out k _ (bo ab)
       obtain⟨fa,fc,rfl,hfc,dk,dq⟩:=dm;unfold maxLen at dk;have bb:Hid (w.cell? ⟨b,off+k*2,AF⟩=AD (AE (eO es k).name)/\w.cell? ⟨b,off+k*2+1,AF⟩=AD (.slice fa (eO es k).fs.length fc)):=⟨dz,dy⟩;have Pz:Hid _:=dq;have cf:Hid ((eO es k).name.size<=1048576/\∀f∈(eO es k).fs,f.v.size<=1048576):=⟨SB.n _ (Aw (bo ab)),SB.v _ (Aw (bo ab))⟩
       have dT:Hid (ks.map (ed ik)++ps.map (ed jH)++(dD (es.take (k+1))).map fe=(ks.map (ed ik)++ps.map (ed jH)++(dD (es.take k)).map fe)++((eO es k).fs.map (eu (eO es k).name)).map fe):=by
        show _=_
        rw[sO es k _ (bo ab)];simp
       have ef:Hid (∃R,gy ks ps (dD es)=(ks.map (ed ik)++ps.map (ed jH)++(dD (es.take k)).map fe)++((eO es k).fs.map (eu (eO es k).name)).map fe++R):=⟨(dD (es.drop (k+1))).map fe,by
        simp only[gy,kY,kX,lK]
        rw[NZ es (k+1),sO es k _ (bo ab)]
        simp only[An,AO]⟩
       generalize eO es k=en at *;obtain⟨nm,fs⟩:=en;dsimp only at *;generalize hPR:ks.map (ed ik)++ps.map (ed jH)++(dD (es.take k)).map fe=PR at *;obtain rfl:=aL;obtain⟨d0,d1⟩:wr.cell? ⟨b,off+k*2,AF⟩=AD (AE nm)/\wr.cell? ⟨b,off+k*2+1,AF⟩=AD (AG fa fs.length fc):=⟨ac HI.1 aE bb.1,ac HI.1 aE bb.2⟩;have ee:Hid _:=HI;go_wp2
       go_loopw [3,9,10] (λo i _ wx=>∃(j:Nat) (z:ByteArray),j<=fs.length/\i=I U j/\o=AE z/\Hid (z=DV (PR++((fs.take j).map (eu nm)).map fe))/\Hid (Bw w wx/\wx.heap[w.heap.size]?=AD bx)) (λ_ i _ _=>fs.length-(intOf i).toNat)
       case atStart=>exact⟨0,_,At _,rfl,rfl,Gp (by simpa using HZ.out),ee⟩
       case round =>
        obtain⟨j,z,hj,rfl,rfl,HZ,HI⟩:=hrel
        obtain⟨y0,y1,y2⟩:wr.cell? ⟨w.heap.size,0,AF⟩=AD (AG ak ks.length ck)/\wr.cell? ⟨w.heap.size,1,AF⟩=AD (AG ap ps.length cp)/\wr.cell? ⟨w.heap.size,2,AF⟩=AD (AG (AD ⟨b,off,AF⟩) es.length ce):=by have h:=HI.2;rw[RN.out] at h;exact⟨by simp[AN,h],by simp[AN,h],by simp[AN,h]⟩
        obtain⟨d0,d1⟩:wr.cell? ⟨b,off+k*2,AF⟩=AD (AE nm)/\wr.cell? ⟨b,off+k*2+1,AF⟩=AD (AG fa fs.length fc):=⟨ac HI.1 aE bb.1,ac HI.1 aE bb.2⟩;have ao:=(Array.getElem?_eq_some_iff.1 HI.2).1
        by_cases bP:j<fs.length
        .obtain ⟨fb,fo,dr,hf⟩:=Pz.out j _ (bK bP)
         obtain⟨g0,g1,g2⟩:qY wr fb (fo+j*3) (eQ fs j):=⟨ac HI.1 aE hf.1,ac HI.1 aE hf.2.1,ac HI.1 aE hf.2.2⟩;have b4:=cf.2 _ (Aw (bK bP));have b5:=cf.out.1
         have av:z.size<=70368744177664:=by
          obtain⟨R,hR⟩:=ef
          have h2:fs.map (eu nm)=(fs.take j).map (eu nm)++(fs.drop j).map (eu nm):=by rw[<-An,Aj]
          rw[HZ.out]
          exact Qa (R:=((fs.drop j).map (eu nm)).map fe++R) an (by rw[hR,h2];simp only[An,AO])
         have aT:Hid (Su z (eu nm (eQ fs j))=DV (PR++((fs.take (j+1)).map (eu nm)).map fe)):=by
          show _=_
          rw[HZ.out,Sr,qp _ fs j _ (bK bP)]
          simp
         generalize eQ fs j=t at *;obtain rfl:=dr;have dd:=vR (c:=eu nm t) b5 b4;obtain⟨s0,s1,s2,s3⟩:=small_c av dd
         simp only[OH] at s3
         have CU:(wr.alloc (AH #[I U t.what,I U t.num,AE t.v] 107)).heap[wr.heap.size]?=AD (AH #[I U t.what,I U t.num,AE t.v] 107):=by show(wr.heap.push _)[wr.heap.size]?=_;simp
         have vH:Hid ((Bw w (wr.alloc (AH #[I U t.what,I U t.num,AE t.v] 107))/\(wr.alloc (AH #[I U t.what,I U t.num,AE t.v] 107)).heap[w.heap.size]?=AD bx)/\((wr.alloc (AH #[I U t.what,I U t.num,AE t.v] 107)).cell? ⟨wr.heap.size,0,AF⟩=AD (I U t.what)/\(wr.alloc (AH #[I U t.what,I U t.num,AE t.v] 107)).cell? ⟨wr.heap.size,1,AF⟩=AD (I U t.num)/\(wr.alloc (AH #[I U t.what,I U t.num,AE t.v] 107)).cell? ⟨wr.heap.size,2,AF⟩=AD (AE t.v))/\Bw wr (wr.alloc (AH #[I U t.what,I U t.num,AE t.v] 107))):=⟨⟨HI.1.alloc HI.1.size _,(Below.heap_alloc _ _ _ ao).trans HI.2⟩,⟨by simp only[AN,CU];rfl,by simp only[AN,CU];rfl,by simp only[AN,CU];rfl⟩,(aG)⟩
         go_wp2;obtain⟨a2,b0⟩:(wr.alloc (AH #[I U t.what,I U t.num,AE t.v] 107)).cell? ⟨w.heap.size,2,AF⟩=AD (AG (AD ⟨b,off,AF⟩) es.length ce)/\(wr.alloc (AH #[I U t.what,I U t.num,AE t.v] 107)).cell? ⟨b,off+k*2,AF⟩=AD (AE nm):=⟨ac vH.2.2 aE y2,ac vH.2.2 aE d0⟩;obtain⟨a0,a1,b1⟩:(wr.alloc (AH #[I U t.what,I U t.num,AE t.v] 107)).cell? ⟨w.heap.size,0,AF⟩=AD (AG ak ks.length ck)/\(wr.alloc (AH #[I U t.what,I U t.num,AE t.v] 107)).cell? ⟨w.heap.size,1,AF⟩=AD (AG ap ps.length cp)/\(wr.alloc (AH #[I U t.what,I U t.num,AE t.v] 107)).cell? ⟨b,off+k*2+1,AF⟩=AD (AG (AD ⟨fb,fo,AF⟩) fs.length fc):=⟨ac vH.2.2 aE y0,ac vH.2.2 aE y1,ac vH.2.2 aE d1⟩;have bV:Hid _:=vH.1;obtain⟨c0,c1,c2⟩:=vH.2.1;generalize wr.alloc _=wy at *;generalize wr.heap.size=X at *;have zc:=am c0;have zb:=am b0;have za:=am a0;have GO:Hid (∀x:Later wy,Calls prog 46 #[.agg #[AE nm,I U t.what,I U t.num,AE t.v]] x.val λe au=>e=.returned (AE (fe (eu nm t)))/\∃y:Later wy,au=y.val):=λx=>Calls.later (vX (eu nm t) x.val b5 b4);have ax:=Later.some wy;refine ar ?_
         repeat(go_big_quiet_step (exact GO.out _))
         refine wpQuiet_nil ?_;rintro _⟨x,rfl⟩;have ad:Hid (Bw w x.val/\x.val.heap[w.heap.size]?=AD bx):=⟨aa bV.1 x.below,(x.below.block _ (Array.getElem?_eq_some_iff.1 bV.2).1).trans bV.2⟩;go_wp2
         exact⟨⟨j+1,_,by omega,by go_num,rfl,aT,ad⟩,by simp[intOf];omega⟩
        .have ai:Hid (z=DV (ks.map (ed ik)++ps.map (ed jH)++(dD (es.take (k+1))).map fe)):=by
          have:=HZ
          rw[AW (by omega)] at this
          show _=_
          rw[dT.out];exact this
         go_wp2
         exact⟨⟨k+1,_,by omega,by go_num,rfl,ai,HI⟩,by simp[intOf];omega⟩
      .have ai:Hid (z=jf ks ps es):=by
        have:=HZ
        rw[AW (by omega)] at this
        show _=_
        rw[HE.out];exact this
       go_wp2;go_ret;exact⟨cn ai,HI.1⟩
end Go.Proofs.YtolokangldmodaaGreatDoor
