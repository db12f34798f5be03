import Derived.Test.YtolokangldmodaaGreatDoorSame
import Derived.Deep.DeepCutAuto
set_option maxRecDepth 100000
set_option maxHeartbeats 3200000

open Go.Value renaming int->AD,string->U,slice->I,bool->AI,agg->AG
open Go.Obj renaming cells->AH
open Option renaming none->AF,some->J
open Go.IntKind renaming i64->AE,wrap_i64->AN
open Bool renaming and_eq_true->AM,true_and->AS
open List renaming mem_of_getElem?->AO,take_succ_eq_append_getElem->AW,take_of_length_le->As,foldl_cons->At,getElem_of_mem->Aw,map_cons->Ax,length_append->A0,flatMap_cons->A2,cons_append->AJ
open Nat renaming zero_le->AT,not_lt_zero->Aj,zero_add->A1
open ByteArray renaming empty->An
open Go Go.Proofs.YtolokangldmodaaGreatDoor
variable {ks ps:List dE} {es:List eF} {w w':World} {b c a x:eH} {B base size:Nat} {v:Value} {l A m:List eH} {e:eF} {n:ByteArray} {xs:List Value} {f:eT}
open Go.Proofs.Tryz
namespace Go.Proofs.YtolokangldmodaaGreatDoor
open Go.RowKit
attribute [local go_sem] Later.cell Later.frozen
theorem xA(f:eT)(n:ByteArray)(w:World) :
 Rb 188 #[AG #[AD AE f.what,AD AE f.num,U f.v],U n] w (AG #[U n,AD AE f.what,AD AE f.num,U f.v]):=by
 go_enter func188,ntmps188
 go_wp2
 exact bodyPost_ret (v:=AG #[U n,AD AE f.what,AD AE f.num,U f.v]) (by simp[results,results188,go_sem]) rfl ⟨rfl,(aG).alloc (by simp) _⟩
theorem Gc(l:List eT):lu l 0=true:=by simp[lu]
theorem Io(vk vp fv:Value)(ks ps:List dE)(n:ByteArray)(l:List eT)(w:World)(hk:dF w vk ks)(hp:dF w vp ps)(hv:iY w fv l)(hn:n.size<=1048576)(hs:∀f∈l,f.v.size<=1048576) :
 Rb 157 #[AG #[vk,vp],AG #[U n,fv]] w (AI (fieldsB ks ps n l)):=by
 have b3:Hid (dF w vk ks/\dF w vp ps):=⟨hk,hp⟩;obtain⟨ak,ck,rfl,-,-,-⟩:=hk;obtain⟨ap,cp,rfl,-,-,-⟩:=hp;obtain⟨a,cap,rfl,cy,ay,hc⟩:=hv;unfold maxLen at ay;have HC:Hid _:=hc;have HS:Hid (∀f∈l,f.v.size<=1048576):=hs;clear hc hs
 have cx:Hid (OwnAt w ((w.alloc (AH #[I ak ks.length ck,I ap ps.length cp] 38)).alloc (AH #[U n,I a l.length cap] 105)) [[I ak ks.length ck,I ap ps.length cp],[U n,I a l.length cap]]):=((OwnAt.start w).push rfl _ _).push (by simp) _ _
 have HE:Hid (fieldsB ks ps n l=((gu l.length λi=>lu l i&&ib ks ps (eu n (eQ l i)))&&decide (0<l.length))):=rfl
 go_enter func157,ntmps157
 go_wp2
 go_loopw [5,6,10] (λ_ _ i wr=>∃k:Nat,k<=l.length/\i=AD AE k/\OwnAt w wr [[I ak ks.length ck,I ap ps.length cp],[U n,I a l.length cap]]/\Hid (∀j,j<k->(lu l j&&ib ks ps (eu n (eQ l j)))=true)) (λ_ _ i _=>l.length-(intOf i).toNat)
 case atStart=>exact⟨0,AT _,rfl,cx.out,λj hj=>absurd hj (Aj _)⟩
 case round =>
  obtain⟨k,hk,rfl,ho,HA⟩:=hrel;have zV:Hid (OwnAt w wr [[I ak ks.length ck,I ap ps.length cp],[U n,I a l.length cap]]):=ho
  by_cases ab:k<l.length
  .obtain ⟨b,off,rfl,hc⟩:=HC.out k _ (bK ab)
   obtain⟨d0,d1,d2⟩:=hc.keep ho.below aE;have eE:=am d0;have dd:=HS _ (AO (bK ab))
   have c4:(0:Int)<=(k:Int):=by omega
   have cL:(k:Int)<(l.length:Int):=by omega
   have zX:Hid ((lu l k&&ib ks ps (eu n (eQ l k)))=false->fieldsB ks ps n l=false):=λh=>by rw[HE.out,bm ab h];rfl
   have bn:Hid (Bw wr (wr.alloc (AH #[AD AE (eQ l k).what,AD AE (eQ l k).num,U (eQ l k).v] 107))):=(aG);have DR:Hid _:=ho.call bn
   have ze:Hid (qY (wr.alloc (AH #[AD AE (eQ l k).what,AD AE (eQ l k).num,U (eQ l k).v] 107)) wr.heap.size 0 (eQ l k)):=⟨by simp,by simp,by simp⟩
   have Vj:Hid (∀wx:World,Bw w wx->Rb 186 #[AG #[I ak ks.length ck,I ap ps.length cp],AG #[U n,AD AE (eQ l k).what,AD AE (eQ l k).num,U (eQ l k).v]] wx (AI (ib ks ps (eu n (eQ l k))))):=λwx hx=>sP _ _ ks ps (eu n (eQ l k)) wx (b3.1.keep hx) (b3.2.keep hx) hn dd
   have ca:Hid (0<k->∃m,k=m+1/\qY wr b (off+m*3) (eQ l m)/\lu l k=!decide ((eQ l k).what<=(eQ l m).what)):=λhz=>by
    obtain⟨m,rfl⟩:∃m,k=m+1:=⟨k-1,by omega⟩
    obtain⟨b',cb,Ex,av⟩:=HC m _ (bK (by omega))
    cases Ex
    exact⟨m,rfl,av.keep ho.below aE,by simp[lu]⟩
   go_upto_region 4 with fail
   generalize wr.alloc _=w2 at *;have nz:=am ze.1
   go_cut [28] (λek wc=>ek=AI (!lu l k)/\Bw w2 wc)
   case first =>
    have e2:=(DR.has 1 _ rfl 0 _ rfl).1;have e3:=(DR.has 1 _ rfl 1 _ rfl).1;have ez:=am e2;obtain⟨n0,n1,n2⟩:=ze
    simp only[A1] at n1 n2
    have ad:=Later.some w2
    have dr:b<w2.heap.size:=by have:=bn.size;omega
    by_cases hz:0<k
    .obtain ⟨m,b5,hf,hh⟩:=ca.out hz
     subst b5;obtain⟨g0,g1,g2⟩:=hf.keep bn aE
     have ec:(0:Int)<=(m:Int):=by omega
     have eb:(m:Int)<(l.length:Int):=by omega
     have ea:(0:Int)<(m:Int)+1:=by omega
     have dv:IntKind.i64.wrap (m:Int)=(m:Int):=by rw[AN];omega
     have du:IntKind.i64.wrap ((m:Int)+1-1)=(m:Int):=by rw[AN];omega
     have HH:Hid _:=hh;refine ar ?_
     repeat(go_big_quiet_step (fail))
     refine wpQuiet_nil ?_;rintro _⟨x,rfl⟩;go_wp2_with fail
     go_meet
     exact⟨by rw[HH.out,Bool.not_not],x.below⟩
    .have b4:decide (0<k)=false:=by simp;omega
     have HH:Hid (lu l k=true):=by
      show lu l k=true
      obtain rfl:k=0:=by omega
      exact Gc l
     refine ar ?_
     repeat(go_big_quiet_step (fail))
     refine wpQuiet_nil ?_;rintro _⟨x,rfl⟩;go_wp2_with fail
     go_meet
     exact⟨by rw[HH.out];rfl,x.below⟩
   case rest =>
    obtain⟨rfl,dt⟩:=hcut;have Ve:Hid (OwnAt w wc [[I ak ks.length ck,I ap ps.length cp],[U n,I (J ⟨b,off,AF⟩) l.length cap]]):=DR.out.call dt;have e0:wc.cell? ⟨w.heap.size,0,AF⟩=J (I ak ks.length ck):=(Ve.out.has 0 _ rfl 0 _ rfl).1;have e1:wc.cell? ⟨w.heap.size,1,AF⟩=J (I ap ps.length cp):=(Ve.out.has 0 _ rfl 1 _ rfl).1;have e2:wc.cell? ⟨w.heap.size+1,0,AF⟩=J (U n):=(Ve.out.has 1 _ rfl 0 _ rfl).1;have e3:wc.cell? ⟨w.heap.size+1,1,AF⟩=J (I (J ⟨b,off,AF⟩) l.length cap):=(Ve.out.has 1 _ rfl 1 _ rfl).1;have ez:w.heap.size+1<wc.heap.size:=am e2;have ey:w.heap.size<wc.heap.size:=am e0;obtain⟨n0,n1,n2⟩:=ze.out.keep dt aE
    simp only[A1] at n1 n2
    have nz2:wr.heap.size<wc.heap.size:=am n0;have ad:=Later.some wc;have GF:Hid (∀(y:Later wc),Calls prog 186 #[AG #[I ak ks.length ck,I ap ps.length cp],AG #[U n,AD AE (eQ l k).what,AD AE (eQ l k).num,U (eQ l k).v]] y.val λe bP=>e=.returned (AI (ib ks ps (eu n (eQ l k))))/\∃z:Later wc,bP=z.val):=λy=>Calls.later (Vj.out y.val (aa Ve.out.below y.below));have GC:Hid (∀(y:Later wc),Calls prog 188 #[AG #[AD AE (eQ l k).what,AD AE (eQ l k).num,U (eQ l k).v],U n] y.val λe bP=>e=.returned (AG #[U n,AD AE (eQ l k).what,AD AE (eQ l k).num,U (eQ l k).v])/\∃z:Later wc,bP=z.val):=λy=>Calls.later (xA (eQ l k) n y.val);clear ca Vj ze bn DR dt d0 d1 d2;have ej:Hid (∃q,lu l k=q):=⟨_,rfl⟩;generalize haf:lu l k=af at *;have ej:Hid (lu l k=af):=haf;clear haf;generalize bV:ib ks ps (eu n (eQ l k))=ft at *;have nS:Hid (ib ks ps (eu n (eQ l k))=ft):=bV;clear bV
    cases af
    .go_wp2
     go_ret;exact⟨aw (zX.out rfl).symm,Ve.out.below⟩
    .go_wp2
     refine ar ?_
     repeat(go_big_quiet_step (first|(go_at_call 186;exact GF.out _)|(go_at_call 188;exact GC.out _)))
     refine wpQuiet_nil ?_;rintro _⟨x,rfl⟩
     cases ft
     .go_wp2
      go_ret;exact⟨aw (zX rfl).symm,aa Ve.below x.below⟩
     .go_wp2
      go_roundw
      case rel=>exact⟨k+1,by omega,by go_num,Ve.out.call x.below,λj hj=>if e:j=k then by rw[e,ej.out,nS.out];rfl else HA.out j (by omega)⟩
      case measure=>simp[intOf];omega
  .have e0:wr.cell? ⟨w.heap.size+1,0,AF⟩=J (U n):=(zV.out.has 1 _ rfl 0 _ rfl).1
   have e1:=(zV.has 1 _ rfl 1 _ rfl).1
   have HF:Hid (fieldsB ks ps n l=decide (0<l.length)):=by
    show _=_
    rw[HE.out,bg λj hj=>HA.out j (by omega)];rfl
   go_wp2;go_ret
   exact⟨aw (by rw[HF.out]<;>simp),zV.below⟩
theorem DU.of(h:ic ks ps es):DU es:=λe he=>⟨by have:=h.n e he;unfold maxLen;omega,λf hf=>by have:=h.v e he f hf;unfold maxLen;omega⟩
theorem qJ(vk vp ve:Value)(ks ps:List dE)(es:List eF)(w:World)(hB:dW w vk vp ve ks ps es)(nB:jV ks ps es)(sB:ic ks ps es) :
 Rb 125 #[AG #[vk,vp,ve]] w (AI (dP ks ps es)):=by
 have HB:Hid (dW w vk vp ve ks ps es):=hB;have NB:Hid (jV ks ps es):=nB;have SB:Hid (ic ks ps es):=sB;obtain⟨⟨ak,ck,rfl,-,-,-⟩,⟨ap,cp,rfl,-,-,-⟩,⟨ae,ce,rfl,cy,ay,hc⟩⟩:=hB;unfold maxLen at ay;have HC:Hid (∀i f,es[i]?=J f->∃b off,ae=J ⟨b,off,AF⟩/\ou w b (off+i*2) f):=hc;clear nB sB hc;have ax:Hid (OwnAt w (w.alloc (AH #[I ak ks.length ck,I ap ps.length cp,I ae es.length ce] 41)) [[I ak ks.length ck,I ap ps.length cp,I ae es.length ce]]):=(OwnAt.start w).push rfl _ _;have HE:Hid (dP ks ps es=(fB ks ps&&(kF es&&gu es.length λi=>fieldsB ks ps (eO es i).name (eO es i).fs))):=rfl
 go_enter func125,ntmps125
 go_wp2_with fail;refine(Dy _ _ ks ps _ (HB.out.k.keep ax.out.below) (HB.out.p.keep ax.out.below) NB.out.k NB.out.p).mono ?_;rintro e w1⟨rfl,b6⟩;have oO:Hid (OwnAt w w1 _):=ax.out.call b6;clear ax b6;have y0:w1.cell? ⟨w.heap.size,0,AF⟩=J (I ak ks.length ck):=(oO.out.has 0 _ rfl 0 _ rfl).1;have y1:w1.cell? ⟨w.heap.size,1,AF⟩=J (I ap ps.length cp):=(oO.out.has 0 _ rfl 1 _ rfl).1;have y2:w1.cell? ⟨w.heap.size,2,AF⟩=J (I ae es.length ce):=(oO.out.has 0 _ rfl 2 _ rfl).1;have ct:(dU ks&&dI ps)=fB ks ps:=rfl;rw[ct];clear ct;generalize fB ks ps=bb at *
 cases bb
 .go_wp2
  go_ret
  exact⟨aw (by rw[HE.out];rfl),oO.out.below⟩
 go_wp2_with fail;refine(Cj _ es _ (HB.out.e.keep oO.out.below) NB.out.e).mono ?_;rintro e w2⟨rfl,eg⟩;have oq:Hid (OwnAt w w2 _):=oO.out.call eg;clear oO eg y0 y1 y2;have y0:w2.cell? ⟨w.heap.size,0,AF⟩=J (I ak ks.length ck):=(oq.out.has 0 _ rfl 0 _ rfl).1;have y1:w2.cell? ⟨w.heap.size,1,AF⟩=J (I ap ps.length cp):=(oq.out.has 0 _ rfl 1 _ rfl).1;have y2:w2.cell? ⟨w.heap.size,2,AF⟩=J (I ae es.length ce):=(oq.out.has 0 _ rfl 2 _ rfl).1;generalize kF es=ne at *
 cases ne
 .go_wp2
  go_ret
  exact⟨aw (by rw[HE.out];rfl),oq.out.below⟩
 have ba:Hid (dP ks ps es=gu es.length λi=>fieldsB ks ps (eO es i).name (eO es i).fs):=HE.out;clear HE;go_wp2;clear y0 y1 y2
 go_loopw [4,18] (λ_ i wr=>∃k:Nat,k<=es.length/\i=AD AE k/\OwnAt w wr [[I ak ks.length ck,I ap ps.length cp,I ae es.length ce]]/\Hid (∀j,j<k->fieldsB ks ps (eO es j).name (eO es j).fs=true)) (λ_ i _=>es.length-(intOf i).toNat)
 case atStart=>exact⟨0,AT _,rfl,oq.out,λj hj=>absurd hj (Aj _)⟩
 case round =>
  obtain⟨k,hk,rfl,ho,HA⟩:=hrel;have zV:Hid (OwnAt w wr [[I ak ks.length ck,I ap ps.length cp,I ae es.length ce]]):=ho
  by_cases ab:k<es.length
  .obtain ⟨b,off,rfl,hc⟩:=HC.out k _ (bo ab)
   obtain⟨fv,d0,d1,bY⟩:=hc.keep ho.below;have qL:Hid (iY wr fv (eO es k).fs):=bY;obtain⟨fa,fc,rfl,-,-,-⟩:=bY;have y0:wr.cell? ⟨w.heap.size,0,AF⟩=J (I ak ks.length ck):=(zV.out.has 0 _ rfl 0 _ rfl).1;have y1:wr.cell? ⟨w.heap.size,1,AF⟩=J (I ap ps.length cp):=(zV.out.has 0 _ rfl 1 _ rfl).1;have y2:wr.cell? ⟨w.heap.size,2,AF⟩=J (I (J ⟨b,off,AF⟩) es.length ce):=(zV.out.has 0 _ rfl 2 _ rfl).1;have yz:w.heap.size<wr.heap.size:=am y0;have HM:Hid (eO es k∈es):=AO (bo ab)
   have c4:(0:Int)<=(k:Int):=by omega
   have cL:(k:Int)<(es.length:Int):=by omega
   have c7:Hid (∀o:Obj,Bw wr (wr.alloc o)):=λo=>(aG);clear ho hc;go_wp2_with fail;refine(Io _ _ _ ks ps (eO es k).name (eO es k).fs _ ((HB.out.k.keep zV.out.below).keep (c7.out _)) ((HB.out.p.keep zV.out.below).keep (c7.out _)) (qL.out.keep (c7.out _)) (SB.out.n _ HM.out) (SB.out.v _ HM.out)).mono ?_;rintro e w3⟨rfl,ef⟩;have Ve:Hid (OwnAt w w3 _):=(zV.out.call (c7.out _)).call ef;clear ef
   cases bV:fieldsB ks ps (eO es k).name (eO es k).fs
   .have nS:Hid (fieldsB ks ps (eO es k).name (eO es k).fs=false):=bV
    clear bV;go_wp2;go_ret
    exact⟨aw (by rw[ba.out];exact(bm ab nS.out).symm),Ve.out.below⟩
   .have nS:Hid (fieldsB ks ps (eO es k).name (eO es k).fs=true):=bV
    clear bV;go_wp2
    exact⟨⟨k+1,by omega,by go_num,Ve.out,λj hj=>if e:j=k then by rw[e];exact nS.out else HA.out j (by omega)⟩,by simp[intOf];omega⟩
  .go_wp2
   go_ret
   exact⟨aw (by rw[ba.out];exact(bg λj hj=>HA.out j (by omega)).symm),zV.out.below⟩
end Go.Proofs.YtolokangldmodaaGreatDoor
namespace Go.Proofs.YtolokangldmodaaGreatDoor
open Go.RowKit
def kJ(c:eH):List Value:=[U c.f,AD AE c.what,AD AE c.num,U c.v]
def om(l:List eH):List Value:=l.flatMap kJ
theorem xw(l:List eH)(c:eH):om (l++[c])=om l++kJ c:=by simp[om]
def dD(es:List eF):List eH:=es.flatMap λe=>e.fs.map (eu e.name)
theorem sO(es:List eF)(k:Nat)(e:eF)(h:es[k]?=J e):dD (es.take (k+1))=dD (es.take k)++e.fs.map (eu e.name):=by
 obtain⟨hk,rfl⟩:=List.getElem?_eq_some_iff.1 h;rw[AW hk]
 simp only[dD,List.flatMap_append,A2,List.flatMap_nil,List.append_nil]
theorem qH(es:List eF):(dD es).length=mq (λe=>e.fs.length) es:=by
 induction es with
 |nil=>rfl
 |cons e es ih=>simp only[dD,A2,A0,mq,List.length_map] at *;omega
def jM(w:World)(base:Nat)(v:Value)(l:List eH):Prop:=w.ownsRow base 94 4 v l.length (om l)
theorem CP:(prog.info? 94).map (λi=>(i.zero,i.size,i.bytes))=J (J (AG #[U An,AD AE 0,AD AE 0,U An]),4,48):=by kernel_rfl
def Ml(w:World)(b o:Nat)(c:eH):Prop:=w.cell? ⟨b,o,AF⟩=J (U c.f)/\w.cell? ⟨b,o+1,AF⟩=J (AD AE c.what)/\w.cell? ⟨b,o+2,AF⟩=J (AD AE c.num)/\w.cell? ⟨b,o+3,AF⟩=J (U c.v)
def jU(w:World)(v:Value)(l:List eH):Prop :=
 ∃a cap,v=I a l.length cap/\l.length<=cap/\cap<=maxLen/\∀i c,l[i]?=J c->∃b off,a=J ⟨b,off,AF⟩/\Ml w b (off+i*4) c
theorem Ml.keep{b o:Nat}(h:Ml w b o c)(hb:Below B w w')(hB:w.heap.size<=B):Ml w' b o c :=
 ⟨ac hb hB h.1,ac hb hB h.2.1,ac hb hB h.2.2.1,ac hb hB h.2.2.2⟩
theorem jU.keep(h:jU w v l)(hb:Bw w w'):jU w' v l:=by
 obtain⟨a,cap,rfl,h1,h2,h3⟩:=h;refine⟨a,cap,rfl,h1,h2,λi t ht=>?_⟩;obtain⟨b,off,ha,hc⟩:=h3 i t ht;exact⟨b,off,ha,hc.keep hb aE⟩
theorem Oa(l:List eH)(i:Nat)(c:eH)(h:l[i]?=J c)(j:Nat)(hj:j<4):(om l)[i*4+j]?=(kJ c)[j]?:=by
 induction l generalizing i with
 |nil=>simp at h
 |cons a l ih =>
  have e:om (a::l)=kJ a++om l:=by simp[om]
  rw[e]
  cases i with
  |zero =>
   simp at h;subst h
   rw[List.getElem?_append_left (by simp[kJ];omega)];simp
  |succ i =>
   rw[List.getElem?_append_right (by simp[kJ];omega)]
   have:(i+1)*4+j-(kJ a).length=i*4+j:=by simp[kJ];omega
   rw[this]
   exact ih i (by simpa using h)
theorem jM.at(h:jM w base v l):jU w v l:=by
 obtain⟨h1,h2⟩:=h
 rcases h2 with⟨rfl,h0⟩|⟨g,cap,cur,rfl,_,hb,hn,hc,hs,ht⟩
 .have:l=[]:=List.length_eq_zero_iff.1 h0
  subst this
  exact⟨AF,0,rfl,Nat.le_refl _,AT _,λi c hc=>by simp at hc⟩
 .refine ⟨J ⟨g,0,AF⟩,cap,rfl,hn,hc,λi c hi=>⟨g,0,rfl,?_⟩⟩
  have hil:i<l.length:=(List.getElem?_eq_some_iff.1 hi).1
  have one:∀j,j<4->w.cell? ⟨g,0+i*4+j,AF⟩=(kJ c)[j]?:=λj hj=>by
   rw[<-Oa l i c hi j hj,<-ht,List.getElem?_take]
   rw[if_pos (by omega)]
   simp[World.cell?,hb]
  refine⟨?_,?_,?_,?_⟩
  .simpa [kJ] using one 0 (by omega)
  .simpa [kJ] using one 1 (by omega)
  .simpa [kJ] using one 2 (by omega)
  .simpa [kJ] using one 3 (by omega)
def nN(l:List eH)(i:Nat):eH:=l.getD i ⟨⟨#[]⟩,0,0,⟨#[]⟩⟩
theorem ug{i:Nat}(h:i<l.length):l[i]?=J (nN l i):=by simp[nN,h]
theorem EC(w:World)(a b c d:Value)(t:TypeId):∀j u,[a,b,c,d][j]?=J u->(w.alloc (AH #[a,b,c,d] t)).cell? ((⟨w.heap.size,0,AF⟩:Addr).add j)=J u:=by
 intro j u hj
 match j,hj with
 |0,hj=>simp at hj;subst hj;simp[Addr.add]
 |1,hj=>simp at hj;subst hj;simp[Addr.add]
 |2,hj=>simp at hj;subst hj;simp[Addr.add]
 |3,hj=>simp at hj;subst hj;simp[Addr.add]
 |j+4,hj=>simp at hj
theorem aq{e:TypeId}{n:Nat}(h:w.ownsRow base e size v n xs)(hb:Bw w w'):w'.ownsRow base e size v n xs:=by
 obtain⟨h1,h2⟩:=h;refine⟨h1,?_⟩
 rcases h2 with h2|⟨g,cap,cur,hv,hg,hh,rest⟩
 .exact .inl h2
 .exact .inr ⟨g,cap,cur,hv,hg,(hb.block g (Array.getElem?_eq_some_iff.1 hh).1).trans hh,rest⟩
theorem aQ{e:TypeId}{n:Nat}{C:Array Value}{t:TypeId}(h:w.ownsRow base e size v n xs)(hB:w.heap[B]?=J (AH C t))(ad:e≠t):J B≠v.ownBlock:=by
 intro hk
 rcases h.2 with⟨rfl,_⟩|⟨g,cap,cur,rfl,_,hb,_⟩
 .cases hk
 .cases hk
  rw[hb] at hB
  injection hB with hB
  injection hB with h1 h2 h3
  exact ad h2
theorem EB(vk vp ve:Value)(es:List eF)(w:World)(he:kM w ve es)(hsz:mq (λe=>e.fs.length) es<=1048576)(hel:es.length<=1048576) :
 Calls prog 185 #[AG #[vk,vp,ve]] w λe w'=>∃v,e=.returned v/\jM w' w.heap.size v (dD es)/\Bw w w':=by
 obtain⟨i0,hi,et,er,ep⟩:=info_parts CP;obtain⟨ae,ce,rfl,cy,ay,hc⟩:=he;unfold maxLen at ay;have HC:Hid (∀i f,es[i]?=J f->∃b off,ae=J ⟨b,off,AF⟩/\ou w b (off+i*2) f):=hc
 have tq:Hid (∀k,(dD (es.take k)).length<=1048576):=λk=>by
  rw[qH];exact Nat.le_trans (Gz _ es k) hsz
 clear hc;have ax:Hid (Bw w (w.alloc (AH #[vk,vp,I ae es.length ce] 41))):=(aG)
 go_enter func185,ntmps185
 go_wp2
 go_loopw [3,5,7,11] (λo _ _ i wr=>∃k:Nat,k<=es.length/\i=AD AE k/\jM wr w.heap.size o (dD (es.take k))/\Bw w wr) (λ_ _ _ i _=>es.length-(intOf i).toNat)
 case atStart=>exact⟨0,AT _,rfl,⟨rfl,.inl ⟨rfl,rfl⟩⟩,ax.out⟩
 case round =>
  obtain⟨k,hk,rfl,ai,hb⟩:=hrel
  by_cases ab:k<es.length
  .obtain ⟨b,off,rfl,hc⟩:=HC.out k _ (bo ab)
   obtain⟨fv,eJ,eI,bY⟩:=hc;have d0:=ac hb aE eJ;have d1:=ac hb aE eI;have HK:Hid (dD (es.take (k+1))=dD (es.take k)++(eO es k).fs.map (eu (eO es k).name)/\(dD (es.take (k+1))).length<=1048576):=⟨sO es k _ (bo ab),tq (k+1)⟩;obtain⟨fa,fc,rfl,hfc,eA,eC⟩:=bY;unfold maxLen at eA;have Pz:Hid _:=eC;generalize eO es k=t at *;obtain⟨nm,fs⟩:=t;dsimp only at *
   have c4:(0:Int)<=(k:Int):=by omega
   have cL:(k:Int)<(es.length:Int):=by omega
   have eL:Hid _:=ai
   have ei:Hid ((wr.alloc (AH #[U nm,I fa fs.length fc] 105)).heap[wr.heap.size]?=J (AH #[U nm,I fa fs.length fc] 105)):=by show(wr.heap.push _)[wr.heap.size]?=_;simp
   generalize hcs:dD (es.take k)=cs at *;go_wp2;obtain⟨B5,eh⟩:∃B5,wr.heap.size=B5:=⟨_,rfl⟩;have eK:Hid (jM (wr.alloc (AH #[U nm,I fa fs.length fc] 105)) w.heap.size u3 cs):=aq eL (aG);have eN:Hid (Bw w (wr.alloc (AH #[U nm,I fa fs.length fc] 105))):=hb.alloc hb.size _;rw[eh] at ei
   simp only[eh]
   generalize wr.alloc _=ws at *
   go_loopw [3,7,18] (λo _ i wx=>∃j:Nat,j<=fs.length/\i=AD AE j/\jM wx w.heap.size o (cs++(fs.take j).map (eu nm))/\Bw w wx/\wx.heap[B5]?=J (AH #[U nm,I fa fs.length fc] 105)) (λ_ _ i _=>fs.length-(intOf i).toNat)
   case atStart=>exact⟨0,AT _,rfl,by simpa using eK.out,eN.out,ei.out⟩
   case round =>
    obtain⟨j,hj,rfl,ai,ds,NJ⟩:=hrel
    have n0:wr.cell? ⟨B5,0,AF⟩=J (U nm):=by simp[World.cell?,NJ]
    have n1:wr.cell? ⟨B5,1,AF⟩=J (I fa fs.length fc):=by simp[World.cell?,NJ]
    have eo:=(Array.getElem?_eq_some_iff.1 NJ).1
    by_cases dm:j<fs.length
    .obtain ⟨fb,fo,rfl,hf⟩:=Pz.out j _ (bK dm)
     obtain⟨g0,g1,g2⟩:=hf.keep ds aE
     have HJ:Hid (cs++(fs.take (j+1)).map (eu nm)=cs++(fs.take j).map (eu nm)++[eu nm (eQ fs j)]/\(cs++(fs.take j).map (eu nm)).length+1<=1048576):=by
      refine⟨?_,?_⟩
      .have:fs[j]=eQ fs j:=by simp[eQ,dm]
       rw[AW dm,List.map_append,this];simp
      .have h1:=HK.out.2
       rw[HK.out.1] at h1
       simp at h1 ⊢;omega
     have Mv:Hid _:=ds;have eP:Hid _:=NJ;have eM:Hid _:=ai;generalize eQ fs j=t at *;generalize hcc:cs++(fs.take j).map (eu nm)=cc at *
     have hj0:(0:Int)<=(j:Int):=by omega
     have hj1:(j:Int)<(fs.length:Int):=by omega
     have zW:Hid (Bw wr (wr.alloc (AH #[AD AE t.what,AD AE t.num,U t.v] 107))):=(aG);go_wp2_with fail;refine(xA t nm _).mono ?_;rintro e w1⟨rfl,b6⟩;have aL:=aa zW b6;have ao:=aq eM aL;have aT:=(aL.block B5 eo).trans eP;have ev:=aL.size;have c6:=aa Mv aL;have hlen:=HJ.out.2
     go_wp2_with (at_builtin;refine wpList_append_own _ rfl _ _ 98 rfl w.heap.size 94 i0 (AG #[U An,AD AE 0,AD AE 0,U An]) 4 48 underlying98 hi et er ep rfl (by decide) _ _ _ rfl (ao.alloc _) ⟨w1.heap.size,0,AF⟩ 1 1 (kJ (eu nm t)) rfl rfl (EC _ _ _ _ _ _) (λx hx=>by simp[kJ,eu] at hx;rcases hx with rfl|rfl|rfl|rfl<;>rfl) (by unfold maxLen;omega) (by omega) (by have:=c6.size;simp;omega) ?_;intro v' w3 cg au dy)
     have cl:=(au.block B5 (by simp;omega) (aQ ao aT (by decide))).trans ((Below.heap_alloc _ _ _ (by omega)).trans aT)
     refine⟨⟨j+1,by omega,by go_num,?_,(c6.alloc c6.size _).grown au (by have:=c6.size;simp;omega) (dY ao),cl⟩,by simp[intOf];omega⟩
     rw[HJ.out.1];unfold jM;rw[xw,A0];exact cg
    .have tu:Hid (jM wr w.heap.size u3 (dD (es.take (k+1)))):=by
      show jM wr w.heap.size u3 _
      rw[HK.out.1]
      rw[As (by omega)] at ai;exact ai
     go_wp2
     exact⟨⟨k+1,by omega,by go_num,tu,ds⟩,by simp[intOf];omega⟩
  .have tu:Hid (jM wr w.heap.size u3 (dD es)):=by
    rw[As (by omega)] at ai;exact ai
   go_wp2;go_ret;exact⟨u3,rfl,tu,hb⟩
open Go.RowKit
def gV(a b:eH):Bool:=jW a.f b.f||(decide (a.f=b.f)&&decide (a.what<b.what))
def fH(a b:eH):Bool:=decide (a.f=b.f)&&decide (a.what=b.what)
theorem jk :fH a b=true↔a.f=b.f/\a.what=b.what:=by simp[fH]
theorem l8(h:gV a b=true)(k:gV b c=true):gV a c=true:=by
 simp only[gV,Bool.or_eq_true,AM,decide_eq_true_eq] at h k ⊢
 rcases h with h|⟨h1,h2⟩
 .rcases k with k|⟨k1,k2⟩
  .exact .inl (cR h k)
  .exact .inl (k1▸h)
 .rcases k with k|⟨k1,k2⟩
  .exact .inl (h1▸k)
  .exact .inr ⟨h1.trans k1,by omega⟩
theorem cN(h:gV a b=true):fH a b=false:=by
 cases hk:fH a b with
 |false=>rfl
 |true =>
  obtain⟨h1,h2⟩:=jk.1 hk
  simp only[gV,h1,h2,cd] at h
  simp at h
theorem qy :fH a b=fH b a:=by
 rw[Bool.eq_iff_iff,jk,jk];exact⟨λh=>⟨h.1.symm,h.2.symm⟩,λh=>⟨h.1.symm,h.2.symm⟩⟩
theorem KN(h:fH a b=true)(k:gV b c=true):gV a c=true:=by
 obtain⟨h1,h2⟩:=jk.1 h
 simp only[gV] at k ⊢
 rw[h1,h2];exact k
theorem O4(h:gV a b=false)(k:fH a b=false):gV b a=true:=by
 simp only[gV,Bool.or_eq_false_iff] at h
 cases hb:jW b.f a.f with
 |true=>simp[gV,hb]
 |false =>
  have e:=pO h.1 hb
  simp only[e,decide_true,AS,decide_eq_false_iff_not] at h
  simp only[fH,e,decide_true,AS,decide_eq_false_iff_not] at k
  simp only[gV,e,decide_true,AS,Bool.or_eq_true,decide_eq_true_eq]
  right;omega
def pE(x y:eH):Bool:=if x.num=y.num then jW y.v x.v else decide (y.num<x.num)
def noC:eH:=⟨⟨#[]⟩,0,0,⟨#[]⟩⟩
theorem TP(h:1<=x.num):pE x noC=true:=by
 unfold pE noC;dsimp only;rw[if_neg (by omega)];simp;omega
def pick(p:eH×eH):Option eH:=if pE p.2 p.1 then J p.2 else AF
def uq(A:List eH)(b:eH):Bool:=match A.find? λa=>fH a b with
 |some a=>pE b a
 |none=>true
theorem Kb(b:eH):uq [] b=true:=rfl
theorem yw(h:fH a b=false):uq (a::A) b=uq A b:=by
 unfold uq;rw[List.find?_cons,h]
theorem Kc(h:fH a b=true):uq (a::A) b=pE b a:=by
 unfold uq;rw[List.find?_cons,h]
theorem yx :∀{A:List eH},(∀a∈A,fH a b=false)->uq A b=true
 |[],_=>rfl
 |a::A,h=>by rw[yw (h a (by simp)),yx λx hx=>h x (by simp[hx])]
def ig(l:List eH):Prop:=l.Pairwise λa b=>gV a b=true
theorem LP{α:Type}{R:α->α->Prop}(ht:∀a b c,R a b->R b c->R a c)(l:List α)(h:∀i (hi:i+1<l.length),R (l[i]'(by omega)) l[i+1]):l.Pairwise R:=by
 induction l with
 |nil=>exact List.Pairwise.nil
 |cons a l ih =>
  have hl:l.Pairwise R:=ih λi hi=>by
   have:=h (i+1) (by simp;omega)
   simpa using this
  refine List.pairwise_cons.2 ⟨λb hb=>?_,hl⟩
  cases l with
  |nil=>cases hb
  |cons c l =>
   have h0:R a c:=by simpa using h 0 (by simp)
   rcases List.mem_cons.1 hb with rfl|hb
   .exact h0
   .exact ht _ _ _ h0 ((List.pairwise_cons.1 hl).1 b hb)
theorem bS(h:dP ks ps es=true):es.Pairwise λa b=>jW a.name b.name=true:=by
 simp only[dP,AM] at h
 have hn:gu es.length (λi=>dJ (eO es i).name&&mV es i)=true:=by
  have:=h.2.1
  simp only[kF,AM] at this
  exact this.2
 refine LP (R:=λa b:eF=>jW a.name b.name=true) (λa b c h k=>cR h k) es λi hi=>?_;have h1:=bj hn (i+1) hi
 simp only[AM] at h1
 have h2:=h1.2;rw[uk] at h2
 have e0:eO es i=es[i]:=by simp[eO,show i<es.length by omega]
 have e1:eO es (i+1)=es[i+1]:=by simp[eO,hi]
 rw[e0,e1] at h2
 simpa[lX,jW] using h2
theorem df(h:dP ks ps es=true)(he:e∈es):fieldsB ks ps e.name e.fs=true:=by
 simp only[dP,AM] at h
 obtain⟨i,hi,rfl⟩:=Aw he;have h1:=bj h.2.2 i hi
 have e0:eO es i=es[i]:=by simp[eO,hi]
 rw[e0] at h1;exact h1
theorem oI{l:List eT}(h:fieldsB ks ps n l=true):l.Pairwise λa b=>a.what<b.what:=by
 simp only[fieldsB,AM] at h
 refine LP (R:=λa b:eT=>a.what<b.what) (λa b c h k=>by omega) l λi hi=>?_
 have h1:=bj h.1 (i+1) hi
 simp only[AM] at h1
 have h2:=h1.1
 have e0:eQ l i=l[i]:=by simp[eQ,show i<l.length by omega]
 have e1:eQ l (i+1)=l[i+1]:=by simp[eQ,hi]
 simp only[lu,Nat.add_sub_cancel,e0,e1] at h2
 simp at h2
 omega
theorem vC{l:List eT}(h:fieldsB ks ps n l=true)(hf:f∈l):ib ks ps (eu n f)=true:=by
 simp only[fieldsB,AM] at h
 obtain⟨i,hi,rfl⟩:=Aw hf;have h1:=bj h.1 i hi
 simp only[AM] at h1
 have e0:eQ l i=l[i]:=by simp[eQ,hi]
 rw[e0] at h1;exact h1.2
theorem sV(h:dP ks ps es=true):ig (dD es):=by
 have hn:=bS h;have hf:∀e∈es,e.fs.Pairwise λa b=>a.what<b.what:=λe he=>oI (df h he);clear h
 induction es with
 |nil=>exact List.Pairwise.nil
 |cons e es ih =>
  have dT:=List.pairwise_cons.1 hn
  have e1:dD (e::es)=e.fs.map (eu e.name)++dD es:=by simp[dD]
  unfold ig;rw[e1,List.pairwise_append]
  refine⟨?_,ih dT.2 λx hx=>hf x (by simp[hx]),λa ha b hb=>?_⟩
  .rw [List.pairwise_map]
   exact(hf e (by simp)).imp λh=>by simp[gV,eu,h]
  .obtain ⟨f,_,rfl⟩:=List.mem_map.1 ha
   obtain⟨y,hy,hb⟩:=List.mem_flatMap.1 hb;obtain⟨g,_,rfl⟩:=List.mem_map.1 hb
   simp[gV,eu,dT.1 y hy]
theorem Oh(h:dP ks ps es=true):es.Pairwise λa b=>¬a.name=b.name :=
 (bS h).imp λh e=>by rw[e,cd] at h;cases h
open Go.RowKit
def gZ:List eH->eH->List eH
 |[],c=>[c]
 |a::l,c=>if gV a c then a::gZ l c else if fH a c then(if pE c a then c::l else a::l) else c::a::l
theorem JL(h:x∈gZ l c):x=c\/x∈l:=by
 induction l with
 |nil=>simp[gZ] at h;exact .inl h
 |cons a l ih =>
  rw[gZ] at h
  split at h
  .rcases List.mem_cons.1 h with rfl|h
   .exact .inr (by simp)
   .rcases ih h with h|h
    .exact .inl h
    .exact .inr (by simp[h])
  .split at h
   .split at h
    .rcases List.mem_cons.1 h with rfl|h
     .exact .inl rfl
     .exact .inr (by simp[h])
    .exact .inr h
   .rcases List.mem_cons.1 h with rfl|h
    .exact .inl rfl
    .exact .inr h
theorem JK(c:eH)(h:ig l):ig (gZ l c):=by
 induction l with
 |nil=>simp[gZ,ig]
 |cons a l ih =>
  have h':=List.pairwise_cons.1 h;rw[gZ]
  cases ab:gV a c with
  |true =>
   rw[if_pos rfl];refine List.pairwise_cons.2 ⟨λx hx=>?_,ih h'.2⟩
   rcases JL hx with rfl|hx
   .exact ab
   .exact h'.1 x hx
  |false =>
   rw[if_neg (by simp)]
   cases heq:fH a c with
   |true =>
    rw[if_pos rfl]
    split
    .exact List.pairwise_cons.2 ⟨λx hx=>KN (by rw[qy];exact heq) (h'.1 x hx),h'.2⟩
    .exact h
   |false =>
    rw[if_neg (by simp)]
    have an:=O4 ab heq;refine List.pairwise_cons.2 ⟨λx hx=>?_,h⟩
    rcases List.mem_cons.1 hx with rfl|hx
    .exact an
    .exact l8 an (h'.1 x hx)
theorem Fe(h:∀a∈l,gV a c=true):gZ l c=l++[c]:=by
 induction l with
 |nil=>rfl
 |cons a l ih=>rw[gZ,if_pos (h a (by simp)),ih λx hx=>h x (by simp[hx])];rfl
theorem M5(h:ig (l++m)):m.foldl gZ l=l++m:=by
 induction m generalizing l with
 |nil=>simp
 |cons c m ih =>
  rw[At,Fe,ih]
  .simp
  .simpa using h
  .have:=(List.pairwise_append.1 h).2.2
   exact λa ha=>this a ha c (by simp)
theorem zt(h:ig l):l.foldl gZ []=l:=by simpa using M5 (l:=[]) (by simpa using h)
theorem P6(c k:eH)(h:ig l):(gZ l c).find? (λa=>fH a k)=if fH c k then(if uq l c then J c else l.find? λa=>fH a k) else l.find? λa=>fH a k:=by
 induction l with
 |nil=>simp[gZ,Kb]
 |cons a l ih =>
  have h':=List.pairwise_cons.1 h;rw[gZ]
  cases ab:gV a c with
  |true =>
   rw[if_pos rfl,List.find?_cons,ih h'.2,yw (cN ab)]
   cases cu:fH a k with
   |true =>
    have dq:fH c k=false:=by
     cases dq:fH c k with
     |false=>rfl
     |true =>
      obtain⟨a1,a2⟩:=jk.1 cu;obtain⟨c1,c2⟩:=jk.1 dq;have:fH a c=true:=jk.2 ⟨a1.trans c1.symm,a2.trans c2.symm⟩;rw[cN ab] at this;cases this
    simp[dq,cu]
   |false=>simp[cu]
  |false =>
   rw[if_neg (by simp)]
   cases heq:fH a c with
   |true =>
    rw[if_pos rfl,Kc heq]
    have cu:fH a k=fH c k:=by
     obtain⟨a1,a2⟩:=jk.1 heq
     simp[fH,a1,a2]
    cases hl:pE c a with
    |true=>rw[if_pos rfl,List.find?_cons,List.find?_cons,cu];cases fH c k<;>simp
    |false=>rw[if_neg (by simp)];cases fH c k<;>simp
   |false =>
    have an:=O4 ab heq
    have cf:uq (a::l) c=true:=yx λx hx=>by
     rw[qy]
     rcases List.mem_cons.1 hx with rfl|hx
     .exact cN an
     .exact cN (l8 an (h'.1 x hx))
    rw[if_neg (by simp),cf,List.find?_cons]
    cases fH c k<;>simp
def fD(c:eH):eT:=⟨c.what,c.num,c.v⟩
def iH(es:List eF)(c:eH):List eF:=match es.getLast? with
 |some e=>if e.name=c.f then es.dropLast++[⟨e.name,e.fs++[fD c]⟩] else es++[⟨c.f,[fD c]⟩]
 |none=>[⟨c.f,[fD c]⟩]
theorem pQ(h:∀e,es.getLast?=J e->e.name≠c.f):iH es c=es++[⟨c.f,[fD c]⟩]:=by
 unfold iH
 cases hl:es.getLast? with
 |none=>rw[List.getLast?_eq_none_iff.1 hl];rfl
 |some e=>simp only[];rw[if_neg (h e hl)]
theorem um(h:e.name=c.f):iH (es++[e]) c=es++[⟨e.name,e.fs++[fD c]⟩]:=by
 unfold iH
 simp[h]
theorem Rn(n:ByteArray)(es:List eF)(fs gs:List eT):(gs.map (eu n)).foldl iH (es++[⟨n,fs⟩])=es++[⟨n,fs++gs⟩]:=by
 induction gs generalizing fs with
 |nil=>simp
 |cons g gs ih =>
  rw[Ax,At,um (c:=eu n g) rfl,ih]
  simp[fD,eu]
theorem U2(ad:e.fs≠[])(h:∀x,es.getLast?=J x->x.name≠e.name):(e.fs.map (eu e.name)).foldl iH es=es++[e]:=by
 obtain⟨n,fs⟩:=e
 cases fs with
 |nil=>exact absurd rfl ad
 |cons f fs =>
  rw[Ax,At,pQ (c:=eu n f) h];exact Rn n es [f] fs
theorem grp_app{xs:List eF}(ad:∀e∈xs,e.fs≠[])(h:(es++xs).Pairwise λa b=>¬a.name=b.name):(dD xs).foldl iH es=es++xs:=by
 induction xs generalizing es with
 |nil=>simp[dD]
 |cons x xs ih =>
  have e1:dD (x::xs)=x.fs.map (eu x.name)++dD xs:=by simp[dD]
  rw[e1,List.foldl_append,U2 (ad x (by simp)),ih (λe he=>ad e (by simp[he]))]
  .simp
  .simpa using h
  .intro y hy
   have hm:y∈es:=List.mem_of_getLast? hy
   exact(List.pairwise_append.1 h).2.2 y hm x (by simp)
theorem sH(ad:∀e∈es,e.fs≠[])(h:es.Pairwise λa b=>¬a.name=b.name):(dD es).foldl iH []=es:=by simpa using grp_app (es:=[]) ad (by simpa using h)
open Go.RowKit
def Hy(f g:eT):Bool:=pE (eu ⟨#[]⟩ f) (eu ⟨#[]⟩ g)
theorem TN(n m:ByteArray)(f g:eT):pE (eu n f) (eu m g)=Hy f g:=rfl
def iR:List eT->eT->List eT
 |[],f=>[f]
 |g::l,f=>if g.what<f.what then g::iR l f else if g.what=f.what then(if Hy f g then f::l else g::l) else f::g::l
def fu:List eF->ByteArray->eT->List eF
 |[],n,f=>[⟨n,[f]⟩]
 |e::es,n,f=>if e.name=n then⟨e.name,iR e.fs f⟩::es else if jW e.name n then e::fu es n f else⟨n,[f]⟩::e::es
theorem OL(l:List eT)(f:eT):iR l f≠[]:=by
 cases l with
 |nil=>simp[iR]
 |cons g l=>rw[iR];split<;>(try split)<;>(try split)<;>simp
theorem putE_ne(n:ByteArray)(f:eT)(h:∀e∈es,e.fs≠[]):∀e∈fu es n f,e.fs≠[]:=by
 induction es with
 |nil=>simp[fu]
 |cons x es ih =>
  have en:=ih λe he=>h e (by simp[he])
  rw[fu]
  split
  .intro e he
   rcases List.mem_cons.1 he with rfl|he
   .exact OL _ _
   .exact h e (by simp[he])
  .split
   .intro e he
    rcases List.mem_cons.1 he with rfl|he
    .exact h _ (by simp)
    .exact en e he
   .intro e he
    rcases List.mem_cons.1 he with rfl|he
    .simp
    .exact h e he
theorem PZ{x:eF}(h:x∈fu es n f):x.name=n \/ ∃e∈es,e.name=x.name:=by
 induction es with
 |nil=>simp[fu] at h;exact .inl (by rw[h])
 |cons e es ih =>
  rw[fu] at h
  split at h
  .rename_i he
   rcases List.mem_cons.1 h with rfl|h
   .exact .inl he
   .exact .inr ⟨x,by simp[h],rfl⟩
  .split at h
   .rcases List.mem_cons.1 h with rfl|h
    .exact .inr ⟨x,by simp,rfl⟩
    .rcases ih h with h|⟨y,hy,hn⟩
     .exact .inl h
     .exact .inr ⟨y,by simp[hy],hn⟩
   .rcases List.mem_cons.1 h with rfl|h
    .exact .inl rfl
    .exact .inr ⟨x,h,rfl⟩
theorem zo(n:ByteArray)(f:eT)(h:es.Pairwise λa b=>jW a.name b.name=true):(fu es n f).Pairwise λa b=>jW a.name b.name=true:=by
 induction es with
 |nil=>simp[fu]
 |cons e es ih =>
  have h':=List.pairwise_cons.1 h;rw[fu]
  split
  .exact List.pairwise_cons.2 ⟨λx hx=>h'.1 x hx,h'.2⟩
  .rename_i ad
   split
   .rename_i ab
    refine List.pairwise_cons.2 ⟨λx hx=>?_,ih h'.2⟩
    rcases PZ hx with hx|⟨y,hy,hn⟩
    .rw [hx];exact ab
    .rw [<-hn];exact h'.1 y hy
   .rename_i hnl
    have an:jW n e.name=true:=by
     cases hg:jW n e.name with
     |true=>rfl
     |false=>exact absurd (pO (by simpa using hnl) hg) ad
    refine List.pairwise_cons.2 ⟨λx hx=>?_,h⟩
    rcases List.mem_cons.1 hx with rfl|hx
    .exact an
    .exact cR an (h'.1 x hx)
theorem qg(h:es.Pairwise λa b=>jW a.name b.name=true):es.Pairwise λa b=>¬a.name=b.name :=
 h.imp λh e=>by rw[e,cd] at h;cases h
theorem P5(h:∀a∈l,gV a c=true):gZ (l++m) c=l++gZ m c:=by
 induction l with
 |nil=>rfl
 |cons a l ih=>rw[AJ,gZ,if_pos (h a (by simp)),ih λx hx=>h x (by simp[hx])];rfl
theorem QH(h:gV c a=true):gV a c=false/\fH a c=false:=by
 refine⟨?_,by rw[qy];exact cN h⟩
 cases hk:gV a c with
 |false=>rfl
 |true =>
  have:=cN (l8 h hk)
  simp[fH] at this
theorem Bu(h:∀a∈m,gV c a=true):gZ m c=c::m:=by
 cases m with
 |nil=>rfl
 |cons a m=>obtain⟨h1,h2⟩:=QH (h a (by simp));rw[gZ,h1,h2];simp
theorem Ff(n:ByteArray)(f:eT)(m:List eH)(hm:∀a∈m,gV (eu n f) a=true):∀fs:List eT,gZ (fs.map (eu n)++m) (eu n f)=(iR fs f).map (eu n)++m
 |[]=>by simpa[iR] using Bu hm
 |g::fs=>by
  rw[Ax,AJ,gZ,iR]
  have e1:gV (eu n g) (eu n f)=decide (g.what<f.what):=by simp[gV,eu,cd];rfl
  have e2:fH (eu n g) (eu n f)=decide (g.what=f.what):=by simp[fH,eu];rfl
  rw[e1,e2,TN,Ff n f m hm fs]
  by_cases h1:g.what<f.what
  .simp [h1]
  .by_cases h2:g.what=f.what
   .cases hl:Hy f g<;>simp[h2]
   .simp [h1,h2]
theorem ng(e:eF)(es:List eF):dD (e::es)=e.fs.map (eu e.name)++dD es:=by simp[dD]
theorem Dl(h:∀e∈es,jW n e.name=true):∀a∈dD es,gV (eu n f) a=true:=by
 intro a ha;obtain⟨e,he,ha⟩:=List.mem_flatMap.1 ha;obtain⟨g,_,rfl⟩:=List.mem_map.1 ha
 simp[gV,eu,h e he]
theorem F8(n:ByteArray)(f:eT)(h:es.Pairwise λa b=>jW a.name b.name=true):dD (fu es n f)=gZ (dD es) (eu n f):=by
 induction es with
 |nil=>simp[fu,dD,gZ]
 |cons e es ih =>
  have h':=List.pairwise_cons.1 h;rw[fu,ng]
  split
  .rename_i he
   subst he;rw[Ff _ _ _ (Dl h'.1),ng]
  .rename_i ad
   split
   .rename_i ab
    rw[P5,ng,ih h'.2];intro a ha;obtain⟨g,_,rfl⟩:=List.mem_map.1 ha
    simp[gV,eu,ab]
   .rename_i hnl
    have an:jW n e.name=true:=by
     cases hg:jW n e.name with
     |true=>rfl
     |false=>exact absurd (pO (by simpa using hnl) hg) ad
    rw[ng,Bu]
    .rw [ng];simp
    .rw [<-ng]
     exact Dl (f:=f) λx hx=>by
      rcases List.mem_cons.1 hx with rfl|hx
      .exact an
      .exact cR an (h'.1 x hx)
theorem zn(n:ByteArray)(f:eT)(h:es.Pairwise λa b=>jW a.name b.name=true)(ad:∀e∈es,e.fs≠[]):(gZ (dD es) (eu n f)).foldl iH []=fu es n f:=by
 rw[<-F8 n f h];exact sH (putE_ne n f ad) (qg (zo n f h))
theorem JH(n:ByteArray)(f:eT)(h:es.Pairwise λa b=>jW a.name b.name=true):(fu es n f).length=if es.any (λe=>decide (e.name=n)) then es.length else es.length+1:=by
 induction es with
 |nil=>simp[fu]
 |cons e es ih =>
  have h':=List.pairwise_cons.1 h;rw[fu]
  split
  .rename_i he;simp[he]
  .rename_i ad
   split
   .rw [List.length_cons,ih h'.2];simp[ad];split<;>simp
   .rename_i hnl
    have an:jW n e.name=true:=by
     cases hg:jW n e.name with
     |true=>rfl
     |false=>exact absurd (pO (by simpa using hnl) hg) ad
    have ew:es.any (λe=>decide (e.name=n))=false:=by
     rw[List.any_eq_false];intro x hx c9
     have c9:x.name=n:=by simpa using c9
     have:=cR an (h'.1 x hx);rw[c9,cd] at this;cases this
    simp[ad,ew]
open Go.RowKit
attribute [local go_sem] Later.cell Later.frozen
def ma(ks ps:List dE)(n:ByteArray)(l:List eT)(i:Nat):Bool:=(fB ks ps&&ib ks ps (eu n (eQ l i)))&&lu l i
def xg(ks ps:List dE)(n:ByteArray)(l:List eT):Bool:=dJ n&&(decide (0<l.length)&&gu l.length (ma ks ps n l))
theorem Iz(ks ps:List dE)(es:List eF):dP ks ps es=(fB ks ps&&(decide (es.length<=12)&&gu es.length λi=>xg ks ps (eO es i).name (eO es i).fs&&mV es i)):=by
 unfold dP kF
 cases hb:fB ks ps
 .rfl
 .rw [AS,AS,Bool.and_assoc,<-DJ]
  congr 1
  refine lT λj _=>?_
  have e:gu (eO es j).fs.length (ma ks ps (eO es j).name (eO es j).fs)=gu (eO es j).fs.length λi=>lu (eO es j).fs i&&ib ks ps (eu (eO es j).name (eQ (eO es j).fs i)) :=
   lT λi _=>by unfold ma;rw[hb,AS,Bool.and_comm]
  unfold xg fieldsB;rw[e];generalize(gu (eO es j).fs.length λi=>lu (eO es j).fs i&&ib ks ps (eu (eO es j).name (eQ (eO es j).fs i)))=q;generalize decide (0<(eO es j).fs.length)=r
  cases dJ (eO es j).name<;>cases mV es j<;>cases q<;>cases r<;>rfl
theorem Es(vk vp fv:Value)(ks ps:List dE)(n:ByteArray)(l:List eT)(w:World)(hk:dF w vk ks)(hp:dF w vp ps)(nk:Names ks)(np:Names ps)(hv:iY w fv l)(hn:n.size<=1048576)(hs:∀f∈l,f.v.size<=1048576) :
 Rb 72 #[AG #[vk,vp],AG #[U n,fv]] w (AI (xg ks ps n l)):=by
 have b3:Hid ((dF w vk ks/\dF w vp ps)/\(Names ks/\Names ps)):=⟨⟨hk,hp⟩,nk,np⟩;obtain⟨ak,ck,rfl,-,-,-⟩:=hk;obtain⟨ap,cp,rfl,-,-,-⟩:=hp;obtain⟨a,cap,rfl,cy,ay,hc⟩:=hv;unfold maxLen at ay;have HC:Hid (∀i f,l[i]?=J f->∃b off,a=J ⟨b,off,AF⟩/\qY w b (off+i*3) f):=hc;have HS:Hid (∀f∈l,f.v.size<=1048576):=hs;clear hc hs nk np
 have cx:Hid (OwnAt w ((w.alloc (AH #[I ak ks.length ck,I ap ps.length cp] 38)).alloc (AH #[U n,I a l.length cap] 105)) [[I ak ks.length ck,I ap ps.length cp],[U n,I a l.length cap]]):=((OwnAt.start w).push rfl _ _).push (by simp) _ _
 have HE:Hid (xg ks ps n l=(dJ n&&(decide (0<l.length)&&gu l.length (ma ks ps n l)))):=rfl
 go_enter func72,ntmps72
 go_wp2_with fail
 refine(bu n _ (by unfold maxLen;omega)).mono ?_
 generalize dJ n=nb at *;rintro e w1⟨rfl,rfl⟩
 cases nb
 .go_wp2
  go_ret
  exact⟨aw (by rw[HE.out];rfl),cx.out.below⟩
 by_cases hz:l.length=0
 .have b4:(((l.length:Nat):Int)==0)=true:=by simp[hz]
  have HF:Hid (xg ks ps n l=false):=by show _=_;rw[HE.out];simp[hz]
  clear hz;go_wp2;go_ret;exact⟨aw HF.out.symm,cx.out.below⟩
 have b4:(((l.length:Nat):Int)==0)=false:=by rw[beq_eq_false_iff_ne];omega
 have ba:Hid (xg ks ps n l=gu l.length (ma ks ps n l)):=by
  show _=_
  have:decide (0<l.length)=true:=by simp;omega
  rw[HE.out,this];rfl
 clear HE hz;go_wp2
 go_loopw [5,6] (λi _ wr=>∃k:Nat,k<=l.length/\i=AD AE k/\OwnAt w wr [[I ak ks.length ck,I ap ps.length cp],[U n,I a l.length cap]]/\Hid (∀j,j<k->ma ks ps n l j=true)) (λi _ _=>l.length-(intOf i).toNat)
 case atStart=>exact⟨0,AT _,rfl,cx.out,λj hj=>absurd hj (Aj _)⟩
 case round =>
  obtain⟨k,hk,rfl,ho,HA⟩:=hrel;have zV:Hid _:=ho;have y0:=(zV.has 1 _ rfl 0 _ rfl).1;have y1:=(zV.has 1 _ rfl 1 _ rfl).1
  by_cases ab:k<l.length
  .obtain ⟨b,off,rfl,hc⟩:=HC.out k _ (bK ab)
   obtain⟨d0,d1,d2⟩:=hc.keep ho.below aE;have eE:b<wr.heap.size:=am d0;have dd:(eQ l k).v.size<=1048576:=HS.out _ (AO (bK ab))
   have c4:(0:Int)<=(k:Int):=by omega
   have cL:(k:Int)<(l.length:Int):=by omega
   have zX:Hid (ma ks ps n l k=false->xg ks ps n l=false):=λh=>by rw[ba.out,bm ab h]
   have bn:Hid (Bw wr (wr.alloc (AH #[AD AE (eQ l k).what,AD AE (eQ l k).num,U (eQ l k).v] 107))):=(aG);have DR:Hid (OwnAt w (wr.alloc (AH #[AD AE (eQ l k).what,AD AE (eQ l k).num,U (eQ l k).v] 107)) [[I ak ks.length ck,I ap ps.length cp],[U n,I (J ⟨b,off,AF⟩) l.length cap]]):=ho.call bn.out
   have ze:Hid (qY (wr.alloc (AH #[AD AE (eQ l k).what,AD AE (eQ l k).num,U (eQ l k).v] 107)) wr.heap.size 0 (eQ l k)):=⟨by simp,by simp,by simp⟩
   have Vj:Hid (∀wx:World,Bw w wx->Rb 67 #[AG #[I ak ks.length ck,I ap ps.length cp],AG #[U n,AD AE (eQ l k).what,AD AE (eQ l k).num,U (eQ l k).v]] wx (AI (fB ks ps&&ib ks ps (eu n (eQ l k))))):=λwx hx=>o5 _ _ ks ps (eu n (eQ l k)) wx (b3.out.1.1.keep hx) (b3.out.1.2.keep hx) b3.out.2.1 b3.out.2.2 hn dd
   have ca:Hid (0<k->∃m,k=m+1/\qY wr b (off+m*3) (eQ l m)/\lu l k=!decide ((eQ l k).what<=(eQ l m).what)):=λhz=>by
    obtain⟨m,rfl⟩:∃m,k=m+1:=⟨k-1,by omega⟩
    obtain⟨b',cb,Ex,av⟩:=HC.out m _ (bK (by omega))
    cases Ex
    exact⟨m,rfl,av.keep ho.below aE,by simp[lu]⟩
   have KR:Hid (ma ks ps n l k=((fB ks ps&&ib ks ps (eu n (eQ l k)))&&lu l k)):=rfl;clear ho hc
   go_upto_region 7 with fail
   generalize wr.alloc (AH #[AD AE (eQ l k).what,AD AE (eQ l k).num,U (eQ l k).v] 107)=w2 at *;clear y0 y1 d0 d1 d2;have e0:w2.cell? ⟨w.heap.size,0,AF⟩=J (I ak ks.length ck):=(DR.out.has 0 _ rfl 0 _ rfl).1;have e1:w2.cell? ⟨w.heap.size,1,AF⟩=J (I ap ps.length cp):=(DR.out.has 0 _ rfl 1 _ rfl).1;have e2:w2.cell? ⟨w.heap.size+1,0,AF⟩=J (U n):=(DR.out.has 1 _ rfl 0 _ rfl).1;have e3:w2.cell? ⟨w.heap.size+1,1,AF⟩=J (I (J ⟨b,off,AF⟩) l.length cap):=(DR.out.has 1 _ rfl 1 _ rfl).1;have ez:w.heap.size+1<w2.heap.size:=am e2;have ey:w.heap.size<w2.heap.size:=am e0;obtain⟨n0,n1,n2⟩:=ze.out
   simp only[A1] at n1 n2
   have nz:wr.heap.size<w2.heap.size:=am n0;have ad:=Later.some w2
   have dr:b<w2.heap.size:=by have:=bn.out.size;omega
   have GF:Hid (∀(y:Later w2),Calls prog 67 #[AG #[I ak ks.length ck,I ap ps.length cp],AG #[U n,AD AE (eQ l k).what,AD AE (eQ l k).num,U (eQ l k).v]] y.val λe bP=>e=.returned (AI (fB ks ps&&ib ks ps (eu n (eQ l k))))/\∃z:Later w2,bP=z.val):=λy=>Calls.later (Vj.out y.val (aa DR.out.below y.below));clear Vj ze;generalize(fB ks ps&&ib ks ps (eu n (eQ l k)))=ft at *
   cases ft
   .refine ar ?_
    repeat(go_big_quiet_step (first|(go_at_call 67;exact GF.out _)))
    refine wpQuiet_nil ?_;rintro _⟨x,rfl⟩;go_wp2;go_ret
    exact⟨aw (zX (by rw[KR.out];rfl)).symm,aa DR.below x.below⟩
   .by_cases hz:0<k
    .obtain ⟨m,b5,hf,hh⟩:=ca.out hz
     have HH:Hid _:=hh;obtain⟨g0,g1,g2⟩:=hf.keep bn aE
     have b4:decide (0<k)=true:=by simp[hz]
     have ec:(0:Int)<=(m:Int):=by omega
     have eb:(m:Int)<(l.length:Int):=by omega
     have ea:(0:Int)<(m:Int)+1:=by omega
     have dv:IntKind.i64.wrap (m:Int)=(m:Int):=by rw[AN];omega
     have du:IntKind.i64.wrap ((m:Int)+1-1)=(m:Int):=by rw[AN];omega
     have HKM:Hid _:=b5;subst b5
     by_cases hq:(eQ l (m+1)).what<=(eQ l m).what
     .have dk:decide ((eQ l (m+1)).what<=(eQ l m).what)=true:=by simp[hq]
      have HQ:Hid (lu l (m+1)=false):=by show _=_;rw[HH.out,dk];rfl
      refine ar ?_
      repeat(go_big_quiet_step (first|(go_at_call 67;exact GF.out _)))
      refine wpQuiet_nil ?_;rintro _⟨x,rfl⟩;go_wp2;go_ret
      exact⟨aw (zX (by rw[KR.out,HQ.out];rfl)).symm,aa DR.below x.below⟩
     .have dk:decide ((eQ l (m+1)).what<=(eQ l m).what)=false:=by simp;omega
      have HQ:Hid (lu l (m+1)=true):=by show _=_;rw[HH.out,dk];rfl
      refine ar ?_
      repeat(go_big_quiet_step (first|(go_at_call 67;exact GF.out _)))
      refine wpQuiet_nil ?_;rintro _⟨x,rfl⟩;go_wp2
      exact⟨⟨m+1+1,by omega,by go_num,DR.call x.below,λj hj=>if e:j=m+1 then by rw[e,KR.out,HQ.out];rfl else HA j (by omega)⟩,by simp[intOf];omega⟩
    .have b4:decide (0<k)=false:=by simp;omega
     have HQ:Hid (lu l k=true):=by
      show lu l k=true
      obtain rfl:k=0:=by omega
      exact Gc l
     refine ar ?_
     repeat(go_big_quiet_step (first|(go_at_call 67;exact GF.out _)))
     refine wpQuiet_nil ?_;rintro _⟨x,rfl⟩;go_wp2
     exact⟨⟨k+1,by omega,by go_num,DR.call x.below,λj hj=>if e:j=k then by rw[e,KR.out,HQ.out];rfl else HA j (by omega)⟩,by simp[intOf];omega⟩
  .clear ho
   go_wp2;go_ret
   exact⟨aw (by rw[ba.out];exact(bg λj hj=>HA j (by omega)).symm),zV.below⟩
theorem cr(vk vp ve:Value)(ks ps:List dE)(es:List eF)(w:World)(hB:dW w vk vp ve ks ps es)(nB:jV ks ps es)(sB:ic ks ps es) :
 Rb 45 #[AG #[vk,vp,ve]] w (AI (dP ks ps es)):=by
 have HB:Hid (dW w vk vp ve ks ps es):=hB;have NB:Hid (jV ks ps es):=nB;have SB:Hid (ic ks ps es):=sB;obtain⟨⟨ak,ck,rfl,-,-,-⟩,⟨ap,cp,rfl,-,-,-⟩,⟨ae,ce,rfl,cy,ay,hc⟩⟩:=hB;unfold maxLen at ay;have HC:Hid (∀i f,es[i]?=J f->∃b off,ae=J ⟨b,off,AF⟩/\ou w b (off+i*2) f):=hc;clear nB sB hc;have ax:Hid (OwnAt w (w.alloc (AH #[I ak ks.length ck,I ap ps.length cp,I ae es.length ce] 41)) [[I ak ks.length ck,I ap ps.length cp,I ae es.length ce]]):=(OwnAt.start w).push rfl _ _;have HE:Hid (dP ks ps es=(fB ks ps&&(decide (es.length<=12)&&gu es.length λi=>xg ks ps (eO es i).name (eO es i).fs&&mV es i))):=Iz ks ps es
 go_enter func45,ntmps45
 go_wp2_with fail;refine(qd _ _ ks ps _ (HB.out.k.keep ax.out.below) (HB.out.p.keep ax.out.below) NB.out.k NB.out.p).mono ?_;rintro e w1⟨rfl,b6⟩;have oO:Hid (OwnAt w w1 _):=ax.out.call b6;have y0:w1.cell? ⟨w.heap.size,0,AF⟩=J (I ak ks.length ck):=(oO.out.has 0 _ rfl 0 _ rfl).1;have y1:w1.cell? ⟨w.heap.size,1,AF⟩=J (I ap ps.length cp):=(oO.out.has 0 _ rfl 1 _ rfl).1;have y2:w1.cell? ⟨w.heap.size,2,AF⟩=J (I ae es.length ce):=(oO.out.has 0 _ rfl 2 _ rfl).1;have ct:(dU ks&&dI ps)=fB ks ps:=rfl;rw[ct];clear ct
 cases hb:fB ks ps
 .have Mk:Hid (dP ks ps es=false):=by show _=_;rw[HE.out,hb];rfl
  go_wp2;go_ret;exact⟨aw Mk.out.symm,oO.out.below⟩
 by_cases h12:(12:Int)<(es.length:Int)
 .have Mk:Hid (dP ks ps es=false):=by
   show _=_
   have:decide (es.length<=12)=false:=by simp;omega
   rw[HE.out,this];cases fB ks ps<;>rfl
  clear hb;go_wp2;go_ret;exact⟨aw Mk.out.symm,oO.out.below⟩
 have ba:Hid (dP ks ps es=gu es.length λi=>xg ks ps (eO es i).name (eO es i).fs&&mV es i):=by
  show _=_
  have:decide (es.length<=12)=true:=by simp;omega
  rw[HE.out,this,hb];rfl
 clear HE hb;go_wp2;clear y0 y1 y2
 go_loopw [3] (λi wr=>∃k:Nat,k<=es.length/\i=AD AE k/\OwnAt w wr [[I ak ks.length ck,I ap ps.length cp,I ae es.length ce]]/\Hid (∀j,j<k->(xg ks ps (eO es j).name (eO es j).fs&&mV es j)=true)) (λi _=>es.length-(intOf i).toNat)
 case atStart=>exact⟨0,AT _,rfl,oO.out,λj hj=>absurd hj (Aj _)⟩
 case round =>
  obtain⟨k,hk,rfl,ho,HA⟩:=hrel;have zV:Hid (OwnAt w wr [[I ak ks.length ck,I ap ps.length cp,I ae es.length ce]]):=ho;have y0:wr.cell? ⟨w.heap.size,0,AF⟩=J (I ak ks.length ck):=(zV.out.has 0 _ rfl 0 _ rfl).1;have y1:wr.cell? ⟨w.heap.size,1,AF⟩=J (I ap ps.length cp):=(zV.out.has 0 _ rfl 1 _ rfl).1;have y2:wr.cell? ⟨w.heap.size,2,AF⟩=J (I ae es.length ce):=(zV.out.has 0 _ rfl 2 _ rfl).1;have yz:w.heap.size<wr.heap.size:=am y0
  by_cases ab:k<es.length
  .obtain ⟨b,off,rfl,hc⟩:=HC.out k _ (bo ab)
   obtain⟨fv,d0,d1,bY⟩:=hc.keep ho.below;have qL:Hid (iY wr fv (eO es k).fs):=bY;obtain⟨fa,fc,rfl,-,-,-⟩:=bY;have dz:b<wr.heap.size:=am d0;have HM:Hid (eO es k∈es):=AO (bo ab)
   have c4:(0:Int)<=(k:Int):=by omega
   have cL:(k:Int)<(es.length:Int):=by omega
   have ad:=Later.some wr
   have GE:Hid (∀y:Later wr,Calls prog 72 #[AG #[I ak ks.length ck,I ap ps.length cp],AG #[U (eO es k).name,.slice fa (eO es k).fs.length fc]] y.val λe bP=>e=.returned (AI (xg ks ps (eO es k).name (eO es k).fs))/\∃z:Later wr,bP=z.val) :=
    λy=>Calls.later (Es _ _ _ ks ps (eO es k).name (eO es k).fs y.val ((HB.out.k.keep zV.out.below).keep y.below) ((HB.out.p.keep zV.out.below).keep y.below) NB.out.k NB.out.p (qL.out.keep y.below) (SB.out.n _ HM.out) (SB.out.v _ HM.out))
   have ca:Hid (0<k->∃m,k=m+1/\ou wr b (off+m*2) (eO es m)/\mV es k=!lX (eO es m).name (eO es k).name):=λhz=>by
    obtain⟨m,rfl⟩:∃m,k=m+1:=⟨k-1,by omega⟩
    obtain⟨b',cb,Ex,av⟩:=HC.out m _ (bo (by omega))
    cases Ex
    exact⟨m,rfl,av.keep ho.below,uk es m⟩
   have zX:Hid ((xg ks ps (eO es k).name (eO es k).fs&&mV es k)=false->dP ks ps es=false):=λh=>by rw[ba.out,bm ab h]
   generalize hee:xg ks ps (eO es k).name (eO es k).fs=ee at *;have Vk:Hid (xg ks ps (eO es k).name (eO es k).fs=ee):=hee;clear hee ho hc
   cases ee
   .go_wp2
    refine ar ?_
    repeat(go_big_quiet_step (first|(go_at_call 72;exact GE.out _)))
    refine wpQuiet_nil ?_;rintro _⟨x,rfl⟩;go_wp2;go_ret;exact⟨aw (zX rfl).symm,aa zV.below x.below⟩
   .by_cases hz:0<k
    .obtain ⟨m,b5,⟨fv',g0,g1,NI⟩,hh⟩:=ca.out hz
     obtain⟨fa',fc',rfl,-,-,-⟩:=NI;have HH:Hid _:=hh
     have b4:decide (0<k)=true:=by simp[hz]
     have ec:(0:Int)<=(m:Int):=by omega
     have eb:(m:Int)<(es.length:Int):=by omega
     have ea:(0:Int)<(m:Int)+1:=by omega
     have dv:IntKind.i64.wrap (m:Int)=(m:Int):=by rw[AN];omega
     have du:IntKind.i64.wrap ((m:Int)+1-1)=(m:Int):=by rw[AN];omega
     subst b5;go_wp2;refine ar ?_
     repeat(go_big_quiet_step (first|(go_at_call 72;exact GE.out _)))
     refine wpQuiet_nil ?_;rintro _⟨x,rfl⟩;go_wp2
     .rename_i h
      go_ret
      exact⟨aw (zX (by rw[HH.out];unfold lX;rw[h];rfl)).symm,aa zV.below x.below⟩
     .rename_i h
      exact⟨⟨m+1+1,by omega,by go_num,zV.call x.below,λj hj=>if e:j=m+1 then by rw[e,Vk.out,HH.out];unfold lX;rw[h];rfl else HA j (by omega)⟩,by simp[intOf];omega⟩
    .have b4:decide (0<k)=false:=by simp;omega
     have HQ:Hid (mV es k=true):=by
      show mV es k=true
      obtain rfl:k=0:=by omega
      exact Gf es
     go_wp2;refine ar ?_
     repeat(go_big_quiet_step (first|(go_at_call 72;exact GE.out _)))
     refine wpQuiet_nil ?_;rintro _⟨x,rfl⟩;go_wp2
     exact⟨⟨k+1,by omega,by go_num,zV.call x.below,λj hj=>if e:j=k then by rw[e,Vk.out,HQ.out];rfl else HA j (by omega)⟩,by simp[intOf];omega⟩
  .clear ho
   go_wp2;go_ret
   exact⟨aw (by rw[ba.out];exact(bg λj hj=>HA j (by omega)).symm),zV.below⟩
end Go.Proofs.YtolokangldmodaaGreatDoor
