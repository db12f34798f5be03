import Derived.Test.YtolokangldmodaaGreatDoorPa00
import Derived.Test.YtolokangldmodaaGreatDoorNewsS
import Derived.Test.YtolokangldmodaaGreatDoorWay10
set_option maxRecDepth 100000
set_option maxHeartbeats 12800000
set_option linter.unusedSimpArgs false
set_option linter.unusedVariables false
open Go.Value renaming int->I,string->R,slice->U,bool->AH,agg->AG,tuple->AI
open Go.Obj renaming cells->AF
open Go.Ending renaming returned->AJ
open Option renaming none->AD,some->AE
open Go.IntKind renaming i64->J,wrap_i64->BD
open Bool renaming and_eq_true->AL
open Go.World renaming cell?->AM
open List renaming getElem_of_mem->AN,mem_of_getElem?->AT,drop_of_length_le->Aj,take_of_length_le->An,length_dropLast->Aw,length_append->Ax,drop_succ_cons->A0,cons_append->AK,drop_append->A6
open Go.RowKit.Below renaming refl->AS
open Go.Act renaming put->AW
open Nat renaming zero_le->As,le_refl->At,add_sub_cancel->A2,zero_add->A3,le_trans->A4
open Go Go.Proofs.YtolokangldmodaaGreatDoor
variable {l es:List eF} {v:Value} {k fr n N B B':Nat} {ks ps:List dE} {fs:List eT} {x:Int} {s:ByteArray} {P ws:List ByteArray} {w w':World} {e:eF}
open Go.Proofs.Tryz
namespace Go.Proofs.YtolokangldmodaaGreatDoor.Sd
open Go.RowKit
def mP(l:List eF)(v:ByteArray):Nat:=l.findIdx λe=>lX e.name v
def wX(l:List eF)(v:ByteArray):Bool:=decide (mP l v<l.length)&&decide ((eO l (mP l v)).name=v)
theorem yl{v:ByteArray}(hk:k<l.length)(h:lX (eO l k).name v=true)(hn:∀j,j<k->lX (eO l j).name v=false):mP l v=k:=by
 have e:∀j (hj:j<l.length),eO l j=l[j]:=λj hj=>by simp[eO,hj]
 unfold mP;rw[List.findIdx_eq hk]
 exact⟨by rw[<-e k hk];exact h,λj hj=>by rw[<-e j (by omega)];exact hn j hj⟩
theorem Fg{v:ByteArray}(h:∀j,j<l.length->lX (eO l j).name v=false):mP l v=l.length:=by
 unfold mP;rw[List.findIdx_eq_length];intro t ht;obtain⟨j,hj,rfl⟩:=AN ht;have:=h j hj
 simpa[eO,hj] using this
theorem hasE_at{v:ByteArray}(hk:k<l.length)(h:lX (eO l k).name v=true)(hn:∀j,j<k->lX (eO l j).name v=false):wX l v=decide ((eO l k).name=v):=by
 unfold wX;rw[yl hk h hn];simp[hk]
theorem Uo{v:ByteArray}(h:∀j,j<l.length->lX (eO l j).name v=false):wX l v=false:=by
 unfold wX;rw[Fg h];simp
theorem BM(v:Value)(l:List eF)(s:ByteArray)(w:World)(hv:kM w v l) :
 Rb 163 #[v,R s,.func (.func 156) #[] #[]] w (AI #[I J (mP l s:Nat),AH (wX l s)]):=by
 obtain⟨a,cap,rfl,eE,ct,hc⟩:=hv;unfold maxLen at ct;have HC:Hid (∀i t,l[i]?=AE t->∃b off,a=AE ⟨b,off,AD⟩/\ou w b (off+i*2) t):=hc;clear hc
 go_enter func163,ntmps163
 go_wp2
 go_loopw [7,8,12] (λ_ _ i wr=>∃k:Nat,k<=l.length/\i=I J k/\Bw w wr/\Hid (∀j,j<k->lX (eO l j).name s=false)) (λ_ _ i _=>l.length-(intOf i).toNat)
 case atStart=>exact⟨0,As _,rfl,AS _ _,λj hj=>absurd hj (Nat.not_lt_zero _)⟩
 case round =>
  obtain⟨k,hk,rfl,hb,HA⟩:=hrel
  by_cases au:k<l.length
  .obtain ⟨b,off,rfl,hc⟩:=HC.out k _ (bo au)
   obtain⟨fv,d0,d1,bb⟩:=hc.keep hb;obtain⟨af,cf,rfl,-,-,-⟩:=bb
   have dT:(0:Int)<=(k:Int):=by omega
   have eo:(k:Int)<(l.length:Int):=by omega
   have HX:Hid ((wr.alloc (AF #[R (eO l k).name,.slice af (eO l k).fs.length cf] 105)).heap[wr.heap.size]?=AE (AF #[R (eO l k).name,.slice af (eO l k).fs.length cf] 105 (0,0))):=Lv.aS wr _;have AO:Hid (Bw w (wr.alloc (AF #[R (eO l k).name,.slice af (eO l k).fs.length cf] 105))):=hb.alloc hb.size _;go_wp2_with fail;refine(lY (eO l k).name _ _).mono ?_;rintro e w1⟨rfl,ev⟩;obtain⟨n0,n1⟩:=bA (ah ev HX.out);have gB:Hid (Bw w w1):=aa AO.out ev;clear ev d0 d1 hc HX AO
   cases hg:lX (eO l k).name s
   .have gf:Op.bytesLess (eO l k).name.toList s.toList=true:=by unfold lX at hg;simpa using hg
    have HG:Hid (lX (eO l k).name s=false):=hg;clear hg;go_wp2
    exact⟨⟨k+1,by omega,by go_num,gB.out,λj hj=>if e:j=k then by rw[e];exact HG.out else HA.out j (by omega)⟩,by simp[intOf];omega⟩
   .have gf:Op.bytesLess (eO l k).name.toList s.toList=false:=by unfold lX at hg;simpa using hg
    have HP:Hid (mP l s=k):=yl au hg HA.out;have HH:Hid (wX l s=decide ((eO l k).name=s)):=hasE_at au hg HA.out;clear hg
    have hq:((eO l k).name.toList==s.toList)=decide ((eO l k).name=s):=by
     by_cases hx:(eO l k).name=s
     .rw [ci hx];simp[hx]
     .rw [bw hx];simp[hx]
    go_wp2_with fail;refine(lY (eO l k).name _ _).mono ?_;rintro e w2⟨rfl,ay⟩;go_wp2
    go_ret2
    exact⟨by rw[HP.out,HH.out];rfl,aa gB.out ay⟩
  .have xL:Hid (mP l s=l.length):=Fg λj hj=>HA.out j (by omega)
   have gE:Hid (wX l s=false):=Uo λj hj=>HA.out j (by omega)
   go_wp2
   go_ret2
   exact⟨by rw[xL.out,gE.out];rfl,hb⟩
theorem La{v:ByteArray}(h:∀i,i<l.length->mV l i=true):(wX l v=true->mP l v<l.length/\l.find? (λe=>decide (e.name=v))=AE (eO l (mP l v)))/\(wX l v=false->l.find? (λe=>decide (e.name=v))=AD):=by
 have lt:∀i j,i<j->j<l.length->jW (eO l i).name (eO l j).name=true:=by
  have one:∀i,i+1<l.length->jW (eO l i).name (eO l (i+1)).name=true:=λi hi=>by
   have:=h (i+1) hi;rw[uk,lQ] at this
   simpa using this
  intro i j eK
  induction j with
  |zero=>omega
  |succ j ih =>
   intro hj
   by_cases e:i=j
   .subst e;exact one i hj
   .exact cR (ih (by omega) (by omega)) (one j hj)
 have ee:∀j (hj:j<l.length),eO l j=l[j]:=λj hj=>by simp[eO,hj]
 by_cases hm:∃k,k<l.length/\(eO l k).name=v
 .obtain ⟨k,hk,he⟩:=hm
  have hp:mP l v=k:=yl hk (by rw[he,lQ,cd];rfl) λj hj=>by rw[<-he,lQ,lt j k hj hk];rfl
  have hh:wX l v=true:=by unfold wX;rw[hp];simp[hk,he]
  refine⟨λ_=>?_,λh0=>by rw[hh] at h0;cases h0⟩
  rw[hp];refine⟨hk,?_⟩;rw[ee k hk,List.find?_eq_some_iff_getElem]
  refine⟨by rw[<-ee k hk];simp[he],k,hk,rfl,λj hj=>?_⟩
  have h3:=lt j k hj hk
  rw[<-ee j (by omega)]
  have:¬(eO l j).name=v:=λe=>by rw[e,he,cd] at h3;cases h3
  simp[this]
 .have hh:wX l v=false:=by
   unfold wX;rw[Bool.and_eq_false_iff]
   by_cases hp:mP l v<l.length
   .right;exact decide_eq_false λhe=>hm ⟨_,hp,he⟩
   .left;exact decide_eq_false hp
  refine⟨λh0=>by rw[hh] at h0;(cases h0),λ_=>?_⟩
  rw[List.find?_eq_none];intro x hx;obtain⟨i,hi,rfl⟩:=AN hx
  have:¬(l[i]).name=v:=λe=>hm ⟨i,hi,by rw[ee i hi];exact e⟩
  simp[this]
def fU(ks ps:List dE)(es:List eF)(nm:ByteArray):Option eF:=bif dP ks ps es then(match es.find? λe=>decide (e.name=nm) with
 |some e=>bif mX e.fs then AE e else AD
 |none=>AD) else AD
def rD(ks:List dE)(o:Option eF)(rt:Value):Array Value:=match o with
 |some e=>rf ks e.name e.fs rt
 |none=>EF
theorem de(h:dP ks ps es=true):∀e∈es,∀f∈e.fs,eX ks ps f.what f.v=true:=λe he f hf=>by
 obtain⟨i,hi,rfl⟩:=AN he;unfold dP at h;rw[AL,AL] at h;have h1:=bj h.2.2 i hi
 have e1:eO es i=es[i]:=by simp[eO,hi]
 rw[e1] at h1;unfold fieldsB at h1;rw[AL] at h1;obtain⟨j,hj,rfl⟩:=AN hf;have h2:=bj h1.1 j hj
 have e2:eQ es[i].fs j=es[i].fs[j]:=by simp[eQ,hj]
 rw[e2,AL] at h2;have h3:=h2.2;unfold ib eu at h3;rw[AL,AL] at h3;exact h3.2.2
theorem Lx(h:dP ks ps es=true):∀i,i<es.length->mV es i=true:=λi hi=>by
 unfold dP at h;rw[AL,AL] at h;have h1:=h.2.1;unfold kF at h1;rw[AL] at h1;have h2:=bj h1.2 i hi;rw[AL] at h2;exact h2.2
theorem Dt(h:dP ks ps es=true):∀t∈ks,t.s.size<=1048576:=λt ht=>by
 unfold dP fB dU fF at h;rw[AL,AL,AL,AL] at h;obtain⟨i,hi,rfl⟩:=AN ht;have h2:=bj h.1.1.1.2 i hi;rw[AL] at h2;have h3:=h2.1
 have e1:at' ks i=ks[i]:=by simp[at',hi]
 rw[e1] at h3;unfold dJ fE at h3
 simp at h3
 omega
open Go.RowKit
open Go.RowKit
theorem Pn{α:Type}{p:α->Bool}{l:List α}{x:α}(hk:l[k]?=AE x)(hp:p x=true)(hn:∀(j:Nat) (y:α),j<k->l[j]?=AE y->p y=false):l.find? p=AE x:=by
 obtain⟨au,rfl⟩:=List.getElem?_eq_some_iff.1 hk;rw[List.find?_eq_some_iff_getElem]
 exact⟨hp,k,au,rfl,λj hj=>by simp[hn j _ hj (List.getElem?_eq_getElem (by omega))]⟩
theorem Pm{α:Type}{p:α->Bool}{l:List α}(hn:∀(j:Nat) (y:α),l[j]?=AE y->p y=false):l.find? p=AD:=by
 rw[List.find?_eq_none];intro x hx;obtain⟨i,hi,rfl⟩:=AN hx
 simp[hn i _ (List.getElem?_eq_getElem hi)]
theorem rW(vk vp ve:Value)(es:List eF)(n:ByteArray)(w:World)(he:kM w ve es) :
 Calls prog 68 #[AG #[vk,vp,ve],R n] w λe w'=>∃r:Int,e=AJ (I J r)/\((r=-1/\es.find? (λe=>decide (e.name=n))=AD) \/ ∃k:Nat,k<es.length/\r=(k:Int)/\es.find? (λe=>decide (e.name=n))=AE (eO es k))/\Bw w w' :=
 Go.Proofs.YtolokangldmodaaGreatDoor.rW vk vp ve es n w he
def qD(fs:List eT)(x:Int):Option eT:=fs.find? λf=>decide (f.what=x)
def oC(fs:List eT)(x:Int):ByteArray:=match qD fs x with
 |some f=>f.v
 |none=>⟨#[]⟩
theorem fndV_at(hk:k<fs.length)(h:(eQ fs k).what=x)(hn:∀j,j<k->¬(eQ fs j).what=x):qD fs x=AE (eQ fs k):=by
 have e:∀j (hj:j<fs.length),eQ fs j=fs[j]:=λj hj=>by simp[eQ,hj]
 unfold qD;rw[e k hk,List.find?_eq_some_iff_getElem]
 exact⟨by rw[<-e k hk];simp[h],k,hk,rfl,λj hj=>by
  have:=hn j hj
  rw[e j (by omega)] at this
  simp[this]⟩
theorem Pk(hn:∀j,j<fs.length->¬(eQ fs j).what=x):qD fs x=AD:=by
 unfold qD;rw[List.find?_eq_none];intro y hy;obtain⟨i,hi,rfl⟩:=AN hy;have:=hn i hi
 have e:eQ fs i=fs[i]:=by simp[eQ,hi]
 rw[e] at this
 simp[this]
theorem KA(nm:ByteArray)(fv:Value)(fs:List eT)(x:Int)(w:World)(hf:iY w fv fs) :
 Rb 89 #[AG #[R nm,fv],I J x] w (R (oC fs x)):=by
 obtain⟨a,cap,rfl,eE,ct,hc⟩:=hf;unfold maxLen at ct;have HC:Hid (∀i f,fs[i]?=AE f->∃b off,a=AE ⟨b,off,AD⟩/\qY w b (off+i*3) f):=hc;clear hc;have HB:Hid (Bw w (w.alloc (AF #[R nm,U a fs.length cap] 105))):=(aG)
 have q0:(w.alloc (AF #[R nm,U a fs.length cap] 105)).cell? ⟨w.heap.size,1,AD⟩=AE (U a fs.length cap):=by simp[go_sem]
 have QC:Hid (∀i f,fs[i]?=AE f->∃b off,a=AE ⟨b,off,AD⟩/\qY (w.alloc (AF #[R nm,U a fs.length cap] 105)) b (off+i*3) f):=λi f h=>by
  obtain⟨b,off,h1,h2⟩:=HC.out i f h;exact⟨b,off,h1,h2.keep HB.out aE⟩
 go_enter func89,ntmps89
 go_wp2_with fail;generalize(w.alloc (AF #[R nm,U a fs.length cap] 105))=w1 at *
 go_loopw [5] (λi wr=>∃k:Nat,k<=fs.length/\i=I J k/\wr=w1/\Hid (∀j,j<k->¬(eQ fs j).what=x)) (λi _=>fs.length-(intOf i).toNat)
 case atStart=>exact⟨0,As _,rfl,rfl,λj hj=>absurd hj (Nat.not_lt_zero _)⟩
 case round =>
  obtain⟨k,hk,rfl,fm,HA⟩:=hrel;subst fm
  by_cases au:k<fs.length
  .obtain ⟨b,off,rfl,d0,d1,d2⟩:=QC.out k _ (bK au)
   have dT:(0:Int)<=(k:Int):=by omega
   have eo:(k:Int)<(fs.length:Int):=by omega
   by_cases hx:(eQ fs k).what=x
   .have fk:((eQ fs k).what==x)=true:=by simp[hx]
    have HE:Hid (oC fs x=(eQ fs k).v):=by show _=_;unfold oC;rw[fndV_at au hx HA.out]
    go_wp2;go_ret
    exact⟨by rw[HE.out];rfl,HB.out⟩
   .have fk:((eQ fs k).what==x)=false:=by simp[hx]
    have HN:Hid (∀j,j<k+1->¬(eQ fs j).what=x):=λj hj=>if e:j=k then by rw[e];exact hx else HA.out j (by omega)
    go_wp2
    exact⟨⟨k+1,by omega,by go_num,by first|rfl|trivial,HN.out⟩,by simp[intOf];omega⟩
  .have HE:Hid (oC fs x=⟨#[]⟩):=by show _=_;unfold oC;rw[Pk λj hj=>HA.out j (by omega)]
   go_wp2;go_ret
   exact⟨by rw[HE.out];rfl,HB.out⟩
def Vn(fs:List eT):Prop:=∀i,i<fs.length->lu fs i=true
theorem Pt(h:Vn fs):∀i j,i<j->j<fs.length->(eQ fs i).what<(eQ fs j).what:=by
 have one:∀i,i+1<fs.length->(eQ fs i).what<(eQ fs (i+1)).what:=λi hi=>by
  have:=h (i+1) hi;unfold lu at this
  simp at this
  exact this
 intro i j eK
 induction j with
 |zero=>omega
 |succ j ih =>
  intro hj
  by_cases e:i=j
  .subst e;exact one i hj
  .have h1:=ih (by omega) (by omega)
   have h2:=one j hj
   omega
theorem yG :∀(fs:List eT),(∀i j,i<j->j<fs.length->(eQ fs i).what<(eQ fs j).what)->dG fs x=qD fs x
 |[],_=>rfl
 |f::r,h=>by
  have hr:∀i j,i<j->j<r.length->(eQ r i).what<(eQ r j).what:=λi j eK hj=>by
   have:=h (i+1) (j+1) (by omega) (by simp;omega)
   simpa[eQ] using this
  have ih:=yG r hr;unfold qD at ih ⊢;rw[dG,ih]
  by_cases hf:f.what=x
  .have dd:r.find? (λf=>decide (f.what=x))=AD:=by
    rw[List.find?_eq_none];intro y hy;obtain⟨i,hi,rfl⟩:=AN hy
    have h1:=h 0 (i+1) (by omega) (by simp;omega)
    have h2:(eQ (f::r) (i+1))=r[i]:=by simp[eQ,hi]
    have h3:eQ (f::r) 0=f:=by simp[eQ]
    rw[h2,h3,hf] at h1
    simp;omega
   rw[dd]
   simp[hf]
  .rw [List.find?_cons_of_neg (by simp[hf])]
   cases r.find? (λf=>decide (f.what=x)) with
   |none=>simp[hf]
   |some g=>rfl
theorem yX(h:dP ks ps es=true):∀e∈es,Vn e.fs:=λe he=>by
 obtain⟨i,hi,rfl⟩:=AN he;unfold dP at h;rw[AL,AL] at h;have h1:=bj h.2.2 i hi
 have e1:eO es i=es[i]:=by simp[eO,hi]
 rw[e1] at h1;unfold fieldsB at h1;rw[AL] at h1;intro j hj;have h2:=bj h1.1 j hj;rw[AL] at h2;exact h2.1
theorem xZ(fs:List eT)(x:Int):jD fs x=(qD fs x).isSome:=by
 by_cases h:∃k,k<fs.length/\(eQ fs k).what=x
 .obtain ⟨k,hk,he⟩:=h
  rw[lG hk he]
  cases hf:qD fs x with
  |some f=>rfl
  |none =>
   exfalso
   unfold qD at hf;rw[List.find?_eq_none] at hf;have:=hf (eQ fs k) (AT (bK hk))
   simp[he] at this
 .rw [zm λj hj e=>h ⟨j,hj,e⟩,Pk λj hj e=>h ⟨j,hj,e⟩]
  rfl
theorem Lm(fs:List eT):kC fs=decide (oC fs 5=jb):=by
 unfold kC oC qD
 cases fs.find? (λf=>decide (f.what=5)) with
 |some f=>rfl
 |none=>symm;exact decide_eq_false (by intro h;have:=congrArg ByteArray.size h;revert this;decide)
open Go.RowKit
theorem tX(s:ByteArray)(w:World)(hs:s.size<=1048576) :
 Calls prog 19 #[R s,.int .u8 32] w λe w'=>∃v,e=AJ v/\gY w' w.heap.size v (dA s)/\Bw w w' :=
 (FM s w hs).mono λ_ _ ⟨v,ws,h1,h2,h3,h4⟩=>⟨v,h1,Ir h3▸h2.1,h4⟩
end Go.Proofs.YtolokangldmodaaGreatDoor.Sd
namespace Go.Proofs.YtolokangldmodaaGreatDoor.Tx
open Go.RowKit Sd
def kr(cur:List UInt8):List UInt8->List (List UInt8)
 |[]=>[cur]
 |c::r=>if c=10 then cur::kr [] r else kr (cur++[c]) r
def jC(s:ByteArray)(fr k:Nat)(P:List ByteArray):Prop:=P.map bytes++kr (bytes (s.extract fr k)) ((bytes s).drop k)=kr [] (bytes s)
theorem jC.start(s:ByteArray):jC s 0 0 []:=by
 unfold jC;rw[aP]
 simp
theorem jC.nl(h:jC s fr k P)(hk:k<s.size)(hc:s[k]=10):jC s (k+1) (k+1) (P++[s.extract fr k]):=by
 unfold jC at h ⊢;rw[drop_cons s k hk,kr,if_pos hc] at h;rw[<-h,aP s (k+1) (k+1)]
 simp
theorem jC.other(h:jC s fr k P)(ha:fr<=k)(hk:k<s.size)(hc:¬s[k]=10):jC s fr (k+1) P:=by
 unfold jC at h ⊢;rw[drop_cons s k hk,kr,if_neg hc] at h;rw[<-h,BO s fr k ha hk]
theorem jC.fin(h:jC s fr s.size P):(P++[s.extract fr s.size]).map bytes=kr [] (bytes s):=by
 unfold jC at h
 rw[Aj (by rw[aF];omega),kr] at h
 rw[<-h];simp
theorem OB(c:UInt8):(((c.toNat:Nat):Int)==10)=(c==10):=by
 rw[Bool.eq_iff_iff]
 simp only[beq_iff_eq]
 constructor
 .intro h
  apply UInt8.toNat_inj.1
  have:c.toNat=10:=by omega
  simpa using this
 .rintro rfl;rfl
def gz(s:ByteArray):List ByteArray:=(kr [] (bytes s)).map λl=>⟨⟨l⟩⟩
theorem TE(h:ws.map bytes=kr [] (bytes s)):ws=gz s:=by
 unfold gz;rw[<-h,List.map_map]
 have:((λl=>(⟨⟨l⟩⟩:ByteArray))∘bytes)=id:=by funext x;rfl
 rw[this,List.map_id]
theorem CF(s:ByteArray)(w:World)(hs:s.size<=1048576) :
 Calls prog 19 #[R s,.int .u8 10] w λe w'=>∃v,e=AJ v/\gY w' w.heap.size v (gz s)/\Bw w w':=by
 obtain⟨i0,hi,dv,du,dt⟩:=info_parts og
 go_enter func19,ntmps19
 go_wp2
 go_loopw [5,6,7] (λo f i wr=>∃(k fr:Nat) (P:List ByteArray),fr<=k/\k<=s.size/\i=I J k/\f=I J fr/\P.length<=k/\wr.ownsRow w.heap.size 9 1 o P.length (P.map R)/\Bw w wr/\Hid (jC s fr k P)) (λ_ _ i _=>s.size-(intOf i).toNat)
 case atStart=>exact⟨0,0,[],At _,As _,rfl,rfl,At _,World.ownsRow_made w #[] 0 aE (As _) rfl,(aG),jC.start s⟩
 case round =>
  obtain⟨k,fr,P,gg,hk,rfl,rfl,cl,an,hb,HI⟩:=hrel
  by_cases au:k<s.size
  .by_cases hc:s[k]=10
   .have h1:(((s[k].toNat:Nat):Int)==10)=true:=by rw[OB];simpa using hc
    have HC:Hid (s[k]=10):=hc;clear hc
    go_wp2_with (at_builtin;refine wpList_append_own _ rfl _ _ 28 rfl w.heap.size 9 i0 (R ByteArray.empty) 1 16 underlying28 hi dv du dt rfl (by decide) _ _ _ rfl (an.alloc _) ⟨wr.heap.size,0,AD⟩ 1 1 [R (s.extract fr k)] rfl rfl (cell_one_new _ _ _) (λx hx=>by simp at hx;subst hx;rfl) (by unfold maxLen;omega) (by omega) (by have:=hb.size;simp;omega) ?_;intro v' w3 bn aL dk)
    refine⟨⟨k+1,k+1,P++[s.extract fr k],At _,by omega,by go_num,by go_num,by simp;omega,?_,(hb.alloc hb.size _).grown aL (by have:=hb.size;simp;omega) (dY an),HI.out.nl au HC.out⟩,by simp[intOf];omega⟩
    simpa using bn
   .have h1:(((s[k].toNat:Nat):Int)==10)=false:=by rw[OB];simpa using hc
    have HC:Hid (¬s[k]=10):=hc;clear hc;go_wp2
    exact⟨⟨k+1,fr,P,by omega,by omega,by go_num,rfl,by omega,an,hb,HI.out.other gg au HC.out⟩,by simp[intOf];omega⟩
  .have HK:Hid (k=s.size):=by show k=s.size;omega
   go_wp2_with (at_builtin;refine wpList_append_own _ rfl _ _ 28 rfl w.heap.size 9 i0 (R ByteArray.empty) 1 16 underlying28 hi dv du dt rfl (by decide) _ _ _ rfl (an.alloc _) ⟨wr.heap.size,0,AD⟩ 1 1 [R (s.extract fr s.size)] rfl rfl (cell_one_new _ _ _) (λx hx=>by simp at hx;subst hx;rfl) (by unfold maxLen;omega) (by omega) (by have:=hb.size;simp;omega) ?_;intro v' w3 bn aL dk)
   go_ret
   have HW:Hid ((P++[s.extract fr s.size]).map bytes=kr [] (bytes s)):=by
    have:=HI.out;rw[HK.out] at this;exact this.fin
   refine⟨v',rfl,TE HW.out▸gY.snoc rfl (by simpa using bn),(hb.alloc hb.size _).grown aL (by have:=hb.size;simp;omega) (dY an)⟩
def nR(l:List UInt8):Prop:=∀c∈l,c≠10
theorem K9:∀l:List UInt8,nR l \/ ∃a r,l=a++10::r/\nR a
 |[]=>.inl (λc hc=>by cases hc)
 |c::l=>by
  by_cases h:c=10
  .exact .inr ⟨[],l,by simp[h],λc hc=>by cases hc⟩
  .rcases K9 l with hl|⟨a,r,rfl,ha⟩
   .exact .inl (λx hx=>(List.mem_cons.1 hx).elim (λe=>by rw[e];exact h) (hl x))
   .exact .inr ⟨c::a,r,rfl,λx hx=>(List.mem_cons.1 hx).elim (λe=>by rw[e];exact h) (ha x)⟩
theorem pK:∀(l cur:List UInt8),nR l->kr cur l=[cur++l]
 |[],cur,_=>by simp[kr]
 |c::l,cur,h=>by
  rw[kr,if_neg (h c (by simp)),pK l _ (λx hx=>h x (by simp[hx]))]
  simp
theorem yR:∀(a cur r:List UInt8),nR a->kr cur (a++10::r)=(cur++a)::kr [] r
 |[],cur,r,_=>by simp[kr]
 |c::a,cur,r,h=>by
  rw[AK,kr,if_neg (h c (by simp)),yR a _ r (λx hx=>h x (by simp[hx]))]
  simp
theorem Lj:∀(l cur:List UInt8),1<=(kr cur l).length
 |[],_=>by simp[kr]
 |c::l,cur=>by
  rw[kr]
  split
  .simp
  .exact Lj l _
theorem FU:∀l:List UInt8,nR l->Lib.indexByte l 10=-1
 |[],_=>rfl
 |c::l,h=>by
  have hc:(c==10)=false:=by simpa using h c (by simp)
  rw[Lib.indexByte,hc,FU l (λx hx=>h x (by simp[hx]))]
  rfl
theorem yM:∀(a r:List UInt8),nR a->Lib.indexByte (a++10::r) 10=a.length
 |[],r,_=>by simp[Lib.indexByte]
 |c::a,r,h=>by
  have hc:(c==10)=false:=by simpa using h c (by simp)
  have ih:=yM a r (λx hx=>h x (by simp[hx]))
  rw[AK,Lib.indexByte,hc,ih]
  have:((a.length:Int)==-1)=false:=by simp
  simp[this]
def IP:ByteArray:=⟨#[10]⟩
theorem yL(s:ByteArray):Lib.indexB s IP=Lib.indexByte (bytes s) 10:=Lib.index_one _ _
theorem Jv(k:Nat)(s:ByteArray)(h:nR (bytes s)):Lib.splitB IP 0 k s=[s] :=
 Lib.splitB_miss IP 0 k s (by rw[yL,FU _ h])
theorem Ju(k:Nat)(s:ByteArray)(a r:List UInt8)(hs:bytes s=a++10::r)(h:nR a):Lib.splitB IP 0 (k+1) s=mkS a::Lib.splitB IP 0 k (mkS r):=by
 have hz:s.size=a.length+(r.length+1):=by rw[<-aF,hs];simp
 rw[Lib.splitB_hit IP 0 k s a.length (by rw[yL,hs,yM _ _ h])]
 have e1:s.extract 0 (a.length+0)=mkS a:=bd (by rw[aP,hs,b8];simp)
 have e2:s.extract (a.length+IP.size) s.size=mkS r:=bd (by
  have:IP.size=1:=rfl;rw[aP,hs,b8,this,hz]
  simp only[A6,A0,show a.length+1-a.length=1 by omega,List.drop_zero]
  rw[Aj (by omega),List.nil_append,An (by omega)])
 rw[e1,e2]
open Go.RowKit Sd
theorem cJ{P:Prop}(h:P):Hid P:=h
theorem Cs(h:nR (bytes s)):gz s=[s]:=by
 unfold gz;rw[pK _ _ h]
 rfl
theorem Cr{a r:List UInt8}(hs:bytes s=a++10::r)(h:nR a):gz s=mkS a::gz (mkS r):=by
 unfold gz;rw[hs,yR _ _ _ h]
 rfl
theorem yF(s:ByteArray):1<=(gz s).length:=by
 unfold gz;rw[List.length_map];exact Lj _ _
theorem rE:∀(n:Nat) (s:ByteArray),s.size<=n->Lib.splitB IP 0 (Lib.countB s IP) s=gz s
 |n,s,hn=>by
  rcases K9 (bytes s) with h|⟨a,r,hs,h⟩
  .rw [Jv _ _ h,Cs h]
  .have hi:Lib.indexB s IP=(a.length:Int):=by rw[yL,hs,yM _ _ h]
   have cx:s.size=a.length+1+r.length:=by rw[<-aF,hs];simp;omega
   have hr:s.extract (a.length+IP.size) s.size=mkS r:=by
    refine bd ?_
    rw[aP,hs,b8,show IP.size=1 from rfl,cx]
    simp only[A6,A0,show a.length+1-a.length=1 by omega,List.drop_zero]
    rw[Aj (by omega),List.nil_append,An (by omega)]
   rw[Lib.countB_hit s IP a.length (by decide) hi,hr,Nat.add_comm 1,Ju _ _ _ _ hs h,Cr hs h]
   cases n with
   |zero=>omega
   |succ n=>rw[rE n (mkS r) (by rw[cM];omega)]
def gF(s:ByteArray):List ByteArray:=if(gz s).getLast?=AE ⟨#[]⟩ then(gz s).dropLast else gz s
theorem AZ{l:List ByteArray}(h:1<=l.length):l.getLast?=AE (dC l (l.length-1)):=by
 rw[List.getLast?_eq_getElem?,bp (by omega)]
theorem Jp{g o c:Nat}{l:List ByteArray}(h:dR w (U (AE ⟨g,o,AD⟩) n c) l)(hn:n=l.length)(hl:1<=l.length):dR w (U (AE ⟨g,o,AD⟩) (l.length-1) c) l.dropLast:=by
 obtain⟨g',o',c',e,h1,h2,h4⟩:=h
 injection e with e1 e2 e3
 injection e1 with e1
 injection e1 with e1 e5
 subst e1;subst e5;subst e3
 refine⟨g,o,c,by rw[Aw],by rw[Aw];omega,h2,λi x hx=>h4 i x ?_⟩
 have hi:=(List.getElem?_eq_some_iff.1 hx).1;rw[Aw] at hi;rw[List.getElem?_dropLast,if_pos hi] at hx;exact hx
theorem zF(s:ByteArray)(w:World)(hs:s.size<=1048576)(hm:jP w) :
 Calls prog 15 #[R s] w λe w'=>∃v,e=AJ v/\dR w' v (gF s)/\Bw w w':=by
 obtain⟨m,hm⟩:=hm
 have HC:=cJ (strings_Split s IP m w (by omega) hm (by decide))
 rw[rE s.size s aE] at HC
 go_enter func15,ntmps15
 go_wp2_with fail;refine HC.out.mono ?_;rintro e w1⟨rfl,rfl⟩
 have eN:Lib.countB s IP+1=(gz s).length:=by
  rw[<-rE s.size s aE]
  exact(Lib.splitB_all IP (by decide) 0 _ s rfl).symm
 have ef:=Lib.countB_le IP (by decide) s.size s aE
 have HB:Hid (Bw w (w.alloc (AF ((gz s).map R).toArray 9))):=(aG)
 have eL:(w.alloc (AF ((gz s).map R).toArray 9)).heap[w.heap.size]?=AE (AF ((gz s).map R).toArray 9 (0,0)):=by show(w.heap.push _)[w.heap.size]?=_;simp
 have HS:Hid (dR (w.alloc (AF ((gz s).map R).toArray 9)) (.slice (AE ⟨w.heap.size,0,AD⟩) (gz s).length (gz s).length) (gz s)) :=
  ⟨w.heap.size,0,_,rfl,At _,by unfold maxLen;omega,λi x hx=>by simp only[AM,A3];rw[eL];simp[hx]⟩
 rw[eN];have ao:=yF s
 have fY:(gz s).length<=1048577:=by omega
 have HL:Hid (gF s=if dC (gz s) ((gz s).length-1)=⟨#[]⟩ then(gz s).dropLast else gz s):=by
  show _=_
  unfold gF;rw[AZ ao]
  simp only[Option.some.injEq]
 clear eN eL ef HC hm;generalize(w.alloc (AF ((gz s).map R).toArray 9))=w1 at *;generalize gz s=l at *
 obtain⟨n1,bY⟩:∃n1,l.length=n1+1:=⟨l.length-1,by omega⟩
 have hq:w1.cell? ⟨w.heap.size,n1,AD⟩=AE (R (dC l n1)):=by
  obtain⟨g',o',c',e,h1,h2,h4⟩:=HS.out
  injection e with e1 e2 e3
  injection e1 with e1
  injection e1 with e1 e5
  have:=h4 n1 _ (bp (by omega))
  rw[<-e1,<-e5,A3] at this;exact this
 have HP:=cJ (Jp HS.out rfl ao)
 have fo:IntKind.i64.wrap ((n1:Int)+1-1)=(n1:Int):=by rw[BD];omega
 have cy:(0:Int)<=(n1:Int):=by omega
 rw[bY] at HS HP HL fY;rw[bY];rw[A2] at HP HL
 have eb:(n1:Int)<(n1:Int)+1:=by omega
 clear ao bY
 by_cases hx:dC l n1=⟨#[]⟩
 .rw [if_pos hx] at HL
  rw[hx] at hq;go_wp2_with fail;go_ret
  exact⟨_,rfl,by rw[HL.out];exact HP.out,HB.out⟩
 .rw [if_neg hx] at HL
  have fj:((dC l n1).toList==[])=false:=(show(⟨#[]⟩:ByteArray).toList=[] by decide +kernel)▸bw (b:=⟨#[]⟩) hx
  generalize dC l n1=x at *;go_wp2_with fail;go_ret
  exact⟨_,rfl,by rw[HL.out];exact HS.out,HB.out⟩
open Go.RowKit Sd
def nG(s:ByteArray):Bool:=decide ((10000:Int)<(s.size:Int))||decide ((200:Int)<((gF s).length:Int))
theorem Ji(s:ByteArray)(w:World)(hs:s.size<=1048576)(hm:jP w) :
 Rb 13 #[R s] w (AH (nG s)):=by
 have HC:=cJ (zF s w hs hm)
 by_cases h1:(10000:Int)<(s.size:Int)
 .have HL:Hid (nG s=true):=by show _=_;unfold nG;rw[decide_eq_true h1];rfl
  go_enter func13,ntmps13
  go_wp2_with fail;go_ret
  exact⟨by rw[HL.out];rfl,AS _ _⟩
 .have HL:Hid (nG s=decide ((200:Int)<((gF s).length:Int))):=by show _=_;unfold nG;rw[decide_eq_false h1];rfl
  go_enter func13,ntmps13
  go_wp2_with fail;refine HC.out.mono ?_;rintro e w1⟨v,rfl,hv,hb⟩;obtain⟨g,o,c,rfl,-,-,-⟩:=hv;have HB:=cJ hb;clear HC hb;generalize(gF s).length=n at *;go_wp2_with fail;go_ret
  exact⟨by rw[HL.out];rfl,HB.out⟩
theorem KF(s:ByteArray)(w:World)(hs:s.size<=1048576) :
 Calls prog 17 #[R s] w λe w'=>∃v,e=AJ v/\dR w' v (gF s)/\Bw w w':=by
 have HC:=cJ (CF s w hs)
 go_enter func17,ntmps17
 go_wp2_with fail;refine HC.out.mono ?_;rintro e w1⟨v,rfl,hv,hb⟩;have HB:=cJ hb;have ao:=yF s
 have HS:=cJ (bq hv (λe=>by rw[e] at ao;simp at ao))
 have HL:Hid (gF s=if dC (gz s) ((gz s).length-1)=⟨#[]⟩ then(gz s).dropLast else gz s):=by
  show _=_
  unfold gF;rw[AZ ao]
  simp only[Option.some.injEq]
 obtain⟨g,o,c,rfl,-,ct,-⟩:=HS.out;unfold maxLen at ct;clear hv hb HC;generalize gz s=l at *
 obtain⟨n1,bY⟩:∃n1,l.length=n1+1:=⟨l.length-1,by omega⟩
 have eE:n1+1<=c:=by
  obtain⟨_,_,c',e,h1,h2,_⟩:=HS.out
  injection e with e1 e2 e3
  omega
 have hq:w1.cell? ⟨g,o+n1,AD⟩=AE (R (dC l n1)):=by
  obtain⟨g',o',c',e,h1,h2,h4⟩:=HS.out
  injection e with e1 e2 e3
  injection e1 with e1
  injection e1 with e1 e5
  have:=h4 n1 _ (bp (by omega))
  rw[<-e1,<-e5] at this;exact this
 have HP:=cJ (Jp HS.out rfl ao)
 have fo:IntKind.i64.wrap ((n1:Int)+1-1)=(n1:Int):=by rw[BD];omega
 have cy:(0:Int)<=(n1:Int):=by omega
 rw[bY] at HS HP HL;rw[bY];rw[A2] at HP HL
 have eb:(n1:Int)<(n1:Int)+1:=by omega
 clear ao bY
 by_cases hx:dC l n1=⟨#[]⟩
 .rw [if_pos hx] at HL
  rw[hx] at hq;go_wp2_with fail;go_ret
  exact⟨_,rfl,by rw[HL.out];exact HP.out,HB.out⟩
 .rw [if_neg hx] at HL
  have fj:((dC l n1).toList==[])=false:=(show(⟨#[]⟩:ByteArray).toList=[] by decide +kernel)▸bw (b:=⟨#[]⟩) hx
  generalize dC l n1=x at *;go_wp2_with fail;go_ret
  exact⟨_,rfl,by rw[HL.out];exact HS.out,HB.out⟩
open Go.RowKit Sd
def wM(s:ByteArray):Int:=bif eY s then(fV s s.size:Int) else 0
theorem Fz(num:Int)(s:ByteArray)(w:World)(hs:s.size<=1048576) :
 Rb 137 #[AG #[I J num,R s]] w (bif decide ((dA s).length=4) then AI #[R (dC (dA s) 1),I J (wM (dC (dA s) 2)),I J (wM (dC (dA s) 3)),AH (eY (dC (dA s) 2)&&eY (dC (dA s) 3))] else AI #[R ⟨#[]⟩,I J 0,I J 0,AH false]):=by
 have HB:Hid (Bw w (w.alloc (AF #[I J num,R s] 47))):=(aG)
 go_enter func137,ntmps137
 go_wp2_with fail;refine(l5 s _ hs).mono ?_;rintro e w1⟨v,rfl,hv,hb⟩;have B1:Hid (Bw w w1):=aa HB.out hb;have HV:=cJ hv;have cx:∀i,i<(dA s).length->(dC (dA s) i).size<=1048576:=λi hi=>A4 (dh hi) hs;obtain⟨g,o,c,rfl,-,ct,aT⟩:=hv;unfold maxLen at ct;clear hb HB
 by_cases h4:(dA s).length=4
 .have c1:=aT 1 _ (bp (by omega))
  have c2:=aT 2 _ (bp (by omega))
  have c3:=aT 3 _ (bp (by omega))
  have z1:=cx 1 (by omega)
  have z2:=cx 2 (by omega)
  have z3:=cx 3 (by omega)
  have Mj:Hid (∀wx:World,Bw w1 wx->wx.cell? ⟨g,o+1,AD⟩=AE (R (dC (dA s) 1))/\wx.cell? ⟨g,o+2,AD⟩=AE (R (dC (dA s) 2))/\wx.cell? ⟨g,o+3,AD⟩=AE (R (dC (dA s) 3))):=λwx hx=>⟨ac hx aE c1,ac hx aE c2,ac hx aE c3⟩;obtain⟨Q0,Rx⟩:∃q,q=(bif decide ((dA s).length=4) then AI #[R (dC (dA s) 1),I J (wM (dC (dA s) 2)),I J (wM (dC (dA s) 3)),AH (eY (dC (dA s) 2)&&eY (dC (dA s) 3))] else AI #[R ⟨#[]⟩,I J 0,I J 0,AH false]):=⟨_,rfl⟩;have dq:=cJ Rx
  have HR:Hid (Q0=AI #[R (dC (dA s) 1),I J (wM (dC (dA s) 2)),I J (wM (dC (dA s) 3)),AH (eY (dC (dA s) 2)&&eY (dC (dA s) 3))]):=by
   show _=_
   rw[Rx,decide_eq_true h4]
   rfl
  clear Rx;rw[h4];clear aT cx HV h4;have y9:Hid (wM (dC (dA s) 2)=bif eY (dC (dA s) 2) then(fV (dC (dA s) 2) (dC (dA s) 2).size:Int) else 0):=rfl;have Gl:Hid (wM (dC (dA s) 3)=bif eY (dC (dA s) 3) then(fV (dC (dA s) 3) (dC (dA s) 3).size:Int) else 0):=rfl
  have gn:=cJ (bQ (dC (dA s) 2) w1 (by unfold maxLen;omega))
  have bV:Hid (∀wx:World,Rb 171 #[R (dC (dA s) 3)] wx (AI #[I J (wM (dC (dA s) 3)),AH (eY (dC (dA s) 3))])):=λwx=>bQ (dC (dA s) 3) wx (by unfold maxLen;omega)
  have xQ:Hid (∀wx:World,Rb 171 #[R (dC (dA s) 2)] wx (AI #[I J (wM (dC (dA s) 2)),AH (eY (dC (dA s) 2))])):=λwx=>bQ (dC (dA s) 2) wx (by unfold maxLen;omega)
  clear y9 Gl gn;generalize dC (dA s) 1=x1 at HR xQ bV Mj c1 c2 c3 z1 z2 z3 ⊢;generalize dC (dA s) 2=x2 at HR xQ bV Mj c1 c2 c3 z1 z2 z3 ⊢;generalize dC (dA s) 3=x3 at HR xQ bV Mj c1 c2 c3 z1 z2 z3 ⊢;generalize wM x2=n2 at HR xQ bV Mj c1 c2 c3 z1 z2 z3 ⊢;generalize wM x3=n3 at HR xQ bV Mj c1 c2 c3 z1 z2 z3 ⊢;generalize eY x2=b2 at HR xQ bV Mj c1 c2 c3 z1 z2 z3 ⊢;generalize eY x3=b3 at HR xQ bV Mj c1 c2 c3 z1 z2 z3 ⊢;go_wp2_with fail;clear c1 c2 c3;refine(xQ.out _).mono ?_;rintro e w2⟨rfl,ay⟩;have B2:=cJ ay;obtain⟨c1,c2,c3⟩:=Mj.out _ ay;clear ay;go_wp2_with fail;clear c1 c2 c3;refine(bV.out _).mono ?_;rintro e w3⟨rfl,cb⟩;have B3:=cJ (aa B2.out cb);obtain⟨c1,c2,c3⟩:=Mj.out _ B3.out;clear cb;go_wp2_with fail;clear c1 c2 c3
  refine(Sd.jQ x1 _ (by omega)).mono ?_
  rintro e w4⟨rfl,b4⟩;have BF:Hid (Bw w w4):=aa B1.out (aa B3.out b4);clear b4 B1 B2 B3 Mj
  cases b2
  .go_wp2_with fail
   exact bv (AI #[R x1,I J n2,I J n3,AH false]) ⟨by rw[<-dq.out,HR.out];rfl,BF.out⟩ (by simp[results,results137,go_sem])
  .go_wp2_with fail
   exact bv (AI #[R x1,I J n2,I J n3,AH b3]) ⟨by rw[<-dq.out,HR.out];rfl,BF.out⟩ (by simp[results,results137,go_sem])
 .have HR:Hid (decide ((dA s).length=4)=false):=decide_eq_false h4
  have h4b:(((dA s).length:Int)==4)=false:=by rw[beq_eq_false_iff_ne];omega
  go_wp2_with fail
  exact bv (AI #[R ⟨#[]⟩,I J 0,I J 0,AH false]) ⟨by rw[HR.out];rfl,B1.out⟩ (by simp[results,results137,go_sem])
end Go.Proofs.YtolokangldmodaaGreatDoor.Tx
namespace Go.Proofs.YtolokangldmodaaGreatDoor.Sd
open Go.RowKit
theorem Az{l:List dE}{v:ByteArray}(h:∀i,i<l.length->jB l i=true)(hv:hasB l v=true):zU l v=((fG l v:Nat):Int):=by
 have dy:=hv;unfold hasB at dy;rw[AL] at dy;have h1:=of_decide_eq_true dy.1;have h2:=of_decide_eq_true dy.2;refine Dz h1 h2 λj hj e=>?_;have h3:=IE h j (fG l v) hj h1;rw[e,h2,cd] at h3
 cases h3
theorem UA{v:ByteArray}(hk:dU ks=true)(h:eX ks ps x v=true):v≠⟨#[]⟩:=by
 rintro rfl
 rcases vM (f:=⟨x,0,⟨#[]⟩⟩) h with e|e|e|e|e<;>dsimp only at e<;>subst e
 .have h1:hasB ks ⟨#[]⟩=true:=by simpa[eX] using h
  unfold hasB at h1;rw[AL] at h1;have h2:=of_decide_eq_true h1.1;have h3:=of_decide_eq_true h1.2;unfold dU fF at hk;rw[AL,AL] at hk;have h4:=bj hk.1.2 _ h2;rw[AL,h3] at h4;have h5:=h4.1
  revert h5
  decide
 .have h1:jy (dA ⟨#[]⟩)=true:=by simpa[eX] using h
  revert h1
  decide
 .have h1:jR ⟨#[]⟩=true:=by simpa[eX] using h
  revert h1
  decide
 .have h1:fJ ps (dA ⟨#[]⟩)=true:=by simpa[eX] using h
  unfold fJ at h1;rw[AL] at h1;have h2:=h1.1
  revert h2
  decide
 .have h1:iQ ⟨#[]⟩=true:=by simpa[eX] using h
  revert h1
  decide
theorem tZ{f:eT}(h:qD fs x=AE f):f∈fs/\f.what=x:=by
 unfold qD at h
 exact⟨List.mem_of_find?_eq_some h,by simpa using List.find?_some h⟩
theorem RV(hk:dU ks=true)(hf:∀f∈fs,eX ks ps f.what f.v=true)(x:Int):((oC fs x).toList==[])=!jD fs x:=by
 rw[xZ];unfold oC
 have h2:(⟨#[]⟩:ByteArray).toList=[]:=by rw[ByteArray.toList_eq]
 cases h:qD fs x with
 |none =>
  show((⟨#[]⟩:ByteArray).toList==[])=true
  rw[h2]
  rfl
 |some f =>
  have h1:=UA hk (hf f (tZ h).1)
  show(f.v.toList==[])=false
  rw[<-h2];exact bw h1
theorem Qo(h1:jD fs 1=true)(h2:jD fs 2=true)(h3:jD fs 3=true)(h4:jD fs 4=true):(iD fs 4).length=0:=by simp[iD,List.filter,h1,h2,h3,h4]
theorem Fv(hk:1<=k/\k<=4)(h:jD fs (k:Int)=false):mX fs=false:=by
 have:(iD fs 4).length≠0:=by
  intro h0;have h1:iD fs 4=[]:=List.eq_nil_of_length_eq_zero h0
  have h2:(k:Int)∈iD fs 4:=by
   unfold iD;rw[List.mem_filter]
   refine⟨?_,by simp[h]⟩
   rcases(show k=1\/k=2\/k=3\/k=4 by omega) with rfl|rfl|rfl|rfl<;>simp
  rw[h1] at h2
  simp at h2
 unfold mX;rw[decide_eq_false this]
 rfl
theorem wU(vk vp ve fv:Value)(ks ps:List dE)(nm:ByteArray)(fs:List eT)(w:World)(hk:dF w vk ks)(bb:iY w fv fs)(hkk:dU ks=true)(hfit:∀f∈fs,eX ks ps f.what f.v=true/\f.v.size<=1048576)(hasc:Vn fs)(hvp:∃a n c,vp=U a n c)(hve:∃a n c,ve=U a n c) :
 Calls prog 54 #[AG #[vk,vp,ve],AG #[R nm,fv]] w λe w'=>∃rt,e=AJ (AI #[AG (pX ks nm fs rt),AH (mX fs)])/\(mX fs=true->jr w' w.heap.size rt (dG fs 4))/\Bw w w':=by
 have HK:Hid (∀wx:World,Bw w wx->dF wx vk ks):=λwx hx=>hk.keep hx;have qL:Hid (∀wx:World,Bw w wx->iY wx fv fs):=λwx hx=>bb.keep hx;have nS:Hid (∀f∈fs,eX ks ps f.what f.v=true):=λf h=>(hfit f h).1;have tq:Hid (∀f∈fs,f.v.size<=1048576):=λf h=>(hfit f h).2;have gl:Hid (∀x,((oC fs x).toList==[])=!jD fs x):=λx=>RV hkk nS x;have e6:Hid (dU ks=true/\Vn fs):=⟨hkk,hasc⟩;obtain⟨ak,ck,rfl,eo,gb,-⟩:=hk;obtain⟨af,cf,rfl,-,-,-⟩:=bb;obtain⟨pa,pn,pc,rfl⟩:=hvp;obtain⟨ea,en,ec,rfl⟩:=hve;unfold maxLen at gb
 have A1:Hid (Bw w (((w.alloc (AF #[U ak ks.length ck,U pa pn pc,U ea en ec] 41)).alloc (AF #[R nm,U af fs.length cf] 105)).alloc (AF #[R ⟨#[]⟩,R ⟨#[]⟩,I J 0,I J 0,I J 0,I J 0,I J 0,U AD 0 0] 81))):=((aG).alloc (by simp) _).alloc (by simp;omega) _
 have R1:Hid ((((w.alloc (AF #[U ak ks.length ck,U pa pn pc,U ea en ec] 41)).alloc (AF #[R nm,U af fs.length cf] 105)).alloc (AF #[R ⟨#[]⟩,R ⟨#[]⟩,I J 0,I J 0,I J 0,I J 0,I J 0,U AD 0 0] 81)).heap[w.heap.size+2]?=AE (AF #[R ⟨#[]⟩,R ⟨#[]⟩,I J 0,I J 0,I J 0,I J 0,I J 0,U AD 0 0] 81 (0,0))):=by
  have h:=Lv.aS ((w.alloc (AF #[U ak ks.length ck,U pa pn pc,U ea en ec] 41)).alloc (AF #[R nm,U af fs.length cf] 105)) (AF #[R ⟨#[]⟩,R ⟨#[]⟩,I J 0,I J 0,I J 0,I J 0,I J 0,U AD 0 0] 81)
  rw[show((w.alloc (AF #[U ak ks.length ck,U pa pn pc,U ea en ec] 41)).alloc (AF #[R nm,U af fs.length cf] 105)).heap.size=w.heap.size+2 by simp] at h
  exact h
 have Q0:Hid (∀wx:World,Bw (((w.alloc (AF #[U ak ks.length ck,U pa pn pc,U ea en ec] 41)).alloc (AF #[R nm,U af fs.length cf] 105)).alloc (AF #[R ⟨#[]⟩,R ⟨#[]⟩,I J 0,I J 0,I J 0,I J 0,I J 0,U AD 0 0] 81)) wx->(wx.cell? ⟨w.heap.size,0,AD⟩=AE (U ak ks.length ck)/\wx.cell? ⟨w.heap.size,1,AD⟩=AE (U pa pn pc)/\wx.cell? ⟨w.heap.size,2,AD⟩=AE (U ea en ec))/\wx.cell? ⟨w.heap.size+1,0,AD⟩=AE (R nm)/\wx.cell? ⟨w.heap.size+1,1,AD⟩=AE (U af fs.length cf)):=λwx hx=>⟨⟨ac hx aE (by simp[go_sem]),ac hx aE (by simp[go_sem]),ac hx aE (by simp[go_sem])⟩,ac hx aE (by simp[go_sem]),ac hx aE (by simp[go_sem])⟩
 go_enter func54,ntmps54
 go_wp2_with fail;generalize((w.alloc _).alloc _).alloc _=w1 at *;have GV:Hid (∀(x:Int) (wx:World),Bw w1 wx->Rb 89 #[AG #[R nm,U af fs.length cf],I J x] wx (R (oC fs x))):=λx wx hx=>KA nm _ fs x wx (qL _ (aa A1 hx))
 go_loopw [6] (λi wr=>∃k:Nat,1<=k/\k<=5/\i=I J k/\Hid (Bw w1 wr/\∀j:Nat,1<=j->j<k->jD fs (j:Int)=true)) (λi _=>5-(intOf i).toNat)
 case atStart=>exact⟨1,At _,by omega,rfl,AS _ _,λj h1 h2=>by omega⟩
 case round =>
  obtain⟨k,dT,hk5,rfl,HI⟩:=hrel
  by_cases au:k<=4
  .have ga:(k:Int)<=4:=by omega
   obtain⟨⟨p0,p1,p2⟩,p3,p4⟩:=Q0 _ HI.1;have ej:=gl (k:Int)
   cases dz:jD fs (k:Int)
   .rw [dz] at ej
    have HE:Hid _:=Fv ⟨dT,au⟩ dz
    have HS:Hid (∀rt,pX ks nm fs rt=#[R ⟨#[]⟩,R ⟨#[]⟩,I J 0,I J 0,I J 0,I J 0,I J 0,U AD 0 0]):=λrt=>by unfold pX;rw[HE.out];rfl
    go_wp2_with fail;refine(GV _ _ HI.1).mono ?_;rintro e w2⟨rfl,ay⟩;have hR:=ah (aa HI.1 ay) R1;have B2:Hid _:=aa (aa A1 HI.1) ay;generalize oC fs (k:Int)=vv at *;have fp:=ej
    go_wp2_with (refine cS (w.heap.size+2) #[R ⟨#[]⟩,R ⟨#[]⟩,I J 0,I J 0,I J 0,I J 0,I J 0,U AD 0 0] hR ?_)
    exact bv (AI #[AG #[R ⟨#[]⟩,R ⟨#[]⟩,I J 0,I J 0,I J 0,I J 0,I J 0,U AD 0 0],AH false]) ⟨U AD 0 0,by rw[HE.out,HS.out],(λh=>by rw[HE.out] at h;cases h),bL B2⟩ (by simp[results,results54,go_sem,bU hR])
   .rw [dz] at ej
    have HN:Hid (∀j:Nat,1<=j->j<k+1->jD fs (j:Int)=true):=λj h1 h2=>if e:j=k then by rw[e];exact dz else HI.2 j h1 (by omega)
    go_wp2_with fail;refine(GV _ _ HI.1).mono ?_;rintro e w2⟨rfl,ay⟩;have B2:Hid _:=aa HI.1 ay;generalize oC fs (k:Int)=vv at *;go_wp2
    exact⟨⟨k+1,by omega,by omega,by go_num,B2,HN⟩,by simp[intOf];omega⟩
  .have ga:¬(k:Int)<=4:=by omega
   have s1:=HI.2 1 (by omega) (by omega)
   have s2:=HI.2 2 (by omega) (by omega)
   have s3:=HI.2 3 (by omega) (by omega)
   have s4:=HI.2 4 (by omega) (by omega)
   have gw:Hid _:=Qo s1 s2 s3 s4;rw[xZ] at s1 s2 s3 s4;obtain⟨f1,g1⟩:=Option.isSome_iff_exists.1 s1;obtain⟨f2,g2⟩:=Option.isSome_iff_exists.1 s2;obtain⟨f3,g3⟩:=Option.isSome_iff_exists.1 s3;obtain⟨f4,g4⟩:=Option.isSome_iff_exists.1 s4;have m1:=tZ g1;have m2:=tZ g2;have m3:=tZ g3;have m4:=tZ g4
   have HL:Hid ((dG fs 1=AE f1/\dG fs 2=AE f2)/\dG fs 3=AE f3/\dG fs 4=AE f4):=by
    have hl:∀x,dG fs x=qD fs x:=λx=>yG fs (Pt e6.2);exact⟨⟨(hl 1).trans g1,(hl 2).trans g2⟩,(hl 3).trans g3,(hl 4).trans g4⟩
   have HV:Hid ((oC fs 1=f1.v/\oC fs 2=f2.v)/\oC fs 3=f3.v/\oC fs 4=f4.v):=by
    unfold oC;have e1:qD fs 1=AE f1:=g1;have e2:qD fs 2=AE f2:=g2;have e3:qD fs 3=AE f3:=g3;have e4:qD fs 4=AE f4:=g4;rw[e1,e2,e3,e4];exact⟨⟨rfl,rfl⟩,rfl,rfl⟩
   have t1:=nS f1 m1.1;have t2:=nS f2 m2.1;have t3:=nS f3 m3.1;have t4:=nS f4 m4.1;rw[m1.2] at t1;rw[m2.2] at t2;rw[m3.2] at t3;rw[m4.2] at t4
   have t1:hasB ks f1.v=true:=by simpa[eX] using t1
   have t2:jy (dA f2.v)=true:=by simpa[eX] using t2
   have t3:jR f3.v=true:=by simpa[eX] using t3
   have HZ:Hid ((f1.v.size<=1048576/\f2.v.size<=1048576)/\f3.v.size<=1048576/\f4.v.size<=1048576):=⟨⟨tq _ m1.1,tq _ m2.1⟩,tq _ m3.1,tq _ m4.1⟩;obtain⟨⟨p0,p1,p2⟩,p3,p4⟩:=Q0 _ HI.1
   have ef:((oC fs 5).toList==[99,108,111,115,101,100])=kC fs:=by
    have gi:jb.toList=[99,108,111,115,101,100]:=by rw[ByteArray.toList_eq];rfl
    rw[<-gi,Lm]
    by_cases h:oC fs 5=jb
    .rw [decide_eq_true h];exact ci h
    .rw [decide_eq_false h];exact bw h
   go_wp2_with fail;refine(GV 5 _ HI.1).mono ?_;rintro e w2⟨rfl,ay⟩;have B2:Hid _:=aa HI.1 ay;obtain⟨⟨p0,p1,p2⟩,p3,p4⟩:=Q0 _ B2;generalize oC fs 5=vv at *
   cases hc:kC fs
   .rw [hc] at ef
    have HE:Hid (mX fs=true):=by show _=_;unfold mX;rw[decide_eq_true gw.out,hc];rfl
    have HS:Hid (∀rt,pX ks nm fs rt=rf ks nm fs rt):=λrt=>by unfold pX;rw[HE.out];rfl
    go_wp2_with fail;refine(GV 2 _ B2).mono ?_;rw[HV.out.1.2];rintro e w3⟨rfl,cb⟩;have B3:Hid _:=aa B2 cb;go_wp2_with fail;refine(tX f2.v _ HZ.1.2).mono ?_;rintro e w4⟨tv,rfl,eA,b4⟩
    have ai:=bq (ws:=dA f2.v) eA (by intro e0;unfold jy at t2;rw[e0] at t2;simp at t2)
    have B4:Hid _:=aa B3 b4;have eV:Hid (dR w4 tv (dA f2.v)):=ai;obtain⟨tg,PM,ff,rfl,fA,fz,-⟩:=ai;unfold maxLen at fz
    have gx:Hid (tg≠w.heap.size+2):=by
     have h1:=dY eA tg rfl;have h2:=lt_of_block (ah B3 R1)
     show tg≠_
     omega
    have eP:fG ks f1.v<ks.length:=by
     unfold hasB at t1;rw[AL] at t1;exact of_decide_eq_true t1.1
    have cL:Hid _:=Az (FO e6.1) t1
    have e7:Hid (jc ks (dG fs 1)=at' ks (fG ks f1.v)):=by show _=_;rw[HL.out.1.1];rfl
    have eh:Hid (∀wx:World,Bw w wx->∃b off,ak=AE ⟨b,off,AD⟩/\jG wx b (off+fG ks f1.v*3) (at' ks (fG ks f1.v))):=λwx hx=>by
     obtain⟨a9,c9,e9,-,-,h9⟩:=HK wx hx;obtain⟨b,off,ha,hc⟩:=h9 _ _ (bG eP)
     cases e9
     exact⟨b,off,ha,hc⟩
    obtain⟨tr,ft⟩:∃t,at' ks (fG ks f1.v)=t:=⟨_,rfl⟩;rw[ft] at e7 eh;obtain⟨q,hq⟩:∃j,fG ks f1.v=j:=⟨_,rfl⟩;rw[hq] at eh cL eP;obtain⟨b,off,rfl,-⟩:=eh w (AS _ _)
    have dr:Hid (∀wx:World,Bw w wx->jG wx b (off+q*3) tr):=λwx hx=>by
     obtain⟨b',cg,e,hc⟩:=eh wx hx
     cases e
     exact hc
    unfold jy at t2;rw[AL,AL,AL] at t2;have ek:=of_decide_eq_true t2.1;have d0:=t2.2.1;have d1:=t2.2.2.1;unfold jR at t3;rw[AL] at t3
    have cy:0<(dA f2.v).length:=by omega
    have eb:1<(dA f2.v).length:=by omega
    have cc:Hid ((l9 (dG fs 2)=uS (dC (dA f2.v) 0)/\kK (dG fs 2)=uS (dC (dA f2.v) 1))/\mF (dG fs 3)=uS f3.v):=by
     show _/\_
     rw[HL.out.1.2,HL.out.2.1];refine⟨⟨?_,?_⟩,rfl⟩
     .show ER _=_;unfold ER;rw[decide_eq_true ek];rfl
     .show EO _=_;unfold EO;rw[decide_eq_true ek];rfl
    have num:∀x,eY x=true->(bif eY x then(fV x x.size:Int) else -1)=uS x:=λx h=>by unfold uS mR;rw[h];rfl
    have N0:Hid _:=num _ d0;have N1:Hid _:=num _ d1;have N2:Hid _:=num _ t3.1
    have SZ:Hid ((dC (dA f2.v) 0).size<=maxLen/\(dC (dA f2.v) 1).size<=maxLen/\f3.v.size<=maxLen):=by
     have hz:=HZ.out;have e1:=uf f2.v _ (AT (bp cy));have e2:=uf f2.v _ (AT (bp eb))
     show _/\_
     unfold maxLen
     exact⟨by omega,by omega,by omega⟩
    have et:=eV.out.cellS 0 cy;have er:=eV.cellS 1 eb;obtain⟨t0,fN⟩:∃t,dC (dA f2.v) 0=t:=⟨_,rfl⟩;obtain⟨c6,fL⟩:∃t,dC (dA f2.v) 1=t:=⟨_,rfl⟩;rw[fN] at cc N0 SZ et;rw[fL] at cc N1 SZ er;obtain⟨n0,fX⟩:∃t,uS t0=t:=⟨_,rfl⟩;obtain⟨n1,bY⟩:∃t,uS c6=t:=⟨_,rfl⟩;obtain⟨n2,fW⟩:∃t,uS f3.v=t:=⟨_,rfl⟩;rw[fX] at cc N0;rw[bY] at cc N1;rw[fW] at cc N2;rw[ek] at fA ⊢
    have QS:Hid (∀wx:World,Bw w4 wx->(wx.cell? ⟨w.heap.size,0,AD⟩=AE (U (AE ⟨b,off,AD⟩) ks.length ck)/\wx.cell? ⟨w.heap.size,1,AD⟩=AE (U pa pn pc)/\wx.cell? ⟨w.heap.size,2,AD⟩=AE (U ea en ec))/\wx.cell? ⟨w.heap.size+1,0,AD⟩=AE (R nm)/\wx.cell? ⟨w.heap.size+1,1,AD⟩=AE (U af fs.length cf)/\(wx.cell? ⟨b,off+q*3,AD⟩=AE (R tr.s)/\wx.cell? ⟨b,off+q*3+1,AD⟩=AE (I J tr.x)/\wx.cell? ⟨b,off+q*3+2,AD⟩=AE (I J tr.y))/\wx.cell? ⟨tg,PM,AD⟩=AE (R t0)/\wx.cell? ⟨tg,PM+1,AD⟩=AE (R c6)):=λwx hx=>by
     obtain⟨g0,g1⟩:=Q0 _ (aa B4 hx);exact⟨⟨g0.1,g0.2.1,g0.2.2⟩,g1.1,g1.2,dr _ (aa A1 (aa B4 hx)),ac hx aE et,ac hx aE er⟩
    have rq:Hid (b≠w.heap.size+2/\tg≠w.heap.size+2):=by
     have e1:=am (dr w (AS _ _)).1
     refine⟨by omega,gx⟩
    clear et er Q0;go_wp2_with fail;refine wp_region_noPanic ?_
    refine wp_region_held_drew (S:=λwx=>(wx.cell? ⟨w.heap.size,0,AD⟩=AE (U (AE ⟨b,off,AD⟩) ks.length ck)/\wx.cell? ⟨w.heap.size,1,AD⟩=AE (U pa pn pc)/\wx.cell? ⟨w.heap.size,2,AD⟩=AE (U ea en ec))/\wx.cell? ⟨w.heap.size+1,0,AD⟩=AE (R nm)/\wx.cell? ⟨w.heap.size+1,1,AD⟩=AE (U af fs.length cf)/\(wx.cell? ⟨b,off+q*3,AD⟩=AE (R tr.s)/\wx.cell? ⟨b,off+q*3+1,AD⟩=AE (I J tr.x)/\wx.cell? ⟨b,off+q*3+2,AD⟩=AE (I J tr.y))/\wx.cell? ⟨tg,PM,AD⟩=AE (R t0)/\wx.cell? ⟨tg,PM+1,AD⟩=AE (R c6)) (by kernel_rfl) ?_ (λab=>?_)
    .exact QS _ (AS _ _).drew
    have I4:Hid (Bw w4 w4.drew/\Bw w1 w4.drew):=⟨(AS _ _).drew,aa B4 (AS _ _).drew⟩;generalize w4.drew=W at *;refine aZ 0 ?_;refine aZ 1 ?_;refine aZ 2 ?_;refine aZ 3 ?_;refine aZ 4 ?_;refine aZ 5 ?_;refine aZ 6 ?_;refine aZ 7 ?_;refine aZ 12 ?_;refine aZ 13 ?_;refine aZ 14 ?_;refine aZ 16 ?_;refine aZ 17 ?_;refine aZ 18 ?_;refine aZ 20 ?_;refine aZ 23 ?_
    simp only[AW,aK]
    refine be 8 (λK hK=>?_);go_simp;refine(GV 1 _ I4.2).mono ?_;rw[HV.out.1.1];rintro e W5⟨rfl,ax⟩;have I5:Hid (Bw w4 W5/\Bw w1 W5):=⟨aa I4.1 ax,aa I4.2 ax⟩;have ab:=QS _ I5.1;refine hK _ _ ab (λ_=>?_);refine be 9 (λK hK=>?_);go_simp;refine(u7 _ (U pa pn pc) ks f1.v _ (HK _ (aa A1 I5.2))).mono ?_;rw[cL.out];rintro e W6⟨rfl,ax⟩;have I6:Hid (Bw w4 W6/\Bw w1 W6):=⟨aa I5.1 ax,aa I5.2 ax⟩;have ab:=QS _ I6.1;refine hK _ _ ab (λ_=>?_);refine aZ 10 ?_;refine aZ 11 ?_
    simp only[AW,aK]
    refine be 15 (λK hK=>?_);go_simp;refine(bN t0 _ SZ.1).mono ?_;rw[N0.out];rintro e Wz⟨rfl,rfl⟩;have ab:=QS _ I6.1;refine hK _ _ ab (λ_=>?_);refine be 19 (λK hK=>?_);go_simp;refine(bN c6 _ SZ.2.1).mono ?_;rw[N1.out];rintro e Wz⟨rfl,rfl⟩;have ab:=QS _ I6.1;refine hK _ _ ab (λ_=>?_);refine be 21 (λK hK=>?_);go_simp;refine(GV 3 _ I6.2).mono ?_;rw[HV.out.2.1];rintro e W7⟨rfl,ax⟩;have I7:Hid (Bw w4 W7/\Bw w1 W7):=⟨aa I6.1 ax,aa I6.2 ax⟩;have ab:=QS _ I7.1;refine hK _ _ ab (λ_=>?_);refine be 22 (λK hK=>?_);go_simp;refine(bN f3.v _ SZ.2.2).mono ?_;rw[N2.out];rintro e Wz⟨rfl,rfl⟩;have ab:=QS _ I7.1;refine hK _ _ ab (λ_=>?_);refine be 24 (λK hK=>?_);go_simp;refine(GV 4 _ I7.2).mono ?_;rw[HV.out.2.2];rintro e W8⟨rfl,ax⟩;have I8:Hid (Bw w4 W8/\Bw w1 W8):=⟨aa I7.1 ax,aa I7.2 ax⟩;have ab:=QS _ I8.1;refine hK _ _ ab (λ_=>?_);refine be 25 (λK hK=>?_);go_simp;refine(tX f4.v _ HZ.2.2).mono ?_;rintro e W9⟨rv,rfl,ai,ax⟩;have I9:Hid (Bw w4 W9/\Bw w1 W9):=⟨aa I8.1 ax,aa I8.2 ax⟩
    have eW:Hid (jr W9 w.heap.size rv (dG fs 4)):=by
     show jr _ _ _ _
     rw[HL.out.2.2];exact gY.mono ai (aa A1 I8.2).size
    obtain⟨ra,rn,rc,rfl⟩:=eW.slice;have ab:=QS _ I9.1;refine hK _ _ ab (λ_=>?_);refine aM 26 ?_ rfl ?_ ?_;rotate_left
    .intro w ba;(try dsimp only at ba);go_simp;try with_reducible rfl
    simp only[AW,aK]
    refine be 27 (λK hK=>?_);have b5:Hid _:=ah I9.2 R1;refine PS (w.heap.size+2) #[R nm,R tr.s,I J tr.x,I J tr.y,I J n0,I J n1,I J n2,U ra rn rc] b5 ?_;have HO:Hid (∀q:Nat,q≠w.heap.size+2->(W9.setRow (w.heap.size+2) #[R nm,R tr.s,I J tr.x,I J tr.y,I J n0,I J n1,I J n2,U ra rn rc]).heap[q]?=W9.heap[q]?):=λq hq=>ni hq;have HF:Hid ((W9.setRow (w.heap.size+2) #[R nm,R tr.s,I J tr.x,I J tr.y,I J n0,I J n1,I J n2,U ra rn rc]).heap[w.heap.size+2]?=AE (AF #[R nm,R tr.s,I J tr.x,I J tr.y,I J n0,I J n1,I J n2,U ra rn rc] 81 (0,0))):=oN b5;have Mk:Hid (Bw w (W9.setRow (w.heap.size+2) #[R nm,R tr.s,I J tr.x,I J tr.y,I J n0,I J n1,I J n2,U ra rn rc])):=bL (aa A1 I9.2);have eg:Hid (jr (W9.setRow (w.heap.size+2) #[R nm,R tr.s,I J tr.x,I J tr.y,I J n0,I J n1,I J n2,U ra rn rc]) w.heap.size (U ra rn rc) (dG fs 4)):=jr.row eW b5
    have ab:((W9.setRow (w.heap.size+2) #[R nm,R tr.s,I J tr.x,I J tr.y,I J n0,I J n1,I J n2,U ra rn rc]).cell? ⟨w.heap.size,0,AD⟩=AE (U (AE ⟨b,off,AD⟩) ks.length ck)/\(W9.setRow (w.heap.size+2) #[R nm,R tr.s,I J tr.x,I J tr.y,I J n0,I J n1,I J n2,U ra rn rc]).cell? ⟨w.heap.size,1,AD⟩=AE (U pa pn pc)/\(W9.setRow (w.heap.size+2) #[R nm,R tr.s,I J tr.x,I J tr.y,I J n0,I J n1,I J n2,U ra rn rc]).cell? ⟨w.heap.size,2,AD⟩=AE (U ea en ec))/\(W9.setRow (w.heap.size+2) #[R nm,R tr.s,I J tr.x,I J tr.y,I J n0,I J n1,I J n2,U ra rn rc]).cell? ⟨w.heap.size+1,0,AD⟩=AE (R nm)/\(W9.setRow (w.heap.size+2) #[R nm,R tr.s,I J tr.x,I J tr.y,I J n0,I J n1,I J n2,U ra rn rc]).cell? ⟨w.heap.size+1,1,AD⟩=AE (U af fs.length cf)/\((W9.setRow (w.heap.size+2) #[R nm,R tr.s,I J tr.x,I J tr.y,I J n0,I J n1,I J n2,U ra rn rc]).cell? ⟨b,off+q*3,AD⟩=AE (R tr.s)/\(W9.setRow (w.heap.size+2) #[R nm,R tr.s,I J tr.x,I J tr.y,I J n0,I J n1,I J n2,U ra rn rc]).cell? ⟨b,off+q*3+1,AD⟩=AE (I J tr.x)/\(W9.setRow (w.heap.size+2) #[R nm,R tr.s,I J tr.x,I J tr.y,I J n0,I J n1,I J n2,U ra rn rc]).cell? ⟨b,off+q*3+2,AD⟩=AE (I J tr.y))/\(W9.setRow (w.heap.size+2) #[R nm,R tr.s,I J tr.x,I J tr.y,I J n0,I J n1,I J n2,U ra rn rc]).cell? ⟨tg,PM,AD⟩=AE (R t0)/\(W9.setRow (w.heap.size+2) #[R nm,R tr.s,I J tr.x,I J tr.y,I J n0,I J n1,I J n2,U ra rn rc]).cell? ⟨tg,PM+1,AD⟩=AE (R c6):=by
     obtain⟨⟨g0,g1,g2⟩,g3,g4,⟨g5,g6,g7⟩,g8,g9⟩:=QS _ I9.1;have hb:=rq.out.1;have ht:=rq.out.2;have kp:∀(x y:Nat) (v:Value),x≠w.heap.size+2->W9.cell? ⟨x,y,AD⟩=AE v->(W9.setRow (w.heap.size+2) #[R nm,R tr.s,I J tr.x,I J tr.y,I J n0,I J n1,I J n2,U ra rn rc]).cell? ⟨x,y,AD⟩=AE v:=λx y v hx h=>(World.cell?_of_block (HO x hx)).trans h
     exact⟨⟨kp _ _ _ (by omega) g0,kp _ _ _ (by omega) g1,kp _ _ _ (by omega) g2⟩,kp _ _ _ (by omega) g3,kp _ _ _ (by omega) g4,⟨kp _ _ _ hb g5,kp _ _ _ hb g6,kp _ _ _ hb g7⟩,kp _ _ _ ht g8,kp _ _ _ ht g9⟩
    generalize W9.setRow _ _=wf at *;refine hK _ _ ab (λ_=>?_);refine aM 28 ?_ rfl ?_ ?_;rotate_left
    .intro w ba;(try dsimp only at ba);go_simp;try with_reducible rfl
    simp only[AW,aK]
    have hf:=HF.out;refine vI ?_;refine NoPanic.normal ?_;go_wp2
    have y0:wf.cell? ⟨w.heap.size+2,0,AD⟩=AE (R nm):=by simp[AM,hf]
    have y1:wf.cell? ⟨w.heap.size+2,1,AD⟩=AE (R tr.s):=by simp[AM,hf]
    have y2:wf.cell? ⟨w.heap.size+2,2,AD⟩=AE (I J tr.x):=by simp[AM,hf]
    have y3:wf.cell? ⟨w.heap.size+2,3,AD⟩=AE (I J tr.y):=by simp[AM,hf]
    have y4:wf.cell? ⟨w.heap.size+2,4,AD⟩=AE (I J n0):=by simp[AM,hf]
    have y5:wf.cell? ⟨w.heap.size+2,5,AD⟩=AE (I J n1):=by simp[AM,hf]
    have y6:wf.cell? ⟨w.heap.size+2,6,AD⟩=AE (I J n2):=by simp[AM,hf]
    have y7:wf.cell? ⟨w.heap.size+2,7,AD⟩=AE (U ra rn rc):=by simp[AM,hf]
    have Vd:Hid (pX ks nm fs (U ra rn rc)=#[R nm,R tr.s,I J tr.x,I J tr.y,I J n0,I J n1,I J n2,U ra rn rc]):=by
     show _=_
     rw[HS.out];unfold rf Im;rw[e7.out,cc.out.1.1,cc.out.1.2,cc.out.2]
    exact bv (AI #[AG #[R nm,R tr.s,I J tr.x,I J tr.y,I J n0,I J n1,I J n2,U ra rn rc],AH true]) ⟨U ra rn rc,by rw[Vd.out,HE.out],(λ_=>eg),Mk⟩ (by simp[results,results54,go_sem,y0,y1,y2,y3,y4,y5,y6,y7])
   .rw [hc] at ef
    have HE:Hid (mX fs=false):=by show _=_;unfold mX;rw[hc];simp
    have HS:Hid (∀rt,pX ks nm fs rt=#[R ⟨#[]⟩,R ⟨#[]⟩,I J 0,I J 0,I J 0,I J 0,I J 0,U AD 0 0]):=λrt=>by unfold pX;rw[HE.out];rfl
    have hR:=ah B2 R1
    go_wp2_with (refine cS (w.heap.size+2) #[R ⟨#[]⟩,R ⟨#[]⟩,I J 0,I J 0,I J 0,I J 0,I J 0,U AD 0 0] hR ?_)
    exact bv (AI #[AG #[R ⟨#[]⟩,R ⟨#[]⟩,I J 0,I J 0,I J 0,I J 0,I J 0,U AD 0 0],AH false]) ⟨U AD 0 0,by rw[HE.out,HS.out],(λh=>by rw[HE.out] at h;cases h),bL (aa A1 B2)⟩ (by simp[results,results54,go_sem,bU hR])
open Go.RowKit
theorem sZ(h:dP ks ps es=true):dU ks=true:=by
 unfold dP fB at h
 simp only[AL] at h
 exact h.1.1
theorem mH:(∀(vk vp ve:Value) (ks ps:List dE) (es:List eF) (nm:ByteArray) (w:World) (hB:dW w vk vp ve ks ps es) (nB:jV ks ps es) (sB:ic ks ps es) (hN:gM w),Calls prog 128 #[AG #[vk,vp,ve],R nm] w λe w'=>∃rt,e=AJ (AI #[AG (rD ks (fU ks ps es nm) rt),AH (fU ks ps es nm).isSome])/\(∀x,fU ks ps es nm=AE x->jr w' w.heap.size rt (dG x.fs 4))/\Bw w w')/\(∀(vk vp ve:Value) (ks ps:List dE) (es:List eF) (nm:ByteArray) (w:World) (hB:dW w vk vp ve ks ps es) (nB:jV ks ps es) (sB:ic ks ps es),Calls prog 55 #[AG #[vk,vp,ve],R nm] w λe w'=>∃rt,e=AJ (AI #[AG (rD ks (fU ks ps es nm) rt),AH (fU ks ps es nm).isSome])/\(∀x,fU ks ps es nm=AE x->jr w' w.heap.size rt (dG x.fs 4))/\Bw w w'):=by
 constructor
 focus(intro vk vp ve ks ps es nm w hB nB sB hN;have IA:=True.intro)
 rotate_left
 focus intro vk vp ve ks ps es nm w hB nB sB
 rotate_left
 all_goals
  have HB:Hid (∀wx:World,Bw w wx->dW wx vk vp ve ks ps es):=λwx hx=>hB.keep hx
  first
  |have _:=IA
   have HN:Hid (∀wx:World,Bw w wx->gM wx):=λwx hx=>hN.keep hx
  |skip
  obtain⟨⟨ak,ck,rfl,-,-,-⟩,⟨ap,cp,rfl,-,-,-⟩,⟨ae,ce,rfl,gh,ep,-⟩⟩:=hB;unfold maxLen at ep
  have A1:Hid (Bw w ((w.alloc (AF #[U ak ks.length ck,U ap ps.length cp,U ae es.length ce] 41)).alloc (AF #[R ⟨#[]⟩,R ⟨#[]⟩,I J 0,I J 0,I J 0,I J 0,I J 0,U AD 0 0] 81))):=(aG).alloc (by simp) _
  have R1:Hid (((w.alloc (AF #[U ak ks.length ck,U ap ps.length cp,U ae es.length ce] 41)).alloc (AF #[R ⟨#[]⟩,R ⟨#[]⟩,I J 0,I J 0,I J 0,I J 0,I J 0,U AD 0 0] 81)).heap[w.heap.size+1]?=AE (AF #[R ⟨#[]⟩,R ⟨#[]⟩,I J 0,I J 0,I J 0,I J 0,I J 0,U AD 0 0] 81 (0,0))):=by
   have h:=Lv.aS (w.alloc (AF #[U ak ks.length ck,U ap ps.length cp,U ae es.length ce] 41)) (AF #[R ⟨#[]⟩,R ⟨#[]⟩,I J 0,I J 0,I J 0,I J 0,I J 0,U AD 0 0] 81)
   rw[show(w.alloc (AF #[U ak ks.length ck,U ap ps.length cp,U ae es.length ce] 41)).heap.size=w.heap.size+1 by simp] at h
   exact h
  have Q0:Hid (∀wx:World,Bw ((w.alloc (AF #[U ak ks.length ck,U ap ps.length cp,U ae es.length ce] 41)).alloc (AF #[R ⟨#[]⟩,R ⟨#[]⟩,I J 0,I J 0,I J 0,I J 0,I J 0,U AD 0 0] 81)) wx->(wx.cell? ⟨w.heap.size,0,AD⟩=AE (U ak ks.length ck)/\wx.cell? ⟨w.heap.size,1,AD⟩=AE (U ap ps.length cp)/\wx.cell? ⟨w.heap.size,2,AD⟩=AE (U ae es.length ce))):=λwx hx=>⟨ac hx aE (by simp[go_sem]),ac hx aE (by simp[go_sem]),ac hx aE (by simp[go_sem])⟩
  obtain⟨p0,p1,p2⟩:=Q0 _ (AS _ _)
  first
  |have _:=IA
   go_enter func128,ntmps128
  |go_enter func55,ntmps55
  go_wp2_with fail;generalize(w.alloc _).alloc _=w1 at *
  first
  |have _:=IA
   refine(qJ _ _ _ ks ps es _ (HB _ A1) nB sB).mono ?_;rintro e w2⟨rfl,ay⟩
  |refine(rW _ _ _ es nm _ (HB.out _ A1.out).e).mono ?_
   rintro e w2⟨r,rfl,cL,ay⟩;have cL:=Lv.dx cL
  have B2:Hid _:=ay;obtain⟨p0,p1,p2⟩:=Q0 _ B2
  first
  |have _:=IA
   have hR:=ah B2 R1
  |go_wp2_with fail
   refine(cr _ _ _ ks ps es _ (HB _ (aa A1 B2)) nB sB).mono ?_;rintro e w3⟨rfl,cb⟩;have B3:Hid _:=aa B2 cb;obtain⟨p0,p1,p2⟩:=Q0 _ B3;have hR:=ah B3 R1
  cases cu:dP ks ps es
  .have HE:Hid (fU ks ps es nm=AD):=by show _=_;unfold fU;rw[cu];rfl
   go_wp2_with (refine cS (w.heap.size+1) #[R ⟨#[]⟩,R ⟨#[]⟩,I J 0,I J 0,I J 0,I J 0,I J 0,U AD 0 0] hR ?_)
   first
   |have _:=IA
    exact bv (AI #[AG #[R ⟨#[]⟩,R ⟨#[]⟩,I J 0,I J 0,I J 0,I J 0,I J 0,U AD 0 0],AH false]) ⟨U AD 0 0,by rw[HE.out];rfl,(λx h=>by rw[HE.out] at h;cases h),bL (aa A1 B2)⟩ (by simp[results,results128,go_sem,bU hR])
   |exact bv (AI #[AG #[R ⟨#[]⟩,R ⟨#[]⟩,I J 0,I J 0,I J 0,I J 0,I J 0,U AD 0 0],AH false]) ⟨U AD 0 0,by rw[HE.out];rfl,(λx h=>by rw[HE.out] at h;cases h),bL (aa A1.out B3.out)⟩ (by simp[results,results55,go_sem,bU hR])
  have mG:Hid _:=cu
  first
  |have _:=IA
   go_wp2_with fail;refine(BM _ es nm _ (HB _ (aa A1 B2)).e).mono ?_;rintro e w3⟨rfl,cb⟩;have B3:Hid _:=aa B2 cb;obtain⟨p0,p1,p2⟩:=Q0 _ B3;have hR:=ah B3 R1
   cases eM:wX es nm
   .have HE:Hid (fU ks ps es nm=AD):=by show _=_;unfold fU;rw[mG.out,(La (Lx mG.out)).2 eM];rfl
    go_wp2_with (refine cS (w.heap.size+1) #[R ⟨#[]⟩,R ⟨#[]⟩,I J 0,I J 0,I J 0,I J 0,I J 0,U AD 0 0] hR ?_)
    exact bv (AI #[AG #[R ⟨#[]⟩,R ⟨#[]⟩,I J 0,I J 0,I J 0,I J 0,I J 0,U AD 0 0],AH false]) ⟨U AD 0 0,by rw[HE.out];rfl,(λx h=>by rw[HE.out] at h;cases h),bL (aa A1 B3)⟩ (by simp[results,results128,go_sem,bU hR])
   obtain⟨cl,av⟩:=(La (Lx mG)).1 eM;have ad:=AT (bo cl)
   have tu:Hid (fU ks ps es nm=bif mX (eO es (mP es nm)).fs then AE (eO es (mP es nm)) else AD):=by show _=_;unfold fU;rw[mG.out,av];rfl
   have nS:Hid (∀f∈(eO es (mP es nm)).fs,eX ks ps f.what f.v=true/\f.v.size<=1048576):=λf hf=>⟨de mG _ ad f hf,sB.v _ ad f hf⟩;have qL:Hid ((eO es (mP es nm)).fs.length<=1048576/\(eO es (mP es nm)).name.size<=1048576):=⟨sB.f _ ad,sB.n _ ad⟩;have ew:Hid _:=Dt mG
   have PE:Hid (∀wx:World,Bw w wx->∃b off,ae=AE ⟨b,off,AD⟩/\ou wx b (off+mP es nm*2) (eO es (mP es nm))):=λwx hx=>by
    obtain⟨a9,c9,e9,-,-,h9⟩:=(HB _ hx).e;obtain⟨b,off,ha,hc⟩:=h9 _ _ (bo cl)
    cases e9
    exact⟨b,off,ha,hc⟩
   have eJ:(0:Int)<=((mP es nm:Nat):Int):=by omega
   have eI:((mP es nm:Nat):Int)<(es.length:Int):=by omega
   obtain⟨⟨en,fs⟩,dm⟩:∃e,eO es (mP es nm)=e:=⟨_,rfl⟩;rw[dm] at tu nS qL PE
  |clear cu
   obtain⟨rfl,av⟩|⟨j,cl,rfl,av⟩:=cL
   .have HE:Hid (fU ks ps es nm=AD):=by show _=_;unfold fU;rw[mG.out,av];rfl
    go_wp2_with (refine cS (w.heap.size+1) #[R ⟨#[]⟩,R ⟨#[]⟩,I J 0,I J 0,I J 0,I J 0,I J 0,U AD 0 0] hR ?_)
    exact bv (AI #[AG #[R ⟨#[]⟩,R ⟨#[]⟩,I J 0,I J 0,I J 0,I J 0,I J 0,U AD 0 0],AH false]) ⟨U AD 0 0,by rw[HE.out];rfl,(λx h=>by rw[HE.out] at h;cases h),bL (aa A1 B3)⟩ (by simp[results,results55,go_sem,bU hR])
   have ad:=AT (bo cl)
   have tu:Hid (fU ks ps es nm=bif mX (eO es j).fs then AE (eO es j) else AD):=by show _=_;unfold fU;rw[mG.out,av];rfl
   have nS:Hid (∀f∈(eO es j).fs,eX ks ps f.what f.v=true/\f.v.size<=1048576):=λf hf=>⟨de mG _ ad f hf,sB.v _ ad f hf⟩;have ey:Hid _:=yX mG _ ad;have Mt:Hid _:=sZ mG
   have PE:Hid (∀wx:World,Bw w wx->∃b off,ae=AE ⟨b,off,AD⟩/\ou wx b (off+j*2) (eO es j)):=λwx hx=>by
    obtain⟨a9,c9,e9,-,-,h9⟩:=(HB _ hx).e;obtain⟨b,off,ha,hc⟩:=h9 _ _ (bo cl)
    cases e9
    exact⟨b,off,ha,hc⟩
   have eJ:(0:Int)<=(j:Int):=by omega
   have eI:(j:Int)<(es.length:Int):=by omega
   obtain⟨⟨en,fs⟩,dm⟩:∃e,eO es j=e:=⟨_,rfl⟩;rw[dm] at tu nS ey PE
  first
  |have _:=IA
   dsimp only at tu nS qL;obtain⟨j,hj⟩:∃j,mP es nm=j:=⟨_,rfl⟩;rw[hj] at PE eJ eI cl ⊢
  |dsimp only at tu nS ey
  obtain⟨b,off,rfl,fv,d0,d1,bb⟩:=PE _ (aa A1 B3);dsimp only at d0 d1 bb;obtain⟨af,cf,rfl,-,-,-⟩:=bb
  first|(have _:=IA;have GS:Hid (∀wx:World,Bw w1 wx->∀fv,iY wx fv fs->Calls prog 126 #[AG #[U ak ks.length ck,U ap ps.length cp],AG #[R en,fv]] wx λe w'=>∃rt,e=AJ (AI #[AG (pX ks en fs rt),AH (mX fs)])/\(mX fs=true->jr w' wx.heap.size rt (dG fs 4))/\Bw wx w'):=λwx hx fv QP=>vV _ _ fv ks ps en fs wx (HB.out _ (aa A1.out hx)).k QP nS.out ew.out qL.out.1 qL.out.2 (HN.out _ (aa A1.out hx)))|(have GS:Hid (∀wx:World,Bw w1 wx->∀fv,iY wx fv fs->Calls prog 54 #[AG #[U ak ks.length ck,U ap ps.length cp,U (AE ⟨b,off,AD⟩) es.length ce],AG #[R en,fv]] wx λe w'=>∃rt,e=AJ (AI #[AG (pX ks en fs rt),AH (mX fs)])/\(mX fs=true->jr w' wx.heap.size rt (dG fs 4))/\Bw wx w'):=λwx hx fv QP=>wU _ _ _ fv ks ps en fs wx (HB.out _ (aa A1.out hx)).k QP Mt.out nS.out ey.out ⟨_,_,_,rfl⟩ ⟨_,_,_,rfl⟩)
  have QS:Hid (∀wx:World,Bw w3 wx->((wx.cell? ⟨w.heap.size,0,AD⟩=AE (U ak ks.length ck)/\wx.cell? ⟨w.heap.size,1,AD⟩=AE (U ap ps.length cp)/\wx.cell? ⟨w.heap.size,2,AD⟩=AE (U (AE ⟨b,off,AD⟩) es.length ce))/\wx.cell? ⟨b,off+j*2,AD⟩=AE (R en)/\wx.cell? ⟨b,off+j*2+1,AD⟩=AE (U af fs.length cf))/\iY wx (U af fs.length cf) fs):=λwx hx=>by
   refine⟨⟨⟨(Q0 _ (aa B3 hx)).1,(Q0 _ (aa B3 hx)).2.1,(Q0 _ (aa B3 hx)).2.2⟩,ac hx aE d0,ac hx aE d1⟩,?_⟩;obtain⟨b',cg,Ex,eR,e0,e1,NI⟩:=PE _ (aa A1 B3)
   cases Ex
   dsimp only at e1 NI;rw[d1] at e1
   injection e1 with e1
   subst e1;exact NI.keep hx
  go_wp2_with fail;refine wp_region_noPanic ?_
  refine wp_region_held_drew (S:=λwx=>(wx.cell? ⟨w.heap.size,0,AD⟩=AE (U ak ks.length ck)/\wx.cell? ⟨w.heap.size,1,AD⟩=AE (U ap ps.length cp)/\wx.cell? ⟨w.heap.size,2,AD⟩=AE (U (AE ⟨b,off,AD⟩) es.length ce))/\wx.cell? ⟨b,off+j*2,AD⟩=AE (R en)/\wx.cell? ⟨b,off+j*2+1,AD⟩=AE (U af fs.length cf)) (by kernel_rfl) ?_ (λab=>?_)
  .exact (QS _ (AS _ _).drew).1
  have I4:Hid (Bw w3 w3.drew):=(AS _ _).drew;generalize w3.drew=W at *
  first
  |have _:=IA
   refine aZ 0 ?_;refine aZ 1 ?_;refine aZ 2 ?_;refine aZ 3 ?_;refine aZ 4 ?_;refine aZ 5 ?_;refine aZ 6 ?_
  |refine aM 0 ?_ rfl ?_ (aM 1 ?_ rfl ?_ (aM 2 ?_ rfl ?_ (aM 3 ?_ rfl ?_ (aM 4 ?_ rfl ?_ (aM 5 ?_ rfl ?_ ?_)))))
   iterate 6(rotate_left;focus(intro w ba;(try dsimp only at ba);simp only[AW,aK];go_simp;try with_reducible rfl))
  simp only[AW,aK]
  first|(have _:=IA;refine be 7 (λK hK=>?_))|(refine be 6 (λK hK=>?_))
  go_simp;refine(GS _ (aa B3 I4) _ (QS _ I4).2).mono ?_;rintro e W2⟨rt,rfl,b6,ax⟩;have I5:Hid (Bw w3 W2/\Bw w W2):=⟨aa I4 ax,aa (aa A1 B3) (aa I4 ax)⟩;have Ot:Hid (mX fs=true->jr W2 w.heap.size rt (dG fs 4)):=λh=>(b6 h).mono (aa (aa A1 B3) I4).size;have ab:=(QS _ I5.1).1;refine hK _ _ ab (λ_=>?_);have gj:=ah (aa B3 I5.1) R1;have b5:=Lv.dx gj
  have hbl:b<w3.heap.size:=by
   obtain⟨b',cg,Ex,eR,e0,e1,NI⟩:=PE _ (aa A1 B3)
   cases Ex
   exact am e0
  have rq:Hid (b≠w.heap.size+1):=by
   obtain⟨b',cg,Ex,eR,e0,-⟩:=PE w (AS _ _)
   cases Ex
   have:=am e0
   show b≠w.heap.size+1
   omega
  cases ai:mX fs
  .have HE:Hid (fU ks ps es nm=AD):=by show _=_;rw[tu.out,ai];rfl
   have HS:Hid (pX ks en fs rt=#[R ⟨#[]⟩,R ⟨#[]⟩,I J 0,I J 0,I J 0,I J 0,I J 0,U AD 0 0]):=by show _=_;unfold pX;rw[ai];rfl
   rw[HS.out]
   first|(have _:=IA;refine aM 8 ?_ rfl ?_ (aM 9 ?_ rfl ?_ ?_))|(refine aM 7 ?_ rfl ?_ (aM 8 ?_ rfl ?_ ?_))
   iterate 2(rotate_left;focus(intro w ba;(try dsimp only at ba);simp only[AW,aK];go_simp;try with_reducible rfl))
   simp only[AW,aK]
   first|(have _:=IA;refine be 10 (λK hK=>?_))|(refine be 9 (λK hK=>?_))
   refine PS (w.heap.size+1) #[R ⟨#[]⟩,R ⟨#[]⟩,I J 0,I J 0,I J 0,I J 0,I J 0,U AD 0 0] b5 ?_;have HO:Hid (∀q:Nat,q≠w.heap.size+1->(W2.setRow (w.heap.size+1) #[R ⟨#[]⟩,R ⟨#[]⟩,I J 0,I J 0,I J 0,I J 0,I J 0,U AD 0 0]).heap[q]?=W2.heap[q]?):=λq hq=>ni hq;have HF:Hid ((W2.setRow (w.heap.size+1) #[R ⟨#[]⟩,R ⟨#[]⟩,I J 0,I J 0,I J 0,I J 0,I J 0,U AD 0 0]).heap[w.heap.size+1]?=AE (AF #[R ⟨#[]⟩,R ⟨#[]⟩,I J 0,I J 0,I J 0,I J 0,I J 0,U AD 0 0] 81 (0,0))):=oN b5;have Mk:Hid (Bw w (W2.setRow (w.heap.size+1) #[R ⟨#[]⟩,R ⟨#[]⟩,I J 0,I J 0,I J 0,I J 0,I J 0,U AD 0 0])):=bL I5.2;have hS:=(QS _ I5.1).1;generalize W2.setRow _ _=wf at *
   have ab:(wf.cell? ⟨w.heap.size,0,AD⟩=AE (U ak ks.length ck)/\wf.cell? ⟨w.heap.size,1,AD⟩=AE (U ap ps.length cp)/\wf.cell? ⟨w.heap.size,2,AD⟩=AE (U (AE ⟨b,off,AD⟩) es.length ce))/\wf.cell? ⟨b,off+j*2,AD⟩=AE (R en)/\wf.cell? ⟨b,off+j*2+1,AD⟩=AE (U af fs.length cf):=⟨⟨(World.cell?_of_block (HO w.heap.size (by omega))).trans hS.1.1,(World.cell?_of_block (HO w.heap.size (by omega))).trans hS.1.2.1,(World.cell?_of_block (HO w.heap.size (by omega))).trans hS.1.2.2⟩,(World.cell?_of_block (HO b (λe=>rq e))).trans hS.2.1,(World.cell?_of_block (HO b (λe=>rq e))).trans hS.2.2⟩
   refine hK _ _ ab (λ_=>?_)
   first|(have _:=IA;refine aM 11 ?_ rfl ?_ ?_;rotate_left)|(refine aM 10 ?_ rfl ?_ ?_;rotate_left)
   .intro w ba;(try dsimp only at ba);go_simp;try with_reducible rfl
   simp only[AW,aK]
   have hf:=HF.out;refine vI ?_;refine NoPanic.normal ?_;go_wp2
   have y0:wf.cell? ⟨w.heap.size+1,0,AD⟩=AE (R ⟨#[]⟩):=by simp[AM,hf]
   have y1:wf.cell? ⟨w.heap.size+1,1,AD⟩=AE (R ⟨#[]⟩):=by simp[AM,hf]
   have y2:wf.cell? ⟨w.heap.size+1,2,AD⟩=AE (I J 0):=by simp[AM,hf]
   have y3:wf.cell? ⟨w.heap.size+1,3,AD⟩=AE (I J 0):=by simp[AM,hf]
   have y4:wf.cell? ⟨w.heap.size+1,4,AD⟩=AE (I J 0):=by simp[AM,hf]
   have y5:wf.cell? ⟨w.heap.size+1,5,AD⟩=AE (I J 0):=by simp[AM,hf]
   have y6:wf.cell? ⟨w.heap.size+1,6,AD⟩=AE (I J 0):=by simp[AM,hf]
   have y7:wf.cell? ⟨w.heap.size+1,7,AD⟩=AE (U AD 0 0):=by simp[AM,hf]
   first
   |have _:=IA
    exact bv (AI #[AG #[R ⟨#[]⟩,R ⟨#[]⟩,I J 0,I J 0,I J 0,I J 0,I J 0,U AD 0 0],AH false]) ⟨U AD 0 0,by rw[HE.out];rfl,(λx h=>by rw[HE.out] at h;cases h),Mk⟩ (by simp[results,results128,go_sem,y0,y1,y2,y3,y4,y5,y6,y7])
   |exact bv (AI #[AG #[R ⟨#[]⟩,R ⟨#[]⟩,I J 0,I J 0,I J 0,I J 0,I J 0,U AD 0 0],AH false]) ⟨U AD 0 0,by rw[HE.out];rfl,(λx h=>by rw[HE.out] at h;cases h),Mk.out⟩ (by simp[results,results55,go_sem,y0,y1,y2,y3,y4,y5,y6,y7])
  .have b6:=Ot.out ai
   obtain⟨ra,rn,rc,fR⟩:=b6.slice;subst fR;have bV:Hid _:=b6
   have HE:Hid (fU ks ps es nm=AE ⟨en,fs⟩):=by show _=_;rw[tu.out,ai];rfl
   have HS:Hid (pX ks en fs (U ra rn rc)=rf ks en fs (U ra rn rc)):=by show _=_;unfold pX;rw[ai];rfl
   rw[HS.out];obtain⟨k1,e1⟩:∃t,jc ks (dG fs 1)=t:=⟨_,rfl⟩;obtain⟨k2,e2⟩:∃t,l9 (dG fs 2)=t:=⟨_,rfl⟩;obtain⟨k3,e3⟩:∃t,kK (dG fs 2)=t:=⟨_,rfl⟩;obtain⟨k4,e4⟩:∃t,mF (dG fs 3)=t:=⟨_,rfl⟩
   have Vd:Hid (rf ks en fs (U ra rn rc)=#[R en,R k1.s,I J k1.x,I J k1.y,I J k2,I J k3,I J k4,U ra rn rc]):=by show _=_;unfold rf Im;rw[e1,e2,e3,e4]
   rw[Vd.out]
   first|(have _:=IA;refine aM 8 ?_ rfl ?_ (aM 9 ?_ rfl ?_ ?_))|(refine aM 7 ?_ rfl ?_ (aM 8 ?_ rfl ?_ ?_))
   iterate 2(rotate_left;focus(intro w ba;(try dsimp only at ba);simp only[AW,aK];go_simp;try with_reducible rfl))
   simp only[AW,aK]
   first|(have _:=IA;refine be 10 (λK hK=>?_))|(refine be 9 (λK hK=>?_))
   refine PS (w.heap.size+1) #[R en,R k1.s,I J k1.x,I J k1.y,I J k2,I J k3,I J k4,U ra rn rc] b5 ?_;have HO:Hid (∀q:Nat,q≠w.heap.size+1->(W2.setRow (w.heap.size+1) #[R en,R k1.s,I J k1.x,I J k1.y,I J k2,I J k3,I J k4,U ra rn rc]).heap[q]?=W2.heap[q]?):=λq hq=>ni hq;have HF:Hid ((W2.setRow (w.heap.size+1) #[R en,R k1.s,I J k1.x,I J k1.y,I J k2,I J k3,I J k4,U ra rn rc]).heap[w.heap.size+1]?=AE (AF #[R en,R k1.s,I J k1.x,I J k1.y,I J k2,I J k3,I J k4,U ra rn rc] 81 (0,0))):=oN b5;have Mk:Hid (Bw w (W2.setRow (w.heap.size+1) #[R en,R k1.s,I J k1.x,I J k1.y,I J k2,I J k3,I J k4,U ra rn rc])):=bL I5.2;have eg:Hid (jr (W2.setRow (w.heap.size+1) #[R en,R k1.s,I J k1.x,I J k1.y,I J k2,I J k3,I J k4,U ra rn rc]) w.heap.size (U ra rn rc) (dG fs 4)):=jr.row bV b5;have hS:=(QS _ I5.1).1;generalize W2.setRow _ _=wf at *
   have ab:(wf.cell? ⟨w.heap.size,0,AD⟩=AE (U ak ks.length ck)/\wf.cell? ⟨w.heap.size,1,AD⟩=AE (U ap ps.length cp)/\wf.cell? ⟨w.heap.size,2,AD⟩=AE (U (AE ⟨b,off,AD⟩) es.length ce))/\wf.cell? ⟨b,off+j*2,AD⟩=AE (R en)/\wf.cell? ⟨b,off+j*2+1,AD⟩=AE (U af fs.length cf):=⟨⟨(World.cell?_of_block (HO w.heap.size (by omega))).trans hS.1.1,(World.cell?_of_block (HO w.heap.size (by omega))).trans hS.1.2.1,(World.cell?_of_block (HO w.heap.size (by omega))).trans hS.1.2.2⟩,(World.cell?_of_block (HO b (λe=>rq e))).trans hS.2.1,(World.cell?_of_block (HO b (λe=>rq e))).trans hS.2.2⟩
   refine hK _ _ ab (λ_=>?_)
   first|(have _:=IA;refine aM 11 ?_ rfl ?_ ?_;rotate_left)|(refine aM 10 ?_ rfl ?_ ?_;rotate_left)
   .intro w ba;(try dsimp only at ba);go_simp;try with_reducible rfl
   simp only[AW,aK]
   have hf:=HF.out;refine vI ?_;refine NoPanic.normal ?_;go_wp2
   have y0:wf.cell? ⟨w.heap.size+1,0,AD⟩=AE (R en):=by simp[AM,hf]
   have y1:wf.cell? ⟨w.heap.size+1,1,AD⟩=AE (R k1.s):=by simp[AM,hf]
   have y2:wf.cell? ⟨w.heap.size+1,2,AD⟩=AE (I J k1.x):=by simp[AM,hf]
   have y3:wf.cell? ⟨w.heap.size+1,3,AD⟩=AE (I J k1.y):=by simp[AM,hf]
   have y4:wf.cell? ⟨w.heap.size+1,4,AD⟩=AE (I J k2):=by simp[AM,hf]
   have y5:wf.cell? ⟨w.heap.size+1,5,AD⟩=AE (I J k3):=by simp[AM,hf]
   have y6:wf.cell? ⟨w.heap.size+1,6,AD⟩=AE (I J k4):=by simp[AM,hf]
   have y7:wf.cell? ⟨w.heap.size+1,7,AD⟩=AE (U ra rn rc):=by simp[AM,hf]
   first
   |have _:=IA
    exact bv (AI #[AG #[R en,R k1.s,I J k1.x,I J k1.y,I J k2,I J k3,I J k4,U ra rn rc],AH true]) ⟨U ra rn rc,by rw[HE.out];show _=Ending.returned (AI #[AG (rf ks en fs (U ra rn rc)),AH true]);rw[Vd.out],(λx h=>by rw[HE.out] at h;injection h with h;subst h;exact eg),Mk⟩ (by simp[results,results128,go_sem,y0,y1,y2,y3,y4,y5,y6,y7])
   |exact bv (AI #[AG #[R en,R k1.s,I J k1.x,I J k1.y,I J k2,I J k3,I J k4,U ra rn rc],AH true]) ⟨U ra rn rc,by rw[HE.out];show _=Ending.returned (AI #[AG (rf ks en fs (U ra rn rc)),AH true]);rw[Vd.out],(λx h=>by rw[HE.out] at h;injection h with h;subst h;exact eg.out),Mk.out⟩ (by simp[results,results55,go_sem,y0,y1,y2,y3,y4,y5,y6,y7])
theorem BG(vk vp ve:Value)(ks ps:List dE)(es:List eF)(nm:ByteArray)(w:World)(hB:dW w vk vp ve ks ps es)(nB:jV ks ps es)(sB:ic ks ps es)(hN:gM w):Calls prog 128 #[AG #[vk,vp,ve],R nm] w λe w'=>∃rt,e=AJ (AI #[AG (rD ks (fU ks ps es nm) rt),AH (fU ks ps es nm).isSome])/\(∀x,fU ks ps es nm=AE x->jr w' w.heap.size rt (dG x.fs 4))/\Bw w w':=mH.1 vk vp ve ks ps es nm w hB nB sB hN
theorem z8(vk vp ve:Value)(ks ps:List dE)(es:List eF)(nm:ByteArray)(w:World)(hB:dW w vk vp ve ks ps es)(nB:jV ks ps es)(sB:ic ks ps es):Calls prog 55 #[AG #[vk,vp,ve],R nm] w λe w'=>∃rt,e=AJ (AI #[AG (rD ks (fU ks ps es nm) rt),AH (fU ks ps es nm).isSome])/\(∀x,fU ks ps es nm=AE x->jr w' w.heap.size rt (dG x.fs 4))/\Bw w w':=mH.2 vk vp ve ks ps es nm w hB nB sB
end Go.Proofs.YtolokangldmodaaGreatDoor.Sd
namespace Go.Proofs.YtolokangldmodaaGreatDoor.Pa
open Go.RowKit Sd
structure Stp where
 x:Int
 y:Int
 lo:Int
 hi:Int
 fr:Int
 b:Int
deriving DecidableEq
def wR(N:Nat)(l:Int)(k:Nat):Int:=jJ l (jJ (k:Int) ((N:Int)-1-(k:Int)))
def PQ(cs:List iM)(l fr b q s:Int)(k:Nat):Stp :=
 ⟨(iI cs k).x,(iI cs k).y,jJ (wR cs.length l (k-1)) (wR cs.length l k),kG (wR cs.length l (k-1)) (wR cs.length l k),fr+(k:Int)*q,b+(k:Int)*s⟩
def iN(cs:List iM)(l fr b q s:Int)(k:Nat):List Stp:=(List.range k).map (PQ cs l fr b q s)
theorem uP(cs:List iM)(l fr b q s:Int)(k:Nat):iN cs l fr b q s (k+1)=iN cs l fr b q s k++[PQ cs l fr b q s k]:=by
 simp[iN,List.range_succ]
theorem cq(cs:List iM)(l fr b q s:Int)(k:Nat):(iN cs l fr b q s k).length=k:=by simp[iN]
theorem Cv{l:Int}(hN:1<=N/\N<=40)(hl:1<=l/\l<=6)(k:Nat)(hk:k<N):(gT (N:Int) l)[k]?=AE (wR N l k):=by
 unfold gT
 rw[decide_eq_true (by omega)]
 simp[wR,hk]
theorem Cu{l:Int}(hN:1<=N/\N<=40)(hl:1<=l/\l<=6):(gT (N:Int) l).length=N:=by
 unfold gT
 rw[decide_eq_true (by omega)]
 simp
structure FlOk (t:dE) (x y z:Int):Prop where
 q:1<=t.x
 qs:t.x<=t.y
 s:t.y<=50
 fr:0<=x
 fb:x<=y
 b:y<=10000
 l:1<=z
 lm:z<=6
theorem M3(x:ByteArray):0<=uS x:=by
 unfold uS
 cases eY x<;>simp
theorem Ao(h:mX fs=true)(k:Nat)(hk:1<=k/\k<=4)(ha:Vn fs):∃f,dG fs (k:Int)=AE f/\f∈fs/\f.what=(k:Int):=by
 cases hs:jD fs (k:Int) with
 |false=>rw[Fv hk hs] at h;cases h
 |true =>
  rw[xZ] at hs;obtain⟨f,hf⟩:=Option.isSome_iff_exists.1 hs
  exact⟨f,by rw[yG (x:=(k:Int)) fs (Pt ha)];exact hf,tZ hf⟩
theorem QF(h:dU ks=true){v:ByteArray}(hv:hasB ks v=true):gW (at' ks (fG ks v))=true:=by
 unfold dU at h;rw[AL] at h;unfold hasB at hv;rw[AL] at hv;exact bj h.2 _ (of_decide_eq_true hv.1)
theorem vW{nm:ByteArray}(h:fU ks ps es nm=AE e) :
 dP ks ps es=true/\e∈es/\(∃f,dG e.fs 4=AE f/\o8 e=dA f.v)/\fJ ps (o8 e)=true/\FlOk (jc ks (dG e.fs 1)) (l9 (dG e.fs 2)) (kK (dG e.fs 2)) (mF (dG e.fs 3)):=by
 have hb:dP ks ps es=true:=by
  unfold fU at h
  cases hb:dP ks ps es with
  |true=>rfl
  |false=>rw[hb] at h;cases h
 obtain⟨he,ai⟩:e∈es/\mX e.fs=true:=by
  unfold fU at h;rw[hb] at h
  simp only[cond_true] at h
  cases hf:es.find? (λe=>decide (e.name=nm)) with
  |none=>rw[hf] at h;cases h
  |some e' =>
   rw[hf] at h;dsimp only at h
   cases hs:mX e'.fs with
   |false=>rw[hs] at h;cases h
   |true =>
    rw[hs] at h
    injection h with h
    subst h;exact⟨List.mem_of_find?_eq_some hf,hs⟩
 have ha:=yX hb e he
 obtain⟨f1,l1,m1,w1⟩:=Ao ai 1 (by omega) ha
 obtain⟨f2,l2,m2,w2⟩:=Ao ai 2 (by omega) ha
 obtain⟨f3,l3,m3,w3⟩:=Ao ai 3 (by omega) ha
 obtain⟨f4,l4,m4,w4⟩:=Ao ai 4 (by omega) ha
 have v1:=de hb e he f1 m1;have v2:=de hb e he f2 m2;have v3:=de hb e he f3 m3;have v4:=de hb e he f4 m4;rw[w1] at v1;rw[w2] at v2;rw[w3] at v3;rw[w4] at v4
 have fc:hasB ks f1.v=true:=by simpa[eX] using v1
 have ds:jy (dA f2.v)=true:=by simpa[eX] using v2
 have ei:jR f3.v=true:=by simpa[eX] using v3
 have fa:fJ ps (dA f4.v)=true:=by simpa[eX] using v4
 have fi:dG e.fs 1=AE f1:=l1;have fh:dG e.fs 2=AE f2:=l2;have fg:dG e.fs 3=AE f3:=l3;have ez:dG e.fs 4=AE f4:=l4
 have hr:o8 e=dA f4.v:=by unfold o8;rw[ez]
 refine⟨hb,he,⟨f4,ez,hr⟩,by rw[hr];exact fa,?_⟩
 rw[fi,fh,fg];have p:=QF (sZ hb) fc;unfold gW at p
 simp at p
 rw[Jj] at ds
 simp at ds
 have h0:0<=ER (dA f2.v):=by
  unfold ER
  cases decide ((dA f2.v).length=2)
  .simp
  .exact M3 _
 unfold jR fE at ei
 simp at ei
 have hl:uS f3.v=(mR f3.v:Int):=by unfold uS;rw[ei.1];rfl
 exact⟨p.1,p.2.1,p.2.2,h0,ds.2.1,ds.2.2,by show 1<=uS f3.v;rw[hl];omega,by show uS f3.v<=6;rw[hl];omega⟩
theorem Dm(h:2<=ws.length):1<=(fM ps ws).length:=by
 have:∀n,1<=(eU (iI (turns ps ws)) (n+1)).length:=λn=>by
  induction n with
  |zero=>simp[eU]
  |succ n ih=>rw[eU,Ax];omega
 unfold fM
 obtain⟨n,hn⟩:∃n,ws.length=n+1:=⟨ws.length-1,by omega⟩
 rw[hn];exact this n
structure Pth where
 c:Int
 st:List Stp
 fr:Int
 b:Int
def rQ(ks ps:List dE)(e:eF):Pth :=
 bif dZ ks ps (o8 e) then
  (bif decide (10000<kK (dG e.fs 2)+((fM ps (o8 e)).length:Int)*(jc ks (dG e.fs 1)).y) then⟨4,[],0,0⟩ else
   ⟨0,iN (fM ps (o8 e)) (mF (dG e.fs 3)) (l9 (dG e.fs 2)) (kK (dG e.fs 2)) (jc ks (dG e.fs 1)).x (jc ks (dG e.fs 1)).y (fM ps (o8 e)).length,
    l9 (dG e.fs 2)+((fM ps (o8 e)).length:Int)*(jc ks (dG e.fs 1)).x,kK (dG e.fs 2)+((fM ps (o8 e)).length:Int)*(jc ks (dG e.fs 1)).y⟩)
 else⟨3,[],0,0⟩
def dQ(ks ps:List dE)(es:List eF)(nm:ByteArray):Pth:=bif dP ks ps es then(match fU ks ps es nm with
 |some e=>rQ ks ps e
 |none=>⟨2,[],0,0⟩) else⟨1,[],0,0⟩
theorem Qe(ks ps:List dE)(e:eF):(rQ ks ps e).st.length<=40:=by
 unfold rQ
 cases h:dZ ks ps (o8 e) with
 |false=>simp
 |true =>
  have h2:(fM ps (o8 e)).length<=40:=by
   unfold dZ at h;rw[AL] at h;exact of_decide_eq_true h.2
  simp only[cond_true]
  cases decide (10000<kK (dG e.fs 2)+((fM ps (o8 e)).length:Int)*(jc ks (dG e.fs 1)).y)
  .simp only [cond_false,cq];exact h2
  .simp
theorem ym(ks ps:List dE)(es:List eF)(nm:ByteArray):(dQ ks ps es nm).st.length<=40:=by
 unfold dQ
 cases dP ks ps es
 .simp
 .simp only [cond_true]
  cases fU ks ps es nm with
  |none=>simp
  |some e=>exact Qe ks ps e
def Bd(s:Stp):List Value:=[I J s.x,I J s.y,I J s.lo,I J s.hi,I J s.fr,I J s.b]
def iJ(l:List Stp):List Value:=l.flatMap Bd
theorem zl:∀(l:List Stp) (i:Nat) (c:Stp),l[i]?=AE c->(iJ l)[i*6]?=AE (I J c.x)/\(iJ l)[i*6+1]?=AE (I J c.y)/\(iJ l)[i*6+2]?=AE (I J c.lo)/\(iJ l)[i*6+3]?=AE (I J c.hi)/\(iJ l)[i*6+4]?=AE (I J c.fr)/\(iJ l)[i*6+5]?=AE (I J c.b)
 |[],i,c,h=>by simp at h
 |a::l,0,c,h=>by simp at h;subst h;simp[iJ,Bd]
 |a::l,i+1,c,h=>by
  have:=zl l i c (by simpa using h)
  rw[show(i+1)*6=i*6+6 by omega]
  simpa[iJ,Bd] using this
def gK(w:World)(B:Nat)(v:Value)(l:List Stp):Prop:=w.ownsRow B 130 6 v l.length (iJ l)
def yZ(w:World)(v:Value)(l:List Stp):Prop:=∃a cap,v=U a l.length cap/\l.length<=cap/\cap<=maxLen/\∀i c,l[i]?=AE c->∃g,a=AE ⟨g,0,AD⟩/\(w.cell? ⟨g,i*6,AD⟩=AE (I J c.x)/\w.cell? ⟨g,i*6+1,AD⟩=AE (I J c.y)/\w.cell? ⟨g,i*6+2,AD⟩=AE (I J c.lo))/\w.cell? ⟨g,i*6+3,AD⟩=AE (I J c.hi)/\w.cell? ⟨g,i*6+4,AD⟩=AE (I J c.fr)/\w.cell? ⟨g,i*6+5,AD⟩=AE (I J c.b)
theorem gK.at{l:List Stp}(h:gK w B v l):yZ w v l:=by
 obtain⟨h1,h2⟩:=h
 rcases h2 with⟨rfl,h0⟩|⟨g,cap,cur,rfl,hB,hb,hn,hc,hs,ht⟩
 .refine ⟨AD,0,by rw[h0],by omega,As _,λi t hi=>?_⟩
  have:=(List.getElem?_eq_some_iff.1 hi).1
  omega
 .refine ⟨_,cap,rfl,hn,hc,λi t hi=>⟨g,rfl,?_⟩⟩
  have hil:=(List.getElem?_eq_some_iff.1 hi).1;obtain⟨e0,e1,e2,e3,e4,e5⟩:=zl l i t hi;rw[<-ht] at e0 e1 e2 e3 e4 e5
  rw[List.getElem?_take,if_pos (by omega)] at e0 e1 e2 e3 e4 e5
  simp only[AM,hb,Option.isSome_none,Bool.false_eq_true,if_false]
  exact⟨⟨by simpa using e0,by simpa using e1,by simpa using e2⟩,by simpa using e3,by simpa using e4,by simpa using e5⟩
theorem yZ.keep{l:List Stp}(h:yZ w v l)(hb:Bw w w'):yZ w' v l:=by
 obtain⟨a,cap,h1,h2,h3,h4⟩:=h;refine⟨a,cap,h1,h2,h3,λi t ht=>?_⟩;obtain⟨g,ha,⟨c0,c1,c2⟩,c3,c4,c5⟩:=h4 i t ht;exact⟨g,ha,⟨ac hb aE c0,ac hb aE c1,ac hb aE c2⟩,ac hb aE c3,ac hb aE c4,ac hb aE c5⟩
theorem gK.nil(w:World)(B:Nat):gK w B (U AD 0 0) []:=⟨rfl,.inl ⟨rfl,rfl⟩⟩
theorem gK.snoc{l:List Stp}{c:Stp}(hn:l.length=n)(h:w.ownsRow B 130 6 v (n+1) (iJ l++Bd c)):gK w B v (l++[c]):=by
 unfold gK;rw[Ax]
 have e:iJ (l++[c])=iJ l++Bd c:=by simp[iJ]
 rw[e];subst hn;exact h
theorem KU:(prog.info? 130).map (λi=>(i.zero,i.size,i.bytes))=AE (AE (AG #[I J 0,I J 0,I J 0,I J 0,I J 0,I J 0]),6,48):=by kernel_rfl
def sat(l:List Stp)(i:Nat):Stp:=l.getD i ⟨0,0,0,0,0,0⟩
theorem nW{l:List Stp}{i:Nat}(h:i<l.length):l[i]?=AE (sat l i):=by simp[sat,h]
end Go.Proofs.YtolokangldmodaaGreatDoor.Pa
namespace Go.Proofs.YtolokangldmodaaGreatDoor.Fa
open Go.RowKit Sd Pa
structure FlV where
 q:ByteArray
 t:dE
 x:Int
 y:Int
 z:Int
 L:List ByteArray
abbrev Mw:=FlV×Value
def uK(p:Mw):List Value:=[R p.1.q,R p.1.t.s,I J p.1.t.x,I J p.1.t.y,I J p.1.x,I J p.1.y,I J p.1.z,p.2]
def kI(l:List Mw):List Value:=l.flatMap uK
theorem CY:∀(l:List Mw) (i j:Nat) (p:Mw),l[i]?=AE p->j<8->(kI l)[i*8+j]?=(uK p)[j]?
 |[],i,j,p,h,hj=>by simp at h
 |a::l,0,j,p,h,hj=>by
  simp at h;subst h
  have:(kI (a::l))=uK a++kI l:=by simp[kI]
  rw[this,Nat.zero_mul,A3,List.getElem?_append_left (by simpa[uK] using hj)]
 |a::l,i+1,j,p,h,hj=>by
  have h1:=CY l i j p (by simpa using h) hj
  have h2:(kI (a::l))=uK a++kI l:=by simp[kI]
  rw[h2,List.getElem?_append_right (by simp[uK];omega),<-h1]
  congr 1
  simp[uK]
  omega
def Apart(u v:Value):Prop:=∀k,u.ownBlock=AE k->v.ownBlock≠AE k
theorem dX{b b':Nat}{e e':TypeId}{s s' n':Nat}{u:Value}{xs ys:List Value}(h:w.ownsRow b e s u n xs)(h':w.ownsRow b' e' s' v n' ys)(hne:e≠e'):Apart u v:=by
 intro k hk hv
 rcases h'.2 with⟨rfl,_⟩|⟨g,cap,cur,rfl,hb,hc,_⟩
 .cases hv
 .have e2:g=k:=by
   have h3:(AE g:Option Nat)=AE k:=hv;injection h3
  subst e2;exact Sd.jo h hc hne hk.symm
structure zg (w:World) (B:Nat) (v:Value) (l:List Mw):Prop where
 row:w.ownsRow B 81 8 v l.length (kI l)
 rt:∀p∈l,gY w B p.2 p.1.L
 ap:l.Pairwise λp p'=>Apart p.2 p'.2
def iX(w:World)(B:Nat)(v:Value)(l:List FlV):Prop:=∃ps:List Mw,ps.map Prod.fst=l/\zg w B v ps
theorem zg.nil(w:World)(B:Nat):zg w B (U AD 0 0) []:=⟨⟨rfl,.inl ⟨rfl,rfl⟩⟩,(λp hp=>by cases hp),List.Pairwise.nil⟩
theorem iX.nil(w:World)(B:Nat):iX w B (U AD 0 0) []:=⟨[],rfl,zg.nil w B⟩
theorem zg.keep{l:List Mw}(h:zg w B v l)(hb:Bw w w'):zg w' B v l:=⟨da h.row hb,λp hp=>da (h.rt p hp) hb,h.ap⟩
theorem iX.keep{l:List FlV}(h:iX w B v l)(hb:Bw w w'):iX w' B v l:=by
 obtain⟨ps,e,h⟩:=h;exact⟨ps,e,h.keep hb⟩
theorem zg.mono{l:List Mw}(h:zg w B v l)(hb:B'<=B):zg w B' v l:=⟨tL h.row hb,λp hp=>tL (h.rt p hp) hb,h.ap⟩
theorem iX.mono{l:List FlV}(h:iX w B v l)(hb:B'<=B):iX w B' v l:=by
 obtain⟨ps,e,h⟩:=h;exact⟨ps,e,h.mono hb⟩
theorem iX.slice{l:List FlV}(h:iX w B v l):∃a c,v=U a l.length c:=by
 obtain⟨ps,rfl,h⟩:=h;obtain⟨a,c,e⟩:=nC h.row
 exact⟨a,c,by rw[e,List.length_map]⟩
theorem zg.push{wx:World}{v':Value}{l:List Mw}{p:Mw}(h:zg w B v l)(b6:gY w B p.2 p.1.L)(hy:∀p'∈l,Apart p'.2 p.2)(hg:w.grownBy wx v.ownBlock)(an:wx.ownsRow B 81 8 v' (l.length+1) (kI l++uK p)):zg wx B v' (l++[p]):=by
 have hf:∀(q:Mw),gY w B q.2 q.1.L->gY wx B q.2 q.1.L:=λq hq=>Tp hq hg (λk hk e=>dX hq h.row (by decide) k hk e.symm)
 refine⟨?_,λq hq=>?_,?_⟩
 .rw [Ax]
  have e:kI (l++[p])=kI l++uK p:=by simp[kI]
  rw[e];exact an
 .rcases List.mem_append.1 hq with hq|hq
  .exact hf q (h.rt q hq)
  .simp at hq;subst hq;exact hf q b6
 .rw [List.pairwise_append]
  exact⟨h.ap,List.pairwise_singleton _ _,λa ha b hb=>by simp at hb;subst hb;exact hy a ha⟩
def Ry(ks:List dE)(e:eF):FlV:=⟨e.name,jc ks (dG e.fs 1),l9 (dG e.fs 2),kK (dG e.fs 2),mF (dG e.fs 3),o8 e⟩
def jL(es:List eF):List eF:=es.filter λe=>mX e.fs
def nU(ks ps:List dE)(es:List eF):List FlV:=bif dP ks ps es then(jL es).map (Ry ks) else[]
theorem Gi(h:k<es.length):jL (es.take (k+1))=jL (es.take k)++(bif mX (eO es k).fs then[eO es k] else[]):=by
 have e:es.take (k+1)=es.take k++[eO es k]:=by
  rw[List.take_succ_eq_append_getElem h]
  simp[eO,h]
 unfold jL;rw[e,List.filter_append]
 cases hs:mX (eO es k).fs<;>simp[hs]
theorem DI(es:List eF):(jL es).length<=es.length:=List.length_filter_le _ _
theorem Ua:(prog.info? 81).map (λi=>(i.zero,i.size,i.bytes))=AE (AE (AG EF),8,96):=by kernel_rfl
theorem SQ{rt:Value}(h:jr w B rt (dG e.fs 4)):gY w B rt (o8 e):=by
 unfold o8
 cases h4:dG e.fs 4 with
 |none =>
  rw[h4] at h;have h2:rt=U AD 0 0:=h;rw[h2];exact⟨rfl,.inl ⟨rfl,rfl⟩⟩
 |some f=>rw[h4] at h;exact h
open Go.RowKit Sd Pa
theorem JR(vk vp ve:Value)(ks ps:List dE)(es:List eF)(w:World)(hB:dW w vk vp ve ks ps es)(nB:jV ks ps es)(sB:ic ks ps es)(hN:gM w)(hes:es.length<=1048576) :
 Calls prog 100 #[AG #[vk,vp,ve]] w λe w'=>∃v,e=AJ v/\iX w' w.heap.size v (nU ks ps es)/\Bw w w':=by
 obtain⟨i0,cy,dv,du,dt⟩:=info_parts Ua;have HB:Hid (∀wx:World,Bw w wx->dW wx vk vp ve ks ps es):=λwx hx=>hB.keep hx;have HN:Hid (∀wx:World,Bw w wx->gM wx):=λwx hx=>hN.keep hx;obtain⟨⟨ak,ck,rfl,-,-,-⟩,⟨ap,cp,rfl,-,-,-⟩,⟨ae,ce,rfl,gh,ep,-⟩⟩:=hB;unfold maxLen at ep;have A1:Hid (Bw w (w.alloc (AF #[U ak ks.length ck,U ap ps.length cp,U ae es.length ce] 41))):=(aG)
 have Q0:Hid (∀wx:World,Bw (w.alloc (AF #[U ak ks.length ck,U ap ps.length cp,U ae es.length ce] 41)) wx->(wx.cell? ⟨w.heap.size,0,AD⟩=AE (U ak ks.length ck)/\wx.cell? ⟨w.heap.size,1,AD⟩=AE (U ap ps.length cp)/\wx.cell? ⟨w.heap.size,2,AD⟩=AE (U ae es.length ce))):=λwx hx=>⟨ac hx aE (by simp[go_sem]),ac hx aE (by simp[go_sem]),ac hx aE (by simp[go_sem])⟩
 obtain⟨p0,p1,p2⟩:=Q0 _ (AS _ _)
 go_enter func100,ntmps100
 go_wp2_with fail;generalize w.alloc _=w1 at *;refine(qJ _ _ _ ks ps es _ (HB _ A1) nB sB).mono ?_;rintro e w2⟨rfl,ay⟩;have B2:Hid _:=ay;obtain⟨p0,p1,p2⟩:=Q0 _ B2
 cases cu:dP ks ps es
 .have HE:Hid (nU ks ps es=[]):=by show _=_;unfold nU;rw[cu];rfl
  go_wp2;go_ret
  exact⟨U AD 0 0,rfl,by rw[HE.out];exact iX.nil _ _,aa A1 B2⟩
 have mG:Hid _:=cu
 have HE:Hid (nU ks ps es=(jL es).map (Ry ks)):=by show _=_;unfold nU;rw[cu];rfl
 have ew:Hid _:=Dt mG;go_wp2_with fail
 go_loopw [3,14] (λv i wr=>∃k:Nat,k<=es.length/\i=I J k/\(∃a c,v=.slice a (jL (es.take k)).length c)/\Hid (iX wr w2.heap.size v ((jL (es.take k)).map (Ry ks))/\Bw w1 wr/\w2.heap.size<=wr.heap.size)) (λ_ i _=>es.length-(intOf i).toNat)
 case atStart=>exact⟨0,As _,rfl,⟨AD,0,rfl⟩,iX.nil _ _,B2.out,At _⟩
 case round =>
  obtain⟨k,hk,rfl,⟨a,c,rfl⟩,HI⟩:=hrel
  by_cases au:k<es.length
  .have ad:eO es k∈es:=AT (bo au)
   have qX:=Lv.dx (Gi au);have nS:Hid (∀f∈(eO es k).fs,eX ks ps f.what f.v=true/\f.v.size<=1048576):=λf hf=>⟨de mG _ ad f hf,sB.v _ ad f hf⟩;have qL:Hid ((eO es k).fs.length<=1048576/\(eO es k).name.size<=1048576):=⟨sB.f _ ad,sB.n _ ad⟩;obtain⟨a9,c9,e9,-,-,h9⟩:=(HB _ (aa A1 HI.2.1)).e;obtain⟨b,off,ha,fv,d0,d1,bb⟩:=h9 _ _ (bo au)
   cases e9
   subst ha;obtain⟨⟨en,fs⟩,dm⟩:∃e,eO es k=e:=⟨_,rfl⟩;rw[dm] at qX nS qL d0 bb;have e8:=Lv.dx bb;dsimp only at qX nS qL d0 bb e8;obtain⟨af,cf,rfl,-,-,-⟩:=bb;have zd:=am d0;obtain⟨p0,p1,p2⟩:=Q0 _ HI.2.1;have zp:=am p0
   have dT:(0:Int)<=(k:Int):=by omega
   have eo:(k:Int)<(es.length:Int):=by omega
   have BA:Hid (Bw wr (wr.alloc (AF #[R en,U af fs.length cf] 105))):=(aG);have GS:Hid (Calls prog 126 #[AG #[U ak ks.length ck,U ap ps.length cp],AG #[R en,U af fs.length cf]] (wr.alloc (AF #[R en,U af fs.length cf] 105)) λe w'=>∃rt,e=AJ (AI #[AG (pX ks en fs rt),AH (mX fs)])/\(mX fs=true->jr w' (wr.alloc (AF #[R en,U af fs.length cf] 105)).heap.size rt (dG fs 4))/\Bw (wr.alloc (AF #[R en,U af fs.length cf] 105)) w'):=vV _ _ _ ks ps en fs _ (HB _ (aa A1 (aa HI.2.1 BA))).k (e8.keep BA) nS ew qL.1 qL.2 (HN _ (aa A1 (aa HI.2.1 BA)));have ZA:Hid _:=BA.size;obtain⟨qs,c7,Rx⟩:=HI.1;have dq:=Lv.dx Rx;have gq:=Lv.dx c7;clear Rx c7;go_wp2_with fail;generalize wr.alloc _=w3 at *;refine GS.mono ?_;rintro e w4⟨rt,rfl,b6,b4⟩
   have I4:Hid (iX w4 w2.heap.size (.slice a (jL (es.take k)).length c) ((jL (es.take k)).map (Ry ks))/\Bw w1 w4/\w2.heap.size<=w4.heap.size):=⟨(HI.out.1.keep BA.out).keep b4,aa (aa HI.out.2.1 BA.out) b4,by have:=HI.out.2.2;have:=ZA.out;have:=b4.size;omega⟩
   have gv:=Lv.dx ((dq.keep BA).keep b4);have gA:=HI;have eS:Hid _:=ZA
   cases ai:mX fs
   .have U9:Hid (jL (es.take (k+1))=jL (es.take k)):=by show _=_;rw[qX.out,ai];simp
    have hsc:pX ks en fs rt=#[R ⟨#[]⟩,R ⟨#[]⟩,I J 0,I J 0,I J 0,I J 0,I J 0,U AD 0 0]:=by unfold pX;rw[ai];rfl
    rw[hsc]
    have I5:Hid (iX (w4.alloc (AF #[R ⟨#[]⟩,R ⟨#[]⟩,I J 0,I J 0,I J 0,I J 0,I J 0,U AD 0 0] 81)) w2.heap.size (.slice a (jL (es.take k)).length c) ((jL (es.take k)).map (Ry ks))/\Bw w1 (w4.alloc (AF #[R ⟨#[]⟩,R ⟨#[]⟩,I J 0,I J 0,I J 0,I J 0,I J 0,U AD 0 0] 81))/\w2.heap.size<=(w4.alloc (AF #[R ⟨#[]⟩,R ⟨#[]⟩,I J 0,I J 0,I J 0,I J 0,I J 0,U AD 0 0] 81)).heap.size):=by
     have hb:Bw w4 (w4.alloc (AF #[R ⟨#[]⟩,R ⟨#[]⟩,I J 0,I J 0,I J 0,I J 0,I J 0,U AD 0 0] 81)):=(aG);exact⟨I4.1.keep hb,aa I4.2.1 hb,A4 I4.2.2 hb.size⟩
    go_wp2
    exact⟨⟨k+1,by omega,by go_num,by rw[U9.out];exact⟨a,c,rfl⟩,by rw[U9.out];exact I5⟩,by simp[intOf];omega⟩
   .have U9:Hid (jL (es.take (k+1))=jL (es.take k)++[⟨en,fs⟩]):=by show _=_;rw[qX.out,ai];rfl
    have Ue:=SQ (e:=⟨en,fs⟩) (b6 ai);obtain⟨ra,rc,rfl⟩:=nC Ue
    have hsc:pX ks en fs (.slice ra (o8 ⟨en,fs⟩).length rc)=#[R en,R (jc ks (dG fs 1)).s,I J (jc ks (dG fs 1)).x,I J (jc ks (dG fs 1)).y,I J (l9 (dG fs 2)),I J (kK (dG fs 2)),I J (mF (dG fs 3)),.slice ra (o8 ⟨en,fs⟩).length rc]:=by unfold pX;rw[ai];rfl
    rw[hsc];have RL:Hid (Ry ks ⟨en,fs⟩=⟨en,jc ks (dG fs 1),l9 (dG fs 2),kK (dG fs 2),mF (dG fs 3),o8 ⟨en,fs⟩⟩):=rfl;have Ot:=Lv.dx Ue;generalize jc ks (dG fs 1)=kt at *;generalize l9 (dG fs 2)=kx at *;generalize kK (dG fs 2)=ky at *;generalize mF (dG fs 3)=kz at *;generalize hrw:o8 ⟨en,fs⟩=RW at *;generalize hrn:RW.length=rn at *
    have hnn:(jL (es.take k)).length<=1048576:=by
     have h1:=DI (es.take k);rw[List.length_take] at h1
     omega
    have c7:=gq.out;have hQ:=gv.out
    have eC:qs.length=(jL (es.take k)).length:=by have:=congrArg List.length c7;simpa using this
    have ca:w4.ownsRow w2.heap.size 81 8 (.slice a (jL (es.take k)).length c) (jL (es.take k)).length (kI qs):=by
     have h:=hQ.row;rw[eC] at h;exact h
    have h24:=I4.out.2.2;have BB:Hid (Bw w4 (w4.alloc (AF #[R en,R kt.s,I J kt.x,I J kt.y,I J kx,I J ky,I J kz,U ra rn rc] 81))):=(aG);have BC:Hid (Bw (w4.alloc (AF #[R en,R kt.s,I J kt.x,I J kt.y,I J kx,I J ky,I J kz,U ra rn rc] 81)) ((w4.alloc (AF #[R en,R kt.s,I J kt.x,I J kt.y,I J kx,I J ky,I J kz,U ra rn rc] 81)).alloc (AF #[R en,R kt.s,I J kt.x,I J kt.y,I J kx,I J ky,I J kz,U ra rn rc] 81))):=(aG)
    have gk:((w4.alloc (AF #[R en,R kt.s,I J kt.x,I J kt.y,I J kx,I J ky,I J kz,U ra rn rc] 81)).alloc (AF #[R en,R kt.s,I J kt.x,I J kt.y,I J kx,I J ky,I J kz,U ra rn rc] 81)).heap[w4.heap.size+1]?=AE (AF #[R en,R kt.s,I J kt.x,I J kt.y,I J kx,I J ky,I J kz,U ra rn rc] 81 (0,0)):=by
     have h:=Lv.aS (w4.alloc (AF #[R en,R kt.s,I J kt.x,I J kt.y,I J kx,I J ky,I J kz,U ra rn rc] 81)) (AF #[R en,R kt.s,I J kt.x,I J kt.y,I J kx,I J ky,I J kz,U ra rn rc] 81)
     rw[show(w4.alloc (AF #[R en,R kt.s,I J kt.x,I J kt.y,I J kx,I J ky,I J kz,U ra rn rc] 81)).heap.size=w4.heap.size+1 by simp] at h
     exact h
    have ED:=Lv.dx gk
    go_wp2_with (at_builtin;refine apw underlying76 cy dv du dt (da (da ca BB) BC) _ 1 1 [R en,R kt.s,I J kt.x,I J kt.y,I J kx,I J ky,I J kz,U ra rn rc] (.inr ⟨_,rfl,World.news_of_block ED⟩) rfl ?_ (h1:=(λu hu=>by simp at hu;rcases hu with rfl|rfl|rfl|rfl|rfl|rfl|rfl|rfl<;>rfl));intro vq wx an bP hat)
    have vH:Hid (iX wx w2.heap.size vq ((jL (es.take (k+1))).map (Ry ks))/\Bw w1 wx/\w2.heap.size<=wx.heap.size):=by
     refine⟨⟨qs++[(⟨en,kt,kx,ky,kz,RW⟩,U ra rn rc)],?_,?_⟩,?_,?_⟩
     .rw [U9.out,List.map_append,List.map_append,c7]
      simp[RL.out]
     .refine ((hQ.keep BB.out).keep BC.out).push (da (da (tL Ot.out (by have:=eS.out;have:=gA.out.2.2;omega)) BB.out) BC.out) (λp hp=>?_) bP (by rw[eC];exact an)
      intro q hq e;have h1:=OQ (dq.rt p hp) q hq;have h2:=He Ot q e;have h3:=eS.out
      omega
     .exact (aa (aa I4.2.1 BB) BC).grown bP (aa (aa I4.2.1 BB) BC).size (λq hq=>by have h1:=He ca q hq;have h2:=B2.size;omega)
     .have h1:=bP.size;have h2:=BC.out.size;have h3:=BB.out.size;omega
    obtain⟨qa,qc,rfl⟩:=nC an
    have vK:Hid ((jL (es.take (k+1))).length=(jL (es.take k)).length+1):=by show _=_;rw[U9.out];simp
    exact⟨⟨k+1,by omega,by go_num,by rw[vK.out];exact⟨_,_,rfl⟩,vH⟩,by simp[intOf];omega⟩
  .have HF:Hid (es.take k=es):=An (by omega)
   go_wp2;go_ret
   exact⟨_,rfl,by rw[HE.out,<-HF.out];rw[HF.out];have h:=HI.1;rw[HF.out] at h ⊢;exact h.mono (A4 A1.size B2.size),aa A1 HI.2.1⟩
end Go.Proofs.YtolokangldmodaaGreatDoor.Fa
