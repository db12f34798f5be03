import Derived.Test.YtolokangldmodaaGreatDoorKeys
import Derived.Shelf.SlSortCmp.WholeK
set_option maxRecDepth 100000
set_option maxHeartbeats 12800000
set_option linter.unusedSimpArgs false
set_option linter.unusedVariables false
open Go.Value renaming int->R,string->AD,slice->AE,agg->AG
open Go.Obj renaming cells->AF
open Option renaming none->I,some->J,isSome_none->AN,map_some->A3
open Go.IntKind renaming i64->U,wrap_i64->At
open Go.World renaming cell?->AL
open List renaming length_append->AM,eq_nil_or_concat->AW,concat_eq_append->Aj,mem_append_left->As,map_append->Aw,pairwise_append->Ax,flatMap_cons->AH,pairwise_map->AI,length_cons->A2
open Bool renaming false_eq_true->AO
open ByteArray renaming empty->AS
open Go.RowKit.Below renaming refl->AT,heap_alloc->An
open Go Go.Proofs.YtolokangldmodaaGreatDoor
variable {p q:kL} {w w' w2 w3:World} {g n B H cap fg uw k:Nat} {e:eF} {S:List eH} {v o o' fv kv:Value} {ob:Obj} {f:eT} {c:eH} {es:List eF}
namespace Go.Proofs.YtolokangldmodaaGreatDoor
open Go.RowKit Go.Shelf Go.Lib Go.Sort
def Rw(p:kL):eH:=⟨p.1,p.2,0,⟨#[]⟩⟩
def cfP(p q:kL):Int:=UL (Rw p) (Rw q)
def Ho(p q:kL):Bool:=gV (Rw p) (Rw q)
theorem CK(a:eH):fH a a=true:=jk.2 ⟨rfl,rfl⟩
theorem uX(p:kL):Ho p p=false:=by
 cases h:Ho p p with
 |false=>rfl
 |true=>have:=cN h;rw[CK] at this;cases this
theorem OY(p q:kL):ltOf cfP p q=Ho p q:=by
 unfold ltOf cfP Ho;rw[cmpK_eq]
 cases gV (Rw p) (Rw q)<;>cases fH (Rw p) (Rw q)<;>simp
theorem yD{r:kL}(h:Ho p q=true)(k:Ho q r=true):Ho p r=true:=l8 h k
theorem FE(h:Ho p q=false)(k:Ho q p=false):p=q:=by
 cases he:fH (Rw p) (Rw q) with
 |true=>obtain⟨h1,h2⟩:=jk.1 he;exact Prod.ext h1 h2
 |false=>have:=O4 h he;unfold Ho at k;rw[k] at this;cases this
theorem swoP:SWO (ltOf cfP) where
 irrefl x:=by rw[OY];exact uX x
 trans x y z h1 h2:=by rw[OY] at *;exact yD h1 h2
 ntrans x y z h1 h2:=by
  rw[OY] at *
  cases h:Ho x z with
  |false=>rfl
  |true =>
   cases h3:Ho y x with
   |true=>rw[yD h3 h] at h2;cases h2
   |false=>rw[FE h1 h3] at h;rw[h] at h2;cases h2
theorem MV{a b:List kL}(hp:a.Perm b)(ha:a.Pairwise λp q=>Ho q p=false)(hb:b.Pairwise λp q=>Ho q p=false):a=b :=
 hp.eq_of_pairwise (λx y _ _ h1 h2=>FE h2 h1) ha hb
theorem grow_of(h:Bw w w')(hd:w.drawn<=w'.drawn):∃q dt,w'=grow (w.drewN q) dt:=by
 obtain⟨hp,tp,dr,os,out⟩:=w;obtain⟨cx,tp',gn,dt,out'⟩:=w';obtain⟨h1,h2,h3,h4,h5⟩:=h;dsimp only at h1 h2 h3 h4 h5 hd;subst h1 h2 h3;refine⟨gn-dr,cx.extract hp.size cx.size,?_⟩
 simp only[grow,World.drewN,World.mk.injEq]
 refine⟨?_,by first|rfl|trivial,by omega,by first|rfl|trivial,by first|rfl|trivial⟩
 apply Array.ext
 .simp;omega
 .intro i h6 h7
  by_cases hi:i<hp.size
  .have:=h5 i hi
   rw[Array.getElem?_eq_getElem h6,Array.getElem?_eq_getElem hi] at this;rw[Array.getElem_append_left hi];exact Option.some.inj this
  .rw [Array.getElem_append_right (by omega),Array.getElem_extract]
   congr 1
   omega
theorem yS(a b:eH)(w:World):Calls Tryz.prog 230 #[AG #[AD a.f,R U a.what],AG #[AD b.f,R U b.what]] w λe w'=>e=.returned (R U (UL a b))/\∃q dt,w'=grow (w.drewN q) dt:=by
 have HK:Hid (UL a b=orI (Iw a.f b.f) (Di a.what b.what)):=rfl
 have ff:Hid (OwnAt w ((w.alloc (AF #[AD a.f,R U a.what] 299)).alloc (AF #[AD b.f,R U b.what] 299)) [[AD a.f,R U a.what],[AD b.f,R U b.what]]):=((OwnAt.start w).push rfl _ _).push (by simp) _ _
 have fm:Hid (w.drawn<=((w.alloc (AF #[AD a.f,R U a.what] 299)).alloc (AF #[AD b.f,R U b.what] 299)).drawn):=Nat.le_refl w.drawn
 go_enter Tryz.func230,Tryz.ntmps230
 go_wp2;generalize(w.alloc (AF #[AD a.f,R U a.what] 299)).alloc (AF #[AD b.f,R U b.what] 299)=w1 at *
 go_region_held3 (λw'=>(w'.cell? ⟨w.heap.size,0,I⟩=J (AD a.f)/\w'.cell? ⟨w.heap.size,1,I⟩=J (R U a.what)/\w'.cell? ⟨w.heap.size+1,0,I⟩=J (AD b.f)/\w'.cell? ⟨w.heap.size+1,1,I⟩=J (R U b.what))/\(OwnAt w w' [[AD a.f,R U a.what],[AD b.f,R U b.what]]/\w.drawn<=w'.drawn))
  (first|(have ha:=ff.out.call (AT _ w1).drew;exact⟨⟨(ha.has 0 _ rfl 0 _ rfl).1,(ha.has 0 _ rfl 1 _ rfl).1,(ha.has 1 _ rfl 0 _ rfl).1,(ha.has 1 _ rfl 1 _ rfl).1⟩,ha,Nat.le_succ_of_le fm.out⟩)|(have ha:=ff.out.call ((AT _ w1).alloc aE (AF #[R U (Iw a.f b.f),R U (Di a.what b.what)] 3)).drew;exact⟨⟨(ha.has 0 _ rfl 0 _ rfl).1,(ha.has 0 _ rfl 1 _ rfl).1,(ha.has 1 _ rfl 0 _ rfl).1,(ha.has 1 _ rfl 1 _ rfl).1⟩,ha,Nat.le_succ_of_le fm.out⟩)|(exact ‹_/\(OwnAt w _ _/\_)›))
  (first|(go_at_call 234;refine(Bc _ _ _).mono ?_;rintro e w3⟨rfl,rfl⟩)|(go_at_call 235;refine(Dj _ _ _).mono ?_;rintro e w3⟨rfl,rfl⟩)|(go_at_call 233;refine(Re w1.heap.size (Iw a.f b.f) (Di a.what b.what) _ (by simp[go_sem]) (by simp[go_sem])).mono ?_;rintro e w3⟨rfl,rfl⟩))
 all_goals go_wp2
 all_goals go_ret
 all_goals exact⟨cP HK.out.symm,grow_of (‹_/\(OwnAt w _ _/\_)›).2.1.below (‹_/\(OwnAt w _ _/\_)›).2.2⟩
shelf_lay_g SlLaysF0.n6 Slsf 6 at Tryz 229 as Tryz.sortKeys
theorem uJ(p:kL):(iU p).length=2:=rfl
theorem UK(blk off size:Nat)(w:World):CmpLays Tryz.prog 230 #[] iU 2 cfP blk off size w:=λm os dk _ x y=>yS (Rw x) (Rw y) (sortWorldK iU 2 w blk off m dk os)
open Go.RowKit Go.Shelf Go.Lib Go.Sort
theorem sj:∀(ss:List kL) (t:Nat),(gL ss)[t]?=(ss[t / 2]?).bind λp=>(iU p)[t % 2]?
 |[],t=>by simp[gL]
 |p::l,0=>rfl
 |p::l,1=>rfl
 |p::l,t+2=>by
  have h1:(t+2) / 2=t / 2+1:=by omega
  have h2:(t+2) % 2=t % 2:=by omega
  rw[h1,h2];have:=sj l t
  simpa[gL,iU] using this
theorem r9(ss:List kL):(gL ss).length=ss.length*2:=by
 induction ss with
 |nil=>rfl
 |cons a l ih=>simp only[gL,AH,AM] at ih ⊢;rw[ih];simp[iU];omega
theorem flat_get(ss:List kL)(t:Nat)(h:t<ss.length*2):(gL ss)[t]?=J ((flatK iU 2 ss.toArray)[t]!):=by
 rw[sj,get_flatK iU 2 ss.toArray t (by simpa using h)]
 have h1:t / 2<ss.length:=by omega
 have h2:t % 2<(iU (ss[t / 2])).length:=by rw[uJ];omega
 rw[List.getElem?_eq_getElem h1,Option.bind_some,List.getElem?_eq_getElem h2]
 congr 1
 have e:ss.toArray[t / 2]! = ss[t / 2]:=by simp[h1]
 rw[e,getElem!_pos (iU (ss[t / 2])) (t % 2) h2]
theorem QO{cur:Array Value}{e:TypeId}{ss:List kL}(hb:w.heap[g]?=J (AF cur e (0,0)))(ht:cur.toList.take (ss.length*2)=gL ss):HoldsK iU 2 w g 0 ss.toArray:=by
 intro t hs
 have ay:t<ss.length*2:=by simpa using hs
 have h1:=flat_get ss t ay;rw[<-ht,List.getElem?_take,if_pos ay] at h1;refine⟨?_,?_⟩
 .simp only [Nat.zero_add,AL,hb,AN,AO,if_false,id]
  simpa using h1
 .exact Lib.frozen_of_heap hb _
theorem JE(cur:Array Value)(ss:List kL)(h:ss.length*2<=cur.size):(putCells id 0 (flatK iU 2 ss.toArray) cur).toList.take (ss.length*2)=gL ss:=by
 apply List.ext_getElem?
 intro t;rw[List.getElem?_take]
 by_cases ht:t<ss.length*2
 .rw [if_pos ht,flat_get ss t ht]
  have hc:t<cur.size:=by omega
  simp only[putCells,Array.getElem?_toList,Array.getElem?_mapIdx]
  rw[Array.getElem?_eq_getElem hc,A3,if_pos ⟨Nat.zero_le _,by simp;omega⟩]
  rfl
 .rw [if_neg ht,List.getElem?_eq_none (by rw[r9];omega)]
theorem UR(w:World):Rs 232 #[.int .u64 0] w (R U 0):=by
 have h:=Any.bits_Len (SlLaysF0.n15.bits (P:=Tryz.prog) { Tryz.sortKeys with }) (0:Int) w (by omega) (by omega)
 exact h
theorem Eu(w:World)(f:Value):Rs 236 #[AE I 0 0,R U 0,R U 0,f] w (.tuple #[]):=by
 go_enter Tryz.func236,Tryz.ntmps236
 go_wp2
 go_loopw [8] (λi wr=>i=R U 1/\wr=w) (λ_ _=>0)
 case atStart=>exact⟨rfl,rfl⟩
 case round =>
  obtain⟨rfl,rfl⟩:=hrel;go_wp2
  go_end0
  exact⟨rfl,rfl⟩
theorem pdq_nil(w:World)(f:Value):Rs 231 #[AE I 0 0,R U 0,R U 0,R U 0,f] w (.tuple #[]):=by
 go_enter Tryz.func231,Tryz.ntmps231
 go_wp2
 go_loopw [1,2] (λa b wr=>a=R U 0/\b=R U 0/\wr=w) (λ_ _ _=>0)
 case atStart=>exact⟨rfl,rfl,rfl⟩
 case round =>
  obtain⟨rfl,rfl,rfl⟩:=hrel;go_wp2_with fail;refine(Eu _ _).mono ?_;rintro e w1⟨rfl,rfl⟩;go_wp2
  exact bv (.tuple #[]) ⟨rfl,rfl⟩ (by simp[results,Tryz.results231,go_sem])
theorem SC(w:World)(f:Value):Rs 229 #[AE I 0 0,f] w (.tuple #[]):=by
 go_enter Tryz.func229,Tryz.ntmps229
 go_wp2_with fail;refine(UR w).mono ?_;rintro e w1⟨rfl,rfl⟩;go_wp2_with fail;refine(pdq_nil w1 f).mono ?_;rintro e w2⟨rfl,rfl⟩;go_wp2
 go_end0
 exact⟨rfl,rfl⟩
theorem GU(ss:List kL)(v:Value)(B:Nat)(w:World)(ho:w.ownsRow B 299 2 v ss.length (gL ss))(hlen:ss.length<=4194304) :
 Calls Tryz.prog 229 #[v,.func (.func 230) #[] #[]] w λe w'=>e=.returned (.tuple #[])/\∃cc:List kL,cc.Perm ss/\(cc.Pairwise λp q=>Ho q p=false)/\w'.ownsRow B 299 2 v cc.length (gL cc)/\w.grownBy w' v.ownBlock:=by
 have ea:=ho;obtain⟨hl,h⟩:=ho
 rcases h with⟨rfl,h0⟩|⟨g,cap,cur,rfl,hB,hb,hn,hc,eS,ht⟩
 .refine (SC w _).mono ?_
  rintro e w'⟨rfl,rfl⟩;have:ss=[]:=List.length_eq_zero_iff.1 h0;subst this;exact⟨rfl,[],List.Perm.nil,List.Pairwise.nil,ea,World.grownBy.refl _ _⟩
 .have eg:∀args w,(callFunc 230 args).run Tryz.prog w=.ok (.enter 230 args) w:=enters_of Tryz.func230 (by kernel_rfl) rfl
  have aT:g<w.heap.size:=(Array.getElem?_eq_some_iff.1 hb).1
  have ae:=AnyQ.slices_SortFunc Tryz.sortKeys 2 Tryz.isAgg299 Tryz.sizeOf299 iU uJ (λx u hu=>by simp[iU] at hu;rcases hu with rfl|rfl<;>rfl) cfP swoP 230 #[] g 0 cap ss.toArray w eg (UK g 0 _ w) (QO hb ht) aT (by simp;omega)
  change Calls Tryz.prog 229 _ _ _ at ae
  have e0:ss.toArray.size=ss.length:=by simp
  rw[e0] at ae;refine ae.mono ?_;rintro e w'⟨rfl,d',n,os,⟨ay,_,hp⟩,fL,rfl⟩
  have bn:d'.toList.length=ss.length:=by simpa using ay
  have hd:d'=d'.toList.toArray:=by simp
  have en:(d'.extract 0 ss.length).toList=d'.toList:=by rw[show ss.length=d'.size by simpa using ay.symm];simp
  have eR:(ss.toArray.extract 0 ss.length).toList=ss:=by simp
  rw[en,eR] at hp;refine⟨rfl,d'.toList,hp,?_,?_,?_⟩
  .rw [List.pairwise_iff_getElem]
   intro i j hi hj gf
   have:=fL i j (Nat.zero_le _) gf (by rw[<-bn];exact hj)
   rw[OY] at this
   have e1:d'[j]! = d'.toList[j]:=by rw[getElem!_pos d' j (by simpa using hj)];simp
   have e2:d'[i]! = d'.toList[i]:=by rw[getElem!_pos d' i (by simpa using hi)];simp
   rw[e1,e2] at this;exact this
  .refine ⟨r9 _,.inr ⟨g,cap,putCells id 0 (flatK iU 2 d'.toList.toArray) cur,by rw[bn],hB,?_,by omega,hc,by simp[putCells,eS],?_⟩⟩
   .rw [<-hd]
    simp only[sortWorldK,grow,putRowK,putRow,mapBlock,Sort.ahead]
    rw[Array.getElem?_append_left (by simpa using aT),Array.getElem?_modify,if_pos rfl,hb]
    rfl
   .exact JE cur d'.toList (by rw[bn,eS];exact Nat.mul_le_mul_right 2 hn)
  .refine ⟨rfl,rfl,rfl,by simp[sortWorldK,grow,putRowK,putRow,mapBlock,Sort.ahead],λk hk eb=>?_⟩
   simp only[sortWorldK,grow,putRowK,putRow,mapBlock,Sort.ahead]
   have et:¬g=k:=λe=>eb (by rw[e];rfl)
   rw[Array.getElem?_append_left (by simpa using hk),Array.getElem?_modify,if_neg et]
end Go.Proofs.YtolokangldmodaaGreatDoor
namespace Go.Proofs.YtolokangldmodaaGreatDoor
open Go.RowKit
def nI(c:eH):kL:=(c.f,c.what)
theorem zx:∀(a b:List kL),a.Nodup->b.Nodup->(∀p,p∈a↔p∈b)->a.Perm b
 |[],b,_,_,h=>by
  have:b=[]:=List.eq_nil_iff_forall_not_mem.2 λp hp=>by have:=(h p).2 hp;simp at this
  rw[this]
 |x::a,b,ha,hb,h=>by
  have hx:x∈b:=(h x).1 (by simp)
  rw[List.nodup_cons] at ha;obtain⟨s,t,rfl⟩:=List.append_of_mem hx;have eh:(x::(s++t)).Nodup:=(List.perm_middle.nodup_iff).1 hb;rw[List.nodup_cons] at eh;refine List.Perm.trans (List.Perm.cons x (zx a (s++t) ha.2 eh.2 λp=>?_)) List.perm_middle.symm;have hp:=h p
  simp only[List.mem_cons,List.mem_append] at hp ⊢
  by_cases e:p=x
  .subst e
   simp only[List.mem_append] at eh
   exact⟨λh1=>absurd h1 ha.1,λh1=>absurd h1 eh.1⟩
  .simp only [e,false_or] at hp
   exact hp
theorem KL(h:ig S):(S.map nI).Pairwise λp q=>Ho q p=false:=by
 rw[AI];refine List.Pairwise.imp ?_ h;intro a b eC
 cases hq:Ho (nI b) (nI a) with
 |false=>rfl
 |true =>
  have h1:Ho (nI a) (nI b)=true:=eC;have:=yD h1 hq;rw[uX] at this;cases this
theorem Nz(h:ig S):(S.map nI).Nodup:=by
 unfold List.Nodup;rw[AI];refine List.Pairwise.imp ?_ h;intro a b eC e;have h1:Ho (nI a) (nI b)=true:=eC;rw[e,uX] at h1;cases h1
theorem Bi(b n:Nat)(S:List eH)(w:World)(h:kS w b n S)(hS:ig S)(hfit:∀c∈S,ku c)(hn:n<=4194304) :
 Calls Tryz.prog 224 #[.map (J b)] w λe w'=>∃v,e=.returned v/\w'.ownsRow w.heap.size 299 2 v S.length (gL (S.map nI))/\Bw w w':=by
 obtain⟨i0,hi,dy,dv,du⟩:=info_parts infoKey;obtain⟨D,ad,hD,ak⟩:=h;have HH:Hid (∀k:eH,ku k->Maps.has D (Ac k.f k.what)=S.any λa=>fH a k):=λk hk=>kS.has ak k hk;clear ak
 go_enter Tryz.func224,Tryz.ntmps224
 go_wp2_with (first
  |(at_range;refine wpList_range_own _ rfl _ 295 rfl 299 107 vg Tryz.underlying295 _ b n _ rfl ad ?_;intro w0 bP ca hs0)
  |go_in)
 go_frame
 go_loopw [3,4] (λo _ wr=>∃(ss:List kL) (left:Lit->Bool) (cnt:Nat),wr.ranges Tryz.prog 299 RF b w.heap.size n D left cnt/\wr.ownsRow w.heap.size 299 2 o ss.length (gL ss)/\Bw w wr/\xN D left ss/\ss.length+cnt<=n) (λ_ _ wr=>wr.rangeLeft b w.heap.size)
 case atStart=>exact⟨[],_,_,bP,⟨rfl,.inl ⟨rfl,rfl⟩⟩,⟨ca.os,ca.tape,ca.output,ca.size,λk hk=>ca.block k hk (by simp)⟩,xN.start D,by simpa using size_le ad⟩
 case round =>
  obtain⟨ss,left,cnt,cf,ho,dm,FV,hcn⟩:=hrel
  go_wp2_with (first
   |(at_next;refine wpList_next_ranges _ rfl _ rfl 299 vg RF keyV (λf:eT=>AG #[R U f.what,R U f.num,AD f.v]) (λkey kl hk=>by obtain⟨f,n,rfl,_⟩:=FQ hk;exact⟨(f,n),rfl⟩) U7 b w.heap.size n _ _ _ rfl cf ?_ ?_)
   |go_in)
  .intro _ e4
   have HC:Hid (∀p:kL,IK p->(p∈ss↔ ∃c∈S,c.f=p.1/\c.what=p.2)):=λp hp=>by
    rw[FV.2.2 p hp,e4,HH.out ⟨p.1,p.2,0,⟨#[]⟩⟩ hp]
    simp[fH]
   have HO:Hid (ss.Nodup/\(∀p∈ss,IK p)/\wr.ownsRow w.heap.size 299 2 u3 ss.length (gL ss)/\Bw w wr):=⟨FV.1,FV.2.1,ho,dm⟩;clear cf ho dm FV bP ad e4 ca
   have HP:Hid (ss.Perm (S.map nI)):=zx _ _ HO.out.1 (Nz hS) λp=>⟨λhp=>by
     obtain⟨c,hc,h1,h2⟩:=(HC.out p (HO.out.2.1 p hp)).1 hp
     exact List.mem_map.2 ⟨c,hc,Prod.ext h1 h2⟩,λhp=>by
     obtain⟨c,hc,rfl⟩:=List.mem_map.1 hp
     exact(HC.out (nI c) (show IK (nI c) from hfit c hc)).2 ⟨c,hc,rfl,rfl⟩⟩
   have hlen:ss.length<=4194304:=by omega
   go_wp2_with fail;refine(GU ss u3 w.heap.size wr HO.out.2.2.1 hlen).mono ?_;rintro e w1⟨rfl,cc,cx,ay,ea,e9⟩;have HE:Hid (cc=S.map nI):=MV (cx.trans HP.out) ay (KL hS)
   have HF:Hid (w1.ownsRow w.heap.size 299 2 u3 S.length (gL (S.map nI))/\Bw w w1):=by
    have h1:=ea;rw[HE.out,List.length_map] at h1;exact⟨h1,HO.out.2.2.2.grown e9 HO.out.2.2.2.size (dY HO.out.2.2.1)⟩
   clear cx ay ea e9;go_wp2;go_ret;exact⟨_,rfl,HF.out.1,HF.out.2⟩
  .intro pf pn f kl y1 y2 w1 cb c4 ec hv ak ct aT ck fN hen
   obtain⟨f',n',eV,fW,ep,rfl⟩:=FQ c4
   simp only[keyV,Value.agg.injEq,Array.mk.injEq,List.cons.injEq,Value.string.injEq,Value.int.injEq,and_true,true_and] at eV
   obtain⟨rfl,rfl⟩:=eV;dsimp only[keyV] at *;have gi:IK (pf,pn):=⟨fW,ep⟩;have gS:Hid (xN D (λz=>left z&&!z.sameKey (Ac pf pn)) (ss++[(pf,pn)])):=xN.step (p:=(pf,pn)) FV gi ec (Maps.has_true_of_atKey (y:=y1) ak);have fX:w1.ownsRow w.heap.size 299 2 u3 ss.length (gL ss):=aj ho ck (λk hk=>(Bp cf ho k hk).1)
   have dd:Bw w w1:=dm.grown ck dm.size (λk e=>by cases e;exact Nat.le_refl _)
   have gA:Hid (w1.ranges Tryz.prog 299 RF b w.heap.size n D (λz=>left z&&!z.sameKey (Ac pf pn)) cb):=ct;have fY:wr.rangeLeft b w.heap.size=cnt:=cf.left_eq
   have gB:Hid (∀k,u3.ownBlock=J k->w.heap.size<k/\k≠b):=λk hk=>by
    have h1:=Bp cf ho k hk;have h2:=dY ho k hk
    refine⟨?_,λe=>h1.2 (by rw[e])⟩
    have h3:k≠w.heap.size:=λe=>h1.1 (by rw[e])
    omega
   have eo:=dd.size;clear cf ct FV ho dm ck ak hv c4 ec bP ca ad;clear fN
   have gk:ss.length+1+cb<=n:=by omega
   have hl4:ss.length<=4194304:=by omega
   have ru:Hid (∀k,u3.ownBlock=J k->w.heap.size<k/\k≠b):=gB.out
   have vH:Hid (∀(j:Nat) (u:Value),(iU (pf,pn))[j]?=J u->((w1.alloc (AF #[AD pf,R U pn] 299)).alloc (AF #[AD pf,R U pn] 299)).cell? ((⟨w1.heap.size+1,0,I⟩:Addr).add j)=J u):=by
    have h:=cell_two_new (w1.alloc (AF #[AD pf,R U pn] 299)) (AD pf) (R U pn) 299;rw[World.size_alloc] at h;exact h
   go_wp2_with (at_builtin;refine wpList_append_own _ rfl _ _ 318 rfl w.heap.size 299 i0 (AG #[AD AS,R U 0]) 2 24 Tryz.underlying318 hi dy dv du rfl (by decide) _ _ _ rfl ((fX.alloc _).alloc _) ⟨w1.heap.size+1,0,I⟩ 1 1 (iU (pf,pn)) rfl rfl vH.out (λx hx=>by simp[iU] at hx;rcases hx with rfl|rfl<;>rfl) (by unfold maxLen;omega) (by omega) (by simp;omega) ?_;intro v' w3 cL b4 e3)
   have e8:((w1.alloc (AF #[AD pf,R U pn] 299)).alloc (AF #[AD pf,R U pn] 299)).grownBy w3 u3.ownBlock:=b4;have cp:=((gA.out.alloc (AF #[AD pf,R U pn] 299)).alloc (AF #[AD pf,R U pn] 299)).kept e8 (λe=>(ru.out b e.symm).2 rfl) (λe=>Nat.lt_irrefl _ (ru.out _ e.symm).1)
   refine⟨⟨ss++[(pf,pn)],_,cb,cp,?_,?_,gS.out,by simp;omega⟩,by rw[cp.left_eq,fY];exact aT⟩
   .rw [Ie,AM]
    exact cL
   .exact ((dd.alloc eo _).alloc (by simp;omega) _).grown e8 (by simp;omega) (λk hk=>Nat.le_of_lt (ru.out k hk).1)
open Go.RowKit
abbrev iZ:=eF×Value
def jI(p:iZ):List Value:=[AD p.1.name,p.2]
def dS(l:List iZ):List Value:=l.flatMap jI
theorem cT(l:List iZ)(p:iZ):dS (l++[p])=dS l++jI p:=by simp[dS]
theorem bB(l:List iZ):(dS l).length=l.length*2:=by
 induction l with
 |nil=>rfl
 |cons a l ih=>simp only[dS,AH,AM] at ih ⊢;rw[ih];simp[jI];omega
def dN(l:List eT):List Value:=l.flatMap fQ
theorem Il(l:List eT)(f:eT):dN (l++[f])=dN l++fQ f:=by simp[dN]
theorem Av:(Tryz.prog.info? 105).map (λi=>(i.zero,i.size,i.bytes))=J (J (AG #[AD AS,AE I 0 0]),2,40):=by kernel_rfl
theorem Au:(Tryz.prog.info? 107).map (λi=>(i.zero,i.size,i.bytes))=J (J (AG #[R U 0,R U 0,AD AS]),3,32):=by kernel_rfl
theorem cV{base:Nat}{e:TypeId}{size:Nat}{xs:List Value}(h:w.ownsRow base e size v n xs):∀k,v.ownBlock=J k->k<w.heap.size:=by
 intro k hk
 rcases h.2 with⟨rfl,_⟩|⟨g,cap,cur,rfl,_,hc,_⟩
 .cases hk
 .cases hk;exact(Array.getElem?_eq_some_iff.1 hc).1
structure dV (w:World) (B:Nat) (o:Value) (l:List iZ):Prop where
 row:w.ownsRow B 105 2 o l.length (dS l)
 jT:∀p∈l,w.ownsRow B 107 3 p.2 p.1.fs.length (dN p.1.fs)
 apart:l.Pairwise λp q=>∀k,p.2.ownBlock=J k->q.2.ownBlock≠J k
theorem dV.nil(w:World)(B:Nat):dV w B (AE I 0 0) []:=⟨⟨rfl,.inl ⟨rfl,rfl⟩⟩,(λp h=>by cases h),List.Pairwise.nil⟩
theorem dV.keep{l:List iZ}(h:dV w B o l)(hb:Bw w w'):dV w' B o l :=
 ⟨aq h.row hb,λp hp=>aq (h.jT p hp) hb,h.apart⟩
theorem dV.push{l:List iZ}{n:ByteArray}(h:dV w2 B o l)(ad:w3.ownsRow B 105 2 o' (l.length+1) (dS l++[AD n,AE I 0 0]))(hg:(w2.alloc ob).grownBy w3 o.ownBlock):dV w3 B o' (l++[(⟨n,[]⟩,AE I 0 0)]):=by
 refine⟨?_,λp hp=>?_,?_⟩
 .rw [cT,AM];exact ad
 .rcases List.mem_append.1 hp with hp|hp
  .exact aj (aq (h.jT p hp) ((AT _ _).alloc aE ob)) hg (dX h.row (h.jT p hp) (by decide))
  .simp at hp;subst hp;exact⟨rfl,.inl ⟨rfl,rfl⟩⟩
 .rw [Ax]
  exact⟨h.apart,by simp,λp _ q hq k _=>by simp at hq;subst hq;simp[Value.ownBlock]⟩
theorem dV.last{l:List iZ}(h:dV w B o (l++[(e,fv)])):∃g cap,o=AE (J ⟨g,0,I⟩) (l.length+1) cap/\w.cell? ⟨g,l.length*2,I⟩=J (AD e.name)/\w.cell? ⟨g,l.length*2+1,I⟩=J fv/\w.frozen? ⟨g,l.length*2+1,I⟩=false/\l.length+1<=cap/\cap<=maxLen:=by
 rcases h.row.2 with⟨_,h0⟩|⟨g,cap,cur,rfl,_,hb,hn,hc,hs,ht⟩
 .simp at h0
 .have hlen:(l++[(e,fv)]).length=l.length+1:=by simp
  rw[hlen] at ht hn ⊢
  have hx:∀j,j<2->cur.toList[l.length*2+j]?=[AD e.name,fv][j]?:=λj hj=>by
   have h1:(cur.toList.take ((l.length+1)*2))[l.length*2+j]?=cur.toList[l.length*2+j]?:=by
    rw[List.getElem?_take,if_pos (by omega)]
   rw[<-h1,ht,cT,List.getElem?_append_right (by rw[bB];omega),bB,Nat.add_sub_cancel_left]
   rfl
  have x0:=hx 0 (by omega)
  have x1:=hx 1 (by omega)
  simp only[Nat.add_zero] at x0
  refine⟨g,cap,rfl,?_,?_,Lib.frozen_of_heap hb _,hn,hc⟩
  .simp only [AL,hb,AN,AO,if_false]
   simpa using x0
  .simp only [AL,hb,AN,AO,if_false]
   simpa using x1
theorem set_end{α:Type}(L:List α)(a b x:α):(L++[a,b]).set (L.length+1) x=L++[a,x]:=by
 rw[List.set_append_right _ _ (by omega)]
 simp
theorem dV.more{l:List iZ}(h:dV w2 B (AE (J ⟨g,0,I⟩) n cap) (l++[(e,fv)]))(ad:w3.ownsRow B 107 3 (AE (J ⟨fg,0,I⟩) (e.fs.length+1) uw) (e.fs.length+1) (dN e.fs++fQ f))(hg:(w2.alloc ob).grownBy w3 fv.ownBlock)(ak:fv.ownBlock=J fg\/fg=H)(hH:w2.heap.size<=H) :
 dV (w3.setCell ⟨g,l.length*2+1,I⟩ (AE (J ⟨fg,0,I⟩) (e.fs.length+1) uw)) B (AE (J ⟨g,0,I⟩) n cap) (l++[(⟨e.name,e.fs++[f]⟩,AE (J ⟨fg,0,I⟩) (e.fs.length+1) uw)]):=by
 have ba:=h.jT (e,fv) (by simp)
 have ds:Bw w2 (w2.alloc ob):=(AT _ _).alloc aE ob
 have aL:w3.ownsRow B 105 2 (AE (J ⟨g,0,I⟩) n cap) (l++[(e,fv)]).length (dS (l++[(e,fv)])):=aj (aq h.row ds) hg (dX ba h.row (by decide))
 have gs:=bD w3 g (l.length*2+1) (AE (J ⟨fg,0,I⟩) (e.fs.length+1) uw)
 have eb:∀(p:iZ),w3.ownsRow B 107 3 p.2 p.1.fs.length (dN p.1.fs)->∀k,p.2.ownBlock=J k->J k≠J g:=λp hp=>dX aL hp (by decide)
 have eA:=List.pairwise_append.1 h.apart;refine⟨?_,λp hp=>?_,?_⟩
 .obtain ⟨h1,h2⟩:=aL
  rcases h2 with⟨h2,_⟩|⟨g',eJ,cur,hv,hB,hb,hn,hc,hs,ht⟩
  .cases h2
  .cases hv
   have hlen:∀x:iZ,(l++[x]).length=l.length+1:=λx=>by simp
   rw[hlen] at h1 hn ht
   refine⟨by rw[bB],.inr ⟨g,cap,cur.setIfInBounds (l.length*2+1) (AE (J ⟨fg,0,I⟩) (e.fs.length+1) uw),by simp,hB,?_,by rw[hlen];exact hn,hc,by simpa using hs,?_⟩⟩
   .rw [Sort.setCell_eq]
    simp only[Sort.mapBlock,Array.getElem?_modify,if_true,hb,A3,Sort.onCells]
   .rw [hlen,Array.toList_setIfInBounds,List.take_set,ht,cT,cT]
    have:=set_end (dS l) (AD e.name) fv (AE (J ⟨fg,0,I⟩) (e.fs.length+1) uw);rw[bB] at this;exact this
 .rcases List.mem_append.1 hp with hp|hp
  .have ep:=h.jT p (As _ hp)
   have eW:w3.ownsRow B 107 3 p.2 p.1.fs.length (dN p.1.fs):=aj (aq ep ds) hg (λk hk ee=>(eA.2.2 p hp (e,fv) (by simp) k hk) ee.symm)
   exact aj eW gs (eb p eW)
  .simp at hp;subst hp
   have h3:w3.ownsRow B 107 3 (AE (J ⟨fg,0,I⟩) (e.fs.length+1) uw) (e.fs++[f]).length (dN (e.fs++[f])):=by
    rw[Il,AM];exact ad
   exact aj h3 gs (eb (⟨e.name,e.fs++[f]⟩,_) h3)
 .rw [Ax]
  refine⟨eA.1,by simp,λp hp q hq k hk=>?_⟩
  simp at hq;subst hq
  show J fg≠J k
  intro ee
  injection ee with ee
  subst ee
  rcases ak with ak|ak
  .exact eA.2.2 p hp (e,fv) (by simp) _ hk ak
  .have:=cV (h.jT p (As _ hp)) _ hk
   omega
def xM(w:World)(B:Nat)(o:Value)(es:List eF):Prop:=∃l:List iZ,l.map (·.1)=es/\dV w B o l
open Go.RowKit
theorem getF_at(hS:ig S)(hc:c∈S):CX S c=fD c:=by
 unfold CX
 have:S.find? (λa=>fH a c)=J c:=by
  induction S with
  |nil=>cases hc
  |cons a l ih =>
   have h':=List.pairwise_cons.1 hS
   rcases List.mem_cons.1 hc with rfl|hc
   .simp [CK]
   .rw [List.find?_cons,cN (h'.1 c hc)]
    exact ih h'.2 hc
 rw[this]
theorem UZ(h:k<S.length):(S.take (k+1)).foldl iH []=iH ((S.take k).foldl iH []) (nN S k):=by
 have:S[k]=nN S k:=by simp[nN,h]
 rw[List.take_succ_eq_append_getElem h,List.foldl_append,this];rfl
theorem QG(h:w.ownsRow B 299 2 v S.length (gL (S.map nI)))(k:Nat)(hk:k<S.length):∃g cap,v=AE (J ⟨g,0,I⟩) S.length cap/\w.cell? ⟨g,k*2,I⟩=J (AD (nN S k).f)/\w.cell? ⟨g,k*2+1,I⟩=J (R U (nN S k).what):=by
 rcases h.2 with⟨_,h0⟩|⟨g,cap,cur,rfl,_,hb,hn,hc,hs,ht⟩
 .omega
 .have hx:∀j,j<2->cur.toList[k*2+j]?=(iU (nI (nN S k)))[j]?:=λj hj=>by
   have h1:(cur.toList.take (S.length*2))[k*2+j]?=cur.toList[k*2+j]?:=by
    rw[List.getElem?_take,if_pos (by omega)]
   have e1:(k*2+j) / 2=k:=by omega
   have e2:(k*2+j) % 2=j:=by omega
   rw[<-h1,ht,sj,e1,e2,List.getElem?_map,ug hk]
   rfl
  have x0:=hx 0 (by omega)
  have x1:=hx 1 (by omega)
  simp only[Nat.add_zero] at x0
  refine⟨g,cap,rfl,?_,?_⟩
  .simp only [AL,hb,AN,AO,if_false]
   simpa[iU,nI] using x0
  .simp only [AL,hb,AN,AO,if_false]
   simpa[iU,nI] using x1
theorem U1(es:List eF)(c:eH):(iH es c).length<=es.length+1:=by
 rcases AW es with rfl|⟨l,e,rfl⟩
 .rw [pQ (λe he=>by simp at he)];simp
 .rw [Aj]
  by_cases h:e.name=c.f
  .rw [um h];simp
  .rw [pQ (λe' he=>by simp at he;rw[<-he];exact h)];simp
theorem K6:∀(L:List eH) (es:List eF),(L.foldl iH es).length<=es.length+L.length
 |[],es=>Nat.le_refl _
 |c::L,es=>by
  have h1:=K6 L (iH es c);have h2:=U1 es c
  simp only[List.foldl_cons,A2]
  omega
theorem addE_fs(es:List eF)(c:eH)(M:Nat)(h:∀e∈es,e.fs.length<=M):∀e∈iH es c,e.fs.length<=M+1:=by
 rcases AW es with rfl|⟨l,e0,rfl⟩
 .rw [pQ (λe he=>by simp at he)]
  intro e he
  simp at he;subst he;simp
 .rw [Aj] at h ⊢
  by_cases hn:e0.name=c.f
  .rw [um hn]
   intro e he
   rcases List.mem_append.1 he with he|he
   .have:=h e (As _ he);omega
   .simp at he;subst he
    have:=h e0 (by simp)
    simp;exact this
  .rw [pQ (λe' he=>by simp at he;rw[<-he];exact hn)]
   intro e he
   rcases List.mem_append.1 he with he|he
   .have:=h e he;omega
   .simp at he;subst he;simp
theorem Pj:∀(L:List eH) (es:List eF) (M:Nat),(∀e∈es,e.fs.length<=M)->∀e∈L.foldl iH es,e.fs.length<=M+L.length
 |[],es,M,h=>h
 |c::L,es,M,h=>λe he=>by
  have:=Pj L (iH es c) (M+1) (addE_fs es c M h) e he
  simp only[A2]
  omega
structure EL (w wr:World) (kv:Value) (S:List eH) (o:Value) (k:Nat):Prop where
 below:Bw w wr
 keys:wr.ownsRow w.heap.size 299 2 kv S.length (gL (S.map nI))
 xe:xM wr w.heap.size o ((S.take k).foldl iH [])
structure EM (w wr:World) (kv:Value) (S:List eH) (o:Value) (l:List iZ) (e:eF) (fv:Value):Prop where
 below:Bw w wr
 keys:wr.ownsRow w.heap.size 299 2 kv S.length (gL (S.map nI))
 xe:dV wr w.heap.size o (l++[(e,fv)])
theorem EM.call{wr wy:World}{l:List iZ}(h:EM w wr kv S o l e fv)(hb:Bw wr wy):EM w wy kv S o l e fv :=
 ⟨aa h.below hb,aq h.keys hb,h.xe.keep hb⟩
theorem EM.push{l:List iZ}{n:ByteArray}(hb:Bw w w2)(hk:w2.ownsRow w.heap.size 299 2 kv S.length (gL (S.map nI)))(h:dV w2 w.heap.size o l)(ad:w3.ownsRow w.heap.size 105 2 o' (l.length+1) (dS l++[AD n,AE I 0 0]))(hg:(w2.alloc ob).grownBy w3 o.ownBlock):EM w w3 kv S o' l ⟨n,[]⟩ (AE I 0 0) :=
 ⟨(hb.alloc hb.size ob).grown hg (by simp;have:=hb.size;omega) (dY h.row),aj (aq hk ((AT _ _).alloc aE ob)) hg (dX h.row hk (by decide)),h.push ad hg⟩
theorem EM.next{l:List iZ}(h:EM w w2 kv S (AE (J ⟨g,0,I⟩) n cap) l e fv)(ad:w3.ownsRow w.heap.size 107 3 (AE (J ⟨fg,0,I⟩) (e.fs.length+1) uw) (e.fs.length+1) (dN e.fs++fQ f))(hg:(w2.alloc ob).grownBy w3 fv.ownBlock)(ak:fv.ownBlock=J fg\/fg=H)(hH:w2.heap.size<=H)(hs:l.map (·.1)++[⟨e.name,e.fs++[f]⟩]=(S.take (k+1)).foldl iH []) :
 EL w (w3.setCell ⟨g,l.length*2+1,I⟩ (AE (J ⟨fg,0,I⟩) (e.fs.length+1) uw)) kv S (AE (J ⟨g,0,I⟩) n cap) (k+1):=by
 have ba:=h.xe.jT (e,fv) (by simp)
 have gl:Bw w w3:=(h.below.alloc h.below.size ob).grown hg (by simp;have:=h.below.size;omega) (dY ba)
 have gh:w.heap.size<=g:=dY h.xe.row g rfl
 have e6:w3.ownsRow w.heap.size 299 2 kv S.length (gL (S.map nI)):=aj (aq h.keys ((AT _ _).alloc aE ob)) hg (dX ba h.keys (by decide))
 have fR:w3.ownsRow w.heap.size 105 2 (AE (J ⟨g,0,I⟩) n cap) (l++[(e,fv)]).length (dS (l++[(e,fv)])):=aj (aq h.xe.row ((AT _ _).alloc aE ob)) hg (dX ba h.xe.row (by decide))
 refine⟨gl.setCell (p:=⟨g,l.length*2+1,I⟩) gh _,aj e6 (bD w3 g (l.length*2+1) _) (dX fR e6 (by decide)),_,?_,h.xe.more ad hg ak hH⟩
 rw[<-hs,Aw];rfl
theorem U0{l:List iZ}(h:(l++[(e,fv)]).map (·.1)=es)(hn:e.name=c.f):l.map (·.1)++[⟨e.name,e.fs++[fD c]⟩]=iH es c:=by
 rw[<-h,Aw];exact(um hn).symm
theorem DK{l:List iZ}(h:l.map (·.1)=es)(hn:∀e,es.getLast?=J e->e.name≠c.f):l.map (·.1)++[⟨c.f,[]++[fD c]⟩]=iH es c:=by
 rw[h];exact(pQ hn).symm
theorem Ey(b n:Nat)(S:List eH)(w:World)(h:kS w b n S)(hS:ig S)(hfit:∀c∈S,ku c)(hsm:∀c∈S,c.f.size<=1048576/\c.v.size<=1048576)(hn:n<=4194304)(hl:S.length<=4194304)(hbw:b<w.heap.size) :
 Calls Tryz.prog 208 #[.map (J b)] w λe w'=>∃o,e=.returned o/\xM w' w.heap.size o (S.foldl iH [])/\Bw w w':=by
 obtain⟨i0,hi,dy,dv,du⟩:=info_parts Av;obtain⟨j0,hj,fz,ft,fp⟩:=info_parts Au;have HM:Hid (kS w b n S):=h;have HF:Hid (∀c∈S,ku c):=hfit;have Va:Hid (∀c∈S,c.f.size<=1048576/\c.v.size<=1048576):=hsm;have fA:Hid (ig S):=hS;clear h hfit hsm hS
 go_enter Tryz.func208,Tryz.ntmps208
 go_wp2_with fail;refine(Bi b n S _ HM.out fA.out HF.out hn).mono ?_;rintro e w1⟨kv,rfl,ef,ds⟩;have Mg:Hid (EL w w1 kv S (AE I 0 0) 0):=⟨ds,ef,[],rfl,dV.nil _ _⟩
 obtain⟨ka,kc,rfl⟩:∃ka kc,kv=AE ka S.length kc:=by
  rcases ef.2 with⟨rfl,h0⟩|⟨g,cap,cur,rfl,_⟩
  .exact ⟨I,0,by rw[h0]⟩
  .exact ⟨_,cap,rfl⟩
 clear ef ds;go_wp2
 go_loopw [3,12] (λo i wr=>∃k:Nat,k<=S.length/\i=R U k/\EL w wr (AE ka S.length kc) S o k) (λ_ i _=>S.length-(intOf i).toNat)
 case atStart=>exact⟨0,Nat.zero_le _,rfl,Mg.out⟩
 case round =>
  clear Mg;obtain⟨k,hk,rfl,QT⟩:=hrel
  by_cases aT:k<S.length
  .obtain ⟨kg,fo,gb,d0,d1⟩:=QG QT.keys k aT
   cases gb
   have HC:=List.mem_of_getElem? (ug aT);have HQ:Hid (ku (nN S k)/\CX S (nN S k)=fD (nN S k)):=⟨HF.out _ HC,getF_at fA.out HC⟩;have fa:=(Va.out _ HC).1;have hcv:=(Va.out _ HC).2;have eK:Hid ((S.take (k+1)).foldl iH []=iH ((S.take k).foldl iH []) (nN S k)):=UZ aT
   have HMR:Hid (kS wr b n S):=HM.out.kept (row:=I) ⟨QT.below.os,QT.below.tape,QT.below.output,QT.below.size,λj hj _=>QT.below.block j hj⟩ (by simp)
   clear HC;generalize nN S k=c at *;obtain⟨l,hle,hP⟩:=QT.xe
   have hk0:(0:Int)<=(k:Int):=by omega
   have ef:(k:Int)<(S.length:Int):=by omega
   have bb:Hid (Bw w wr/\wr.ownsRow w.heap.size 299 2 (AE (J ⟨kg,0,I⟩) S.length kc) S.length (gL (S.map nI))):=⟨QT.below,QT.keys⟩
   have ev:l.length<=4194304:=by
    have:l.length=((S.take k).foldl iH []).length:=by rw[<-hle,List.length_map]
    rw[this];refine Nat.le_trans (K6 _ _) ?_
    simp;omega
   have BA:Hid (Bw wr (wr.alloc (AF #[AD c.f,R U c.what] 299))):=(aG);have XA:Hid ((wr.alloc (AF #[AD c.f,R U c.what] 299)).heap[wr.heap.size]?=J (AF #[AD c.f,R U c.what] 299)):=aS wr _;clear QT
   have fi:Hid (∃oa oc,u3=AE oa l.length oc):=by
    rcases hP.row.2 with⟨rfl,h0⟩|⟨g,cap,cur,rfl,_⟩
    .exact ⟨I,0,by rw[h0]⟩
    .exact ⟨_,cap,rfl⟩
   obtain⟨oa,oc,rfl⟩:=fi.out;clear fi;have Mr:Hid (dV wr w.heap.size (AE oa l.length oc) l):=hP;have Ov:Hid (l.map (·.1)=(S.take k).foldl iH []):=hle;clear hP hle
   rcases AW l with bV|⟨l',⟨e,fv⟩,ae⟩
   focus
    have dT:IntKind.i64.wrap ((l.length:Int)-1)=-1:=by rw[bV];rfl
    have ax:Hid (l.map (·.1)++[⟨c.f,[]++[fD c]⟩]=(S.take (k+1)).foldl iH []):=by
     show _=_
     rw[eK.out]
     exact DK Ov.out λe he=>by rw[<-Ov.out,bV] at he;simp at he
    clear bV Ov
    go_upto_region 6 with fail
    clear dT
    go_quiet (fail)
    go_wp2_with fail;refine(jQ c.f _ fa).mono ?_;rintro e1 w2⟨rfl,ab⟩;have an:Bw wr w2:=aa BA.out ⟨ab.os,ab.tape,ab.output,ab.size,ab.block⟩
    have X2:w2.heap[wr.heap.size]?=J (AF #[AD c.f,R U c.what] 299):=(ab.block _ (by simp)).trans XA.out
    have av:=Mr.out.keep an;have ek:=(aa bb.out.1 an).size;have Vf:Hid (∀(j:Nat) (u:Value),[AD c.f,AE I 0 0][j]?=J u->(w2.alloc (AF #[AD c.f,AE I 0 0] 105)).cell? ((⟨w2.heap.size,0,I⟩:Addr).add j)=J u):=cell_two_new w2 _ _ _
    go_upto_region 8 with(at_builtin;go_loud (refine wpList_append_lies _ rfl _ _ 39 rfl w.heap.size 105 i0 (AG #[AD AS,AE I 0 0]) 2 40 Tryz.underlying39 hi dy dv du rfl (by decide) _ l.length (dS l) rfl (av.row.alloc _) ⟨w2.heap.size,0,I⟩ 1 1 [AD c.f,AE I 0 0] rfl rfl Vf.out (λx hx=>by simp at hx;rcases hx with rfl|rfl<;>rfl) (by decide) (by unfold maxLen;omega) (by omega) (by simp;omega) _ rfl ?_);intro g cap w3 af b6 Un bY)
    have au:wr.heap.size<w2.heap.size:=(Array.getElem?_eq_some_iff.1 X2).1
    have X3:w3.heap[wr.heap.size]?=J (AF #[AD c.f,R U c.what] 299):=(b6.block _ (by simp;omega) (aQ av.row X2 (by decide))).trans ((An _ _ _ au).trans X2)
    have Mh:Hid (EM w w3 (AE (J ⟨kg,0,I⟩) S.length kc) S (AE (J ⟨g,0,I⟩) (l.length+1) cap) l ⟨c.f,[]⟩ (AE I 0 0)):=EM.push (aa bb.out.1 an) (aq bb.out.2 an) av af b6
    obtain⟨q,Vb⟩:∃q:eF×Value,Hid (EM w w3 (AE (J ⟨kg,0,I⟩) S.length kc) S (AE (J ⟨g,0,I⟩) (l.length+1) cap) l q.1 q.2/\l.map (·.1)++[⟨q.1.name,q.1.fs++[fD c]⟩]=(S.take (k+1)).foldl iH []/\q.1.fs.length<=4194304):=⟨(⟨c.f,[]⟩,AE I 0 0),Mh.out,ax.out,by simp⟩
    clear af b6 Un bY an X2 av Vf BA XA Mr Mh ax;obtain⟨e,fv⟩:=q;obtain⟨l',b3⟩:∃l':List iZ,l'=l:=⟨_,rfl⟩;rw[<-b3] at Vb ev
    simp only[<-b3]
    clear b3;have ao:Hid (EM w w3 (AE (J ⟨kg,0,I⟩) S.length kc) S (AE (J ⟨g,0,I⟩) (l'.length+1) cap) l' e fv):=Vb.out.1;have ax:Hid (l'.map (·.1)++[⟨e.name,e.fs++[fD c]⟩]=(S.take (k+1)).foldl iH []):=Vb.out.2.1;have qL:Hid (e.fs.length<=4194304):=Vb.out.2.2;clear Vb
   rotate_left
   focus
    rw[Aj] at ae
    have hlen:l.length=l'.length+1:=by rw[ae];simp
    have dT:IntKind.i64.wrap ((l.length:Int)-1)=(l'.length:Int):=by rw[At];omega
    have hx0:(0:Int)<=(l'.length:Int):=by omega
    have en:(l'.length:Int)<(l.length:Int):=by omega
    have ej:Hid (dV wr w.heap.size (AE oa l.length oc) (l'++[(e,fv)])):=by
     show dV wr w.heap.size (AE oa l.length oc) (l'++[(e,fv)])
     rw[<-ae];exact Mr.out
    obtain⟨g0,gq,ew,eN,eM,eL,c7,c9⟩:=ej.out.last
    injection ew with ai c6 b5
    subst ai b5
    by_cases cg:e.name=c.f
    focus
     have hq:(e.name.toList==c.f.toList)=true:=ci cg
     have er:decide ((l'.length:Int)<0)=false:=by simp
     have ax:Hid (l'.map (·.1)++[⟨e.name,e.fs++[fD c]⟩]=(S.take (k+1)).foldl iH []):=by
      show _=_
      rw[eK.out]
      exact U0 (l:=l') (e:=e) (fv:=fv) (by rw[<-ae];exact Ov.out) cg
     have qL:Hid (e.fs.length<=4194304):=by
      have hm:e∈(S.take k).foldl iH []:=by rw[<-Ov.out,ae];simp
      have h:=Pj (S.take k) [] 0 (λe he=>by cases he) e hm
      show _<=_
      simp at h;omega
     have y0:=ac BA.out aE eN
     obtain⟨k0,k1⟩:(wr.alloc (AF #[AD c.f,R U c.what] 299)).cell? ⟨wr.heap.size,0,I⟩=J (AD c.f)/\(wr.alloc (AF #[AD c.f,R U c.what] 299)).cell? ⟨wr.heap.size,1,I⟩=J (R U c.what):=⟨by simp,by simp⟩
     have Mh:Hid (∀nq,EM w ((wr.alloc (AF #[AD c.f,R U c.what] 299)).drewN nq) (AE (J ⟨kg,0,I⟩) S.length kc) S (AE (J ⟨g0,0,I⟩) (l'.length+1) oc) l' e fv):=λnq=>by
      have h:EM w wr (AE (J ⟨kg,0,I⟩) S.length kc) S (AE (J ⟨g0,0,I⟩) (l'.length+1) oc) l' e fv:=⟨bb.out.1,bb.out.2,by rw[<-hlen];exact ej.out⟩
      exact h.call (below_drewN BA.out nq)
     have hw2:IntKind.i64.wrap ((l'.length:Int)+1-1)=(l'.length:Int):=by rw[At];omega
     have eR:(l'.length:Int)<(l'.length:Int)+1:=by omega
     rw[hlen] at ev;rw[hlen];clear cg Ov ej eM eL c7 c9 dT en
     go_upto_region 6 with fail
     go_quiet (fail)
     obtain⟨w3,dz⟩:∃w3,w3=(wr.alloc (AF #[AD c.f,R U c.what] 299)).drewN nq:=⟨_,rfl⟩
     have ao:Hid (EM w w3 (AE (J ⟨kg,0,I⟩) S.length kc) S (AE (J ⟨g0,0,I⟩) (l'.length+1) oc) l' e fv):=by rw[dz];exact Mh.out nq
     have X3:w3.heap[wr.heap.size]?=J (AF #[AD c.f,R U c.what] 299):=by rw[dz];exact XA.out
     rw[<-dz];clear dz Mh BA XA Mr y0 k0 k1;obtain⟨g,rfl⟩:∃g,g=g0:=⟨_,rfl⟩;obtain⟨cap,rfl⟩:∃cap,cap=oc:=⟨_,rfl⟩;have au:wr.heap.size<w3.heap.size:=(Array.getElem?_eq_some_iff.1 X3).1
    rotate_left
    focus
     have hq:(e.name.toList==c.f.toList)=false:=bw cg
     have er:decide ((l'.length:Int)<0)=false:=by simp
     have ax:Hid (l.map (·.1)++[⟨c.f,[]++[fD c]⟩]=(S.take (k+1)).foldl iH []):=by
      show _=_
      rw[eK.out]
      exact DK Ov.out λe' he=>by
       rw[<-Ov.out,ae,Aw] at he
       simp at he
       rw[<-he];exact cg
     have y0:=ac BA.out aE eN
     obtain⟨k0,k1⟩:(wr.alloc (AF #[AD c.f,R U c.what] 299)).cell? ⟨wr.heap.size,0,I⟩=J (AD c.f)/\(wr.alloc (AF #[AD c.f,R U c.what] 299)).cell? ⟨wr.heap.size,1,I⟩=J (R U c.what):=⟨by simp,by simp⟩
     clear cg Ov ej eM eL c7 c9 ae hlen c6
     go_upto_region 6 with fail
     clear dT
     go_quiet (fail)
     go_wp2_with fail;refine(jQ c.f _ fa).mono ?_;rintro e1 w2⟨rfl,ab⟩;have an:Bw wr w2:=aa BA.out ⟨ab.os,ab.tape,ab.output,ab.size,ab.block⟩
     have X2:w2.heap[wr.heap.size]?=J (AF #[AD c.f,R U c.what] 299):=(ab.block _ (by simp)).trans XA.out
     have av:=Mr.out.keep an;have ek:=(aa bb.out.1 an).size;have Vf:Hid (∀(j:Nat) (u:Value),[AD c.f,AE I 0 0][j]?=J u->(w2.alloc (AF #[AD c.f,AE I 0 0] 105)).cell? ((⟨w2.heap.size,0,I⟩:Addr).add j)=J u):=cell_two_new w2 _ _ _
     go_upto_region 8 with(at_builtin;go_loud (refine wpList_append_lies _ rfl _ _ 39 rfl w.heap.size 105 i0 (AG #[AD AS,AE I 0 0]) 2 40 Tryz.underlying39 hi dy dv du rfl (by decide) _ l.length (dS l) rfl (av.row.alloc _) ⟨w2.heap.size,0,I⟩ 1 1 [AD c.f,AE I 0 0] rfl rfl Vf.out (λx hx=>by simp at hx;rcases hx with rfl|rfl<;>rfl) (by decide) (by unfold maxLen;omega) (by omega) (by simp;omega) _ rfl ?_);intro g cap w3 af b6 Un bY)
     have au:wr.heap.size<w2.heap.size:=(Array.getElem?_eq_some_iff.1 X2).1
     have X3:w3.heap[wr.heap.size]?=J (AF #[AD c.f,R U c.what] 299):=(b6.block _ (by simp;omega) (aQ av.row X2 (by decide))).trans ((An _ _ _ au).trans X2)
     have Mh:Hid (EM w w3 (AE (J ⟨kg,0,I⟩) S.length kc) S (AE (J ⟨g,0,I⟩) (l.length+1) cap) l ⟨c.f,[]⟩ (AE I 0 0)):=EM.push (aa bb.out.1 an) (aq bb.out.2 an) av af b6
     obtain⟨q,Vb⟩:∃q:eF×Value,Hid (EM w w3 (AE (J ⟨kg,0,I⟩) S.length kc) S (AE (J ⟨g,0,I⟩) (l.length+1) cap) l q.1 q.2/\l.map (·.1)++[⟨q.1.name,q.1.fs++[fD c]⟩]=(S.take (k+1)).foldl iH []/\q.1.fs.length<=4194304):=⟨(⟨c.f,[]⟩,AE I 0 0),Mh.out,ax.out,by simp⟩
     clear af b6 Un bY an X2 av Vf BA XA Mr Mh ax;obtain⟨e,fv⟩:=q;obtain⟨l',b3⟩:∃l':List iZ,l'=l:=⟨_,rfl⟩;rw[<-b3] at Vb ev
     simp only[<-b3]
     clear b3;have ao:Hid (EM w w3 (AE (J ⟨kg,0,I⟩) S.length kc) S (AE (J ⟨g,0,I⟩) (l'.length+1) cap) l' e fv):=Vb.out.1;have ax:Hid (l'.map (·.1)++[⟨e.name,e.fs++[fD c]⟩]=(S.take (k+1)).foldl iH []):=Vb.out.2.1;have qL:Hid (e.fs.length<=4194304):=Vb.out.2.2;clear Vb
    rotate_left
   rotate_left 2
   all_goals
    have gR:Hid (∀j,fv.ownBlock=J j->j<w3.heap.size):=cV (ao.out.xe.jT (e,fv) (by simp))
    have fj:Hid (kS w3 b n S):=HM.out.kept (row:=I) ⟨ao.out.below.os,ao.out.below.tape,ao.out.below.output,ao.out.below.size,λj hj _=>ao.out.below.block j hj⟩ (by simp)
    have ec:(Instr.lookup 295 (.map (J b)) (AG #[AD c.f,R U c.what]) false).run Tryz.prog w3=.ok (AG #[R U c.what,R U c.num,AD c.v]) w3:=by
     have h:=fj.out.lookup c HQ.out.1;rw[HQ.out.2] at h;exact h
    obtain⟨p0,p1⟩:w3.cell? ⟨wr.heap.size,0,I⟩=J (AD c.f)/\w3.cell? ⟨wr.heap.size,1,I⟩=J (R U c.what):=by simp[AL,X3]
    go_wp2_with fail;refine(jQ c.v _ hcv).mono ?_;rintro e5 w5⟨rfl,ey⟩
    have X5:w5.heap[w3.heap.size]?=J (AF #[R U c.what,R U c.num,AD c.v] 107):=(ey.block _ (by simp)).trans (aS w3 _)
    have dq:Bw w3 w5:=aa (aG) ey;have eP:w3.heap.size<w5.heap.size:=(Array.getElem?_eq_some_iff.1 X5).1
    obtain⟨q0,q1,q2⟩:w5.cell? ⟨w3.heap.size,0,I⟩=J (R U c.what)/\w5.cell? ⟨w3.heap.size,1,I⟩=J (R U c.num)/\w5.cell? ⟨w3.heap.size,2,I⟩=J (AD c.v):=by simp[AL,X5]
    have qf:w5.frozen? ⟨w3.heap.size,2,I⟩=false:=by simp[World.frozen?,X5]
    have cl:Hid (EM w (w5.setCell ⟨w3.heap.size,2,I⟩ (AD c.v)) (AE (J ⟨kg,0,I⟩) S.length kc) S (AE (J ⟨g,0,I⟩) (l'.length+1) cap) l' e fv):=ao.out.call (yY dq _ _ aE _)
    have X6:Hid ((w5.setCell ⟨w3.heap.size,2,I⟩ (AD c.v)).heap[w3.heap.size]?=J (AF #[R U c.what,R U c.num,AD c.v] 107)/\w3.heap.size<(w5.setCell ⟨w3.heap.size,2,I⟩ (AD c.v)).heap.size):=by
     refine⟨?_,by simpa using eP⟩
     rw[setCell_eq_setRow _ _ _ _ _ _ _ X5];exact oN X5
    have hL0:(0:Int)<=(l'.length:Int):=by omega
    have hL1:(l'.length:Int)<(l'.length:Int)+1:=by omega
    have hw1:IntKind.i64.wrap ((l'.length:Int)+1-1)=(l'.length:Int):=by rw[At];omega
    clear ec p0 p1 X3 ey dq ao fj
    go_upto_region 11 with fail
    generalize w5.setCell ⟨w3.heap.size,2,I⟩ (AD c.v)=w6 at *;clear q0 q1 q2 qf X5 eP;generalize w3.heap.size=fb at *
    obtain⟨q0,q1,q2⟩:w6.cell? ⟨fb,0,I⟩=J (R U c.what)/\w6.cell? ⟨fb,1,I⟩=J (R U c.num)/\w6.cell? ⟨fb,2,I⟩=J (AD c.v):=by simp[AL,X6.out.1]
    obtain⟨g',eJ,ew,y0,y1,yf,hcp,hcm⟩:=cl.out.xe.last
    injection ew with ai c6 b5
    injection ai with ai
    injection ai with ai
    subst ai b5
    have ba:=cl.out.xe.jT (e,fv) (by simp)
    have gg:g<w6.heap.size:=am y0;have gO:Hid ((w6.alloc (AF #[R U c.what,R U c.num,AD c.v] 107)).ownsRow w.heap.size 107 3 fv e.fs.length (dN e.fs)):=ba.alloc _;have vH:Hid (∀(j:Nat) (u:Value),(fQ (fD c))[j]?=J u->(w6.alloc (AF #[R U c.what,R U c.num,AD c.v] 107)).cell? ((⟨w6.heap.size,0,I⟩:Addr).add j)=J u):=nM w6 _ _ _ _
    have gv:Hid (w.heap.size<=(w6.alloc (AF #[R U c.what,R U c.num,AD c.v] 107)).heap.size):=by
     have:=cl.out.below.size
     show w.heap.size<=_
     simp;omega
    have gE:Hid (fb≠g):=λee=>aQ cl.out.xe.row X6.out.1 (by decide) (by rw[ee];rfl)
    have Vl:Hid (∀wx:World,(w6.alloc (AF #[R U c.what,R U c.num,AD c.v] 107)).grownBy wx fv.ownBlock->wx.cell? ⟨g,l'.length*2+1,I⟩=J fv/\wx.frozen? ⟨g,l'.length*2+1,I⟩=false/\wx.heap[fb]?=J (AF #[R U c.what,R U c.num,AD c.v] 107)):=λwx e7=>by
     have ck:wx.heap[g]?=w6.heap[g]?:=(e7.block g (by simp;omega) (dX ba cl.out.xe.row (by decide) g rfl)).trans (An _ _ _ gg)
     have gj:wx.heap[fb]?=J (AF #[R U c.what,R U c.num,AD c.v] 107):=(e7.block fb (by have:=X6.out.2;simp;omega) (λee=>by have:=gR.out fb ee.symm;omega)).trans ((An _ _ _ X6.out.2).trans X6.out.1)
     exact⟨(World.cell?_of_block (a:=⟨g,l'.length*2+1,I⟩) ck).trans y1,(World.frozen?_of_block (a:=⟨g,l'.length*2+1,I⟩) ck).trans yf,gj⟩
    have ei:Bw w6 (w6.alloc (AF #[R U c.what,R U c.num,AD c.v] 107)):=(aG);have fh:Hid ((w6.alloc (AF #[R U c.what,R U c.num,AD c.v] 107)).cell? ⟨fb,0,I⟩=J (R U c.what)/\(w6.alloc (AF #[R U c.what,R U c.num,AD c.v] 107)).cell? ⟨fb,1,I⟩=J (R U c.num)/\(w6.alloc (AF #[R U c.what,R U c.num,AD c.v] 107)).cell? ⟨fb,2,I⟩=J (AD c.v)):=⟨ac ei aE q0,ac ei aE q1,ac ei aE q2⟩;clear ei;refine wp_region_noPanic ?_
    refine wp_region_held_drew (S:=λw'=>w'.cell? ⟨fb,0,I⟩=J (R U c.what)/\w'.cell? ⟨fb,1,I⟩=J (R U c.num)/\w'.cell? ⟨fb,2,I⟩=J (AD c.v)) (by kernel_rfl) ?_ (λfc=>?_)
    .exact ⟨q0,q1,q2⟩
    refine aM 0 ?_ rfl ?_ (aM 1 ?_ rfl ?_ (aM 2 ?_ rfl ?_ (aM 3 ?_ rfl ?_ (aM 5 ?_ rfl ?_ ?_))))
    iterate 5(rotate_left;focus(intro w eE;(try dsimp only at eE);simp only[Act.put,aK];go_simp;try with_reducible rfl))
    simp only[Act.put,aK]
    refine ny 4 6 rfl rfl (λK hK=>?_) (λK hK=>?_)
    focus
     go_simp;refine hK.out _ _ ⟨q0,q1,q2⟩ (λNM=>?_);clear hK K;refine be 6 (λK hK=>?_)
    rotate_left
    focus
     go_simp;refine hK.out _ _ fh.out (λNM=>?_);clear hK K;refine be 4 (λK hK=>?_)
    rotate_left
    all_goals
     go_simp;refine hK.out _ _ fh.out (λUs=>?_);clear hK K;refine be 7 (λK hK=>?_)
     refine step_append_lies _ rfl _ _ 103 rfl w.heap.size 107 j0 (AG #[R U 0,R U 0,AD AS]) 3 32 Tryz.underlying103 hj fz ft fp rfl (by decide) fv e.fs.length (dN e.fs) rfl gO.out ⟨w6.heap.size,0,I⟩ 1 1 (fQ (fD c)) rfl rfl vH.out (λx hx=>by simp[fQ] at hx;rcases hx with rfl|rfl|rfl<;>rfl) (by decide) (by unfold maxLen;have:=qL.out;omega) (by have:=qL.out;omega) gv.out (w6.heap.size+1) (by simp) ?_
     intro fg uw w7 cy Ew ez ga;have fk:Hid ((w6.alloc (AF #[R U c.what,R U c.num,AD c.v] 107)).grownBy w7 fv.ownBlock):=⟨Ew.os,Ew.tape,Ew.output,Ew.size,Ew.block⟩;have Me:Hid (EL w (w7.setCell ⟨g,l'.length*2+1,I⟩ (AE (J ⟨fg,0,I⟩) (e.fs.length+1) uw)) (AE (J ⟨kg,0,I⟩) S.length kc) S (AE (J ⟨g,0,I⟩) (l'.length+1) cap) (k+1)):=cl.out.next cy fk.out ez (Nat.le_succ _) ax.out;have cu:=Vl.out w7 fk.out;have x1:=cu.1;have xf:=cu.2.1
     have gx:Hid (w7.cell? ⟨fb,0,I⟩=J (R U c.what)/\w7.cell? ⟨fb,1,I⟩=J (R U c.num)/\w7.cell? ⟨fb,2,I⟩=J (AD c.v)):=by
      have h:=cu.2.2
      show _/\_/\_
      simp[AL,h]
     have gw:Hid ((w7.setCell ⟨g,l'.length*2+1,I⟩ (AE (J ⟨fg,0,I⟩) (e.fs.length+1) uw)).cell? ⟨fb,0,I⟩=J (R U c.what)/\(w7.setCell ⟨g,l'.length*2+1,I⟩ (AE (J ⟨fg,0,I⟩) (e.fs.length+1) uw)).cell? ⟨fb,1,I⟩=J (R U c.num)/\(w7.setCell ⟨g,l'.length*2+1,I⟩ (AE (J ⟨fg,0,I⟩) (e.fs.length+1) uw)).cell? ⟨fb,2,I⟩=J (AD c.v)):=by
      have h:=(Below.heap_setCell w7 ⟨g,l'.length*2+1,I⟩ (AE (J ⟨fg,0,I⟩) (e.fs.length+1) uw) fb gE.out).trans cu.2.2
      show _/\_/\_
      simp only[AL,h]
      exact⟨rfl,rfl,rfl⟩
     clear cu;refine hK.out _ _ gx.out (λUr=>?_);clear hK K;refine aM 8 ?_ rfl ?_ (aM 9 ?_ rfl ?_ ?_)
     iterate 2(rotate_left;focus(intro w eE;(try dsimp only at eE);simp only[Act.put,aK];go_simp;try with_reducible rfl))
     simp only[Act.put,aK]
     refine be 10 (λK hK=>?_);go_simp;refine hK.out _ _ gw.out (λeI=>?_);clear hK K
     refine wpAnyH_done (by kernel_rfl) ?_ _
     refine NoPanic.normal ?_;go_wp2
     exact⟨⟨k+1,by omega,by go_num,Me.out⟩,by simp[intOf];omega⟩
  .have Pz:Hid (xM wr w.heap.size u3 (S.foldl iH [])/\Bw w wr):=by
    have h:=QT.xe
    rw[List.take_of_length_le (by omega)] at h
    exact⟨h,QT.below⟩
   clear QT;go_wp2;go_ret;exact⟨_,rfl,Pz.out⟩
end Go.Proofs.YtolokangldmodaaGreatDoor
