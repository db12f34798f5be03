import Derived.Test.YtolokangldmodaaGreatDoorEnts1
import Derived.Test.YtolokangldmodaaGreatDoorDr10
import Derived.Test.YtolokangldmodaaGreatDoorPa00
set_option maxRecDepth 100000
set_option maxHeartbeats 12800000
set_option linter.unusedSimpArgs false
set_option linter.unusedVariables false
open Go.Value renaming slice->J
open Go.Obj renaming cells->AD
open Go.Ending renaming returned->AE
open Option renaming none->R,some->I,isSome_none->Aj
open Bool renaming and_eq_true->AH,false_eq_true->An,not_eq_true'->BK
open Go.World renaming cell?->AI,size_alloc->BN
open List renaming mem_of_getElem?->AJ,length_append->AM,length_take->AN,getElem_set_ne->AO,nil_append->AW,length_cons->As,getElem_set_self->At,take_append_drop->Ax,length_set->A0,getElem_of_mem->A1,flatMap_cons->AF,mem_cons->AG,not_mem_nil->A3,length_map->A6,set_append_right->BB,pairwise_append->BC,set_cons_succ->BF,length_drop->BR
open Nat renaming zero_add->AK,le_refl->AS,min_eq_left->AT,add_sub_cancel_left->A4,le_trans->A5,zero_le->BA
open Go.RowKit.Below renaming heap_alloc->AL,refl->BD
open Go.Proofs.Tryz
namespace Go.Proofs.YtolokangldmodaaGreatDoor
open Go.RowKit
theorem dV.far{w w':World}{B r:Nat}{o:Value}{l:List iZ}(h:dV w B o l)(hg:w.grownBy w' (I r))(hr:r<B):dV w' B o l :=
 ⟨aj h.row hg (λk hk e=>by have:=dY h.row k hk;injection e;omega),λp hp=>aj (h.jT p hp) hg (λk hk e=>by have:=dY (h.jT p hp) k hk;injection e;omega),h.apart⟩
theorem aX{w:World}{base base':Nat}{e:TypeId}{size:Nat}{v:Value}{n:Nat}{xs:List Value}(h:w.ownsRow base e size v n xs)(hb:base'<=base):w.ownsRow base' e size v n xs:=by
 refine⟨h.1,?_⟩
 rcases h.2 with h2|⟨g,cap,cur,hv,hg,rest⟩
 .exact .inl h2
 .exact .inr ⟨g,cap,cur,hv,by omega,rest⟩
theorem dV.mono{w:World}{B B':Nat}{o:Value}{l:List iZ}(h:dV w B o l)(hb:B'<=B):dV w B' o l:=⟨aX h.row hb,λp hp=>aX (h.jT p hp) hb,h.apart⟩
structure dB (lo:Nat) (w:World) (x y z:Value) (ks ps:List dE) (es:List eF):Prop where
 k:w.ownsRow lo 79 3 x ks.length (dw ks)
 p:w.ownsRow lo 101 3 y ps.length (dw ps)
 e:xM w lo z es
theorem dB.keep{lo:Nat}{w w':World}{x y z:Value}{ks ps:List dE}{es:List eF}(h:dB lo w x y z ks ps es)(hb:Bw w w'):dB lo w' x y z ks ps es:=by
 obtain⟨h1,h2,l,h3,h4⟩:=h;exact⟨aq h1 hb,aq h2 hb,l,h3,h4.keep hb⟩
theorem dB.far{lo r:Nat}{w w':World}{x y z:Value}{ks ps:List dE}{es:List eF}(h:dB lo w x y z ks ps es)(hg:w.grownBy w' (I r))(hr:r<lo):dB lo w' x y z ks ps es:=by
 obtain⟨h1,h2,l,h3,h4⟩:=h
 exact⟨aj h1 hg (λk hk e=>by have:=dY h1 k hk;injection e;omega),aj h2 hg (λk hk e=>by have:=dY h2 k hk;injection e;omega),l,h3,h4.far hg hr⟩
theorem dB.mono{lo lo':Nat}{w:World}{x y z:Value}{ks ps:List dE}{es:List eF}(h:dB lo w x y z ks ps es)(hl:lo'<=lo):dB lo' w x y z ks ps es:=by
 obtain⟨h1,h2,l,h3,h4⟩:=h;exact⟨aX h1 hl,aX h2 hl,l,h3,h4.mono hl⟩
theorem dH{w:World}{base:Nat}{e:TypeId}{size:Nat}{v:Value}{n:Nat}{xs:List Value}(h:w.ownsRow base e size v n xs):∃a c,v=J a n c:=by
 rcases h.2 with⟨rfl,h0⟩|⟨g,cap,cur,rfl,_⟩
 .exact ⟨R,0,by rw[h0]⟩
 .exact ⟨_,cap,rfl⟩
theorem OJ{P:eH->Prop}:∀(L S:List eH),(∀c∈S,P c)->(∀c∈L,P c)->∀c∈L.foldl gZ S,P c
 |[],S,hS,_=>hS
 |a::L,S,hS,hL=>OJ L (gZ S a) (λc hc=>by
   rcases JL hc with rfl|hc
   .exact hL _ (by simp)
   .exact hS c hc) (λc hc=>hL c (by simp[hc]))
theorem JM:∀(S:List eH) (c:eH),(gZ S c).length<=S.length+1
 |[],c=>AS _
 |a::l,c=>by
  have:=JM l c;unfold gZ
  repeat' split
  all_goals simp only[As]
  all_goals omega
theorem OI:∀(L S:List eH),(L.foldl gZ S).length<=S.length+L.length
 |[],S=>AS _
 |a::L,S=>by
  have h1:=OI L (gZ S a);have h2:=JM S a
  simp only[List.foldl_cons,As]
  omega
theorem Oi(vk vp vl:Value)(ks ps:List dE)(Ls:List (List eH))(w:World)(hk:dF w vk ks)(hp:dF w vp ps)(lk:ks.length<=1048575)(lp:ps.length<=1048575)(sk:∀t∈ks,t.s.size<=1048576)(sp:∀t∈ps,t.s.size<=1048576)(hL:xJ w vl Ls)(hlen:Ls.flatten.length<=4194304)(hLl:Ls.length<=1048576)(hLe:∀L∈Ls,L.length<=2097152)(hfit:∀L∈Ls,∀c∈L,ku c/\1<=c.num)(hsm:∀L∈Ls,∀c∈L,c.f.size<=1048576/\c.v.size<=1048576) :
  Calls prog 187 #[.agg #[vk,vp],vl] w λe w'=>∃x y z,e=AE (.agg #[x,y,z])/\dB (w.heap.size+3) w' x y z ks ps ((Ls.flatten.foldl gZ []).foldl iH [])/\Bw w w':=by
 have ff:∃a n c,vk=J a n c:=by obtain⟨a,c,h,_⟩:=hk;exact⟨_,_,_,h⟩
 have fc:∃a n c,vp=J a n c:=by obtain⟨a,c,h,_⟩:=hp;exact⟨_,_,_,h⟩
 have ek:∀c∈Ls.flatten,(ku c/\1<=c.num)/\(c.f.size<=1048576/\c.v.size<=1048576):=λc hc=>by
  obtain⟨L,h1,h2⟩:=List.mem_flatten.1 hc;exact⟨hfit L h1 c h2,hsm L h1 c h2⟩
 have hS:=OJ (P:=λc=>(ku c/\1<=c.num)/\(c.f.size<=1048576/\c.v.size<=1048576)) Ls.flatten [] (λc h=>by cases h) ek
 have fN:(Ls.flatten.foldl gZ []).length<=4194304:=by
  have:=OI Ls.flatten [];rw[List.length_nil,AK] at this
  omega
 refine(Oj vk vp vl Ls w ff fc hL hlen hLl hLe hfit (λx y z w2=>dB (w.heap.size+3) w2 x y z ks ps ((Ls.flatten.foldl gZ []).foldl iH [])/\Bw w w2/\w.heap.size+2<w2.heap.size) ?_).mono ?_
 .intro wx n hn hF
  have hz:=hF.z;refine(Iu vk vp ks ps wx (hk.keep hF.below) (hp.keep hF.below) lk lp sk sp).mono ?_;rintro e w1⟨a1,n1,c1,a2,n2,c2,rfl,⟨o1,o2⟩,bP⟩;have dm:=hF.call bP;refine⟨a1,n1,c1,a2,n2,c2,rfl,?_⟩
  refine(Ey (w.heap.size+2) n _ w1 dm.m (oD _ List.Pairwise.nil) (λc hc=>(hS c hc).1.1) (λc hc=>(hS c hc).2) (by omega) fN (by have:=dm.z;omega)).mono ?_
  rintro e w2⟨o,rfl,⟨l,fj,eJ⟩,cf⟩;obtain⟨a3,c3,rfl⟩:=dH eJ.row;have aL:=dm.z
  refine⟨a3,_,c3,rfl,(cf.block _ (by omega)).trans dm.r,⟨aX (aq o1 cf) (by omega),aX (aq o2 cf) (by omega),l,fj,eJ.mono (by omega)⟩,aa dm.below cf,by have:=cf.size;omega⟩
 .rintro e w'⟨x,y,z,w2,rfl,⟨hB,hb,hz⟩,rfl⟩
  exact⟨x,y,z,rfl,hB.far (aH w2 (w.heap.size+1) _) (by omega),bL hb⟩
open Go.RowKit
def takeC(ks ps:List dE)(es:List eF)(c:eH):Int:=bif dP ks ps es then(bif ib ks ps c then(bif decide (12<(fu es c.f (fD c)).length) then 3 else 0) else 2) else 1
def fI(ks ps:List dE)(es:List eF)(c:eH):List eF:=bif dP ks ps es then(bif ib ks ps c then(bif decide (12<(fu es c.f (fD c)).length) then es else fu es c.f (fD c)) else es) else[]
def eG(ks ps:List dE)(es:List eF)(l:List dE):List dE:=bif dP ks ps es then l else[]
theorem RP{n:Int}(h0:0<=n)(h1:n<=1000000):(Lit.int .i64 n).wf=true:=by
 simp[Lit.wf,IntKind.min,IntKind.max,IntKind.signed,IntKind.bits]
 omega
theorem K8{ks ps:List dE}{c:eH}(h:ib ks ps c=true):1<=c.what/\c.what<=5:=by
 simp only[ib,AH] at h
 have h2:=h.2.2;unfold eX at h2
 repeat' split at h2
 all_goals(first|omega|cases h2)
theorem fit_key{ks ps:List dE}{c:eH}(h:ib ks ps c=true):ku c/\1<=c.num:=by
 have hw:=K8 h
 simp only[ib,AH] at h
 have h1:=h.1;have h2:=h.2.1
 simp[fE] at h2
 unfold dJ fE at h1
 simp at h1
 exact⟨⟨by unfold maxLen;omega,RP (by omega) (by omega)⟩,h2.1⟩
theorem xG{ks ps:List dE}{es:List eF}(h:dP ks ps es=true):∀c∈dD es,ib ks ps c=true:=λc hc=>by
 obtain⟨e,he,hc⟩:=List.mem_flatMap.1 hc;obtain⟨f,hf,rfl⟩:=List.mem_map.1 hc;exact vC (df h he) hf
theorem ui{ks ps:List dE}{es:List eF}(h:dP ks ps es=true):∀e∈es,e.fs≠[]:=λe he hn=>by
 have:=df h he
 simp[fieldsB,hn] at this
theorem CG{ks ps:List dE}{es:List eF}(h:dP ks ps es=true):(∀t∈ks,t.s.size<=1048576)/\∀t∈ps,t.s.size<=1048576:=by
 have nm:∀(l:List dE) (m:Nat),fF l m=true->∀t∈l,t.s.size<=1048576:=λl m hl t ht=>by
  obtain⟨i,hi,rfl⟩:=A1 ht;unfold fF at hl;rw[AH] at hl;have h1:=bj hl.2 i hi;rw[AH] at h1;have h2:=h1.1
  have e0:at' l i=l[i]:=by simp[at',hi]
  rw[e0] at h2;unfold dJ fE at h2
  simp at h2
  omega
 unfold dP fB at h
 simp only[AH] at h
 have hk:=h.1.1;have hp:=h.1.2;unfold dU at hk;unfold dI at hp;rw[AH] at hk hp;exact⟨nm ks 6 hk.1,nm ps 16 hp.1⟩
theorem FN{ks ps:List dE}{es:List eF}(h:dP ks ps es=true):ks.length<=1048575/\ps.length<=1048575:=by
 unfold dP fB at h
 simp only[AH] at h
 have hk:=h.1.1;have hp:=h.1.2;unfold dU at hk;unfold dI at hp;rw[AH] at hk hp;have h1:=hk.1;have h2:=hp.1;unfold fF at h1 h2;rw[AH,decide_eq_true_eq] at h1 h2
 exact⟨by omega,by omega⟩
theorem QX{ks ps:List dE}{es:List eF}(h:dP ks ps es=true):(([dD es]:List (List eH)).flatten.foldl gZ []).foldl iH []=es:=by
 have e1:([dD es]:List (List eH)).flatten=dD es:=by simp
 rw[e1,zt (sV h)];exact sH (ui h) (Oh h)
theorem UM(c:eH):eu c.f (fD c)=c:=rfl
theorem Uw{ks ps:List dE}{es:List eF}(c:eH)(h:dP ks ps es=true):(([dD es,[c]]:List (List eH)).flatten.foldl gZ []).foldl iH []=fu es c.f (fD c):=by
 have e1:([dD es,[c]]:List (List eH)).flatten=dD es++[c]:=by simp
 rw[e1,List.foldl_append,zt (sV h)];have:=zn c.f (fD c) (bS h) (ui h);rw[UM] at this;exact this
theorem Lp{ks ps:List dE}{es:List eF}(h:ic ks ps es):∀c∈dD es,c.f.size<=1048576/\c.v.size<=1048576:=λc hc=>by
 unfold dD at hc;rw[List.mem_flatMap] at hc;obtain⟨e,he,hc⟩:=hc;rw[List.mem_map] at hc;obtain⟨f,hf,rfl⟩:=hc;exact⟨h.n e he,h.v e he f hf⟩
theorem Qs{w:World}{B:Nat}{v:Value}{L:List eH}{t:TypeId}(hb:w.heap[B]?=I (AD #[v] t (0,0)))(hv:jU w v L):xJ w (J (I ⟨B,0,R⟩) 1 1) [L]:=by
 refine⟨_,1,rfl,AS _,by unfold maxLen;omega,λi M hM=>?_⟩
 match i,hM with
 |0,hM=>simp at hM;subst hM;exact⟨B,0,v,rfl,by simp[AI,hb],hv⟩
 |n+1,hM=>simp at hM
theorem Qr{w:World}{B:Nat}{v u:Value}{L K:List eH}{t:TypeId}(hb:w.heap[B]?=I (AD #[v,u] t (0,0)))(hv:jU w v L)(hu:jU w u K):xJ w (J (I ⟨B,0,R⟩) 2 2) [L,K]:=by
 refine⟨_,2,rfl,AS _,by unfold maxLen;omega,λi M hM=>?_⟩
 match i,hM with
 |0,hM=>simp at hM;subst hM;exact⟨B,0,v,rfl,by simp[AI,hb],hv⟩
 |1,hM=>simp at hM;subst hM;exact⟨B,0,u,rfl,by simp[AI,hb],hu⟩
 |n+2,hM=>simp at hM
theorem Lr{w:World}{B:Nat}{c:eH}{t:TypeId}(hb:w.heap[B]?=I (AD #[.string c.f,.int .i64 c.what,.int .i64 c.num,.string c.v] t (0,0))):jU w (J (I ⟨B,0,R⟩) 1 1) [c]:=by
 refine⟨_,1,rfl,AS _,by unfold maxLen;omega,λi d hd=>?_⟩
 match i,hd with
 |0,hd=>simp at hd;subst hd;exact⟨B,0,rfl,by simp[AI,hb],by simp[AI,hb],by simp[AI,hb],by simp[AI,hb]⟩
 |n+1,hd=>simp at hd
structure qN (w wr:World) (X Y Z:Obj):Prop where
 below:Bw w wr
 b0:wr.heap[w.heap.size]?=I X
 b1:wr.heap[w.heap.size+1]?=I Y
 b2:wr.heap[w.heap.size+1+1]?=I Z
theorem qN.z{w wr:World}{X Y Z:Obj}(h:qN w wr X Y Z):w.heap.size+2<wr.heap.size:=(Array.getElem?_eq_some_iff.1 h.b2).1
theorem qN.call{w wr wy:World}{X Y Z:Obj}(h:qN w wr X Y Z)(hb:Bw wr wy):qN w wy X Y Z:=by
 have hz:=h.z
 exact⟨aa h.below hb,(hb.block _ (by omega)).trans h.b0,(hb.block _ (by omega)).trans h.b1,(hb.block _ (by omega)).trans h.b2⟩
theorem qN.start(w:World)(X Y Z:Obj):qN w (((w.alloc X).alloc Y).alloc Z) X Y Z:=by
 have s1:(w.alloc X).heap.size=w.heap.size+1:=by simp
 have s2:((w.alloc X).alloc Y).heap.size=w.heap.size+1+1:=by simp
 have h1:=aS w X;have h2:=aS (w.alloc X) Y;have h3:=aS ((w.alloc X).alloc Y) Z;rw[s1] at h2;rw[s2] at h3
 refine⟨((aG).alloc (by simp) _).alloc (by simp;omega) _,?_,?_,h3⟩
 .exact (AL _ _ _ (by omega)).trans ((AL _ _ _ (by omega)).trans h1)
 .exact (AL _ _ _ (by omega)).trans h2
theorem dB.none(lo:Nat)(w:World):dB lo w (J R 0 0) (J R 0 0) (J R 0 0) [] [] []:=⟨⟨rfl,.inl ⟨rfl,rfl⟩⟩,⟨rfl,.inl ⟨rfl,rfl⟩⟩,[],rfl,dV.nil _ _⟩
theorem dB.slices{lo:Nat}{w:World}{x y z:Value}{ks ps:List dE}{es:List eF}(h:dB lo w x y z ks ps es):∃a1 c1 a2 c2 a3 c3,x=J a1 ks.length c1/\y=J a2 ps.length c2/\z=J a3 es.length c3:=by
 obtain⟨h1,h2,l,h3,h4⟩:=h;obtain⟨a1,c1,rfl⟩:=dH h1;obtain⟨a2,c2,rfl⟩:=dH h2;obtain⟨a3,c3,rfl⟩:=dH h4.row
 exact⟨a1,c1,a2,c2,a3,c3,rfl,rfl,by rw[<-h3,A6]⟩
theorem Ha(vk vp ve:Value)(ks ps:List dE)(es:List eF)(c:eH)(w:World)(hB:dW w vk vp ve ks ps es)(nB:jV ks ps es)(sB:ic ks ps es)(hsz:mq (λe=>e.fs.length) es<=1048576)(hcf:c.f.size<=1048576)(hcv:c.v.size<=1048576) :
  Calls prog 148 #[.agg #[vk,vp,ve],.agg #[.string c.f,.int .i64 c.what,.int .i64 c.num,.string c.v]] w λe w'=>∃x y z,e=AE (.tuple #[.agg #[x,y,z],.int .i64 (takeC ks ps es c)])/\dB w.heap.size w' x y z (eG ks ps es ks) (eG ks ps es ps) (fI ks ps es c)/\Bw w w':=by
 have HB:Hid _:=hB;have NB:Hid _:=nB;have SB:Hid _:=sB;have gb:Hid (∀wx:World,Bw w wx->Calls prog 185 #[.agg #[vk,vp,ve]] wx λe w'=>∃v,e=AE v/\jM w' wx.heap.size v (dD es)/\Bw wx w'):=λwx hx=>EB vk vp ve es wx (hB.keep hx).e hsz sB.e;have nS:Hid (∀wx:World,Bw w wx->Rb 186 #[.agg #[vk,vp],.agg #[.string c.f,.int .i64 c.what,.int .i64 c.num,.string c.v]] wx (.bool (ib ks ps c))):=λwx hx=>sP _ _ ks ps c wx (hB.k.keep hx) (hB.p.keep hx) hcf hcv
 have Vl:Hid ((dD es).length<=1048576):=by
  show(dD es).length<=1048576
  rw[qH];exact hsz
 have e2:Hid (dP ks ps es=true->∀(wx:World) (vl:Value) (Ls:List (List eH)),Bw w wx->xJ wx vl Ls->Ls.length<=2->Ls.flatten.length<=1048577->(∀L∈Ls,L.length<=1048576)->(∀L∈Ls,∀c'∈L,ib ks ps c'=true/\(c'.f.size<=1048576/\c'.v.size<=1048576))->Calls prog 187 #[.agg #[vk,vp],vl] wx λe w'=>∃x y z,e=AE (.agg #[x,y,z])/\dB (wx.heap.size+3) w' x y z ks ps ((Ls.flatten.foldl gZ []).foldl iH [])/\Bw wx w'):=λb6 wx vl Ls hx hL h2 h3 h4 h5 =>
  Oi vk vp vl ks ps Ls wx (hB.k.keep hx) (hB.p.keep hx) (FN b6).1 (FN b6).2 (CG b6).1 (CG b6).2 hL (by omega) (by omega) (λL hL=>by have:=h4 L hL;omega) (λL hL c' eg=>fit_key (h5 L hL c' eg).1) (λL hL c' eg=>(h5 L hL c' eg).2)
 obtain⟨⟨ak,ck,rfl,-,-,-⟩,⟨ap,cp,rfl,-,-,-⟩,⟨ae,ce,rfl,-,-,-⟩⟩:=hB
 go_enter func148,ntmps148
 have ds:Hid _:=qN.start w (AD #[J ak ks.length ck,J ap ps.length cp,J ae es.length ce] 41) (AD #[.string c.f,.int .i64 c.what,.int .i64 c.num,.string c.v] 94) (AD #[J R 0 0,J R 0 0,J R 0 0] 41);go_wp2_with fail;refine(qJ _ _ _ ks ps es _ (HB.keep ds.below) NB SB).mono ?_;rintro e w1⟨rfl,bP⟩;have oO:Hid _:=ds.call bP
 obtain⟨y0,y1,y2⟩:w1.cell? ⟨w.heap.size,0,R⟩=I (J ak ks.length ck)/\w1.cell? ⟨w.heap.size,1,R⟩=I (J ap ps.length cp)/\w1.cell? ⟨w.heap.size,2,R⟩=I (J ae es.length ce):=by simp[AI,oO.out.b0]
 have eI:=oO.out.b2
 cases b6:dP ks ps es
 .have HE:Hid (takeC ks ps es c=1/\eG ks ps es ks=[]/\eG ks ps es ps=[]/\fI ks ps es c=[]):=by
   show _/\_/\_/\_
   unfold takeC eG fI;rw[b6];exact⟨rfl,rfl,rfl,rfl⟩
  go_wp2_with (refine cS (w.heap.size+1+1) #[J R 0 0,J R 0 0,J R 0 0] eI ?_)
  exact bv (.tuple #[.agg #[J R 0 0,J R 0 0,J R 0 0],.int .i64 1]) ⟨_,_,_,by rw[HE.out.1],by rw[HE.out.2.1,HE.out.2.2.1,HE.out.2.2.2];exact dB.none _ _,bL oO.below⟩ (by simp[results,results148,go_sem,bU eI])
 have mG:Hid _:=b6
 have qX:Hid (eG ks ps es ks=ks/\eG ks ps es ps=ps):=by
  show _/\_
  unfold eG;rw[b6];exact⟨rfl,rfl⟩
 go_wp2_with fail;refine(gb _ oO.below).mono ?_;rintro e w2⟨v,rfl,eA,cf⟩;have oq:Hid _:=oO.call cf;obtain⟨va,vc,rfl⟩:=dH eA;have RG:Hid (jU w2 (.slice va (dD es).length vc) (dD es)):=eA.at
 obtain⟨y0,y1,y2⟩:w2.cell? ⟨w.heap.size,0,R⟩=I (J ak ks.length ck)/\w2.cell? ⟨w.heap.size,1,R⟩=I (J ap ps.length cp)/\w2.cell? ⟨w.heap.size,2,R⟩=I (J ae es.length ce):=by simp[AI,oq.out.b0]
 obtain⟨x0,x1,x2,x3⟩:w2.cell? ⟨w.heap.size+1,0,R⟩=I (.string c.f)/\w2.cell? ⟨w.heap.size+1,1,R⟩=I (.int .i64 c.what)/\w2.cell? ⟨w.heap.size+1,2,R⟩=I (.int .i64 c.num)/\w2.cell? ⟨w.heap.size+1,3,R⟩=I (.string c.v):=by simp[AI,oq.out.b1]
 go_wp2_with fail;refine(nS _ oq.below).mono ?_;rintro e w3⟨rfl,eN⟩;have DN:Hid _:=oq.call eN;have et:Hid (jU w3 (.slice va (dD es).length vc) (dD es)):=RG.out.keep eN
 obtain⟨y0,y1,y2⟩:w3.cell? ⟨w.heap.size,0,R⟩=I (J ak ks.length ck)/\w3.cell? ⟨w.heap.size,1,R⟩=I (J ap ps.length cp)/\w3.cell? ⟨w.heap.size,2,R⟩=I (J ae es.length ce):=by simp[AI,DN.out.b0]
 obtain⟨x0,x1,x2,x3⟩:w3.cell? ⟨w.heap.size+1,0,R⟩=I (.string c.f)/\w3.cell? ⟨w.heap.size+1,1,R⟩=I (.int .i64 c.what)/\w3.cell? ⟨w.heap.size+1,2,R⟩=I (.int .i64 c.num)/\w3.cell? ⟨w.heap.size+1,3,R⟩=I (.string c.v):=by simp[AI,DN.out.b1]
 have eW:Hid (∀c'∈dD es,ib ks ps c'=true/\(c'.f.size<=1048576/\c'.v.size<=1048576)):=λc' h=>⟨xG mG c' h,Lp SB c' h⟩
 have du:Hid (∀wx:World,qN w wx (AD #[J ak ks.length ck,J ap ps.length cp,J ae es.length ce] 41) (AD #[.string c.f,.int .i64 c.what,.int .i64 c.num,.string c.v] 94) (AD #[J R 0 0,J R 0 0,J R 0 0] 41)->jU wx (.slice va (dD es).length vc) (dD es)->Calls prog 187 #[.agg #[J ak ks.length ck,J ap ps.length cp],J (I ⟨wx.heap.size,0,R⟩) 1 1] (wx.alloc (AD #[.slice va (dD es).length vc] 98)) λe w'=>∃x y z,e=AE (.agg #[x,y,z])/\dB w.heap.size w' x y z ks ps es/\qN w w' (AD #[J ak ks.length ck,J ap ps.length cp,J ae es.length ce] 41) (AD #[.string c.f,.int .i64 c.what,.int .i64 c.num,.string c.v] 94) (AD #[J R 0 0,J R 0 0,J R 0 0] 41)/\dB (w.heap.size+3) w' x y z ks ps es):=λwx hx hv=>by
  have hz:=hx.z;have an:Bw wx (wx.alloc (AD #[.slice va (dD es).length vc] 98)):=(aG)
  refine(e2.out mG.out _ _ [dD es] (aa hx.below an) (Qs (aS wx _) (hv.keep an)) (by simp) (by have:=Vl.out;simp;omega) (λL h=>by simp at h;subst h;exact Vl.out) (λL h=>by simp at h;subst h;exact eW.out)).mono ?_
  rintro e w'⟨x,y,z,rfl,hN,hb⟩;rw[QX mG.out] at hN;have hs:=an.size
  exact⟨x,y,z,rfl,hN.mono (by omega),(hx.call an).call hb,hN.mono (by omega)⟩
 cases eM:ib ks ps c
 .have HE:Hid (takeC ks ps es c=2/\fI ks ps es c=es):=by
   show _/\_
   unfold takeC fI;rw[mG.out,eM];exact⟨rfl,rfl⟩
  go_wp2_with fail;refine(du w3 DN et).mono ?_;rintro e w4⟨x,y,z,rfl,hN,dk,eo⟩;have eE:=dk.b2;have Pw:Hid (Bw w w4/\w.heap.size+2<w4.heap.size):=⟨dk.below,dk.z⟩;have ey:Hid _:=eo;obtain⟨a1,c1,a2,c2,a3,c3,rfl,rfl,rfl⟩:=hN.slices
  go_wp2_with (refine cS (w.heap.size+1+1) #[J a1 ks.length c1,J a2 ps.length c2,J a3 es.length c3] eE ?_)
  exact bv (.tuple #[.agg #[J a1 ks.length c1,J a2 ps.length c2,J a3 es.length c3],.int .i64 2]) ⟨_,_,_,by rw[HE.out.1],by rw[qX.out.1,qX.out.2,HE.out.2];exact(ey.far (aH w4 (w.heap.size+1+1) _) (by omega)).mono (by omega),bL Pw.1⟩ (by simp[results,results148,go_sem,bU eE])
 .have eV:Hid (ib ks ps c=true):=eM
  have QQ:Bw w3 (w3.alloc (AD #[.string c.f,.int .i64 c.what,.int .i64 c.num,.string c.v] 94)):=(aG);have Ii:Bw w3 ((w3.alloc (AD #[.string c.f,.int .i64 c.what,.int .i64 c.num,.string c.v] 94)).alloc (AD #[.slice va (dD es).length vc,J (I ⟨w3.heap.size,0,R⟩) 1 1] 98)):=QQ.alloc QQ.size _
  have ev:Hid (Calls prog 187 #[.agg #[J ak ks.length ck,J ap ps.length cp],J (I ⟨w3.heap.size+1,0,R⟩) 2 2] ((w3.alloc (AD #[.string c.f,.int .i64 c.what,.int .i64 c.num,.string c.v] 94)).alloc (AD #[.slice va (dD es).length vc,J (I ⟨w3.heap.size,0,R⟩) 1 1] 98)) λe w'=>∃x y z,e=AE (.agg #[x,y,z])/\dB (w.heap.size+3) w' x y z ks ps (fu es c.f (fD c))/\qN w w' (AD #[J ak ks.length ck,J ap ps.length cp,J ae es.length ce] 41) (AD #[.string c.f,.int .i64 c.what,.int .i64 c.num,.string c.v] 94) (AD #[J R 0 0,J R 0 0,J R 0 0] 41)/\jU w' (.slice va (dD es).length vc) (dD es)):=by
   have hz:=DN.out.z;have fz:=aS w3 (AD #[.string c.f,.int .i64 c.what,.int .i64 c.num,.string c.v] 94);have bP:=aS (w3.alloc (AD #[.string c.f,.int .i64 c.what,.int .i64 c.num,.string c.v] 94)) (AD #[.slice va (dD es).length vc,J (I ⟨w3.heap.size,0,R⟩) 1 1] 98);rw[BN] at bP
   have eh:=(AL (w3.alloc (AD #[.string c.f,.int .i64 c.what,.int .i64 c.num,.string c.v] 94)) (AD #[.slice va (dD es).length vc,J (I ⟨w3.heap.size,0,R⟩) 1 1] 98) w3.heap.size (by simp)).trans fz
   refine(e2.out mG.out _ _ [dD es,[c]] (aa DN.out.below Ii) (Qr bP (et.out.keep Ii) (Lr eh)) (by simp) (by have:=Vl.out;simp;omega) (λL h=>by simp at h;rcases h with rfl|rfl;exact Vl.out;simp) (λL h=>by simp at h;rcases h with rfl|rfl;exact eW.out;exact λc' h'=>by simp at h';subst h';exact⟨eV.out,hcf,hcv⟩)).mono ?_
   rintro e w'⟨x,y,z,rfl,hN,hb⟩;rw[Uw c mG.out] at hN;have hs:=Ii.size
   exact⟨x,y,z,rfl,hN.mono (by omega),(DN.call Ii).call hb,(et.keep Ii).keep hb⟩
  go_wp2_with fail;refine ev.mono ?_;rintro e w4⟨x,y,z,rfl,hN,dk,fL⟩;have Pw:Hid _:=dk;have fX:Hid (jU w4 (.slice va (dD es).length vc) (dD es)):=fL;have ey:Hid _:=hN;obtain⟨a1,c1,a2,c2,a3,c3,rfl,rfl,rfl⟩:=hN.slices
  have HC:Hid (takeC ks ps es c=(bif decide (12<(fu es c.f (fD c)).length) then 3 else 0)/\fI ks ps es c=(bif decide (12<(fu es c.f (fD c)).length) then es else fu es c.f (fD c))):=by
   show _/\_
   unfold takeC fI;rw[mG.out,eV.out];exact⟨rfl,rfl⟩
  obtain⟨y0,y1,y2⟩:w4.cell? ⟨w.heap.size,0,R⟩=I (J ak ks.length ck)/\w4.cell? ⟨w.heap.size,1,R⟩=I (J ap ps.length cp)/\w4.cell? ⟨w.heap.size,2,R⟩=I (J ae es.length ce):=by simp[AI,Pw.out.b0]
  have hz4:w.heap.size<w4.heap.size:=by have:=Pw.z;omega
  have an:Bw w4 (w4.alloc (AD #[J a1 ks.length c1,J a2 ps.length c2,.slice a3 (fu es c.f (fD c)).length c3] 41)):=(aG);have er:Hid _:=Pw.call an;have fW:Hid (jU (w4.alloc (AD #[J a1 ks.length c1,J a2 ps.length c2,.slice a3 (fu es c.f (fD c)).length c3] 41)) (.slice va (dD es).length vc) (dD es)):=fX.out.keep an;have ga:Hid _:=ey.keep an;have Aw:=er.out.b2
  by_cases eP:12<(fu es c.f (fD c)).length
  .have ep:(12:Int)<((fu es c.f (fD c)).length:Int):=by omega
   have HE:Hid (takeC ks ps es c=3/\fI ks ps es c=es):=by
    show _/\_
    rw[HC.out.1,HC.out.2];simp[eP]
   have c7:=du _ er fW;rw[BN] at c7;have ew:=RZ c7;go_wp2_with fail;refine ew.mono ?_;rintro e w6⟨x,y,z,rfl,hN,en,eo⟩;have eC:=en.b2;have fR:Hid (Bw w w6/\w.heap.size+2<w6.heap.size):=⟨en.below,en.z⟩;have fY:Hid _:=eo;obtain⟨a4,c4,a5,c5,a6,c6,rfl,rfl,rfl⟩:=hN.slices
   go_wp2_with (refine cS (w.heap.size+1+1) #[J a4 ks.length c4,J a5 ps.length c5,J a6 es.length c6] eC ?_)
   exact bv (.tuple #[.agg #[J a4 ks.length c4,J a5 ps.length c5,J a6 es.length c6],.int .i64 3]) ⟨_,_,_,by rw[HE.out.1],by rw[qX.out.1,qX.out.2,HE.out.2];exact(fY.far (aH w6 (w.heap.size+1+1) _) (by omega)).mono (by omega),bL fR.1⟩ (by simp[results,results148,go_sem,bU eC])
  .have ep:¬(12:Int)<((fu es c.f (fD c)).length:Int):=by omega
   have HE:Hid (takeC ks ps es c=0/\fI ks ps es c=fu es c.f (fD c)):=by
    show _/\_
    rw[HC.out.1,HC.out.2];simp[eP]
   generalize fu es c.f (fD c)=eR at *
   go_wp2_with (refine cS (w.heap.size+1+1) #[J a1 ks.length c1,J a2 ps.length c2,J a3 eR.length c3] Aw ?_)
   exact bv (.tuple #[.agg #[J a1 ks.length c1,J a2 ps.length c2,J a3 eR.length c3],.int .i64 0]) ⟨_,_,_,by rw[HE.out.1],by rw[qX.out.1,qX.out.2,HE.out.2];exact(ga.far (aH _ (w.heap.size+1+1) _) (by omega)).mono (by omega),bL er.below⟩ (by simp[results,results148,go_sem,bU Aw])
open Go.RowKit
theorem ag{P:Prop}(h:P):Hid P:=h
theorem Kk{w:World}{a:Addr}{v:Value}(h:w.cell? a=I v):a.block<w.heap.size:=by
 by_cases hb:a.block<w.heap.size
 .exact hb
 .exfalso
  have hn:w.heap[a.block]?=R:=by simp;omega
  simp[AI,hn] at h
theorem cF{W:World}{B base:Nat}{e:TypeId}(h:W.heap[B]?=I (AD #[] e (0,0)))(hb:base<=B)(size:Nat):W.ownsRow base e size (J (I ⟨B,0,R⟩) 0 0) 0 [] :=
 ⟨by simp,.inr ⟨B,0,#[],rfl,hb,h,AS _,BA _,by simp,by simp⟩⟩
theorem rM{α:Type}(f:α->List Value)(c:Nat)(hf:∀a,(f a).length=c):∀(l:List α) (i r:Nat),r<c->(l.flatMap f)[i*c+r]?=l[i]?.bind λa=>(f a)[r]?
 |[],i,r,hr=>by simp
 |a::l,0,r,hr=>by
  simp only[AF,Nat.zero_mul,AK]
  rw[List.getElem?_append_left (by rw[hf];exact hr)]
  rfl
 |a::l,i+1,r,hr=>by
  simp only[AF]
  have h1:(i+1)*c+r=c+(i*c+r):=by rw[Nat.succ_mul];omega
  rw[List.getElem?_append_right (by rw[hf,h1];omega),hf,h1,A4,rM f c hf l i r hr]
  rfl
theorem JB{α:Type}(f:α->List Value)(c:Nat)(hf:∀a,(f a).length=c)(l:List α):(l.flatMap f).length=l.length*c:=by
 induction l with
 |nil=>simp
 |cons a l ih=>rw[AF,AM,ih,hf,As,Nat.succ_mul];omega
theorem bW(b o j:Nat):(⟨b,o,R⟩:Addr).add j=⟨b,o+j,R⟩:=by unfold Addr.add;split<;>simp_all
theorem Sw{α:Type}{w:World}{a:Option Addr}{l:List α}(f:α->List Value)(c:Nat)(hc:0<c)(hf:∀x,(f x).length=c)(h:∀i t,l[i]?=I t->∃b off,a=I ⟨b,off,R⟩/\∀r v,(f t)[r]?=I v->w.cell? ⟨b,off+i*c+r,R⟩=I v) :
  l.length=0 \/ ∃ad,a=I ad/\∀j u,(l.flatMap f)[j]?=I u->w.cell? (ad.add j)=I u:=by
 cases l with
 |nil=>exact .inl rfl
 |cons t l =>
  obtain⟨b,off,rfl,_⟩:=h 0 t rfl;refine .inr ⟨_,rfl,λj u hu=>?_⟩
  have hj:j=(j / c)*c+j % c:=by rw[Nat.mul_comm];exact(Nat.div_add_mod j c).symm
  have hr:j % c<c:=Nat.mod_lt _ hc;rw[hj,rM f c hf _ _ _ hr] at hu
  cases hx:(t::l)[j / c]? with
  |none=>rw[hx] at hu;cases hu
  |some y =>
   rw[hx] at hu;obtain⟨b',e5,e,hh⟩:=h _ y hx
   cases e
   rw[bW];have:=hh _ u hu
   rw[show off+j=off+j / c*c+j % c by omega]
   exact this
theorem uO(t:dE):(gH t).length=3:=rfl
theorem qF(t:eT):(fQ t).length=3:=rfl
theorem oU{w:World}{a:Option Addr}{n c:Nat}{l:List dE}(h:dF w (J a n c) l):l.length=0 \/ ∃ad,a=I ad/\∀j u,(dw l)[j]?=I u->w.cell? (ad.add j)=I u:=by
 obtain⟨a',cap,e,_,_,h⟩:=h
 cases e
 refine Sw gH 3 (by omega) uO (λi t ht=>?_)
 obtain⟨b,off,e,h0,h1,h2⟩:=h i t ht;refine⟨b,off,e,λr v hv=>?_⟩
 match r,hv with
 |0,hv=>cases hv;exact h0
 |1,hv=>cases hv;exact h1
 |2,hv=>cases hv;exact h2
 |r+3,hv=>simp[gH] at hv
theorem Ux{w:World}{a:Option Addr}{n c:Nat}{l:List eT}(h:iY w (J a n c) l):l.length=0 \/ ∃ad,a=I ad/\∀j u,(dN l)[j]?=I u->w.cell? (ad.add j)=I u:=by
 obtain⟨a',cap,e,_,_,h⟩:=h
 cases e
 refine Sw fQ 3 (by omega) qF (λi t ht=>?_)
 obtain⟨b,off,e,h0,h1,h2⟩:=h i t ht;refine⟨b,off,e,λr v hv=>?_⟩
 match r,hv with
 |0,hv=>cases hv;exact h0
 |1,hv=>cases hv;exact h1
 |2,hv=>cases hv;exact h2
 |r+3,hv=>simp[fQ] at hv
theorem bz{w w':World}{a:Option Addr}{n:Nat}{xs:List Value}(h:n=0 \/ ∃ad,a=I ad/\∀j u,xs[j]?=I u->w.cell? (ad.add j)=I u)(hb:Bw w w'):n=0 \/ ∃ad,a=I ad/\∀j u,xs[j]?=I u->w'.cell? (ad.add j)=I u:=by
 rcases h with h|⟨ad,h1,h2⟩
 .exact .inl h
 .refine .inr ⟨ad,h1,λj u hu=>?_⟩
  have hc:=h2 j u hu;exact(hb.cell (Kk hc)).trans hc
theorem ch{l:List dE}:∀u∈dw l,u.oneCell'=true:=λu hu=>by
 obtain⟨t,_,ht⟩:=List.mem_flatMap.1 hu
 simp only[gH,AG,A3,or_false] at ht
 rcases ht with rfl|rfl|rfl<;>rfl
theorem wY{l:List eT}:∀u∈dN l,u.oneCell'=true:=λu hu=>by
 obtain⟨t,_,ht⟩:=List.mem_flatMap.1 hu
 simp only[fQ,AG,A3,or_false] at ht
 rcases ht with rfl|rfl|rfl<;>rfl
theorem aI(l:List dE):(dw l).length=l.length*3:=JB gH 3 uO l
theorem db(l:List eT):(dN l).length=l.length*3:=JB fQ 3 qF l
theorem dV.pushF{w3 w5:World}{B:Nat}{o o' fv:Value}{l:List iZ}{e:eF}{ob:Obj}(h:dV w3 B o l)(hf:w3.ownsRow B 107 3 fv e.fs.length (dN e.fs))(hnew:∀k,fv.ownBlock=I k->∀p∈l,p.2.ownBlock≠I k)(ab:w5.ownsRow B 105 2 o' (l.length+1) (dS l++[.string e.name,fv]))(hg:(w3.alloc ob).grownBy w5 o.ownBlock):dV w5 B o' (l++[(e,fv)]):=by
 have bP:Bw w3 (w3.alloc ob):=(BD _ _).alloc aE ob;refine⟨?_,λp hp=>?_,?_⟩
 .rw [cT,AM];exact ab
 .rcases List.mem_append.1 hp with hp|hp
  .exact aj (aq (h.jT p hp) bP) hg (dX h.row (h.jT p hp) (by decide))
  .simp at hp;subst hp
   exact aj (aq hf bP) hg (dX h.row hf (by decide))
 .rw [BC]
  exact⟨h.apart,by simp,λp hp q hq k hk=>by simp at hq;subst hq;exact λbn=>hnew k bn p hp hk⟩
theorem dB.box{lo X:Nat}{w w':World}{C:Array Value}{x y z:Value}{ks ps:List dE}{es:List eF}(h:dB lo w x y z ks ps es)(hX:w.heap[X]?=I (AD C 41 (0,0)))(hg:w.grownBy w' (I X)):dB lo w' x y z ks ps es:=by
 obtain⟨h1,h2,l,h3,h4⟩:=h
 refine⟨aj h1 hg (λk hk e=>aQ h1 hX (by decide) (by rw[<-e];exact hk.symm)),aj h2 hg (λk hk e=>aQ h2 hX (by decide) (by rw[<-e];exact hk.symm)),l,h3,?_,λp hp=>?_,h4.apart⟩
 .exact aj h4.row hg (λk hk e=>aQ h4.row hX (by decide) (by rw[<-e];exact hk.symm))
 .exact aj (h4.jT p hp) hg (λk hk e=>aQ (h4.jT p hp) hX (by decide) (by rw[<-e];exact hk.symm))
theorem Ej{W W':World}{base:Nat}{e:TypeId}{size:Nat}{v:Value}{n:Nat}{xs:List Value}(h:W.ownsRow base e size v n xs)(hs:∀k,v.ownBlock=I k->k<W.heap.size->W'.heap[k]?=W.heap[k]?):W'.ownsRow base e size v n xs:=by
 refine⟨h.1,?_⟩
 rcases h.2 with h2|⟨g,cap,cur,hv,hb,hc,rest⟩
 .exact .inl h2
 .exact .inr ⟨g,cap,cur,hv,hb,(hs g (by rw[hv];rfl) (Array.getElem?_eq_some_iff.1 hc).1).trans hc,rest⟩
open Go.RowKit
theorem wZ(g:eT)(l:List eT)(i:Nat):eQ (g::l) (i+1)=eQ l i:=by simp[eQ]
theorem JG:∀(fs:List eT) (f:eT) (j:Nat),j<fs.length->(∀i,i<j->(eQ fs i).what<f.what)->(eQ fs j).what=f.what->iR fs f=bif Hy f (eQ fs j) then fs.set j f else fs
 |[],f,j,hj,_,_=>by simp at hj
 |g::l,f,0,hj,hl,he=>by
  have e0:eQ (g::l) 0=g:=rfl;rw[e0] at he ⊢
  rw[iR,if_neg (by omega),if_pos he]
  cases Hy f g<;>rfl
 |g::l,f,j+1,hj,hl,he=>by
  have h0:=hl 0 (by omega)
  have e0:eQ (g::l) 0=g:=rfl;rw[e0] at h0;rw[wZ] at he ⊢
  rw[iR,if_pos h0,JG l f j (by simpa using hj) (λi hi=>by have:=hl (i+1) (by omega);rwa[wZ] at this) he]
  cases Hy f (eQ l j)<;>rfl
theorem G6:∀(fs:List eT) (f:eT) (j:Nat),j<=fs.length->(∀i,i<j->(eQ fs i).what<f.what)->(j<fs.length->f.what<(eQ fs j).what)->iR fs f=fs.take j++f::fs.drop j
 |[],f,j,hj,_,_=>by
  have:j=0:=by simpa using hj
  subst this;rfl
 |g::l,f,0,hj,hl,he=>by
  have h0:=he (by simp)
  have e0:eQ (g::l) 0=g:=rfl;rw[e0] at h0
  rw[iR,if_neg (by omega),if_neg (by omega)]
  rfl
 |g::l,f,j+1,hj,hl,he=>by
  have h0:=hl 0 (by omega)
  have e0:eQ (g::l) 0=g:=rfl;rw[e0] at h0
  rw[iR,if_pos h0,G6 l f j (by simpa using hj) (λi hi=>by have:=hl (i+1) (by omega);rwa[wZ] at this) (λau=>by have:=he (by simpa using au);rwa[wZ] at this)]
  rfl
theorem Ta(fs:List eT)(f:eT):(iR fs f).length<=fs.length+1:=by
 induction fs with
 |nil=>simp[iR]
 |cons g l ih =>
  rw[iR]
  split
  .simp;omega
  .split
   .split<;>simp
   .simp
theorem sI(a b:List eT):dN (a++b)=dN a++dN b:=by simp[dN]
theorem qE(a:eT)(b:List eT):dN (a::b)=fQ a++dN b:=by simp[dN]
theorem zO:∀(fs:List eT) (f:eT) (j:Nat),j<fs.length->dN (fs.set j f)=(((dN fs).set (j*3) (.int .i64 f.what)).set (j*3+1) (.int .i64 f.num)).set (j*3+2) (.string f.v)
 |[],f,j,hj=>by simp at hj
 |g::l,f,0,hj=>by simp[dN,fQ]
 |g::l,f,j+1,hj=>by
  rw[BF,qE,qE,zO l f j (by simpa using hj)]
  have h3:(j+1)*3=3+j*3:=by omega
  have h4:∀(x:List Value) (p:Nat) (v:Value),(fQ g++x).set (3+p) v=fQ g++x.set p v:=λx p v=>by
   rw[BB _ _ (by simp[fQ])]
   simp[fQ]
  rw[h3,h4,Nat.add_assoc,h4,Nat.add_assoc,h4]
theorem wI{w:World}{B:Nat}{e:TypeId}{size g n cap m:Nat}{xs:List Value}(h:w.ownsRow B e size (J (I ⟨g,0,R⟩) n cap) m xs)(p:Nat)(v:Value):(w.setCell ⟨g,p,R⟩ v).ownsRow B e size (J (I ⟨g,0,R⟩) n cap) m (xs.set p v):=by
 obtain⟨h1,h2⟩:=h
 rcases h2 with⟨h2,_⟩|⟨g',ax,cur,hv,hB,hb,hn,hc,hs,ht⟩
 .cases h2
 .cases hv
  refine⟨by simpa using h1,.inr ⟨g,cap,cur.setIfInBounds p v,rfl,hB,?_,hn,hc,by simpa using hs,?_⟩⟩
  .rw [setCell_eq_setRow _ _ _ _ _ _ _ hb];exact oN hb
  .rw [Array.toList_setIfInBounds,List.take_set,ht]
theorem qA{w w1 w2:World}{r:Option Nat}(h:w.grownBy w1 r)(k:w1.grownBy w2 r):w.grownBy w2 r :=
 ⟨k.1.trans h.1,k.2.trans h.2,k.3.trans h.3,A5 h.4 k.4,λj hj hr=>(k.5 j (Nat.lt_of_lt_of_le hj h.4) hr).trans (h.5 j hj hr)⟩
theorem qC{w w':World}(h:Bw w w')(r:Option Nat):w.grownBy w' r:=⟨h.1,h.2,h.3,h.4,λk hk _=>h.5 k hk⟩
theorem Tm{w:World}{lo g n cap:Nat}{fs:List eT}{j:Nat}(f:eT)(h:w.ownsRow lo 107 3 (J (I ⟨g,0,R⟩) n cap) fs.length (dN fs))(hj:j<fs.length) :
  (w.setCells g (j*3) (fQ f)).ownsRow lo 107 3 (J (I ⟨g,0,R⟩) n cap) (fs.set j f).length (dN (fs.set j f))/\w.grownBy (w.setCells g (j*3) (fQ f)) (I g):=by
 have e:w.setCells g (j*3) (fQ f)=((w.setCell ⟨g,j*3,R⟩ (.int .i64 f.what)).setCell ⟨g,j*3+1,R⟩ (.int .i64 f.num)).setCell ⟨g,j*3+2,R⟩ (.string f.v):=rfl;rw[e];refine⟨?_,qA (qA (bD _ _ _ _) (bD _ _ _ _)) (bD _ _ _ _)⟩;rw[zO fs f j hj,A0];exact wI (wI (wI h _ _) _ _) _ _
theorem qj{w:World}{lo:Nat}{v:Value}{fs:List eT}{j:Nat}(h:w.ownsRow lo 107 3 v fs.length (dN fs))(hj:j<fs.length) :
  ∃g cap,v=J (I ⟨g,0,R⟩) fs.length cap/\lo<=g/\g<w.heap.size/\fs.length<=cap/\cap<=maxLen/\w.cell? ⟨g,j*3,R⟩=I (.int .i64 (eQ fs j).what)/\w.cell? ⟨g,j*3+1,R⟩=I (.int .i64 (eQ fs j).num)/\w.cell? ⟨g,j*3+2,R⟩=I (.string (eQ fs j).v)/\w.there g (j*3) 3:=by
 obtain⟨h1,h2⟩:=h
 rcases h2 with⟨_,h2⟩|⟨g,cap,cur,rfl,hB,hb,hn,hc,hs,ht⟩
 .omega
 .have hx:∀r,r<3->cur.toList[j*3+r]?=(fQ (eQ fs j))[r]?:=λr hr=>by
   have e1:(cur.toList.take (fs.length*3))[j*3+r]?=cur.toList[j*3+r]?:=by rw[List.getElem?_take,if_pos (by omega)]
   rw[<-e1,ht];unfold dN;rw[rM fQ 3 qF fs j r hr,bK hj]
   rfl
  have x0:=hx 0 (by omega)
  have x1:=hx 1 (by omega)
  have x2:=hx 2 (by omega)
  simp only[Nat.add_zero] at x0
  refine⟨g,cap,rfl,hB,(Array.getElem?_eq_some_iff.1 hb).1,hn,hc,?_,?_,?_,λq hq=>?_⟩
  .simp only [AI,hb,Aj,An,if_false];simpa[fQ] using x0
  .simp only [AI,hb,Aj,An,if_false];simpa[fQ] using x1
  .simp only [AI,hb,Aj,An,if_false];simpa[fQ] using x2
  .have fh:j*3+q<cur.size:=by rw[hs];omega
   simp[AI,World.frozen?,hb,fh]
open Go.RowKit
theorem BV{α:Type}{w:World}{B:Nat}{e:TypeId}{c:Nat}{v:Value}{l:List α}(f:α->List Value)(hf:∀x,(f x).length=c)(h:w.ownsRow B e c v l.length (l.flatMap f)) :
  ∃a cap,v=J a l.length cap/\l.length<=cap/\cap<=maxLen/\∀i t,l[i]?=I t->∃g,a=I ⟨g,0,R⟩/\∀r u,(f t)[r]?=I u->w.cell? ⟨g,i*c+r,R⟩=I u:=by
 obtain⟨h1,h2⟩:=h
 rcases h2 with⟨rfl,h0⟩|⟨g,cap,cur,rfl,hB,hb,hn,hc,hs,ht⟩
 .refine ⟨R,0,by rw[h0],by omega,BA _,λi t hi=>?_⟩
  have:=(List.getElem?_eq_some_iff.1 hi).1
  omega
 .refine ⟨_,cap,rfl,hn,hc,λi t hi=>⟨g,rfl,λr u hu=>?_⟩⟩
  have fk:=(List.getElem?_eq_some_iff.1 hi).1
  have hr:r<c:=by have:=(List.getElem?_eq_some_iff.1 hu).1;rw[hf] at this;exact this
  have hx:cur.toList[i*c+r]?=I u:=by
   have au:i*c+r<l.length*c:=PW fk hr
   have e1:(cur.toList.take (l.length*c))[i*c+r]?=cur.toList[i*c+r]?:=by rw[List.getElem?_take,if_pos au]
   rw[<-e1,ht,rM f c hf l i r hr,hi];exact hu
  simp only[AI,hb,Aj,An,if_false]
  simpa using hx
theorem oV{w:World}{B:Nat}{e:TypeId}{v:Value}{l:List dE}(h:w.ownsRow B e 3 v l.length (dw l)):dF w v l:=by
 obtain⟨a,cap,h1,h2,h3,h4⟩:=BV gH uO h;refine⟨a,cap,h1,h2,h3,λi t ht=>?_⟩;obtain⟨g,ha,hc⟩:=h4 i t ht
 exact⟨g,0,ha,by simpa using hc 0 _ rfl,by simpa using hc 1 _ rfl,by simpa using hc 2 _ rfl⟩
theorem Uy{w:World}{B:Nat}{e:TypeId}{v:Value}{l:List eT}(h:w.ownsRow B e 3 v l.length (dN l)):iY w v l:=by
 obtain⟨a,cap,h1,h2,h3,h4⟩:=BV fQ qF h;refine⟨a,cap,h1,h2,h3,λi t ht=>?_⟩;obtain⟨g,ha,hc⟩:=h4 i t ht
 exact⟨g,0,ha,by simpa using hc 0 _ rfl,by simpa using hc 1 _ rfl,by simpa using hc 2 _ rfl⟩
theorem zB(p:iZ):(jI p).length=2:=rfl
theorem Ld{w:World}{B:Nat}{o:Value}{es:List eF}(h:xM w B o es):kM w o es:=by
 obtain⟨l,rfl,h⟩:=h;obtain⟨a,cap,h1,h2,h3,h4⟩:=BV jI zB h.row
 refine⟨a,cap,by rw[A6];exact h1,by rw[A6];exact h2,h3,λi t ht=>?_⟩
 rw[List.getElem?_map] at ht
 cases hp:l[i]? with
 |none=>rw[hp] at ht;cases ht
 |some p =>
  rw[hp] at ht
  cases ht
  obtain⟨g,ha,hc⟩:=h4 i p hp
  exact⟨g,0,ha,p.2,by simpa using hc 0 _ rfl,by simpa using hc 1 _ rfl,Uy (h.jT p (AJ hp))⟩
theorem dB.at{lo:Nat}{w:World}{x y z:Value}{ks ps:List dE}{es:List eF}(h:dB lo w x y z ks ps es):dW w x y z ks ps es:=⟨oV h.k,oV h.p,Ld h.e⟩
theorem C8(g:eF)(l:List eF)(i:Nat):eO (g::l) (i+1)=eO l i:=by simp[eO]
theorem JI:∀(es:List eF) (n:ByteArray) (f:eT) (k:Nat),(es.Pairwise λa b=>jW a.name b.name=true)->k<es.length->(eO es k).name=n->fu es n f=es.set k ⟨(eO es k).name,iR (eO es k).fs f⟩
 |[],n,f,k,_,hk,_=>by simp at hk
 |e::es,n,f,0,_,_,hn=>by
  have e0:eO (e::es) 0=e:=rfl;rw[e0] at hn ⊢;rw[fu,if_pos hn]
  rfl
 |e::es,n,f,k+1,h,hk,hn=>by
  have h':=List.pairwise_cons.1 h;rw[C8] at hn ⊢
  have bn:k<es.length:=by simpa using hk
  have au:jW e.name n=true:=by
   rw[<-hn];exact h'.1 _ (AJ (bo bn))
  have ai:¬e.name=n:=λh=>by rw[h] at au;exact absurd au (by rw[cd];simp)
  rw[fu,if_neg ai,if_pos au,JI es n f k h'.2 bn hn]
  rfl
theorem G7:∀(es:List eF) (n:ByteArray) (f:eT) (j:Nat),j<=es.length->(∀e∈es,¬e.name=n)->(∀i,i<j->jW (eO es i).name n=true)->(j<es.length->jW (eO es j).name n=false)->fu es n f=es.take j++⟨n,[f]⟩::es.drop j
 |[],n,f,j,hj,_,_,_=>by
  have:j=0:=by simpa using hj
  subst this;rfl
 |e::es,n,f,0,hj,ai,hl,he=>by
  have h0:=he (by simp)
  have e0:eO (e::es) 0=e:=rfl;rw[e0] at h0
  rw[fu,if_neg (ai e (by simp)),if_neg (by rw[h0];simp)]
  rfl
 |e::es,n,f,j+1,hj,ai,hl,he=>by
  have h0:=hl 0 (by omega)
  have e0:eO (e::es) 0=e:=rfl;rw[e0] at h0
  rw[fu,if_neg (ai e (by simp)),if_pos h0,G7 es n f j (by simpa using hj) (λx hx=>ai x (by simp[hx])) (λi hi=>by have:=hl (i+1) (by omega);rwa[C8] at this) (λau=>by have:=he (by simpa using au);rwa[C8] at this)]
  rfl
theorem wH:∀(l:List iZ) (k:Nat) (p:iZ) (e:eF) (v:Value),l[k]?=I p->e.name=p.1.name->dS (l.set k (e,v))=(dS l).set (k*2+1) v
 |[],k,p,e,v,hk,_=>by simp at hk
 |a::l,0,p,e,v,hk,hn=>by
  have:a=p:=by simpa using hk
  subst this
  simp[dS,jI,hn]
 |a::l,k+1,p,e,v,hk,hn=>by
  have ih:=wH l k p e v (by simpa using hk) hn
  have c:∀(x:iZ) (m:List iZ),dS (x::m)=jI x++dS m:=λx m=>by simp[dS]
  rw[BF,c,c,ih,show(k+1)*2+1=2+(k*2+1) by omega,BB _ _ (by simp[jI])]
  simp[jI]
theorem dV.turn{w w1:World}{B g n cap k:Nat}{l:List iZ}{e:eF}{fv v:Value}{fs:List eT}(h:dV w B (J (I ⟨g,0,R⟩) n cap) l)(hk:l[k]?=I (e,fv))(ab:w1.ownsRow B 107 3 v fs.length (dN fs))(hg:w.grownBy w1 fv.ownBlock)(ct:∀j,v.ownBlock=I j->fv.ownBlock=I j\/w.heap.size<=j) :
  dV (w1.setCell ⟨g,k*2+1,R⟩ v) B (J (I ⟨g,0,R⟩) n cap) (l.set k (⟨e.name,fs⟩,v)):=by
 have hkl:=(List.getElem?_eq_some_iff.1 hk).1;have ft:=h.jT (e,fv) (AJ hk)
 have Uf:w1.ownsRow B 105 2 (J (I ⟨g,0,R⟩) n cap) l.length (dS l):=aj h.row hg (dX ft h.row (by decide))
 have gs:=bD w1 g (k*2+1) v;have ea:=List.pairwise_iff_getElem.1 h.apart
 have Uh:∀(i:Nat) (q:iZ),i≠k->l[i]?=I q->∀b,q.2.ownBlock=I b->fv.ownBlock≠I b:=λi q ec hq b hb ay=>by
  obtain⟨hi,rfl⟩:=List.getElem?_eq_some_iff.1 hq;obtain⟨bn,eK⟩:=List.getElem?_eq_some_iff.1 hk
  rcases Nat.lt_or_gt_of_ne ec with au|fp
  .exact ea i k hi bn au b hb (by rw[eK];exact ay)
  .exact ea k i bn hi fp b (by rw[eK];exact ay) hb
 have hold:∀(i:Nat) (q:iZ),i≠k->l[i]?=I q->w1.ownsRow B 107 3 q.2 q.1.fs.length (dN q.1.fs):=λi q ec hq=>aj (h.jT q (AJ hq)) hg (λb hb e=>Uh i q ec hq b hb e.symm);refine⟨?_,λp hp=>?_,?_⟩
 .rw [wH l k (e,fv) ⟨e.name,fs⟩ v hk rfl,A0]
  exact wI Uf _ _
 .obtain ⟨i,hi,rfl⟩:=A1 hp
  rw[A0] at hi
  by_cases e0:i=k
  .subst e0
   rw[At]
   exact aj ab gs (dX Uf ab (by decide))
  .have hq:l[i]?=I l[i]:=List.getElem?_eq_getElem hi
   rw[AO (Ne.symm e0)];have h1:=hold i _ e0 hq
   exact aj h1 gs (dX Uf h1 (by decide))
 .rw [List.pairwise_iff_getElem]
  intro i j fo eL fm b hb ay
  have hi:i<l.length:=by simpa using fo
  have hj:j<l.length:=by simpa using eL
  by_cases ei:i=k
  .have ej:j≠k:=by omega
   subst ei;rw[At] at hb;rw[AO (Ne.symm ej)] at ay;have hq:l[j]?=I l[j]:=List.getElem?_eq_getElem hj
   rcases ct b hb with h1|h1
   .exact Uh j _ ej hq b ay h1
   .have:=cV (h.jT _ (AJ hq)) b ay;omega
  .rw [AO (Ne.symm ei)] at hb
   have hq:l[i]?=I l[i]:=List.getElem?_eq_getElem hi
   by_cases ej:j=k
   .subst ej
    rw[At] at ay
    rcases ct b ay with h1|h1
    .exact Uh i _ ei hq b hb h1
    .have:=cV (h.jT _ (AJ hq)) b hb;omega
   .rw [AO (Ne.symm ej)] at ay
    exact ea i j hi hj fm b hb ay
theorem dV.ins{w w1:World}{B j:Nat}{o o' fv:Value}{l:List iZ}{e:eF}(h:dV w B o l)(hb:Bw w w1)(hf:w1.ownsRow B 107 3 fv e.fs.length (dN e.fs))(hnew:∀q,fv.ownBlock=I q->w.heap.size<=q)(ab:w1.ownsRow B 105 2 o' (l.take j++(e,fv)::l.drop j).length (dS (l.take j++(e,fv)::l.drop j))) :
  dV w1 B o' (l.take j++(e,fv)::l.drop j):=by
 have ba:∀p,p∈l.take j\/p∈l.drop j->p∈l:=λp hp=>by
  rcases hp with hp|hp
  .exact List.mem_of_mem_take hp
  .exact List.mem_of_mem_drop hp
 have c9:∀p∈l,∀q,p.2.ownBlock=I q->fv.ownBlock≠I q:=λp hp q h1 h2=>by
  have:=cV (h.jT p hp) q h1;have:=hnew q h2
  omega
 have fg:(l.take j++l.drop j).Pairwise λp q=>∀k,p.2.ownBlock=I k->q.2.ownBlock≠I k:=by rw[Ax];exact h.apart
 have ca:=List.pairwise_append.1 fg;refine⟨ab,λp hp=>?_,?_⟩
 .rw [List.mem_append,AG] at hp
  rcases hp with hp|rfl|hp
  .exact aq (h.jT p (ba p (.inl hp))) hb
  .exact hf
  .exact aq (h.jT p (ba p (.inr hp))) hb
 .rw [BC,List.pairwise_cons]
  refine⟨ca.1,⟨λq hq k hk bn=>c9 q (ba q (.inr hq)) k bn hk,ca.2.1⟩,λp hp q hq=>?_⟩
  rcases List.mem_cons.1 hq with rfl|hq
  .exact λk hk=>c9 p (ba p (.inl hp)) k hk
  .exact ca.2.2 p hp q hq
theorem qh(a b:List iZ):dS (a++b)=dS a++dS b:=by simp[dS]
theorem Ei(a:iZ)(b:List iZ):dS (a::b)=jI a++dS b:=by simp[dS]
theorem Po{l:List iZ}{k:Nat}(hk:k<l.length):∃fv,l[k]?=I (eO (l.map (·.1)) k,fv):=by
 refine⟨l[k].2,?_⟩;rw[List.getElem?_eq_getElem hk]
 simp[eO,hk]
open Go.RowKit
structure NX (V:World) (e:TypeId) (c:Nat) (C:Array Value) (va:Value) (n:Nat) (xs:List Value) (ob:Option Nat) (W:World):Prop where
 b:Bw V W
 o:W.ownsRow V.heap.size e c va n xs
 v:∀q,ob=I q->W.heap[q]?=I (AD C e (0,0))/\∀k,va.ownBlock=I k->k≠q
section
variable {V W W':World} {e:TypeId} {c n m:Nat} {C:Array Value} {va v':Value} {xs ys:List Value} {ob:Option Nat}
theorem NX.start(V:World)(e:TypeId)(c:Nat)(C:Array Value):NX V e c C (J R 0 0) 0 [] R V:=⟨BD _ _,⟨by simp,.inl ⟨rfl,rfl⟩⟩,λq h=>by cases h⟩
theorem NX.Ch(h:NX V e c C va n xs ob W):NX V e c C (J (I ⟨W.heap.size,0,R⟩) 0 0) 0 [] ob (W.alloc (AD #[] e)) :=
 ⟨h.b.alloc h.b.size _,cF (aS W _) h.b.size c,λq hq=>⟨(AL W _ q (Array.getElem?_eq_some_iff.1 (h.v q hq).1).1).trans (h.v q hq).1,λk hk=>by
  have h1:=(Array.getElem?_eq_some_iff.1 (h.v q hq).1).1;have h2:W.heap.size=k:=Option.some.inj hk
  omega⟩⟩
theorem NX.uu(h:NX V e c C va n xs R W):NX V e c C va n xs (I W.heap.size) (W.alloc (AD C e)) :=
 ⟨h.b.alloc h.b.size _,aq h.o (aG),λq hq=>by
  obtain rfl:=Option.some.inj hq
  exact⟨aS W _,λk hk=>Nat.ne_of_lt (cV h.o k hk)⟩⟩
theorem NX.app(h:NX V e c C va n xs ob W)(h1:W'.ownsRow V.heap.size e c v' m ys)(h2:W.grownBy W' va.ownBlock)(h3:v'.ownBlock=va.ownBlock\/v'.ownBlock=I W.heap.size):NX V e c C v' m ys ob W' :=
 ⟨h.b.grown h2 h.b.size (λq e=>dY h.o q e),h1,λq hq=>by
  obtain⟨k1,k2⟩:=h.v q hq;have hl:=(Array.getElem?_eq_some_iff.1 k1).1;refine⟨(h2.block q hl (λe=>k2 q e.symm rfl)).trans k1,λk hk=>?_⟩
  rcases h3 with h3|h3
  .exact k2 k (h3▸hk)
  .have:=Option.some.inj (h3.symm.trans hk)
   omega⟩
structure TyI (t e:TypeId) (c by':Nat):Prop where
 u:prog.underlying t=I (.slice e)
 i:∃i z,prog.info? e=I i/\i.zero=I z/\i.size=c/\i.bytes=by'/\z.cells.size=c
 c:0<c
 b:by'<=64
theorem NX.step{ops:Array Oper}{o:Oper}{a:Act}{K:Act->World->Prop}{Q:Exit->Act->World->Prop}{E:Prop}{t:TypeId}{by':Nat}(h:NX V e c C va n xs ob W)(T:TyI t e c by')(s x:Operand)(ho:o.op=.call { callee:=.builtin .append,args:=#[s,x],argTypes:=#[t,t] })(hs:a.eval s=va)(ao:Option Addr)(m cc:Nat)(ys:List Value)(hx:a.eval x=J ao m cc)(hsrc:m=0 \/ ∃ad,ao=I ad/\∀j u,ys[j]?=I u->W.cell? (ad.add j)=I u)(hl:ys.length=m*c)(h1:∀u∈ys,u.oneCell'=true)(hn:n+m<=2097153)(k:∀v' W',NX V e c C v' (n+m) (xs++ys) ob W'->K (a.put o.dst v') W')(hgd:o.guard=R:=by rfl):if Region.wanted o (yielded ops a.tmps)=true then Oper.wp prog o a W K Q else E:=by
 obtain⟨i,z,k1,k2,k3,k4,k5⟩:=T.i
 have hb:(n+m)*by'<=(n+m)*64:=Nat.mul_le_mul_left _ T.b
 exact bt W hgd s x t ho V.heap.size e i z c by' T.u k1 k2 k3 k4 k5 T.c va n xs hs h.o ao m cc ys hx hsrc hl h1 (by unfold maxLen;omega) (by omega) h.b.size (λv' W' q1 q2 q3=>k v' W' (h.app q1 q2 q3))
theorem NX.src{b:Nat}(h:NX V e c C va n xs (I b) W):1=0 \/ ∃ad,(I ⟨b,0,R⟩:Option Addr)=I ad/\∀j u,C.toList[j]?=I u->W.cell? (ad.add j)=I u :=
 .inr ⟨_,rfl,World.news_of_block (h.v b rfl).1⟩
end
theorem Ar{w:World}{B:Nat}{e:TypeId}{c m n cap:Nat}{a:Option Addr}{xs:List Value}(h:w.ownsRow B e c (J a m cap) n xs):n<=cap/\cap<=maxLen:=by
 rcases h.2 with⟨hv,h0⟩|⟨g,ax,cur,hv,_,_,h1,h2,_⟩
 .injection hv with _ _ h3
  rw[h0,h3];exact⟨AS _,BA _⟩
 .injection hv with _ _ h3
  rw[h3];exact⟨h1,h2⟩
theorem TyI.of{t e:TypeId}{c by':Nat}{z:Value}(u:prog.underlying t=I (.slice e))(h:(prog.info? e).map (λi=>(i.zero,i.size,i.bytes))=I (I z,c,by'))(hz:z.cells.size=c)(hc:0<c)(hb:by'<=64):TyI t e c by':=by
 obtain⟨i,h1,h2,h3,h4⟩:=info_parts h;exact⟨u,⟨i,z,h1,h2,h3,h4,hz⟩,hc,hb⟩
theorem tyK:TyI 35 79 3 32:=.of underlying35 lL rfl (by decide) (by decide)
theorem tyP:TyI 36 101 3 32:=.of underlying36 cW rfl (by decide) (by decide)
theorem tyE:TyI 39 105 2 40:=.of underlying39 Av rfl (by decide) (by decide)
theorem tyF:TyI 103 107 3 32:=.of underlying103 Au rfl (by decide) (by decide)
end Go.Proofs.YtolokangldmodaaGreatDoor
namespace Go.Proofs.YtolokangldmodaaGreatDoor
open Go.RowKit
attribute [local go_sem] Later.cell Later.frozen
theorem bM{w:World}{b:Nat}{x y z:Value}{T:TypeId}(h:w.heap[b]?=I (AD #[x,y,z] T (0,0))):w.cell? ⟨b,0,R⟩=I x/\w.cell? ⟨b,1,R⟩=I y/\w.cell? ⟨b,2,R⟩=I z:=by simp[AI,h]
theorem OO{w:World}{lo g n cap:Nat}{fs:List eT}(h:w.ownsRow lo 107 3 (J (I ⟨g,0,R⟩) n cap) fs.length (dN fs)):∀q u,(dN fs)[q]?=I u->w.cell? ⟨g,q,R⟩=I u:=λq u hu=>by
 have:=h.cells (g:=g) rfl q u hu;rw[bW,AK] at this;exact this
theorem Sv{w:World}{g:Nat}{fs:List eT}(j:Nat)(h:∀q u,(dN fs)[q]?=I u->w.cell? ⟨g,q,R⟩=I u):∀q u,(dN (fs.take j))[q]?=I u->w.cell? ((⟨g,0,R⟩:Addr).add q)=I u:=λq u hu=>by
 rw[bW,AK];refine h q u ?_
 have e:dN fs=dN (fs.take j)++dN (fs.drop j):=by rw[<-sI,Ax]
 rw[e,List.getElem?_append_left (List.getElem?_eq_some_iff.1 hu).1];exact hu
theorem Sy{w:World}{g:Nat}{fs:List eT}{j:Nat}(hj:j<=fs.length)(h:∀q u,(dN fs)[q]?=I u->w.cell? ⟨g,q,R⟩=I u):∀q u,(dN (fs.drop j))[q]?=I u->w.cell? ((⟨g,j*3,R⟩:Addr).add q)=I u:=λq u hu=>by
 rw[bW];refine h _ u ?_
 have e:dN fs=dN (fs.take j)++dN (fs.drop j):=by rw[<-sI,Ax]
 have hl:(dN (fs.take j)).length=j*3:=by rw[db,AN,AT hj]
 rw[e,List.getElem?_append_right (by rw[hl];omega),hl,A4]
 exact hu
theorem yN{w:World}{lo j lc:Nat}{la:Option Addr}{fs:List eT}(h:w.ownsRow lo 107 3 (J la fs.length lc) fs.length (dN fs))(hj:j<=fs.length):j=0 \/ ∃ad,la=I ad/\∀q u,(dN (fs.take j))[q]?=I u->w.cell? (ad.add q)=I u:=by
 by_cases h0:j=0
 .exact .inl h0
 .obtain ⟨g,cap,hv,-,-⟩:=h.form (by omega)
  cases hv
  exact .inr ⟨_,rfl,Sv j (OO h)⟩
theorem QU{w:World}{lo j lc:Nat}{la:Option Addr}{fs:List eT}(h:w.ownsRow lo 107 3 (J la fs.length lc) fs.length (dN fs))(hj:j<=fs.length):fs.length-j=0 \/ ∃ad,(if lc=j then la else Option.map (λx=>x.add (j*3)) la)=I ad/\∀q u,(dN (fs.drop j))[q]?=I u->w.cell? (ad.add q)=I u:=by
 by_cases h0:fs.length-j=0
 .exact .inl h0
 .have hc:=(Ar h).1
  obtain⟨g,cap,hv,-,-⟩:=h.form (by omega)
  cases hv
  refine .inr ⟨_,by rw[if_neg (by omega)];rfl,λq u hu=>?_⟩
  have:=Sy hj (OO h) q u hu
  show w.cell? (((⟨g,0,R⟩:Addr).add (j*3)).add q)=I u
  rw[bW,AK];exact this
theorem KH(lv:Value)(fs:List eT)(f:eT)(lo:Nat)(w:World)(hO:w.ownsRow lo 107 3 lv fs.length (dN fs))(hlo:lo<=w.heap.size)(hn:fs.length<=1048576) :
  Calls prog 95 #[lv,.agg #[.int .i64 f.what,.int .i64 f.num,.string f.v]] w λe w'=>∃v',e=AE v'/\w'.ownsRow lo 107 3 v' (iR fs f).length (dN (iR fs f))/\w.grownBy w' lv.ownBlock/\∀j,v'.ownBlock=I j->lv.ownBlock=I j\/w.heap.size<=j:=by
 obtain⟨i0,hi,b4,aL,b3⟩:=info_parts Au;have HO:Hid (w.ownsRow lo 107 3 lv fs.length (dN fs)):=hO;obtain⟨la,lc,rfl⟩:=dH hO;have dy:Hid (Bw w (w.alloc (AD #[.int .i64 f.what,.int .i64 f.num,.string f.v] 107))):=(aG);have ds:Hid ((w.alloc (AD #[.int .i64 f.what,.int .i64 f.num,.string f.v] 107)).heap[w.heap.size]?=I (AD #[.int .i64 f.what,.int .i64 f.num,.string f.v] 107 (0,0))):=aS w _;clear hO
 go_enter func95,ntmps95
 go_wp2;generalize w.alloc (AD #[.int .i64 f.what,.int .i64 f.num,.string f.v] 107)=w1 at *;have e9:w.heap.size<w1.heap.size:=(Array.getElem?_eq_some_iff.1 ds.out).1
 go_loopw [5] (λi wr=>∃j:Nat,j<=fs.length/\i=.int .i64 j/\Hid (∀i,i<j->(eQ fs i).what<f.what)/\Hid (Bw w1 wr)) (λi _=>fs.length-(intOf i).toNat)
 case atStart=>exact⟨0,BA _,rfl,λi hi=>absurd hi (Nat.not_lt_zero _),BD _ _⟩
 case round =>
  obtain⟨j,hj,rfl,HL,gB⟩:=hrel;have HX:Hid (wr.heap[w.heap.size]?=I (AD #[.int .i64 f.what,.int .i64 f.num,.string f.v] 107 (0,0))):=(gB.out.block _ e9).trans ds.out;have ez:w.heap.size<wr.heap.size:=(Array.getElem?_eq_some_iff.1 HX.out).1;have dt:Hid (wr.ownsRow lo 107 3 (J la fs.length lc) fs.length (dN fs)):=aq HO.out (aa dy.out gB.out);obtain⟨x0,x1,x2⟩:=bM HX.out
  have eL:(0:Int)<=(j:Int):=by omega
  have hjl:(j:Int)<=(fs.length:Int):=by omega
  by_cases au:j<fs.length
  focus
   obtain⟨g,cap,hv,hgl,cb,fi,ef,d0,d1,d2,b5⟩:=qj dt.out au
   cases hv
   unfold maxLen at ef
   have hj1:(j:Int)<(fs.length:Int):=by omega
   have hcc:(fs.length:Int)<=(lc:Int):=by omega
   by_cases hw:(eQ fs j).what<f.what
   .have HN:Hid (∀i,i<j+1->(eQ fs i).what<f.what):=λi hi=>by
     by_cases e:i=j
     .subst e;exact hw
     .exact HL.out i (by omega)
    have dT:decide ((eQ fs j).what<f.what)=true:=by simpa using hw
    have ai:=Later.some wr;go_wp2;refine ar ?_
    repeat(go_big_quiet_step (fail))
    refine wpQuiet_nil ?_;rintro _⟨x,rfl⟩;have bV:Hid (Bw w1 x.val):=aa gB.out x.below;go_wp2
    exact⟨⟨j+1,by omega,by go_num,HN,bV⟩,by simp[intOf];omega⟩
   have dT:decide ((eQ fs j).what<f.what)=false:=by simpa using hw
   have ai:=Later.some wr;go_wp2;refine ar ?_
   repeat(go_big_quiet_step (fail))
   refine wpQuiet_nil ?_;rintro _⟨y,rfl⟩;have bV:Hid (Bw w1 y.val):=aa gB.out y.below;have Md:Hid (y.val.ownsRow lo 107 3 (J (I ⟨g,0,R⟩) fs.length lc) fs.length (dN fs)):=aq dt.out y.below;have oq:Hid (y.val.heap[w.heap.size]?=I (AD #[.int .i64 f.what,.int .i64 f.num,.string f.v] 107 (0,0))):=(y.below.block _ ez).trans HX.out;generalize y.val=cx at *;clear ai HX dt gB x0 x1 x2 d0 d1 d2 b5 cb;obtain⟨x0,x1,x2⟩:=bM oq.out;have aT:w.heap.size<cx.heap.size:=(Array.getElem?_eq_some_iff.1 oq.out).1;obtain⟨g',ax,hv,-,cb,-,-,d0,d1,d2,b5⟩:=qj Md.out au
   cases hv
   have ai:=Later.some cx
   by_cases he:(eQ fs j).what=f.what
   .have ee:((eQ fs j).what==f.what)=true:=by simpa using he
    have HH:Hid (iR fs f=bif Hy f (eQ fs j) then fs.set j f else fs):=JG fs f j au HL.out he;clear he hw dT;go_wp2;refine ar ?_
    repeat(go_big_quiet_step (fail))
    refine wpQuiet_nil ?_;rintro _⟨y,rfl⟩;have cu:Hid (Bw w1 y.val):=aa bV.out y.below;have Mc:Hid (y.val.ownsRow lo 107 3 (J (I ⟨g,0,R⟩) fs.length lc) fs.length (dN fs)):=aq Md.out y.below;have DN:Hid (y.val.heap[w.heap.size]?=I (AD #[.int .i64 f.what,.int .i64 f.num,.string f.v] 107 (0,0))):=(y.below.block _ aT).trans oq.out;generalize y.val=bY at *;clear ai oq Md bV x0 x1 x2 d0 d1 d2 b5 cb ee;obtain⟨x0,x1,x2⟩:=bM DN.out;have dz:w.heap.size<bY.heap.size:=(Array.getElem?_eq_some_iff.1 DN.out).1;obtain⟨g',ax,hv,-,cb,-,-,d0,d1,d2,b5⟩:=qj Mc.out au
    cases hv
    have ai:=Later.some bY;have GL:Hid (∀y:Later bY,Calls prog 119 #[.agg #[.int .i64 f.what,.int .i64 f.num,.string f.v],.agg #[.int .i64 (eQ fs j).what,.int .i64 (eQ fs j).num,.string (eQ fs j).v]] y.val λe e4=>e=AE (.bool (Hy f (eQ fs j)))/\∃z:Later bY,e4=z.val):=λy=>Calls.later (KG (eu ⟨#[]⟩ f) (eu ⟨#[]⟩ (eQ fs j)) y.val);go_wp2;refine ar ?_
    repeat(go_big_quiet_step (first|(go_at_call 119;exact GL.out _)))
    refine wpQuiet_nil ?_;rintro _⟨y,rfl⟩;have e3:Hid (Bw w1 y.val):=aa cu.out y.below;have cl:Hid (y.val.ownsRow lo 107 3 (J (I ⟨g,0,R⟩) fs.length lc) fs.length (dN fs)):=aq Mc.out y.below;have Pw:Hid (y.val.heap[w.heap.size]?=I (AD #[.int .i64 f.what,.int .i64 f.num,.string f.v] 107 (0,0))):=(y.below.block _ dz).trans DN.out;generalize y.val=wr4 at *;clear ai DN Mc cu x0 x1 x2 d0 d1 d2 b5 cb GL;obtain⟨x0,x1,x2⟩:=bM Pw.out;obtain⟨g',ax,hv,-,cb,-,-,-,-,-,b5⟩:=qj cl.out au
    cases hv
    cases bb:Hy f (eQ fs j)
    .have HP:Hid (iR fs f=fs):=by show _=_;rw[HH.out,bb];rfl
     clear bb HH;go_wp2;go_ret
     exact⟨_,rfl,by rw[HP.out];exact cl.out,qC (aa dy.out e3.out) _,λj hj=>.inl hj⟩
    .have HP:Hid (iR fs f=fs.set j f):=by show _=_;rw[HH.out,bb];rfl
     clear bb HH;have cy:=Tm f cl.out au
     go_wp2_with (refine wpList_store_mid rfl 107 _ _ rfl g (j*3) #[.int .i64 f.what,.int .i64 f.num,.string f.v] rfl rfl b5 (by kernel_rfl) (by simp[Value.oneCell']) ?_)
     go_ret
     exact⟨_,rfl,by rw[HP.out];exact cy.1,qA (qC (aa dy.out e3.out) _) cy.2,λj hj=>.inl hj⟩
   have ee:((eQ fs j).what==f.what)=false:=by simpa using he
   have HP:Hid (iR fs f=fs.take j++f::fs.drop j):=G6 fs f j hj HL.out (λ_=>by omega)
   clear he hw dT;go_wp2;refine ar ?_
   repeat(go_big_quiet_step (fail))
   refine wpQuiet_nil ?_;rintro _⟨y,rfl⟩;have cu:Hid (Bw w1 y.val):=aa bV.out y.below;have Mc:Hid (y.val.ownsRow lo 107 3 (J (I ⟨g,0,R⟩) fs.length lc) fs.length (dN fs)):=aq Md.out y.below;have DN:Hid (y.val.heap[w.heap.size]?=I (AD #[.int .i64 f.what,.int .i64 f.num,.string f.v] 107 (0,0))):=(y.below.block _ aT).trans oq.out;generalize y.val=bY at *;clear ai oq Md bV x0 x1 x2 d0 d1 d2 b5 cb ee;generalize(I (⟨g,0,R⟩:Addr))=la at *
  rotate_left
  focus
   have hw2:decide ((j:Int)<(fs.length:Int))=false:=by simp;omega
   have HP:Hid (iR fs f=fs.take j++f::fs.drop j):=G6 fs f j hj HL.out (λh=>absurd h au);have ai:=Later.some wr;go_wp2;refine ar ?_
   repeat(go_big_quiet_step (fail))
   refine wpQuiet_nil ?_;rintro _⟨y,rfl⟩;have bV:Hid (Bw w1 y.val):=aa gB.out y.below;have Md:Hid (y.val.ownsRow lo 107 3 (J la fs.length lc) fs.length (dN fs)):=aq dt.out y.below;have oq:Hid (y.val.heap[w.heap.size]?=I (AD #[.int .i64 f.what,.int .i64 f.num,.string f.v] 107 (0,0))):=(y.below.block _ ez).trans HX.out;generalize y.val=cx at *;clear ai HX dt gB x0 x1 x2;obtain⟨x0,x1,x2⟩:=bM oq.out;have aT:w.heap.size<cx.heap.size:=(Array.getElem?_eq_some_iff.1 oq.out).1;have ai:=Later.some cx;go_wp2;refine ar ?_
   repeat(go_big_quiet_step (fail))
   refine wpQuiet_nil ?_;rintro _⟨y,rfl⟩;have cu:Hid (Bw w1 y.val):=aa bV.out y.below;have Mc:Hid (y.val.ownsRow lo 107 3 (J la fs.length lc) fs.length (dN fs)):=aq Md.out y.below;have DN:Hid (y.val.heap[w.heap.size]?=I (AD #[.int .i64 f.what,.int .i64 f.num,.string f.v] 107 (0,0))):=(y.below.block _ aT).trans oq.out;generalize y.val=bY at *;clear ai oq Md bV x0 x1 x2
  rotate_left
  all_goals
   obtain⟨fi,ef⟩:=Ar Mc.out;unfold maxLen at ef
   have hjc:(j:Int)<=(lc:Int):=by omega
   obtain⟨x0,x1,x2⟩:=bM DN.out;go_wp2;refine wp_region_noPanic ?_
   refine wp_region_held_drew (S:=λw'=>w'.cell? ⟨w.heap.size,0,R⟩=I (.int .i64 f.what)/\w'.cell? ⟨w.heap.size,1,R⟩=I (.int .i64 f.num)/\w'.cell? ⟨w.heap.size,2,R⟩=I (.string f.v)) (by kernel_rfl) ?_ (λav=>?_)
   focus exact⟨x0,x1,x2⟩
   clear x0 x1 x2;have ru:=ag cu.out.drew;have dv:=ag (aq Mc.out (BD _ _).drew);have eS:Hid (bY.drew.heap[w.heap.size]?=I (AD #[.int .i64 f.what,.int .i64 f.num,.string f.v] 107 (0,0))):=DN.out;generalize bY.drew=W0 at *;clear cu Mc DN;refine aM 1 ?_ rfl ?_ (aM 2 ?_ rfl ?_ (aM 3 ?_ rfl ?_ (aM 5 ?_ rfl ?_ (aM 8 ?_ rfl ?_ (aM 9 ?_ rfl ?_ (aM 10 ?_ rfl ?_ ?_))))))
   iterate 7(rotate_left;focus(intro w cg;(try dsimp only at cg);simp only[Act.put,aK];go_simp;try with_reducible rfl))
   simp only[Act.put,aK]
   clear av;have fa:w.heap.size<W0.heap.size:=(Array.getElem?_eq_some_iff.1 eS.out).1
   have eb:lo<=W0.heap.size:=by omega
   have fA:Hid (∀wx:World,Bw W0 wx->wx.cell? ⟨w.heap.size,0,R⟩=I (.int .i64 f.what)/\wx.cell? ⟨w.heap.size,1,R⟩=I (.int .i64 f.num)/\wx.cell? ⟨w.heap.size,2,R⟩=I (.string f.v)):=λwx hx=>bM ((hx.block _ fa).trans eS.out);have X0:=ag (NX.start W0 107 3 #[.int .i64 f.what,.int .i64 f.num,.string f.v]);refine ny 0 6 rfl rfl (λK hK=>?_) (λK hK=>?_)
   focus
    go_simp;have X1:=ag X0.out.Ch;refine hK.out _ _ (fA.out _ X1.out.b) (λ_=>?_);clear hK K X0;generalize W0.alloc (AD #[] 107)=W1 at *;refine ny 4 6 rfl rfl (λK hK=>?_) (λK hK=>?_)
    focus
     refine X1.out.step tyF _ _ rfl rfl _ j _ (dN (fs.take j)) rfl (bz (yN dv.out hj) X1.out.b) (by rw[db,AN,AT hj]) wY (by omega) ?_
     intro va W2 hx;have X2:=ag hx;refine hK.out _ _ (fA.out _ hx.b) (λ_=>?_);clear hK K X1 hx;refine be 6 (λK hK=>?_);go_simp;have X3:=ag X2.out.uu;refine hK.out _ _ (fA.out _ X3.out.b) (λ_=>?_);clear hK K X2;generalize W2.alloc (AD #[.int .i64 f.what,.int .i64 f.num,.string f.v] 107)=W3 at *;generalize W2.heap.size=nb at *
    rotate_left
    focus
     go_simp;have X2:=ag X1.out.uu;refine hK.out _ _ (fA.out _ X2.out.b) (λ_=>?_);clear hK K X1;generalize W1.alloc (AD #[.int .i64 f.what,.int .i64 f.num,.string f.v] 107)=W2 at *;generalize W1.heap.size=nb at *;refine be 4 (λK hK=>?_)
     refine X2.out.step tyF _ _ rfl rfl _ j _ (dN (fs.take j)) rfl (bz (yN dv.out hj) X2.out.b) (by rw[db,AN,AT hj]) wY (by omega) ?_
     intro va W3 hx;have X3:=ag hx;refine hK.out _ _ (fA.out _ hx.b) (λ_=>?_);clear hK K X2 hx
   rotate_left 2
   focus
    go_simp;have X1:=ag X0.out.uu;refine hK.out _ _ (fA.out _ X1.out.b) (λ_=>?_);clear hK K X0;generalize W0.alloc (AD #[.int .i64 f.what,.int .i64 f.num,.string f.v] 107)=W1 at *;refine be 0 (λK hK=>?_);go_simp;have X2:=ag X1.out.Ch;refine hK.out _ _ (fA.out _ X2.out.b) (λ_=>?_);clear hK K X1;generalize W1.alloc (AD #[] 107)=W2 at *;generalize W1.heap.size=na at *;refine be 4 (λK hK=>?_)
    refine X2.out.step tyF _ _ rfl rfl _ j _ (dN (fs.take j)) rfl (bz (yN dv.out hj) X2.out.b) (by rw[db,AN,AT hj]) wY (by omega) ?_
    intro va W3 hx;have X3:=ag hx;refine hK.out _ _ (fA.out _ hx.b) (λ_=>?_);clear hK K X2 hx
   all_goals
    refine be 7 (λK hK=>?_)
    refine X3.out.step tyF _ _ rfl rfl _ 1 _ (fQ f) rfl X3.out.src rfl (λu hu=>by simp only[fQ,AG,A3,or_false] at hu;rcases hu with rfl|rfl|rfl<;>rfl) (by omega) ?_
    intro vb W4 hx;have X4:=ag hx;refine hK.out _ _ (fA.out _ hx.b) (λ_=>?_);clear hK K hx;refine be 11 (λK hK=>?_)
    refine X4.out.step tyF _ _ rfl rfl _ (fs.length-j) _ (dN (fs.drop j)) rfl (bz (QU dv.out hj) X4.out.b) (by rw[db,BR]) wY (by omega) ?_
    intro vb W5 hx;have X5:=ag hx;refine hK.out _ _ (fA.out _ hx.b) (λ_=>?_);clear hK K hx;have av:=fA.out _ X5.out.b;refine aM 12 ?_ rfl ?_ ?_;rotate_left
    .intro w cg;(try dsimp only at cg);go_simp;try with_reducible rfl
    simp only[Act.put,aK]
    clear av
    refine wpAnyH_done (by kernel_rfl) ?_ _
    refine NoPanic.normal ?_;go_wp2
    all_goals
     go_ret;refine⟨_,rfl,?_,qC (aa (aa dy.out ru.out) X5.out.b) _,λq hq=>.inr ?_⟩
     .have h:=aX X5.out.o eb
      rw[HP.out,sI,qE,AM,As,AN,BR,AT hj]
      rw[show 0+j+1+(fs.length-j)=j+(fs.length-j+1) by omega,AW,List.append_assoc] at h
      exact h
     .have:=dY X5.out.o q hq
      omega
end Go.Proofs.YtolokangldmodaaGreatDoor
namespace Go.Proofs.YtolokangldmodaaGreatDoor
open Go.RowKit
structure C1 (w wr:World) (A:Array Value):Prop where
 below:Bw w wr
 a:wr.heap[w.heap.size]?=I (AD A 38 (0,0))
 b:wr.heap[w.heap.size+1]?=I (AD #[J R 0 0,J R 0 0] 38 (0,0))
theorem C1.z{w wr:World}{A:Array Value}(h:C1 w wr A):w.heap.size+2<=wr.heap.size:=(Array.getElem?_eq_some_iff.1 h.b).1
theorem C1.call{w wr wy:World}{A:Array Value}(h:C1 w wr A)(hb:Bw wr wy):C1 w wy A:=by
 have hz:=h.z
 exact⟨aa h.below hb,(hb.block _ (by omega)).trans h.a,(hb.block _ (by omega)).trans h.b⟩
theorem C1.grown{w wr wy:World}{A:Array Value}{r:Option Nat}(h:C1 w wr A)(hg:wr.grownBy wy r)(hr:∀k,r=I k->w.heap.size+2<=k):C1 w wy A:=by
 have hz:=h.z
 refine⟨h.below.grown hg h.below.size (λk e=>by have:=hr k e;omega),(hg.block _ (by omega) ?_).trans h.a,(hg.block _ (by omega) ?_).trans h.b⟩
 .intro e;have:=hr _ e.symm;omega
 .intro e;have:=hr _ e.symm;omega
theorem C1.start(w:World)(A:Array Value):C1 w (((w.alloc (AD A 38)).alloc (AD #[J R 0 0,J R 0 0] 38)).drew) A:=by
 have s1:(w.alloc (AD A 38)).heap.size=w.heap.size+1:=by simp
 have h1:=aS w (AD A 38);have h2:=aS (w.alloc (AD A 38)) (AD #[J R 0 0,J R 0 0] 38);rw[s1] at h2
 refine⟨((aG).alloc (by simp) _).drew,?_,h2⟩
 exact(AL _ _ _ (by omega)).trans h1
theorem C1.row{w wr:World}{A:Array Value}(h:C1 w wr A)(cs:Array Value)(j:Nat):(wr.setRow (w.heap.size+1) cs).cell? ⟨w.heap.size,j,R⟩=A[j]?:=by
 have e:(wr.setRow (w.heap.size+1) cs).heap[w.heap.size]?=wr.heap[w.heap.size]?:=ni (by omega)
 rw[World.cell?_of_block (w:=wr) e]
 simp[AI,h.a]
theorem C1.cell{w wr:World}{A:Array Value}(h:C1 w wr A)(j:Nat):wr.cell? ⟨w.heap.size,j,R⟩=A[j]?:=by simp[AI,h.a]
theorem Bh(vk vp:Value)(ks ps:List dE)(w:World)(hk:dF w vk ks)(hp:dF w vp ps)(lk:ks.length<=1048576)(lp:ps.length<=1048576) :
  Calls prog 93 #[.agg #[vk,vp]] w λe w'=>∃x y,e=AE (.agg #[x,y])/\w'.ownsRow (w.heap.size+2) 79 3 x ks.length (dw ks)/\w'.ownsRow (w.heap.size+2) 101 3 y ps.length (dw ps)/\Bw w w':=by
 obtain⟨i0,hi,b4,aL,b3⟩:=info_parts lL;obtain⟨i1,hj,e8,e7,e6⟩:=info_parts cW;have HK:=hk;have HP:=hp;obtain⟨ak,ck,rfl,-,-,-⟩:=hk;obtain⟨ap,cp,rfl,-,-,-⟩:=hp;have SK:Hid (∀wx:World,Bw w wx->(ks.length=0 \/ ∃ad,ak=I ad/\∀j u,(dw ks)[j]?=I u->wx.cell? (ad.add j)=I u)):=λwx hx=>bz (oU HK) hx;have SP:Hid (∀wx:World,Bw w wx->(ps.length=0 \/ ∃ad,ap=I ad/\∀j u,(dw ps)[j]?=I u->wx.cell? (ad.add j)=I u)):=λwx hx=>bz (oU HP) hx;have HC:Hid _:=C1.start w #[J ak ks.length ck,J ap ps.length cp]
 go_enter func93,ntmps93
 go_wp2;refine wp_region_noPanic ?_
 refine wp_region_held_drew (S:=λw'=>w'.cell? ⟨w.heap.size,0,R⟩=I (J ak ks.length ck)/\w'.cell? ⟨w.heap.size,1,R⟩=I (J ap ps.length cp)) (by kernel_rfl) ?_ (λav=>?_)
 .exact ⟨HC.cell 0,HC.cell 1⟩
 generalize((w.alloc _).alloc _).drew=W0 at *;refine aZ 1 ?_;refine aZ 2 ?_;refine aZ 5 ?_;refine aZ 6 ?_
 simp only[Act.put,aK]
 refine ny 0 4 rfl rfl (λK hK=>?_) (λK hK=>?_)
 focus
  go_simp;have an:Bw W0 (W0.alloc (AD #[] 79)):=(aG);have mi:Hid _:=HC.call an;have RA:Hid ((W0.alloc (AD #[] 79)).ownsRow (w.heap.size+2) 79 3 (J (I ⟨W0.heap.size,0,R⟩) 0 0) 0 []):=cF (aS W0 _) HC.z 3;refine hK _ _ ⟨mi.cell 0,mi.cell 1⟩ (λ_=>?_);have HC:=mi;generalize W0.alloc _=W1 at *;refine ny 3 4 rfl rfl (λK hK=>?_) (λK hK=>?_)
  focus
   refine aps underlying35 hi b4 aL b3 RA ak ks.length ck (dw ks) (SK _ HC.below) (aI _) ?_ (h1:=ch) (hbase:=HC.z);intro va W2 ab af ct;rw[AK,AW] at ab;have mi:Hid _:=HC.grown af (dY RA);refine hK _ _ ⟨mi.cell 0,mi.cell 1⟩ (λ_=>?_);have RA:=ag ab;obtain⟨a1,c1,rfl⟩:=dH ab;have HC:=mi;refine be 4 (λK hK=>?_);go_simp;have an:Bw W2 (W2.alloc (AD #[] 101)):=(aG);have mi:Hid _:=HC.call an;have RB:Hid ((W2.alloc (AD #[] 101)).ownsRow (w.heap.size+2) 101 3 (J (I ⟨W2.heap.size,0,R⟩) 0 0) 0 []):=cF (aS W2 _) HC.z 3;have dr:=ag (aq RA an);refine hK _ _ ⟨mi.cell 0,mi.cell 1⟩ (λ_=>?_);have RA:=dr;have HC:=mi;generalize W2.alloc _=W3 at *
  rotate_left
  focus
   go_simp;have an:Bw W1 (W1.alloc (AD #[] 101)):=(aG);have mi:Hid _:=HC.call an;have RB:Hid ((W1.alloc (AD #[] 101)).ownsRow (w.heap.size+2) 101 3 (J (I ⟨W1.heap.size,0,R⟩) 0 0) 0 []):=cF (aS W1 _) HC.z 3;have dr:=ag (aq RA an);refine hK _ _ ⟨mi.cell 0,mi.cell 1⟩ (λ_=>?_);have RA:=dr;have HC:=mi;generalize W1.alloc _=W2 at *;refine be 3 (λK hK=>?_);refine aps underlying35 hi b4 aL b3 RA ak ks.length ck (dw ks) (SK _ HC.below) (aI _) ?_ (h1:=ch) (hbase:=HC.z);intro va W3 ab af ct;rw[AK,AW] at ab;have mi:Hid _:=HC.grown af (dY RA)
   have dq:=ag (aj RB af (dX RA RB (by decide)))
   refine hK _ _ ⟨mi.cell 0,mi.cell 1⟩ (λ_=>?_);have RA:=ag ab;obtain⟨a1,c1,rfl⟩:=dH ab;have RB:=dq;have HC:=mi
  rotate_left
 rotate_left 2
 focus
  go_simp;have an:Bw W0 (W0.alloc (AD #[] 101)):=(aG);have mi:Hid _:=HC.call an;have RB:Hid ((W0.alloc (AD #[] 101)).ownsRow (w.heap.size+2) 101 3 (J (I ⟨W0.heap.size,0,R⟩) 0 0) 0 []):=cF (aS W0 _) HC.z 3;refine hK _ _ ⟨mi.cell 0,mi.cell 1⟩ (λ_=>?_);have HC:=mi;generalize W0.alloc _=W1 at *;refine be 0 (λK hK=>?_);go_simp;have an:Bw W1 (W1.alloc (AD #[] 79)):=(aG);have mi:Hid _:=HC.call an;have RA:Hid ((W1.alloc (AD #[] 79)).ownsRow (w.heap.size+2) 79 3 (J (I ⟨W1.heap.size,0,R⟩) 0 0) 0 []):=cF (aS W1 _) HC.z 3;have dq:=ag (aq RB an);refine hK _ _ ⟨mi.cell 0,mi.cell 1⟩ (λ_=>?_);have RB:=dq;have HC:=mi;generalize W1.alloc _=W2 at *;refine be 3 (λK hK=>?_);refine aps underlying35 hi b4 aL b3 RA ak ks.length ck (dw ks) (SK _ HC.below) (aI _) ?_ (h1:=ch) (hbase:=HC.z);intro va W3 ab af ct;rw[AK,AW] at ab;have mi:Hid _:=HC.grown af (dY RA)
  have dq:=ag (aj RB af (dX RA RB (by decide)))
  refine hK _ _ ⟨mi.cell 0,mi.cell 1⟩ (λ_=>?_);have RA:=ag ab;obtain⟨a1,c1,rfl⟩:=dH ab;have RB:=dq;have HC:=mi
 rotate_left
 all_goals
  refine be 7 (λK hK=>?_);refine aps underlying36 hj e8 e7 e6 RB ap ps.length cp (dw ps) (SP _ HC.below) (aI _) ?_ (h1:=ch) (hbase:=HC.z);intro va W4 ab af ct;rw[AK,AW] at ab;have mi:Hid _:=HC.grown af (dY RB)
  have dr:=ag (aj RA af (dX RB RA (by decide)))
  refine hK _ _ ⟨mi.cell 0,mi.cell 1⟩ (λ_=>?_);have RB:=ag ab;obtain⟨a2,c2,rfl⟩:=dH ab;have RA:=dr;have HC:=mi;refine aM 8 ?_ rfl ?_ ?_;rotate_left
  .intro w cg;(try dsimp only at cg);go_simp;try with_reducible rfl
  simp only[Act.put,aK]
  refine be 9 (λK hK=>?_);have cL:=HC.out.b;refine PS (w.heap.size+1) #[J a1 ks.length c1,J a2 ps.length c2] cL ?_;refine hK _ _ ⟨HC.row _ 0,HC.row _ 1⟩ (λ_=>?_);refine vI ?_;refine NoPanic.normal ?_;go_wp2
  exact bv (.agg #[J a1 ks.length c1,J a2 ps.length c2]) ⟨_,_,rfl,aj RA (aH _ _ _) (λk hk e=>by have:=dY RA k hk;injection e;omega),aj RB (aH _ _ _) (λk hk e=>by have:=dY RB k hk;injection e;omega),bL HC.below⟩ (by simp[results,results93,go_sem,bU cL])
end Go.Proofs.YtolokangldmodaaGreatDoor
namespace Go.Proofs.YtolokangldmodaaGreatDoor.Dr
open Go.RowKit
attribute [local go_sem] Later.cell Later.frozen
theorem JY{w:World}{base:Nat}{e:TypeId}{size g n cap o:Nat}{xs:List Value}{x:Value}(h:w.ownsRow base e size (J (I ⟨g,0,R⟩) n cap) n xs)(ho:o<n*size):(w.setCell ⟨g,o,R⟩ x).ownsRow base e size (J (I ⟨g,0,R⟩) n cap) n (xs.set o x):=by
 obtain⟨h1,h2⟩:=h
 refine⟨by rw[A0];exact h1,?_⟩
 rcases h2 with⟨h0,hn⟩|⟨g',ax,cur,hv,hg,hc,hn,hm,hs,ht⟩
 .cases h0
 .cases hv
  refine .inr ⟨g,cap,cur.setIfInBounds o x,rfl,hg,wu hc,hn,hm,by simpa using hs,?_⟩
  rw[Array.toList_setIfInBounds,<-ht,List.take_set]
theorem lI{w:World}{base:Nat}{e:TypeId}{size:Nat}{v:Value}{n:Nat}{xs:List Value}(h:w.ownsRow base e size v n xs)(h1:1<=n):∃g cap,v=J (I ⟨g,0,R⟩) n cap/\n<=cap/\cap<=maxLen:=by
 rcases h.2 with⟨_,h0⟩|⟨g,cap,cur,hv,_,_,hn,hm,_⟩
 .omega
 .exact ⟨g,cap,hv,hn,hm⟩
end Go.Proofs.YtolokangldmodaaGreatDoor.Dr
namespace Go.Proofs.YtolokangldmodaaGreatDoor
open Go.RowKit
theorem Dg:∀(l cur:List UInt8) (c:UInt8),(c∈cur\/c∈l)->c≠32->∃x∈gU cur l,c∈x
 |[],cur,c,h,_=>by
  rcases h with h|h
  .exact ⟨cur,by simp[gU],h⟩
  .cases h
 |d::l,cur,c,h,hc=>by
  rw[gU]
  split
  .rename_i hd
   rcases h with h|h
   .exact ⟨cur,List.mem_cons_self ..,h⟩
   .rcases List.mem_cons.1 h with e|h
    .exact absurd (e.trans (by simpa using hd)) hc
    .obtain ⟨x,hx,dd⟩:=Dg l [] c (.inr h) hc
     exact⟨x,List.mem_cons_of_mem _ hx,dd⟩
  .refine Dg l _ c ?_ hc
   rcases h with h|h
   .exact .inl (List.mem_append_left _ h)
   .rcases List.mem_cons.1 h with e|h
    .exact .inl (List.mem_append_right _ (by simp[e]))
    .exact .inr h
theorem PH{s:ByteArray}{c:UInt8}(h:c∈bytes s)(hc:c≠32):∃x∈dA s,c∈bytes x:=by
 obtain⟨x,hx,dd⟩:=Dg (bytes s) [] c (.inr h) hc;exact⟨⟨⟨x⟩⟩,List.mem_map.2 ⟨x,hx,rfl⟩,dd⟩
theorem FC{s:ByteArray}(h:dJ s=true):1<=s.size/\∀c∈bytes s,c≠10:=by
 unfold dJ at h;rw[AH] at h
 refine⟨by have:=h.1;simp[fE] at this;omega,λc hc e=>?_⟩
 have h2:=List.all_eq_true.1 h.2 c hc;rw[e] at h2
 revert h2
 decide
theorem Dc{s:ByteArray}(h:eY s=true):1<=s.size/\∀c∈bytes s,c≠10:=by
 unfold eY at h;rw[AH,AH] at h
 refine⟨by have:=h.1;simp[fE] at this;omega,λc hc e=>?_⟩
 have h2:=List.all_eq_true.1 h.2.2 c hc;rw[e] at h2
 revert h2
 decide
theorem pF{l:List dE}{m:Nat}{v:ByteArray}(hn:fF l m=true)(h:hasB l v=true):dJ v=true:=by
 unfold hasB at h;rw[AH] at h;have h1:=of_decide_eq_true h.1;have h2:=of_decide_eq_true h.2;unfold fF at hn;rw[AH] at hn;have h3:=bj hn.2 _ h1;rw[AH] at h3;rw[<-h2];exact h3.1
theorem Gn{s:ByteArray}(h0:1<=s.size)(h:∀c∈bytes s,c≠10):rz s=true:=by
 unfold rz;rw[AH,BK,BK];refine⟨?_,?_⟩
 .cases hl:s.toList with
  |nil =>
   have h1:s.toList.length=s.size:=by rw[ByteArray.toList_eq];exact aF s
   rw[hl] at h1;rw[<-h1] at h0
   cases h0
  |cons a l=>rfl
 .unfold yu
  rw[List.any_eq_false];intro c hc
  simpa using h c hc
theorem AV{s:ByteArray}(hl:2<=(dA s).length)(h:∀x∈dA s,∀c∈bytes x,c≠10):rz s=true:=by
 refine Gn ?_ (λc hc e=>?_)
 .rcases Nat.eq_zero_or_pos s.size with e|e
  .have h1:bytes s=[]:=List.length_eq_zero_iff.1 (by rw[aF];exact e)
   unfold dA at hl;rw[h1] at hl
   simp[gU] at hl
  .exact e
 .obtain ⟨x,hx,dd⟩:=PH hc (by rw[e];decide)
  exact h x hx c dd e
theorem tC{ws:List ByteArray}{x:ByteArray}(h:x∈ws):∃i,i<ws.length/\dC ws i=x:=by
 obtain⟨i,hi,e⟩:=A1 h
 exact⟨i,hi,by simp[dC,hi,e]⟩
theorem CZ{ks ps:List dE}{c:eH}(hb:fB ks ps=true)(h:ib ks ps c=true):jA c=true:=by
 unfold fB dU dI at hb
 simp only[AH] at hb
 obtain⟨⟨hk,-⟩,hp,-⟩:=hb;unfold ib at h;rw[AH,AH] at h;obtain⟨hf,hn,hv⟩:=h
 have key:fE c.what 1 5=true/\rz c.v=true:=by
  unfold eX at hv
  split at hv
  .rename_i e
   obtain⟨h0,h1⟩:=FC (pF hk hv)
   exact⟨by rw[e];rfl,Gn h0 h1⟩
  split at hv
  .rename_i e
   unfold jy at hv
   simp only[AH,decide_eq_true_eq] at hv
   obtain⟨hl,h0,h1,-⟩:=hv
   refine⟨by rw[e];rfl,AV (by omega) (λx hx=>?_)⟩
   obtain⟨i,hi,rfl⟩:=tC hx
   rcases(show i=0\/i=1 by omega) with rfl|rfl
   .exact (Dc h0).2
   .exact (Dc h1).2
  split at hv
  .rename_i e
   unfold jR at hv;rw[AH] at hv;obtain⟨h0,h1⟩:=Dc hv.1
   exact⟨by rw[e];rfl,Gn h0 h1⟩
  split at hv
  .rename_i e
   unfold fJ at hv;rw[AH] at hv
   have hl:2<=(dA c.v).length:=by have:=hv.1;simp[fE] at this;omega
   refine⟨by rw[e];rfl,AV hl (λx hx=>?_)⟩
   obtain⟨i,hi,rfl⟩:=tC hx;have h2:=bj hv.2 i hi;unfold iB at h2;rw[AH] at h2;exact(FC (pF hp h2.1)).2
  split at hv
  .rename_i e
   unfold iQ at hv;rw[Bool.or_eq_true] at hv
   refine⟨by rw[e];rfl,?_⟩
   rcases hv with h|h<;>(rw[of_decide_eq_true h];exact Gn (by decide) (by decide))
  .cases hv
 unfold jA;rw[key.1,hf,hn,key.2]
 rfl
open Go.RowKit
section
variable {P:Program} {ops:Array Oper} {Q:Exit->Act->World->Prop} {md:Region.Mode} {S:World->Prop}
theorem aV(i:Nat){v:Value}{oi:Oper}{fuel:Nat}{listed:Array Bool}{a:Act}{w:World}(h:wpAnyH P md ops Q S fuel (listed.setIfInBounds i true) (a.put oi.dst v) w)(hi:ops[i]?=I oi:=by rfl)(hy:∀w,S w->(execOp a.eval oi).run P w=.ok (.value v) w:=by intro w cg;(try dsimp only at cg);(try simp only[Act.put,aK]);go_simp;try with_reducible rfl)(hs:Region.noSelect ops=true:=by kernel_rfl)(hf:Region.free md ops listed i=true:=by kernel_rfl)(hr:(Region.ready md ops listed).contains i=true:=by kernel_rfl)(hQ:∀c a w,Q (.panic c) (a.put oi.dst v) w->Q (.panic c) a w:=by exact λ_ _ _ h=>h)(hw:Region.wanted oi (yielded ops a.tmps)=true:=by rfl)(hS:S w:=by assumption):wpAnyH P md ops Q S (fuel+1) listed a w :=
 wpAnyH_take hi hs hf hr hQ (.inl ⟨hw,hy⟩) hS h
theorem Gr(i:Nat){oi:Oper}{fuel:Nat}{listed:Array Bool}{a:Act}{w:World}(h:wpAnyH P md ops Q S fuel (listed.setIfInBounds i true) (a.put oi.dst undef) w)(hi:ops[i]?=I oi:=by rfl)(hs:Region.noSelect ops=true:=by kernel_rfl)(hf:Region.free md ops listed i=true:=by kernel_rfl)(hr:(Region.ready md ops listed).contains i=true:=by kernel_rfl)(hQ:∀c a w,Q (.panic c) (a.put oi.dst undef) w->Q (.panic c) a w:=by exact λ_ _ _ h=>h)(hw:Region.wanted oi (yielded ops a.tmps)=false:=by rfl)(hS:S w:=by assumption):wpAnyH P md ops Q S (fuel+1) listed a w :=
 wpAnyH_take hi hs hf hr hQ (.inr ⟨hw,rfl⟩) hS h
end
theorem xH{ops:Array Oper}{rest:List Oper}{o:Oper}{a:Act}{Q:Exit->Act->World->Prop}{w:World}(s x:Operand)(ho:o.op=.call { callee:=.builtin .append,args:=#[s,x],argTypes:=#[28,28] })(base:Nat)(l:List ByteArray)(v:Value)(hs:a.eval s=v)(ab:Sd.gY w base v l)(c:ByteArray)(b:Nat)(hx:a.eval x=J (I ⟨b,0,R⟩) 1 1)(hc:w.cell? ⟨b,0,R⟩=I (.string c))(hl:l.length<=2097152)(hb:base<=w.heap.size)(h:∀v' w',Sd.gY w' base v' (l++[c])->w.grownBy w' v.ownBlock->wpList prog ops Q rest (a.put o.dst v') w')(hgd:o.guard=R:=by rfl):wpList prog ops Q (o::rest) a w:=by
 obtain⟨i0,hi,b4,aL,b3⟩:=info_parts og
 refine az w hgd s x 28 ho base 9 i0 (.string ByteArray.empty) 1 16 underlying28 hi b4 aL b3 rfl (by decide) v l.length (l.map Value.string) hs ab (I ⟨b,0,R⟩) 1 1 [.string c] hx (.inr ⟨_,rfl,λj u hu=>?_⟩) rfl (λu hu=>by simp at hu;subst hu;rfl) (by unfold maxLen;omega) (by omega) hb (λv' w' h1 h2 _=>h v' w' ?_ h2)
 .match j,hu with
  |0,hu=>simp at hu;subst hu;exact hc
  |j+1,hu=>simp at hu
 .unfold Sd.gY
  rw[AM,List.map_append];exact h1
theorem LK{ops:Array Oper}{o:Oper}{a:Act}{K:Act->World->Prop}{Q:Exit->Act->World->Prop}{E:Prop}{w:World}(s x:Operand)(ho:o.op=.call { callee:=.builtin .append,args:=#[s,x],argTypes:=#[28,28] })(base:Nat)(l:List ByteArray)(v:Value)(hs:a.eval s=v)(ab:Sd.gY w base v l)(c:ByteArray)(b:Nat)(hx:a.eval x=J (I ⟨b,0,R⟩) 1 1)(hc:w.cell? ⟨b,0,R⟩=I (.string c))(hl:l.length<=2097152)(hb:base<=w.heap.size)(h:∀v' w',Sd.gY w' base v' (l++[c])->w.grownBy w' v.ownBlock->K (a.put o.dst v') w')(hgd:o.guard=R:=by rfl):if Region.wanted o (yielded ops a.tmps)=true then Oper.wp prog o a w K Q else E:=by
 obtain⟨i0,hi,b4,aL,b3⟩:=info_parts og
 refine bt w hgd s x 28 ho base 9 i0 (.string ByteArray.empty) 1 16 underlying28 hi b4 aL b3 rfl (by decide) v l.length (l.map Value.string) hs ab (I ⟨b,0,R⟩) 1 1 [.string c] hx (.inr ⟨_,rfl,λj u hu=>?_⟩) rfl (λu hu=>by simp at hu;subst hu;rfl) (by unfold maxLen;omega) (by omega) hb (λv' w' h1 h2 _=>h v' w' ?_ h2)
 .match j,hu with
  |0,hu=>simp at hu;subst hu;exact hc
  |j+1,hu=>simp at hu
 .unfold Sd.gY
  rw[AM,List.map_append];exact h1
structure pW (w:World) (X:Nat) (C:Array Value) (T:TypeId) (wr:World):Prop where
 b:Bw w wr
 c:wr.heap[X]?=I (AD C T (0,0))
theorem pW.new(w:World)(C:Array Value)(T:TypeId):pW w w.heap.size C T (w.alloc (AD C T)):=⟨(aG),aS w _⟩
theorem pW.call{w wr wx:World}{X:Nat}{C:Array Value}{T:TypeId}(h:pW w X C T wr)(hb:Bw wr wx):pW w X C T wx:=⟨aa h.b hb,(hb.block _ (Array.getElem?_eq_some_iff.1 h.c).1).trans h.c⟩
theorem pW.drew{w wr:World}{X:Nat}{C:Array Value}{T:TypeId}(h:pW w X C T wr):pW w X C T wr.drew:=⟨h.b.drew,h.c⟩
theorem pW.cell{w wr:World}{X:Nat}{C:Array Value}{T:TypeId}(h:pW w X C T wr)(i:Nat):wr.cell? ⟨X,i,R⟩=C[i]?:=by simp[AI,h.c]
theorem pW.lt{w wr:World}{X:Nat}{C:Array Value}{T:TypeId}(h:pW w X C T wr):X<wr.heap.size:=(Array.getElem?_eq_some_iff.1 h.c).1
structure BL (w:World) (X:Nat) (C:Array Value) (T:TypeId) (B:Nat) (o:Value) (l:List ByteArray) (wr:World):Prop where
 b:pW w X C T wr
 o:Sd.gY wr B o l
 lo:w.heap.size<=B
 x:X<B
 z:B<=wr.heap.size
theorem BL.call{w wr wx:World}{X B:Nat}{C:Array Value}{T:TypeId}{o:Value}{l:List ByteArray}(h:BL w X C T B o l wr)(hb:Bw wr wx):BL w X C T B o l wx:=⟨h.b.call hb,aq h.o hb,h.lo,h.x,A5 h.z hb.size⟩
theorem BL.app{w wr wx:World}{X B:Nat}{C:Array Value}{T:TypeId}{o o':Value}{l l':List ByteArray}(h:BL w X C T B o l wr)(h1:Sd.gY wx B o' l')(h2:wr.grownBy wx o.ownBlock):BL w X C T B o' l' wx:=by
 have hx:=h.x;have hg:=dY h.o
 exact⟨⟨h.b.b.grown h2 h.b.b.size (λk hk=>A5 h.lo (hg k hk)),(h2.block X h.b.lt (λe=>by have:=hg X e.symm;omega)).trans h.b.c⟩,h1,h.lo,hx,A5 h.z h2.size⟩
structure BY (w:World) (X:Nat) (C:Array Value) (T:TypeId) (B:Nat) (o:Value) (l:List ByteArray) (Y:Nat) (D:Array Value) (U:TypeId) (wr:World):Prop where
 l:BL w X C T B o l wr
 y:wr.heap[Y]?=I (AD D U (0,0))
theorem BY.call{w wr wx:World}{X B Y:Nat}{C D:Array Value}{T U:TypeId}{o:Value}{l:List ByteArray}(h:BY w X C T B o l Y D U wr)(hb:Bw wr wx):BY w X C T B o l Y D U wx:=⟨h.l.call hb,(hb.block _ (Array.getElem?_eq_some_iff.1 h.y).1).trans h.y⟩
theorem BY.cell{w wr:World}{X B Y:Nat}{C D:Array Value}{T U:TypeId}{o:Value}{l:List ByteArray}(h:BY w X C T B o l Y D U wr)(i:Nat):wr.cell? ⟨Y,i,R⟩=D[i]?:=by simp[AI,h.y]
theorem BL.box{w wr:World}{X B:Nat}{C:Array Value}{T:TypeId}{o:Value}{l:List ByteArray}(h:BL w X C T B o l wr)(D:Array Value)(U:TypeId):BY w X C T B o l wr.heap.size D U (wr.alloc (AD D U)):=⟨h.call (aG),aS wr _⟩
theorem BY.app{w wr wx:World}{X B Y:Nat}{C D:Array Value}{T U:TypeId}{o o':Value}{l l':List ByteArray}(h:BY w X C T B o l Y D U wr)(h1:Sd.gY wx B o' l')(h2:wr.grownBy wx o.ownBlock)(ai:(9:TypeId)≠U):BY w X C T B o' l' Y D U wx:=⟨h.l.app h1 h2,(h2.block Y (Array.getElem?_eq_some_iff.1 h.y).1 (aQ h.l.o h.y ai)).trans h.y⟩
theorem pW.set{w wr:World}{X F:Nat}{C:Array Value}{T:TypeId}(h:pW w X C T wr)(h1:w.heap.size<=F)(h2:X≠F)(cs:Array Value):pW w X C T (wr.setRow F cs):=⟨below_setRow h.b h1 _,(ni h2).trans h.c⟩
theorem OP{z:World}{B F n size:Nat}{e t:TypeId}{v:Value}{xs:List Value}{old:Array Value}(hs:z.ownsRow B e size v n xs)(hF:z.heap[F]?=I (AD old t (0,0)))(ai:e≠t)(cs:Array Value):(z.setRow F cs).ownsRow B e size v n xs:=aj hs (aH z F cs) (λq hq e=>aQ hs hF ai (e.symm.trans hq.symm))
theorem kept{w w':World}{F:Nat}{o:Obj}(hb:Bw w w')(h:w.heap[F]?=I o):w'.heap[F]?=I o:=(hb.block _ (Array.getElem?_eq_some_iff.1 h).1).trans h
end Go.Proofs.YtolokangldmodaaGreatDoor
