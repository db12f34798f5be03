import Derived.Test.YtolokangldmodaaGreatDoorWr
import Derived.Test.YtolokangldmodaaGreatDoorFill0
set_option maxRecDepth 100000
set_option maxHeartbeats 6400000
set_option linter.unusedSimpArgs false
set_option linter.unusedVariables false
open Go.Value renaming int->AD,string->AF,slice->U,agg->AH
open Go.Obj renaming cells->AG
open Option renaming none->I,some->J
open Go.IntKind renaming i64->AE
open Go.World renaming cell?->AM,frozen?->Aj
open List renaming take_succ_eq_append_getElem->AN,take_of_length_le->AO,length_append->AT,mem_of_getElem?->AW,flatten_append->Aw,foldl_append->Ax
open Go.RowKit.Below renaming heap_alloc->AS,heap_setCell->As
open ByteArray renaming empty->An
open Nat renaming zero_le->At
open Go Go.Proofs.YtolokangldmodaaGreatDoor
variable {Ls:List (List eH)} {k:Nat} {w wr W w2 w3:World} {A:Array Value} {v u:Value} {l m:List dE} {xs:List Value} {t:dE} {o:Obj}
open Go.Proofs.Tryz
namespace Go.Proofs.YtolokangldmodaaGreatDoor
open Go.RowKit
theorem RZ{P:Prop}(h:P):Hid P:=h
theorem oD{S:List eH}(L:List eH)(hS:ig S):ig (L.foldl gZ S):=by
 induction L generalizing S with
 |nil=>exact hS
 |cons c L ih=>exact ih (JK c hS)
theorem Q4{L:List eH}{j:Nat}(hj:j<L.length)(S:List eH):(L.take (j+1)).foldl gZ S=gZ ((L.take j).foldl gZ S) (nN L j):=by
 have:L[j]=nN L j:=by simp[nN,hj]
 rw[AN hj,Ax,this];rfl
def Hz(Ls:List (List eH))(k:Nat):List eH:=Ls.getD k []
theorem Ky(h:k<Ls.length):Ls[k]?=J (Hz Ls k):=by simp[Hz,h]
theorem QZ(h:k<Ls.length):(Ls.take (k+1)).flatten=(Ls.take k).flatten++Hz Ls k:=by
 have:Ls[k]=Hz Ls k:=by simp[Hz,h]
 rw[AN h,Aw,this];simp
theorem QY(Ls:List (List eH))(k:Nat):(Ls.take k).flatten.length<=Ls.flatten.length:=by
 have h:=congrArg List.length (congrArg List.flatten (List.take_append_drop k Ls));rw[Aw,AT] at h
 omega
theorem Oj(vk vp vl:Value)(Ls:List (List eH))(w:World)(hvk:∃a n c,vk=U a n c)(hvp:∃a n c,vp=U a n c)(hL:xJ w vl Ls)(hlen:Ls.flatten.length<=4194304)(hLl:Ls.length<=1048576)(hLe:∀L∈Ls,L.length<=2097152)(hfit:∀L∈Ls,∀c∈L,ku c/\1<=c.num)(R:Value->Value->Value->World->Prop)(GR:∀wx n,n<=Ls.flatten.length->jw w wx #[vk,vp] n (Ls.flatten.foldl gZ [])->Calls prog 207 #[AH #[vk,vp]] wx λe w1=>∃a1 n1 c1 a2 n2 c2,e=.returned (AH #[U a1 n1 c1,U a2 n2 c2])/\Calls prog 208 #[.map (J (w.heap.size+2))] w1 λe w2=>∃a3 n3 c3,e=.returned (U a3 n3 c3)/\w2.heap[w.heap.size+1]?=J (AG #[U I 0 0,U I 0 0,U I 0 0] 41 (0,0))/\R (U a1 n1 c1) (U a2 n2 c2) (U a3 n3 c3) w2) :
 Calls prog 187 #[AH #[vk,vp],vl] w λe w'=>∃x y z w2,e=.returned (AH #[x,y,z])/\R x y z w2/\w'=w2.setRow (w.heap.size+1) #[x,y,z]:=by
 obtain⟨ak,nk,ck,rfl⟩:=hvk;obtain⟨ap,np,cp,rfl⟩:=hvp;have RJ:=RZ GR;have en:Hid (jw w (((w.alloc (AG #[U ak nk ck,U ap np cp] 38)).alloc (AG #[U I 0 0,U I 0 0,U I 0 0] 41)).alloc (.map #[] 0)) #[U ak nk ck,U ap np cp] 0 []):=jw.start w _;obtain⟨al,cl,rfl,hlc,ec,hc⟩:=hL;unfold maxLen at ec;have HC:Hid _:=hc;have nS:Hid (∀L∈Ls,L.length<=2097152/\∀c∈L,ku c/\1<=c.num):=λL h=>⟨hLe L h,hfit L h⟩;have xK:Hid (∀k,(Ls.take k).flatten.length<=4194304):=λk=>Nat.le_trans (QY Ls k) hlen;have hmm:=@run_makeMap prog
 go_enter func187,ntmps187
 go_wp2
 go_loopw [7,9,10,14] (λ_ _ _ i wr=>∃k n:Nat,k<=Ls.length/\i=AD AE k/\n<=(Ls.take k).flatten.length/\jw w wr #[U ak nk ck,U ap np cp] n ((Ls.take k).flatten.foldl gZ [])) (λ_ _ _ i _=>Ls.length-(intOf i).toNat)
 case atStart=>exact⟨0,0,At _,rfl,At _,en.out⟩
 case round =>
  obtain⟨k,n,hk,rfl,hn,hF⟩:=hrel;have HF:Hid _:=hF
  by_cases af:k<Ls.length
  .obtain ⟨b,off,u,rfl,aL,hu⟩:=HC.out k _ (Ky af)
   have d0:=ac HF.below aE aL;have IJ:=nS (Hz Ls k) (AW (Ky af));have qL:Hid _:=IJ.2;have hll:=IJ.1;have ba:Hid ((Ls.take (k+1)).flatten=(Ls.take k).flatten++Hz Ls k/\(Ls.take (k+1)).flatten.length<=4194304):=⟨QZ af,xK (k+1)⟩;have eg:Hid (ig ((Ls.take k).flatten.foldl gZ [])):=oD _ List.Pairwise.nil
   have hn2:n+(Hz Ls k).length<=4194304:=by
    have h1:=ba.out.2;rw[ba.out.1,AT] at h1
    omega
   obtain⟨ua,uc,rfl,hu1,ds,dr⟩:=hu;unfold maxLen at ds;have HU:Hid _:=dr
   have c6:(0:Int)<=(k:Int):=by omega
   have c4:(k:Int)<(Ls.length:Int):=by omega
   generalize hLk:Hz Ls k=L at *;generalize hS0:(Ls.take k).flatten.foldl gZ []=S0 at *;go_wp2
   go_loopw [9,10,20] (λ_ _ i wx=>∃j m:Nat,j<=L.length/\i=AD AE j/\m<=n+j/\jw w wx #[U ak nk ck,U ap np cp] m ((L.take j).foldl gZ S0)) (λ_ _ i _=>L.length-(intOf i).toNat)
   case atStart=>exact⟨0,n,At _,rfl,Nat.le_refl _,HF.out⟩
   case round =>
    obtain⟨j,m,hj,rfl,hm,hF⟩:=hrel;have HF:Hid _:=hF
    by_cases cc:j<L.length
    .obtain ⟨cb,co,rfl,ef⟩:=HU.out j _ (ug cc)
     obtain⟨g0,g1,g2,g3⟩:=ef.keep HF.below aE;have HQ:Hid _:=qL _ (AW (ug cc));have L8:Hid _:=Q4 cc S0;have c9:Hid (ig ((L.take j).foldl gZ S0)):=oD _ eg;generalize nN L j=c at *;generalize(L.take j).foldl gZ S0=S at *
     have hj0:(0:Int)<=(j:Int):=by omega
     have hj1:(j:Int)<(L.length:Int):=by omega
     go_wp2_with fail;refine(Lb c _).mono ?_;rintro e w2⟨rfl,c7⟩;have BA:Hid (Bw wr (wr.alloc (AG #[AF c.f,AD AE c.what,AD AE c.num,AF c.v] 94))):=(aG);have B3:Hid (Bw w2 (w2.alloc (AG #[AD AE c.what,AD AE c.num,AF c.v] 107))):=(aG);have F3:Hid _:=((HF.call BA).call c7).call B3
     have X2:=(c7.block _ (by simp)).trans (aS wr _)
     have bP:=(Array.getElem?_eq_some_iff.1 X2).1;have X3:Hid ((w2.alloc (AG #[AD AE c.what,AD AE c.num,AF c.v] 107)).heap[wr.heap.size]?=J (AG #[AF c.f,AD AE c.what,AD AE c.num,AF c.v] 94)/\(w2.alloc (AG #[AD AE c.what,AD AE c.num,AF c.v] 107)).heap[w2.heap.size]?=J (AG #[AD AE c.what,AD AE c.num,AF c.v] 107)):=⟨(B3.block _ bP).trans X2,aS w2 _⟩
     obtain⟨p0,p1,p2,p3⟩:(w2.cell? ⟨wr.heap.size,0,I⟩=J (AF c.f)/\w2.cell? ⟨wr.heap.size,1,I⟩=J (AD AE c.what)/\w2.cell? ⟨wr.heap.size,2,I⟩=J (AD AE c.num)/\w2.cell? ⟨wr.heap.size,3,I⟩=J (AF c.v)):=by simp[AM,X2]
     have hzr:=HF.out.z;go_wp2;generalize w2.alloc _=w3 at *
     have ek:Hid ((w3.cell? ⟨wr.heap.size,0,I⟩=J (AF c.f)/\w3.cell? ⟨wr.heap.size,1,I⟩=J (AD AE c.what)/\w3.cell? ⟨wr.heap.size,2,I⟩=J (AD AE c.num)/\w3.cell? ⟨wr.heap.size,3,I⟩=J (AF c.v))/\(w3.cell? ⟨w2.heap.size,0,I⟩=J (AD AE c.what)/\w3.cell? ⟨w2.heap.size,1,I⟩=J (AD AE c.num)/\w3.cell? ⟨w2.heap.size,2,I⟩=J (AF c.v))):=by
      refine⟨?_,?_⟩
      .simp [AM,X3.out.1]
      .simp [AM,X3.out.2]
     refine wp_region_noPanic ?_
     refine wp_region_held_drew (S:=λw'=>(w'.cell? ⟨wr.heap.size,0,I⟩=J (AF c.f)/\w'.cell? ⟨wr.heap.size,1,I⟩=J (AD AE c.what)/\w'.cell? ⟨wr.heap.size,2,I⟩=J (AD AE c.num)/\w'.cell? ⟨wr.heap.size,3,I⟩=J (AF c.v))/\(w'.cell? ⟨w2.heap.size,0,I⟩=J (AD AE c.what)/\w'.cell? ⟨w2.heap.size,1,I⟩=J (AD AE c.num)/\w'.cell? ⟨w2.heap.size,2,I⟩=J (AF c.v))) (by kernel_rfl) ?_ (λay=>?_)
     .exact ek
     refine aZ 0 ?_;refine aZ 1 ?_;refine aZ 2 ?_
     simp only[Act.put,aK]
     refine be 3 (λK hK=>?_);go_simp;refine(FR c _).mono ?_;rintro e w4⟨rfl,Ul⟩;have cu:Bw w3 w4:=⟨Ul.os,Ul.tape,Ul.output,Ul.size,Ul.block⟩;have F4:Hid _:=F3.call cu;have X4:Hid (w4.heap[wr.heap.size]?=J (AG #[AF c.f,AD AE c.what,AD AE c.num,AF c.v] 94)/\w4.heap[w2.heap.size]?=J (AG #[AD AE c.what,AD AE c.num,AF c.v] 107)):=⟨(cu.block _ (Array.getElem?_eq_some_iff.1 X3.1).1).trans X3.1,(cu.block _ (Array.getElem?_eq_some_iff.1 X3.2).1).trans X3.2⟩
     have ej:(w4.cell? ⟨wr.heap.size,0,I⟩=J (AF c.f)/\w4.cell? ⟨wr.heap.size,1,I⟩=J (AD AE c.what)/\w4.cell? ⟨wr.heap.size,2,I⟩=J (AD AE c.num)/\w4.cell? ⟨wr.heap.size,3,I⟩=J (AF c.v))/\(w4.cell? ⟨w2.heap.size,0,I⟩=J (AD AE c.what)/\w4.cell? ⟨w2.heap.size,1,I⟩=J (AD AE c.num)/\w4.cell? ⟨w2.heap.size,2,I⟩=J (AF c.v)):=by
      refine⟨?_,?_⟩
      .simp [AM,X4.out.1]
      .simp [AM,X4.out.2]
     refine hK _ _ ej (λNM=>?_);have au:=F4.m.lookup c HQ.1;refine be 4 (λK hK=>?_);go_simp;refine hK _ _ NM (λaT=>?_);refine be 5 (λK hK=>?_);go_simp;refine(Qw c (eu ⟨#[]⟩ (CX S c)) _).mono ?_;rintro e w5⟨rfl,ct⟩;rw[lat_get HQ.out.2];have F5:Hid _:=F4.call ct;have X5:Hid (w5.heap[wr.heap.size]?=J (AG #[AF c.f,AD AE c.what,AD AE c.num,AF c.v] 94)/\w5.heap[w2.heap.size]?=J (AG #[AD AE c.what,AD AE c.num,AF c.v] 107)):=⟨(ct.block _ (Array.getElem?_eq_some_iff.1 X4.1).1).trans X4.1,(ct.block _ (Array.getElem?_eq_some_iff.1 X4.2).1).trans X4.2⟩
     have dd:Hid ((w5.cell? ⟨wr.heap.size,0,I⟩=J (AF c.f)/\w5.cell? ⟨wr.heap.size,1,I⟩=J (AD AE c.what)/\w5.cell? ⟨wr.heap.size,2,I⟩=J (AD AE c.num)/\w5.cell? ⟨wr.heap.size,3,I⟩=J (AF c.v))/\(w5.cell? ⟨w2.heap.size,0,I⟩=J (AD AE c.what)/\w5.cell? ⟨w2.heap.size,1,I⟩=J (AD AE c.num)/\w5.cell? ⟨w2.heap.size,2,I⟩=J (AF c.v))):=by
      refine⟨?_,?_⟩
      .simp [AM,X5.out.1]
      .simp [AM,X5.out.2]
     refine hK _ _ dd (λcx=>?_);refine vI ?_;refine NoPanic.normal ?_
     cases an:uq S c
     .have tu:Hid (jw w w5 #[U ak nk ck,U ap np cp] m ((L.take (j+1)).foldl gZ S0)):=by
       show jw _ _ _ _ _
       rw[L8.out,Td c9.out an];exact F5
      go_wp2
      exact⟨⟨j+1,m,by omega,by go_num,by omega,tu⟩,by simp[intOf];omega⟩
     .have vH:Hid (uq S c=true):=an
      go_wp2;refine wp_region_noPanic ?_
      refine wp_region_held_drew (S:=λw'=>(w'.cell? ⟨wr.heap.size,0,I⟩=J (AF c.f)/\w'.cell? ⟨wr.heap.size,1,I⟩=J (AD AE c.what)/\w'.cell? ⟨wr.heap.size,2,I⟩=J (AD AE c.num)/\w'.cell? ⟨wr.heap.size,3,I⟩=J (AF c.v))/\(w'.cell? ⟨w2.heap.size,0,I⟩=J (AD AE c.what)/\w'.cell? ⟨w2.heap.size,1,I⟩=J (AD AE c.num)/\w'.cell? ⟨w2.heap.size,2,I⟩=J (AF c.v))) (by kernel_rfl) ?_ (λay=>?_)
      .exact dd
      refine aZ 0 ?_;refine aZ 1 ?_;refine aZ 3 ?_
      simp only[Act.put,aK]
      refine be 2 (λK hK=>?_);go_simp;refine(FR c _).mono ?_;rintro e w6⟨rfl,Uj⟩;have cg:Bw w5 w6:=⟨Uj.os,Uj.tape,Uj.output,Uj.size,Uj.block⟩;have F6:Hid _:=F5.call cg;have X6:Hid (w6.heap[wr.heap.size]?=J (AG #[AF c.f,AD AE c.what,AD AE c.num,AF c.v] 94)/\w6.heap[w2.heap.size]?=J (AG #[AD AE c.what,AD AE c.num,AF c.v] 107)):=⟨(cg.block _ (Array.getElem?_eq_some_iff.1 X5.1).1).trans X5.1,(cg.block _ (Array.getElem?_eq_some_iff.1 X5.2).1).trans X5.2⟩
      have ei:(w6.cell? ⟨wr.heap.size,0,I⟩=J (AF c.f)/\w6.cell? ⟨wr.heap.size,1,I⟩=J (AD AE c.what)/\w6.cell? ⟨wr.heap.size,2,I⟩=J (AD AE c.num)/\w6.cell? ⟨wr.heap.size,3,I⟩=J (AF c.v))/\(w6.cell? ⟨w2.heap.size,0,I⟩=J (AD AE c.what)/\w6.cell? ⟨w2.heap.size,1,I⟩=J (AD AE c.num)/\w6.cell? ⟨w2.heap.size,2,I⟩=J (AF c.v)):=by
       refine⟨?_,?_⟩
       .simp [AM,X6.out.1]
       .simp [AM,X6.out.2]
      refine hK _ _ ei (λUs=>?_)
      obtain⟨w7,Mo,dy,Ew⟩:=F6.m.update c HQ.1 c9 (by unfold maxLen;omega) vH
      have dt:=Mo
      have tu:Hid (jw w w7 #[U ak nk ck,U ap np cp] (m+1) ((L.take (j+1)).foldl gZ S0)):=by
       show jw _ _ _ _ _
       rw[L8.out];exact F6.put Ew dy
      have X7:Hid (w7.heap[wr.heap.size]?=J (AG #[AF c.f,AD AE c.what,AD AE c.num,AF c.v] 94)/\w7.heap[w2.heap.size]?=J (AG #[AD AE c.what,AD AE c.num,AF c.v] 107)):=⟨(Ew.block _ (Array.getElem?_eq_some_iff.1 X6.1).1 (λe=>by injection e;omega)).trans X6.1,(Ew.block _ (Array.getElem?_eq_some_iff.1 X6.2).1 (λe=>by injection e;omega)).trans X6.2⟩
      have eh:Hid ((w7.cell? ⟨wr.heap.size,0,I⟩=J (AF c.f)/\w7.cell? ⟨wr.heap.size,1,I⟩=J (AD AE c.what)/\w7.cell? ⟨wr.heap.size,2,I⟩=J (AD AE c.num)/\w7.cell? ⟨wr.heap.size,3,I⟩=J (AF c.v))/\(w7.cell? ⟨w2.heap.size,0,I⟩=J (AD AE c.what)/\w7.cell? ⟨w2.heap.size,1,I⟩=J (AD AE c.num)/\w7.cell? ⟨w2.heap.size,2,I⟩=J (AF c.v))):=by
       refine⟨?_,?_⟩
       .simp [AM,X7.out.1]
       .simp [AM,X7.out.2]
      refine be 4 (λK hK=>?_);go_simp;refine hK _ _ eh (λUr=>?_);refine vI ?_;refine NoPanic.normal ?_;go_wp2
      exact⟨⟨j+1,m+1,by omega,by go_num,by omega,tu⟩,by simp[intOf];omega⟩
    .have tu:Hid (jw w wr #[U ak nk ck,U ap np cp] m ((Ls.take (k+1)).flatten.foldl gZ [])):=by
      show jw _ _ _ _ _
      have h:=HF.out
      rw[AO (by omega)] at h
      rw[ba.out.1,Ax,hS0];exact h
     have b6:m<=(Ls.take (k+1)).flatten.length:=by
      rw[ba.out.1,AT];omega
     go_wp2
     exact⟨⟨k+1,m,by omega,by go_num,b6,tu⟩,by simp[intOf];omega⟩
  .have Pz:Hid (jw w wr #[U ak nk ck,U ap np cp] n (Ls.flatten.foldl gZ [])):=by
    show jw _ _ _ _ _
    have h:=HF.out
    rw[AO (by omega)] at h
    exact h
   have q0:wr.cell? ⟨w.heap.size,0,I⟩=J (U ak nk ck):=by simp[AM,Pz.out.a]
   have q1:wr.cell? ⟨w.heap.size,1,I⟩=J (U ap np cp):=by simp[AM,Pz.out.a]
   go_wp2_with fail
   refine(RJ wr n (by rw[AO (by omega)] at hn;exact hn) Pz).mono ?_
   rintro e w1⟨a1,n1,c1,a2,n2,c2,rfl,hE⟩;go_wp2_with fail;refine hE.mono ?_;rintro e w2⟨a3,n3,c3,rfl,NJ,hR⟩
   go_wp2_with (refine cS (w.heap.size+1) #[U a1 n1 c1,U a2 n2 c2,U a3 n3 c3] NJ ?_)
   exact bv (AH #[U a1 n1 c1,U a2 n2 c2,U a3 n3 c3]) ⟨_,_,_,w2,rfl,hR,rfl⟩ (by simp[results,results187,go_sem,bU NJ])
open Go.RowKit
def dw(l:List dE):List Value:=l.flatMap gH
theorem di(l:List dE)(t:dE):dw (l++[t])=dw l++gH t:=by simp[dw]
theorem lL:(prog.info? 79).map (λi=>(i.zero,i.size,i.bytes))=J (J (AH #[AF An,AD AE 0,AD AE 0]),3,32):=by kernel_rfl
theorem cW:(prog.info? 101).map (λi=>(i.zero,i.size,i.bytes))=J (J (AH #[AF An,AD AE 0,AD AE 0]),3,32):=by kernel_rfl
structure CB (w wr:World) (A:Array Value) (v u:Value) (l m:List dE):Prop where
 below:Bw w wr
 a:wr.heap[w.heap.size]?=J (AG A 38 (0,0))
 r:wr.heap[w.heap.size+1]?=J (AG #[U I 0 0,U I 0 0] 38 (0,0))
 c:wr.heap[w.heap.size+1+1]?=J (AG #[v,u] 38 (0,0))
 k:wr.ownsRow (w.heap.size+3) 79 3 v l.length (dw l)
 p:wr.ownsRow (w.heap.size+3) 101 3 u m.length (dw m)
theorem CB.z(h:CB w wr A v u l m):w.heap.size+2<wr.heap.size:=(Array.getElem?_eq_some_iff.1 h.c).1
theorem CB.call{wy:World}(h:CB w wr A v u l m)(hb:Bw wr wy):CB w wy A v u l m:=by
 have hz:=h.z
 exact⟨aa h.below hb,(hb.block _ (by omega)).trans h.a,(hb.block _ (by omega)).trans h.r,(hb.block _ (by omega)).trans h.c,aq h.k hb,aq h.p hb⟩
theorem CB.start(w:World)(A:Array Value):CB w (((w.alloc (AG A 38)).alloc (AG #[U I 0 0,U I 0 0] 38)).alloc (AG #[U I 0 0,U I 0 0] 38)) A (U I 0 0) (U I 0 0) [] []:=by
 have s1:(w.alloc (AG A 38)).heap.size=w.heap.size+1:=by simp
 have s2:((w.alloc (AG A 38)).alloc (AG #[U I 0 0,U I 0 0] 38)).heap.size=w.heap.size+1+1:=by simp
 have h1:=aS w (AG A 38);have h2:=aS (w.alloc (AG A 38)) (AG #[U I 0 0,U I 0 0] 38);have h3:=aS ((w.alloc (AG A 38)).alloc (AG #[U I 0 0,U I 0 0] 38)) (AG #[U I 0 0,U I 0 0] 38);rw[s1] at h2;rw[s2] at h3
 refine⟨((aG).alloc (by simp) _).alloc (by simp;omega) _,?_,?_,h3,⟨rfl,.inl ⟨rfl,rfl⟩⟩,⟨rfl,.inl ⟨rfl,rfl⟩⟩⟩
 .exact (AS _ _ _ (by omega)).trans ((AS _ _ _ (by omega)).trans h1)
 .exact (AS _ _ _ (by omega)).trans h2
theorem bD(w:World)(b o:Nat)(v:Value):w.grownBy (w.setCell ⟨b,o,I⟩ v) (J b):=⟨rfl,rfl,rfl,by simp,λk _ hk=>As w ⟨b,o,I⟩ v k (λe=>hk (by rw[e]))⟩
theorem aj{W':World}{row:Option Nat}{base:Nat}{e:TypeId}{size:Nat}{n:Nat}(h:W.ownsRow base e size v n xs)(hg:W.grownBy W' row)(hr:∀k,v.ownBlock=J k->J k≠row):W'.ownsRow base e size v n xs:=by
 refine⟨h.1,?_⟩
 rcases h.2 with h2|⟨g,cap,cur,hv,hb,hc,rest⟩
 .exact .inl h2
 .refine .inr ⟨g,cap,cur,hv,hb,?_,rest⟩
  exact(hg.block g (Array.getElem?_eq_some_iff.1 hc).1 (hr g (by rw[hv];rfl))).trans hc
theorem dX{b1 b2:Nat}{e1 e2:TypeId}{s1 s2:Nat}{n1 n2:Nat}{ys:List Value}(h:W.ownsRow b1 e1 s1 v n1 xs)(k:W.ownsRow b2 e2 s2 u n2 ys)(ao:e1≠e2):∀j,u.ownBlock=J j->J j≠v.ownBlock:=by
 intro j hj
 rcases k.2 with⟨rfl,_⟩|⟨g,cap,cur,rfl,_,hc,_⟩
 .cases hj
 .cases hj;exact aQ h hc ao
theorem nM(w:World)(a b c:Value)(t:TypeId):∀j u,[a,b,c][j]?=J u->(w.alloc (AG #[a,b,c] t)).cell? ((⟨w.heap.size,0,I⟩:Addr).add j)=J u:=by
 intro j u h
 match j,h with
 |0,h=>simp at h;subst h;simp[Addr.add]
 |1,h=>simp at h;subst h;simp[Addr.add]
 |2,h=>simp at h;subst h;simp[Addr.add]
 |n+3,h=>simp at h
theorem CB.moreK{v':Value}(h:CB w w2 A v u l m)(hown:w3.ownsRow (w.heap.size+3) 79 3 v' (l.length+1) (dw l++gH t))(hg:(w2.alloc o).grownBy w3 v.ownBlock):CB w (w3.setCell ⟨w.heap.size+1+1,0,I⟩ v') A v' u (l++[t]) m:=by
 have hz:=h.z
 have al:∀k,k<w2.heap.size->J k≠v.ownBlock->w3.heap[k]?=w2.heap[k]?:=λk hk ao=>(hg.block k (by simp;omega) ao).trans (AS _ _ _ hk)
 have gs:=bD w3 (w.heap.size+1+1) 0 v';have ss:∀k,k≠w.heap.size+1+1->(w3.setCell ⟨w.heap.size+1+1,0,I⟩ v').heap[k]?=w3.heap[k]?:=λk hk=>As w3 ⟨w.heap.size+1+1,0,I⟩ v' k hk
 have ad:=(al _ (by omega) (aQ h.k h.c (by decide))).trans h.c
 refine⟨?_,(ss _ (by omega)).trans ((al _ (by omega) (aQ h.k h.a (by decide))).trans h.a),(ss _ (by omega)).trans ((al _ (by omega) (aQ h.k h.r (by decide))).trans h.r),?_,?_,?_⟩
 .exact ((h.below.alloc h.below.size o).grown hg (by simp;have:=h.below.size;omega) (λk e=>by have:=dY h.k k e;omega)).setCell (p:=⟨w.heap.size+1+1,0,I⟩) (by show _<=_;simp;omega) _
 .rw [setCell_eq_setRow _ _ _ _ _ _ _ ad];exact oN ad
 .rw [di,AT]
  exact aj hown gs (λk hk e=>by have:=dY hown k hk;injection e;omega)
 .refine aj (aj (aq h.p ((Below.refl _ _).alloc aE o)) hg (dX h.k h.p (by decide))) gs (λk hk e=>by have:=dY h.p k hk;injection e;omega)
theorem CB.moreP{u':Value}(h:CB w w2 A v u l m)(hown:w3.ownsRow (w.heap.size+3) 101 3 u' (m.length+1) (dw m++gH t))(hg:(w2.alloc o).grownBy w3 u.ownBlock):CB w (w3.setCell ⟨w.heap.size+1+1,1,I⟩ u') A v u' l (m++[t]):=by
 have hz:=h.z
 have al:∀k,k<w2.heap.size->J k≠u.ownBlock->w3.heap[k]?=w2.heap[k]?:=λk hk ao=>(hg.block k (by simp;omega) ao).trans (AS _ _ _ hk)
 have gs:=bD w3 (w.heap.size+1+1) 1 u';have ss:∀k,k≠w.heap.size+1+1->(w3.setCell ⟨w.heap.size+1+1,1,I⟩ u').heap[k]?=w3.heap[k]?:=λk hk=>As w3 ⟨w.heap.size+1+1,1,I⟩ u' k hk
 have ad:=(al _ (by omega) (aQ h.p h.c (by decide))).trans h.c
 refine⟨?_,(ss _ (by omega)).trans ((al _ (by omega) (aQ h.p h.a (by decide))).trans h.a),(ss _ (by omega)).trans ((al _ (by omega) (aQ h.p h.r (by decide))).trans h.r),?_,?_,?_⟩
 .exact ((h.below.alloc h.below.size o).grown hg (by simp;have:=h.below.size;omega) (λk e=>by have:=dY h.p k e;omega)).setCell (p:=⟨w.heap.size+1+1,1,I⟩) (by show _<=_;simp;omega) _
 .rw [setCell_eq_setRow _ _ _ _ _ _ _ ad];exact oN ad
 .refine aj (aj (aq h.k ((Below.refl _ _).alloc aE o)) hg (dX h.p h.k (by decide))) gs (λk hk e=>by have:=dY h.k k hk;injection e;omega)
 .rw [di,AT]
  exact aj hown gs (λk hk e=>by have:=dY hown k hk;injection e;omega)
open Go.RowKit
theorem aH(w:World)(g:Nat)(cs:Array Value):w.grownBy (w.setRow g cs) (J g):=⟨rfl,rfl,rfl,by simp,λk _ hk=>ni (λe=>hk (by rw[e]))⟩
theorem Iu(vk vp:Value)(ks ps:List dE)(w:World)(hk:dF w vk ks)(hp:dF w vp ps)(lk:ks.length<=1048575)(lp:ps.length<=1048575)(sk:∀t∈ks,t.s.size<=1048576)(sp:∀t∈ps,t.s.size<=1048576) :
 Calls prog 207 #[AH #[vk,vp]] w λe w'=>∃a1 n1 c1 a2 n2 c2,e=.returned (AH #[U a1 n1 c1,U a2 n2 c2])/\(w'.ownsRow (w.heap.size+3) 79 3 (U a1 n1 c1) ks.length (dw ks)/\w'.ownsRow (w.heap.size+3) 101 3 (U a2 n2 c2) ps.length (dw ps))/\Bw w w':=by
 obtain⟨iK,ea,b4,bY,bn⟩:=info_parts lL;obtain⟨iP,dT,b3,bV,bb⟩:=info_parts cW;obtain⟨ak,ck,rfl,au,dv,ee⟩:=hk;obtain⟨ap,cp,rfl,hlp,du,eb⟩:=hp;unfold maxLen at dv du;have HK:Hid _:=ee;have HP:Hid _:=eb;have Va:Hid ((∀t∈ks,t.s.size<=1048576)/\∀t∈ps,t.s.size<=1048576):=⟨sk,sp⟩;have H0:Hid (CB w (((w.alloc (AG #[U ak ks.length ck,U ap ps.length cp] 38)).alloc (AG #[U I 0 0,U I 0 0] 38)).alloc (AG #[U I 0 0,U I 0 0] 38)) #[U ak ks.length ck,U ap ps.length cp] (U I 0 0) (U I 0 0) [] []):=CB.start w _
 go_enter func207,ntmps207
 go_wp2
 go_loopw [5,11] (λ_ i wr=>∃(k:Nat) (v u:Value),k<=ks.length/\i=AD AE k/\(∃a n c,v=U a n c)/\(∃a n c,u=U a n c)/\CB w wr #[U ak ks.length ck,U ap ps.length cp] v u (ks.take k) []) (λ_ i _=>ks.length-(intOf i).toNat)
 case atStart=>exact⟨0,_,_,At _,rfl,⟨_,_,_,rfl⟩,⟨_,_,_,rfl⟩,by simpa using H0.out⟩
 case round =>
  obtain⟨k,v,u,hk,rfl,⟨va,vn,vc,rfl⟩,⟨ub,un,uc,rfl⟩,hB⟩:=hrel;have HB:Hid _:=hB
  by_cases af:k<ks.length
  .have ht:ks[k]?=J ks[k]:=List.getElem?_eq_getElem af
   obtain⟨b,off,rfl,aL,cL,cy⟩:=HK k _ ht;have d0:=ac HB.below aE aL;have d1:=ac HB.below aE cL;have d2:=ac HB.below aE cy;have b5:=Va.1 _ (AW ht);have HT:Hid _:=AN af
   have dz:(ks.take k).length+1<=1048576:=by simp;omega
   have au:(ks.take k).length=k:=by simp;omega
   generalize ks[k]=t at *
   have c6:(0:Int)<=(k:Int):=by omega
   have c4:(k:Int)<(ks.length:Int):=by omega
   have BA:Hid (Bw wr (wr.alloc (AG #[AF t.s,AD AE t.x,AD AE t.y] 79))):=(aG);go_wp2_with fail;refine(jQ t.s _ b5).mono ?_;rintro e w1⟨rfl,ax⟩
   have X1:=(ax.block _ (by simp)).trans (aS wr _)
   have dq:=(Array.getElem?_eq_some_iff.1 X1).1
   obtain⟨q0,q1,q2⟩:w1.cell? ⟨wr.heap.size,0,I⟩=J (AF t.s)/\w1.cell? ⟨wr.heap.size,1,I⟩=J (AD AE t.x)/\w1.cell? ⟨wr.heap.size,2,I⟩=J (AD AE t.y):=by simp[AM,X1]
   have qf:w1.frozen? ⟨wr.heap.size,0,I⟩=false:=by simp[Aj,X1]
   have cf:=aa BA ax;have H2:Hid (CB w (w1.setCell ⟨wr.heap.size,0,I⟩ (AF t.s)) _ (U va vn vc) (U ub un uc) (ks.take k) []):=HB.call (yY cf _ _ aE _)
   have X2:Hid ((w1.setCell ⟨wr.heap.size,0,I⟩ (AF t.s)).heap[wr.heap.size]?=J (AG #[AF t.s,AD AE t.x,AD AE t.y] 79)):=by
    show _=_
    rw[setCell_eq_setRow _ _ _ _ _ _ _ X1];exact oN X1
   go_upto_region 6 with fail
   generalize w1.setCell _ _=w2 at *
   obtain⟨q0,q1,q2⟩:w2.cell? ⟨wr.heap.size,0,I⟩=J (AF t.s)/\w2.cell? ⟨wr.heap.size,1,I⟩=J (AD AE t.x)/\w2.cell? ⟨wr.heap.size,2,I⟩=J (AD AE t.y):=by simp[AM,X2.out]
   obtain⟨e0,e1⟩:w2.cell? ⟨w.heap.size+1+1,0,I⟩=J (U va vn vc)/\w2.cell? ⟨w.heap.size+1+1,1,I⟩=J (U ub un uc):=by simp[AM,H2.out.c]
   have bP:=H2.out.z;have ai:=H2.out.k;have av:=H2.out.c
   go_wp2_with (at_builtin;refine wpList_append_lies _ rfl _ _ 35 rfl (w.heap.size+3) 79 iK (AH #[AF An,AD AE 0,AD AE 0]) 3 32 underlying35 ea b4 bY bn rfl (by decide) _ _ _ rfl (ai.alloc _) ⟨w2.heap.size,0,I⟩ 1 1 (gH t) rfl rfl (nM _ _ _ _ _) (λx hx=>by simp[gH] at hx;rcases hx with rfl|rfl|rfl<;>rfl) (by decide) (by unfold maxLen;omega) (by omega) (by simp;omega) _ rfl ?_;intro g cap w3 ae ab Un ca;have ad:=(ab.block _ (by simp;omega) (aQ ai av (by decide))).trans ((AS _ _ _ (by omega)).trans av);obtain⟨x0,x1⟩:w3.cell? ⟨w.heap.size+1+1,0,I⟩=J (U va vn vc)/\w3.cell? ⟨w.heap.size+1+1,1,I⟩=J (U ub un uc):=(by simp[AM,ad]);have dm:w3.frozen? ⟨w.heap.size+1+1,0,I⟩=false:=(by simp[Aj,ad]);have dk:w3.frozen? ⟨w.heap.size+1+1,1,I⟩=false:=(by simp[Aj,ad]))
   have HM:=H2.moreK ae ab;rw[<-HT.out,au] at HM
   exact⟨⟨k+1,_,_,by omega,by go_num,⟨_,_,_,rfl⟩,⟨_,_,_,rfl⟩,HM⟩,by simp[intOf];omega⟩
  .have HE:Hid (CB w wr #[U ak ks.length ck,U ap ps.length cp] (U va vn vc) (U ub un uc) ks []):=by
    show CB _ _ _ _ _ _ _
    have h:=HB.out
    rw[AO (by omega)] at h
    exact h
   obtain⟨f0,f1⟩:wr.cell? ⟨w.heap.size,0,I⟩=J (U ak ks.length ck)/\wr.cell? ⟨w.heap.size,1,I⟩=J (U ap ps.length cp):=by simp[AM,HE.out.a]
   have eo:=HE;go_wp2
   go_loopw [7,29] (λ_ i wr=>∃(k:Nat) (v u:Value),k<=ps.length/\i=AD AE k/\(∃a n c,v=U a n c)/\(∃a n c,u=U a n c)/\CB w wr #[U ak ks.length ck,U ap ps.length cp] v u ks (ps.take k)) (λ_ i _=>ps.length-(intOf i).toNat)
   case atStart=>exact⟨0,_,_,At _,rfl,⟨_,_,_,rfl⟩,⟨_,_,_,rfl⟩,by simpa using eo.out⟩
   case round =>
    obtain⟨k,v,u,hk,rfl,⟨va,vn,vc,rfl⟩,⟨ub,un,uc,rfl⟩,hB⟩:=hrel;have HB:Hid _:=hB
    by_cases af:k<ps.length
    .have ht:ps[k]?=J ps[k]:=List.getElem?_eq_getElem af
     obtain⟨b,off,rfl,aL,cL,cy⟩:=HP k _ ht;have d0:=ac HB.below aE aL;have d1:=ac HB.below aE cL;have d2:=ac HB.below aE cy;have b5:=Va.2 _ (AW ht);have HT:Hid _:=AN af
     have dz:(ps.take k).length+1<=1048576:=by simp;omega
     have au:(ps.take k).length=k:=by simp;omega
     generalize ps[k]=t at *
     have c6:(0:Int)<=(k:Int):=by omega
     have c4:(k:Int)<(ps.length:Int):=by omega
     have BA:Hid (Bw wr (wr.alloc (AG #[AF t.s,AD AE t.x,AD AE t.y] 101))):=(aG);go_wp2_with fail;refine(jQ t.s _ b5).mono ?_;rintro e w1⟨rfl,ax⟩
     have X1:=(ax.block _ (by simp)).trans (aS wr _)
     have dq:=(Array.getElem?_eq_some_iff.1 X1).1
     obtain⟨q0,q1,q2⟩:w1.cell? ⟨wr.heap.size,0,I⟩=J (AF t.s)/\w1.cell? ⟨wr.heap.size,1,I⟩=J (AD AE t.x)/\w1.cell? ⟨wr.heap.size,2,I⟩=J (AD AE t.y):=by simp[AM,X1]
     have qf:w1.frozen? ⟨wr.heap.size,0,I⟩=false:=by simp[Aj,X1]
     have cf:=aa BA ax;have H2:Hid (CB w (w1.setCell ⟨wr.heap.size,0,I⟩ (AF t.s)) _ (U va vn vc) (U ub un uc) ks (ps.take k)):=HB.call (yY cf _ _ aE _)
     have X2:Hid ((w1.setCell ⟨wr.heap.size,0,I⟩ (AF t.s)).heap[wr.heap.size]?=J (AG #[AF t.s,AD AE t.x,AD AE t.y] 101)):=by
      show _=_
      rw[setCell_eq_setRow _ _ _ _ _ _ _ X1];exact oN X1
     go_upto_region 12 with fail
     generalize w1.setCell _ _=w2 at *
     obtain⟨q0,q1,q2⟩:w2.cell? ⟨wr.heap.size,0,I⟩=J (AF t.s)/\w2.cell? ⟨wr.heap.size,1,I⟩=J (AD AE t.x)/\w2.cell? ⟨wr.heap.size,2,I⟩=J (AD AE t.y):=by simp[AM,X2.out]
     obtain⟨e0,e1⟩:w2.cell? ⟨w.heap.size+1+1,0,I⟩=J (U va vn vc)/\w2.cell? ⟨w.heap.size+1+1,1,I⟩=J (U ub un uc):=by simp[AM,H2.out.c]
     have bP:=H2.out.z;have ai:=H2.out.p;have av:=H2.out.c
     go_wp2_with (at_builtin;refine wpList_append_lies _ rfl _ _ 36 rfl (w.heap.size+3) 101 iP (AH #[AF An,AD AE 0,AD AE 0]) 3 32 underlying36 dT b3 bV bb rfl (by decide) _ _ _ rfl (ai.alloc _) ⟨w2.heap.size,0,I⟩ 1 1 (gH t) rfl rfl (nM _ _ _ _ _) (λx hx=>by simp[gH] at hx;rcases hx with rfl|rfl|rfl<;>rfl) (by decide) (by unfold maxLen;omega) (by omega) (by simp;omega) _ rfl ?_;intro g cap w3 ae ab Un ca;have ad:=(ab.block _ (by simp;omega) (aQ ai av (by decide))).trans ((AS _ _ _ (by omega)).trans av);obtain⟨x0,x1⟩:w3.cell? ⟨w.heap.size+1+1,0,I⟩=J (U va vn vc)/\w3.cell? ⟨w.heap.size+1+1,1,I⟩=J (U ub un uc):=(by simp[AM,ad]);have dm:w3.frozen? ⟨w.heap.size+1+1,0,I⟩=false:=(by simp[Aj,ad]);have dk:w3.frozen? ⟨w.heap.size+1+1,1,I⟩=false:=(by simp[Aj,ad]))
     have HM:=H2.moreP ae ab;rw[<-HT.out,au] at HM
     exact⟨⟨k+1,_,_,by omega,by go_num,⟨_,_,_,rfl⟩,⟨_,_,_,rfl⟩,HM⟩,by simp[intOf];omega⟩
    .have HE:Hid (CB w wr #[U ak ks.length ck,U ap ps.length cp] (U va vn vc) (U ub un uc) ks ps):=by
      show CB _ _ _ _ _ _ _
      have h:=HB.out
      rw[AO (by omega)] at h
      exact h
     obtain⟨e0,e1⟩:wr.cell? ⟨w.heap.size+1+1,0,I⟩=J (U va vn vc)/\wr.cell? ⟨w.heap.size+1+1,1,I⟩=J (U ub un uc):=by simp[AM,HE.out.c]
     have hr:=HE.out.r
     go_wp2_with (refine cS (w.heap.size+1) #[U va vn vc,U ub un uc] hr ?_)
     refine bv (AH #[U va vn vc,U ub un uc]) ⟨_,_,_,_,_,_,rfl,⟨?_,?_⟩,bL HE.below⟩ (by simp[results,results207,go_sem,bU hr])
     .exact aj HE.k (aH wr (w.heap.size+1) _) (λk hk e=>by have:=dY HE.k k hk;injection e;omega)
     .exact aj HE.p (aH wr (w.heap.size+1) _) (λk hk e=>by have:=dY HE.p k hk;injection e;omega)
end Go.Proofs.YtolokangldmodaaGreatDoor
