import Derived.Test.YtolokangldmodaaGreatDoorSi4
set_option maxRecDepth 100000
set_option maxHeartbeats 6400000
set_option linter.unusedSimpArgs false
set_option linter.unusedVariables false
open Go.Value renaming int->AD,string->J,slice->AG,pointer->AH,bool->AI,tuple->AJ
open Go.Obj renaming cells->AF
open Go.Ending renaming returned->AK
open Option renaming none->U,some->I
open Go.IntKind renaming i64->AE
open Go.Act renaming put->AM
open Nat renaming le_trans->AN,zero_le->AT,le_refl->An,zero_add->Ax
open Go.World renaming cell?->AO,frozen?->As
open Go.RowKit.Below renaming refl->AS
open List renaming mem_of_mem_take->AW,eq_nil_of_length_eq_zero->Aj,length_tail->At,take_of_length_le->A0,getElem_mem->AL
open Go Go.Proofs.YtolokangldmodaaGreatDoor
variable {w W wr V V' w' wx:World} {R q g n c X F Y:Nat} {l m L:List ByteArray} {s:ByteArray} {va o v x y z vl:Value} {ob:Option Nat} {b b':Bk} {T:TypeId} {num:Int}
open Go.Proofs.Tryz
namespace Go.Proofs.YtolokangldmodaaGreatDoor.Dr
open Go.RowKit Sd Tx
theorem H8(v:Value)(l:List ByteArray)(w:World)(hv:w.ownsRow 0 9 1 v l.length (l.map J))(hl:l.length<=1000)(hx:∀x∈l,x.size<=1000) :
 Calls prog 12 #[v] w λe w'=>e=AK (J ⟨(joinL l).toArray⟩)/\(⟨(joinL l).toArray⟩:ByteArray).size<=1001*l.length/\w'=w:=by
 have HV:Hid (∀k,k<l.length->∃g cap,v=AG (I ⟨g,0,U⟩) l.length cap/\w.cell? ⟨g,k,U⟩=I (J (dC l k))/\(dC l k).size<=1000):=λk hk=>by
  obtain⟨g,o,c,rfl,h1,h2,h3⟩:=bq hv (λe=>by rw[e] at hk;simp at hk)
  obtain⟨g',c',e,-⟩:=lI hv (by omega)
  injection e with e1 e2 e3
  injection e1 with e1
  injection e1 with e1 e5
  subst e1 e5;have:=h3 k _ (bp hk);rw[Ax] at this;exact⟨_,c,rfl,this,hx _ (List.mem_of_getElem? (bp hk))⟩
 obtain⟨a,c,rfl⟩:=bR hv;clear hv hx
 go_enter func12,ntmps12
 go_wp2_with fail
 go_loopw [3,4] (λo i wr=>∃(k:Nat) (s:ByteArray),k<=l.length/\i=AD AE k/\o=J s/\s.size<=1001*k/\wr=w/\Hid (bytes s=joinL (l.take k))) (λ_ i _=>l.length-(intOf i).toNat)
 case atStart=>exact⟨0,⟨#[]⟩,AT _,rfl,rfl,by simp[ByteArray.size],rfl,rfl⟩
 case round =>
  obtain⟨k,s,hk,rfl,rfl,hs,rfl,HJ⟩:=hrel
  by_cases af:k<l.length
  .obtain ⟨g,cap,he,hc,hz⟩:=HV.out k af
   cases he
   have dz:(0:Int)<=(k:Int):=by omega
   have c4:(k:Int)<(l.length:Int):=by omega
   have HN:Hid (bytes (s++dC l k++⟨#[10]⟩)=joinL (l.take (k+1))):=by
    show _=_
    rw[List.take_succ_eq_append_getElem af,bI,<-HJ.out,<-Ak af]
    simp[bytes,joinL]
   generalize dC l k=x at *;go_wp2_with fail
   exact⟨⟨k+1,_,by omega,by go_num,rfl,by(have h1:(⟨#[10]⟩:ByteArray).size=1:=rfl);simp only[ByteArray.size_append,h1];omega,by first|trivial|rfl,HN⟩,by simp[intOf];omega⟩
  .have dy:k=l.length:=by omega
   rw[A0 (by omega)] at HJ
   have he:s=⟨(joinL l).toArray⟩:=by
    apply bd
    rw[HJ.out]
    simp[bytes]
   clear HJ;go_wp2_with fail;go_ret
   exact⟨cn he,(by rw[<-he];omega),rfl⟩
def UU:List ByteArray:=[⟨#[102,108,105,103,104,116,115]⟩,⟨#[112,97,116,104,32,107,108,49]⟩,⟨#[112,97,116,104,32,98,97,45,50]⟩,⟨#[112,97,116,104,32,108,104,51]⟩,⟨#[111,118,101,114,32,107,108,49,32,97,108,102,97]⟩,⟨#[111,118,101,114,32,107,108,49,32,99,104,97,114]⟩,⟨#[111,118,101,114,32,98,97,45,50,32,98,114,97,118]⟩,⟨#[112,97,116,104]⟩,⟨#[111,118,101,114,32,107,108,49]⟩,⟨#[102,108,105,103,104,116,115,32,120]⟩,⟨#[112,97,116,104,32,110,111,110,101]⟩,⟨#[115,101,116,32,107,108,49,32,115,116,97,116,101,32,49,51,32,99,108,111,115,101,100]⟩,⟨#[115,101,116,32,107,108,49,32,115,116,97,116,101,32,49,52,32,111,112,101,110]⟩,⟨#[115,101,116,32,107,108,49,32,108,101,118,101,108,32,49,51,32,49]⟩]
theorem ask_ok:∀s∈UU,s.size<=300/\Ss.tQ s:=by
 have h:∀s∈UU,s.size<=300/\(bytes s).all (λc=>c != 10)=true/\(Ss.pq (bytes s)=false\/((gU [] (bytes s)).tail.all λx=>dJ ⟨⟨x⟩⟩)=true):=by decide
 intro s hs;obtain⟨h1,h2,h3⟩:=h s hs;refine⟨h1,?_⟩
 rcases h3 with h3|h3
 .exact Hg h2 h3
 .intro l hl
  rw[pK _ _ (λx hx e=>by have:=List.all_eq_true.1 h2 x hx;rw[e] at this;cases this)] at hl
  simp at hl
  subst hl;exact .inr (λx hx=>List.all_eq_true.1 h3 x hx)
structure IX (w:World) (R q g n c:Nat) (l:List ByteArray) (s:ByteArray) (va:Value) (m:List ByteArray) (ob:Option Nat) (W:World):Prop where
 d:DT w W R q (AG (I ⟨g,0,U⟩) n c) n l
 e:DT w W R q va m.length m
 a:∀k,va.ownBlock=I k->k≠g
 b:∀b,ob=I b->W.cell? ⟨b,0,U⟩=I (J s)/\∀k,va.ownBlock=I k->k≠b
theorem IX.start(s:ByteArray)(h:DT w W R q (AG (I ⟨g,0,U⟩) n c) n l):IX w R q g n c l s (AG U 0 0) [] U W :=
 ⟨h,⟨h.rd,h.gr,⟨rfl,.inl ⟨rfl,rfl⟩⟩,rfl,λx hx=>by cases hx⟩,(λk hk=>by cases hk),(λb hb=>by cases hb)⟩
theorem IX.Ch(h:IX w R q g n c l s va m ob W):IX w R q g n c l s (AG (I ⟨W.heap.size,0,U⟩) 0 0) [] ob (W.alloc (AF #[] 9)):=by
 have hb:=(AS _ W).alloc aE (AF #[] 9)
 refine⟨h.d.call hb,⟨(h.d.call hb).rd,(h.d.call hb).gr,cF (aO W _) h.d.gr.size 1,rfl,λx hx=>by cases hx⟩,λk hk=>?_,λb ae=>⟨ac hb aE (h.b b ae).1,λk hk=>?_⟩⟩
 .have h1:=cV h.d.ow
  have h2:I W.heap.size=I k:=hk
  injection h2 with h2
  omega
 .have h1:=am (h.b b ae).1
  have h2:I W.heap.size=I k:=hk
  injection h2 with h2
  omega
theorem IX.uu(h:IX w R q g n c l s va m U W):IX w R q g n c l s va m (I W.heap.size) (W.alloc (AF #[J s] 9)):=by
 have hb:=(AS _ W).alloc aE (AF #[J s] 9);refine⟨h.d.call hb,h.e.call hb,h.a,λb ae=>?_⟩
 injection ae with ae
 subst ae;refine⟨aD (aO W _) (i:=0) rfl,λk hk=>?_⟩
 have h1:k<W.heap.size:=by
  rcases h.e.ow.2 with⟨h0,_⟩|⟨g',dd,cur,hv,_,hc,_⟩
  .rw [h0] at hk;cases hk
  .rw [hv] at hk
   have h2:I g'=I k:=hk
   injection h2 with h2
   subst h2;exact bf hc
 omega
theorem IX.app{Wx:World}{m':List ByteArray}{v':Value}(h:IX w R q g n c l s va m ob W)(hR:R<w.heap.size)(hown:Wx.ownsRow w.heap.size 9 1 v' (m.length+m'.length) (m.map J++m'.map J))(hg:W.grownBy Wx va.ownBlock)(ef:v'.ownBlock=va.ownBlock\/v'.ownBlock=I W.heap.size)(hsm:∀x∈m',x.size<=300/\Ss.tQ x):IX w R q g n c l s v' (m++m') ob Wx:=by
 have h1:=cV h.d.ow
 refine⟨h.d.far hR hg (λk hk=>⟨mQ h.e.ow k hk,h.a k hk⟩),by rw[List.length_append];exact h.e.app hR hown hg rfl hsm,λk hk=>?_,λb hb=>⟨?_,λk hk=>?_⟩⟩
 .rcases ef with e|e<;>rw[e] at hk
  .exact h.a k hk
  .injection hk with hk;omega
 .have h2:=h.b b hb
  exact b7 (hg.block b (am h2.1) (λe=>h2.2 b e.symm rfl)) h2.1
 .have h2:=h.b b hb
  have h3:=am h2.1
  rcases ef with e|e<;>rw[e] at hk
  .exact h2.2 k hk
  .injection hk with hk;omega
open Go.RowKit Sd Tx
theorem IX.step{ops:Array Oper}{o:Oper}{act:Act}{K:Act->World->Prop}{Q:Exit->Act->World->Prop}{E:Prop}(h:IX w R q g n c l s va m ob W)(hR:R<w.heap.size)(s1 x:Operand)(ho:o.op=.call { callee:=.builtin .append,args:=#[s1,x],argTypes:=#[28,28] })(hs:act.eval s1=va)(ao:Option Addr)(nn cc:Nat)(m':List ByteArray)(hx:act.eval x=AG ao nn cc)(hn:m'.length=nn)(hsrc:nn=0 \/ ∃ad,ao=I ad/\∀j u,(m'.map J)[j]?=I u->W.cell? (ad.add j)=I u)(hsm:∀x∈m',x.size<=300/\Ss.tQ x)(hl:m.length+nn<=10000)(k:∀v' W',IX w R q g n c l s v' (m++m') ob W'->K (act.put o.dst v') W')(hgd:o.guard=U:=by rfl):if Region.wanted o (yielded ops act.tmps)=true then Oper.wp prog o act W K Q else E:=by
 obtain⟨i0,hi,cy,cx,en⟩:=info_parts og;subst hn
 refine bt W hgd s1 x 28 ho w.heap.size 9 i0 (J ByteArray.empty) 1 16 underlying28 hi cy cx en rfl (by decide) va m.length (m.map J) hs h.e.ow ao m'.length cc (m'.map J) hx hsrc (by simp) (λu hu=>by rw[List.mem_map] at hu;obtain⟨x,-,rfl⟩:=hu;rfl) (by unfold maxLen;omega) (by omega) h.e.gr.size (λv' W' h1 h2 h3=>k v' W' (h.app hR h1 h2 h3 hsm))
theorem Ag(v:Value)(n:Nat)(w:World)(h:zh w v n) :
 Calls prog 4 #[v] w λe w'=>∃s:ByteArray,e=AK (J s)/\s.size<=1048576/\Ss.tQ s/\Bw w w':=by
 have HA:=dx h;obtain⟨a,cap,rfl,-⟩:=h
 go_enter func4,ntmps4
 go_wp2_with fail;refine(Nt _ n _ HA).mono ?_;rintro e w2⟨R,rfl,hR,dt,ae⟩;have B2:=dx ae;have R2:=dx dt
 have e6:w.heap.size<=R:=by omega
 have au:=dt.lt;go_wp2_with fail
 refine(Nn R 0 _ R2 (by omega)).mono ?_
 rintro e w3⟨v,l,rfl,b6,eJ,q3,hq0,hq1,eb⟩
 obtain⟨g,c,rfl,b5,ax⟩:=lI eb.ow (by omega)
 unfold maxLen at ax;have D3:=dx eb;go_wp2_with fail
 refine(aJ R q3 3 _ D3.rd (by omega) (by omega)).mono ?_
 rintro e w4⟨x,rfl,hx0,hx1,-,ew,eR⟩;have D4:=dx (D3.grow au ew eR);obtain⟨q4,ez⟩:∃q4:Nat,q4=q3+1:=⟨_,rfl⟩;rw[<-ez] at D4
 have eo:x=0\/(x==0)=false:=by by_cases h:x=0<;>simp[h]
 rcases eo with rfl|hxb
 focus
  go_wp2_with fail
  refine(KC R q4 _ l _ D4.rd (by omega) (bq (by have h:=D4.ow;rw[<-D4.out.len] at h;exact h) (λe=>by rw[e] at b6;simp at b6)) b6 eJ (λx hx=>(D4.sm x hx).1) (λx hx=>(D4.sm x hx).2.2)).mono ?_
  rintro e w4⟨v,l,rfl,eI,hl4,q4,hq2,hq3,bP⟩
  have ey:q4<=1400:=by omega
  obtain⟨g,c,rfl,b5,ax⟩:=lI bP.ow eI;unfold maxLen at ax;have D5:Hid (DT w2 w4 R q4 (AG (I ⟨g,0,U⟩) l.length c) l.length l):=⟨bP.rd,dK D4.gr bP.gr,aX bP.ow D4.gr.size,rfl,bP.sm⟩
 rotate_left
 focus
  have D5:Hid (DT w2 w4 R q4 (AG (I ⟨g,0,U⟩) l.length c) l.length l):=⟨D4.rd,D4.gr,D4.ow,rfl,λx hx=>⟨AN (D4.sm x hx).1 (by omega),(D4.sm x hx).2.2.tQ⟩⟩
  have ey:q4<=1400:=by omega
 all_goals
  go_wp2_with fail
  refine(aJ R q4 12 _ D5.rd (by omega) (by omega)).mono ?_
  rintro e w5⟨y,rfl,dr,aT,-,Aw,eP⟩
  have aT:=aT (by omega)
  obtain⟨m,rfl⟩:∃n:Nat,y=n:=⟨y.toNat,by omega⟩
  have D6:=dx (D5.grow au Aw eP);go_wp2_with fail
  go_loopw [4,5] (λo i wr=>∃(k q:Nat) (l':List ByteArray),k<=m/\i=AD AE k/\q+3*k<=q4+1+3*m/\l'.length+k=l.length+m/\Hid (DT w2 wr R q o l'.length l')) (λ_ i _=>(intOf i).toNat)
  case atStart=>exact⟨m,q4+1,l,An _,rfl,An _,rfl,D6⟩
  case round =>
   obtain⟨k,q,l',hk,rfl,hq,hlm,HD⟩:=hrel
   by_cases af:0<k
   .have dz:(0:Int)<(k:Int):=by omega
    obtain⟨g',c',rfl,eC,c6⟩:=lI HD.ow (by omega)
    unfold maxLen at c6;have HK:Hid (Bw wr (wr.alloc (AF #[J ⟨#[102,108,105,103,104,116,115]⟩,J ⟨#[112,97,116,104,32,107,108,49]⟩,J ⟨#[112,97,116,104,32,98,97,45,50]⟩,J ⟨#[112,97,116,104,32,108,104,51]⟩,J ⟨#[111,118,101,114,32,107,108,49,32,97,108,102,97]⟩,J ⟨#[111,118,101,114,32,107,108,49,32,99,104,97,114]⟩,J ⟨#[111,118,101,114,32,98,97,45,50,32,98,114,97,118]⟩,J ⟨#[112,97,116,104]⟩,J ⟨#[111,118,101,114,32,107,108,49]⟩,J ⟨#[102,108,105,103,104,116,115,32,120]⟩,J ⟨#[112,97,116,104,32,110,111,110,101]⟩,J ⟨#[115,101,116,32,107,108,49,32,115,116,97,116,101,32,49,51,32,99,108,111,115,101,100]⟩,J ⟨#[115,101,116,32,107,108,49,32,115,116,97,116,101,32,49,52,32,111,112,101,110]⟩,J ⟨#[115,101,116,32,107,108,49,32,108,101,118,101,108,32,49,51,32,49]⟩] 9))):=(aG)
    have HS:Hid (dR (wr.alloc (AF #[J ⟨#[102,108,105,103,104,116,115]⟩,J ⟨#[112,97,116,104,32,107,108,49]⟩,J ⟨#[112,97,116,104,32,98,97,45,50]⟩,J ⟨#[112,97,116,104,32,108,104,51]⟩,J ⟨#[111,118,101,114,32,107,108,49,32,97,108,102,97]⟩,J ⟨#[111,118,101,114,32,107,108,49,32,99,104,97,114]⟩,J ⟨#[111,118,101,114,32,98,97,45,50,32,98,114,97,118]⟩,J ⟨#[112,97,116,104]⟩,J ⟨#[111,118,101,114,32,107,108,49]⟩,J ⟨#[102,108,105,103,104,116,115,32,120]⟩,J ⟨#[112,97,116,104,32,110,111,110,101]⟩,J ⟨#[115,101,116,32,107,108,49,32,115,116,97,116,101,32,49,51,32,99,108,111,115,101,100]⟩,J ⟨#[115,101,116,32,107,108,49,32,115,116,97,116,101,32,49,52,32,111,112,101,110]⟩,J ⟨#[115,101,116,32,107,108,49,32,108,101,118,101,108,32,49,51,32,49]⟩] 9)) (AG (I ⟨wr.heap.size,0,U⟩) 14 14) UU):=tF UU (aO wr _) rfl (by decide)
    have E1:=dx (HD.call HK);go_wp2_with fail
    refine(yt R q _ UU _ E1.rd (by omega) HS (by decide)).mono ?_
    rintro e w6⟨s,rfl,hs,ev,eN⟩;have e9:=dx (ask_ok s hs);have E2:=dx (E1.grow au ev eN);go_wp2_with fail
    refine(aJ R (q+1) (((l'.length:Nat):Int)+1) _ E2.rd (by omega) (by omega)).mono ?_
    rintro e w7⟨y,rfl,dr,aT,-,Mo,Ew⟩
    have aT:=aT (by omega)
    obtain⟨j,rfl⟩:∃n:Nat,y=n:=⟨y.toNat,by omega⟩
    have E3:=dx (E2.grow au Mo Ew);go_wp2_with fail
    refine(aJ R (q+1+1) 2 _ E3.out.rd (by omega) (by omega)).mono ?_
    rintro e w8⟨z,rfl,cy,cx,-,et,eM⟩;have E4:=dx (E3.out.grow au et eM);have ct:=dx E4.out.sm
    have ek:z=0\/(z==0)=false:=by by_cases h:z=0<;>simp[h]
    have dT:j<=l'.length:=by omega
    clear dr aT
    rcases ek with rfl|hzb
    focus
     clear dT;obtain⟨j,hi,dT⟩:∃i:Nat,((l'.length:Nat):Int)=(i:Int)/\i<=l'.length:=⟨_,rfl,An _⟩;have HI:=dx hi;clear hi;go_wp2;rw[HI.out]
    rotate_left
    focus go_wp2
    all_goals
     have hj0:(0:Int)<=(j:Int):=by omega
     have hjc:(j:Int)<=(c':Int):=by omega
     have hjl:(j:Int)<=((l'.length:Nat):Int):=by omega
     refine wp_region_noPanic ?_
     refine wp_region_held_drew (S:=λ_=>True) (by kernel_rfl) trivial (λai=>?_)
     have X0:=dx (IX.start s (E4.call (AS _ _).drew));generalize w8.drew=W0 at *
     obtain⟨ab,c9⟩:∃ab:Option Addr,(if c'=j then I (⟨g',0,U⟩:Addr) else I ⟨g',j,U⟩)=ab:=⟨_,rfl⟩
     have fk:=dx c9;refine aV 1 ?_;refine aV 2 ?_;refine aV 3 ?_;refine aV 5 ?_;refine aV 8 ?_;refine aV 9 ?_;refine aV 10 ?_
     simp only[AM,aK]
     refine ny 0 6 rfl rfl (λK hK=>?_) (λK hK=>?_)
     focus
      go_simp;have X1:=dx X0.Ch;refine hK _ _ trivial (λ_=>?_);generalize hW:(W0).alloc _=W1 at *;generalize(W0).heap.size=NS at *;refine ny 4 6 rfl rfl (λK hK=>?_) (λK hK=>?_)
      focus
       refine X1.step au _ _ rfl rfl (I ⟨g',0,U⟩) j c' (l'.take j) rfl (by simp;omega) (.inr ⟨_,rfl,X1.d.src 0 (l'.take j) (λi x hi=>by rw[Ax];exact vS hi)⟩) (λx h=>ct x (AW h)) (by simp;omega) ?_
       intro va W2 hx;have X2:=dx hx;refine hK _ _ trivial (λ_=>?_);refine be 6 (λK hK=>?_);go_simp;have X3:=dx X2.uu;refine hK _ _ trivial (λ_=>?_);generalize hW:(W2).alloc _=W3 at *;generalize(W2).heap.size=b at *
      rotate_left
      focus
       go_simp;have X2:=dx X1.uu;refine hK _ _ trivial (λ_=>?_);generalize hW:(W1).alloc _=W2 at *;generalize(W1).heap.size=b at *;refine be 4 (λK hK=>?_)
       refine X2.step au _ _ rfl rfl (I ⟨g',0,U⟩) j c' (l'.take j) rfl (by simp;omega) (.inr ⟨_,rfl,X2.d.src 0 (l'.take j) (λi x hi=>by rw[Ax];exact vS hi)⟩) (λx h=>ct x (AW h)) (by simp;omega) ?_
       intro va W3 hx;have X3:=dx hx;refine hK _ _ trivial (λ_=>?_)
     rotate_left 2
     focus
      go_simp;have X1:=dx X0.uu;refine hK _ _ trivial (λ_=>?_);generalize hW:(W0).alloc _=W1 at *;generalize(W0).heap.size=b at *;refine be 0 (λK hK=>?_);go_simp;have X2:=dx X1.Ch;refine hK _ _ trivial (λ_=>?_);generalize hW:(W1).alloc _=W2 at *;generalize(W1).heap.size=NS at *;refine be 4 (λK hK=>?_)
      refine X2.step au _ _ rfl rfl (I ⟨g',0,U⟩) j c' (l'.take j) rfl (by simp;omega) (.inr ⟨_,rfl,X2.d.src 0 (l'.take j) (λi x hi=>by rw[Ax];exact vS hi)⟩) (λx h=>ct x (AW h)) (by simp;omega) ?_
      intro va W3 hx;have X3:=dx hx;refine hK _ _ trivial (λ_=>?_)
    all_goals
     obtain⟨e0,hob⟩:=X3.b _ rfl;rw[List.nil_append] at X3;refine be 7 (λK hK=>?_)
     refine X3.step au _ _ rfl rfl (I ⟨b,0,U⟩) 1 1 [s] rfl rfl (.inr ⟨_,rfl,λi u hu=>?_⟩) (λx h=>by rw[List.mem_singleton] at h;subst h;exact e9) (by simp;omega) ?_
     focus
      match i,hu with
      |0,hu=>simp at hu;subst hu;exact e0
      |i+1,hu=>simp at hu
     intro vb W4 hx;have X4:=dx hx;refine hK _ _ trivial (λ_=>?_);refine be 11 (λK hK=>?_)
     refine X4.step au _ _ rfl rfl ab (l'.length-j) (c'-j) (l'.drop j) rfl (by simp) ?_ (λx h=>ct x (List.mem_of_mem_drop h)) (by simp;omega) ?_
     focus
      by_cases eW:c'=j
      .left;omega
      .right
       have h1:=fk.out;rw[if_neg eW] at h1
       exact⟨_,h1.symm,X4.d.src j (l'.drop j) (λi x hi=>by rw[List.getElem?_drop] at hi;exact hi)⟩
     intro vc W5 hx;have X5:=dx hx.e;refine hK _ _ trivial (λai=>?_);refine aV 12 ?_
     simp only[AM,aK]
     refine vI ?_;refine NoPanic.normal ?_
     have xK:Hid ((l'.take j++[s]++l'.drop j).length=l'.length+1):=by show _=_;simp;omega
     go_wp2_with fail
     exact⟨⟨k-1,q+1+1+1,l'.take j++[s]++l'.drop j,by omega,by go_num,by omega,by rw[xK.out];omega,X5⟩,by simp[intOf];omega⟩
   .have dy:k=0:=by omega
    subst dy;obtain⟨a',c',rfl⟩:=bR HD.ow;go_wp2_with fail
    refine(H8 _ l' _ (aX HD.ow (AT _)) (by omega) (λx hx=>AN (HD.sm x hx).1 (by omega))).mono ?_
    rintro e w6⟨rfl,hs,rfl⟩;go_wp2_with fail
    exact bv (J ⟨(joinL l').toArray⟩) ⟨_,rfl,by omega,Ss.Kl l' (λx hx=>(HD.sm x hx).2),below_grown B2 HD.gr e6⟩ (by simp[results,results4,go_sem])
end Go.Proofs.YtolokangldmodaaGreatDoor.Dr
namespace Go.Proofs.YtolokangldmodaaGreatDoor.Ss
open Go.RowKit Sd Tx Pa
def Hr:Option (Int×Nat)->Int->Bool
 |some p,n=>decide (n=p.1+1)
 |none,_=>false
theorem q_kn(ws:List ByteArray):qB ws=Hr (kn (dC ws 0)) (ws.length:Int):=by
 unfold qB qk kn
 by_cases h3:dC ws 0=jZ
 .rw [if_pos h3,h3,if_neg (by rintro⟨h,-⟩;revert h;decide),if_neg (by rintro⟨h,-⟩;revert h;decide)]
  by_cases hl:ws.length=3
  .rw [if_pos ⟨rfl,hl⟩];simp[Hr,hl]
  .rw [if_neg (λh=>hl h.2)];simp[Hr];omega
 .by_cases h2:dC ws 0=j5
  .rw [if_neg h3,if_pos h2,h2,if_neg (by rintro⟨h,-⟩;revert h;decide)]
   by_cases hl:ws.length=2
   .rw [if_pos ⟨rfl,hl⟩];simp[Hr,hl]
   .rw [if_neg (λh=>hl h.2),if_neg (by rintro⟨h,-⟩;revert h;decide)];simp[Hr];omega
  .by_cases h1:dC ws 0=gJ
   .rw [if_neg h3,if_neg h2,if_pos h1,h1]
    by_cases hl:ws.length=1
    .rw [if_pos ⟨rfl,hl⟩];simp[Hr,hl]
    .rw [if_neg (λh=>hl h.2),if_neg (by rintro⟨h,-⟩;revert h;decide),if_neg (by rintro⟨h,-⟩;revert h;decide)];simp[Hr];omega
   .rw [if_neg h3,if_neg h2,if_neg h1,if_neg (λh=>h1 h.1),if_neg (λh=>h2 h.1),if_neg (λh=>h3 h.1)];rfl
theorem TU{p:Int×Nat}(hl:okL s)(hk:kn (dC (dA s) 0)=I p)(hn:((dA s).length:Int)=p.1+1):∀x∈(dA s).tail,dJ x=true:=λx hx=>by
 have ht:okT (bytes s)->dJ x=true:=λh=>by
  unfold dA at hx;rw[<-List.map_tail] at hx;obtain⟨y,hy,rfl⟩:=List.mem_map.1 hx;exact h y hy
 rcases hl with⟨h1,h2⟩|h
 .unfold kn at hk
  rw[if_neg h2,if_neg h1] at hk
  split at hk
  .injection hk with hk
   subst hk
   have h0:(dA s).tail=[]:=Aj (by rw[At];simp at hn;omega)
   rw[h0] at hx
   cases hx
  .cases hk
 .exact ht h
theorem bA{b o:Nat}{n:Int}(hX:w.heap[X]?=I (AF #[AD AE n,.nilFunc] T (0,0)))(C:Array Value)(hc:w.cell? ⟨b,o,U⟩=I (J s)):(w.setRow X C).cell? ⟨b,o,U⟩=I (J s):=by
 have bn:b≠X:=λe=>by
  subst e
  simp only[AO,hX] at hc
  match o,hc with
  |0,hc=>simp at hc
  |1,hc=>simp at hc
  |o+2,hc=>simp at hc
 exact b7 (ni bn) hc
theorem Sl{n:Int}(h:dR w v l)(hX:w.heap[X]?=I (AF #[AD AE n,.nilFunc] T (0,0)))(C:Array Value):dR (w.setRow X C) v l:=by
 obtain⟨g,o,c,e,h1,h2,h3⟩:=h;exact⟨g,o,c,e,h1,h2,λi x hx=>bA hX C (h3 i x hx)⟩
theorem strs_fn{n:Int}{f:Value}{a b:Array Value}(h:dR w v l)(hX:w.heap[X]?=I (AF #[AD AE n,f] T (0,0)))(hf:f=.func (.func F) a b)(C:Array Value):dR (w.setRow X C) v l:=by
 subst hf;obtain⟨g,o,c,e,h1,h2,h3⟩:=h;refine⟨g,o,c,e,h1,h2,λi x hx=>?_⟩;have hc:=h3 i x hx
 have bn:g≠X:=λe=>by
  subst e
  simp only[AO,hX] at hc
  generalize o+i=q at hc
  match q,hc with
  |0,hc=>simp at hc
  |1,hc=>simp at hc
  |q+2,hc=>simp at hc
 exact b7 (ni bn) hc
theorem Br(X:Nat)(s:ByteArray)(w:World)(hs:s.size<=1048576)(hl:okL s) :
 Calls prog 31 #[AH (I ⟨X,0,U⟩),J s] w λe w'=>Bw w w'/\((qB (dA s)=false/\∃n f vn,e=AK (AJ #[.agg #[AD AE n,f],vn,AI false])/\(f=.nilFunc \/ ∃F a b,f=.func (.func F) a b))\/(qB (dA s)=true/\∃n F vn,kn (dC (dA s) 0)=I (n,F)/\e=AK (AJ #[qV X n F,vn,AI true])/\dR w' vn (dA s).tail)):=by
 have ck:=ag (q_kn (dA s));have Rp:=ag (λp=>TU (p:=p) hl);have HW:Hid (∀wx:World,Calls prog 49 #[J s] wx λe w'=>∃v,e=AK v/\dR w' v (dA s)/\Bw wx w'):=λwx=>l5 s wx hs;have tq:Hid _:=AN (dh (xk s)) hs
 obtain⟨m,hm⟩:∃m,(dA s).length=m+1:=⟨(dA s).length-1,by have:=xk s;omega⟩
 generalize dA s=ws at *;have cp:=ag hm;rw[hm] at ck;have fi:=ag (pW.new w #[AD AE 0,.nilFunc] 73)
 go_enter func31,ntmps31
 go_wp2_with fail;refine(HW _).mono ?_;rintro e w1⟨v,rfl,hv,ak⟩;have HV:=ag hv;obtain⟨g,off,cap,rfl,b5,ax,-⟩:=hv;rw[cp.out] at b5 ⊢;unfold maxLen at ax;have aL:=ag (fi.call ak)
 have ca:Hid (∀wx:World,Bw w1 wx->wx.cell? ⟨g,off,U⟩=I (J (dC ws 0))):=λwx hx=>(HV.keep hx).cellS 0 (by have h:ws.length=m+1:=cp;omega)
 have vK:Hid (ws.tail.length=m):=by show _=_;rw[At,cp.out];rfl
 obtain⟨na,c9⟩:∃na:Option Addr,(if cap=1 then I (⟨g,off,U⟩:Addr) else I ⟨g,off+1,U⟩)=na:=⟨_,rfl⟩
 have HT:Hid (dR w1 (AG na m (cap-1)) ws.tail):=by
  rw[<-c9]
  by_cases c7:cap=1
  .rw [if_pos c7]
   have h0:m=0:=by omega
   have ht:=Aj (by rw[vK.out];exact h0)
   rw[ht,h0,c7]
   exact⟨g,off,0,rfl,AT _,AT _,λi x hx=>by simp at hx⟩
  .rw [if_neg c7]
   obtain⟨g',o',c',e,h2,h3,h4⟩:=HV
   injection e with e1 e2 e3
   injection e1 with e1
   injection e1 with e1 e5
   subst e1 e5 e3
   refine⟨g,off+1,cap-1,by rw[vK.out],by rw[vK.out];omega,by unfold maxLen;omega,λi x hx=>?_⟩
   rw[List.getElem?_tail] at hx;have:=h4 (i+1) x hx;rw[Nat.add_assoc,Nat.add_comm 1 i];exact this
 go_wp2_with fail;refine wp_region_noPanic ?_;have HX:=ag aL.drew;have HD:Hid (Bw w1 w1.drew):=(AS _ _).drew
 refine wp_region_held_drew (S:=λw'=>w'.cell? ⟨g,off,U⟩=I (J (dC ws 0))) (by kernel_rfl) (ca _ HD) (λai=>?_)
 generalize World.drew _=W at *;refine aV 0 ?_;refine aV 2 ?_;refine aV 3 ?_;refine aV 4 ?_
 simp only[AM,aK]
 refine be 1 (λK hK=>?_);go_simp;refine(Ef X _).mono ?_;rintro e V⟨mg,rfl,eA,hb⟩
 replace HX:=ag (HX.call hb)
 replace HD:=ag (aa HD hb)
 have dv:=q_look eA (dC ws 0) tq;refine hK _ _ (ca _ HD) (λ_=>?_);generalize hkw:kn (dC ws 0)=kw at *;have fg:=ag hkw
 obtain⟨qn,qf,cg,cl⟩:∃(qn:Int) (qf:Value),Hid (qOf X kw=.agg #[AD AE qn,qf]/\(kw=U/\qf=.nilFunc \/ ∃F,kw=I (qn,F)/\qf=.func (.func F) #[AH (I ⟨X,0,U⟩)] #[]))/\Hid (qf.oneCell'=true):=by
  cases kw with
  |none=>exact⟨0,.nilFunc,⟨rfl,.inl ⟨rfl,rfl⟩⟩,rfl⟩
  |some p=>exact⟨p.1,_,⟨rfl,.inr ⟨p.2,rfl,rfl⟩⟩,rfl⟩
 rw[cg.out.1] at dv;obtain⟨kb,Mt⟩:∃kb:Bool,Hid (kw.isSome=kb):=⟨_,rfl⟩;rw[Mt.out] at dv;refine be 5 (λK hK=>?_);go_simp;refine hK _ _ (ca _ HD) (λ_=>?_);refine aV 6 ?_;refine aV 7 ?_;refine aV 8 ?_
 simp only[AM,aK]
 refine be 9 (λK hK=>?_);refine PS w.heap.size #[AD AE qn,qf] HX.c ?_ (h1:=(mW cl));have vJ:Hid (pW w w.heap.size #[AD AE qn,qf] 73 (V.setRow w.heap.size #[AD AE qn,qf])):=⟨bL HX.b,oN HX.c⟩;have eh:Hid (∀wx:World,Bw (V.setRow w.heap.size #[AD AE qn,qf]) wx->dR wx (AG _ _ _) ws.tail):=λwx hx=>(Sl (HT.keep HD) HX.c _).keep hx;have e4:(V.setRow w.heap.size #[AD AE qn,qf]).cell? ⟨g,off,U⟩=I (J (dC ws 0)):=bA HX.c _ (ca _ HD);refine hK _ _ e4 (λ_=>?_);refine aV 10 ?_
 simp only[AM,aK]
 refine vI ?_;refine NoPanic.normal ?_;generalize V.setRow _ _=V3 at *;go_wp2_with fail;refine wp_region_noPanic ?_;have HX:=ag vJ.drew;have HD:Hid (Bw V3 V3.drew):=(AS _ _).drew
 refine wp_region_held_drew (S:=λw'=>w'.cell? ⟨w.heap.size,0,U⟩=I (AD AE qn)/\w'.cell? ⟨w.heap.size,1,U⟩=I qf) (by kernel_rfl) ⟨HX.cell 0,HX.cell 1⟩ (λai=>?_)
 generalize World.drew _=W4 at *
 cases kb
 .have ay:Hid (qB ws=false):=by
   cases kw with
   |none=>exact ck.out
   |some p=>exact absurd Mt.out (by simp)
  refine aV 0 ?_;refine aV 1 ?_;refine aV 2 ?_;refine aV 3 ?_
  simp only[AM,aK]
  refine Gr 4 ?_;refine Gr 5 ?_;refine Gr 6 ?_;refine Gr 7 ?_;refine Gr 8 ?_
  simp only[AM,aK]
  refine aV 9 ?_;refine aV 10 ?_
  simp only[AM,aK]
  refine Gr 11 ?_;refine Gr 12 ?_;refine aV 13 ?_
  simp only[AM,aK]
  refine be 14 (λK hK=>?_);refine PS w.heap.size #[AD AE qn,qf] HX.c ?_ (h1:=(mW cl));have vJ:Hid (pW w w.heap.size #[AD AE qn,qf] 73 (W4.setRow w.heap.size #[AD AE qn,qf])):=⟨bL HX.b,oN HX.c⟩;refine hK _ _ ⟨vJ.cell 0,vJ.cell 1⟩ (λ_=>?_);refine aV 15 ?_;refine aV 16 ?_
  simp only[AM,aK]
  refine vI ?_;refine NoPanic.normal ?_;have gq:=vJ.out.c;have q0:=vJ.cell 0;have q1:=vJ.cell 1;go_wp2_with fail
  exact bv (AJ #[.agg #[AD AE qn,qf],_,AI false]) ⟨vJ.b,.inl ⟨ay,_,_,_,rfl,cg.2.elim (λh=>.inl h.2) (λ⟨F,h⟩=>.inr ⟨F,_,_,h.2⟩)⟩⟩ (by simp[results,results31,go_sem,q0,q1];try rfl)
 .obtain ⟨F,bb⟩:∃F,Hid (kw=I (qn,F)/\qf=.func (.func F) #[AH (I ⟨X,0,U⟩)] #[]):=by
   rcases cg.2 with⟨h,-⟩|⟨F,h⟩
   .rw [h] at Mt;exact absurd Mt.out (by simp)
   .exact ⟨F,h⟩
  by_cases b4:(m:Int)=qn
  .have eE:((m:Int)==qn)=true:=by simp[b4]
   have fc:Hid (qB ws=true):=by show _=_;rw[ck.out,bb.out.1];simp[Hr,b4]
   have cu:Hid _:=Rp _ bb.1 (by rw[cp.out];simp[b4])
   refine aV 0 ?_;refine aV 1 ?_;refine aV 2 ?_;refine aV 3 ?_
   simp only[AM,aK]
   refine aV 4 ?_;refine aV 5 ?_;refine aV 6 ?_;refine aV 7 ?_;refine aV 8 ?_
   simp only[AM,aK]
   refine aV 9 ?_;refine aV 10 ?_
   simp only[AM,aK]
   refine aV 11 ?_
   simp only[AM,aK]
   refine be 12 (λK hK=>?_);go_simp;refine(IG _ _ _ (eh _ HD) cu).mono ?_;rintro e W5⟨rfl,hb⟩
   replace HX:=ag (HX.call hb)
   replace HD:=ag (aa HD hb)
   refine hK _ _ ⟨HX.cell 0,HX.cell 1⟩ (λ_=>?_);refine aV 13 ?_
   simp only[AM,aK]
   refine be 14 (λK hK=>?_);refine PS w.heap.size #[AD AE qn,qf] HX.c ?_ (h1:=(mW cl));have vJ:Hid (pW w w.heap.size #[AD AE qn,qf] 73 (W5.setRow w.heap.size #[AD AE qn,qf])):=⟨bL HX.b,oN HX.c⟩;refine hK _ _ ⟨vJ.cell 0,vJ.cell 1⟩ (λ_=>?_);refine aV 15 ?_;refine aV 16 ?_
   simp only[AM,aK]
   refine vI ?_;refine NoPanic.normal ?_;have gq:=vJ.out.c;have e8:=ag (strs_fn (eh _ HD) HX.c bb.2 #[AD AE qn,qf])
   have fh:Hid (Value.agg #[AD AE qn,qf]=qV X qn F):=by show _=_;rw[bb.out.2];rfl
   have q0:=vJ.cell 0;have q1:=vJ.cell 1;go_wp2_with fail
   exact bv (AJ #[.agg #[AD AE qn,qf],_,AI true]) ⟨vJ.b,.inr ⟨fc,qn,F,_,fg.trans bb.1,by rw[fh.out],e8⟩⟩ (by simp[results,results31,go_sem,q0,q1];try rfl)
  .have eE:((m:Int)==qn)=false:=by simp[b4]
   have ay:Hid (qB ws=false):=by show _=_;rw[ck.out,bb.out.1];simp[Hr];omega
   refine aV 0 ?_;refine aV 1 ?_;refine aV 2 ?_;refine aV 3 ?_
   simp only[AM,aK]
   refine aV 4 ?_;refine aV 5 ?_;refine aV 6 ?_;refine aV 7 ?_;refine aV 8 ?_
   simp only[AM,aK]
   refine aV 9 ?_;refine aV 10 ?_
   simp only[AM,aK]
   refine Gr 11 ?_;refine Gr 12 ?_;refine aV 13 ?_
   simp only[AM,aK]
   refine be 14 (λK hK=>?_);refine PS w.heap.size #[AD AE qn,qf] HX.c ?_ (h1:=(mW cl));have vJ:Hid (pW w w.heap.size #[AD AE qn,qf] 73 (W4.setRow w.heap.size #[AD AE qn,qf])):=⟨bL HX.b,oN HX.c⟩;refine hK _ _ ⟨vJ.cell 0,vJ.cell 1⟩ (λ_=>?_);refine aV 15 ?_;refine aV 16 ?_
   simp only[AM,aK]
   refine vI ?_;refine NoPanic.normal ?_;have q0:=vJ.cell 0;have q1:=vJ.cell 1;go_wp2_with fail
   exact bv (AJ #[.agg #[AD AE qn,qf],_,AI false]) ⟨vJ.b,.inl ⟨ay,_,_,_,rfl,cg.2.elim (λh=>.inl h.2) (λ⟨F,h⟩=>.inr ⟨F,_,_,h.2⟩)⟩⟩ (by simp[results,results31,go_sem,q0,q1];try rfl)
open Go.RowKit Sd Tx Pa
theorem F9(p:Addr)(x y:ByteArray)(w:World)(hc:w.cell? p=I (J y))(hz:w.frozen? p=false) :
 CallsD prog 30 #[AH (I p)] (.panicking [{ v:=.iface 70 (J x),recovered:=false }]) w λe u' w' =>
 e=AK (AJ #[])/\u'=.panicking [{ v:=.iface 70 (J x),recovered:=true }]/\w'=w.setCell p (J x):=by
 have ha:∀w:World,(Instr.typeAssert (.iface 70 (J x)) 20 70 true).run prog w=.ok (AJ #[J x,AI true]) w:=λ_=>by kernel_rfl
 refine callsD_of_wpS func30 rfl λc₀ cs hu=>?_
 apply wpS_seq
 apply wpS_region
 simp[wpOpsS,go_sem,recoverD,hu,ntmps30,Exit.thenS,ha]
 apply wpS_seq
 apply wpS_region
 simp[wpOpsS,go_sem,Exit.thenS]
 refine wpS_cond (t:=true) (by simp[Act.eval,Array.replicate]) ?_
 simp only[if_true]
 apply wpS_region
 simp[wpOpsS,go_sem,hc,hz,bodyPostS,results,results30]
theorem Dq(p:Addr)(w:World) :
 CallsD prog 30 #[AH (I p)] .returning w λe u' w'=>e=AK (AJ #[])/\u'=.returning/\w'=w:=by
 have ha:∀w:World,(Instr.typeAssert .nilIface 20 70 true).run prog w=.ok (AJ #[J ⟨#[]⟩,AI false]) w:=λ_=>by kernel_rfl
 refine callsD_of_wpS func30 rfl λc₀ cs hu=>?_
 apply wpS_seq
 apply wpS_region
 simp[wpOpsS,go_sem,recoverD,hu,ntmps30,Exit.thenS,ha]
 apply wpS_seq
 apply wpS_region
 simp[wpOpsS,go_sem,Exit.thenS]
 refine wpS_cond (t:=false) (by simp[Act.eval,Array.replicate]) ?_
 simp only[Bool.false_eq_true,if_false]
 refine wpS_of_wp (wp_skip ?_)
 cases c₀
 simp_all[bodyPostS,results,results30]
structure AX (w wr:World) (X:Nat) (b:Bk) (x y z:Value) (num:Int) (s:ByteArray) (V:World):Prop where
 si:SI w X b x y z V
 y:V.heap[wr.heap.size]?=I (AF #[AD AE num,J s] 47 (0,0))
 a:V.heap[wr.heap.size+1]?=I (AF #[J ⟨#[]⟩] 9 (0,0))
 g:wr.grownBy V (I X)
 lt:X<wr.heap.size
theorem AX.call(h:AX w wr X b x y z num s V)(hb:Bw V V'):AX w wr X b x y z num s V':=⟨h.si.call hb,kept hb h.y,kept hb h.a,Dr.dK h.g (Dr.grown_of hb _),h.lt⟩
theorem AX.take{x' y' z':Value}(h:AX w wr X b x y z num s V)(hs:SI w X b' x' y' z' V')(hg:V.grownBy V' (I X)):AX w wr X b' x' y' z' num s V':=by
 have hl:=h.lt
 exact⟨hs,(hg.block _ (Array.getElem?_eq_some_iff.1 h.y).1 (λe=>by injection e;omega)).trans h.y,(hg.block _ (Array.getElem?_eq_some_iff.1 h.a).1 (λe=>by injection e;omega)).trans h.a,Dr.dK h.g hg,hl⟩
theorem AX.new(num:Int)(s:ByteArray)(h:SI w X b x y z wr):AX w wr X b x y z num s ((wr.alloc (AF #[AD AE num,J s] 47)).alloc (AF #[J ⟨#[]⟩] 9)):=by
 have b1:Bw wr (wr.alloc (AF #[AD AE num,J s] 47)):=(aG);have b2:Bw (wr.alloc (AF #[AD AE num,J s] 47)) ((wr.alloc (AF #[AD AE num,J s] 47)).alloc (AF #[J ⟨#[]⟩] 9)):=(aG);have ha:=aS (wr.alloc (AF #[AD AE num,J s] 47)) (AF #[J ⟨#[]⟩] 9);rw[World.size_alloc] at ha;exact⟨(h.call b1).call b2,kept b2 (aS wr _),ha,Dr.dK (Dr.grown_of b1 _) (Dr.grown_of b2 _),h.lt⟩
theorem AX.fin(h:AX w wr X b x y z num s V)(t:ByteArray):SI w X b x y z (V.setCell ⟨wr.heap.size+1,0,U⟩ (J t))/\wr.grownBy (V.setCell ⟨wr.heap.size+1,0,U⟩ (J t)) (I X)/\(V.setCell ⟨wr.heap.size+1,0,U⟩ (J t)).cell? ⟨wr.heap.size+1,0,U⟩=I (J t):=by
 have hl:=h.lt;rw[setCell_eq_setRow _ _ _ _ _ _ _ h.a]
 refine⟨h.si.far h.a (by omega) (by decide) (by decide) (by decide) (by decide),Dr.mY h.g (aH V _ _) (λq e=>by injection e;omega),?_⟩
 simp[AO,oN h.a]
theorem KI{n:Int}(h:kn s=I (n,F)):(s=jZ/\n=2/\F=83)\/(s=j5/\n=1/\F=82)\/(s=gJ/\n=0/\F=81):=by
 unfold kn at h
 split at h
 .rename_i e;injection h with h;injection h with h1 h2;exact .inl ⟨e,h1.symm,h2.symm⟩
 .split at h
  .rename_i e;injection h with h;injection h with h1 h2;exact .inr (.inl ⟨e,h1.symm,h2.symm⟩)
  .split at h
   .rename_i e;injection h with h;injection h with h1 h2;exact .inr (.inr ⟨e,h1.symm,h2.symm⟩)
   .cases h
theorem AY(l:List ByteArray)(i:Nat):dC l.tail i=dC l (i+1):=by cases l<;>simp[dC]
theorem UX(h:qB (dA s)=false):uy b s=Ai b s/\wK b s=Dw b s:=by
 obtain⟨h1,h2,h3⟩:=nxt_l (b:=b) h;refine⟨?_,h3⟩;unfold Ai
 split
 .rename_i e;exact h1 e
 .rename_i e;exact h2 e
theorem ask_any(X F:Nat)(k:Int)(vn x y z:Value)(b:Bk)(ws:List ByteArray)(w:World)(hk:kn (dC ws 0)=I (k,F))(hq:qB ws=true)(hX:w.heap[X]?=I (AF #[x,y,z] 43 (0,0)))(hB:dW w x y z b.1 b.2.1 b.2.2)(hM:y8 b)(hN:gM w)(hP:nQ w)(hw:dR w vn ws.tail) :
 Calls prog F #[AH (I ⟨X,0,U⟩),vn] w λe w'=>Says e (lS b ws)/\Bw w w':=by
 have hl:(ws.length:Int)=k+1:=by
  rw[q_kn,hk] at hq;exact of_decide_eq_true hq
 have ht:ws.tail.length=ws.length-1:=At
 have nf:jZ≠gJ/\jZ≠j5/\j5≠gJ:=by decide
 rcases KI hk with⟨e,rfl,rfl⟩|⟨e,rfl,rfl⟩|⟨e,rfl,rfl⟩
 .have hA:lS b ws=ovS b (dC ws.tail 0) (dC ws.tail 1):=by
   have q:qk ws=3:=by unfold qk;rw[e,if_neg (λh=>nf.1 h.1),if_neg (λh=>nf.2.1 h.1),if_pos ⟨rfl,by omega⟩]
   unfold lS
   rw[if_neg (by omega),if_neg (by omega),if_pos q,AY,AY]
  rw[hA]
  exact Qg X vn x y z ws.tail b w hX hB hM hN hP hw (by omega)
 .have hA:lS b ws=paS b (dC ws.tail 0):=by
   have q:qk ws=2:=by unfold qk;rw[e,if_neg (λh=>nf.2.2 h.1),if_pos ⟨rfl,by omega⟩]
   unfold lS
   rw[if_neg (by omega),if_pos q,AY]
  rw[hA]
  exact Tf X vn x y z ws.tail b w hX hB hM hN hP hw (by omega)
 .have hA:lS b ws=flS b:=by
   have q:qk ws=1:=by unfold qk;rw[e,if_pos ⟨rfl,by omega⟩]
   unfold lS;rw[if_pos q]
  rw[hA];exact K7 X vn x y z b w hX hB hM hN
theorem Om(num:Int)(s:ByteArray)(X:Nat)(x y z:Value)(b:Bk)(w wr:World)(hI:SI w X b x y z wr)(hs:s.size<=1048576)(hl:okL s)(hsa:jh w)(Pb:jP w)(her:pV w)(hfl:pU w)(hnd:gM w)(hpw:nQ w) :
 Calls prog 16 #[AH (I ⟨X,0,U⟩),.agg #[AD AE num,J s]] wr λe w'=>e=AK (J (uy b s))/\(∃x' y' z',SI w X (wK b s) x' y' z' w')/\wr.grownBy w' (I X):=by
 have HA:=ag (AX.new num s hI);have bY:Hid (jh w/\jP w/\pV w/\pU w/\gM w/\nQ w):=⟨hsa,Pb,her,hfl,hnd,hpw⟩;have HL:=ag hl
 go_enter_defers func16,ntmps16
 go_wp2_with fail;refine(Br X s _ hs HL).mono ?_;rintro e w1⟨ak,⟨hq,n,f,vn,rfl,hf⟩|⟨hq,n,F,vn,hk,rfl,hn⟩⟩
 .obtain ⟨q1,q2⟩:=UX (b:=b) hq
  have HQ:Hid (uy b s=Ai b s/\wK b s=Dw b s):=⟨q1,q2⟩
  have eV:f.oneCell'=true:=by rcases hf with rfl|⟨F,fa,fb,rfl⟩<;>rfl
  have av:=aS w1 (AF #[AD AE 0,.nilFunc] 73);have H1:=ag (HA.call ak);have H2:=ag (H1.call (V':=(w1.alloc (AF #[AD AE 0,.nilFunc] 73)).setRow w1.heap.size #[AD AE n,f]) (bL (aG)))
  obtain⟨y0,y1⟩:((w1.alloc (AF #[AD AE 0,.nilFunc] 73)).setRow w1.heap.size #[AD AE n,f]).cell? ⟨wr.heap.size,0,U⟩=I (AD AE num)/\((w1.alloc (AF #[AD AE 0,.nilFunc] 73)).setRow w1.heap.size #[AD AE n,f]).cell? ⟨wr.heap.size,1,U⟩=I (J s):=by simp[AO,H2.out.y]
  go_wp2_with (refine cS w1.heap.size #[AD AE n,f] av ?_ (h1:=(mW eV)))
  generalize(w1.alloc _).setRow _ _=V1 at *;obtain⟨g1,g2,g3,g4,-,-⟩:=bY;refine(R9 num s X _ _ _ b w _ H2.si hs (g1.keep H2.si.bl) (g2.keep H2.si.bl) (g3.keep H2.si.bl) (g4.keep H2.si.bl)).mono ?_;rintro e V2⟨he,⟨x',y',z',er⟩,eS⟩;have H3:=ag (H2.take er eS)
  rcases he with rfl|rfl
  focus
   have c0:V2.cell? ⟨wr.heap.size+1,0,U⟩=I (J ⟨#[]⟩):=by simp[AO,H3.out.a]
   have f0:V2.frozen? ⟨wr.heap.size+1,0,U⟩=false:=by simp[As,H3.out.a]
   have HF:=ag (H3.fin (Ai b s));go_wp2_with fail
   refine leaves_cons (f:=30) (args:=#[AH (I ⟨wr.heap.size+1,0,U⟩)]) (by simp) (by simp[go_sem]) ?_
   refine(Dq _ _).mono ?_
  rotate_left
  focus
   have c0:V2.cell? ⟨wr.heap.size+1,0,U⟩=I (J ⟨#[]⟩):=by simp[AO,H3.out.a]
   have f0:V2.frozen? ⟨wr.heap.size+1,0,U⟩=false:=by simp[As,H3.out.a]
   have HF:=ag (H3.fin (Ai b s));unfold refused;go_wp2_with fail
   refine leaves_cons (f:=30) (args:=#[AH (I ⟨wr.heap.size+1,0,U⟩)]) (by simp) (by simp[go_sem]) ?_
   refine(F9 ⟨wr.heap.size+1,0,U⟩ (Ai b s) ⟨#[]⟩ _ c0 f0).mono ?_
  rotate_left
  all_goals
   rintro e u' w4⟨rfl,rfl,rfl⟩
   exact⟨J (Ai b s),by simp[results,results16,go_sem,HF.out.2.2],by rw[HQ.out.1],⟨_,_,_,by rw[HQ.out.2];exact HF.1⟩,HF.2.1⟩
 .obtain ⟨q1,q2⟩:=nxt_q (b:=b) hq
  have HQ:Hid (uy b s=lS b (dA s)/\wK b s=b):=⟨q1,q2⟩;have HK:=ag hk;have ff:=ag hq;have av:=aS w1 (AF #[AD AE 0,.nilFunc] 73);have H1:=ag (HA.call ak);have bV:Bw w1 ((w1.alloc (AF #[AD AE 0,.nilFunc] 73)).setRow w1.heap.size #[AD AE n,.func (.func F) #[AH (I ⟨X,0,U⟩)] #[]]):=bL (aG);have H2:=ag (H1.call bV);have HN:=ag (hn.keep bV);have gq:((w1.alloc (AF #[AD AE 0,.nilFunc] 73)).setRow w1.heap.size #[AD AE n,.func (.func F) #[AH (I ⟨X,0,U⟩)] #[]]).heap[w1.heap.size]?=I (AF #[AD AE n,.func (.func F) #[AH (I ⟨X,0,U⟩)] #[]] 73 (0,0)):=oN av;obtain⟨p0,p1⟩:((w1.alloc (AF #[AD AE 0,.nilFunc] 73)).setRow w1.heap.size #[AD AE n,.func (.func F) #[AH (I ⟨X,0,U⟩)] #[]]).cell? ⟨w1.heap.size,0,U⟩=I (AD AE n)/\((w1.alloc (AF #[AD AE 0,.nilFunc] 73)).setRow w1.heap.size #[AD AE n,.func (.func F) #[AH (I ⟨X,0,U⟩)] #[]]).cell? ⟨w1.heap.size,1,U⟩=I (.func (.func F) #[AH (I ⟨X,0,U⟩)] #[]):=⟨Pa.dM gq rfl,Pa.dM gq rfl⟩;obtain⟨-,-,-,-,g5,g6⟩:=bY;have fj:=ag (ask_any X F n vn x y z b (dA s) _ HK ff H2.si.c H2.si.n.at H2.si.gd.sm (g5.keep H2.si.bl) (g6.keep H2.si.bl) HN);unfold qV
  rcases KI HK with⟨-,rfl,rfl⟩|⟨-,rfl,rfl⟩|⟨-,rfl,rfl⟩
  all_goals
   go_wp2_with (refine cS w1.heap.size #[AD AE _,.func (.func _) #[AH (I ⟨X,0,U⟩)] #[]] av ?_ (h1:=(mW rfl)))
   refine fj.mono ?_;rintro e V2⟨he,ae⟩;have H3:=ag (H2.call ae)
   rcases he with rfl|rfl
   focus
    have c0:V2.cell? ⟨wr.heap.size+1,0,U⟩=I (J ⟨#[]⟩):=by simp[AO,H3.out.a]
    have f0:V2.frozen? ⟨wr.heap.size+1,0,U⟩=false:=by simp[As,H3.out.a]
    have HF:=ag (H3.fin (lS b (dA s)));go_wp2_with fail
    refine leaves_cons (f:=30) (args:=#[AH (I ⟨wr.heap.size+1,0,U⟩)]) (by simp) (by simp[go_sem]) ?_
    refine(Dq _ _).mono ?_
   rotate_left
   focus
    have c0:V2.cell? ⟨wr.heap.size+1,0,U⟩=I (J ⟨#[]⟩):=by simp[AO,H3.out.a]
    have f0:V2.frozen? ⟨wr.heap.size+1,0,U⟩=false:=by simp[As,H3.out.a]
    have HF:=ag (H3.fin (lS b (dA s)));unfold refused;go_wp2_with fail
    refine leaves_cons (f:=30) (args:=#[AH (I ⟨wr.heap.size+1,0,U⟩)]) (by simp) (by simp[go_sem]) ?_
    refine(F9 ⟨wr.heap.size+1,0,U⟩ (lS b (dA s)) ⟨#[]⟩ _ c0 f0).mono ?_
   rotate_left
   all_goals
    rintro e u' w4⟨rfl,rfl,rfl⟩
    exact⟨J (lS b (dA s)),by simp[results,results16,go_sem,HF.out.2.2],by rw[HQ.out.1],⟨_,_,_,by rw[HQ.out.2];exact HF.1⟩,HF.2.1⟩
open Go.RowKit Sd Tx Pa
theorem MM{a1 a2 a3:Option Addr}{n1 n2 n3 c1 c2 c3:Nat}(h:dR w v l)(hX:w.heap[X]?=I (AF #[AG a1 n1 c1,AG a2 n2 c2,AG a3 n3 c3] T (0,0)))(hg:w.grownBy w' (I X)):dR w' v l:=by
 obtain⟨g,off,cap,rfl,h1,h2,h3⟩:=h;refine⟨g,off,cap,rfl,h1,h2,λi x hx=>?_⟩;have hc:=h3 i x hx
 have bn:g≠X:=λe=>by
  subst e
  simp only[AO,hX] at hc
  generalize off+i=q at hc
  match q,hc with
  |0,hc=>simp at hc
  |1,hc=>simp at hc
  |2,hc=>simp at hc
  |q+3,hc=>simp at hc
 exact b7 (hg.block g (am hc) (λe=>by injection e with e;exact bn e)) hc
theorem MN{off cap:Nat}{xs:List Value}(h:dR w (AG (I ⟨g,off,U⟩) L.length cap) L)(hg:w.grownBy w' o.ownBlock)(ho:w.ownsRow Y T 1 o n xs)(hv:g<Y\/L=[]):dR w' (AG (I ⟨g,off,U⟩) L.length cap) L:=by
 obtain⟨g',ej,dd,e,h1,h2,h3⟩:=h
 cases e
 refine⟨_,_,_,rfl,h1,h2,λi x hx=>?_⟩
 rcases hv with hv|rfl
 .have hc:=h3 i x hx
  exact b7 (hg.block g (am hc) (λe=>Nat.not_le_of_lt hv (dY ho g e.symm))) hc
 .cases hx
structure PX (w:World) (X Y:Nat) (vl:Value) (L:List ByteArray) (b:Bk) (o:Value) (l:List ByteArray) (wr:World):Prop where
 s:∃x y z,SI w X b x y z wr
 t:dR wr vl L
 o:gY wr Y o l
 y:w.heap.size<=Y
 z:Y<=wr.heap.size
theorem PX.call(h:PX w X Y vl L b o l wr)(hb:Bw wr wx):PX w X Y vl L b o l wx:=by
 obtain⟨⟨x,y,z,hs⟩,ht,ho,hy,hz⟩:=h;exact⟨⟨x,y,z,hs.call hb⟩,ht.keep hb,aq ho hb,hy,AN hz hb.size⟩
theorem PX.ans(h:PX w X Y vl L b o l wr)(hs:SI w X b' x y z wx)(hg:wr.grownBy wx (I X)):PX w X Y vl L b' o l wx:=by
 obtain⟨⟨x,y,z,h0⟩,ht,ho,hy,hz⟩:=h;obtain⟨a1,c1,a2,c2,a3,c3,rfl,rfl,rfl⟩:=h0.n.slices
 exact⟨⟨_,_,_,hs⟩,MM ht h0.c hg,aj ho hg (λq hq e=>aQ ho h0.c (by decide) (e.symm.trans hq.symm)),hy,AN hz hg.size⟩
theorem PX.app{o':Value}{l':List ByteArray}(h:PX w X Y vl L b o l wr)(h1:gY wx Y o' l')(h2:wr.grownBy wx o.ownBlock)(hv:dR wx vl L):PX w X Y vl L b o' l' wx:=by
 obtain⟨⟨x,y,z,h0⟩,ht,ho,hy,hz⟩:=h;have eL:∀k,o.ownBlock=I k->w.heap.size<=k:=λk hk=>AN hy (dY ho k hk)
 refine⟨⟨x,y,z,h0.bl.grown h2 h0.bl.size eL,(h2.block X h0.lt (aQ ho h0.c (by decide))).trans h0.c,?_,h0.lo,h0.gd⟩,hv,h1,hy,AN hz h2.size⟩
 obtain⟨k1,k2,m,k3,k4⟩:=h0.n
 exact⟨aj k1 h2 (Go.Proofs.YtolokangldmodaaGreatDoor.dX ho k1 (by decide)),aj k2 h2 (Go.Proofs.YtolokangldmodaaGreatDoor.dX ho k2 (by decide)),m,k3,aj k4.row h2 (Go.Proofs.YtolokangldmodaaGreatDoor.dX ho k4.row (by decide)),λp hp=>aj (k4.jT p hp) h2 (Go.Proofs.YtolokangldmodaaGreatDoor.dX ho (k4.jT p hp) (by decide)),k4.apart⟩
theorem Aa(s:ByteArray)(w:World)(hs:s.size<=1048576)(hl:tQ s)(hsa:jh w)(Pb:jP w)(her:pV w)(hfl:pU w)(hnd:gM w)(hpw:nQ w):Rb 5 #[J s] w (J (JA s)):=by
 have bY:Hid (jh w/\jP w/\pV w/\pU w/\gM w/\nQ w):=⟨hsa,Pb,her,hfl,hnd,hpw⟩;have ei:=ag (Qh hl);have vK:=ag (Ji s w hs Pb);have dk:=ag (λwx (hx:Bw w wx)=>zF s wx hs (Pb.keep hx));have RI:Hid (∀l∈gF s,l.size<=s.size):=Co s;have dm:Hid (nG s=(decide ((10000:Int)<(s.size:Int))||decide ((200:Int)<((gF s).length:Int)))):=rfl;have cb:Hid (JA s=jS (bif nG s then[dC kZ 0] else jY ([],[],[]) (gF s))):=rfl;clear hl hsa Pb her hfl hnd hpw;generalize JA s=R at *;generalize nG s=lb at *;generalize gF s=L at *
 go_enter func5,ntmps5
 go_wp2_with fail;refine vK.out.mono ?_;rintro e w1⟨rfl,ak⟩;have aL:=ag ak;clear ak vK
 cases lb
 .have HE:Hid (R=jS (jY ([],[],[]) L)):=cb.out
  have hL2:L.length<=200:=by
   have h:false=_:=dm.out;have h2:=(Bool.or_eq_false_iff.1 h.symm).2;have:=of_decide_eq_false h2
   omega
  have e7:=ag (Bj ([],[],[]) L (by omega))
  have bV:Bw w1 (w1.alloc (AF #[AG U 0 0,AG U 0 0,AG U 0 0] 43)):=(aG);have cf:Hid (SI w w1.heap.size ([],[],[]) (AG U 0 0) (AG U 0 0) (AG U 0 0) (w1.alloc (AF #[AG U 0 0,AG U 0 0,AG U 0 0] 43))):=⟨aa aL.out bV,aS w1 _,dB.none _ _,aL.out.size,Gd.none⟩;clear cb dm bV aL;go_wp2_with fail;refine(dk.out _ cf.out.bl).mono ?_;rintro e w2⟨v,rfl,hv,ae⟩;have HV:=ag hv;obtain⟨g,off,cap,rfl,b5,ax,-⟩:=hv;unfold maxLen at ax;have dq:Hid (PX w w1.heap.size w2.heap.size (AG (I ⟨g,off,U⟩) L.length cap) L ([],[],[]) (AG U 0 0) [] w2):=⟨⟨_,_,_,cf.out.call ae⟩,HV.out,⟨rfl,.inl ⟨rfl,rfl⟩⟩,AN cf.out.bl.size ae.size,An _⟩
  have eg:Hid (g<w2.heap.size\/L=[]):=by
   by_cases h0:L=[]
   .exact .inr h0
   .exact .inl (am (HV.out.cellS 0 (List.length_pos_iff.2 h0)))
  clear dk cf ae HV;generalize w1.heap.size=X at *;generalize hY:w2.heap.size=Y at dq eg;clear hY;go_wp2_with fail
  go_loopw [4,5,6,16] (λo _ _ i wr=>∃k:Nat,k<=L.length/\i=AD AE k/\Hid (PX w X Y (AG (I ⟨g,off,U⟩) L.length cap) L (IQ ([],[],[]) L k) o ((jY ([],[],[]) L).take k) wr)) (λ_ _ _ i _=>L.length-(intOf i).toNat)
  case atStart=>exact⟨0,AT _,rfl,ag (by rw[LH];exact dq.out)⟩
  case round =>
   clear dq;obtain⟨k,hk,rfl,HI⟩:=hrel
   by_cases af:k<L.length
   .obtain ⟨ht,hn⟩:=xY L ([],[],[]) k af
    have HT:=ag ht;have HN:=ag hn;clear ht hn;have d0:=HI.out.t.cellS k af
    have ep:(dC L k).size<=1048576:=AN (RI.out _ (by rw[Ak af];exact AL af)) hs
    have du:=ei.out _ (by rw[Ak af];exact AL af:dC L k∈L)
    have xK:Hid (((jY ([],[],[]) L).take k).length<=2097152):=by show _<=_;rw[List.length_take,rG];omega
    generalize(jY ([],[],[]) L).take k=A at *;generalize IQ ([],[],[]) L k=b at *
    have dz:(0:Int)<=(k:Int):=by omega
    have c4:(k:Int)<(L.length:Int):=by omega
    obtain⟨x,y,z,b3⟩:=HI.out.s;obtain⟨g1,g2,g3,g4,g5,g6⟩:=bY.out;have cu:=ag (Om ((k:Int)+1) (dC L k) X x y z b w wr b3 ep du g1 g2 g3 g4 g5 g6);clear du g1 g2 g3 g4 g5 g6;go_wp2_with fail;refine cu.out.mono ?_;rintro e w3⟨rfl,⟨x',y',z',ds⟩,ea⟩;have H3:=ag ((HI.out.ans ds ea).call ((AS _ _).alloc aE (AF #[J (uy b (dC L k))] 9)));clear ds ea d0 b3 HI;generalize uy b (dC L k)=an at *
    go_wp2_with (at_builtin;refine xH _ _ rfl _ A _ rfl H3.out.o an _ rfl (by simp[go_sem]) xK.out H3.out.z ?_;intro v' w4 hn hg)
    have H4:=ag (H3.out.app hn hg (MN H3.out.t hg H3.out.o eg.out));rw[<-HT.out,<-HN.out] at H4;clear hn hg H3 xK cu;go_wp2
    exact⟨⟨k+1,af,rfl,H4⟩,by show L.length-(k+1)<L.length-k;omega⟩
   .have c4:¬(k:Int)<(L.length:Int):=by omega
    rw[A0 (by rw[rG];omega)] at HI
    go_wp2_with fail;refine(A8 _ _ _ (p8 HI.out.o) e7.out).mono ?_;rintro e w3⟨rfl,ba⟩;go_wp2;go_ret;obtain⟨_,_,_,b3⟩:=HI.out.s;exact⟨cn HE.out.symm,aa b3.bl ba⟩
 .have HE:Hid (R=jS [dC kZ 0]):=cb.out
  have g0:=(bY.out.2.2.2.1.keep aL.out).cell 1 (by decide) (by decide)
  clear cb dm dk RI ei;go_wp2_with fail
  refine(A8 _ [dC kZ 0] _ ⟨_,_,rfl,An _,by unfold maxLen;decide,λi x hx=>?_⟩ (by decide)).mono ?_
  .match i,hx with
   |0,hx=>simp at hx;subst hx;exact⟨_,_,rfl,by simp[go_sem];rfl⟩
   |i+1,hx=>simp at hx
  .rintro e w3⟨rfl,ba⟩
   go_wp2;go_ret;exact⟨cn HE.out.symm,aa (aa aL.out (aG)) ba⟩
end Go.Proofs.YtolokangldmodaaGreatDoor.Ss
namespace Go.Proofs.YtolokangldmodaaGreatDoor.Dr
open Go.RowKit
attribute [local go_sem] Later.cell Later.frozen
theorem Ep(v:Value)(n:Nat)(w:World)(h:zh w v n)(hG:jh w/\jP w/\pV w/\Ss.pU w/\Sd.gM w/\Ss.nQ w) :
 Rb 3 #[v] w (AI true):=by
 have HA:=dx h;have HG:=dx hG;clear hG;obtain⟨a,cap,rfl,-⟩:=h
 by_cases b6:(1048576:Int)<(n:Int)
 .go_enter func3,ntmps3
  go_wp2_with fail
  exact bv (AI true) ⟨rfl,AS _ _⟩ (by simp[results,results3,go_sem])
 have HP:Hid (∀(s:ByteArray) (wx:World),s.size<=1048576->Ss.tQ s->Bw w wx->_):=λs wx hs ho hx=>Ss.Aa s wx hs ho (HG.out.1.keep hx) (HG.out.2.1.keep hx) (HG.out.2.2.1.keep hx) (HG.out.2.2.2.1.keep hx) (HG.out.2.2.2.2.1.keep hx) (HG.out.2.2.2.2.2.keep hx);clear HG
 go_enter func3,ntmps3
 go_wp2_with fail;refine(Ag _ n _ HA.out).mono ?_;rintro e w1⟨s,rfl,hs,ho,ak⟩;have HO:=dx ho;have HB:=dx ak;clear ho ak HA;go_wp2_with fail
 go_loopw [4,5,6] (λkv hv iv wr=>∃(k i:Nat) (hd:ByteArray),k<=40/\i<=s.size/\kv=AD AE k/\hv=J hd/\iv=AD AE i/\wr=w1/\Hid (hd=s)) (λ_ _ iv _=>s.size-(intOf iv).toNat)
 case atStart=>exact⟨4+n % 30,0,s,by omega,AT _,by congr 1,rfl,rfl,rfl,rfl⟩
 case round =>
  obtain⟨k,i,hd,hk,hi,rfl,rfl,rfl,rfl,HH⟩:=hrel
  have hi0:(0:Int)<=(i:Int):=by omega
  by_cases af:i<s.size
  rotate_left
  focus
   have cL:¬(i:Int)<(s.size:Int):=by omega
   have HE:Hid (hd.size<=1048576/\Ss.tQ hd):=by have h:=HH.out;subst h;exact⟨hs,HO.out⟩
   clear HH;go_wp2_with fail
  rotate_left
  focus
   have cL:(i:Int)<(s.size:Int):=by omega
   by_cases hc:s[i]=10
   rotate_left
   .have h1:(((s[i].toNat:Nat):Int)==10)=false:=by rw[Tx.OB];simpa using hc
    clear hc;go_wp2_with fail
    exact⟨⟨k,i+1,hd,hk,by omega,rfl,rfl,by go_num,trivial,HH⟩,by simp[intOf];omega⟩
   have h1:(((s[i].toNat:Nat):Int)==10)=true:=by rw[Tx.OB];simpa using hc
   by_cases eK:k=0
   rotate_left
   .have c4:¬(k:Int)-1<0:=by omega
    clear hc;go_wp2_with fail
    exact⟨⟨k-1,i+1,hd,by omega,by omega,by go_num,rfl,by go_num,trivial,HH⟩,by simp[intOf];omega⟩
   subst eK
   have HE:Hid ((s.extract 0 (i+1)).size<=1048576/\Ss.tQ (s.extract 0 (i+1))):=⟨by rw[ByteArray.size_extract];omega,Ss.head_ok HO.out af hc⟩
   clear hc HH
   have hi1:(i:Int)+1<=(s.size:Int):=by omega
   have hi2:(0:Int)<=(i:Int)+1:=by omega
   have hi3:((i:Int)+1).toNat=i+1:=by omega
   go_wp2_with fail;generalize s.extract 0 (i+1)=hd at *
  all_goals
   refine(HP.out hd _ HE.out.1 HE.out.2 HB.out).mono ?_;rintro e w2⟨rfl,ae⟩;have B2:=dx (aa HB.out ae);clear ae;go_wp2_with fail;refine(HP.out s _ hs HO.out B2.out).mono ?_;rintro e w3⟨rfl,ba⟩;have B3:=dx (aa B2.out ba);clear ba B2 HP HO;go_wp2_with fail;refine(Ss.qP hd _ HE.out.1).mono ?_;rintro e w4⟨rfl,ee⟩;have B4:=dx (aa B3.out ee);clear ee B3;go_wp2_with fail;refine(Ss.qP s _ hs).mono ?_;rintro e w5⟨rfl,ec⟩;have B5:=dx (aa B4.out ec);clear ec B4 HE;generalize Ss.JA hd=sa at *;generalize Ss.JA s=sb at *
   by_cases hz:(sb.size:Int)<(sa.size:Int)
   .go_wp2_with fail
    exact bv (AI true) ⟨rfl,B5.out⟩ (by simp[results,results3,go_sem])
   .have cx:(sa.size:Int)<=(sb.size:Int):=by omega
    have cy:(0:Int)<=(sa.size:Int):=by omega
    cases hq:((sb.extract 0 sa.size).toList==sa.toList)
    all_goals
     go_wp2_with fail
     exact bv (AI true) ⟨rfl,B5.out⟩ (by simp[results,results3,go_sem])
end Go.Proofs.YtolokangldmodaaGreatDoor.Dr
