import Derived.Test.YtolokangldmodaaGreatDoorFa2
set_option maxRecDepth 100000
set_option maxHeartbeats 12800000
set_option linter.unusedSimpArgs false
set_option linter.unusedVariables false
open Go.Value renaming int->I,string->AF,slice->U,agg->AG,tuple->AH,oneCell'->AS
open Go.Obj renaming cells->AE
open Option renaming none->R,some->AD
open Go.IntKind renaming i64->J,wrap_i64->AO
open Go.World renaming cell?->AM,frozen?->Aw,news_of_block->Ax
open Go.RowKit.Below renaming refl->AN,heap_setCell->AW
open Go.Act renaming put->AT
open Int renaming mul_nonneg->An,mul_le_mul->As
open Bool renaming and_eq_true->At
open Nat renaming zero_le->A0,le_trans->A2,lt_of_lt_of_le->A3,le_refl->A4
open Go Go.Proofs.YtolokangldmodaaGreatDoor
variable {w w3 wr wx w7:World} {E P b o B:Nat} {x y fx fy:Int} {sv u PO:Value} {ks ps:List dE} {es:List eF} {nm:ByteArray}
open Go.Proofs.Tryz
namespace Go.Proofs.YtolokangldmodaaGreatDoor.Pa
open Go.RowKit Sd
theorem Nc(x y:Int)(t:dE)(w:World)(hx:0<=x/\x<=1000000)(hy:0<=y/\y<=1000000)(hq:0<=t.x/\t.x<=50)(hs:0<=t.y/\t.y<=50) :
 Rb 168 #[AG #[I J x,I J y],AG #[AF t.s,I J t.x,I J t.y]] w (AG #[I J (x+t.x),I J (y+t.y)]):=by
 have HB:Hid (Bw w (((w.alloc (AE #[I J x,I J y] 244)).alloc (AE #[AF t.s,I J t.x,I J t.y] 79)).alloc (AE #[I J 0,I J 0] 244))):=((aG).alloc (by simp) _).alloc (by simp;omega) _
 have hr:(((w.alloc (AE #[I J x,I J y] 244)).alloc (AE #[AF t.s,I J t.x,I J t.y] 79)).alloc (AE #[I J 0,I J 0] 244)).heap[w.heap.size+2]?=AD (AE #[I J 0,I J 0] 244 (0,0)):=by
  have h:=Lv.aS ((w.alloc (AE #[I J x,I J y] 244)).alloc (AE #[AF t.s,I J t.x,I J t.y] 79)) (AE #[I J 0,I J 0] 244)
  rw[show((w.alloc (AE #[I J x,I J y] 244)).alloc (AE #[AF t.s,I J t.x,I J t.y] 79)).heap.size=w.heap.size+2 by simp] at h
  exact h
 obtain⟨hx0,hx1⟩:=hx;obtain⟨hy0,hy1⟩:=hy;obtain⟨hq0,hq1⟩:=hq;obtain⟨hs0,iF⟩:=hs
 go_enter func168,ntmps168
 go_wp2_with (refine wpList_store_row rfl 244 _ _ rfl (w.heap.size+2) #[I J (x+t.x),I J (y+t.y)] rfl rfl 244 _ hr (by kernel_rfl) rfl (by simp[AS]) ?_)
 exact bv (AG #[I J (x+t.x),I J (y+t.y)]) ⟨rfl,bL HB.out⟩ (by simp[results,results168,go_sem,bU hr])
theorem Ik{w1 w2:World}{r:Option Nat}(h:w.grownBy w1 r)(k:w1.grownBy w2 r):w.grownBy w2 r :=
 ⟨k.1.trans h.1,k.2.trans h.2,k.3.trans h.3,A2 h.4 k.4,λj hj hr=>(k.5 j (A3 hj h.4) hr).trans (h.5 j hj hr)⟩
theorem minI_eq(a b:Int):jJ a b=min a b:=by unfold jJ;split<;>omega
theorem maxI_eq(a b:Int):kG a b=max a b:=by unfold kG;split<;>omega
structure PL (w w3 wr:World) (E P:Nat) (x y:Int) (sv:Value) (l:List Stp):Prop where
 below:Bw w wr
 size:w3.heap.size<=wr.heap.size
 keep:∀b,b<w3.heap.size->b≠E->b≠P->wr.heap[b]?=w3.heap[b]?
 e:wr.heap[E]?=AD (AE #[I J x,I J y] 244 (0,0))
 p:wr.heap[P]?=AD (AE #[sv,I J 0,I J 0] 84 (0,0))
 s:gK wr w3.heap.size sv l
theorem PL.call{l:List Stp}(h:PL w w3 wr E P x y sv l)(hb:Bw wr wx):PL w w3 wx E P x y sv l :=
 ⟨aa h.below hb,A2 h.size hb.size,λb hl h1 h2=>(hb.block b (A3 hl h.size)).trans (h.keep b hl h1 h2),ah hb h.e,ah hb h.p,aN h.s hb⟩
theorem PL.drew{l:List Stp}(h:PL w w3 wr E P x y sv l):PL w w3 wr.drew E P x y sv l :=
 ⟨h.below.drew,h.size,h.keep,h.e,h.p,h.s⟩
theorem PL.cell{l:List Stp}(h:PL w w3 wr E P x y sv l)(hb:b<w3.heap.size)(h1:b≠E)(h2:b≠P)(hc:w3.cell? ⟨b,o,R⟩=AD u):wr.cell? ⟨b,o,R⟩=AD u:=by
 rw[World.cell?_of_block (w:=w3) (h.keep b hb h1 h2)];exact hc
theorem PL.win{l:List Stp}(h:PL w w3 wr E P x y sv l)(hE:w.heap.size<=E)(hEP:E≠P)(hEl:E<w3.heap.size)(x' y':Int):PL w w3 (wr.setRow E #[I J x',I J y']) E P x' y' sv l:=by
 have ho:∀b,b≠E->(wr.setRow E #[I J x',I J y']).heap[b]?=wr.heap[b]?:=λb hb=>ni hb
 refine⟨below_setRow h.below hE _,by simpa using h.size,λb hl h1 h2=>(ho b h1).trans (h.keep b hl h1 h2),oN h.e,(ho P (Ne.symm hEP)).trans h.p,cz h.s (cX wr E _) (λk hk e=>?_)⟩
 have h3:=bF h.s k hk
 injection e with e
 omega
theorem PL.add{l l':List Stp}(h:PL w w3 wr E P x y sv l)(hw:w.heap.size<=w3.heap.size)(hE:E<w3.heap.size)(hP:P<w3.heap.size)(hPw:w.heap.size<=P)(hEP:E≠P)(hg:wr.grownBy wx sv.ownBlock)(hs:gK wx w3.heap.size PO l'):PL w w3 (wx.setCell ⟨P,0,R⟩ PO) E P x y PO l':=by
 have fz:=h.size;have bY:∀k,sv.ownBlock=AD k->w3.heap.size<=k:=λk hk=>bF h.s k hk
 have h1:∀b,b<w3.heap.size->wx.heap[b]?=wr.heap[b]?:=λb hb=>hg.block b (by omega) (λe=>by have:=bY b e.symm;omega)
 have h2:∀b,b≠P->(wx.setCell ⟨P,0,R⟩ PO).heap[b]?=wx.heap[b]?:=λb hb=>AW wx ⟨P,0,R⟩ PO b hb;have hp:=(h1 P hP).trans h.p
 refine⟨(h.below.grown hg h.below.size (λk e=>by have:=bY k e;omega)).setCell (p:=⟨P,0,R⟩) hPw _,by simpa using A2 fz hg.size,λb hb e1 e2=>((h2 b e2).trans (h1 b hb)).trans (h.keep b hb e1 e2),((h2 E hEP).trans (h1 E hE)).trans h.e,cK hp,cz hs (lM wx P 0 PO) (λk hk e=>?_)⟩
 have h3:=bF hs k hk
 injection e with e
 omega
theorem PL.inE{l:List Stp}(h:PL w w3 wr E P x y sv l):wr.cell? ⟨E,0,R⟩=AD (I J x)/\wr.cell? ⟨E,1,R⟩=AD (I J y):=by simp[AM,h.e]
theorem PL.inP{l:List Stp}(h:PL w w3 wr E P x y sv l):wr.cell? ⟨P,0,R⟩=AD sv/\wr.cell? ⟨P,1,R⟩=AD (I J 0)/\wr.cell? ⟨P,2,R⟩=AD (I J 0):=by simp[AM,h.p]
theorem Eh(v:Value)(cs:List iM)(q:ByteArray)(t:dE)(x y z:Int)(ra:Option Addr)(rn rc:Nat)(w:World)(hv:Mx w v cs)(hN:1<=cs.length/\cs.length<=40)(hf:FlOk t x y z) :
 Calls prog 130 #[v,AG #[AF q,AF t.s,I J t.x,I J t.y,I J x,I J y,I J z,U ra rn rc]] w λe w'=>∃u,e=.returned (AG #[u,I J (x+(cs.length:Int)*t.x),I J (y+(cs.length:Int)*t.y)])/\gK w' w.heap.size u (iN cs z x y t.x t.y cs.length)/\Bw w w':=by
 obtain⟨i0,ef,ee,e7,ec⟩:=info_parts KU;obtain⟨f1,f2,f3,f4,f5,f6,f7,f8⟩:=hf;have HV:Hid (Mx w v cs):=hv;obtain⟨ca,cc,rfl,ek,ds,-⟩:=hv;unfold maxLen at ds
 have A1:Hid (Bw w ((w.alloc (AE #[AF q,AF t.s,I J t.x,I J t.y,I J x,I J y,I J z,U ra rn rc] 81)).alloc (AE #[U R 0 0,I J 0,I J 0] 84))):=(aG).alloc (by simp) _
 have F1:Hid (((w.alloc (AE #[AF q,AF t.s,I J t.x,I J t.y,I J x,I J y,I J z,U ra rn rc] 81)).alloc (AE #[U R 0 0,I J 0,I J 0] 84)).heap[w.heap.size]?=AD (AE #[AF q,AF t.s,I J t.x,I J t.y,I J x,I J y,I J z,U ra rn rc] 81 (0,0))):=by
  show _=_
  rw[(((aG):Bw (w.alloc (AE #[AF q,AF t.s,I J t.x,I J t.y,I J x,I J y,I J z,U ra rn rc] 81)) ((w.alloc (AE #[AF q,AF t.s,I J t.x,I J t.y,I J x,I J y,I J z,U ra rn rc] 81)).alloc (AE #[U R 0 0,I J 0,I J 0] 84)))).block _ (by simp)]
  exact Lv.aS w _
 have R1:Hid (((w.alloc (AE #[AF q,AF t.s,I J t.x,I J t.y,I J x,I J y,I J z,U ra rn rc] 81)).alloc (AE #[U R 0 0,I J 0,I J 0] 84)).heap[w.heap.size+1]?=AD (AE #[U R 0 0,I J 0,I J 0] 84 (0,0))):=by
  have h:=Lv.aS (w.alloc (AE #[AF q,AF t.s,I J t.x,I J t.y,I J x,I J y,I J z,U ra rn rc] 81)) (AE #[U R 0 0,I J 0,I J 0] 84)
  rw[show(w.alloc (AE #[AF q,AF t.s,I J t.x,I J t.y,I J x,I J y,I J z,U ra rn rc] 81)).heap.size=w.heap.size+1 by simp] at h
  exact h
 have Z1:Hid (((w.alloc (AE #[AF q,AF t.s,I J t.x,I J t.y,I J x,I J y,I J z,U ra rn rc] 81)).alloc (AE #[U R 0 0,I J 0,I J 0] 84)).heap.size=w.heap.size+2):=by show _=_;simp
 have GL:Hid (∀wx:World,Calls prog 167 #[I J (cs.length:Int),I J z] wx λe w'=>∃v,e=.returned v/\Lv.lU w' wx.heap.size v (gT (cs.length:Int) z)/\Bw wx w'):=λwx=>Lv.BJ _ _ wx;have Py:Hid ((gT (cs.length:Int) z).length=cs.length):=Cu hN ⟨f7,f8⟩;have et:Hid (∀k,k<cs.length->(gT (cs.length:Int) z)[k]?=AD (wR cs.length z k)):=λk hk=>Cv hN ⟨f7,f8⟩ k hk;obtain⟨gk,gj⟩:=hN
 go_enter func130,ntmps130
 go_wp2_with fail;generalize((w.alloc (AE #[AF q,AF t.s,I J t.x,I J t.y,I J x,I J y,I J z,U ra rn rc] 81)).alloc (AE #[U R 0 0,I J 0,I J 0] 84))=w1 at *;refine(GL.out _).mono ?_;rintro e w2⟨lv,rfl,hl,ay⟩;obtain⟨la,lc,rfl⟩:=Lv.dH hl;have L2:Hid (Lv.IAt w2 (.slice la (gT (cs.length:Int) z).length lc) (gT (cs.length:Int) z)):=Lv.lU.at hl;rw[Py.out] at L2 ⊢;have B2:Hid (Bw w1 w2):=ay;have F2:Hid (w2.heap[w.heap.size]?=AD (AE #[AF q,AF t.s,I J t.x,I J t.y,I J x,I J y,I J z,U ra rn rc] 81 (0,0))/\w2.heap[w.heap.size+1]?=AD (AE #[U R 0 0,I J 0,I J 0] 84 (0,0))):=⟨ah ay F1.out,ah ay R1.out⟩
 have ih:w.heap.size+2<=w2.heap.size:=by have:=ay.size;have:=Z1.out;omega
 have c4:w2.cell? ⟨w.heap.size,4,R⟩=AD (I J x):=by simp[AM,F2.out.1]
 have c5:w2.cell? ⟨w.heap.size,5,R⟩=AD (I J y):=by simp[AM,F2.out.1]
 have B3:Hid (Bw w2 ((w2.alloc (AE #[I J x,I J y] 244)).alloc (AE #[U R 0 0,I J 0,I J 0] 84))):=(aG).alloc (by simp) _
 have fj:Hid (((w2.alloc (AE #[I J x,I J y] 244)).alloc (AE #[U R 0 0,I J 0,I J 0] 84)).heap.size=w2.heap.size+2):=by show _=_;simp
 have kb:Hid (PL w ((w2.alloc (AE #[I J x,I J y] 244)).alloc (AE #[U R 0 0,I J 0,I J 0] 84)) ((w2.alloc (AE #[I J x,I J y] 244)).alloc (AE #[U R 0 0,I J 0,I J 0] 84)) w2.heap.size (w2.heap.size+1) x y (U R 0 0) (iN cs z x y t.x t.y 0)):=by
  refine⟨aa (aa A1.out B2.out) B3.out,A4 _,λ_ _ _ _=>rfl,?_,?_,gK.nil _ _⟩
  .rw [(((aG):Bw (w2.alloc (AE #[I J x,I J y] 244)) ((w2.alloc (AE #[I J x,I J y] 244)).alloc (AE #[U R 0 0,I J 0,I J 0] 84)))).block _ (by simp)]
   exact Lv.aS w2 _
  .have h:=Lv.aS (w2.alloc (AE #[I J x,I J y] 244)) (AE #[U R 0 0,I J 0,I J 0] 84)
   rw[show(w2.alloc (AE #[I J x,I J y] 244)).heap.size=w2.heap.size+1 by simp] at h
   exact h
 go_wp2_with fail;generalize((w2.alloc (AE #[I J x,I J y] 244)).alloc (AE #[U R 0 0,I J 0,I J 0] 84))=w3 at *;obtain⟨j0,jz,hce,-,-,au⟩:=HV.out
 obtain⟨cg,gf,-⟩:=au 0 _ (mM (by omega))
 cases hce
 subst gf
 have Mj:Hid (∀wx:World,Bw w wx->∀k,k<cs.length->wx.cell? ⟨cg,k*2,R⟩=AD (I J (iI cs k).x)/\wx.cell? ⟨cg,k*2+1,R⟩=AD (I J (iI cs k).y)):=λwx hx k hk=>by
  obtain⟨g,hg,d0,d1⟩:=au k _ (mM hk)
  cases hg
  exact⟨ac hx aE d0,ac hx aE d1⟩
 obtain⟨h7,h6,hle,dq,dm,cu⟩:=L2.out
 obtain⟨lg,fW,bV⟩:=cu 0 _ (et.out 0 (by omega))
 rw[Py.out] at hle dq
 cases hle
 subst fW;have fR:=am bV;unfold maxLen at dm
 have Rq:Hid (∀(wx:World) (x' y':Int) (sv:Value) (l:List Stp),PL w w3 wx w2.heap.size (w2.heap.size+1) x' y' sv l->∀k,k<cs.length->wx.cell? ⟨lg,k,R⟩=AD (I J (wR cs.length z k))):=λwx x' y' sv l hp k hk=>by
  obtain⟨g,hg,d0⟩:=cu k _ (et.out k hk)
  cases hg
  have fo:=fj.out
  exact hp.cell (by omega) (by omega) (by omega) (ac B3.out aE d0)
 have RL:Hid (∀(wx:World) (x' y':Int) (sv:Value) (l:List Stp),PL w w3 wx w2.heap.size (w2.heap.size+1) x' y' sv l->wx.heap[w.heap.size]?=AD (AE #[AF q,AF t.s,I J t.x,I J t.y,I J x,I J y,I J z,U ra rn rc] 81 (0,0))/\wx.heap[w.heap.size+1]?=AD (AE #[U R 0 0,I J 0,I J 0] 84 (0,0))):=λwx x' y' sv l hp=>by
  have fo:=fj.out
  exact⟨(hp.keep _ (by omega) (by omega) (by omega)).trans (ah B3.out F2.out.1),(hp.keep _ (by omega) (by omega) (by omega)).trans (ah B3.out F2.out.2)⟩
 go_loopw [23] (λi wr=>∃k:Nat,k<=cs.length/\i=I J k/\∃a c,Hid (PL w w3 wr w2.heap.size (w2.heap.size+1) (x+(k:Int)*t.x) (y+(k:Int)*t.y) (U a k c) (iN cs z x y t.x t.y k))) (λi _=>cs.length-(intOf i).toNat)
 case atStart=>exact⟨0,A0 _,rfl,R,0,by simpa using kb⟩
 case round =>
  obtain⟨k,hk,rfl,a,c,HI⟩:=hrel
  by_cases av:k<cs.length
  .obtain ⟨c0,c1⟩:=Mj.out _ HI.out.below k av
   have ga:(0:Int)<=(k:Int):=by omega
   have fc:(k:Int)<(cs.length:Int):=by omega
   have cl:Hid (PQ cs z x y t.x t.y k=⟨(iI cs k).x,(iI cs k).y,jJ (wR cs.length z (k-1)) (wR cs.length z k),kG (wR cs.length z (k-1)) (wR cs.length z k),x+(k:Int)*t.x,y+(k:Int)*t.y⟩):=rfl;have BA:Hid (Bw wr (wr.alloc (AE #[I J (iI cs k).x,I J (iI cs k).y] 128))):=(aG);have PA:Hid ((wr.alloc (AE #[I J (iI cs k).x,I J (iI cs k).y] 128)).heap[wr.heap.size]?=AD (AE #[I J (iI cs k).x,I J (iI cs k).y] 128 (0,0))):=Lv.aS wr _;have IA:=Lv.dx (HI.out.call BA.out);have l0:=Rq.out _ _ _ _ _ IA.out k av
   have l1:=Rq.out _ _ _ _ _ IA.out (k-1) (by omega)
   generalize wR cs.length z k=LB at *;generalize wR cs.length z (k-1)=LA at *;generalize(iI cs k).x=cx at *;generalize(iI cs k).y=cy at *;obtain⟨j,hj⟩:∃j,k-1=j:=⟨_,rfl⟩
   have hmx:max ((k:Int)-1) 0=(j:Int):=by omega
   have hH:(0:Int)<=(j:Int):=by omega
   have hG:(j:Int)<(cs.length:Int):=by omega
   rw[hj] at l1;go_wp2;generalize(wr.alloc (AE #[I J cx,I J cy] 128))=wq at *
   have hxk:0<=(k:Int)*t.x/\(k:Int)*t.x<=2000:=⟨An (by omega) (by omega),by
    have h1:=As (show(k:Int)<=40 by omega) (show t.x<=50 by omega) (by omega) (by omega)
    omega⟩
   have hyk:0<=(k:Int)*t.y/\(k:Int)*t.y<=2000:=⟨An (by omega) (by omega),by
    have h1:=As (show(k:Int)<=40 by omega) (show t.y<=50 by omega) (by omega) (by omega)
    omega⟩
   generalize hex:x+(k:Int)*t.x=ex at *;generalize hey:y+(k:Int)*t.y=ey at *
   have iz:0<=ex/\ex<=1000000:=by omega
   have iu:0<=ey/\ey<=1000000:=by omega
   have Vk:Hid (x+(k:Int)*t.x=ex/\y+(k:Int)*t.y=ey):=⟨hex,hey⟩;refine wp_region_noPanic ?_
   refine bH (S:=λw'=>(w'.cell? ⟨w2.heap.size+1,0,R⟩=AD (U a k c)/\w'.cell? ⟨wr.heap.size,0,R⟩=AD (I J cx)/\w'.cell? ⟨wr.heap.size,1,R⟩=AD (I J cy))/\w'.cell? ⟨lg,k,R⟩=AD (I J LB)/\w'.cell? ⟨w2.heap.size,0,R⟩=AD (I J ex)/\w'.cell? ⟨w2.heap.size,1,R⟩=AD (I J ey)) 26 (by kernel_rfl) ?_ (λab=>?_)
   .have hp:wq.drew.heap[wr.heap.size]?=AD (AE #[I J cx,I J cy] 128 (0,0)):=PA.out
    exact⟨⟨IA.out.drew.inP.1,by simp[AM,hp],by simp[AM,hp]⟩,l0,IA.out.drew.inE.1,IA.out.drew.inE.2⟩
   have ID:=Lv.dx IA.out.drew;have PD:Hid (wq.drew.heap[wr.heap.size]?=AD (AE #[I J cx,I J cy] 128 (0,0))):=PA.out;have L0:Hid (wq.drew.cell? ⟨lg,k,R⟩=AD (I J LB)):=l0;generalize wq.drew=W0 at *;refine oM 0 ?_;refine oM 1 ?_;refine oM 2 ?_;refine oM 3 ?_;refine oM 4 ?_;refine oM 5 ?_;refine oM 6 ?_;refine oM 7 ?_;refine oM 8 ?_;refine oM 9 ?_;refine oM 10 ?_;refine oM 11 ?_;refine oM 12 ?_;refine oM 13 ?_;refine oM 14 ?_;refine oM 15 ?_;refine oM 16 ?_;refine oM 17 ?_;refine oM 18 ?_;refine oM 19 ?_;refine oM 20 ?_;refine oM 21 ?_;refine oM 22 ?_
   simp only[AT,aK]
   have fo:=fj.out;have hzr:=ID.out.size
   have fA:Hid (∀wx:World,W0.grownBy wx (U a k c).ownBlock->(wx.cell? ⟨w2.heap.size+1,0,R⟩=AD (U a k c)/\wx.cell? ⟨wr.heap.size,0,R⟩=AD (I J cx)/\wx.cell? ⟨wr.heap.size,1,R⟩=AD (I J cy))/\wx.cell? ⟨lg,k,R⟩=AD (I J LB)/\wx.cell? ⟨w2.heap.size,0,R⟩=AD (I J ex)/\wx.cell? ⟨w2.heap.size,1,R⟩=AD (I J ey)):=λwx hg=>by
    have bY:∀b,b<w3.heap.size->wx.heap[b]?=W0.heap[b]?:=λb hb=>hg.block b (by omega) (λe=>by have:=bF ID.out.s b e.symm;omega)
    have h1:=(bY _ (by omega)).trans ID.out.p
    have h2:=(bY _ (by omega)).trans ID.out.e
    have h3:=(hg.block _ (lt_of_block PD.out) (λe=>Sd.jo ID.out.s PD.out (by decide) e)).trans PD.out
    refine⟨⟨by simp[AM,h1],by simp[AM,h3],by simp[AM,h3]⟩,?_,by simp[AM,h2],by simp[AM,h2]⟩
    rw[World.cell?_of_block (w:=W0) (bY lg (by omega))]
    exact L0.out
   have h4:Hid (W0.grownBy (W0.alloc (AE #[I J cx,I J cy,I J (min LA LB),I J (max LA LB),I J ex,I J ey] 130)) (U a k c).ownBlock):=⟨rfl,rfl,rfl,by simp,λb hb _=>((AN W0.heap.size W0).alloc aE _).block b hb⟩
   have eV:=Lv.dx (ID.out.call ((AN W0.heap.size W0).alloc aE (AE #[I J cx,I J cy,I J (min LA LB),I J (max LA LB),I J ex,I J ey] 130)));have j7:Hid ((W0.alloc (AE #[I J cx,I J cy,I J (min LA LB),I J (max LA LB),I J ex,I J ey] 130)).heap[W0.heap.size]?=AD (AE #[I J cx,I J cy,I J (min LA LB),I J (max LA LB),I J ex,I J ey] 130 (0,0))):=Lv.aS W0 _;refine lV 23 (λK hK=>?_);go_simp;refine hK.out _ _ (.inr (fA.out _ h4.out)) ?_;generalize(W0.alloc (AE #[I J cx,I J cy,I J (min LA LB),I J (max LA LB),I J ex,I J ey] 130))=W1 at *;refine lV 24 (λK hK=>?_)
   have an:W1.ownsRow w3.heap.size 130 6 (U a k c) k (iJ (iN cs z x y t.x t.y k)):=by
    have h:W1.ownsRow w3.heap.size 130 6 (U a k c) (iN cs z x y t.x t.y k).length (iJ (iN cs z x y t.x t.y k)):=eV.out.s;rw[cq] at h;exact h
   have gB:=eV.out.size
   refine bt _ rfl _ _ 82 rfl w3.heap.size 130 i0 _ 6 48 underlying82 ef ee e7 ec rfl (by decide) _ k _ rfl an _ 1 1 [I J cx,I J cy,I J (min LA LB),I J (max LA LB),I J ex,I J ey] rfl (.inr ⟨_,rfl,Ax j7.out⟩) rfl (λu hu=>by simp at hu;rcases hu with rfl|rfl|rfl|rfl|rfl|rfl<;>rfl) (by unfold maxLen;omega) (by omega) (by omega) ?_
   intro va W2 ao ad dt;have hZ:Hid (W0.grownBy W2 (U a k c).ownBlock):=Ik h4.out ad;refine hK.out _ _ (.inr (fA.out _ hZ.out)) ?_
   have S2:Hid (gK W2 w3.heap.size va (iN cs z x y t.x t.y (k+1))):=by
    show gK _ _ _ _
    rw[uP];refine gK.snoc (cq _ _ _ _ _ _ _) ?_;rw[cl.out,minI_eq,maxI_eq];exact ao
   obtain⟨pa,pc,rfl⟩:=aY ao
   have gn:=Lv.dx (eV.out.add (aa (aa A1.out B2.out) B3.out).size (show w2.heap.size<w3.heap.size by omega) (show w2.heap.size+1<w3.heap.size by omega) (by omega) (by omega) ad S2.out)
   have ba:W2.heap[w2.heap.size+1]?=AD (AE #[U a k c,I J 0,I J 0] 84 (0,0)):=(ad.block _ (by omega) (λe=>by have:=bF eV.out.s _ e.symm;omega)).trans eV.out.p
   have lz:W2.cell? ⟨w2.heap.size+1,0,R⟩=AD (U a k c):=by simp[AM,ba]
   have OZ:W2.frozen? ⟨w2.heap.size+1,0,R⟩=false:=by simp[Aw,ba]
   have ab:=fA.out _ hZ.out;refine lq 25 ?_ rfl ?_ ?_;rotate_left
   .intro w aL;(try dsimp only at aL);go_simp;try with_reducible rfl
   simp only[AT,aK]
   refine lV 26 (λK hK=>?_);go_simp;refine hK.out _ _ (.inl rfl) ?_
   refine cm (by kernel_rfl) ?_ _
   refine NoPanic.normal ?_;generalize W2.setCell ⟨w2.heap.size+1,0,R⟩ (U pa (k+1) pc)=W3 at *;obtain⟨e0,e1⟩:=gn.out.inE;obtain⟨hF,-⟩:=RL.out _ _ _ _ _ gn.out
   have g1:W3.cell? ⟨w.heap.size,1,R⟩=AD (AF t.s):=by simp[AM,hF]
   have g2:W3.cell? ⟨w.heap.size,2,R⟩=AD (I J t.x):=by simp[AM,hF]
   have g3:W3.cell? ⟨w.heap.size,3,R⟩=AD (I J t.y):=by simp[AM,hF]
   have hX:Hid (x+((k+1:Nat):Int)*t.x=ex+t.x/\y+((k+1:Nat):Int)*t.y=ey+t.y):=by
    refine⟨?_,?_⟩
    .rw [<-Vk.out.1];push_cast;rw[Int.add_mul];omega
    .rw [<-Vk.out.2];push_cast;rw[Int.add_mul];omega
   go_wp2_with fail
   refine(Nc ex ey t _ iz iu (by omega) (by omega)).mono ?_
   rintro e w5⟨rfl,cL⟩;have hS:=Lv.dx (gn.out.call cL);have jv:=hS.out.e
   have ka:=Lv.dx (hS.out.win (show w.heap.size<=w2.heap.size by omega) (by omega) (by omega) (ex+t.x) (ey+t.y))
   go_wp2_with (refine wpList_store_row rfl 244 _ _ rfl w2.heap.size #[I J (ex+t.x),I J (ey+t.y)] rfl rfl 244 _ jv (by kernel_rfl) rfl (by simp[AS]) ?_)
   exact⟨⟨k+1,by omega,by go_num,pa,pc,by rw[hX.out.1,hX.out.2];exact ka⟩,by simp[intOf];omega⟩
  .have HF:Hid (k=cs.length):=by show k=cs.length;omega
   obtain⟨e0,e1⟩:=HI.out.inE;obtain⟨-,ju⟩:=RL.out _ _ _ _ _ HI.out;have xQ:=Lv.dx ju;have fo:=fj.out;go_wp2;refine wp_region_noPanic ?_;generalize hex:x+(k:Int)*t.x=ex at *;generalize hey:y+(k:Int)*t.y=ey at *;have Vk:Hid (x+(k:Int)*t.x=ex/\y+(k:Int)*t.y=ey):=⟨hex,hey⟩
   refine wp_region_held_drew (S:=λw'=>w'.cell? ⟨w2.heap.size,0,R⟩=AD (I J ex)/\w'.cell? ⟨w2.heap.size,1,R⟩=AD (I J ey)) (by kernel_rfl) ?_ (λab=>?_)
   .exact ⟨HI.out.drew.inE.1,HI.out.drew.inE.2⟩
   have ID:=Lv.dx HI.out.drew;have LW:Hid (wr.drew.heap[w.heap.size+1]?=AD (AE #[U R 0 0,I J 0,I J 0] 84 (0,0))):=xQ.out;generalize wr.drew=W0 at *;refine aZ 0 ?_;refine aZ 1 ?_;refine aZ 2 ?_;refine aZ 3 ?_;refine aZ 4 ?_
   simp only[AT,aK]
   have gi:=ID.out.p
   have lz:W0.cell? ⟨w2.heap.size+1,1,R⟩=AD (I J 0):=by simp[AM,gi]
   have OZ:W0.frozen? ⟨w2.heap.size+1,1,R⟩=false:=by simp[Aw,gi]
   have eM:(W0.setCell ⟨w2.heap.size+1,1,R⟩ (I J ex)).heap[w2.heap.size+1]?=AD (AE #[U a k c,I J ex,I J 0] 84 (0,0)):=cK gi;have ht:∀b,b≠w2.heap.size+1->(W0.setCell ⟨w2.heap.size+1,1,R⟩ (I J ex)).heap[b]?=W0.heap[b]?:=λb hb=>AW W0 ⟨w2.heap.size+1,1,R⟩ (I J ex) b hb
   have S1:Hid ((W0.setCell ⟨w2.heap.size+1,1,R⟩ (I J ex)).cell? ⟨w2.heap.size,0,R⟩=AD (I J ex)/\(W0.setCell ⟨w2.heap.size+1,1,R⟩ (I J ex)).cell? ⟨w2.heap.size,1,R⟩=AD (I J ey)):=by
    have h:=(ht w2.heap.size (by omega)).trans ID.out.e
    exact⟨by simp[AM,h],by simp[AM,h]⟩
   have R1:Hid ((W0.setCell ⟨w2.heap.size+1,1,R⟩ (I J ex)).heap[w.heap.size+1]?=AD (AE #[U R 0 0,I J 0,I J 0] 84 (0,0))):=(ht _ (by omega)).trans LW.out
   have B1:Hid (Bw w (W0.setCell ⟨w2.heap.size+1,1,R⟩ (I J ex))):=ID.out.below.setCell (p:=⟨w2.heap.size+1,1,R⟩) (by show w.heap.size<=w2.heap.size+1;omega) _
   have hM:Hid (gK (W0.setCell ⟨w2.heap.size+1,1,R⟩ (I J ex)) w3.heap.size (U a k c) (iN cs z x y t.x t.y k)):=cz ID.out.s (lM W0 _ 1 _) (λq hq e=>by have:=bF ID.out.s q hq;injection e with e;omega)
   have Aj:=Lv.dx eM;refine be 5 (λK hK=>?_);go_simp;refine hK.out _ _ S1.out (λ_=>?_);generalize(W0.setCell ⟨w2.heap.size+1,1,R⟩ (I J ex))=W1 at *;have ab:=S1.out;refine aM 6 ?_ rfl ?_ ?_;rotate_left
   .intro w aL;(try dsimp only at aL);go_simp;try with_reducible rfl
   simp only[AT,aK]
   have eM:=Aj.out
   have lz:W1.cell? ⟨w2.heap.size+1,2,R⟩=AD (I J 0):=by simp[AM,eM]
   have OZ:W1.frozen? ⟨w2.heap.size+1,2,R⟩=false:=by simp[Aw,eM]
   have ba:(W1.setCell ⟨w2.heap.size+1,2,R⟩ (I J ey)).heap[w2.heap.size+1]?=AD (AE #[U a k c,I J ex,I J ey] 84 (0,0)):=cK eM;have hd:∀b,b≠w2.heap.size+1->(W1.setCell ⟨w2.heap.size+1,2,R⟩ (I J ey)).heap[b]?=W1.heap[b]?:=λb hb=>AW W1 ⟨w2.heap.size+1,2,R⟩ (I J ey) b hb
   have S2:Hid ((W1.setCell ⟨w2.heap.size+1,2,R⟩ (I J ey)).cell? ⟨w2.heap.size,0,R⟩=AD (I J ex)/\(W1.setCell ⟨w2.heap.size+1,2,R⟩ (I J ey)).cell? ⟨w2.heap.size,1,R⟩=AD (I J ey)):=by
    have h:=hd w2.heap.size (by omega)
    refine⟨?_,?_⟩
    .rw [World.cell?_of_block (w:=W1) h];exact S1.out.1
    .rw [World.cell?_of_block (w:=W1) h];exact S1.out.2
   have R2:Hid ((W1.setCell ⟨w2.heap.size+1,2,R⟩ (I J ey)).heap[w.heap.size+1]?=AD (AE #[U R 0 0,I J 0,I J 0] 84 (0,0))):=(hd _ (by omega)).trans R1.out
   have eW:Hid (Bw w (W1.setCell ⟨w2.heap.size+1,2,R⟩ (I J ey))):=B1.out.setCell (p:=⟨w2.heap.size+1,2,R⟩) (by show w.heap.size<=w2.heap.size+1;omega) _
   have hL:Hid (gK (W1.setCell ⟨w2.heap.size+1,2,R⟩ (I J ey)) w3.heap.size (U a k c) (iN cs z x y t.x t.y k)):=cz hM.out (lM W1 _ 2 _) (λq hq e=>by have:=bF hM.out q hq;injection e with e;omega)
   have Px:=Lv.dx ba;refine be 7 (λK hK=>?_);go_simp;refine hK.out _ _ S2.out (λ_=>?_);generalize(W1.setCell ⟨w2.heap.size+1,2,R⟩ (I J ey))=W2 at *
   refine wpAnyH_done (by kernel_rfl) ?_ _
   refine NoPanic.normal ?_;have ba:=Px.out
   have p0:W2.cell? ⟨w2.heap.size+1,0,R⟩=AD (U a k c):=by simp[AM,ba]
   have p1:W2.cell? ⟨w2.heap.size+1,1,R⟩=AD (I J ex):=by simp[AM,ba]
   have p2:W2.cell? ⟨w2.heap.size+1,2,R⟩=AD (I J ey):=by simp[AM,ba]
   have hR:=R2.out
   go_wp2_with (refine wpList_store_row rfl 84 _ _ rfl (w.heap.size+1) #[U a k c,I J ex,I J ey] rfl rfl 84 _ hR (by kernel_rfl) rfl (by simp[AS]) ?_)
   exact bv (AG #[U a k c,I J ex,I J ey]) ⟨U a k c,by rw[<-Vk.out.1,<-Vk.out.2,HF.out],by rw[<-HF.out];exact cG (cz hL.out (cX _ _ _) (λq hq e=>by have:=bF hL.out q hq;injection e with e;omega)) (by omega),bL eW.out⟩ (by simp[results,results130,go_sem,bU hR])
open Go.RowKit Sd
structure SL (w w7 wr:World) (P:Nat) (fx fy:Int) (sv:Value) (l:List Stp):Prop where
 below:Bw w wr
 size:w7.heap.size<=wr.heap.size
 keep:∀b,b<w7.heap.size->b≠P->wr.heap[b]?=w7.heap[b]?
 p:wr.heap[P]?=AD (AE #[sv,I J fx,I J fy] 84 (0,0))
 s:gK wr w7.heap.size sv l
theorem SL.call{l:List Stp}(h:SL w w7 wr P fx fy sv l)(hb:Bw wr wx):SL w w7 wx P fx fy sv l :=
 ⟨aa h.below hb,A2 h.size hb.size,λb hl h1=>(hb.block b (A3 hl h.size)).trans (h.keep b hl h1),ah hb h.p,aN h.s hb⟩
theorem SL.drew{l:List Stp}(h:SL w w7 wr P fx fy sv l):SL w w7 wr.drew P fx fy sv l:=⟨h.below.drew,h.size,h.keep,h.p,h.s⟩
theorem SL.cell{l:List Stp}(h:SL w w7 wr P fx fy sv l)(hb:b<w7.heap.size)(h1:b≠P)(hc:w7.cell? ⟨b,o,R⟩=AD u):wr.cell? ⟨b,o,R⟩=AD u:=by
 rw[World.cell?_of_block (w:=w7) (h.keep b hb h1)];exact hc
theorem SL.inP{l:List Stp}(h:SL w w7 wr P fx fy sv l):wr.cell? ⟨P,0,R⟩=AD sv:=dM h.p rfl
theorem SL.other{l:List Stp}(h:SL w w7 wr P fx fy sv l)(B i:Nat)(u:Value)(hB:sv.ownBlock≠AD B)(hw:w.heap.size<=B/\w7.heap.size<=B/\P<w7.heap.size):SL w w7 (wr.setCell ⟨B,i,R⟩ u) P fx fy sv l:=by
 have ho:∀b,b≠B->(wr.setCell ⟨B,i,R⟩ u).heap[b]?=wr.heap[b]?:=λb hb=>AW wr ⟨B,i,R⟩ u b hb
 refine⟨h.below.setCell (p:=⟨B,i,R⟩) hw.1 _,by simpa using h.size,λb hl h1=>(ho b (by omega)).trans (h.keep b hl h1),(ho P (by omega)).trans h.p,cz h.s (lM wr B i u) (λk hk e=>hB (by rw[hk,e]))⟩
theorem SL.rowO{l:List Stp}(h:SL w w7 wr P fx fy sv l)(B:Nat)(C:Array Value)(hB:sv.ownBlock≠AD B)(hw:w.heap.size<=B/\w7.heap.size<=B/\P<w7.heap.size):SL w w7 (wr.setRow B C) P fx fy sv l:=by
 have ho:∀b,b≠B->(wr.setRow B C).heap[b]?=wr.heap[b]?:=λb hb=>ni hb
 refine⟨below_setRow h.below hw.1 _,by simpa using h.size,λb hl h1=>(ho b (by omega)).trans (h.keep b hl h1),(ho P (by omega)).trans h.p,cz h.s (cX wr B C) (λk hk e=>hB (by rw[hk,e]))⟩
theorem SL.add{l l':List Stp}(h:SL w w7 wr P fx fy sv l)(hw:w.heap.size<=w7.heap.size)(hP:P<w7.heap.size)(hPw:w.heap.size<=P)(hg:wr.grownBy wx sv.ownBlock)(hs:gK wx w7.heap.size PO l'):SL w w7 (wx.setCell ⟨P,0,R⟩ PO) P fx fy PO l':=by
 have fz:=h.size;have bY:∀k,sv.ownBlock=AD k->w7.heap.size<=k:=λk hk=>bF h.s k hk
 have h1:∀b,b<w7.heap.size->wx.heap[b]?=wr.heap[b]?:=λb hb=>hg.block b (by omega) (λe=>by have:=bY b e.symm;omega)
 have h2:∀b,b≠P->(wx.setCell ⟨P,0,R⟩ PO).heap[b]?=wx.heap[b]?:=λb hb=>AW wx ⟨P,0,R⟩ PO b hb;have hp:=(h1 P hP).trans h.p
 refine⟨(h.below.grown hg h.below.size (λk e=>by have:=bY k e;omega)).setCell (p:=⟨P,0,R⟩) hPw _,by simpa using A2 fz hg.size,λb hb e2=>((h2 b e2).trans (h1 b hb)).trans (h.keep b hb e2),cK hp,cz hs (lM wx P 0 PO) (λk hk e=>?_)⟩
 have h3:=bF hs k hk
 injection e with e
 omega
theorem rF(vk vp ve:Value)(ks ps:List dE)(es:List eF)(nm:ByteArray)(w:World)(hB:dW w vk vp ve ks ps es)(nB:jV ks ps es)(sB:ic ks ps es) :
 Calls prog 35 #[AG #[vk,vp,ve],AF nm] w λe w'=>∃v,e=.returned (AH #[AG #[v,I J (dQ ks ps es nm).fr,I J (dQ ks ps es nm).b],I J (dQ ks ps es nm).c])/\gK w' w.heap.size v (dQ ks ps es nm).st/\Bw w w':=by
 obtain⟨i0,ef,ee,e7,ec⟩:=info_parts KU;have HB:Hid (∀wx:World,Bw w wx->dW wx vk vp ve ks ps es):=λwx hx=>hB.keep hx;obtain⟨⟨ak,ck,rfl,-,-,-⟩,⟨ap,cp,rfl,-,-,-⟩,⟨ae,ce,rfl,fg,b6,-⟩⟩:=hB;unfold maxLen at b6
 have A1:Hid (Bw w ((w.alloc (AE #[U ak ks.length ck,U ap ps.length cp,U ae es.length ce] 41)).alloc (AE #[U R 0 0,I J 0,I J 0] 84))):=(aG).alloc (by simp) _
 have R1:Hid (((w.alloc (AE #[U ak ks.length ck,U ap ps.length cp,U ae es.length ce] 41)).alloc (AE #[U R 0 0,I J 0,I J 0] 84)).heap[w.heap.size+1]?=AD (AE #[U R 0 0,I J 0,I J 0] 84 (0,0))):=by
  have h:=Lv.aS (w.alloc (AE #[U ak ks.length ck,U ap ps.length cp,U ae es.length ce] 41)) (AE #[U R 0 0,I J 0,I J 0] 84)
  rw[show(w.alloc (AE #[U ak ks.length ck,U ap ps.length cp,U ae es.length ce] 41)).heap.size=w.heap.size+1 by simp] at h
  exact h
 have Q0:Hid (∀wx:World,Bw ((w.alloc (AE #[U ak ks.length ck,U ap ps.length cp,U ae es.length ce] 41)).alloc (AE #[U R 0 0,I J 0,I J 0] 84)) wx->(wx.cell? ⟨w.heap.size,0,R⟩=AD (U ak ks.length ck)/\wx.cell? ⟨w.heap.size,1,R⟩=AD (U ap ps.length cp)/\wx.cell? ⟨w.heap.size,2,R⟩=AD (U ae es.length ce))):=λwx hx=>⟨ac hx aE (by simp[go_sem]),ac hx aE (by simp[go_sem]),ac hx aE (by simp[go_sem])⟩
 obtain⟨p0,p1,p2⟩:=Q0.out _ (AN _ _)
 go_enter func35,ntmps35
 go_wp2_with fail;generalize((w.alloc (AE #[U ak ks.length ck,U ap ps.length cp,U ae es.length ce] 41)).alloc (AE #[U R 0 0,I J 0,I J 0] 84))=w1 at *;refine(cr _ _ _ ks ps es _ (HB.out _ A1.out) nB sB).mono ?_;rintro e w2⟨rfl,ay⟩;have B2:Hid (Bw w1 w2):=ay;clear ay p0 p1 p2;obtain⟨p0,p1,p2⟩:=Q0.out _ B2.out;have hR:=ah B2.out R1.out
 cases bb:dP ks ps es
 .have HE:Hid (dQ ks ps es nm=⟨1,[],0,0⟩):=by show _=_;unfold dQ;rw[bb];rfl
  clear bb
  go_wp2_with (refine wpList_store_row rfl 84 _ _ rfl (w.heap.size+1) #[U R 0 0,I J 0,I J 0] rfl rfl 84 _ hR (by kernel_rfl) rfl (by simp[AS]) ?_)
  exact bv (AH #[AG #[U R 0 0,I J 0,I J 0],I J 1]) ⟨U R 0 0,by rw[HE.out],by rw[HE.out];exact gK.nil _ _,bL (aa A1.out B2.out)⟩ (by simp[results,results35,go_sem,bU hR])
 have mG:Hid (dP ks ps es=true):=bb;clear bb hR;go_wp2_with fail;refine(z8 _ _ _ ks ps es nm _ (HB.out _ (aa A1.out B2.out)) nB sB).mono ?_;rintro e w3⟨rt,rfl,bn,fi⟩;have B3:Hid (Bw w1 w3):=aa B2.out fi;clear fi p0 p1 p2;obtain⟨p0,p1,p2⟩:=Q0.out _ B3.out
 cases ax:fU ks ps es nm with
 |none =>
  have HE:Hid (dQ ks ps es nm=⟨2,[],0,0⟩):=by show _=_;unfold dQ;rw[mG.out,ax];rfl
  clear ax bn;have B4:Hid (Bw w1 (w3.alloc (AE #[AF ⟨#[]⟩,AF ⟨#[]⟩,I J 0,I J 0,I J 0,I J 0,I J 0,U R 0 0] 81))):=aa B3.out (aG);have hR:=ah B4.out R1.out;unfold rD EF
  go_wp2_with (refine wpList_store_row rfl 84 _ _ rfl (w.heap.size+1) #[U R 0 0,I J 0,I J 0] rfl rfl 84 _ hR (by kernel_rfl) rfl (by simp[AS]) ?_)
  exact bv (AH #[AG #[U R 0 0,I J 0,I J 0],I J 2]) ⟨U R 0 0,by rw[HE.out],by rw[HE.out];exact gK.nil _ _,bL (aa A1.out B4.out)⟩ (by simp[results,results35,go_sem,bU hR])
 |some e =>
  have kc:Hid (fU ks ps es nm=AD e):=ax;obtain⟨-,-,⟨f4,fa,eI⟩,e8,aT⟩:=vW ax
  have Ma:Hid (dQ ks ps es nm=rQ ks ps e):=by show _=_;unfold dQ;rw[mG.out,ax];rfl
  have QN:gY w3 w2.heap.size rt (o8 e):=by
   have h:=bn e ax;rw[fa] at h;rw[eI];exact h
  have hlen:=(cO e8).1
  have gl:Hid (dR w3 rt (o8 e)):=bq QN (λh0=>by rw[h0] at hlen;simp at hlen)
  obtain⟨ra,rc,rfl⟩:=Lv.dH QN;clear bn QN fa eI ax;generalize hrn:(o8 e).length=rn at *;have hsc:rD ks (AD e) (U ra rn rc)=#[AF e.name,AF (jc ks (dG e.fs 1)).s,I J (jc ks (dG e.fs 1)).x,I J (jc ks (dG e.fs 1)).y,I J (l9 (dG e.fs 2)),I J (kK (dG e.fs 2)),I J (mF (dG e.fs 3)),U ra rn rc]:=rfl;rw[hsc];clear hsc;unfold rQ at Ma;generalize e.name=q at *;generalize jc ks (dG e.fs 1)=t at *;generalize l9 (dG e.fs 2)=x at *;generalize kK (dG e.fs 2)=y at *;generalize mF (dG e.fs 3)=z at *;generalize hws:o8 e=ws at *;have B4:Hid (Bw w3 (w3.alloc (AE #[AF q,AF t.s,I J t.x,I J t.y,I J x,I J y,I J z,U ra rn rc] 81))):=(aG);have F4:Hid ((w3.alloc (AE #[AF q,AF t.s,I J t.x,I J t.y,I J x,I J y,I J z,U ra rn rc] 81)).heap[w3.heap.size]?=AD (AE #[AF q,AF t.s,I J t.x,I J t.y,I J x,I J y,I J z,U ra rn rc] 81 (0,0))):=Lv.aS w3 _;have ct:Hid (Bw w1 (w3.alloc (AE #[AF q,AF t.s,I J t.x,I J t.y,I J x,I J y,I J z,U ra rn rc] 81))):=aa B3.out B4.out;obtain⟨ew,e4,e3⟩:=Q0.out _ ct.out;have zw:=am p0;have c7:(w3.alloc (AE #[AF q,AF t.s,I J t.x,I J t.y,I J x,I J y,I J z,U ra rn rc] 81)).cell? ⟨w3.heap.size,7,R⟩=AD (U ra rn rc):=dM F4.out rfl;go_wp2_with fail;generalize(w3.alloc (AE #[AF q,AF t.s,I J t.x,I J t.y,I J x,I J y,I J z,U ra rn rc] 81))=w4 at *;refine(Ed _ _ _ ks ps ws _ (HB.out _ (aa A1.out ct.out)).k (HB.out _ (aa A1.out ct.out)).p nB.k nB.p (gl.out.keep B4.out)).mono ?_;rintro e5 w5⟨u,rfl,hu,cL⟩;have B5:Hid (Bw w1 w5):=aa ct.out cL;have F5:Hid (w5.heap[w3.heap.size]?=AD (AE #[AF q,AF t.s,I J t.x,I J t.y,I J x,I J y,I J z,U ra rn rc] 81 (0,0))):=ah cL F4.out;clear p0 p1 p2 ew e4 e3 c7 F4
  cases au:dZ ks ps ws
  .have HE:Hid (dQ ks ps es nm=⟨3,[],0,0⟩):=by show _=_;rw[Ma.out,au];rfl
   obtain⟨ua,uc,rfl⟩:=aY hu;clear au;have hR:=ah B5.out R1.out
   go_wp2_with (refine wpList_store_row rfl 84 _ _ rfl (w.heap.size+1) #[U R 0 0,I J 0,I J 0] rfl rfl 84 _ hR (by kernel_rfl) rfl (by simp[AS]) ?_)
   exact bv (AH #[AG #[U R 0 0,I J 0,I J 0],I J 3]) ⟨U R 0 0,by rw[HE.out],by rw[HE.out];exact gK.nil _ _,bL (aa A1.out B5.out)⟩ (by simp[results,results35,go_sem,bU hR])
  have fh:jg ks ps ws=fM ps ws:=by unfold jg;rw[au];rfl
  rw[fh] at hu
  have ek:1<=(fM ps ws).length/\(fM ps ws).length<=40:=⟨Dm (by omega),by
   unfold dZ at au;rw[At] at au
   exact of_decide_eq_true au.2⟩
  rw[au] at Ma
  simp only[cond_true] at Ma
  clear fh au;generalize fM ps ws=cs at *;obtain⟨ua,uc,rfl⟩:=aY hu;have U5:Hid (Mx w5 (U ua cs.length uc) cs):=hu.at;clear hu cL
  -- the specification's path
  obtain⟨f1,f2,f3,f4,f5,f6,f7,f8⟩:=aT;obtain⟨gk,gj⟩:=ek;have Py:Hid ((gT (cs.length:Int) z).length=cs.length):=Cu ⟨gk,gj⟩ ⟨f7,f8⟩;have et:Hid (∀k,k<cs.length->(gT (cs.length:Int) z)[k]?=AD (wR cs.length z k)):=λk hk=>Cv ⟨gk,gj⟩ ⟨f7,f8⟩ k hk;have ej:=dM F5.out (i:=2) rfl;have ei:=dM F5.out (i:=3) rfl;have eh:=dM F5.out (i:=4) rfl;have eg:=dM F5.out (i:=5) rfl;have hJ:=dM F5.out (i:=6) rfl
  have hA:0<=(cs.length:Int)*t.x/\(cs.length:Int)*t.x<=2000:=⟨An (by omega) (by omega),by
   have h1:=As (show(cs.length:Int)<=40 by omega) (show t.x<=50 by omega) (by omega) (by omega)
   omega⟩
  have hz:0<=(cs.length:Int)*t.y/\(cs.length:Int)*t.y<=2000:=⟨An (by omega) (by omega),by
   have h1:=As (show(cs.length:Int)<=40 by omega) (show t.y<=50 by omega) (by omega) (by omega)
   omega⟩
  obtain⟨jj,jd⟩:=hA;obtain⟨iT,iS⟩:=hz
  by_cases KZ:10000<y+(cs.length:Int)*t.y
  .have HE:Hid (dQ ks ps es nm=⟨4,[],0,0⟩):=by show _=_;rw[Ma.out,decide_eq_true KZ];rfl
   have hR:=ah B5.out R1.out
   go_wp2_with (refine wpList_store_row rfl 84 _ _ rfl (w.heap.size+1) #[U R 0 0,I J 0,I J 0] rfl rfl 84 _ hR (by kernel_rfl) rfl (by simp[AS]) ?_)
   exact bv (AH #[AG #[U R 0 0,I J 0,I J 0],I J 4]) ⟨U R 0 0,by rw[HE.out],by rw[HE.out];exact gK.nil _ _,bL (aa A1.out B5.out)⟩ (by simp[results,results35,go_sem,bU hR])
  have HE:Hid (dQ ks ps es nm=⟨0,iN cs z x y t.x t.y cs.length,x+(cs.length:Int)*t.x,y+(cs.length:Int)*t.y⟩):=by show _=_;rw[Ma.out,decide_eq_false KZ];rfl
  go_wp2_with fail;refine(Lv.Bg _ _ _).mono ?_;rintro e6 w6⟨lv,rfl,hl,er⟩;obtain⟨la,lc,rfl⟩:=Lv.dH hl;have L6:Hid (Lv.IAt w6 (.slice la (gT (cs.length:Int) z).length lc) (gT (cs.length:Int) z)):=Lv.lU.at hl;rw[Py.out] at L6 ⊢;have F6:Hid (w6.heap[w3.heap.size]?=AD (AE #[AF q,AF t.s,I J t.x,I J t.y,I J x,I J y,I J z,U ra rn rc] 81 (0,0))):=ah er F5.out;have B6:Hid (Bw w1 w6):=aa B5.out er;have U6:Hid (Mx w6 (U ua cs.length uc) cs):=U5.out.keep er;clear hl er ej ei eh eg hJ F5 U5 B5;have ej:=dM F6.out (i:=2) rfl;have ei:=dM F6.out (i:=3) rfl;have eh:=dM F6.out (i:=4) rfl;have eg:=dM F6.out (i:=5) rfl;have B7:Hid (Bw w6 (w6.alloc (AE #[U R 0 0,I J (x+(cs.length:Int)*t.x),I J (y+(cs.length:Int)*t.y)] 84))):=(aG);have P7:Hid ((w6.alloc (AE #[U R 0 0,I J (x+(cs.length:Int)*t.x),I J (y+(cs.length:Int)*t.y)] 84)).heap[w6.heap.size]?=AD (AE #[U R 0 0,I J (x+(cs.length:Int)*t.x),I J (y+(cs.length:Int)*t.y)] 84 (0,0))):=Lv.aS w6 _
  have Z7:Hid ((w6.alloc (AE #[U R 0 0,I J (x+(cs.length:Int)*t.x),I J (y+(cs.length:Int)*t.y)] 84)).heap.size=w6.heap.size+1):=by show _=_;simp
  go_wp2_with fail;generalize(w6.alloc (AE #[U R 0 0,I J (x+(cs.length:Int)*t.x),I J (y+(cs.length:Int)*t.y)] 84))=w7 at *;generalize x+(cs.length:Int)*t.x=fx at *;generalize y+(cs.length:Int)*t.y=fy at *;clear ej ei eh eg
  have hzw:w.heap.size+2<=w6.heap.size:=by
   have h1:=lt_of_block (ah B6.out R1.out)
   omega
  have j9:Hid (SL w w7 w7 w6.heap.size fx fy (U R 0 0) (iN cs z x y t.x t.y 0)):=⟨aa (aa A1.out B6.out) B7.out,A4 _,λ_ _ _=>rfl,P7.out,gK.nil _ _⟩;obtain⟨j0,jz,hce,-,ds,au⟩:=U6.out
  obtain⟨cg,gf,eL,-⟩:=au 0 _ (mM (by omega))
  cases hce
  subst gf;have jt:=am eL;unfold maxLen at ds
  have Mj:Hid (∀(wx:World) (sv:Value) (l:List Stp),SL w w7 wx w6.heap.size fx fy sv l->∀k,k<cs.length->wx.cell? ⟨cg,k*2,R⟩=AD (I J (iI cs k).x)/\wx.cell? ⟨cg,k*2+1,R⟩=AD (I J (iI cs k).y)):=λwx sv l hp k hk=>by
   obtain⟨g,hg,d0,d1⟩:=au k _ (mM hk)
   cases hg
   have fm:=Z7.out
   exact⟨hp.cell (by omega) (by omega) (ac B7.out aE d0),hp.cell (by omega) (by omega) (ac B7.out aE d1)⟩
  obtain⟨h7,h6,hle,dq,dm,cu⟩:=L6.out
  obtain⟨lg,fW,bV⟩:=cu 0 _ (et.out 0 (by omega))
  rw[Py.out] at hle dq
  cases hle
  subst fW;have fR:=am bV;unfold maxLen at dm
  have Rq:Hid (∀(wx:World) (sv:Value) (l:List Stp),SL w w7 wx w6.heap.size fx fy sv l->∀k,k<cs.length->wx.cell? ⟨lg,k,R⟩=AD (I J (wR cs.length z k))):=λwx sv l hp k hk=>by
   obtain⟨g,hg,d0⟩:=cu k _ (et.out k hk)
   cases hg
   have fm:=Z7.out
   exact hp.cell (by omega) (by omega) (ac B7.out aE d0)
  have ie:=lt_of_block F6.out
  have RL:Hid (∀(wx:World) (sv:Value) (l:List Stp),SL w w7 wx w6.heap.size fx fy sv l->wx.heap[w3.heap.size]?=AD (AE #[AF q,AF t.s,I J t.x,I J t.y,I J x,I J y,I J z,U ra rn rc] 81 (0,0))/\wx.heap[w.heap.size+1]?=AD (AE #[U R 0 0,I J 0,I J 0] 84 (0,0))):=λwx sv l hp=>by
   have fm:=Z7.out
   exact⟨(hp.keep _ (by omega) (by omega)).trans (ah B7.out F6.out),(hp.keep _ (by omega) (by omega)).trans (ah B7.out (ah B6.out R1.out))⟩
  clear au cu bV eL U6 L6 Py et F6;have fm:=Z7.out
  go_loopw [13] (λi wr=>∃k:Nat,k<=cs.length/\i=I J k/\∃a c,Hid (SL w w7 wr w6.heap.size fx fy (U a k c) (iN cs z x y t.x t.y k))) (λi _=>cs.length-(intOf i).toNat)
  case atStart=>exact⟨0,A0 _,rfl,R,0,j9⟩
  case round =>
   obtain⟨k,hk,rfl,a,c,HI⟩:=hrel
   by_cases av:k<cs.length
   .obtain ⟨c0,c1⟩:=Mj.out _ _ _ HI.out k av
    have l0:=Rq.out _ _ _ HI.out k av;obtain⟨hF,-⟩:=RL.out _ _ _ HI.out;have ej:=dM hF (i:=2) rfl;have ei:=dM hF (i:=3) rfl;have eh:=dM hF (i:=4) rfl;have eg:=dM hF (i:=5) rfl
    have ga:(0:Int)<=(k:Int):=by omega
    have fc:(k:Int)<(cs.length:Int):=by omega
    obtain⟨ix,iv⟩:0<=(k:Int)*t.x/\(k:Int)*t.x<=2000:=⟨An (by omega) (by omega),by
     have h1:=As (show(k:Int)<=40 by omega) (show t.x<=50 by omega) (by omega) (by omega)
     omega⟩
    obtain⟨ir,im⟩:0<=(k:Int)*t.y/\(k:Int)*t.y<=2000:=⟨An (by omega) (by omega),by
     have h1:=As (show(k:Int)<=40 by omega) (show t.y<=50 by omega) (by omega) (by omega)
     omega⟩
    have cl:Hid (PQ cs z x y t.x t.y k=⟨(iI cs k).x,(iI cs k).y,jJ (wR cs.length z (k-1)) (wR cs.length z k),kG (wR cs.length z (k-1)) (wR cs.length z k),x+(k:Int)*t.x,y+(k:Int)*t.y⟩):=rfl;generalize hcx:(iI cs k).x=cx at *;generalize hcy:(iI cs k).y=cy at *;have hY:Hid ((iI cs k).x=cx/\(iI cs k).y=cy):=⟨hcx,hcy⟩;clear hF hcx hcy
    have fA:Hid (∀(wx:World) (sv:Value) (l:List Stp),SL w w7 wx w6.heap.size fx fy sv l->(wx.cell? ⟨cg,k*2,R⟩=AD (I J cx)/\wx.cell? ⟨cg,k*2+1,R⟩=AD (I J cy)/\wx.cell? ⟨lg,k,R⟩=AD (I J (wR cs.length z k)))/\(wx.cell? ⟨w3.heap.size,2,R⟩=AD (I J t.x)/\wx.cell? ⟨w3.heap.size,3,R⟩=AD (I J t.y))/\wx.cell? ⟨w3.heap.size,4,R⟩=AD (I J x)/\wx.cell? ⟨w3.heap.size,5,R⟩=AD (I J y)):=λwx sv l hp=>by
     obtain⟨h0,h1⟩:=Mj.out _ _ _ hp k av;rw[hY.out.1] at h0;rw[hY.out.2] at h1;obtain⟨hF,-⟩:=RL.out _ _ _ hp;exact⟨⟨h0,h1,Rq.out _ _ _ hp k av⟩,⟨dM hF rfl,dM hF rfl⟩,dM hF rfl,dM hF rfl⟩
    have hU:Hid (∀(wx:World) (sv:Value) (l:List Stp),SL w w7 wx w6.heap.size fx fy sv l->wx.cell? ⟨lg,k,R⟩=AD (I J (wR cs.length z k))/\wx.cell? ⟨lg,k-1,R⟩=AD (I J (wR cs.length z (k-1)))):=λwx sv l hp=>⟨Rq.out _ _ _ hp k av,Rq.out _ _ _ hp (k-1) (by omega)⟩
    generalize hLB:wR cs.length z k=LB at *;generalize hLA:wR cs.length z (k-1)=LA at *;have Py:Hid (wR cs.length z k=LB/\wR cs.length z (k-1)=LA):=⟨hLB,hLA⟩;clear hLB hLA
    have eC:IntKind.i64.wrap ((k:Int)*t.x)=(k:Int)*t.x:=by rw[AO];omega
    have gR:IntKind.i64.wrap (x+(k:Int)*t.x)=x+(k:Int)*t.x:=by rw[AO];omega
    have gO:IntKind.i64.wrap ((k:Int)*t.y)=(k:Int)*t.y:=by rw[AO];omega
    have gE:IntKind.i64.wrap (y+(k:Int)*t.y)=y+(k:Int)*t.y:=by rw[AO];omega
    obtain⟨j,hj⟩:∃j,k-1=j:=⟨_,rfl⟩;have HJ:Hid (k-1=j):=hj;rw[hj] at hU;clear hj;go_wp2;refine wp_region_noPanic ?_
    refine wp_region_held_drew (S:=λw'=>(w'.cell? ⟨cg,k*2,R⟩=AD (I J cx)/\w'.cell? ⟨cg,k*2+1,R⟩=AD (I J cy)/\w'.cell? ⟨lg,k,R⟩=AD (I J LB))/\(w'.cell? ⟨w3.heap.size,2,R⟩=AD (I J t.x)/\w'.cell? ⟨w3.heap.size,3,R⟩=AD (I J t.y))/\w'.cell? ⟨w3.heap.size,4,R⟩=AD (I J x)/\w'.cell? ⟨w3.heap.size,5,R⟩=AD (I J y)) (by kernel_rfl) ?_ (λab=>?_)
    .exact fA.out _ _ _ HI.out.drew
    have ID:=Lv.dx HI.out.drew;generalize wr.drew=W0 at *;clear HI c0 c1 l0 ej ei eh eg;refine aM 0 ?_ rfl ?_ (aM 1 ?_ rfl ?_ (aM 2 ?_ rfl ?_ (aM 3 ?_ rfl ?_ (aM 4 ?_ rfl ?_ (aM 5 ?_ rfl ?_ (aM 6 ?_ rfl ?_ (aM 7 ?_ rfl ?_ (aM 8 ?_ rfl ?_ (aM 9 ?_ rfl ?_ (aM 10 ?_ rfl ?_ (aM 11 ?_ rfl ?_ (aM 12 ?_ rfl ?_ (aM 13 ?_ rfl ?_ (aM 14 ?_ rfl ?_ (aM 15 ?_ rfl ?_ (aM 16 ?_ rfl ?_ (aM 17 ?_ rfl ?_ (aM 18 ?_ rfl ?_ (aM 19 ?_ rfl ?_ (aM 20 ?_ rfl ?_ (aM 21 ?_ rfl ?_ (aM 22 ?_ rfl ?_ (aM 23 ?_ rfl ?_ (aM 24 ?_ rfl ?_ (aM 25 ?_ rfl ?_ (aM 26 ?_ rfl ?_ (aM 27 ?_ rfl ?_ (aM 28 ?_ rfl ?_ (aM 29 ?_ rfl ?_ (aM 30 ?_ rfl ?_ (aM 31 ?_ rfl ?_ (aM 32 ?_ rfl ?_ (aM 33 ?_ rfl ?_ (aM 34 ?_ rfl ?_ ?_))))))))))))))))))))))))))))))))))
    iterate 35(rotate_left;focus(intro w aL;(try dsimp only at aL);simp only[AT,aK];go_simp;try with_reducible rfl))
    simp only[AT,aK]
    clear ab
    try simp only[eC,gR,gO,gE]
    clear eC gR gO gE;generalize x+(k:Int)*t.x=ex at *;generalize y+(k:Int)*t.y=ey at *;have ij:=ID.out.size;have IA:=Lv.dx (ID.out.call ((AN W0.heap.size W0).alloc aE (AE #[I J 0,I J 0,I J 0,I J 0,I J 0,I J 0] 130)));have BA:Hid ((W0.alloc (AE #[I J 0,I J 0,I J 0,I J 0,I J 0,I J 0] 130)).heap[W0.heap.size]?=AD (AE #[I J 0,I J 0,I J 0,I J 0,I J 0,I J 0] 130 (0,0))):=Lv.aS W0 _
    have dy:(U a k c).ownBlock≠AD W0.heap.size:=λe=>by have:=wJ ID.out.s _ e;omega
    refine be 35 (λK hK=>?_);go_simp;refine hK.out _ _ (fA.out _ _ _ IA.out) (λ_=>?_);clear hK K;generalize(W0.alloc (AE #[I J 0,I J 0,I J 0,I J 0,I J 0,I J 0] 130))=W1 at *;generalize W0.heap.size=SB at *
    have dv:w.heap.size<=SB/\w7.heap.size<=SB/\w6.heap.size<w7.heap.size:=by omega
    have IR:=Lv.dx (IA.out.rowO SB #[I J cx,I J cy,I J LB,I J LB,I J ex,I J ey] dy dv);have BR:Hid ((W1.setRow SB #[I J cx,I J cy,I J LB,I J LB,I J ex,I J ey]).heap[SB]?=AD (AE #[I J cx,I J cy,I J LB,I J LB,I J ex,I J ey] 130 (0,0))):=oN BA.out;refine be 36 (λK hK=>?_)
    refine aW rfl 130 _ _ rfl SB #[I J cx,I J cy,I J LB,I J LB,I J ex,I J ey] rfl rfl 130 _ BA.out (by kernel_rfl) rfl (by simp[AS]) ?_
    refine hK.out _ _ (fA.out _ _ _ IR.out) (λ_=>?_);clear hK K IA BA ID
    refine wpAnyH_done (by kernel_rfl) ?_ _
    refine NoPanic.normal ?_;generalize(W1.setRow SB #[I J cx,I J cy,I J LB,I J LB,I J ex,I J ey])=WX at *;have LU:=IR;have c6:=BR;clear IR BR
    by_cases hkz:(0:Int)<(k:Int)
    focus
     have dd:=Lv.dx (hU.out _ _ _ LU.out)
     have hjk:(k:Int)-1=(j:Int):=by have:=HJ.out;omega
     have hwk:IntKind.i64.wrap ((k:Int)-1)=(j:Int):=by have:=HJ.out;rw[AO];omega
     have hwj:IntKind.i64.wrap (j:Int)=(j:Int):=by rw[AO];omega
     have hH:(0:Int)<=(j:Int):=by omega
     have hG:(j:Int)<(cs.length:Int):=by omega
     obtain⟨eA,ez⟩:WX.cell? ⟨lg,k,R⟩=AD (I J LB)/\WX.cell? ⟨lg,j,R⟩=AD (I J LA):=dd.out;go_wp2;refine wp_region_noPanic ?_
     refine wp_region_held_drew (S:=λw'=>w'.cell? ⟨lg,k,R⟩=AD (I J LB)/\w'.cell? ⟨lg,j,R⟩=AD (I J LA)) (by kernel_rfl) ?_ (λab=>?_)
     .exact ⟨eA,ez⟩
     have dz:=Lv.dx LU.out.drew;have eR:Hid (WX.drew.heap[SB]?=AD (AE #[I J cx,I J cy,I J LB,I J LB,I J ex,I J ey] 130 (0,0))):=c6.out;have cb:Hid (WX.drew.cell? ⟨lg,k,R⟩=AD (I J LB)/\WX.drew.cell? ⟨lg,j,R⟩=AD (I J LA)):=dd.out;clear LU c6 dd eA ez;generalize WX.drew=WD at *;refine aM 0 ?_ rfl ?_ (aM 1 ?_ rfl ?_ (aM 2 ?_ rfl ?_ (aM 3 ?_ rfl ?_ (aM 4 ?_ rfl ?_ (aM 5 ?_ rfl ?_ (aM 6 ?_ rfl ?_ (aM 7 ?_ rfl ?_ (aM 8 ?_ rfl ?_ ?_))))))))
     iterate 9(rotate_left;focus(intro w aL;(try dsimp only at aL);simp only[AT,aK];go_simp;try with_reducible rfl))
     simp only[AT,aK]
     clear ab;refine be 9 (λK hK=>?_);go_simp;refine(Lv.yH _ _ _).mono ?_;rintro e w9⟨rfl,rfl⟩;refine hK.out _ _ cb.out (λab=>?_);clear hK K;refine aM 10 ?_ rfl ?_ ?_;rotate_left
     .intro w aL;(try dsimp only at aL);go_simp;try with_reducible rfl
     simp only[AT,aK]
     clear ab;have CW:=eR.out;have lz:=dM CW (i:=2) rfl
     have OZ:w9.frozen? ⟨SB,2,R⟩=false:=by simp[Aw,CW]
     have ia:=dz.out.size;have eS:Hid ((w9.setCell ⟨SB,2,R⟩ (I J (jJ LA LB))).heap[SB]?=AD (AE #[I J cx,I J cy,I J (jJ LA LB),I J LB,I J ex,I J ey] 130 (0,0))):=cK CW;have eP:=Lv.dx (dz.out.other SB 2 (I J (jJ LA LB)) dy dv)
     have dT:Hid ((w9.setCell ⟨SB,2,R⟩ (I J (jJ LA LB))).cell? ⟨lg,k,R⟩=AD (I J LB)/\(w9.setCell ⟨SB,2,R⟩ (I J (jJ LA LB))).cell? ⟨lg,j,R⟩=AD (I J LA)):=by
      have h:(w9.setCell ⟨SB,2,R⟩ (I J (jJ LA LB))).heap[lg]?=w9.heap[lg]?:=AW w9 ⟨SB,2,R⟩ _ lg (by show lg≠SB;omega)
      exact⟨by rw[World.cell?_of_block (w:=w9) h];exact cb.out.1,by rw[World.cell?_of_block (w:=w9) h];exact cb.out.2⟩
     clear CW;refine be 11 (λK hK=>?_);go_simp;refine hK.out _ _ dT.out (λ_=>?_);clear hK K lz OZ dz eR cb
     refine wpAnyH_done (by kernel_rfl) ?_ _
     refine NoPanic.normal ?_;generalize(w9.setCell ⟨SB,2,R⟩ (I J (jJ LA LB)))=WX at *;have LU:=eP;have c6:=eS;have dd:=dT;clear eP eS dT;obtain⟨eA,ez⟩:WX.cell? ⟨lg,k,R⟩=AD (I J LB)/\WX.cell? ⟨lg,j,R⟩=AD (I J LA):=dd.out;go_wp2;refine wp_region_noPanic ?_
     refine wp_region_held_drew (S:=λw'=>w'.cell? ⟨lg,k,R⟩=AD (I J LB)/\w'.cell? ⟨lg,j,R⟩=AD (I J LA)) (by kernel_rfl) ?_ (λab=>?_)
     .exact ⟨eA,ez⟩
     have dz:=Lv.dx LU.out.drew;have eR:Hid (WX.drew.heap[SB]?=AD (AE #[I J cx,I J cy,I J (jJ LA LB),I J LB,I J ex,I J ey] 130 (0,0))):=c6.out;have cb:Hid (WX.drew.cell? ⟨lg,k,R⟩=AD (I J LB)/\WX.drew.cell? ⟨lg,j,R⟩=AD (I J LA)):=dd.out;clear LU c6 dd eA ez;generalize WX.drew=WD at *;refine aM 0 ?_ rfl ?_ (aM 1 ?_ rfl ?_ (aM 2 ?_ rfl ?_ (aM 3 ?_ rfl ?_ (aM 4 ?_ rfl ?_ (aM 5 ?_ rfl ?_ (aM 6 ?_ rfl ?_ (aM 7 ?_ rfl ?_ (aM 8 ?_ rfl ?_ ?_))))))))
     iterate 9(rotate_left;focus(intro w aL;(try dsimp only at aL);simp only[AT,aK];go_simp;try with_reducible rfl))
     simp only[AT,aK]
     clear ab;refine be 9 (λK hK=>?_);go_simp;refine(FH _ _ _).mono ?_;rintro e w9⟨rfl,rfl⟩;refine hK.out _ _ cb.out (λab=>?_);clear hK K;refine aM 10 ?_ rfl ?_ ?_;rotate_left
     .intro w aL;(try dsimp only at aL);go_simp;try with_reducible rfl
     simp only[AT,aK]
     clear ab;have CW:=eR.out;have lz:=dM CW (i:=3) rfl
     have OZ:w9.frozen? ⟨SB,3,R⟩=false:=by simp[Aw,CW]
     have ia:=dz.out.size;have eS:Hid ((w9.setCell ⟨SB,3,R⟩ (I J (kG LA LB))).heap[SB]?=AD (AE #[I J cx,I J cy,I J (jJ LA LB),I J (kG LA LB),I J ex,I J ey] 130 (0,0))):=cK CW;have eP:=Lv.dx (dz.out.other SB 3 (I J (kG LA LB)) dy dv)
     have dT:Hid ((w9.setCell ⟨SB,3,R⟩ (I J (kG LA LB))).cell? ⟨lg,k,R⟩=AD (I J LB)/\(w9.setCell ⟨SB,3,R⟩ (I J (kG LA LB))).cell? ⟨lg,j,R⟩=AD (I J LA)):=by
      have h:(w9.setCell ⟨SB,3,R⟩ (I J (kG LA LB))).heap[lg]?=w9.heap[lg]?:=AW w9 ⟨SB,3,R⟩ _ lg (by show lg≠SB;omega)
      exact⟨by rw[World.cell?_of_block (w:=w9) h];exact cb.out.1,by rw[World.cell?_of_block (w:=w9) h];exact cb.out.2⟩
     clear CW;refine be 11 (λK hK=>?_);go_simp;refine hK.out _ _ dT.out (λ_=>?_);clear hK K lz OZ dz eR cb
     refine wpAnyH_done (by kernel_rfl) ?_ _
     refine NoPanic.normal ?_;generalize(w9.setCell ⟨SB,3,R⟩ (I J (kG LA LB)))=WX at *;have LU:=eP;have c6:=eS;have dd:=dT;clear eP eS dT;have CW:=c6.out;have b0:=dM CW (i:=0) rfl;have b1:=dM CW (i:=1) rfl;have b2:=dM CW (i:=2) rfl;have b3:=dM CW (i:=3) rfl;have b4:=dM CW (i:=4) rfl;have b5:=dM CW (i:=5) rfl;have iP:=LU.out.inP
     have an:WX.ownsRow w7.heap.size 130 6 (U a k c) k (iJ (iN cs z x y t.x t.y k)):=by
      have h:WX.ownsRow w7.heap.size 130 6 (U a k c) (iN cs z x y t.x t.y k).length (iJ (iN cs z x y t.x t.y k)):=LU.out.s;rw[cq] at h;exact h
     have h8:=LU.out.size;have ba:=LU.out.p
     go_wp2_with (at_builtin;refine az _ rfl _ _ 82 rfl w7.heap.size 130 i0 _ 6 48 underlying82 ef ee e7 ec rfl (by decide) _ k _ rfl (aN an (aG)) _ 1 1 [I J cx,I J cy,I J (jJ LA LB),I J (kG LA LB),I J ex,I J ey] rfl (.inr ⟨_,rfl,Ax (Lv.aS WX (AE #[I J cx,I J cy,I J (jJ LA LB),I J (kG LA LB),I J ex,I J ey] 130))⟩) rfl (λu hu=>by simp at hu;rcases hu with rfl|rfl|rfl|rfl|rfl|rfl<;>rfl) (by unfold maxLen;omega) (by omega) (by simp;omega) ?_;intro va W2 ao ad dt;have ea:=Lv.dx ao;have RJ:=Lv.dx ad;obtain⟨pa,pc,rfl⟩:=aY ao;clear ao;have dr:W2.heap[w6.heap.size]?=AD (AE #[U a k c,I J fx,I J fy] 84 (0,0)):=((RJ.out.block _ (by simp;omega) (λe=>by have:=bF an _ e.symm;omega)).trans ((aG).block _ (by omega))).trans ba;have lz:W2.cell? ⟨w6.heap.size,0,R⟩=AD (U a k c):=dM dr rfl;have OZ:W2.frozen? ⟨w6.heap.size,0,R⟩=false:=(by simp[Aw,dr]);clear dr ad dt)
     have SN:Hid (gK W2 w7.heap.size (U pa (k+1) pc) (iN cs z x y t.x t.y (k+1))):=by
      show gK _ _ _ _
      rw[uP];refine gK.snoc (cq _ _ _ _ _ _ _) ?_;rw[cl.out];exact ea.out
     have hO:=Lv.dx (LU.out.call ((AN WX.heap.size WX).alloc aE (AE #[I J cx,I J cy,I J (jJ LA LB),I J (kG LA LB),I J ex,I J ey] 130)))
    rotate_left
    focus
     have Ov:Hid (LA=LB):=by
      show LA=LB
      rw[<-Py.out.1,<-Py.out.2,show k-1=k by omega]
     have CW:=c6.out;have b0:=dM CW (i:=0) rfl;have b1:=dM CW (i:=1) rfl;have b2:=dM CW (i:=2) rfl;have b3:=dM CW (i:=3) rfl;have b4:=dM CW (i:=4) rfl;have b5:=dM CW (i:=5) rfl;have iP:=LU.out.inP
     have an:WX.ownsRow w7.heap.size 130 6 (U a k c) k (iJ (iN cs z x y t.x t.y k)):=by
      have h:WX.ownsRow w7.heap.size 130 6 (U a k c) (iN cs z x y t.x t.y k).length (iJ (iN cs z x y t.x t.y k)):=LU.out.s;rw[cq] at h;exact h
     have h8:=LU.out.size;have ba:=LU.out.p
     go_wp2_with (at_builtin;refine az _ rfl _ _ 82 rfl w7.heap.size 130 i0 _ 6 48 underlying82 ef ee e7 ec rfl (by decide) _ k _ rfl (aN an (aG)) _ 1 1 [I J cx,I J cy,I J LB,I J LB,I J ex,I J ey] rfl (.inr ⟨_,rfl,Ax (Lv.aS WX (AE #[I J cx,I J cy,I J LB,I J LB,I J ex,I J ey] 130))⟩) rfl (λu hu=>by simp at hu;rcases hu with rfl|rfl|rfl|rfl|rfl|rfl<;>rfl) (by unfold maxLen;omega) (by omega) (by simp;omega) ?_;intro va W2 ao ad dt;have ea:=Lv.dx ao;have RJ:=Lv.dx ad;obtain⟨pa,pc,rfl⟩:=aY ao;clear ao;have dr:W2.heap[w6.heap.size]?=AD (AE #[U a k c,I J fx,I J fy] 84 (0,0)):=((RJ.out.block _ (by simp;omega) (λe=>by have:=bF an _ e.symm;omega)).trans ((aG).block _ (by omega))).trans ba;have lz:W2.cell? ⟨w6.heap.size,0,R⟩=AD (U a k c):=dM dr rfl;have OZ:W2.frozen? ⟨w6.heap.size,0,R⟩=false:=(by simp[Aw,dr]);clear dr ad dt)
     have SN:Hid (gK W2 w7.heap.size (U pa (k+1) pc) (iN cs z x y t.x t.y (k+1))):=by
      show gK _ _ _ _
      rw[uP];refine gK.snoc (cq _ _ _ _ _ _ _) ?_
      rw[cl.out,Ov.out,show jJ LB LB=LB by unfold jJ;split<;>rfl,show kG LB LB=LB by unfold kG;split<;>rfl]
      exact ea.out
     have hO:=Lv.dx (LU.out.call ((AN WX.heap.size WX).alloc aE (AE #[I J cx,I J cy,I J LB,I J LB,I J ex,I J ey] 130)))
    rotate_left
    all_goals
     have j8:=Lv.dx (hO.out.add (by omega) (by omega) (by omega) RJ.out SN.out)
     exact⟨⟨k+1,by omega,by go_num,pa,pc,j8⟩,by simp[intOf];omega⟩
   .have HF:Hid (k=cs.length):=by show k=cs.length;omega
    have hP:=HI.out.p;have p0:=dM hP (i:=0) rfl;have p1:=dM hP (i:=1) rfl;have p2:=dM hP (i:=2) rfl;obtain⟨-,hR⟩:=RL.out _ _ _ HI.out;clear hP
    go_wp2_with (refine wpList_store_row rfl 84 _ _ rfl (w.heap.size+1) #[U a k c,I J fx,I J fy] rfl rfl 84 _ hR (by kernel_rfl) rfl (by simp[AS]) ?_)
    exact bv (AH #[AG #[U a k c,I J fx,I J fy],I J 0]) ⟨U a k c,by rw[HE.out],by
     rw[HE.out]
     show gK _ _ _ (iN cs z x y t.x t.y cs.length)
     rw[<-HF.out]
     exact cG (cz HI.out.s (cX _ _ _) (λq hq e=>by have:=bF HI.out.s q hq;injection e with e;omega)) (by omega),bL HI.out.below⟩ (by simp[results,results35,go_sem,bU hR])
open Go.RowKit Sd
theorem rP(vk vp ve:Value)(ks ps:List dE)(es:List eF)(nm:ByteArray)(w:World)(hB:dW w vk vp ve ks ps es)(nB:jV ks ps es)(sB:ic ks ps es)(hN:gM w) :
 Calls prog 102 #[AG #[vk,vp,ve],AF nm] w λe w'=>∃v,e=.returned (AH #[AG #[v,I J (dQ ks ps es nm).fr,I J (dQ ks ps es nm).b],I J (dQ ks ps es nm).c])/\gK w' w.heap.size v (dQ ks ps es nm).st/\Bw w w':=by
 have HB:Hid (∀wx:World,Bw w wx->dW wx vk vp ve ks ps es):=λwx hx=>hB.keep hx;have HN:Hid (∀wx:World,Bw w wx->gM wx):=λwx hx=>hN.keep hx;obtain⟨⟨ak,ck,rfl,-,-,-⟩,⟨ap,cp,rfl,-,-,-⟩,⟨ae,ce,rfl,fg,b6,-⟩⟩:=hB;unfold maxLen at b6
 have A1:Hid (Bw w ((w.alloc (AE #[U ak ks.length ck,U ap ps.length cp,U ae es.length ce] 41)).alloc (AE #[U R 0 0,I J 0,I J 0] 84))):=(aG).alloc (by simp) _
 have R1:Hid (((w.alloc (AE #[U ak ks.length ck,U ap ps.length cp,U ae es.length ce] 41)).alloc (AE #[U R 0 0,I J 0,I J 0] 84)).heap[w.heap.size+1]?=AD (AE #[U R 0 0,I J 0,I J 0] 84 (0,0))):=by
  have h:=Lv.aS (w.alloc (AE #[U ak ks.length ck,U ap ps.length cp,U ae es.length ce] 41)) (AE #[U R 0 0,I J 0,I J 0] 84)
  rw[show(w.alloc (AE #[U ak ks.length ck,U ap ps.length cp,U ae es.length ce] 41)).heap.size=w.heap.size+1 by simp] at h
  exact h
 have Q0:Hid (∀wx:World,Bw ((w.alloc (AE #[U ak ks.length ck,U ap ps.length cp,U ae es.length ce] 41)).alloc (AE #[U R 0 0,I J 0,I J 0] 84)) wx->(wx.cell? ⟨w.heap.size,0,R⟩=AD (U ak ks.length ck)/\wx.cell? ⟨w.heap.size,1,R⟩=AD (U ap ps.length cp)/\wx.cell? ⟨w.heap.size,2,R⟩=AD (U ae es.length ce))):=λwx hx=>⟨ac hx aE (by simp[go_sem]),ac hx aE (by simp[go_sem]),ac hx aE (by simp[go_sem])⟩
 obtain⟨p0,p1,p2⟩:=Q0 _ (AN _ _)
 go_enter func102,ntmps102
 go_wp2_with fail;generalize(w.alloc _).alloc _=w1 at *;refine(qJ _ _ _ ks ps es _ (HB _ A1) nB sB).mono ?_;rintro e w2⟨rfl,ay⟩;have B2:Hid _:=ay;obtain⟨p0,p1,p2⟩:=Q0 _ B2;have hR:=ah B2 R1
 cases bb:dP ks ps es
 .have HE:Hid (dQ ks ps es nm=⟨1,[],0,0⟩):=by show _=_;unfold dQ;rw[bb];rfl
  go_wp2_with (refine cS (w.heap.size+1) #[U R 0 0,I J 0,I J 0] hR ?_)
  exact bv (AH #[AG #[U R 0 0,I J 0,I J 0],I J 1]) ⟨U R 0 0,by rw[HE.out],by rw[HE.out];exact gK.nil _ _,bL (aa A1 B2)⟩ (by simp[results,results102,go_sem,bU hR])
 have mG:Hid _:=bb;go_wp2_with fail;refine(BG _ _ _ ks ps es nm _ (HB _ (aa A1 B2)) nB sB (HN _ (aa A1 B2))).mono ?_;rintro e w3⟨rt,rfl,bn,fi⟩;have B3:Hid _:=aa B2 fi;obtain⟨p0,p1,p2⟩:=Q0 _ B3
 cases ax:fU ks ps es nm with
 |none =>
  have HE:Hid (dQ ks ps es nm=⟨2,[],0,0⟩):=by show _=_;unfold dQ;rw[mG.out,ax];rfl
  have B4:Hid (Bw w1 (w3.alloc (AE #[AF ⟨#[]⟩,AF ⟨#[]⟩,I J 0,I J 0,I J 0,I J 0,I J 0,U R 0 0] 81))):=aa B3.out (aG);have hR:=ah B4 R1;unfold rD EF
  go_wp2_with (refine cS (w.heap.size+1) #[U R 0 0,I J 0,I J 0] hR ?_)
  exact bv (AH #[AG #[U R 0 0,I J 0,I J 0],I J 2]) ⟨U R 0 0,by rw[HE.out],by rw[HE.out];exact gK.nil _ _,bL (aa A1 B4)⟩ (by simp[results,results102,go_sem,bU hR])
 |some e =>
  have kc:Hid _:=ax;obtain⟨-,-,⟨f4,fa,eI⟩,e8,aT⟩:=vW ax
  have Ma:Hid (dQ ks ps es nm=rQ ks ps e):=by show _=_;unfold dQ;rw[mG.out,ax];rfl
  have QN:gY w3 w2.heap.size rt (o8 e):=by
   have h:=bn e ax;rw[fa] at h;rw[eI];exact h
  have hlen:=(cO e8).1
  have gl:Hid (dR w3 rt (o8 e)):=bq QN (λh0=>by rw[h0] at hlen;simp at hlen)
  obtain⟨ra,rc,rfl⟩:=Lv.dH QN;generalize hrn:(o8 e).length=rn at *;have hsc:rD ks (AD e) (U ra rn rc)=#[AF e.name,AF (jc ks (dG e.fs 1)).s,I J (jc ks (dG e.fs 1)).x,I J (jc ks (dG e.fs 1)).y,I J (l9 (dG e.fs 2)),I J (kK (dG e.fs 2)),I J (mF (dG e.fs 3)),U ra rn rc]:=rfl;rw[hsc];unfold rQ at Ma;generalize e.name=q at *;generalize jc ks (dG e.fs 1)=t at *;generalize l9 (dG e.fs 2)=x at *;generalize kK (dG e.fs 2)=y at *;generalize mF (dG e.fs 3)=z at *;generalize hws:o8 e=ws at *;have B4:Hid (Bw w3 (w3.alloc (AE #[AF q,AF t.s,I J t.x,I J t.y,I J x,I J y,I J z,U ra rn rc] 81))):=(aG);have F4:Hid ((w3.alloc (AE #[AF q,AF t.s,I J t.x,I J t.y,I J x,I J y,I J z,U ra rn rc] 81)).heap[w3.heap.size]?=AD (AE #[AF q,AF t.s,I J t.x,I J t.y,I J x,I J y,I J z,U ra rn rc] 81 (0,0))):=Lv.aS w3 _;have ct:Hid (Bw w1 (w3.alloc (AE #[AF q,AF t.s,I J t.x,I J t.y,I J x,I J y,I J z,U ra rn rc] 81))):=aa B3.out B4.out;obtain⟨ew,e4,e3⟩:=Q0 _ ct;have zw:=am p0;have c7:(w3.alloc (AE #[AF q,AF t.s,I J t.x,I J t.y,I J x,I J y,I J z,U ra rn rc] 81)).cell? ⟨w3.heap.size,7,R⟩=AD (U ra rn rc):=dM F4 rfl;go_wp2_with fail;generalize w3.alloc _=w4 at *;refine(Eg _ _ _ ks ps ws _ (HB.out _ (aa A1.out ct.out)).k (HB.out _ (aa A1.out ct.out)).p nB.k nB.p (gl.out.keep B4.out)).mono ?_;rintro e5 w5⟨u,rfl,hu,cL⟩;have B5:Hid _:=aa ct cL;have F5:Hid _:=ah cL F4
  cases au:dZ ks ps ws
  .have HE:Hid (dQ ks ps es nm=⟨3,[],0,0⟩):=by show _=_;rw[Ma.out,au];rfl
   obtain⟨ua,uc,rfl⟩:=aY hu;have hR:=ah B5 R1
   go_wp2_with (refine cS (w.heap.size+1) #[U R 0 0,I J 0,I J 0] hR ?_)
   exact bv (AH #[AG #[U R 0 0,I J 0,I J 0],I J 3]) ⟨U R 0 0,by rw[HE.out],by rw[HE.out];exact gK.nil _ _,bL (aa A1 B5)⟩ (by simp[results,results102,go_sem,bU hR])
  have fh:jg ks ps ws=fM ps ws:=by unfold jg;rw[au];rfl
  rw[fh] at hu
  have ek:1<=(fM ps ws).length/\(fM ps ws).length<=40:=⟨Dm (by omega),by
   unfold dZ at au;rw[At] at au
   exact of_decide_eq_true au.2⟩
  rw[au] at Ma
  simp only[cond_true] at Ma
  generalize fM ps ws=cs at *;obtain⟨ua,uc,rfl⟩:=aY hu;have U5:Hid _:=hu.at
  -- the program's path
  have hf0:w5.cell? ⟨w3.heap.size,0,R⟩=AD (AF q):=by simp[AM,F5.out]
  have hf1:w5.cell? ⟨w3.heap.size,1,R⟩=AD (AF t.s):=by simp[AM,F5.out]
  have ej:w5.cell? ⟨w3.heap.size,2,R⟩=AD (I J t.x):=by simp[AM,F5.out]
  have ei:w5.cell? ⟨w3.heap.size,3,R⟩=AD (I J t.y):=by simp[AM,F5.out]
  have eh:w5.cell? ⟨w3.heap.size,4,R⟩=AD (I J x):=by simp[AM,F5.out]
  have eg:w5.cell? ⟨w3.heap.size,5,R⟩=AD (I J y):=by simp[AM,F5.out]
  have hJ:w5.cell? ⟨w3.heap.size,6,R⟩=AD (I J z):=by simp[AM,F5.out]
  have hf7:w5.cell? ⟨w3.heap.size,7,R⟩=AD (U ra rn rc):=by simp[AM,F5.out]
  go_wp2_with fail;refine(Eh _ cs q t x y z ra rn rc _ U5 ek aT).mono ?_;rintro e6 w6⟨u6,rfl,O7,er⟩;have B6:Hid (Bw w1 w6):=aa B5.out er;obtain⟨sa,sc,rfl⟩:=aY O7;have U6:Hid (gK w6 w.heap.size (.slice sa (iN cs z x y t.x t.y cs.length).length sc) (iN cs z x y t.x t.y cs.length)):=cG O7 (aa A1.out B5.out).size;rw[cq] at U6 ⊢
  have hA:0<=(cs.length:Int)*t.x/\(cs.length:Int)*t.x<=2000:=⟨An (by omega) (by have:=aT.q;omega),by
   have h1:=As (show(cs.length:Int)<=40 by omega) (show t.x<=50 by have:=aT.qs;have:=aT.s;omega) (by have:=aT.q;omega) (by omega)
   omega⟩
  have hz:0<=(cs.length:Int)*t.y/\(cs.length:Int)*t.y<=2000:=⟨An (by omega) (by have:=aT.q;have:=aT.qs;omega),by
   have h1:=As (show(cs.length:Int)<=40 by omega) (show t.y<=50 by have:=aT.s;omega) (by have:=aT.q;have:=aT.qs;omega) (by omega)
   omega⟩
  generalize hFX:x+(cs.length:Int)*t.x=fx at *;generalize hFY:y+(cs.length:Int)*t.y=fy at *;have B7:Hid (Bw w6 (w6.alloc (AE #[U sa cs.length sc,I J fx,I J fy] 84))):=(aG);have P7:Hid ((w6.alloc (AE #[U sa cs.length sc,I J fx,I J fy] 84)).heap[w6.heap.size]?=AD (AE #[U sa cs.length sc,I J fx,I J fy] 84 (0,0))):=Lv.aS w6 _;have R7:=ah (aa B6.out B7.out) R1.out;have HR7:=Lv.dx R7
  by_cases KZ:10000<fy
  .have HE:Hid (dQ ks ps es nm=⟨4,[],0,0⟩):=by show _=_;rw[Ma.out,decide_eq_true KZ];rfl
   go_wp2_with (refine cS (w.heap.size+1) #[U R 0 0,I J 0,I J 0] R7 ?_)
   exact bv (AH #[AG #[U R 0 0,I J 0,I J 0],I J 4]) ⟨U R 0 0,by rw[HE.out],by rw[HE.out];exact gK.nil _ _,bL (aa A1 (aa B6 B7))⟩ (by simp[results,results102,go_sem,bU R7])
  .have HE:Hid (dQ ks ps es nm=⟨0,iN cs z x y t.x t.y cs.length,fx,fy⟩):=by show _=_;rw[Ma.out,decide_eq_false KZ];rfl
   go_wp2_with (refine cS (w.heap.size+1) #[U sa cs.length sc,I J fx,I J fy] R7 ?_)
   exact bv (AH #[AG #[U sa cs.length sc,I J fx,I J fy],I J 0]) ⟨U sa cs.length sc,by rw[HE.out],by rw[HE.out];exact cz (aN U6.out B7.out) (cX _ _ _) (λk hk e=>Sd.jo (aN U6.out B7.out) R7 (by decide) (by rw[hk,e])),bL (aa A1.out (aa B6.out B7.out))⟩ (by simp[results,results102,go_sem,bU R7])
open Go.RowKit Sd
def DW(x y:Int)(s:Stp):Bool:=decide (s.x=x)&&decide (s.y=y)
def il(l:List Stp)(b:Int)(k:Nat):Int:=if k+1<l.length then(sat l (k+1)).b else b
def kR(l:List Stp)(b x y:Int):Int×Int×Bool:=bif decide (l.findIdx (DW x y)<l.length) then((sat l (l.findIdx (DW x y))).fr,il l b (l.findIdx (DW x y))-1,true) else(0,0,false)
theorem J4{l:List Stp}{b:Int}{k:Nat}(hk:k<l.length)(h:DW x y (sat l k)=true)(hn:∀j,j<k->DW x y (sat l j)=false):kR l b x y=((sat l k).fr,il l b k-1,true):=by
 have e:l.findIdx (DW x y)=k:=by
  rw[List.findIdx_eq hk]
  have es:∀i (hi:i<l.length),sat l i=l[i]:=λi hi=>by simp[sat,hi]
  exact⟨by rw[<-es k hk];exact h,λj hj=>by rw[<-es j (by omega)];exact hn j hj⟩
 unfold kR;rw[e,decide_eq_true hk]
 rfl
theorem JZ{l:List Stp}{b:Int}(hn:∀j,j<l.length->DW x y (sat l j)=false):kR l b x y=(0,0,false):=by
 have e:¬l.findIdx (DW x y)<l.length:=by
  intro h;have h1:=List.findIdx_getElem (w:=h);have h2:=hn _ h
  have es:sat l (l.findIdx (DW x y))=l[l.findIdx (DW x y)]:=by simp[sat,h]
  rw[es,h1] at h2
  cases h2
 unfold kR;rw[decide_eq_false e]
 rfl
def iq(ks ps:List dE)(es:List eF)(nm pt:ByteArray):Int×Int×Bool :=
 bif decide ((dQ ks ps es nm).c=0)&&hasB ps pt then kR (dQ ks ps es nm).st (dQ ks ps es nm).b (jq ps pt).x (jq ps pt).y else(0,0,false)
theorem Eo(v:Value)(l:List Stp)(fr b:Int)(k:Nat)(w:World)(hv:yZ w v l)(hk:k<l.length) :
 Rb 170 #[AG #[v,I J fr,I J b],I J k] w (I J (il l b k)):=by
 obtain⟨a,cap,rfl,cu,ds,hc⟩:=hv;unfold maxLen at ds;have HB:Hid (Bw w (w.alloc (AE #[U a l.length cap,I J fr,I J b] 84))):=(aG)
 by_cases hl:k+1<l.length
 .have HE:Hid (il l b k=(sat l (k+1)).b):=by show _=_;unfold il;rw[if_pos hl]
  obtain⟨g,rfl,-,-,-,c5⟩:=hc (k+1) _ (nW hl);have z0:=am c5
  have ga:(0:Int)<=(k:Int)+1:=by omega
  have fc:(k:Int)+1<(l.length:Int):=by omega
  have e5:((k:Int)+1).toNat=k+1:=by omega
  generalize(sat l (k+1)).b=u at *;clear hc
  go_enter func170,ntmps170
  go_wp2;go_ret;exact⟨cP HE.out.symm,HB.out⟩
 .have HE:Hid (il l b k=b):=by show _=_;unfold il;rw[if_neg hl]
  have fc:¬(k:Int)+1<(l.length:Int):=by omega
  go_enter func170,ntmps170
  go_wp2;go_ret;exact⟨cP HE.out.symm,HB.out⟩
theorem Tq(v:Value)(l:List Stp)(fr b x y:Int)(w:World)(hv:yZ w v l)(hb1:∀k,k<l.length->-1000000<=il l b k/\il l b k<=1000000) :
 Rb 135 #[AG #[v,I J fr,I J b],AG #[I J x,I J y]] w (AH #[I J (kR l b x y).1,I J (kR l b x y).2.1,.bool (kR l b x y).2.2]):=by
 have HV:Hid (∀wx:World,Bw w wx->yZ wx v l):=λwx hx=>hv.keep hx;obtain⟨a,cap,rfl,cu,ds,-⟩:=hv;unfold maxLen at ds;have ke:Hid _:=hb1
 have A1:Hid (Bw w ((w.alloc (AE #[U a l.length cap,I J fr,I J b] 84)).alloc (AE #[I J x,I J y] 128))):=(aG).alloc (by simp) _
 have Q0:Hid (∀wx:World,Bw ((w.alloc (AE #[U a l.length cap,I J fr,I J b] 84)).alloc (AE #[I J x,I J y] 128)) wx->(wx.cell? ⟨w.heap.size,0,R⟩=AD (U a l.length cap)/\wx.cell? ⟨w.heap.size,1,R⟩=AD (I J fr)/\wx.cell? ⟨w.heap.size,2,R⟩=AD (I J b))/\wx.cell? ⟨w.heap.size+1,0,R⟩=AD (I J x)/\wx.cell? ⟨w.heap.size+1,1,R⟩=AD (I J y)):=λwx hx=>⟨⟨ac hx aE (by simp[go_sem]),ac hx aE (by simp[go_sem]),ac hx aE (by simp[go_sem])⟩,ac hx aE (by simp[go_sem]),ac hx aE (by simp[go_sem])⟩
 go_enter func135,ntmps135
 go_wp2_with fail;generalize((w.alloc (AE #[U a l.length cap,I J fr,I J b] 84)).alloc (AE #[I J x,I J y] 128))=w1 at *
 go_loopw [12] (λi wr=>∃k:Nat,k<=l.length/\i=I J k/\Hid (Bw w1 wr/\∀j,j<k->DW x y (sat l j)=false)) (λi _=>l.length-(intOf i).toNat)
 case atStart=>exact⟨0,A0 _,rfl,AN _ _,λj hj=>absurd hj (Nat.not_lt_zero _)⟩
 case round =>
  obtain⟨k,hk,rfl,HI⟩:=hrel
  by_cases av:k<l.length
  .obtain ⟨a',eN,he,-,-,hc⟩:=HV.out _ (aa A1.out HI.out.1)
   obtain⟨g,hg,⟨c0,c1,c2⟩,c3,c4,c5⟩:=hc k _ (nW av)
   cases he
   subst hg;obtain⟨⟨p0,p1,p2⟩,q0,q1⟩:=Q0.out _ HI.out.1;have zq:=am q0;obtain⟨fY,fX⟩:=ke.out k av;have kg:Hid (∀wx:World,Bw w wx->Rb 170 #[AG #[U (AD ⟨g,0,R⟩) l.length cap,I J fr,I J b],I J k] wx (I J (il l b k))):=λwx hx=>Eo _ l fr b k wx (HV.out _ hx) av;have eb:Hid (DW x y (sat l k)=(decide ((sat l k).x=x)&&decide ((sat l k).y=y))):=rfl;have Ro:Hid (DW x y (sat l k)=true->kR l b x y=((sat l k).fr,il l b k-1,true)):=λh=>J4 av h HI.out.2;generalize hsk:sat l k=s at *;have fk:Hid (sat l k=s):=hsk;generalize il l b k=lv at *;have BA:Hid (Bw wr (wr.alloc (AE #[I J s.x,I J s.y,I J s.lo,I J s.hi,I J s.fr,I J s.b] 130))):=(aG)
   by_cases hx:s.x=x
   .have ft:(s.x==x)=true:=by simp[hx]
    by_cases hy:s.y=y
    .have U8:=Lv.dx (Ro.out (by rw[eb.out];simp[hx,hy]))
     have fp:(s.y==y)=true:=by simp[hy]
     clear hx hy
     have eC:IntKind.i64.wrap (lv-1)=lv-1:=by rw[AO];omega
     have S4:Hid ((wr.alloc (AE #[I J s.x,I J s.y,I J s.lo,I J s.hi,I J s.fr,I J s.b] 130)).heap[wr.heap.size]?=AD (AE #[I J s.x,I J s.y,I J s.lo,I J s.hi,I J s.fr,I J s.b] 130 (0,0))):=Lv.aS wr _;have B4:Hid (Bw w1 (wr.alloc (AE #[I J s.x,I J s.y,I J s.lo,I J s.hi,I J s.fr,I J s.b] 130))):=aa HI.out.1 BA.out;go_wp2;clear HI c0 c1 c2 c3 c4 c5;generalize(wr.alloc (AE #[I J s.x,I J s.y,I J s.lo,I J s.hi,I J s.fr,I J s.b] 130))=wq at *;refine wp_region_noPanic ?_
     have fA:Hid (∀wx:World,Bw wq wx->wx.cell? ⟨wr.heap.size,4,R⟩=AD (I J s.fr)/\wx.cell? ⟨w.heap.size,0,R⟩=AD (U (AD ⟨g,0,R⟩) l.length cap)/\wx.cell? ⟨w.heap.size,1,R⟩=AD (I J fr)/\wx.cell? ⟨w.heap.size,2,R⟩=AD (I J b)):=λwx hx=>by
      obtain⟨⟨h0,h1,h2⟩,-,-⟩:=Q0.out _ (aa B4.out hx);exact⟨dM (ah hx S4.out) rfl,h0,h1,h2⟩
     refine wp_region_held_drew (S:=λw'=>w'.cell? ⟨wr.heap.size,4,R⟩=AD (I J s.fr)/\w'.cell? ⟨w.heap.size,0,R⟩=AD (U (AD ⟨g,0,R⟩) l.length cap)/\w'.cell? ⟨w.heap.size,1,R⟩=AD (I J fr)/\w'.cell? ⟨w.heap.size,2,R⟩=AD (I J b)) (by kernel_rfl) ?_ (λab=>?_)
     .exact fA.out _ (AN _ _).drew
     have BD:Hid (Bw wq wq.drew):=(AN _ _).drew;clear p0 p1 p2 q0 q1;generalize wq.drew=W0 at *;refine aZ 0 ?_;refine aZ 1 ?_;refine aZ 2 ?_;refine aZ 3 ?_
     simp only[AT,aK]
     clear ab;refine be 4 (λK hK=>?_);go_simp;refine(kg.out _ (aa A1.out (aa B4.out BD.out))).mono ?_;rintro e W1⟨rfl,ep⟩;have ev:Hid _:=aa BD ep;refine hK _ _ (fA _ ev) (λab=>?_);clear hK K ep BD;refine aZ 5 ?_;refine aZ 6 ?_;refine aZ 7 ?_;refine aZ 8 ?_
     simp only[AT,aK]
     clear ab
     refine wpAnyH_done (by kernel_rfl) ?_ _
     refine NoPanic.normal ?_;go_wp2
     go_ret3
     exact⟨by rw[U8.out];rfl,aa A1.out (aa B4.out ev.out)⟩
    .have Vg:Hid (DW x y s=false):=by show _=_;rw[eb.out];simp[hy]
     have fp:(s.y==y)=false:=by simp[hy]
     clear hx hy
     have HN:Hid (Bw w1 (wr.alloc (AE #[I J s.x,I J s.y,I J s.lo,I J s.hi,I J s.fr,I J s.b] 130))/\∀j,j<k+1->DW x y (sat l j)=false):=⟨aa HI.out.1 BA.out,λj hj=>by
      by_cases e:j=k
      .subst e;rw[fk.out];exact Vg.out
      .exact HI.out.2 j (by omega)⟩
     go_wp2
     exact⟨⟨k+1,by omega,by go_num,HN⟩,by simp[intOf];omega⟩
   .have Vg:Hid (DW x y s=false):=by show _=_;rw[eb.out];simp[hx]
    have ft:(s.x==x)=false:=by simp[hx]
    have HN:Hid (Bw w1 (wr.alloc (AE #[I J s.x,I J s.y,I J s.lo,I J s.hi,I J s.fr,I J s.b] 130))/\∀j,j<k+1->DW x y (sat l j)=false):=⟨aa HI.out.1 BA.out,λj hj=>by
     by_cases e:j=k
     .subst e;rw[fk.out];exact Vg
     .exact HI.out.2 j (by omega)⟩
    go_wp2
    exact⟨⟨k+1,by omega,by go_num,HN⟩,by simp[intOf];omega⟩
  .have Vg:Hid (kR l b x y=(0,0,false)):=JZ (λj hj=>HI.out.2 j (by omega))
   go_wp2
   go_ret3
   exact⟨by rw[Vg.out];rfl,aa A1 HI.1⟩
theorem Jr(cs:List iM)(l fr b q s:Int)(n k:Nat)(hk:k<n):sat (iN cs l fr b q s n) k=PQ cs l fr b q s k:=by
 simp[sat,iN,hk]
theorem BP(h:(dQ ks ps es nm).c=0):∀k,k<(dQ ks ps es nm).st.length->-1000000<=il (dQ ks ps es nm).st (dQ ks ps es nm).b k/\il (dQ ks ps es nm).st (dQ ks ps es nm).b k<=1000000:=by
 cases hb:dP ks ps es with
 |false=>unfold dQ at h;rw[hb] at h;simp at h
 |true =>
  cases hs:fU ks ps es nm with
  |none=>unfold dQ at h;rw[hb,hs] at h;simp at h
  |some e =>
   have hP:dQ ks ps es nm=rQ ks ps e:=by unfold dQ;rw[hb,hs];rfl
   obtain⟨-,-,-,e8,aT⟩:=vW hs;obtain⟨f1,f2,f3,f4,f5,f6,f7,f8⟩:=aT;rw[hP] at h ⊢;unfold rQ at h ⊢
   cases hc:dZ ks ps (o8 e) with
   |false=>rw[hc] at h;simp at h
   |true =>
    rw[hc] at h
    simp only[cond_true] at h ⊢
    have ek:(fM ps (o8 e)).length<=40:=by
     unfold dZ at hc;rw[At] at hc;exact of_decide_eq_true hc.2
    generalize fM ps (o8 e)=cs at *;generalize jc ks (dG e.fs 1)=t at *;generalize l9 (dG e.fs 2)=x at *;generalize kK (dG e.fs 2)=y at *;generalize mF (dG e.fs 3)=z at *
    cases hl:decide (10000<y+(cs.length:Int)*t.y) with
    |true=>rw[hl] at h;simp at h
    |false =>
     simp only[cond_false]
     have hm:∀k:Nat,k<=40->0<=(k:Int)*t.y/\(k:Int)*t.y<=2000:=λk hk=>⟨An (by omega) (by omega),by
      have h1:=As (show(k:Int)<=40 by omega) (show t.y<=50 by omega) (by omega) (by omega)
      omega⟩
     intro k hk;rw[cq] at hk;unfold il;rw[cq]
     split
     .rw [Jr _ _ _ _ _ _ _ _ (by assumption)]
      show -1000000<=y+((k+1:Nat):Int)*t.y/\y+((k+1:Nat):Int)*t.y<=1000000
      have:=hm (k+1) (by omega)
      omega
     .have:=hm cs.length ek
      omega
theorem Hd(vk vp ve:Value)(ks ps:List dE)(es:List eF)(nm pt:ByteArray)(w:World)(hB:dW w vk vp ve ks ps es)(nB:jV ks ps es)(sB:ic ks ps es)(hN:gM w) :
 Rb 105 #[AG #[vk,vp,ve],AF nm,AF pt] w (AH #[I J (iq ks ps es nm pt).1,I J (iq ks ps es nm pt).2.1,.bool (iq ks ps es nm pt).2.2]):=by
 have HB:Hid (∀wx:World,Bw w wx->dW wx vk vp ve ks ps es):=λwx hx=>hB.keep hx;have HN:Hid (∀wx:World,Bw w wx->gM wx):=λwx hx=>hN.keep hx;have gA:Hid (∀wx:World,Bw w wx->Rb 133 #[vp,AF pt,.func (.func 134) #[] #[]] wx (AH #[I J (fG ps pt:Nat),.bool (hasB ps pt)])):=λwx hx=>dn vp ps pt wx (hB.p.keep hx);obtain⟨⟨ak,ck,rfl,-,-,-⟩,⟨ap,cp,rfl,iK,fL,-⟩,⟨ae,ce,rfl,fg,b6,-⟩⟩:=hB;unfold maxLen at b6 fL;have A1:Hid (Bw w (w.alloc (AE #[U ak ks.length ck,U ap ps.length cp,U ae es.length ce] 41))):=(aG)
 have Q0:Hid (∀wx:World,Bw (w.alloc (AE #[U ak ks.length ck,U ap ps.length cp,U ae es.length ce] 41)) wx->(wx.cell? ⟨w.heap.size,0,R⟩=AD (U ak ks.length ck)/\wx.cell? ⟨w.heap.size,1,R⟩=AD (U ap ps.length cp)/\wx.cell? ⟨w.heap.size,2,R⟩=AD (U ae es.length ce))):=λwx hx=>⟨ac hx aE (by simp[go_sem]),ac hx aE (by simp[go_sem]),ac hx aE (by simp[go_sem])⟩
 obtain⟨p0,p1,p2⟩:=Q0 _ (AN _ _);have Rq:Hid ((dQ ks ps es nm).c=0->∀k,k<(dQ ks ps es nm).st.length->-1000000<=il (dQ ks ps es nm).st (dQ ks ps es nm).b k/\il (dQ ks ps es nm).st (dQ ks ps es nm).b k<=1000000):=BP;have Ro:Hid (iq ks ps es nm pt=bif decide ((dQ ks ps es nm).c=0)&&hasB ps pt then kR (dQ ks ps es nm).st (dQ ks ps es nm).b (jq ps pt).x (jq ps pt).y else(0,0,false)):=rfl
 go_enter func105,ntmps105
 go_wp2_with fail;generalize w.alloc _=w1 at *;refine(rP _ _ _ ks ps es nm _ (HB _ A1) nB sB (HN _ A1)).mono ?_;rintro e w2⟨v,rfl,hv,ay⟩;have B2:Hid _:=ay;generalize dQ ks ps es nm=pr at *;obtain⟨pc,st,pf,pb⟩:=pr;dsimp only at hv Rq Ro ⊢;obtain⟨sa,sc,rfl⟩:=aY hv;have V2:Hid (yZ w2 (U sa st.length sc) st):=hv.at;have B3:Hid (Bw w2 (w2.alloc (AE #[U sa st.length sc,I J pf,I J pb] 84))):=(aG);have P3:Hid ((w2.alloc (AE #[U sa st.length sc,I J pf,I J pb] 84)).heap[w2.heap.size]?=AD (AE #[U sa st.length sc,I J pf,I J pb] 84 (0,0))):=Lv.aS w2 _;have MB:Hid _:=aa B2 B3
 by_cases eo:pc=0
 .subst eo
  obtain⟨p0,p1,p2⟩:=Q0 _ MB;obtain⟨ew,e4,e3⟩:=Q0 _ B2;go_wp2_with fail;generalize w2.alloc _=w3 at *;refine(gA _ (aa A1 MB)).mono ?_;rintro e w4⟨rfl,gg⟩;have B4:Hid _:=gg
  cases hh:hasB ps pt
  .have HE:Hid (iq ks ps es nm pt=(0,0,false)):=by show _=_;rw[Ro.out,hh];simp
   go_wp2
   go_ret3
   exact⟨by rw[HE.out];rfl,aa A1 (aa MB B4)⟩
  .have eJ:fG ps pt<ps.length:=by
    unfold hasB at hh;rw[At] at hh;exact of_decide_eq_true hh.1
   have HE:Hid (iq ks ps es nm pt=kR st pb (jq ps pt).x (jq ps pt).y):=by show _=_;rw[Ro.out,hh];rfl
   have gv:Hid (jq ps pt=⟨(at' ps (fG ps pt)).x,(at' ps (fG ps pt)).y⟩):=rfl
   have Ov:=Lv.dx (Rq.out (by trivial))
   obtain⟨j2,jx,gb,-,-,eK⟩:=(HB _ (AN _ _)).p;obtain⟨bP,oP,gh,-⟩:=eK (fG ps pt) _ (bG eJ)
   cases gb
   subst gh
   have AJ:Hid (∀wx:World,Bw w wx->wx.cell? ⟨bP,oP+fG ps pt*3,R⟩=AD (AF (at' ps (fG ps pt)).s)/\wx.cell? ⟨bP,oP+fG ps pt*3+1,R⟩=AD (I J (at' ps (fG ps pt)).x)/\wx.cell? ⟨bP,oP+fG ps pt*3+2,R⟩=AD (I J (at' ps (fG ps pt)).y)):=λwx hx=>by
    obtain⟨b',o',du,d0,d1,d2⟩:=eK (fG ps pt) _ (bG eJ)
    cases du
    exact⟨ac hx aE d0,ac hx aE d1,ac hx aE d2⟩
   generalize at' ps (fG ps pt)=tr at *;generalize fG ps pt=j at *
   have fA:Hid (∀wx:World,Bw w3 wx->(wx.cell? ⟨w2.heap.size,0,R⟩=AD (U sa st.length sc)/\wx.cell? ⟨w2.heap.size,1,R⟩=AD (I J pf)/\wx.cell? ⟨w2.heap.size,2,R⟩=AD (I J pb))/\wx.cell? ⟨w.heap.size,1,R⟩=AD (U (AD ⟨bP,oP,R⟩) ps.length cp)/\wx.cell? ⟨bP,oP+j*3,R⟩=AD (AF tr.s)/\wx.cell? ⟨bP,oP+j*3+1,R⟩=AD (I J tr.x)/\wx.cell? ⟨bP,oP+j*3+2,R⟩=AD (I J tr.y)):=λwx hx=>by
    have h:=ah hx P3;exact⟨⟨dM h rfl,dM h rfl,dM h rfl⟩,(Q0 _ (aa MB hx)).2.1,AJ _ (aa A1 (aa MB hx))⟩
   go_wp2;refine wp_region_noPanic ?_
   refine wp_region_held_drew (S:=λwx=>(wx.cell? ⟨w2.heap.size,0,R⟩=AD (U sa st.length sc)/\wx.cell? ⟨w2.heap.size,1,R⟩=AD (I J pf)/\wx.cell? ⟨w2.heap.size,2,R⟩=AD (I J pb))/\wx.cell? ⟨w.heap.size,1,R⟩=AD (U (AD ⟨bP,oP,R⟩) ps.length cp)/\wx.cell? ⟨bP,oP+j*3,R⟩=AD (AF tr.s)/\wx.cell? ⟨bP,oP+j*3+1,R⟩=AD (I J tr.x)/\wx.cell? ⟨bP,oP+j*3+2,R⟩=AD (I J tr.y)) (by kernel_rfl) ?_ (λab=>?_)
   .exact fA _ B4.drew
   have BD:Hid _:=B4.drew;generalize w4.drew=W0 at *;refine aZ 0 ?_;refine aZ 1 ?_;refine aZ 2 ?_;refine aZ 3 ?_;refine aZ 4 ?_;refine aZ 5 ?_;refine aZ 6 ?_
   simp only[AT,aK]
   refine be 7 (λK hK=>?_);go_simp;refine(Dp _ _ _ _).mono ?_;rintro e W1⟨rfl,ep⟩;have ev:Hid (Bw w3 W1):=aa BD.out ep;refine hK _ _ (fA _ ev) (λab=>?_);refine be 8 (λK hK=>?_);go_simp;refine(Tq _ st pf pb tr.x tr.y _ (V2.out.keep (aa B3.out ev.out)) Ov.out).mono ?_;rintro e W2⟨rfl,ep⟩;have h5:Hid _:=aa ev ep;refine hK _ _ (fA _ h5) (λab=>?_)
   have tu:Hid (iq ks ps es nm pt=kR st pb tr.x tr.y):=by show _=_;rw[HE.out,gv.out]
   generalize kR st pb tr.x tr.y=ov at *;obtain⟨o1,o2,o3⟩:=ov;dsimp only;refine aZ 9 ?_;refine aZ 10 ?_;refine aZ 11 ?_;refine aZ 12 ?_;refine aZ 13 ?_;refine aZ 14 ?_
   simp only[AT,aK]
   refine vI ?_;refine NoPanic.normal ?_;go_wp2
   go_ret3
   exact⟨by rw[tu.out];rfl,aa A1 (aa MB h5)⟩
 .have HE:Hid (iq ks ps es nm pt=(0,0,false)):=by show _=_;rw[Ro.out,decide_eq_false eo];rfl
  go_wp2
  go_ret3
  exact⟨by rw[HE.out];rfl,aa A1 MB⟩
open Go.RowKit Sd
attribute [local go_sem] Later.cell Later.frozen
theorem path_ok(h:(dQ ks ps es nm).c=0):dI ps=true:=by
 cases hb:dP ks ps es with
 |false=>unfold dQ at h;rw[hb] at h;simp at h
 |true =>
  unfold dP fB at hb;rw[At,At] at hb;exact hb.1.2
theorem GM(vk vp ve:Value)(ks ps:List dE)(es:List eF)(nm pt:ByteArray)(w:World)(hB:dW w vk vp ve ks ps es)(nB:jV ks ps es)(sB:ic ks ps es) :
 Rb 37 #[AG #[vk,vp,ve],AF nm,AF pt] w (AH #[I J (iq ks ps es nm pt).1,I J (iq ks ps es nm pt).2.1,.bool (iq ks ps es nm pt).2.2]):=by
 have HB:Hid (∀wx:World,Bw w wx->dW wx vk vp ve ks ps es):=λwx hx=>hB.keep hx;have gA:Hid (∀wx:World,Bw w wx->Rb 60 #[AG #[vk,vp],AF pt] wx (I J (zU ps pt))):=λwx hx=>nY vk vp ps pt wx (hB.p.keep hx);obtain⟨⟨ak,ck,rfl,-,-,-⟩,⟨ap,cp,rfl,iK,fL,-⟩,⟨ae,ce,rfl,fg,b6,-⟩⟩:=hB;unfold maxLen at b6 fL;have A1:Hid (Bw w (w.alloc (AE #[U ak ks.length ck,U ap ps.length cp,U ae es.length ce] 41))):=(aG)
 have Q0:Hid (∀wx:World,Bw (w.alloc (AE #[U ak ks.length ck,U ap ps.length cp,U ae es.length ce] 41)) wx->(wx.cell? ⟨w.heap.size,0,R⟩=AD (U ak ks.length ck)/\wx.cell? ⟨w.heap.size,1,R⟩=AD (U ap ps.length cp)/\wx.cell? ⟨w.heap.size,2,R⟩=AD (U ae es.length ce))):=λwx hx=>⟨ac hx aE (by simp[go_sem]),ac hx aE (by simp[go_sem]),ac hx aE (by simp[go_sem])⟩
 obtain⟨p0,p1,p2⟩:=Q0 _ (AN _ _);have Rq:Hid ((dQ ks ps es nm).c=0->∀k,k<(dQ ks ps es nm).st.length->-1000000<=il (dQ ks ps es nm).st (dQ ks ps es nm).b k/\il (dQ ks ps es nm).st (dQ ks ps es nm).b k<=1000000):=BP;have Ro:Hid (iq ks ps es nm pt=bif decide ((dQ ks ps es nm).c=0)&&hasB ps pt then kR (dQ ks ps es nm).st (dQ ks ps es nm).b (jq ps pt).x (jq ps pt).y else(0,0,false)):=rfl;have hT:Hid ((dQ ks ps es nm).c=0->dI ps=true):=path_ok
 go_enter func37,ntmps37
 go_wp2_with fail;generalize w.alloc _=w1 at *;refine(rF _ _ _ ks ps es nm _ (HB _ A1) nB sB).mono ?_;rintro e w2⟨v,rfl,hv,ay⟩;have B2:Hid _:=ay;generalize dQ ks ps es nm=pr at *;obtain⟨pc,st,pf,pb⟩:=pr;dsimp only at hv Rq Ro hT ⊢;obtain⟨sa,sc,rfl⟩:=aY hv;have V2:Hid (yZ w2 (U sa st.length sc) st):=hv.at;have B3:Hid (Bw w2 (w2.alloc (AE #[U sa st.length sc,I J pf,I J pb] 84))):=(aG);have P3:Hid ((w2.alloc (AE #[U sa st.length sc,I J pf,I J pb] 84)).heap[w2.heap.size]?=AD (AE #[U sa st.length sc,I J pf,I J pb] 84 (0,0))):=Lv.aS w2 _;have MB:Hid _:=aa B2 B3;obtain⟨p0,p1,p2⟩:=Q0 _ MB;obtain⟨ew,e4,e3⟩:=Q0 _ B2;have zw:=am ew;go_wp2_with fail;generalize w2.alloc _=w3 at *;refine(gA _ (aa A1 MB)).mono ?_;rintro e w4⟨rfl,gg⟩;have B4:Hid _:=gg
 by_cases eo:pc=0
 .subst eo
  have Mr:=Lv.dx (hT (by trivial))
  cases hh:hasB ps pt
  .have HE:Hid (iq ks ps es nm pt=(0,0,false)):=by show _=_;rw[Ro.out,hh];simp
   have dt:zU ps pt<0:=by
    have h1:=Ol ps pt;rw[<-qz (nA Mr.out),hh] at h1
    simpa using h1
   generalize zU ps pt=ai at *;go_wp2
   go_ret3
   exact⟨by rw[HE.out];rfl,aa A1 (aa MB B4)⟩
  .have eJ:fG ps pt<ps.length:=by
    unfold hasB at hh;rw[At] at hh;exact of_decide_eq_true hh.1
   have HE:Hid (iq ks ps es nm pt=kR st pb (jq ps pt).x (jq ps pt).y):=by show _=_;rw[Ro.out,hh];rfl
   have gv:Hid (jq ps pt=⟨(at' ps (fG ps pt)).x,(at' ps (fG ps pt)).y⟩):=rfl
   have Ov:=Lv.dx (Rq (by trivial))
   rw[Sd.Az (nA Mr.out) hh];obtain⟨j2,jx,gb,-,-,eK⟩:=(HB _ (AN _ _)).p;obtain⟨bP,oP,gh,-⟩:=eK (fG ps pt) _ (bG eJ)
   cases gb
   subst gh
   have AJ:Hid (∀wx:World,Bw w wx->wx.cell? ⟨bP,oP+fG ps pt*3,R⟩=AD (AF (at' ps (fG ps pt)).s)/\wx.cell? ⟨bP,oP+fG ps pt*3+1,R⟩=AD (I J (at' ps (fG ps pt)).x)/\wx.cell? ⟨bP,oP+fG ps pt*3+2,R⟩=AD (I J (at' ps (fG ps pt)).y)):=λwx hx=>by
    obtain⟨b',o',du,d0,d1,d2⟩:=eK (fG ps pt) _ (bG eJ)
    cases du
    exact⟨ac hx aE d0,ac hx aE d1,ac hx aE d2⟩
   have hH:(0:Int)<=((fG ps pt:Nat):Int):=by omega
   have hjn:¬((fG ps pt:Nat):Int)<0:=by omega
   have hG:((fG ps pt:Nat):Int)<(ps.length:Int):=by omega
   have tu:Hid (iq ks ps es nm pt=kR st pb (at' ps (fG ps pt)).x (at' ps (fG ps pt)).y):=by show _=_;rw[HE.out,gv.out]
   generalize at' ps (fG ps pt)=tr at *;generalize fG ps pt=j at *
   have fA:Hid (∀wx:World,Bw w3 wx->(wx.cell? ⟨w2.heap.size,0,R⟩=AD (U sa st.length sc)/\wx.cell? ⟨w2.heap.size,2,R⟩=AD (I J pb))/\wx.cell? ⟨w.heap.size,1,R⟩=AD (U (AD ⟨bP,oP,R⟩) ps.length cp)/\wx.cell? ⟨bP,oP+j*3+1,R⟩=AD (I J tr.x)/\wx.cell? ⟨bP,oP+j*3+2,R⟩=AD (I J tr.y)):=λwx hx=>by
    have h:=ah hx P3;exact⟨⟨dM h rfl,dM h rfl⟩,(Q0 _ (aa MB hx)).2.1,(AJ _ (aa A1 (aa MB hx))).2⟩
   go_wp2
   go_loopw [12] (λi wr=>∃k:Nat,k<=st.length/\i=I J k/\Hid (Bw w3 wr/\∀j,j<k->DW tr.x tr.y (sat st j)=false)) (λi _=>st.length-(intOf i).toNat)
   case atStart=>exact⟨0,A0 _,rfl,B4.out,λj hj=>absurd hj (Nat.not_lt_zero _)⟩
   case round =>
    obtain⟨k,hk,rfl,HI⟩:=hrel;obtain⟨⟨p0,p2⟩,q1,d1,d2⟩:=fA _ HI.1;have zp:=am p0;have zq:=am q1;have zd:=am d1
    by_cases av:k<st.length
    .obtain ⟨a',eN,he,iF,iE,hc⟩:=V2.out.keep (aa B3.out HI.out.1)
     obtain⟨g,hg,⟨c0,c1,-⟩,-,c4,-⟩:=hc k _ (nW av)
     cases he
     subst hg;unfold maxLen at iE;have z0:=am c0
     have ga:(0:Int)<=(k:Int):=by omega
     have fc:(k:Int)<(st.length:Int):=by omega
     obtain⟨fY,fX⟩:=Ov k av;have eb:Hid (DW tr.x tr.y (sat st k)=(decide ((sat st k).x=tr.x)&&decide ((sat st k).y=tr.y))):=rfl;have Ro:Hid (DW tr.x tr.y (sat st k)=true->kR st pb tr.x tr.y=((sat st k).fr,il st pb k-1,true)):=λh=>J4 av h HI.2
     have Me:Hid (∀wx:World,Bw w3 wx->k+1<st.length->wx.cell? ⟨g,(k+1)*6+5,R⟩=AD (I J (sat st (k+1)).b)):=λwx hx h=>by
      obtain⟨a',eN,he,-,-,hc⟩:=V2.keep (aa B3 hx);obtain⟨g',hg,-,-,-,c5⟩:=hc (k+1) _ (nW h)
      cases he
      cases hg
      exact c5
     have hV:Hid ((k+1<st.length->il st pb k=(sat st (k+1)).b)/\(¬k+1<st.length->il st pb k=pb)):=⟨λh=>by unfold il;rw[if_pos h],λh=>by unfold il;rw[if_neg h]⟩
     generalize hsk:sat st k=s at *;have fk:Hid _:=hsk;generalize il st pb k=lv at *;have hD:=Later.some wr
     have Vg:Hid (DW tr.x tr.y s=false->∀wx:World,Bw w3 wx->Bw w3 wx/\∀j,j<k+1->DW tr.x tr.y (sat st j)=false):=λh0 wx hx=>⟨hx,λj hj=>by
      by_cases e:j=k
      .subst e;rw[fk.out];exact h0
      .exact HI.out.2 j (by omega)⟩
     by_cases hx:s.x=tr.x
     .have ft:(s.x==tr.x)=true:=by simp[hx]
      by_cases hy:s.y=tr.y
      .have U8:=Lv.dx (Ro.out (by rw[eb.out];simp[hx,hy]))
       have fp:(s.y==tr.y)=true:=by simp[hy]
       go_wp2;refine ar ?_
       repeat(go_big_quiet_step (fail))
       refine wpQuiet_nil ?_;rintro _⟨xx,rfl⟩;have gq:Hid _:=aa HI.1 xx.below;have j1:=ac xx.below aE c4;generalize xx.val=wz at *;obtain⟨⟨p0,p2⟩,q1,d1,d2⟩:=fA _ gq;have zp:=am p0;have z0:=am j1;have hD:=Later.some wz
       by_cases hl:k+1<st.length
       focus
        have HV:Hid _:=hV.1 hl;have c5:=Me _ gq hl
        have hw0:IntKind.i64.wrap ((k:Int)+1)=(k:Int)+1:=by rw[AO];omega
        have hk2:(0:Int)<=(k:Int)+1:=by omega
        have jn:(k:Int)+1<(st.length:Int):=by omega
        have e5:((k:Int)+1).toNat=k+1:=by omega
        rw[HV.out] at fY fX U8;generalize(sat st (k+1)).b=u at *
        have eC:IntKind.i64.wrap (u-1)=u-1:=by rw[AO];omega
       rotate_left
       focus
        have HV:Hid _:=hV.2 hl
        have jn:¬(k:Int)+1<(st.length:Int):=by omega
        rw[HV.out] at fY fX U8
        have eC:IntKind.i64.wrap (pb-1)=pb-1:=by rw[AO];omega
       rotate_left
       all_goals
        go_wp2;refine ar ?_
        repeat(go_big_quiet_step (fail))
        refine wpQuiet_nil ?_;rintro _⟨xy,rfl⟩;go_wp2
        go_ret3
        exact⟨by rw[tu.out,U8.out];rfl,aa A1 (aa MB (aa gq xy.below))⟩
      .have HN:=Lv.dx (Vg.out (by rw[eb.out];simp[hy]))
       have fp:(s.y==tr.y)=false:=by simp[hy]
       go_wp2;refine ar ?_
       repeat(go_big_quiet_step (fail))
       refine wpQuiet_nil ?_;rintro _⟨xx,rfl⟩;have gw:=Lv.dx (HN _ (aa HI.1 xx.below));go_wp2
       exact⟨⟨k+1,by omega,by go_num,gw⟩,by simp[intOf];omega⟩
     .have HN:=Lv.dx (Vg.out (by rw[eb.out];simp[hx]))
      have ft:(s.x==tr.x)=false:=by simp[hx]
      go_wp2;refine ar ?_
      repeat(go_big_quiet_step (fail))
      refine wpQuiet_nil ?_;rintro _⟨xx,rfl⟩;have gw:=Lv.dx (HN _ (aa HI.1 xx.below));go_wp2
      exact⟨⟨k+1,by omega,by go_num,gw⟩,by simp[intOf];omega⟩
    .have HN:Hid (kR st pb tr.x tr.y=(0,0,false)):=JZ (λj hj=>HI.out.2 j (by omega))
     go_wp2
     go_ret3
     exact⟨by rw[tu.out,HN.out];rfl,aa A1 (aa MB HI.1)⟩
 .have HE:Hid (iq ks ps es nm pt=(0,0,false)):=by show _=_;rw[Ro.out,decide_eq_false eo];rfl
  have hD:(pc != 0)=true:=by simp[eo]
  go_wp2
  go_ret3
  exact⟨by rw[HE.out];rfl,aa A1 (aa MB B4)⟩
end Go.Proofs.YtolokangldmodaaGreatDoor.Pa
namespace Go.Proofs.YtolokangldmodaaGreatDoor.Fa
open Go.RowKit Sd Pa
theorem iX.zero{g:Nat}(h:w.heap[g]?=AD (AE #[] 81 (0,0)))(hb:B<=g):iX w B (U (AD ⟨g,0,R⟩) 0 0) [] :=
 ⟨[],rfl,⟨rfl,.inr ⟨g,0,#[],rfl,hb,h,A4 _,A0 _,rfl,rfl⟩⟩,(λp hp=>by cases hp),List.Pairwise.nil⟩
structure FI (w wr:World) (BK:Array Value) (v:Value) (l:List FlV):Prop where
 fl:iX wr w.heap.size v l
 below:Bw w wr
 box:wr.heap[w.heap.size]?=AD (AE BK 41 (0,0))
 own:∀q,v.ownBlock=AD q->w.heap.size<q
theorem stC_one{W:World}{en:ByteArray}{fs:List eT}{rt:Value}(h:mX fs=true->jr W B rt (dG fs 4)):(pX ks en fs rt).all (·.oneCell')=true:=by
 unfold pX
 cases hs:mX fs with
 |false=>simp[EF,AS]
 |true =>
  obtain⟨a,n,c,rfl⟩:=(h hs).slice
  simp[rf,Im,AS]
theorem Jz(vk vp ve:Value)(ks ps:List dE)(es:List eF)(w:World)(hB:dW w vk vp ve ks ps es)(nB:jV ks ps es)(sB:ic ks ps es)(hes:es.length<=1048576) :
 Calls prog 33 #[AG #[vk,vp,ve]] w λe w'=>∃v,e=.returned v/\iX w' w.heap.size v (nU ks ps es)/\Bw w w':=by
 obtain⟨i0,ef,ee,gB,ec⟩:=info_parts Ua;have HB:Hid (∀wx:World,Bw w wx->dW wx vk vp ve ks ps es):=λwx hx=>hB.keep hx;obtain⟨⟨ak,ck,rfl,-,-,-⟩,⟨ap,cp,rfl,-,-,-⟩,⟨ae,ce,rfl,fg,b6,-⟩⟩:=hB;unfold maxLen at b6
 have A1:Hid (Bw w ((w.alloc (AE #[U ak ks.length ck,U ap ps.length cp,U ae es.length ce] 41)).alloc (AE #[] 81))):=(aG).alloc (by simp) _
 have E1:Hid (((w.alloc (AE #[U ak ks.length ck,U ap ps.length cp,U ae es.length ce] 41)).alloc (AE #[] 81)).heap[w.heap.size+1]?=AD (AE #[] 81 (0,0))):=by
  have h:=Lv.aS (w.alloc (AE #[U ak ks.length ck,U ap ps.length cp,U ae es.length ce] 41)) (AE #[] 81)
  rw[show(w.alloc (AE #[U ak ks.length ck,U ap ps.length cp,U ae es.length ce] 41)).heap.size=w.heap.size+1 by simp] at h
  exact h
 have X1:Hid (((w.alloc (AE #[U ak ks.length ck,U ap ps.length cp,U ae es.length ce] 41)).alloc (AE #[] 81)).heap[w.heap.size]?=AD (AE #[U ak ks.length ck,U ap ps.length cp,U ae es.length ce] 41 (0,0))):=by
  show _=_
  rw[(((aG):Bw (w.alloc (AE #[U ak ks.length ck,U ap ps.length cp,U ae es.length ce] 41)) ((w.alloc (AE #[U ak ks.length ck,U ap ps.length cp,U ae es.length ce] 41)).alloc (AE #[] 81)))).block _ (by simp)]
  exact Lv.aS w _
 have Q0:Hid (∀wx:World,Bw ((w.alloc (AE #[U ak ks.length ck,U ap ps.length cp,U ae es.length ce] 41)).alloc (AE #[] 81)) wx->(wx.cell? ⟨w.heap.size,0,R⟩=AD (U ak ks.length ck)/\wx.cell? ⟨w.heap.size,1,R⟩=AD (U ap ps.length cp)/\wx.cell? ⟨w.heap.size,2,R⟩=AD (U ae es.length ce))):=λwx hx=>⟨ac hx aE (by simp[go_sem]),ac hx aE (by simp[go_sem]),ac hx aE (by simp[go_sem])⟩
 obtain⟨p0,p1,p2⟩:=Q0 _ (AN _ _)
 go_enter func33,ntmps33
 go_wp2_with fail;generalize(w.alloc _).alloc _=w1 at *;refine(cr _ _ _ ks ps es _ (HB _ A1) nB sB).mono ?_;rintro e w2⟨rfl,ay⟩;have B2:Hid _:=ay;have X2:Hid _:=ah ay X1;have E2:Hid _:=ah ay E1;obtain⟨p0,p1,p2⟩:=Q0 _ B2
 cases bb:dP ks ps es
 .have HE:Hid (nU ks ps es=[]):=by show _=_;unfold nU;rw[bb];rfl
  go_wp2;go_ret
  exact⟨_,rfl,by rw[HE.out];exact iX.zero E2 (by omega),aa A1 B2⟩
 have mG:Hid _:=bb
 have HE:Hid (nU ks ps es=(jL es).map (Ry ks)):=by show _=_;unfold nU;rw[bb];rfl
 have kf:Hid _:=sZ mG;go_wp2_with fail
 go_loopw [3,4] (λv i wr=>∃k:Nat,k<=es.length/\i=I J k/\(∃a c,v=.slice a (jL (es.take k)).length c)/\Hid (FI w wr #[U ak ks.length ck,U ap ps.length cp,U ae es.length ce] v ((jL (es.take k)).map (Ry ks)))) (λ_ i _=>es.length-(intOf i).toNat)
 case atStart=>exact⟨0,A0 _,rfl,⟨_,_,rfl⟩,iX.zero E2.out (by omega),aa A1.out B2.out,X2.out,(λq hq=>by have h3:(AD (w.heap.size+1):Option Nat)=AD q:=hq;injection h3 with h3;omega)⟩
 case round =>
  obtain⟨k,hk,rfl,⟨a,c,rfl⟩,HI⟩:=hrel;have p0:=dM HI.box (i:=0) rfl;have p1:=dM HI.box (i:=1) rfl;have p2:=dM HI.box (i:=2) rfl
  by_cases av:k<es.length
  .have dk:eO es k∈es:=List.mem_of_getElem? (bo av)
   have qX:=Lv.dx (Gi av);have nS:Hid (∀f∈(eO es k).fs,eX ks ps f.what f.v=true/\f.v.size<=1048576):=λf hf=>⟨de mG _ dk f hf,sB.v _ dk f hf⟩;have gx:Hid _:=yX mG _ dk;obtain⟨a9,c9,e9,-,-,h9⟩:=(HB _ HI.below).e;obtain⟨b,off,ha,fv,d0,d1,ff⟩:=h9 _ _ (bo av)
   cases e9
   subst ha;obtain⟨⟨en,fs⟩,js⟩:∃e,eO es k=e:=⟨_,rfl⟩;rw[js] at qX nS gx d0 ff;have hW:=Lv.dx ff;dsimp only at qX nS gx d0 ff hW;obtain⟨af,cf,rfl,-,-,-⟩:=ff;have fA:Hid (∀wx:World,Bw wr wx->((wx.cell? ⟨w.heap.size,0,R⟩=AD (U ak ks.length ck)/\wx.cell? ⟨w.heap.size,1,R⟩=AD (U ap ps.length cp)/\wx.cell? ⟨w.heap.size,2,R⟩=AD (U (AD ⟨b,off,R⟩) es.length ce))/\wx.cell? ⟨b,off+k*2,R⟩=AD (AF en)/\wx.cell? ⟨b,off+k*2+1,R⟩=AD (U af fs.length cf))):=λwx hx=>⟨⟨ac hx aE p0,ac hx aE p1,ac hx aE p2⟩,ac hx aE d0,ac hx aE d1⟩;have GS:Hid (∀wx:World,Bw wr wx->Calls prog 54 #[AG #[U ak ks.length ck,U ap ps.length cp,U (AD ⟨b,off,R⟩) es.length ce],AG #[AF en,U af fs.length cf]] wx λe w'=>∃rt,e=.returned (AH #[AG (pX ks en fs rt),.bool (mX fs)])/\(mX fs=true->jr w' wx.heap.size rt (dG fs 4))/\Bw wx w'):=λwx hx=>wU _ _ _ _ ks ps en fs wx (HB _ (aa HI.below hx)).k (hW.keep hx) kf nS gx ⟨_,_,_,rfl⟩ ⟨_,_,_,rfl⟩;go_wp2;refine wp_region_noPanic ?_
   refine wp_region_held_drew (S:=λwx=>((wx.cell? ⟨w.heap.size,0,R⟩=AD (U ak ks.length ck)/\wx.cell? ⟨w.heap.size,1,R⟩=AD (U ap ps.length cp)/\wx.cell? ⟨w.heap.size,2,R⟩=AD (U (AD ⟨b,off,R⟩) es.length ce))/\wx.cell? ⟨b,off+k*2,R⟩=AD (AF en)/\wx.cell? ⟨b,off+k*2+1,R⟩=AD (U af fs.length cf))) (by kernel_rfl) ?_ (λab=>?_)
   .exact fA _ (AN _ _).drew
   have BD:Hid (Bw wr wr.drew):=(AN _ _).drew;generalize wr.drew=W0 at *;refine aZ 0 ?_;refine aZ 1 ?_;refine aZ 2 ?_;refine aZ 3 ?_;refine aZ 4 ?_;refine aZ 5 ?_
   simp only[AT,aK]
   refine ny 6 10 rfl rfl (λK hK=>?_) (λK hK=>?_)
   focus
    go_simp;refine(GS _ BD).mono ?_;rintro e W1⟨rt,rfl,bn,hb⟩;have B1:Hid _:=aa BD hb;have R1:Hid (mX fs=true->jr W1 wr.heap.size rt (dG fs 4)):=λh=>(bn h).mono BD.size;refine hK _ _ (fA _ B1) (λab=>?_);refine aZ 7 ?_;refine aZ 8 ?_;refine aZ 9 ?_
    simp only[AT,aK]
    have BA:Hid (Bw W1 (W1.alloc (AE #[AF ⟨#[]⟩,AF ⟨#[]⟩,I J 0,I J 0,I J 0,I J 0,I J 0,U R 0 0] 81))):=(aG);have FA:Hid ((W1.alloc (AE #[AF ⟨#[]⟩,AF ⟨#[]⟩,I J 0,I J 0,I J 0,I J 0,I J 0,U R 0 0] 81)).heap[W1.heap.size]?=AD (AE #[AF ⟨#[]⟩,AF ⟨#[]⟩,I J 0,I J 0,I J 0,I J 0,I J 0,U R 0 0] 81 (0,0))):=Lv.aS W1 _;have hI:=B1.out.size;refine be 10 (λK hK=>?_);go_simp;refine hK _ _ (fA _ (aa B1 BA)) (λ_=>?_);have eW:Hid _:=aa B1 BA;have R2:Hid (mX fs=true->jr (W1.alloc (AE #[AF ⟨#[]⟩,AF ⟨#[]⟩,I J 0,I J 0,I J 0,I J 0,I J 0,U R 0 0] 81)) wr.heap.size rt (dG fs 4)):=λh=>(R1 h).keep BA;generalize W1.alloc _=W2 at *;generalize W1.heap.size=FB at *
   rotate_left
   focus
    go_simp;have BA:Hid (Bw W0 (W0.alloc (AE #[AF ⟨#[]⟩,AF ⟨#[]⟩,I J 0,I J 0,I J 0,I J 0,I J 0,U R 0 0] 81))):=(aG);have kh:Hid ((W0.alloc (AE #[AF ⟨#[]⟩,AF ⟨#[]⟩,I J 0,I J 0,I J 0,I J 0,I J 0,U R 0 0] 81)).heap[W0.heap.size]?=AD (AE #[AF ⟨#[]⟩,AF ⟨#[]⟩,I J 0,I J 0,I J 0,I J 0,I J 0,U R 0 0] 81 (0,0))):=Lv.aS W0 _;have hI:=BD.out.size;have B0:Hid _:=aa BD BA;refine hK _ _ (fA _ B0) (λ_=>?_);generalize W0.alloc _=W1 at *;generalize W0.heap.size=FB at *;refine be 6 (λK hK=>?_);go_simp;refine(GS _ B0).mono ?_;rintro e W2⟨rt,rfl,bn,hb⟩;have eW:Hid _:=aa B0 hb;have R2:Hid (mX fs=true->jr W2 wr.heap.size rt (dG fs 4)):=λh=>(bn h).mono B0.size;have FA:Hid _:=ah hb kh;refine hK _ _ (fA _ eW) (λab=>?_);refine aZ 7 ?_;refine aZ 8 ?_;refine aZ 9 ?_
    simp only[AT,aK]
   rotate_left
   all_goals
    have eE:(pX ks en fs rt).size=8:=by unfold pX;cases mX fs<;>rfl
    have fN:(pX ks en fs rt).all (·.oneCell')=true:=stC_one R2;have B3:Hid (Bw wr (W2.setRow FB (pX ks en fs rt))):=below_setRow eW hI _;have F3:Hid ((W2.setRow FB (pX ks en fs rt)).heap[FB]?=AD (AE (pX ks en fs rt) 81 (0,0))):=oN FA;have R3:Hid (mX fs=true->jr (W2.setRow FB (pX ks en fs rt)) wr.heap.size rt (dG fs 4)):=λh=>(R2 h).row FA;refine be 11 (λK hK=>?_)
    refine aW rfl 81 _ _ rfl FB (pX ks en fs rt) rfl rfl 81 _ FA (by rw[eE];kernel_rfl) (by rw[eE];rfl) fN ?_
    refine hK _ _ (fA _ B3) (λab=>?_);generalize W2.setRow _ _=WX at *;have BX:=B3;have FX:=F3;have RX:=R3;refine aM 12 ?_ rfl ?_ ?_;rotate_left
    .intro w aL;(try dsimp only at aL);go_simp;try with_reducible rfl
    simp only[AT,aK]
    -- the flight lies in FB
    refine vI ?_;refine NoPanic.normal ?_
    cases ax:mX fs
    .have U9:Hid (jL (es.take (k+1))=jL (es.take k)):=by show _=_;rw[qX.out,ax];simp
     have I5:Hid (FI w WX #[U ak ks.length ck,U ap ps.length cp,U (AD ⟨b,off,R⟩) es.length ce] (.slice a (jL (es.take k)).length c) ((jL (es.take k)).map (Ry ks))):=⟨HI.fl.keep BX,aa HI.below BX,ah BX HI.box,HI.own⟩;go_wp2
     exact⟨⟨k+1,by omega,by go_num,by rw[U9.out];exact⟨a,c,rfl⟩,by rw[U9.out];exact I5⟩,by simp[intOf];omega⟩
    .have U9:Hid (jL (es.take (k+1))=jL (es.take k)++[⟨en,fs⟩]):=by show _=_;rw[qX.out,ax];rfl
     have Ue:=SQ (e:=⟨en,fs⟩) (RX ax);obtain⟨ra,rc,rfl⟩:=nC Ue
     have hsc:pX ks en fs (.slice ra (o8 ⟨en,fs⟩).length rc)=#[AF en,AF (jc ks (dG fs 1)).s,I J (jc ks (dG fs 1)).x,I J (jc ks (dG fs 1)).y,I J (l9 (dG fs 2)),I J (kK (dG fs 2)),I J (mF (dG fs 3)),.slice ra (o8 ⟨en,fs⟩).length rc]:=by unfold pX;rw[ax];rfl
     rw[hsc] at FX ⊢;have RL:Hid (Ry ks ⟨en,fs⟩=⟨en,jc ks (dG fs 1),l9 (dG fs 2),kK (dG fs 2),mF (dG fs 3),o8 ⟨en,fs⟩⟩):=rfl;have Ot:=Lv.dx Ue;generalize jc ks (dG fs 1)=kt at *;generalize l9 (dG fs 2)=kx at *;generalize kK (dG fs 2)=ky at *;generalize mF (dG fs 3)=kz at *;generalize eI:o8 ⟨en,fs⟩=RW at *;generalize hrn:RW.length=rn at *
     have hnn:(jL (es.take k)).length<=1048576:=by
      have h1:=DI (es.take k);rw[List.length_take] at h1
      omega
     obtain⟨qs,gS,Rx⟩:=HI.fl;have kd:=Lv.dx Rx;have hQ:=Rx.keep BX
     have gX:qs.length=(jL (es.take k)).length:=by have:=congrArg List.length gS;simpa using this
     have an:WX.ownsRow w.heap.size 81 8 (.slice a (jL (es.take k)).length c) (jL (es.take k)).length (kI qs):=by
      have h:=hQ.row;rw[gX] at h;exact h
     have f0:=dM FX (i:=0) rfl;have f1:=dM FX (i:=1) rfl;have f2:=dM FX (i:=2) rfl;have f3:=dM FX (i:=3) rfl;have f4:=dM FX (i:=4) rfl;have f5:=dM FX (i:=5) rfl;have f6:=dM FX (i:=6) rfl;have f7:=dM FX (i:=7) rfl;have hwx:=BX.out.size;have hwr:=HI.out.below.size;have hwb:=lt_of_block HI.box;have BC:Hid (Bw WX (WX.alloc (AE #[AF en,AF kt.s,I J kt.x,I J kt.y,I J kx,I J ky,I J kz,U ra rn rc] 81))):=(aG);have ED:Hid ((WX.alloc (AE #[AF en,AF kt.s,I J kt.x,I J kt.y,I J kx,I J ky,I J kz,U ra rn rc] 81)).heap[WX.heap.size]?=AD (AE #[AF en,AF kt.s,I J kt.x,I J kt.y,I J kx,I J ky,I J kz,U ra rn rc] 81 (0,0))):=Lv.aS WX _
     go_wp2_with (at_builtin;refine apw underlying76 ef ee gB ec (da an BC) _ 1 1 [AF en,AF kt.s,I J kt.x,I J kt.y,I J kx,I J ky,I J kz,U ra rn rc] (.inr ⟨_,rfl,Ax ED⟩) rfl ?_ (h1:=(λu hu=>by simp at hu;rcases hu with rfl|rfl|rfl|rfl|rfl|rfl|rfl|rfl<;>rfl));intro vq wx ao ad dt)
     have vH:Hid (FI w wx #[U ak ks.length ck,U ap ps.length cp,U (AD ⟨b,off,R⟩) es.length ce] vq ((jL (es.take (k+1))).map (Ry ks))):=by
      refine⟨⟨qs++[(⟨en,kt,kx,ky,kz,RW⟩,U ra rn rc)],?_,?_⟩,?_,?_,?_⟩
      .rw [U9.out,List.map_append,List.map_append,gS]
       simp[RL.out]
      .refine (hQ.keep BC.out).push (da (tL Ot.out (by omega)) BC.out) (λp hp=>?_) ad (by rw[gX];exact ao)
       intro q hq e;have h1:=OQ (kd.rt p hp) q hq;have h2:=He Ot q e
       omega
      .exact (aa (aa HI.below BX) BC).grown ad (aa (aa HI.below BX) BC).size (λq hq=>by have h1:=HI.own q hq;omega)
      .exact (ad.block _ (by simp;omega) (λe=>by have h1:=HI.own _ e.symm;omega)).trans (ah BC (ah BX HI.box))
      .intro q hq
       rcases dt with e|e
       .rw [e] at hq;exact HI.own q hq
       .rw [e] at hq;injection hq with hq;have h2:=BC.out.size;omega
     obtain⟨qa,qc,rfl⟩:=nC ao
     have vK:Hid ((jL (es.take (k+1))).length=(jL (es.take k)).length+1):=by show _=_;rw[U9.out];simp
     exact⟨⟨k+1,by omega,by go_num,by rw[vK.out];exact⟨_,_,rfl⟩,vH⟩,by simp[intOf];omega⟩
  .have HF:Hid (es.take k=es):=List.take_of_length_le (by omega)
   go_wp2;go_ret
   exact⟨_,rfl,by have h:=HI.fl;rw[HF.out] at h ⊢;rw[HE.out];exact h,HI.below⟩
end Go.Proofs.YtolokangldmodaaGreatDoor.Fa
