import Derived.Test.YtolokangldmodaaGreatDoorIn2
import Derived.Lib.AppendZerosOnto
set_option maxRecDepth 100000
set_option maxHeartbeats 6400000
set_option linter.unusedSimpArgs false
set_option linter.unusedVariables false
open Go.Value renaming int->J,string->AE,slice->R,bool->AJ,agg->AG,tuple->AI,oneCell'->AM
open Go.Obj renaming cells->AF
open Go.Ending renaming returned->AH
open Option renaming none->AD,some->U
open Go.IntKind renaming i64->I,wrap_i64->An
open Go.World renaming cell?->AL,size_alloc->AS
open List renaming length_take->AN,size_toArray->AO,length_append->AT,toList_toArray->As,append_assoc->AK,length_drop->Aw,not_mem_nil->Ax
open Go.RowKit.Below renaming heap_setCell->AW,refl->Aj
open Go Go.Proofs.YtolokangldmodaaGreatDoor
variable {w w' w1:World} {vk vp ve:Value} {num:Int} {s:ByteArray}
open Go.Proofs.Tryz
namespace Go.Proofs.YtolokangldmodaaGreatDoor
open Go.RowKit
theorem wpList_append_run{P:Program}{ops:Array Oper}{rest:List Oper}{o:Oper}{a:Act}{Q:Exit->Act->World->Prop}(hgd:o.guard=AD)(s x:Operand)(t u:TypeId)(ho:o.op=.call { callee:=.builtin .append,args:=#[s,x],argTypes:=#[t,u] })(v y:Value)(hs:a.eval s=v)(hx:a.eval x=y){v':Value}(hr:(Builtin.append_ #[t,u] o.type #[v,y]).run P w=.ok v' w')(h:wpList P ops Q rest (a.put o.dst v') w'):wpList P ops Q (o::rest) a w:=by
 refine wpList_plain hgd λK hK=>?_;unfold Oper.wp
 simp only[execOp,ho,resolve,invoke,builtin,Sem.run_bind,Sem.run_pure,Result.andThen_ok,List.map_toArray,List.map_cons,List.map_nil,hs,hx,hr]
 exact hK _ _ h
theorem MS{C X tc:List Value}{i n:Nat}(hX:X.length=(n-i)*3)(ht:tc.length=3)(hi:i<=n)(hC:(n+1)*3<=C.length) :
 (splice (splice C (i*3) tc) ((i+1)*3) X).take ((n+1)*3)=C.take (i*3)++(tc++X)/\(splice (splice C (i*3) tc) ((i+1)*3) X).length=C.length:=by
 have e1:(splice C (i*3) tc).take ((i+1)*3)=C.take (i*3)++tc:=by
  unfold splice;rw[<-AK]
  exact List.take_left' (by rw[AT,AN,ht];omega)
 have e3:splice (splice C (i*3) tc) ((i+1)*3) X=(C.take (i*3)++(tc++X))++(splice C (i*3) tc).drop ((i+1)*3+X.length):=by
  conv=>lhs;unfold splice
  have dr:=e1;unfold splice at dr ⊢;rw[dr]
  simp
 have hlen:(C.take (i*3)++(tc++X)).length=(n+1)*3:=by
  rw[AT,AT,AN,ht,hX]
  omega
 constructor
 .rw [e3,<-hlen,List.take_left]
 .rw [e3,AT,hlen,Aw,hX,length_splice _ _ _ (by rw[ht];omega)]
  omega
theorem mh:(∀(B g cap vb i:Nat) (l:List dE) (t:dE) (cur:Array Value) (w:World) (hi:i<l.length) (hc:l.length<=cap) (hr:cap<l.length+1) (hl:l.length<=1000) (an:B<=w.heap.size) (hg:w.heap[g]?=U (AF cur 79 (0,0))) (au:cur.size=cap*3) (ao:cur.toList.take (l.length*3)=dw l) (hv:w.heap[vb]?=U (AF #[AE t.s,J I t.x,J I t.y] 79 (0,0))),Calls prog 141 #[R (U ⟨g,0,AD⟩) l.length cap,J I i,R (U ⟨vb,0,AD⟩) 1 1] w λe w'=>∃u,e=AH u/\w'.ownsRow B 79 3 u (l.length+1) (dw (gI l i t))/\Below B w w')/\(∀(B g cap vb i:Nat) (l:List dE) (t:dE) (cur:Array Value) (w:World) (hi:i<l.length) (hc:l.length<=cap) (hr:cap<l.length+1) (hl:l.length<=1000) (an:B<=w.heap.size) (hg:w.heap[g]?=U (AF cur 101 (0,0))) (au:cur.size=cap*3) (ao:cur.toList.take (l.length*3)=dw l) (hv:w.heap[vb]?=U (AF #[AE t.s,J I t.x,J I t.y] 101 (0,0))),Calls prog 145 #[R (U ⟨g,0,AD⟩) l.length cap,J I i,R (U ⟨vb,0,AD⟩) 1 1] w λe w'=>∃u,e=AH u/\w'.ownsRow B 101 3 u (l.length+1) (dw (gI l i t))/\Below B w w'):=by
 constructor
 focus(intro B g cap vb i l t cur w hi hc hr hl an hg au ao hv;have IA:=True.intro)
 rotate_left
 focus intro B g cap vb i l t cur w hi hc hr hl an hg au ao hv
 rotate_left
 all_goals
  first|(have _:=IA;obtain⟨i0,cy,ct,dd,bY⟩:=info_parts lL)|(obtain⟨i0,cy,ct,dd,bY⟩:=info_parts cW)
  have hCl:cur.toList.length=cap*3:=by rw[Array.length_toList];exact au
  have cu:cur.toList.take (i*3)=dw (l.take i):=by
   rw[<-vQ l i (by omega),<-ao,List.take_take]
   congr 1
   omega
  have hold:(Builtin.firstCells i0.size i (R (U ⟨g,0,AD⟩) i cap)).run prog w.drew=.ok (dw (l.take i)).toArray w.drew:=by
   have h:=run_loadCells_list (P:=prog) w.drew ⟨g,0,AD⟩ (dw (l.take i)) (λj v hj=>by
    rw[bW,Nat.zero_add]
    first|(have _:=IA;have dm:w.drew.heap[g]?=U (AF cur 79 (0,0)):=hg)|(have dm:w.drew.heap[g]?=U (AF cur 101 (0,0)):=hg)
    rw[<-cu,List.getElem?_take] at hj
    split at hj
    .simp only [AL]
     rw[dm]
     simpa using hj
    .cases hj)
   rw[aI,AN,Nat.min_eq_left (by omega)] at h
   rw[dd]
   simpa[Builtin.firstCells,Nat.mul_comm] using h
  first
  |have _:=IA
   have ca:=Lib.run_append_grow_zeros (P:=prog) w 35 3 35 79 i0 _ I I underlying35 underlying3 cy ct (U ⟨g,0,AD⟩) i cap (dw (l.take i)) hold (l.length+1-i) (by omega) (by omega) (by omega) (by omega) (by rw[bY];omega) (by rw[bY];exact growslice_fits (by omega) (by omega))
  |have ca:=Lib.run_append_grow_zeros (P:=prog) w 36 3 36 101 i0 _ I I underlying36 underlying3 cy ct (U ⟨g,0,AD⟩) i cap (dw (l.take i)) hold (l.length+1-i) (by omega) (by omega) (by omega) (by omega) (by rw[bY];omega) (by rw[bY];exact growslice_fits (by omega) (by omega))
  have hk:((l.length+1-i:Nat):Int)=(l.length:Int)+1-(i:Int):=by omega
  have dy:i+(l.length+1-i)=l.length+1:=by omega
  rw[hk,dy] at ca
  first
  |have _:=IA
   have dT:=grownCap_ge w (l.length+1) cap 79
   have hle:=grownCap_le_maxLen w (l.length+1) cap 79 (by unfold maxLen;omega)
   generalize grownCap w (l.length+1) cap 79=gc at *
  |have dT:=grownCap_ge w (l.length+1) cap 101
   have hle:=grownCap_le_maxLen w (l.length+1) cap 101 (by unfold maxLen;omega)
   generalize grownCap w (l.length+1) cap 101=gc at *
  obtain⟨Z,hZ⟩:∃Z:List Value,((dw (l.take i)).toArray++Builtin.zeroCells (AG #[AE ByteArray.empty,J I 0,J I 0]).cells (l.length+1-i)++Builtin.zeroCells (AG #[AE ByteArray.empty,J I 0,J I 0]).cells (gc-(l.length+1)))=Z.toArray:=⟨_,(Array.toArray_toList ..).symm⟩
  have bV:Z.length=gc*3:=by
   have h:=congrArg Array.size hZ
   simp only[Array.size_append,AO,size_zeroCells,aI,AN,Value.cells] at h
   simp at h
   omega
  have eb:Z.take (i*3)=dw (l.take i):=by
   have h:=congrArg (λA=>A.toList.take (i*3)) hZ
   simp only[Array.toList_append,AK] at h
   rw[List.take_append_of_le_length (by rw[aI,AN];omega),List.take_of_length_le (by rw[aI,AN];omega)] at h
   exact h.symm
  rw[hZ] at ca
  first
  |have _:=IA
   have b1:Bw w (w.drew.alloc (AF Z.toArray 79)):=((Aj _ _).drew).alloc aE _
   have n1:(w.drew.alloc (AF Z.toArray 79)).heap[w.heap.size]?=U (AF Z.toArray 79 (0,0)):=by show(w.heap.push _)[w.heap.size]?=_;simp
   generalize w.drew.alloc _=W1 at *
  |have b1:Bw w (w.drew.alloc (AF Z.toArray 101)):=((Aj _ _).drew).alloc aE _
   have n1:(w.drew.alloc (AF Z.toArray 101)).heap[w.heap.size]?=U (AF Z.toArray 101 (0,0)):=by show(w.heap.push _)[w.heap.size]?=_;simp
   generalize w.drew.alloc _=W1 at *
  have dz:=(Array.getElem?_eq_some_iff.1 hg).1;have dt:=(Array.getElem?_eq_some_iff.1 hv).1;have g1:=(b1.block _ dz).trans hg;have v1:=(b1.block _ dt).trans hv
  have hc1:¬gc=i:=by omega
  have hc2:¬gc=i+1:=by omega
  have hc3:¬cap=i:=by omega
  have aT:Nat.min 1 (l.length+1-i)=1:=Nat.min_eq_left (by omega)
  first
  |have _:=IA
   have ea:(Builtin.copy_ #[35,35] 3 #[R (U ⟨w.heap.size,i*3,AD⟩) (l.length+1-i) (gc-i),R (U ⟨vb,0,AD⟩) 1 1]).run prog W1=.ok (goInt 1) (W1.setRow w.heap.size (splice Z (i*3) [AE t.s,J I t.x,J I t.y]).toArray):=by
    have h:=o6 (P:=prog) W1 35 35 3 79 3 w.heap.size (i*3) (l.length+1-i) (gc-i) ⟨vb,0,AD⟩ 1 1 Z.toArray 79 [AE t.s,J I t.x,J I t.y] underlying35 (by kernel_rfl) n1 (by rw[aT];rfl) (λj v hj=>by rw[bW,Nat.zero_add];simp only[AL];rw[v1];simpa using hj) (by rw[AO,bV];simp;omega) (λv hv=>by simp only[List.mem_cons,Ax,or_false] at hv;rcases hv with rfl|rfl|rfl<;>rfl)
    rw[aT] at h;rw[h]
    simp[splice]
  |have ea:(Builtin.copy_ #[36,36] 3 #[R (U ⟨w.heap.size,i*3,AD⟩) (l.length+1-i) (gc-i),R (U ⟨vb,0,AD⟩) 1 1]).run prog W1=.ok (goInt 1) (W1.setRow w.heap.size (splice Z (i*3) [AE t.s,J I t.x,J I t.y]).toArray):=by
    have h:=o6 (P:=prog) W1 36 36 3 101 3 w.heap.size (i*3) (l.length+1-i) (gc-i) ⟨vb,0,AD⟩ 1 1 Z.toArray 101 [AE t.s,J I t.x,J I t.y] underlying36 (by kernel_rfl) n1 (by rw[aT];rfl) (λj v hj=>by rw[bW,Nat.zero_add];simp only[AL];rw[v1];simpa using hj) (by rw[AO,bV];simp;omega) (λv hv=>by simp only[List.mem_cons,Ax,or_false] at hv;rcases hv with rfl|rfl|rfl<;>rfl)
    rw[aT] at h;rw[h]
    simp[splice]
  have cg:(0:Int)<=(i:Int):=by omega
  have hi1:(i:Int)<=(l.length:Int):=by omega
  have hne:((i:Int)==(l.length:Int))=false:=by rw[beq_eq_false_iff_ne];omega
  have hw1:IntKind.i64.wrap ((l.length:Int)+1)=(l.length:Int)+1:=by rw[An];omega
  have hw2:IntKind.i64.wrap ((l.length:Int)+1-(i:Int))=(l.length:Int)+1-(i:Int):=by rw[An];omega
  have hd:decide ((cap:Int)<(l.length:Int)+1)=true:=by simp;omega
  first
  |have _:=IA
   go_enter func141,ntmps141
   go_wp2_with (at_builtin;refine wpList_append_run rfl _ _ 35 3 rfl _ _ rfl rfl ca ?_)
  |go_enter func145,ntmps145
   go_wp2_with (at_builtin;refine wpList_append_run rfl _ _ 36 3 rfl _ _ rfl rfl ca ?_)
  have hX:(dw (l.drop i)).length=(l.length-i)*3:=by rw[aI,Aw]
  have hdr:∀j v,(dw (l.drop i))[j]?=U v->cur.toList[i*3+j]?=U v:=λj v hj=>by
   rw[<-pY l i (by omega),List.getElem?_drop,<-ao,List.getElem?_take] at hj
   split at hj
   .exact hj
   .cases hj
  have hw3:IntKind.i64.wrap ((i:Int)+1)=(i:Int)+1:=by rw[An];omega
  have hi2:(0:Int)<=(i:Int)+1/\(i:Int)+1<=(l.length:Int)+1:=by omega
  have hi3:(i:Int)<=(l.length:Int)+1:=by omega
  have htn:((i:Int)+1).toNat=i+1:=by omega
  have n2:=setRow_heap W1 w.heap.size _ (splice Z (i*3) [AE t.s,J I t.x,J I t.y]).toArray _ _ n1
  first
  |have _:=IA
   have g2:(W1.setRow w.heap.size (splice Z (i*3) [AE t.s,J I t.x,J I t.y]).toArray).heap[g]?=U (AF cur 79 (0,0)):=(ni (by omega)).trans g1
  |have g2:(W1.setRow w.heap.size (splice Z (i*3) [AE t.s,J I t.x,J I t.y]).toArray).heap[g]?=U (AF cur 101 (0,0)):=(ni (by omega)).trans g1
  have B2:Hid (Bw w (W1.setRow w.heap.size (splice Z (i*3) [AE t.s,J I t.x,J I t.y]).toArray)):=bL b1
  have dq:(splice Z (i*3) [AE t.s,J I t.x,J I t.y]).length=gc*3:=by rw[length_splice _ _ _ (by rw[bV];simp;omega),bV]
  have Ut:=MS (C:=Z) (X:=dw (l.drop i)) (tc:=[AE t.s,J I t.x,J I t.y]) (i:=i) (n:=l.length) hX rfl (by omega) (by rw[bV];omega)
  have uz:Hid ((splice (splice Z (i*3) [AE t.s,J I t.x,J I t.y]) ((i+1)*3) (dw (l.drop i))).take ((l.length+1)*3)=dw (gI l i t)/\(splice (splice Z (i*3) [AE t.s,J I t.x,J I t.y]) ((i+1)*3) (dw (l.drop i))).length=gc*3):=by
   refine⟨?_,Ut.2.trans bV⟩;rw[Ut.1,eb];unfold gI;rw[cC]
   rfl
  generalize(splice Z (i*3) [AE t.s,J I t.x,J I t.y])=S1 at *;generalize W1.setRow _ _=W2 at *;refine wp_region_noPanic ?_
  refine wp_region_held_drew (S:=λ_=>True) (by kernel_rfl) trivial (λav=>?_)
  first
  |have _:=IA
   have n3:W2.drew.heap[w.heap.size]?=U (AF S1.toArray 79 (0,0)):=n2;have g3:W2.drew.heap[g]?=U (AF cur 79 (0,0)):=g2
  |have n3:W2.drew.heap[w.heap.size]?=U (AF S1.toArray 101 (0,0)):=n2
   have g3:W2.drew.heap[g]?=U (AF cur 101 (0,0)):=g2
  have B3:Hid _:=B2.drew;generalize W2.drew=W3 at *;refine aZ 0 ?_;refine aZ 1 ?_;refine aZ 2 ?_;refine aZ 3 ?_;refine aZ 4 ?_;refine aZ 5 ?_;refine aZ 6 ?_;refine aZ 7 ?_
  simp only[Act.put,aK]
  refine be 8 (λK hK=>?_)
  have dk:(dw (l.drop i)).length=Nat.min (l.length-i) (l.length-i)*3:=by
   rw[hX]
   congr 1
   exact(Nat.min_self _).symm
  first
  |have _:=IA
   refine p9 rfl _ _ 35 35 rfl 79 3 underlying35 (by kernel_rfl) w.heap.size ((i+1)*3) _ _ ⟨g,i*3,AD⟩ _ _ rfl rfl S1 79 n3 (dw (l.drop i)) dk (λj v hj=>?_) (by rw[hX,dq];omega) ch ?_
  |refine p9 rfl _ _ 36 36 rfl 101 3 underlying36 (by kernel_rfl) w.heap.size ((i+1)*3) _ _ ⟨g,i*3,AD⟩ _ _ rfl rfl S1 101 n3 (dw (l.drop i)) dk (λj v hj=>?_) (by rw[hX,dq];omega) ch ?_
  .have h1:=hdr j v hj
   rw[bW]
   simp only[AL]
   rw[g3]
   simpa using h1
  refine hK _ _ trivial (λ_=>?_);have n4:=setRow_heap W3 w.heap.size _ (splice S1 ((i+1)*3) (dw (l.drop i))).toArray _ _ n3;have B4:Hid (Bw w (W3.setRow w.heap.size (splice S1 ((i+1)*3) (dw (l.drop i))).toArray)):=bL B3
  first
  |have _:=IA
   have OW:Hid ((W3.setRow w.heap.size (splice S1 ((i+1)*3) (dw (l.drop i))).toArray).ownsRow B 79 3 (R (U ⟨w.heap.size,0,AD⟩) (l.length+1) gc) (l.length+1) (dw (gI l i t))):=by
    refine⟨?_,.inr ⟨w.heap.size,gc,_,rfl,an,n4,by omega,hle,?_,?_⟩⟩
    .rw [aI]
     unfold gI
     simp
     omega
    .rw [AO]
     exact uz.2
    .rw [As]
     exact uz.1
  |have OW:Hid ((W3.setRow w.heap.size (splice S1 ((i+1)*3) (dw (l.drop i))).toArray).ownsRow B 101 3 (R (U ⟨w.heap.size,0,AD⟩) (l.length+1) gc) (l.length+1) (dw (gI l i t))):=by
    refine⟨?_,.inr ⟨w.heap.size,gc,_,rfl,an,n4,by omega,hle,?_,?_⟩⟩
    .rw [aI]
     unfold gI
     simp
     omega
    .rw [AO]
     exact uz.2
    .rw [As]
     exact uz.1
  refine vI ?_;refine NoPanic.normal ?_;go_wp2_with fail;go_ret;exact⟨_,rfl,OW,B4.mono an⟩
theorem Ae(B g cap vb i:Nat)(l:List dE)(t:dE)(cur:Array Value)(w:World)(hi:i<l.length)(hc:l.length<=cap)(hr:cap<l.length+1)(hl:l.length<=1000)(an:B<=w.heap.size)(hg:w.heap[g]?=U (AF cur 79 (0,0)))(au:cur.size=cap*3)(ao:cur.toList.take (l.length*3)=dw l)(hv:w.heap[vb]?=U (AF #[AE t.s,J I t.x,J I t.y] 79 (0,0))):Calls prog 141 #[R (U ⟨g,0,AD⟩) l.length cap,J I i,R (U ⟨vb,0,AD⟩) 1 1] w λe w'=>∃u,e=AH u/\w'.ownsRow B 79 3 u (l.length+1) (dw (gI l i t))/\Below B w w':=mh.1 B g cap vb i l t cur w hi hc hr hl an hg au ao hv
theorem yK(B g cap vb i:Nat)(l:List dE)(t:dE)(cur:Array Value)(w:World)(hi:i<l.length)(hc:l.length<=cap)(hr:cap<l.length+1)(hl:l.length<=1000)(an:B<=w.heap.size)(hg:w.heap[g]?=U (AF cur 101 (0,0)))(au:cur.size=cap*3)(ao:cur.toList.take (l.length*3)=dw l)(hv:w.heap[vb]?=U (AF #[AE t.s,J I t.x,J I t.y] 101 (0,0))):Calls prog 145 #[R (U ⟨g,0,AD⟩) l.length cap,J I i,R (U ⟨vb,0,AD⟩) 1 1] w λe w'=>∃u,e=AH u/\w'.ownsRow B 101 3 u (l.length+1) (dw (gI l i t))/\Below B w w':=mh.2 B g cap vb i l t cur w hi hc hr hl an hg au ao hv
open Go.RowKit
theorem sD(B vb i:Nat)(v:Value)(l:List dE)(t:dE)(w:World)(hi:i<=l.length)(hl:l.length<=1000)(an:B<=w.heap.size)(hown:w.ownsRow B 79 3 v l.length (dw l))(NH:v.ownBlock≠U vb)(hv:w.heap[vb]?=U (AF #[AE t.s,J I t.x,J I t.y] 79 (0,0))) :
 Calls prog 141 #[v,J I i,R (U ⟨vb,0,AD⟩) 1 1] w λe w'=>∃u,e=AH u/\w'.ownsRow B 79 3 u (l.length+1) (dw (gI l i t))/\Below B w w':=by
 have ai:=hown;obtain⟨hlen,⟨rfl,h0⟩|⟨g,cap,cur,rfl,cL,hg,hc,ba,au,ao⟩⟩:=hown
 .have cg:i=0:=by omega
  subst cg
  have h:=sw B vb AD 0 l t w hl an (by unfold maxLen;omega) (by rw[h0];rw[h0] at ai;exact ai) hv
  rw[h0] at h ⊢;exact h
 .by_cases he:i=l.length
  .rw [he]
   exact sw B vb _ cap l t w hl an ba ai hv
  .by_cases hr:l.length+1<=cap
   .exact Ad B g cap vb i l t cur w (by omega) hr ba hl cL hg au ao hv (λe=>NH (by rw[e];rfl))
   .exact Ae B g cap vb i l t cur w (by omega) hc (by omega) hl an hg au ao hv
theorem qR(B vb i:Nat)(v:Value)(l:List dE)(t:dE)(w:World)(hi:i<=l.length)(hl:l.length<=1000)(an:B<=w.heap.size)(hown:w.ownsRow B 101 3 v l.length (dw l))(NH:v.ownBlock≠U vb)(hv:w.heap[vb]?=U (AF #[AE t.s,J I t.x,J I t.y] 101 (0,0))) :
 Calls prog 145 #[v,J I i,R (U ⟨vb,0,AD⟩) 1 1] w λe w'=>∃u,e=AH u/\w'.ownsRow B 101 3 u (l.length+1) (dw (gI l i t))/\Below B w w':=by
 have ai:=hown;obtain⟨hlen,⟨rfl,h0⟩|⟨g,cap,cur,rfl,cL,hg,hc,ba,au,ao⟩⟩:=hown
 .have cg:i=0:=by omega
  subst cg
  have h:=qQ B vb AD 0 l t w hl an (by unfold maxLen;omega) (by rw[h0];rw[h0] at ai;exact ai) hv
  rw[h0] at h ⊢;exact h
 .by_cases he:i=l.length
  .rw [he]
   exact qQ B vb _ cap l t w hl an ba ai hv
  .by_cases hr:l.length+1<=cap
   .exact yJ B g cap vb i l t cur w (by omega) hr ba hl cL hg au ao hv (λe=>NH (by rw[e];rfl))
   .exact yK B g cap vb i l t cur w (by omega) hc (by omega) hl an hg au ao hv
end Go.Proofs.YtolokangldmodaaGreatDoor
namespace Go.Proofs.YtolokangldmodaaGreatDoor.Tx
open Go.RowKit Sd
theorem bZ(num c:Int)(s:ByteArray)(w:World) :
 Rb 87 #[AG #[J I num,AE s],J I c] w (.iface 158 (AG #[J I num,J I c])):=by
 have HB:Hid (Bw w (w.alloc (AF #[J I num,AE s] 47))):=(aG)
 go_enter func87,ntmps87
 go_wp2_with fail
 exact bv (.iface 158 (AG #[J I num,J I c])) ⟨rfl,HB.out⟩ (by simp[results,results87,go_sem])
theorem Jk(w:World)(a b c:Obj)(hb:Bw (((w.alloc a).alloc b).alloc c) w'):w'.heap[w.heap.size]?=U a/\w'.heap[w.heap.size+1]?=U b/\w'.heap[w.heap.size+2]?=U c:=by
 have h:∀(z:World) (o:Obj),(z.alloc o).heap[z.heap.size]?=U o:=λz o=>by show(z.heap.push o)[z.heap.size]?=U o;simp
 have b3:Bw (w.alloc a) w':=aa ((aG).alloc (by simp) _) hb
 have b4:Bw ((w.alloc a).alloc b) w':=aa (aG) hb
 have e1:=(b3.block w.heap.size (by simp)).trans (h w a)
 have e2:=(b4.block (w.alloc a).heap.size (by simp)).trans (h (w.alloc a) b)
 have e3:=(hb.block ((w.alloc a).alloc b).heap.size (by simp)).trans (h ((w.alloc a).alloc b) c)
 simp only[AS] at e2 e3
 exact⟨e1,e2,e3⟩
def gp(num c:Int):Value:=AI #[AG #[R AD 0 0,R AD 0 0,R AD 0 0],.iface 158 (AG #[J I num,J I c])]
structure TB (w:World) (vk vp ve:Value) (num:Int) (s:ByteArray) (w1:World):Prop where
 c1:w1.heap[w.heap.size]?=U (AF #[vk,vp,ve] 41 (0,0))
 c2:w1.heap[w.heap.size+1]?=U (AF #[J I num,AE s] 47 (0,0))
 c3:w1.heap[w.heap.size+2]?=U (AF #[R AD 0 0,R AD 0 0,R AD 0 0] 41 (0,0))
 b:Bw w w1
theorem TB.start(hb:Bw (((w.alloc (AF #[vk,vp,ve] 41)).alloc (AF #[J I num,AE s] 47)).alloc (AF #[R AD 0 0,R AD 0 0,R AD 0 0] 41)) w1):TB w vk vp ve num s w1:=by
 obtain⟨h1,h2,h3⟩:=Jk w _ _ _ hb
 exact⟨h1,h2,h3,aa (((aG).alloc (by simp) _).alloc (by simp;omega) _) hb⟩
theorem TB.keep{w2:World}(h:TB w vk vp ve num s w1)(hb:Bw w1 w2):TB w vk vp ve num s w2 :=
 ⟨(hb.block _ (Array.getElem?_eq_some_iff.1 h.c1).1).trans h.c1,(hb.block _ (Array.getElem?_eq_some_iff.1 h.c2).1).trans h.c2,(hb.block _ (Array.getElem?_eq_some_iff.1 h.c3).1).trans h.c3,aa h.b hb⟩
theorem TB.cells(h:TB w vk vp ve num s w1):(w1.cell? ⟨w.heap.size,0,AD⟩=U vk/\w1.cell? ⟨w.heap.size,1,AD⟩=U vp/\w1.cell? ⟨w.heap.size,2,AD⟩=U ve)/\(w1.cell? ⟨w.heap.size+1,0,AD⟩=U (J I num)/\w1.cell? ⟨w.heap.size+1,1,AD⟩=U (AE s))/\w.heap.size<w1.heap.size/\w.heap.size+1<w1.heap.size/\w.heap.size+2<w1.heap.size:=by
 obtain⟨c1,c2,c3,-⟩:=h
 exact⟨⟨by simp[AL,c1],by simp[AL,c1],by simp[AL,c1]⟩,⟨by simp[AL,c2],by simp[AL,c2]⟩,(Array.getElem?_eq_some_iff.1 c1).1,(Array.getElem?_eq_some_iff.1 c2).1,(Array.getElem?_eq_some_iff.1 c3).1⟩
theorem OT{W:World}{t:dE}{vb:Nat}{T:TypeId}(h:W.heap[vb]?=U (AF #[AE t.s,J I t.x,J I t.y] T (0,0))):dF W (R (U ⟨vb,0,AD⟩) 1 1) [t]:=by
 refine⟨U ⟨vb,0,AD⟩,1,rfl,by simp,by unfold maxLen;omega,λi x hx=>?_⟩
 have hi:i=0:=by
  have:=(List.getElem?_eq_some_iff.1 hx).1
  simp at this
  exact this
 subst hi
 simp at hx
 subst hx
 exact⟨vb,0,rfl,⟨by simp[AL,h],by simp[AL,h],by simp[AL,h]⟩⟩
theorem sG(w:World)(a b:Obj):((w.alloc a).alloc b).heap[w.heap.size]?=U a:=by
 show((w.heap.push a).push b)[w.heap.size]?=U a
 rw[Array.getElem?_push_lt (by simp)]
 simp
theorem TB.set0(h:TB w vk vp ve num s w1)(v:Value):TB w v vp ve num s (w1.setCell ⟨w.heap.size,0,AD⟩ v):=by
 refine⟨?_,?_,?_,h.b.setCell (p:=⟨w.heap.size,0,AD⟩) aE v⟩
 .rw [setCell_eq_setRow _ _ _ _ _ _ _ h.c1];exact oN h.c1
 .rw [AW w1 ⟨w.heap.size,0,AD⟩ v (w.heap.size+1) (by show w.heap.size+1≠w.heap.size;omega)];exact h.c2
 .rw [AW w1 ⟨w.heap.size,0,AD⟩ v (w.heap.size+2) (by show w.heap.size+2≠w.heap.size;omega)];exact h.c3
theorem TB.set1(h:TB w vk vp ve num s w1)(v:Value):TB w vk v ve num s (w1.setCell ⟨w.heap.size,1,AD⟩ v):=by
 refine⟨?_,?_,?_,h.b.setCell (p:=⟨w.heap.size,1,AD⟩) aE v⟩
 .rw [setCell_eq_setRow _ _ _ _ _ _ _ h.c1];exact oN h.c1
 .rw [AW w1 ⟨w.heap.size,1,AD⟩ v (w.heap.size+1) (by show w.heap.size+1≠w.heap.size;omega)];exact h.c2
 .rw [AW w1 ⟨w.heap.size,1,AD⟩ v (w.heap.size+2) (by show w.heap.size+2≠w.heap.size;omega)];exact h.c3
theorem Gx(num:Int)(s:ByteArray)(v:Value)(ap ae:Option Addr)(np cp ne ce:Nat)(ks:List dE)(w:World)(hk:dF w v ks)(hs:s.size<=1048576)(hl:ks.length<=1000) :
 Calls prog 109 #[AG #[v,R ap np cp,R ae ne ce],AG #[J I num,AE s]] w λe w'=>Bw w w' /\
 ((iO ks (dA s)≠0/\e=AH (gp num (iO ks (dA s))))\/(iO ks (dA s)=0/\∃u,e=AH (AI #[AG #[u,R ap np cp,R ae ne ce],.nilIface])/\w'.ownsRow w.heap.size 79 3 u (ks.length+1) (dw (gI ks (fG ks (fT (dA s)).s) (fT (dA s)))))):=by
 have cf:∀i,i<(dA s).length->(dC (dA s) i).size<=1048576:=λi hi=>Nat.le_trans (dh hi) hs;obtain⟨t,ok,hR,du,cx,bb,bP⟩:=Cm (dA s) wM (λx=>rfl) 1048576 cf
 have Rp:Hid (∀wx:World,Rb 137 #[AG #[J I num,AE s]] wx (AI #[AE t.s,J I t.x,J I t.y,AJ ok])):=λwx=>by
  have h:=Fz num s wx hs;rw[hR] at h;exact h
 have HC:Hid (iO ks (dA s)=bif ok&&dU [t] then(bif hasB ks t.s then 4 else bif decide (6<=ks.length) then 6 else 0) else 3):=by
  show _=_
  unfold iO;rw[<-cx]
  cases ok
  .rfl
  .rw [bP rfl]
 have HT:Hid (ok=true->fT (dA s)=t):=λh=>(bP h).symm;generalize iO ks (dA s)=kc at *;generalize fT (dA s)=tt at *;have HK:=ag hk;obtain⟨ak,ck,rfl,dv,ba,-⟩:=hk;unfold maxLen at ba
 have c9:Hid (∀(wx:World) (vb:Nat),wx.heap[vb]?=U (AF #[AE t.s,J I t.x,J I t.y] 79 (0,0))->Rb 138 #[R (U ⟨vb,0,AD⟩) 1 1] wx (AJ (dU [t]))):=λwx vb hv=>rY _ [t] wx (OT hv) (λx hx=>by simp at hx;subst hx;unfold maxLen;omega)
 have Ou:Hid (∀wx:World,Bw w wx->Rb 139 #[R ak ks.length ck,AE t.s,.func (.func 140) #[] #[]] wx (AI #[J I (fG ks t.s:Nat),AJ (hasB ks t.s)])):=λwx hx=>oF _ ks t.s wx (HK.keep hx);generalize dU [t]=kb at *;generalize hhb:hasB ks t.s=hb at *;have b5:=G9 ks t.s
 go_enter func109,ntmps109
 go_wp2_with fail;refine(Rp _).mono ?_;rintro e w1⟨rfl,cl⟩;have H1:Hid _:=TB.start cl;obtain⟨⟨d0,d1,d2⟩,⟨f0,f1⟩,z1,z2,z3⟩:=H1.cells;have g0:=H1.out.c1
 cases ok
 .go_wp2_with fail
  refine(bZ num 3 s _).mono ?_;rintro e w2⟨rfl,aL⟩;have H2:Hid (TB w (R ak ks.length ck) (R ap np cp) (R ae ne ce) num s w2):=(H1.out.keep (aG)).keep aL;have g2:=H2.out.c3;have ad:kc=3:=HC.out
  go_wp2_with (refine cS (w.heap.size+2) #[R AD 0 0,R AD 0 0,R AD 0 0] g2 ?_)
  exact bv (gp num 3) ⟨bL H2.out.b,.inl ⟨by rw[ad];decide,by rw[ad]⟩⟩ (by simp[results,results109,go_sem,bU g2,gp])
 .have hT:t=tt:=(HT.out rfl).symm
  subst hT;go_wp2_with fail
  have HA:Hid (Bw w1 ((w1.alloc (AF #[AE t.s,J I t.x,J I t.y] 79)).alloc (AF #[AE t.s,J I t.x,J I t.y] 79))):=(aG).alloc (by simp) _
  have Mt:Hid (((w1.alloc (AF #[AE t.s,J I t.x,J I t.y] 79)).alloc (AF #[AE t.s,J I t.x,J I t.y] 79)).heap[w1.heap.size]?=U (AF #[AE t.s,J I t.x,J I t.y] 79 (0,0))):=sG w1 _ _
  have RG:Hid (((w1.alloc (AF #[AE t.s,J I t.x,J I t.y] 79)).alloc (AF #[AE t.s,J I t.x,J I t.y] 79)).heap[w1.heap.size+1]?=U (AF #[AE t.s,J I t.x,J I t.y] 79 (0,0))):=by
   have h:=aS (w1.alloc (AF #[AE t.s,J I t.x,J I t.y] 79)) (AF #[AE t.s,J I t.x,J I t.y] 79);rw[AS] at h;exact h
  refine(c9 _ (w1.heap.size+1) RG).mono ?_;rintro e w2⟨rfl,aL⟩;have H2:Hid _:=(H1.keep HA).keep aL;have ab:Hid _:=(aL.block _ (Array.getElem?_eq_some_iff.1 Mt).1).trans Mt;obtain⟨⟨d0,d1,d2⟩,⟨f0,f1⟩,z1,z2,z3⟩:=H2.cells;have g0:=H2.out.c1
  cases kb
  .go_wp2_with fail
   refine(bZ num 3 s _).mono ?_;rintro e w3⟨rfl,ay⟩;have H3:Hid (TB w (R ak ks.length ck) (R ap np cp) (R ae ne ce) num s w3):=(H2.out).keep ay;have g2:=H3.out.c3;have ad:kc=3:=HC.out
   go_wp2_with (refine cS (w.heap.size+2) #[R AD 0 0,R AD 0 0,R AD 0 0] g2 ?_)
   exact bv (gp num 3) ⟨bL H3.out.b,.inl ⟨by rw[ad];decide,by rw[ad]⟩⟩ (by simp[results,results109,go_sem,bU g2,gp])
  .go_wp2_with fail
   refine(Ou _ H2.b).mono ?_;rintro e w3⟨rfl,ay⟩;have H3:Hid _:=H2.keep ay;have ax:Hid _:=(ay.block _ (Array.getElem?_eq_some_iff.1 ab).1).trans ab;obtain⟨⟨d0,d1,d2⟩,⟨f0,f1⟩,z1,z2,z3⟩:=H3.cells;have g0:=H3.out.c1
   cases hb
   .have y0:w3.cell? ⟨w1.heap.size,0,AD⟩=U (AE t.s):=by simp[AL,ax.out]
    have y1:w3.cell? ⟨w1.heap.size,1,AD⟩=U (J I t.x):=by simp[AL,ax.out]
    have y2:w3.cell? ⟨w1.heap.size,2,AD⟩=U (J I t.y):=by simp[AL,ax.out]
    have z4:=(Array.getElem?_eq_some_iff.1 ax).1
    by_cases h6:6<=ks.length
    .have c4:(6:Int)<=(ks.length:Int):=by omega
     go_wp2_with fail;refine(bZ num 6 s _).mono ?_;rintro e w9⟨rfl,CV⟩;have H9:Hid _:=(H3).keep CV;have g2:=H9.out.c3
     have ad:kc=6:=HC.out.trans (by rw[decide_eq_true h6];rfl)
     go_wp2_with (refine cS (w.heap.size+2) #[R AD 0 0,R AD 0 0,R AD 0 0] g2 ?_)
     exact bv (gp num 6) ⟨bL H9.b,.inl ⟨by rw[ad];decide,by rw[ad]⟩⟩ (by simp[results,results109,go_sem,bU g2,gp])
    .have c4:¬(6:Int)<=(ks.length:Int):=by omega
     have ad:kc=0:=HC.out.trans (by rw[decide_eq_false h6];rfl)
     go_wp2_with fail
     have fA:Hid (∀w':World,Bw w3 w'->w'.cell? ⟨w.heap.size,0,AD⟩=U (R ak ks.length ck)/\w'.cell? ⟨w1.heap.size,0,AD⟩=U (AE t.s)/\w'.cell? ⟨w1.heap.size,1,AD⟩=U (J I t.x)/\w'.cell? ⟨w1.heap.size,2,AD⟩=U (J I t.y)):=λw' hx=>by
      have h1:=(H3.keep hx).c1;have h2:=(hx.block _ (Array.getElem?_eq_some_iff.1 ax).1).trans ax
      exact⟨by simp[AL,h1],by simp[AL,h2],by simp[AL,h2],by simp[AL,h2]⟩
     have cb:Hid _:=z1;have c6:Hid _:=z3;clear d0 d1 d2 f0 f1 z1 z2 z3 g0;clear y0 y1 y2 z4;refine wp_region_noPanic ?_
     refine bH (S:=λw'=>w'.cell? ⟨w.heap.size,0,AD⟩=U (R ak ks.length ck)/\w'.cell? ⟨w1.heap.size,0,AD⟩=U (AE t.s)/\w'.cell? ⟨w1.heap.size,1,AD⟩=U (J I t.x)/\w'.cell? ⟨w1.heap.size,2,AD⟩=U (J I t.y)) 10 (by kernel_rfl) ?_ (λav=>?_)
     .exact fA _ (Aj _ _).drew
     have gB:Hid (Bw w3 w3.drew):=(Aj _ _).drew;generalize w3.drew=W0 at *;refine oM 0 ?_;refine oM 1 ?_;refine oM 2 ?_;refine oM 4 ?_;refine oM 5 ?_
     simp only[Act.put,aK]
     clear av
     refine bX (rs:=[3,6]) (by kernel_rfl) (by simp) ?_
     refine eB.cons rfl (λK hK=>?_) (eB.cons rfl (λK hK=>?_) eB.nil)
     focus
      go_simp
      refine(uL _ ks _ (HK.keep (aa H3.b gB)) (by omega)).mono ?_
      rintro e W1⟨u,rfl,hu,af⟩;obtain⟨ua,uc,rfl⟩:=dH hu;have ab:Hid _:=aa gB af;have HU:Hid _:=aX hu gB.size;have Mf:Hid _:=cV hu;refine hK _ _ (.inr (fA _ ab)) ?_;clear hK K hu af gB;have gB:=ab;clear ab;refine lV 6 (λK hK=>?_);go_simp;have af:Bw W1 (W1.alloc (AF #[AE t.s,J I t.x,J I t.y] 79)):=(aG);have ab:Hid _:=aa gB af;have HV:Hid ((W1.alloc (AF #[AE t.s,J I t.x,J I t.y] 79)).heap[W1.heap.size]?=U (AF #[AE t.s,J I t.x,J I t.y] 79 (0,0))):=aS W1 _;have cc:Hid _:=aq HU af;have Vh:Hid ((R ua ks.length uc).ownBlock≠U W1.heap.size):=λe=>Nat.lt_irrefl _ (Mf _ e);refine hK _ _ (.inr (fA _ ab)) ?_;clear hK K af gB HU Mf;have gB:=ab;have HU:=cc;clear ab cc;generalize W1.alloc (AF #[AE t.s,J I t.x,J I t.y] 79)=W2 at *;refine lV 7 (λK hK=>?_);go_simp;refine(sD w3.heap.size W1.heap.size (fG ks t.s) _ ks t _ b5 hl gB.size HU Vh HV).mono ?_
     rotate_left
     focus
      go_simp;have af:Bw W0 (W0.alloc (AF #[AE t.s,J I t.x,J I t.y] 79)):=(aG);have ab:Hid _:=aa gB af;have HV:Hid ((W0.alloc (AF #[AE t.s,J I t.x,J I t.y] 79)).heap[W0.heap.size]?=U (AF #[AE t.s,J I t.x,J I t.y] 79 (0,0))):=aS W0 _
      have Mf:Hid (W0.heap.size<(W0.alloc (AF #[AE t.s,J I t.x,J I t.y] 79)).heap.size):=by show _<_;rw[AS];omega
      refine hK _ _ (.inr (fA _ ab)) ?_;clear hK K af gB;have gB:=ab;clear ab;generalize W0.alloc (AF #[AE t.s,J I t.x,J I t.y] 79)=W1 at *;refine lV 3 (λK hK=>?_);go_simp
      refine(uL _ ks _ (HK.keep (aa H3.b gB)) (by omega)).mono ?_
      rintro e W2⟨u,rfl,hu,af⟩;obtain⟨ua,uc,rfl⟩:=dH hu;have ab:Hid _:=aa gB af;have HU:Hid _:=aX hu gB.size
      have Vh:Hid ((R ua ks.length uc).ownBlock≠U W0.heap.size):=λe=>by have:=dY hu _ e;have:=Mf.out;omega
      have RG:Hid (W2.heap[W0.heap.size]?=U (AF #[AE t.s,J I t.x,J I t.y] 79 (0,0))):=(af.block _ Mf.out).trans HV.out;refine hK.out _ _ (.inr (fA.out _ ab.out)) ?_;clear hK K hu af gB HV Mf;have gB:=ab;have HV:=RG;clear ab RG;refine lV 7 (λK hK=>?_);go_simp;refine(sD w3.heap.size W0.heap.size (fG ks t.s) _ ks t _ b5 hl gB.out.size HU.out Vh.out HV.out).mono ?_
     rotate_left
     all_goals
      rintro e W3⟨v6,rfl,O7,b6⟩;obtain⟨va,vc,rfl⟩:=dH O7;have ab:Hid (Bw w3 W3):=gB.out.trans b6;refine hK.out _ _ (.inr (fA.out _ ab.out)) ?_;clear hK K gB HU HV Vh b6;have gB:=ab;clear ab;refine lV 8 (λK hK=>?_);go_simp;refine hK.out _ _ (.inr (fA.out _ gB.out)) ?_;clear hK K;refine lV 9 (λK hK=>?_);go_simp;refine hK.out _ _ (.inr (fA.out _ gB.out)) ?_;clear hK K;refine lV 10 (λK hK=>?_);have H6:Hid (TB w (R ak ks.length ck) (R ap np cp) (R ae ne ce) num s W3):=H3.out.keep gB.out;have lz:W3.cell? ⟨w.heap.size,0,AD⟩=U (R ak ks.length ck):=(fA.out _ gB.out).1
      have lf:W3.frozen? ⟨w.heap.size,0,AD⟩=false:=by simp[World.frozen?,H6.out.c1]
      have H7:=ag (H6.out.set0 (R va (ks.length+1) vc))
      have c7:=ag (aX (aj O7 (bD W3 w.heap.size 0 (R va (ks.length+1) vc)) (λq hq e=>by have:=dY O7 q hq;have:=cb.out;injection e;omega)) (Nat.le_of_lt cb.out))
      have HQ:Hid (∀k,(R va (ks.length+1) vc).ownBlock=U k->w.heap.size+2<k):=λk hq=>by have:=dY O7 k hq;have:=c6.out;omega
      go_simp;refine hK.out _ _ (.inl rfl) ?_;clear hK K lz lf O7 gB H6
      refine cm (by kernel_rfl) ?_ _
      refine NoPanic.normal ?_;generalize W3.setCell ⟨w.heap.size,0,AD⟩ (R va (ks.length+1) vc)=W4 at *;obtain⟨⟨d0,d1,d2⟩,⟨f0,f1⟩,z1,z2,z3⟩:=H7.out.cells;have g2:=H7.out.c3
      go_wp2_with (refine wpList_store_row rfl 41 _ _ rfl (w.heap.size+2) #[R va (ks.length+1) vc,R ap np cp,R ae ne ce] rfl rfl 41 _ g2 (by kernel_rfl) rfl (by simp[AM]) ?_)
      exact bv (AI #[AG #[R va (ks.length+1) vc,R ap np cp,R ae ne ce],.nilIface]) ⟨bL H7.out.b,.inr ⟨ad,_,rfl,aj c7.out (aH W4 (w.heap.size+2) _) (λq hq e=>by have:=HQ.out q hq;injection e;omega)⟩⟩ (by simp[results,results109,go_sem,bU g2])
   .go_wp2_with fail
    refine(bZ num 4 s _).mono ?_;rintro e w4⟨rfl,bn⟩;have H4:Hid (TB w (R ak ks.length ck) (R ap np cp) (R ae ne ce) num s w4):=(H3.out).keep bn;have g2:=H4.out.c3;have ad:kc=4:=HC.out
    go_wp2_with (refine cS (w.heap.size+2) #[R AD 0 0,R AD 0 0,R AD 0 0] g2 ?_)
    exact bv (gp num 4) ⟨bL H4.out.b,.inl ⟨by rw[ad];decide,by rw[ad]⟩⟩ (by simp[results,results109,go_sem,bU g2,gp])
theorem Ea(num:Int)(s:ByteArray)(v:Value)(ap ae:Option Addr)(np cp ne ce:Nat)(ks:List dE)(w:World)(hk:dF w v ks)(hs:s.size<=1048576)(hl:ks.length<=1000) :
 Calls prog 110 #[AG #[R ap np cp,v,R ae ne ce],AG #[J I num,AE s]] w λe w'=>Bw w w' /\
 ((gD ks (dA s)≠0/\e=AH (gp num (gD ks (dA s))))\/(gD ks (dA s)=0/\∃u,e=AH (AI #[AG #[R ap np cp,u,R ae ne ce],.nilIface])/\w'.ownsRow w.heap.size 101 3 u (ks.length+1) (dw (gI ks (fG ks (fT (dA s)).s) (fT (dA s)))))):=by
 have cf:∀i,i<(dA s).length->(dC (dA s) i).size<=1048576:=λi hi=>Nat.le_trans (dh hi) hs;obtain⟨t,ok,hR,du,cx,bb,bP⟩:=Cm (dA s) wM (λx=>rfl) 1048576 cf
 have Rp:Hid (∀wx:World,Rb 137 #[AG #[J I num,AE s]] wx (AI #[AE t.s,J I t.x,J I t.y,AJ ok])):=λwx=>by
  have h:=Fz num s wx hs;rw[hR] at h;exact h
 have HC:Hid (gD ks (dA s)=bif ok&&dI [t] then(bif hasB ks t.s then 4 else bif iy ks t then 5 else bif decide (16<=ks.length) then 6 else 0) else 3):=by
  show _=_
  unfold gD;rw[<-bb]
  cases ok
  .rfl
  .rw [bP rfl]
 have HT:Hid (ok=true->fT (dA s)=t):=λh=>(bP h).symm;generalize gD ks (dA s)=kc at *;generalize fT (dA s)=tt at *;clear cx bb bP hR cf;have HK:=ag hk;obtain⟨ak,ck,rfl,dv,ba,-⟩:=hk;unfold maxLen at ba
 have c9:Hid (∀(wx:World) (vb:Nat),wx.heap[vb]?=U (AF #[AE t.s,J I t.x,J I t.y] 101 (0,0))->Rb 143 #[R (U ⟨vb,0,AD⟩) 1 1] wx (AJ (dI [t]))):=λwx vb hv=>wB _ [t] wx (OT hv) (λx hx=>by simp at hx;subst hx;unfold maxLen;omega)
 have Ou:Hid (∀wx:World,Bw w wx->Rb 133 #[R ak ks.length ck,AE t.s,.func (.func 134) #[] #[]] wx (AI #[J I (fG ks t.s:Nat),AJ (hasB ks t.s)])):=λwx hx=>dn _ ks t.s wx (HK.out.keep hx)
 have Mi:Hid (∀wx:World,Bw w wx->Rb 144 #[R ak ks.length ck,AG #[AE t.s,J I t.x,J I t.y]] wx (AJ (iy ks t))):=λwx hx=>by
  rw[<-Rl];exact oK _ ks t wx (HK.out.keep hx)
 generalize iy ks t=tb at *;generalize dI [t]=kb at *;generalize hhb:hasB ks t.s=hb at *;clear hhb;have b5:=G9 ks t.s
 go_enter func110,ntmps110
 go_wp2_with fail;refine(Rp.out _).mono ?_;rintro e w1⟨rfl,cl⟩;have H1:Hid (TB w (R ap np cp) (R ak ks.length ck) (R ae ne ce) num s w1):=TB.start cl;clear cl;obtain⟨⟨d0,d1,d2⟩,⟨f0,f1⟩,z1,z2,z3⟩:=H1.out.cells;have g0:=H1.out.c1
 cases ok
 .go_wp2_with fail
  refine(bZ num 3 s _).mono ?_;rintro e w2⟨rfl,aL⟩;have H2:Hid (TB w (R ap np cp) (R ak ks.length ck) (R ae ne ce) num s w2):=(H1.out.keep (aG)).keep aL;have g2:=H2.out.c3;have ad:kc=3:=HC.out
  go_wp2_with (refine wpList_store_row rfl 41 _ _ rfl (w.heap.size+2) #[R AD 0 0,R AD 0 0,R AD 0 0] rfl rfl 41 _ g2 (by kernel_rfl) rfl (by simp[AM]) ?_)
  exact bv (gp num 3) ⟨bL H2.out.b,.inl ⟨by rw[ad];decide,by rw[ad]⟩⟩ (by simp[results,results110,go_sem,bU g2,gp])
 .have hT:t=tt:=(HT.out rfl).symm
  subst hT;go_wp2_with fail
  have HA:Hid (Bw w1 ((w1.alloc (AF #[AE t.s,J I t.x,J I t.y] 101)).alloc (AF #[AE t.s,J I t.x,J I t.y] 101))):=(aG).alloc (by simp) _
  have Mt:Hid (((w1.alloc (AF #[AE t.s,J I t.x,J I t.y] 101)).alloc (AF #[AE t.s,J I t.x,J I t.y] 101)).heap[w1.heap.size]?=U (AF #[AE t.s,J I t.x,J I t.y] 101 (0,0))):=sG w1 _ _
  have RG:Hid (((w1.alloc (AF #[AE t.s,J I t.x,J I t.y] 101)).alloc (AF #[AE t.s,J I t.x,J I t.y] 101)).heap[w1.heap.size+1]?=U (AF #[AE t.s,J I t.x,J I t.y] 101 (0,0))):=by
   have h:=aS (w1.alloc (AF #[AE t.s,J I t.x,J I t.y] 101)) (AF #[AE t.s,J I t.x,J I t.y] 101);rw[AS] at h;exact h
  refine(c9.out _ (w1.heap.size+1) RG.out).mono ?_;rintro e w2⟨rfl,aL⟩;have H2:Hid (TB w (R ap np cp) (R ak ks.length ck) (R ae ne ce) num s w2):=(H1.out.keep HA.out).keep aL;have ab:Hid (w2.heap[w1.heap.size]?=U (AF #[AE t.s,J I t.x,J I t.y] 101 (0,0))):=(aL.block _ (Array.getElem?_eq_some_iff.1 Mt.out).1).trans Mt.out;clear aL HA Mt RG H1;clear d0 d1 d2 f0 f1 z1 z2 z3 g0;obtain⟨⟨d0,d1,d2⟩,⟨f0,f1⟩,z1,z2,z3⟩:=H2.out.cells;have g0:=H2.out.c1
  cases kb
  .go_wp2_with fail
   refine(bZ num 3 s _).mono ?_;rintro e w3⟨rfl,ay⟩;have H3:Hid (TB w (R ap np cp) (R ak ks.length ck) (R ae ne ce) num s w3):=(H2.out).keep ay;have g2:=H3.out.c3;have ad:kc=3:=HC.out
   go_wp2_with (refine wpList_store_row rfl 41 _ _ rfl (w.heap.size+2) #[R AD 0 0,R AD 0 0,R AD 0 0] rfl rfl 41 _ g2 (by kernel_rfl) rfl (by simp[AM]) ?_)
   exact bv (gp num 3) ⟨bL H3.out.b,.inl ⟨by rw[ad];decide,by rw[ad]⟩⟩ (by simp[results,results110,go_sem,bU g2,gp])
  .go_wp2_with fail
   refine(Ou.out _ H2.out.b).mono ?_;rintro e w3⟨rfl,ay⟩;have H3:Hid (TB w (R ap np cp) (R ak ks.length ck) (R ae ne ce) num s w3):=H2.out.keep ay;have ax:Hid (w3.heap[w1.heap.size]?=U (AF #[AE t.s,J I t.x,J I t.y] 101 (0,0))):=(ay.block _ (Array.getElem?_eq_some_iff.1 ab.out).1).trans ab.out;clear ay ab H2;clear d0 d1 d2 f0 f1 z1 z2 z3 g0;obtain⟨⟨d0,d1,d2⟩,⟨f0,f1⟩,z1,z2,z3⟩:=H3.out.cells;have g0:=H3.out.c1
   cases hb
   .have y0:w3.cell? ⟨w1.heap.size,0,AD⟩=U (AE t.s):=by simp[AL,ax.out]
    have y1:w3.cell? ⟨w1.heap.size,1,AD⟩=U (J I t.x):=by simp[AL,ax.out]
    have y2:w3.cell? ⟨w1.heap.size,2,AD⟩=U (J I t.y):=by simp[AL,ax.out]
    have z4:w1.heap.size<w3.heap.size:=(Array.getElem?_eq_some_iff.1 ax.out).1;go_wp2_with fail;refine(Mi.out _ H3.out.b).mono ?_;rintro e w4⟨rfl,bn⟩;have H4:Hid (TB w (R ap np cp) (R ak ks.length ck) (R ae ne ce) num s w4):=H3.out.keep bn;have ds:Hid (w4.heap[w1.heap.size]?=U (AF #[AE t.s,J I t.x,J I t.y] 101 (0,0))):=(bn.block _ (Array.getElem?_eq_some_iff.1 ax.out).1).trans ax.out;clear bn ax H3 y0 y1 y2 z4;clear d0 d1 d2 f0 f1 z1 z2 z3 g0;obtain⟨⟨d0,d1,d2⟩,⟨f0,f1⟩,z1,z2,z3⟩:=H4.out.cells;have g0:=H4.out.c1
    cases tb
    .skip
     by_cases h6:16<=ks.length
     .have c4:(16:Int)<=(ks.length:Int):=by omega
      go_wp2_with fail;refine(bZ num 6 s _).mono ?_;rintro e w9⟨rfl,CV⟩;have H9:Hid (TB w (R ap np cp) (R ak ks.length ck) (R ae ne ce) num s w9):=(H4.out).keep CV;have g2:=H9.out.c3
      have ad:kc=6:=HC.out.trans (by rw[decide_eq_true h6];rfl)
      go_wp2_with (refine wpList_store_row rfl 41 _ _ rfl (w.heap.size+2) #[R AD 0 0,R AD 0 0,R AD 0 0] rfl rfl 41 _ g2 (by kernel_rfl) rfl (by simp[AM]) ?_)
      exact bv (gp num 6) ⟨bL H9.out.b,.inl ⟨by rw[ad];decide,by rw[ad]⟩⟩ (by simp[results,results110,go_sem,bU g2,gp])
     .have c4:¬(16:Int)<=(ks.length:Int):=by omega
      have ad:kc=0:=HC.out.trans (by rw[decide_eq_false h6];rfl)
      go_wp2_with fail
      have fA:Hid (∀w':World,Bw w4 w'->w'.cell? ⟨w.heap.size,1,AD⟩=U (R ak ks.length ck)/\w'.cell? ⟨w1.heap.size,0,AD⟩=U (AE t.s)/\w'.cell? ⟨w1.heap.size,1,AD⟩=U (J I t.x)/\w'.cell? ⟨w1.heap.size,2,AD⟩=U (J I t.y)):=λw' hx=>by
       have h1:=(H4.out.keep hx).c1;have h2:=(hx.block _ (Array.getElem?_eq_some_iff.1 ds.out).1).trans ds.out
       exact⟨by simp[AL,h1],by simp[AL,h2],by simp[AL,h2],by simp[AL,h2]⟩
      have cb:Hid (w.heap.size<w4.heap.size):=z1;have c6:Hid (w.heap.size+2<w4.heap.size):=z3;clear d0 d1 d2 f0 f1 z1 z2 z3 g0;refine wp_region_noPanic ?_
      refine bH (S:=λw'=>w'.cell? ⟨w.heap.size,1,AD⟩=U (R ak ks.length ck)/\w'.cell? ⟨w1.heap.size,0,AD⟩=U (AE t.s)/\w'.cell? ⟨w1.heap.size,1,AD⟩=U (J I t.x)/\w'.cell? ⟨w1.heap.size,2,AD⟩=U (J I t.y)) 10 (by kernel_rfl) ?_ (λav=>?_)
      .exact fA.out _ (Aj _ _).drew
      have gB:Hid (Bw w4 w4.drew):=(Aj _ _).drew;generalize w4.drew=W0 at *;refine lq 0 ?_ rfl ?_ (lq 1 ?_ rfl ?_ (lq 2 ?_ rfl ?_ (lq 4 ?_ rfl ?_ (lq 5 ?_ rfl ?_ ?_))))
      iterate 5(rotate_left;focus(intro w ec;(try dsimp only at ec);simp only[Act.put,aK];go_simp;try with_reducible rfl))
      simp only[Act.put,aK]
      clear av
      refine bX (rs:=[3,6]) (by kernel_rfl) (by simp) ?_
      refine eB.cons rfl (λK hK=>?_) (eB.cons rfl (λK hK=>?_) eB.nil)
      focus
       go_simp
       refine(sN _ ks _ (HK.out.keep (aa H4.out.b gB.out)) (by omega)).mono ?_
       rintro e W1⟨u,rfl,hu,af⟩;obtain⟨ua,uc,rfl⟩:=dH hu;have ab:Hid (Bw w4 W1):=aa gB.out af;have HU:Hid (W1.ownsRow w4.heap.size 101 3 (R ua ks.length uc) ks.length (dw ks)):=aX hu gB.out.size;have Mf:Hid (∀k,(R ua ks.length uc).ownBlock=U k->k<W1.heap.size):=cV hu;refine hK.out _ _ (.inr (fA.out _ ab.out)) ?_;clear hK K hu af gB;have gB:=ab;clear ab;refine lV 6 (λK hK=>?_);go_simp;have af:Bw W1 (W1.alloc (AF #[AE t.s,J I t.x,J I t.y] 101)):=(aG);have ab:Hid (Bw w4 (W1.alloc (AF #[AE t.s,J I t.x,J I t.y] 101))):=aa gB.out af;have HV:Hid ((W1.alloc (AF #[AE t.s,J I t.x,J I t.y] 101)).heap[W1.heap.size]?=U (AF #[AE t.s,J I t.x,J I t.y] 101 (0,0))):=aS W1 _;have cc:Hid ((W1.alloc (AF #[AE t.s,J I t.x,J I t.y] 101)).ownsRow w4.heap.size 101 3 (R ua ks.length uc) ks.length (dw ks)):=aq HU.out af;have Vh:Hid ((R ua ks.length uc).ownBlock≠U W1.heap.size):=λe=>Nat.lt_irrefl _ (Mf.out _ e);refine hK.out _ _ (.inr (fA.out _ ab.out)) ?_;clear hK K af gB HU Mf;have gB:=ab;have HU:=cc;clear ab cc;generalize W1.alloc (AF #[AE t.s,J I t.x,J I t.y] 101)=W2 at *;refine lV 7 (λK hK=>?_);go_simp;refine(qR w4.heap.size W1.heap.size (fG ks t.s) _ ks t _ b5 hl gB.out.size HU.out Vh.out HV.out).mono ?_
      rotate_left
      focus
       go_simp;have af:Bw W0 (W0.alloc (AF #[AE t.s,J I t.x,J I t.y] 101)):=(aG);have ab:Hid (Bw w4 (W0.alloc (AF #[AE t.s,J I t.x,J I t.y] 101))):=aa gB.out af;have HV:Hid ((W0.alloc (AF #[AE t.s,J I t.x,J I t.y] 101)).heap[W0.heap.size]?=U (AF #[AE t.s,J I t.x,J I t.y] 101 (0,0))):=aS W0 _
       have Mf:Hid (W0.heap.size<(W0.alloc (AF #[AE t.s,J I t.x,J I t.y] 101)).heap.size):=by show _<_;rw[AS];omega
       refine hK.out _ _ (.inr (fA.out _ ab.out)) ?_;clear hK K af gB;have gB:=ab;clear ab;generalize W0.alloc (AF #[AE t.s,J I t.x,J I t.y] 101)=W1 at *;refine lV 3 (λK hK=>?_);go_simp
       refine(sN _ ks _ (HK.out.keep (aa H4.out.b gB.out)) (by omega)).mono ?_
       rintro e W2⟨u,rfl,hu,af⟩;obtain⟨ua,uc,rfl⟩:=dH hu;have ab:Hid (Bw w4 W2):=aa gB.out af;have HU:Hid (W2.ownsRow w4.heap.size 101 3 (R ua ks.length uc) ks.length (dw ks)):=aX hu gB.out.size
       have Vh:Hid ((R ua ks.length uc).ownBlock≠U W0.heap.size):=λe=>by have:=dY hu _ e;have:=Mf.out;omega
       have RG:Hid (W2.heap[W0.heap.size]?=U (AF #[AE t.s,J I t.x,J I t.y] 101 (0,0))):=(af.block _ Mf.out).trans HV.out;refine hK.out _ _ (.inr (fA.out _ ab.out)) ?_;clear hK K hu af gB HV Mf;have gB:=ab;have HV:=RG;clear ab RG;refine lV 7 (λK hK=>?_);go_simp;refine(qR w4.heap.size W0.heap.size (fG ks t.s) _ ks t _ b5 hl gB.out.size HU.out Vh.out HV.out).mono ?_
      rotate_left
      all_goals
       rintro e W3⟨v6,rfl,O7,b6⟩;obtain⟨va,vc,rfl⟩:=dH O7;have ab:Hid (Bw w4 W3):=gB.out.trans b6;refine hK.out _ _ (.inr (fA.out _ ab.out)) ?_;clear hK K gB HU HV Vh b6;have gB:=ab;clear ab;refine lV 8 (λK hK=>?_);go_simp;refine hK.out _ _ (.inr (fA.out _ gB.out)) ?_;clear hK K;refine lV 9 (λK hK=>?_);go_simp;refine hK.out _ _ (.inr (fA.out _ gB.out)) ?_;clear hK K;refine lV 10 (λK hK=>?_);have H6:Hid (TB w (R ap np cp) (R ak ks.length ck) (R ae ne ce) num s W3):=H4.out.keep gB.out;have lz:W3.cell? ⟨w.heap.size,1,AD⟩=U (R ak ks.length ck):=(fA.out _ gB.out).1
       have lf:W3.frozen? ⟨w.heap.size,1,AD⟩=false:=by simp[World.frozen?,H6.out.c1]
       have H7:=ag (H6.out.set1 (R va (ks.length+1) vc))
       have c7:=ag (aX (aj O7 (bD W3 w.heap.size 1 (R va (ks.length+1) vc)) (λq hq e=>by have:=dY O7 q hq;have:=cb.out;injection e;omega)) (Nat.le_of_lt cb.out))
       have HQ:Hid (∀k,(R va (ks.length+1) vc).ownBlock=U k->w.heap.size+2<k):=λk hq=>by have:=dY O7 k hq;have:=c6.out;omega
       go_simp;refine hK.out _ _ (.inl rfl) ?_;clear hK K lz lf O7 gB H6
       refine cm (by kernel_rfl) ?_ _
       refine NoPanic.normal ?_;generalize W3.setCell ⟨w.heap.size,1,AD⟩ (R va (ks.length+1) vc)=W4 at *;obtain⟨⟨d0,d1,d2⟩,⟨f0,f1⟩,z1,z2,z3⟩:=H7.out.cells;have g0:=H7.out.c1;have g2:=H7.out.c3
       go_wp2_with (refine wpList_store_row rfl 41 _ _ rfl (w.heap.size+2) #[R ap np cp,R va (ks.length+1) vc,R ae ne ce] rfl rfl 41 _ g2 (by kernel_rfl) rfl (by simp[AM]) ?_)
       exact bv (AI #[AG #[R ap np cp,R va (ks.length+1) vc,R ae ne ce],.nilIface]) ⟨bL H7.out.b,.inr ⟨ad,_,rfl,aj c7.out (aH W4 (w.heap.size+2) _) (λq hq e=>by have:=HQ.out q hq;injection e;omega)⟩⟩ (by simp[results,results110,go_sem,bU g2])
    .go_wp2_with fail
     refine(bZ num 5 s _).mono ?_;rintro e w9⟨rfl,CV⟩;have H9:Hid (TB w (R ap np cp) (R ak ks.length ck) (R ae ne ce) num s w9):=(H4.out).keep CV;have g2:=H9.out.c3;have ad:kc=5:=HC.out
     go_wp2_with (refine wpList_store_row rfl 41 _ _ rfl (w.heap.size+2) #[R AD 0 0,R AD 0 0,R AD 0 0] rfl rfl 41 _ g2 (by kernel_rfl) rfl (by simp[AM]) ?_)
     exact bv (gp num 5) ⟨bL H9.out.b,.inl ⟨by rw[ad];decide,by rw[ad]⟩⟩ (by simp[results,results110,go_sem,bU g2,gp])
   .go_wp2_with fail
    refine(bZ num 4 s _).mono ?_;rintro e w4⟨rfl,bn⟩;have H4:Hid (TB w (R ap np cp) (R ak ks.length ck) (R ae ne ce) num s w4):=(H3.out).keep bn;have g2:=H4.out.c3;have ad:kc=4:=HC.out
    go_wp2_with (refine wpList_store_row rfl 41 _ _ rfl (w.heap.size+2) #[R AD 0 0,R AD 0 0,R AD 0 0] rfl rfl 41 _ g2 (by kernel_rfl) rfl (by simp[AM]) ?_)
    exact bv (gp num 4) ⟨bL H4.out.b,.inl ⟨by rw[ad];decide,by rw[ad]⟩⟩ (by simp[results,results110,go_sem,bU g2,gp])
end Go.Proofs.YtolokangldmodaaGreatDoor.Tx
