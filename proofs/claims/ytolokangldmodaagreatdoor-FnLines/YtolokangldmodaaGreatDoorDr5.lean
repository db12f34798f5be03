import Derived.Test.YtolokangldmodaaGreatDoorWr
import Derived.Test.YtolokangldmodaaGreatDoorDr7
set_option maxRecDepth 100000
set_option maxHeartbeats 6400000
set_option linter.unusedSimpArgs false
set_option linter.unusedVariables false
open Go.Value renaming int->J,string->I,slice->AF
open Go.Obj renaming cells->AD
open Option renaming some->AE
open Go.IntKind renaming i64->U
namespace Go.Proofs.YtolokangldmodaaGreatDoor.Dr
open Go.RowKit
def flL:List ByteArray:=[⟨#[107,108,49]⟩,⟨#[107,108,49]⟩,⟨#[107,108,49]⟩,⟨#[98,97,45,50]⟩,⟨#[98,97,45,50]⟩,⟨#[108,104,51]⟩,⟨#[120]⟩]
theorem fl_size:∀s∈flL,s.size<=100:=by decide
theorem wu{w:World}{b o:Nat}{cs:Array Value}{x:Value}{t:TypeId}(h:w.heap[b]?=AE (AD cs t (0,0))):(w.setCell ⟨b,o,none⟩ x).heap[b]?=AE (AD (cs.setIfInBounds o x) t (0,0)):=by
 have ao:=bf h
 have h':w.heap[b]=AD cs t (0,0):=by simpa[Array.getElem?_eq_getElem ao] using h
 show(w.heap.modify b _)[b]?=_
 rw[Array.getElem?_eq_getElem (by simpa using ao),Array.getElem_modify_self,h']
 rfl
theorem Ib(R p:Nat)(vk vp:Value)(ps:List dE)(w:World)(h:Rd w R p)(hp:p<=800000)(hv:dF w vp ps)(hps:1<=ps.length/\ps.length<=1000)(hn:∀t∈ps,t.s.size<=100) :
  Calls Tryz.prog 70 #[.pointer (AE ⟨R,0,none⟩),.agg #[vk,vp]] w λe w'=>∃(f:ByteArray) (wh num:Int) (s:ByteArray),e=.returned (.agg #[I f,J U wh,J U num,I s])/\f.size<=100/\s.size<=2000/\(1<=wh/\wh<=5)/\(1<=num/\num<=12)/\Out w R p 40 w':=by
 have jd:=h.lt;have cp:Hid _:=hn;have ck:Hid (dF w vp ps):=hv;obtain⟨va,vc,rfl,hvl,Uc,-⟩:=hv;unfold maxLen at Uc;obtain⟨ai,af⟩:=hps
 have HB:Hid (Bw w ((w.alloc (AD #[vk,AF va ps.length vc] 38)).alloc (AD #[I ⟨#[]⟩,J U 0,J U 0,I ⟨#[]⟩] 94))):=(aG).alloc (by simp) _
 have av:Hid _:=h.far HB
 have oO:Hid (((w.alloc (AD #[vk,AF va ps.length vc] 38)).alloc (AD #[I ⟨#[]⟩,J U 0,J U 0,I ⟨#[]⟩] 94)).heap[w.heap.size]?=AE (AD #[vk,AF va ps.length vc] 38 (0,0))):=by
  show _=_
  rw[(((aG):Bw (w.alloc (AD #[vk,AF va ps.length vc] 38)) ((w.alloc (AD #[vk,AF va ps.length vc] 38)).alloc (AD #[I ⟨#[]⟩,J U 0,J U 0,I ⟨#[]⟩] 94)))).block _ (by simp)]
  exact aO w _
 have oq:Hid (((w.alloc (AD #[vk,AF va ps.length vc] 38)).alloc (AD #[I ⟨#[]⟩,J U 0,J U 0,I ⟨#[]⟩] 94)).heap[w.heap.size+1]?=AE (AD #[I ⟨#[]⟩,J U 0,J U 0,I ⟨#[]⟩] 94 (0,0))):=by
  have h:=aO (w.alloc (AD #[vk,AF va ps.length vc] 38)) (AD #[I ⟨#[]⟩,J U 0,J U 0,I ⟨#[]⟩] 94)
  rw[show(w.alloc (AD #[vk,AF va ps.length vc] 38)).heap.size=w.heap.size+1 by simp] at h
  exact h
 have cc:Hid (((w.alloc (AD #[vk,AF va ps.length vc] 38)).alloc (AD #[I ⟨#[]⟩,J U 0,J U 0,I ⟨#[]⟩] 94)).heap.size=w.heap.size+2):=by show _=_;simp
 have cg:Hid (dF ((w.alloc (AD #[vk,AF va ps.length vc] 38)).alloc (AD #[I ⟨#[]⟩,J U 0,J U 0,I ⟨#[]⟩] 94)) (AF va ps.length vc) ps):=ck.out.keep HB.out
 go_enter Tryz.func70,Tryz.ntmps70
 go_wp2_with fail;generalize(w.alloc _).alloc _=w1 at *
 have Mv:Hid (∀wx:World,w1.grownBy wx (AE R)->wx.cell? ⟨w.heap.size,0,none⟩=AE vk/\wx.cell? ⟨w.heap.size,1,none⟩=AE (AF va ps.length vc)):=λwx hg=>⟨aD (br hg (by omega) oO) rfl,aD (br hg (by omega) oO) rfl⟩
 have cl:Hid (∀wx:World,w1.grownBy wx (AE R)->wx.heap[w.heap.size+1]?=AE (AD #[I ⟨#[]⟩,J U 0,J U 0,I ⟨#[]⟩] 94 (0,0))):=λwx hg=>br hg (by omega) oq
 have cf:Hid (∀wx:World,w1.grownBy wx (AE R)->dF wx (AF va ps.length vc) ps):=λwx hg=>cZ cg av hg
 have ca:Hid (∀wx:World,w1.grownBy wx (AE R)->w.heap.size+2<=wx.heap.size):=λwx hg=>by have:=hg.size;have:=cc.out;omega
 refine(aJ R p 5 _ av (by omega) (by omega)).mono ?_
 rintro e w2⟨x,rfl,hx0,an,-,bb,b4⟩
 have an:=an (by omega)
 have R2:Hid (Rd w2 R (p+1)/\w1.grownBy w2 (AE R)):=⟨bb,b4⟩
 by_cases h5:x=4
 focus
  subst h5;go_wp2_with fail
  refine(aJ R (p+1) 2 _ R2.1 (by omega) (by omega)).mono ?_
  rintro e w3⟨y,rfl,hy0,hy1,-,ba,b3⟩;have R3:Hid (Rd w3 R (p+1+1)/\w1.grownBy w3 (AE R)):=⟨ba,dK R2.2 b3⟩;obtain⟨q,hq⟩:∃q:Nat,p+1+1=q:=⟨_,rfl⟩
  by_cases hy:y=0
  focus
   have ay:(y==0)=true:=by simp[hy]
   obtain⟨wh,ae⟩:∃n:Int,4=n:=⟨_,rfl⟩
  rotate_left
  focus
   have ay:(y==0)=false:=by simp[hy]
   obtain⟨wh,ae⟩:∃n:Int,5=n:=⟨_,rfl⟩
  rotate_left
  all_goals clear hy
 rotate_left 2
 focus
  have h5b:((1+x)==5)=false:=by simp;omega
  have h5c:¬1+x=5:=by omega
  obtain⟨q,hq⟩:∃q:Nat,p+1=q:=⟨_,rfl⟩;obtain⟨wh,ae⟩:∃n:Int,1+x=n:=⟨_,rfl⟩;have R3:=R2;generalize w2=w3 at *
 rotate_left
 all_goals
  rw[hq] at R3
  have hwb:1<=wh/\wh<=5:=by omega
  have Mq:p<=q/\q<=p+2:=by omega
  have HK:Hid (Bw w3 (w3.alloc (AD #[I ⟨#[107,108,49]⟩,I ⟨#[107,108,49]⟩,I ⟨#[107,108,49]⟩,I ⟨#[98,97,45,50]⟩,I ⟨#[98,97,45,50]⟩,I ⟨#[108,104,51]⟩,I ⟨#[120]⟩] 9))):=(aG)
  have HS:Hid (dR (w3.alloc (AD #[I ⟨#[107,108,49]⟩,I ⟨#[107,108,49]⟩,I ⟨#[107,108,49]⟩,I ⟨#[98,97,45,50]⟩,I ⟨#[98,97,45,50]⟩,I ⟨#[108,104,51]⟩,I ⟨#[120]⟩] 9)) (AF (AE ⟨w3.heap.size,0,none⟩) 7 7) flL):=tF flL (aO w3 _) rfl (by decide)
  have HO:=dx (yt R q _ flL _ (R3.1.far HK) (by omega) HS (by decide))
  go_wp2_with fail
  try rw[ae]
  refine HO.mono ?_;rintro e w4⟨f,rfl,hf,aT,bY⟩;have hfs:=fl_size f hf;have R4:Hid (Rd w4 R (q+1)/\w1.grownBy w4 (AE R)):=⟨aT,dK R3.2 (dK (grown_of HK _) bY)⟩;go_wp2_with fail
  refine(aJ R (q+1) 12 _ R4.1 (by omega) (by omega)).mono ?_
  rintro e w5⟨z,rfl,hz0,ak,-,Aw,bV⟩
  have ak:=ak (by omega)
  have R5:Hid (Rd w5 R (q+1+1)/\w1.grownBy w5 (AE R)):=⟨Aw,dK R4.2 bV⟩;have B6:Hid (Bw w5 (w5.alloc (AD #[I f,J U wh,J U (1+z),I ⟨#[]⟩] 94))):=(aG);have X6:Hid ((w5.alloc (AD #[I f,J U wh,J U (1+z),I ⟨#[]⟩] 94)).heap[w5.heap.size]?=AE (AD #[I f,J U wh,J U (1+z),I ⟨#[]⟩] 94 (0,0))):=aO w5 _;have R6:Hid (Rd (w5.alloc (AD #[I f,J U wh,J U (1+z),I ⟨#[]⟩] 94)) R (q+1+1)/\w1.grownBy (w5.alloc (AD #[I f,J U wh,J U (1+z),I ⟨#[]⟩] 94)) (AE R)):=⟨R5.1.far B6,dK R5.2 (grown_of B6 _)⟩;have b5:=R5.out.1.lt;have cb:=dx (ca _ R5.2);have b0:=(Mv _ R6.2).1;have b1:=(Mv _ R6.2).2;have b6:=(Mv _ R5.2).1;have b1':=(Mv _ R5.2).2;have zb:=am b6;go_wp2_with fail;generalize w5.alloc _=w6 at *
  refine(zL R (q+1+1) vk _ ps wh _ R6.1 (by omega) (cf _ R6.2) ⟨ai,af⟩ cp).mono ?_
  rintro e w7⟨s,rfl,hs,p7,bP,bn,Mo,Ew⟩
  have X7:Hid _:=br Ew (by omega) X6
  have R7:Hid (Rd w7 R p7/\w1.grownBy w7 (AE R)):=⟨Mo,dK R6.2 Ew⟩;have ad:=X7.out;have lz:=aD ad (i:=3) rfl
  have OZ:w7.frozen? ⟨w5.heap.size,3,none⟩=false:=by simp[World.frozen?,ad]
  have X8:Hid ((w7.setCell ⟨w5.heap.size,3,none⟩ (I s)).heap[w5.heap.size]?=AE (AD #[I f,J U wh,J U (1+z),I s] 94 (0,0))):=wu ad;have ax:Hid (∀b,b≠w5.heap.size->(w7.setCell ⟨w5.heap.size,3,none⟩ (I s)).heap[b]?=w7.heap[b]?):=λb hb=>Below.heap_setCell w7 ⟨w5.heap.size,3,none⟩ (I s) b hb
  have HZ8:Hid (w7.heap.size<=(w7.setCell ⟨w5.heap.size,3,none⟩ (I s)).heap.size):=by show _<=_;simp
  have G8:Hid (w7.grownBy (w7.setCell ⟨w5.heap.size,3,none⟩ (I s)) (AE w5.heap.size)):=mZ w7 _ 3 _;have ab:=X8.out;have e0:=aD ab (i:=0) rfl;have e1:=aD ab (i:=1) rfl;have e2:=aD ab (i:=2) rfl;have e3:=aD ab (i:=3) rfl;have aL:=cb.out
  have au:=(ax _ (by omega)).trans (cl _ R7.2)
  have tu:Hid (Out w R p 40 ((w7.setCell ⟨w5.heap.size,3,none⟩ (I s)).setRow (w.heap.size+1) #[I f,J U wh,J U (1+z),I s])):=by
   refine⟨p7,by omega,by omega,(R7.1.late (λj hj=>ax j (by omega))).late (λj hj=>ni (by omega)),lN (nJ (dK (grown_of HB _) R7.2) 3 _ (by omega)) _ (by omega)⟩
  go_wp2_with (refine cS (w.heap.size+1) #[I f,J U wh,J U (1+z),I s] au ?_)
  exact bv (.agg #[I f,J U wh,J U (1+z),I s]) ⟨f,wh,1+z,s,rfl,by omega,by omega,by omega,by omega,tu⟩ (by simp[results,Tryz.results70,go_sem,bU au])
open Go.RowKit
end Go.Proofs.YtolokangldmodaaGreatDoor.Dr
