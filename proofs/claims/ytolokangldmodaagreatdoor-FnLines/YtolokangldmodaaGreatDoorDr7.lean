import Derived.Lib.ItoaMem
import Derived.Test.YtolokangldmodaaGreatDoorSame
set_option maxRecDepth 100000
set_option maxHeartbeats 6400000
set_option linter.unusedSimpArgs false
set_option linter.unusedVariables false
open Go.Value renaming string->J,slice->j
open Go.Obj renaming cells->U
open Option renaming some->I
open ByteArray renaming size_append->AM
open Go.RowKit.Below renaming refl->AN
open Go.Proofs.Tryz
namespace Go.Proofs.YtolokangldmodaaGreatDoor.Dr
open Go.RowKit
theorem cn{a b:ByteArray}(h:a=b):Ending.returned (J a)=.returned (J b):=by rw[h]
def dL(n:Nat):ByteArray:=⟨(Lib.decDigits n).toArray⟩
def rT(n:Int):ByteArray:=⟨#[UInt8.ofNat n.toNat]⟩
theorem yo(n:Int):(rT n).size=1:=rfl
theorem yO{n:Nat}(h:n<10):dL n=rT (48+(n:Int)):=by
 unfold dL rT
 rw[Lib.decDigits_one h,show((48:Int)+n).toNat=48+n by omega]
theorem Iq{n:Nat}(h:¬n<10):dL n=dL (n / 10)++rT (48+(n:Int) % 10):=by
 unfold dL rT
 rw[Lib.decDigits,dif_neg h,show((48:Int)+(n:Int) % 10).toNat=48+n % 10 by omega]
 apply ByteArray.ext
 simp[ByteArray.data_append]
theorem nE:∀(k n:Nat),n<10 ^ (k+1)->Lib.nDigits n<=k+1
 |0,n,h=>by rw[Lib.nDigits_small (by simpa using h)];omega
 |k+1,n,h=>by
  by_cases hs:n<10
  .rw [Lib.nDigits_small hs];omega
  .rw [Lib.nDigits_big hs]
   have:=nE k (n / 10) (by rw[Nat.pow_succ] at h;omega)
   omega
theorem aR(n:Nat)(h:n<10000000):(dL n).size<=7:=by
 have h1:=nE 6 n (by omega)
 show(Lib.decDigits n).toArray.size<=7
 rw[List.size_toArray,Lib.decDigits_length];exact h1
theorem Ll(w:World)(b:Nat)(n:Int)(h:w.cell? ⟨b,0,none⟩=I (.int .u8 n)) :
  (convert 22 9 (j (I ⟨b,0,none⟩) 1 1)).run prog w=.ok (J (rT n)) w:=by
 have:=run_convert_bytes_arg (P:=prog) w 22 5 underlying22 underlying5 b 0 1 1 [n] rfl (λi hi=>by
  obtain rfl:i=0:=by omega
  simpa using h) 9 underlying9
 simpa[strOfNums,rT] using this
theorem rX(n:Nat)(h:n<10)(w:World) :
  Rb 25 #[.int .i64 n] w (J (dL n)):=by
 rw[yO h]
 have h1:(n:Int)<10:=by omega
 have kc:=Ll
 go_enter func25,ntmps25
 go_wp2;go_ret;exact⟨rfl,(aG)⟩
theorem uZ(n:Nat)(h:¬n<10)(hn:n<=9999999)(ih:∀w,Rb 25 #[.int .i64 ((n:Int) / 10)] w (J (dL (n / 10))))(w:World) :
  Rb 25 #[.int .i64 n] w (J (dL n)):=by
 rw[Iq h]
 have h1:¬(n:Int)<10:=by omega
 have kc:=Ll;have IH:Hid (∀w,Rb 25 #[.int .i64 ((n:Int) / 10)] w (J (dL (n / 10)))):=ih;clear ih
 have cb:¬9223372036854775807<(dL (n / 10)).size+(rT (48+(n:Int) % 10)).size:=by
  have:=aR (n / 10) (by omega)
  rw[yo];omega
 generalize dL (n / 10)=ds at IH cb
 have hw1:IntKind.i64.wrap ((n:Int) / 10)=(n:Int) / 10:=by rw[IntKind.wrap_i64];omega
 have hw3:IntKind.i64.wrap (48+(n:Int).tmod 10)=48+(n:Int) % 10:=by rw[Int.tmod_eq_emod_of_nonneg (by omega),IntKind.wrap_i64];omega
 have hw4:IntKind.u8.wrap (48+(n:Int) % 10)=48+(n:Int) % 10:=by rw[IntKind.wrap_u8];omega
 go_enter func25,ntmps25
 go_wp2
 go_region_with (go_at_call 25;refine(IH.out _).mono ?_;rintro e w1⟨rfl,ai⟩;have hc1:=λb o h=>ai.cell (p:=⟨b,o,none⟩) h)
 all_goals go_wp2
 all_goals go_ret
 all_goals first|exact⟨rfl,(aa (AN _ _).drew ai).alloc (aa (AN w.heap.size w).drew ai).size _⟩|exact⟨rfl,aa (aG).drew ai⟩
theorem bE:∀(n:Nat),n<=9999999->∀w,Rb 25 #[.int .i64 n] w (J (dL n)):=by
 intro n
 induction n using Nat.strongRecOn with
 |ind n ih =>
  intro hn w
  by_cases h:n<10
  .exact rX n h w
  .refine uZ n h hn (λw=>?_) w
   have:=ih (n / 10) (by omega) (by omega) w
   simpa using this
open Go.RowKit
theorem tF{W:World}{g:Nat}{C:Array Value}{T:TypeId}(ws:List ByteArray)(h:W.heap[g]?=I (U C T (0,0)))(hC:C=(ws.map J).toArray)(hl:ws.length<=1000):dR W (j (I ⟨g,0,none⟩) ws.length ws.length) ws :=
 ⟨g,0,_,rfl,Nat.le_refl _,by unfold maxLen;omega,λi x hx=>by
  rw[Nat.zero_add]
  exact aD h (by rw[hC];simp[hx])⟩
theorem aO(w:World)(o:Obj):(w.alloc o).heap[w.heap.size]?=I o:=by show(w.heap.push o)[w.heap.size]?=I o;simp
theorem br{w w':World}{R b:Nat}{C:Array Value}{T:TypeId}(hg:w.grownBy w' (I R))(hb:b≠R)(h:w.heap[b]?=I (U C T (0,0))):w'.heap[b]?=I (U C T (0,0)) :=
 (hg.block b (bf h) (λe=>hb (Option.some.inj e))).trans h
theorem Rd.lt{w:World}{R p:Nat}(h:Rd w R p):R<w.heap.size:=by
 obtain⟨v,n,hn,hx,-⟩:=h.box;exact bf hx
def Out(w:World)(R p c:Nat)(w':World):Prop:=∃p',p<=p'/\p'<=p+c/\Rd w' R p'/\w.grownBy w' (I R)
def O3:List ByteArray:=[⟨#[97,49]⟩,⟨#[104,101,97,118,121]⟩,⟨#[97,49]⟩,⟨#[104,101,97,118,121]⟩,⟨#[115,108,111,119]⟩]
def GJ:List ByteArray:=[⟨#[111,112,101,110]⟩,⟨#[99,108,111,115,101,100]⟩]
theorem QE:∀s∈O3,s.size<=100:=by decide
theorem MP:∀s∈GJ,s.size<=100:=by decide
def PN(l:List dE)(i:Nat):dE:=l.getD i ⟨⟨#[]⟩,0,0⟩
theorem A9{l:List dE}{i:Nat}(h:i<l.length):l[i]?=I (PN l i):=by simp[PN,h]
theorem zL(R p:Nat)(vk vp:Value)(ps:List dE)(what:Int)(w:World)(h:Rd w R p)(hp:p<=900000)(hv:dF w vp ps)(hps:1<=ps.length/\ps.length<=1000)(hn:∀t∈ps,t.s.size<=100) :
  Calls prog 42 #[.pointer (I ⟨R,0,none⟩),.agg #[vk,vp],.int .i64 what] w λe w'=>∃s:ByteArray,e=.returned (J s)/\s.size<=2000/\Out w R p 20 w':=by
 have jd:=h.lt;have HB:Hid (Bw w (w.alloc (U #[vk,vp] 38))):=(aG);have ak:=dx (h.far HB.out);have oO:Hid ((w.alloc (U #[vk,vp] 38)).heap[w.heap.size]?=I (U #[vk,vp] 38 (0,0))):=aO w _;have cx:Hid (dF (w.alloc (U #[vk,vp] 38)) vp ps):=hv.keep HB.out
 have cu:Hid ((w.alloc (U #[vk,vp] 38)).heap.size=w.heap.size+1):=by show _=_;simp
 have ei:Hid (∀t∈ps,t.s.size<=100):=hn;obtain⟨va,vc,rfl,hvl,Uc,-⟩:=hv;unfold maxLen at Uc;obtain⟨dy,dv⟩:=hps;clear h hn
 by_cases h1:what=1
 .have ai:(what==1)=true:=by simp[h1]
  have HK:Hid (Bw (w.alloc (U #[vk,j va ps.length vc] 38)) ((w.alloc (U #[vk,j va ps.length vc] 38)).alloc (U #[J ⟨#[97,49]⟩,J ⟨#[104,101,97,118,121]⟩,J ⟨#[97,49]⟩,J ⟨#[104,101,97,118,121]⟩,J ⟨#[115,108,111,119]⟩] 9))):=(aG)
  have HS:Hid (dR ((w.alloc (U #[vk,j va ps.length vc] 38)).alloc (U #[J ⟨#[97,49]⟩,J ⟨#[104,101,97,118,121]⟩,J ⟨#[97,49]⟩,J ⟨#[104,101,97,118,121]⟩,J ⟨#[115,108,111,119]⟩] 9)) (j (I ⟨w.heap.size+1,0,none⟩) 5 5) O3):=by
   have h:=aO (w.alloc (U #[vk,j va ps.length vc] 38)) (U #[J ⟨#[97,49]⟩,J ⟨#[104,101,97,118,121]⟩,J ⟨#[97,49]⟩,J ⟨#[104,101,97,118,121]⟩,J ⟨#[115,108,111,119]⟩] 9);rw[cu.out] at h
   exact tF O3 h rfl (by decide)
  have HO:=dx (yt R p _ O3 _ (ak.out.far HK.out) (by omega) HS.out (by decide))
  clear h1
  go_enter func42,ntmps42
  go_wp2_with fail;refine HO.out.mono ?_;rintro e w1⟨s,rfl,hs,hr,hg⟩
  have HF:Hid (s.size<=2000/\Out w R p 20 w1):=⟨by have:=QE s hs;omega,p+1,by omega,by omega,hr,dK (grown_of HB.out _) (dK (grown_of HK.out _) hg)⟩
  clear hs hr hg;go_wp2;go_ret;exact⟨s,rfl,HF.out⟩
 have ai:(what==1)=false:=by simp[h1]
 clear h1
 by_cases h2:what=2
 .have ef:(what==2)=true:=by simp[h2]
  clear h2
  go_enter func42,ntmps42
  go_wp2_with fail;generalize(w.alloc (U #[vk,j va ps.length vc] 38))=w1 at *
  refine(aJ R p 200 _ ak.out (by omega) (by omega)).mono ?_
  rintro e w2⟨x,rfl,b6,ad,-,ax,ba⟩
  have ad:=ad (by omega)
  have R2:Hid (Rd w2 R (p+1)/\w.grownBy w2 (I R)):=⟨ax,dK (grown_of HB.out _) ba⟩;clear ax ba;go_wp2_with fail
  refine(aJ R (p+1) 16 _ R2.out.1 (by omega) (by omega)).mono ?_
  rintro e w3⟨y,rfl,hy0,c9,-,av,aT⟩;have R3:Hid (Rd w3 R (p+1+1)/\w.grownBy w3 (I R)):=⟨av,dK R2.out.2 aT⟩;clear av aT R2 c9
  by_cases hy:y=0
  .have c7:(y==0)=true:=by simp[hy]
   clear hy;go_wp2_with fail
   refine(aJ R (p+1+1) 80 _ R3.out.1 (by omega) (by omega)).mono ?_
   rintro e w4⟨z,rfl,hz0,af,-,au,aL⟩
   have af:=af (by omega)
   have R4:Hid (Rd w4 R (p+1+1+1)/\w.grownBy w4 (I R)):=⟨au,dK R3.out.2 aL⟩;clear au aL R3
   obtain⟨f,hf⟩:∃f:Nat,(10000-z)=(f:Int):=⟨(10000-z).toNat,by omega⟩
   have ea:f<=10000:=by omega
   have dT:10000-z=(f:Int):=hf;clear hf;go_wp2_with fail
   refine(aJ R (p+1+1+1) 20 _ R4.out.1 (by omega) (by omega)).mono ?_
   rintro e w5⟨u,rfl,dm,ao,-,Aw,ay⟩
   have ao:=ao (by omega)
   obtain⟨un,rfl⟩:∃n:Nat,u=n:=⟨u.toNat,by omega⟩
   have R5:Hid (Rd w5 R ((p+1+1+1)+1)/\w.grownBy w5 (I R)):=⟨Aw,dK R4.out.2 ay⟩;clear Aw ay R4
   by_cases eb:(10000:Int)<(f:Int)+(un:Int)
   focus
    have D1:=dx (bE f (by omega))
    have D2:=dx (bE 10000 (by omega))
    rw[show((10000:Nat):Int)=10000 from rfl] at D2
    have af:=aR f (by omega)
    have b4:=aR 10000 (by omega)
    generalize dL f=s1 at *;generalize dL 10000=s2 at *
   rotate_left
   focus
    have D1:=dx (bE f (by omega))
    have D2:=dx (bE (f+un) (by omega))
    rw[show((f+un:Nat):Int)=(f:Int)+(un:Int) by omega] at D2
    have af:=aR f (by omega)
    have b4:=aR (f+un) (by omega)
    generalize dL f=s1 at *;generalize dL (f+un)=s2 at *
   rotate_left
   all_goals
    have cl:¬9223372036854775807<s1.size+1:=by omega
    have dr:¬9223372036854775807<s1.size+1+s2.size:=by omega
    have ct:¬9223372036854775807<s1.size+(⟨#[32]⟩:ByteArray).size:=by show ¬9223372036854775807<s1.size+1;omega
    have cp:¬9223372036854775807<(s1++⟨#[32]⟩).size+s2.size:=by rw[AM];show ¬9223372036854775807<s1.size+1+s2.size;omega
    go_wp2_with fail;refine(D1.out _).mono ?_;rintro e w6⟨rfl,ae⟩;go_wp2_with fail;refine(D2.out _).mono ?_;rintro e w7⟨rfl,Ui⟩
    have HF:Hid ((s1++⟨#[32]⟩++s2).size<=2000/\Out w R p 20 w7):=⟨by simp only[AM];show s1.size+1+s2.size<=2000;omega,(p+1+1+1)+1,by omega,by omega,(R5.out.1.far ae).far Ui,dK R5.out.2 (dK (grown_of ae _) (grown_of Ui _))⟩
    clear ae Ui;go_wp2;go_ret;exact⟨_,rfl,HF.out⟩
  .have c7:(y==0)=false:=by simp[hy]
   clear hy
   obtain⟨f,hf⟩:∃f:Nat,(x)=(f:Int):=⟨(x).toNat,by omega⟩
   have ea:f<=10000:=by omega
   have dT:x=(f:Int):=hf;clear hf;go_wp2_with fail
   refine(aJ R (p+1+1) 20 _ R3.out.1 (by omega) (by omega)).mono ?_
   rintro e w5⟨u,rfl,dm,ao,-,Aw,ay⟩
   have ao:=ao (by omega)
   obtain⟨un,rfl⟩:∃n:Nat,u=n:=⟨u.toNat,by omega⟩
   have R5:Hid (Rd w5 R ((p+1+1)+1)/\w.grownBy w5 (I R)):=⟨Aw,dK R3.out.2 ay⟩;clear Aw ay R3
   by_cases eb:(10000:Int)<(f:Int)+(un:Int)
   focus
    have D1:=dx (bE f (by omega))
    have D2:=dx (bE 10000 (by omega))
    rw[show((10000:Nat):Int)=10000 from rfl] at D2
    have af:=aR f (by omega)
    have b4:=aR 10000 (by omega)
    generalize dL f=s1 at *;generalize dL 10000=s2 at *
   rotate_left
   focus
    have D1:=dx (bE f (by omega))
    have D2:=dx (bE (f+un) (by omega))
    rw[show((f+un:Nat):Int)=(f:Int)+(un:Int) by omega] at D2
    have af:=aR f (by omega)
    have b4:=aR (f+un) (by omega)
    generalize dL f=s1 at *;generalize dL (f+un)=s2 at *
   rotate_left
   all_goals
    have cl:¬9223372036854775807<s1.size+1:=by omega
    have dr:¬9223372036854775807<s1.size+1+s2.size:=by omega
    have ct:¬9223372036854775807<s1.size+(⟨#[32]⟩:ByteArray).size:=by show ¬9223372036854775807<s1.size+1;omega
    have cp:¬9223372036854775807<(s1++⟨#[32]⟩).size+s2.size:=by rw[AM];show ¬9223372036854775807<s1.size+1+s2.size;omega
    go_wp2_with fail;refine(D1.out _).mono ?_;rintro e w6⟨rfl,ae⟩;go_wp2_with fail;refine(D2.out _).mono ?_;rintro e w7⟨rfl,Ui⟩
    have HF:Hid ((s1++⟨#[32]⟩++s2).size<=2000/\Out w R p 20 w7):=⟨by simp only[AM];show s1.size+1+s2.size<=2000;omega,(p+1+1)+1,by omega,by omega,(R5.out.1.far ae).far Ui,dK R5.out.2 (dK (grown_of ae _) (grown_of Ui _))⟩
    clear ae Ui;go_wp2;go_ret;exact⟨_,rfl,HF.out⟩
 have ef:(what==2)=false:=by simp[h2]
 clear h2
 by_cases h3:what=3
 .have ee:(what==3)=true:=by simp[h3]
  clear h3
  go_enter func42,ntmps42
  go_wp2_with fail;generalize(w.alloc (U #[vk,j va ps.length vc] 38))=w1 at *
  refine(aJ R p 6 _ ak.out (by omega) (by omega)).mono ?_
  rintro e w2⟨x,rfl,b6,ad,-,ax,ba⟩
  have ad:=ad (by omega)
  obtain⟨xn,rfl⟩:∃n:Nat,x=n:=⟨x.toNat,by omega⟩
  have R2:Hid (Rd w2 R (p+1)/\w.grownBy w2 (I R)):=⟨ax,dK (grown_of HB.out _) ba⟩
  have D1:=dx (bE (1+xn) (by omega))
  rw[show((1+xn:Nat):Int)=1+(xn:Int) by omega] at D1
  have af:=aR (1+xn) (by omega)
  generalize dL (1+xn)=s1 at *;clear ax ba;go_wp2_with fail;refine(D1.out _).mono ?_;rintro e w6⟨rfl,ae⟩
  have HF:Hid (s1.size<=2000/\Out w R p 20 w6):=⟨by omega,p+1,by omega,by omega,R2.out.1.far ae,dK R2.out.2 (grown_of ae _)⟩
  clear ae;go_wp2;go_ret;exact⟨_,rfl,HF.out⟩
 have ee:(what==3)=false:=by simp[h3]
 clear h3
 by_cases h4:what=4
 .have ec:(what==4)=true:=by simp[h4]
  clear h4;obtain⟨c6,c4,ca,-,-,bV⟩:=cx.out
  obtain⟨bP,oP,cf,-⟩:=bV 0 _ (A9 (by omega))
  cases ca
  subst cf;clear bV
  go_enter func42,ntmps42
  go_wp2;generalize(w.alloc (U #[vk,j (I ⟨bP,oP,none⟩) ps.length vc] 38))=w1 at *
  have Mv:Hid (∀wx:World,w1.grownBy wx (I R)->wx.cell? ⟨w.heap.size,1,none⟩=I (j (I ⟨bP,oP,none⟩) ps.length vc)):=λwx hg=>aD (br hg (by omega) oO.out) rfl
  have AJ:Hid (∀wx:World,w1.grownBy wx (I R)->∀i,i<ps.length->wx.cell? ⟨bP,oP+i*3,none⟩=I (J (PN ps i).s)/\(PN ps i).s.size<=100):=λwx hg i hi=>by
   obtain⟨c6,c4,ca,-,-,bV⟩:=cZ cx.out ak.out hg;obtain⟨b,o,cf,d0,-⟩:=bV i _ (A9 hi)
   cases ca
   cases cf
   exact⟨d0,ei.out _ (List.mem_of_getElem? (A9 hi))⟩
  have cy:Hid (w1.grownBy w1 (I R)):=grown_of (AN _ _) _;refine wp_region_noPanic ?_
  refine wp_region_held_drew (S:=λwx=>wx.cell? ⟨w.heap.size,1,none⟩=I (j (I ⟨bP,oP,none⟩) ps.length vc)) (by kernel_rfl) ?_ (λab=>?_)
  .exact Mv.out _ (dK cy.out (grown_of (AN _ _).drew _))
  have RD:Hid (Rd w1.drew R p/\w1.grownBy w1.drew (I R)):=⟨ak.out.far (AN _ _).drew,dK cy.out (grown_of (AN _ _).drew _)⟩;generalize w1.drew=WD at *;refine aM 0 ?_ rfl ?_ (aM 1 ?_ rfl ?_ (aM 2 ?_ rfl ?_ (aM 3 ?_ rfl ?_ (aM 4 ?_ rfl ?_ (aM 5 ?_ rfl ?_ ?_)))))
  iterate 6(rotate_left;focus(intro w cg;(try dsimp only at cg);simp only[Act.put,aK];go_simp;try with_reducible rfl))
  simp only[Act.put,aK]
  clear ab;refine be 6 (λK hK=>?_);go_simp
  refine(aJ R p (ps.length:Int) _ RD.out.1 (by omega) (by omega)).mono ?_
  rintro e w2⟨x,rfl,b6,ad,-,hr,hg⟩
  have ad:=ad (by omega)
  obtain⟨i,rfl⟩:∃n:Nat,x=n:=⟨x.toNat,by omega⟩
  have R2:Hid (Rd w2 R (p+1)/\w1.grownBy w2 (I R)):=⟨hr,dK RD.out.2 hg⟩;have ab:=Mv.out _ R2.out.2;refine hK.out _ _ ab (λ_=>?_);clear hK K hr hg RD
  have c0:=(AJ.out _ R2.out.2 i (by omega)).1
  have cb:=(AJ.out _ R2.out.2 i (by omega)).2
  generalize(PN ps i).s=s0 at *;refine be 7 (λK hK=>?_);go_simp;refine hK.out _ _ ab (λ_=>?_);clear hK K;refine be 8 (λK hK=>?_);go_simp;refine hK.out _ _ ab (λ_=>?_);clear hK K;refine be 9 (λK hK=>?_);go_simp;refine hK.out _ _ ab (λ_=>?_);clear hK K;refine be 10 (λK hK=>?_);go_simp;refine hK.out _ _ ab (λ_=>?_);clear hK K
  refine wpAnyH_done (by kernel_rfl) ?_ _
  refine NoPanic.normal ?_;clear ab c0;go_wp2_with fail
  refine(aJ R (p+1) 4 _ R2.out.1 (by omega) (by omega)).mono ?_
  rintro e w3⟨x3,rfl,dk,an,-,av,aT⟩
  have an:=an (by omega)
  obtain⟨n3,rfl⟩:∃n:Nat,x3=n:=⟨x3.toNat,by omega⟩
  have R3:Hid (Rd w3 R (p+1+1)/\w1.grownBy w3 (I R)):=⟨av,dK R2.out.2 aT⟩;clear av aT R2;go_wp2_with fail
  refine(aJ R (p+1+1) 8 _ R3.out.1 (by omega) (by omega)).mono ?_
  rintro e w4⟨x4,rfl,dd,b5,-,au,aL⟩;have R4:Hid (Rd w4 R (p+1+1+1)/\w1.grownBy w4 (I R)):=⟨au,dK R3.out.2 aL⟩;clear au aL R3 b5
  obtain⟨N0,eg,ck⟩:∃n:Nat,n<=7/\(if x4=0 then 7 else 1+(n3:Int))=(n:Int):=by
   by_cases e:x4=0
   .exact ⟨7,by omega,by rw[if_pos e];rfl⟩
   .exact ⟨1+n3,by omega,by rw[if_neg e];omega⟩
  have bn:Hid (s0.size+N0*101<=807/\∃px,Rd w4 R px/\px+N0<=p+12/\p<=px/\w1.grownBy w4 (I R)):=⟨by omega,p+1+1+1,R4.out.1,by omega,by omega,R4.out.2⟩
  by_cases NN:x4=0
  focus
   have cc:(x4==0)=true:=by simp[NN]
   rw[if_pos NN] at ck
   have hN7:N0=7:=by omega
   clear NN ck
  rotate_left
  focus
   have cc:(x4==0)=false:=by simp[NN]
   rw[if_neg NN] at ck;clear NN
  rotate_left
  all_goals
   go_wp2
   go_loopw [9,10,11] (λov lv nv wr=>∃(s t:ByteArray) (m:Nat),ov=J s/\lv=J t/\nv=.int .i64 m/\m<=7/\Hid (s.size+m*101<=807/\∃px,Rd wr R px/\px+m<=p+12/\p<=px/\w1.grownBy wr (I R))) (λ_ _ nv _=>(intOf nv).toNat)
   case atStart=>exact⟨s0,s0,N0,rfl,rfl,by first|rfl|(congr 1;omega),eg,bn⟩
   case round =>
    obtain⟨s,t,m,rfl,rfl,rfl,hm,HI⟩:=hrel;obtain⟨dq,px,bY,du,dt,b3⟩:=HI.out
    by_cases dz:m=0
    .subst dz
     have HF:Hid (s.size<=2000/\Out w R p 20 wr):=⟨by omega,px,by omega,by omega,bY,dK (grown_of HB.out _) b3⟩
     clear HI bY b3;go_wp2;go_ret;exact⟨s,rfl,HF.out⟩
    .have hmp:(0:Int)<(m:Int):=by omega
     have RX:Hid (Rd wr R px/\w1.grownBy wr (I R)):=⟨bY,b3⟩;clear HI bY b3;go_wp2;refine wp_region_noPanic ?_
     refine wp_region_held_drew (S:=λwx=>wx.cell? ⟨w.heap.size,1,none⟩=I (j (I ⟨bP,oP,none⟩) ps.length vc)) (by kernel_rfl) ?_ (λab=>?_)
     .exact Mv.out _ (dK RX.out.2 (grown_of (AN _ _).drew _))
     have RD:Hid (Rd wr.drew R px/\w1.grownBy wr.drew (I R)):=⟨RX.out.1.far (AN _ _).drew,dK RX.out.2 (grown_of (AN _ _).drew _)⟩;generalize wr.drew=WD at *;refine aM 0 ?_ rfl ?_ (aM 1 ?_ rfl ?_ (aM 2 ?_ rfl ?_ (aM 3 ?_ rfl ?_ (aM 4 ?_ rfl ?_ (aM 5 ?_ rfl ?_ ?_)))))
     iterate 6(rotate_left;focus(intro w cg;(try dsimp only at cg);simp only[Act.put,aK];go_simp;try with_reducible rfl))
     simp only[Act.put,aK]
     clear ab;refine be 6 (λK hK=>?_);go_simp
     refine(aJ R px (ps.length:Int) _ RD.out.1 (by omega) (by omega)).mono ?_
     rintro e w6⟨x,rfl,b6,ad,-,hr,hg⟩
     have ad:=ad (by omega)
     obtain⟨i,rfl⟩:∃n:Nat,x=n:=⟨x.toNat,by omega⟩
     have R6:Hid (Rd w6 R (px+1)/\w1.grownBy w6 (I R)):=⟨hr,dK RD.out.2 hg⟩;have ab:=Mv.out _ R6.out.2;refine hK.out _ _ ab (λ_=>?_);clear hK K hr hg RD
     have c0:=(AJ.out _ R6.out.2 i (by omega)).1
     have cb:=(AJ.out _ R6.out.2 i (by omega)).2
     generalize(PN ps i).s=s1 at *;refine be 7 (λK hK=>?_);go_simp;refine hK.out _ _ ab (λ_=>?_);clear hK K;refine be 8 (λK hK=>?_);go_simp;refine hK.out _ _ ab (λ_=>?_);clear hK K;refine be 9 (λK hK=>?_);go_simp;refine hK.out _ _ ab (λ_=>?_);clear hK K;refine be 10 (λK hK=>?_);go_simp;refine hK.out _ _ ab (λ_=>?_);clear hK K
     refine wpAnyH_done (by kernel_rfl) ?_ _
     refine NoPanic.normal ?_;clear ab c0
     obtain⟨m1,rfl⟩:∃m1,m=m1+1:=⟨m-1,by omega⟩
     have cL:Hid (wrap64 (((m1+1:Nat):Int)-1)=(m1:Int)):=by show _=_;unfold wrap64;omega
     obtain⟨bb,hbb⟩:∃b,(s1.toList==t.toList)=b:=⟨_,rfl⟩
     cases bb
     rotate_left
     .have HN:Hid (s.size+m1*101<=807/\∃px,Rd w6 R px/\px+m1<=p+12/\p<=px/\w1.grownBy w6 (I R)):=⟨by omega,px+1,R6.out.1,by omega,by omega,R6.out.2⟩
      go_wp2
      exact⟨⟨s,t,m1,rfl,rfl,by first|rfl|(congr 1;push_cast;omega)|rw[cL.out],by omega,HN⟩,by simp[intOf]⟩
     .have ct:¬9223372036854775807<s.size+1:=by omega
      have cp:¬9223372036854775807<s.size+1+s1.size:=by omega
      have cl:¬9223372036854775807<(s++⟨#[32]⟩).size+s1.size:=by rw[AM];show ¬9223372036854775807<s.size+1+s1.size;omega
      have HN:Hid ((s++⟨#[32]⟩++s1).size+m1*101<=807/\∃px,Rd w6 R px/\px+m1<=p+12/\p<=px/\w1.grownBy w6 (I R)):=⟨by simp only[AM];show s.size+1+s1.size+m1*101<=807;omega,px+1,R6.out.1,by omega,by omega,R6.out.2⟩
      go_wp2
      exact⟨⟨s++⟨#[32]⟩++s1,s1,m1,rfl,rfl,by first|rfl|(congr 1;push_cast;omega)|rw[cL.out],by omega,HN⟩,by simp[intOf]⟩
 have ec:(what==4)=false:=by simp[h4]
 clear h4;have HK:Hid (Bw (w.alloc (U #[vk,j va ps.length vc] 38)) ((w.alloc (U #[vk,j va ps.length vc] 38)).alloc (U #[J ⟨#[111,112,101,110]⟩,J ⟨#[99,108,111,115,101,100]⟩] 9))):=(aG)
 have HS:Hid (dR ((w.alloc (U #[vk,j va ps.length vc] 38)).alloc (U #[J ⟨#[111,112,101,110]⟩,J ⟨#[99,108,111,115,101,100]⟩] 9)) (j (I ⟨w.heap.size+1,0,none⟩) 2 2) GJ):=by
  have h:=aO (w.alloc (U #[vk,j va ps.length vc] 38)) (U #[J ⟨#[111,112,101,110]⟩,J ⟨#[99,108,111,115,101,100]⟩] 9);rw[cu.out] at h
  exact tF GJ h rfl (by decide)
 have HO:=dx (yt R p _ GJ _ (ak.out.far HK.out) (by omega) HS.out (by decide))
 go_enter func42,ntmps42
 go_wp2_with fail;refine HO.out.mono ?_;rintro e w1⟨s,rfl,hs,hr,hg⟩
 have HF:Hid (s.size<=2000/\Out w R p 20 w1):=⟨by have:=MP s hs;omega,p+1,by omega,by omega,hr,dK (grown_of HB.out _) (dK (grown_of HK.out _) hg)⟩
 clear hs hr hg;go_wp2;go_ret;exact⟨s,rfl,HF.out⟩
open Go.RowKit
def zh(w:World)(v:Value)(n:Nat):Prop:=∃a cap,v=j a n cap/\n<=cap/\cap<=maxLen/\∀i,i<n->∃b off x,a=I ⟨b,off,none⟩/\w.cell? ⟨b,off+i,none⟩=I (.int .u8 x)/\0<=x/\x<256
theorem SY{w:World}{a:Option Addr}{n cap:Nat}(h:zh w (j a n cap) n)(hn:n<=2000):Rd (w.alloc (U #[j a n cap,.int .i64 0] 55)) w.heap.size 0:=by
 have hb:Bw w (w.alloc (U #[j a n cap,.int .i64 0] 55)):=(aG);obtain⟨a',eh,e,h1,h2,h3⟩:=h
 cases e
 refine⟨j a n cap,n,hn,aO w _,a,cap,rfl,h1,h2,λi hi=>?_⟩;obtain⟨b,off,x,e,hc,hr⟩:=h3 i hi;exact⟨b,off,x,e,am hc,ac hb aE hc,hr⟩
theorem Nt(v:Value)(n:Nat)(w:World)(h:zh w v n) :
  Calls prog 7 #[v] w λe w'=>∃R,e=.returned (.pointer (I ⟨R,0,none⟩))/\w.heap.size<=R/\Rd w' R 0/\Bw w w':=by
 have H:=h;obtain⟨a,cap,rfl,h1,h2,h3⟩:=h;unfold maxLen at h2
 by_cases hn:(2000:Int)<(n:Int)
 focus
  obtain⟨b,off,x,rfl,-⟩:=h3 0 (by omega)
  have H2:zh w (j (I ⟨b,off,none⟩) 2000 cap) 2000:=⟨_,cap,rfl,by omega,by unfold maxLen;omega,λi hi=>h3 i (by omega)⟩
  have HR:=dx (SY H2 aE);have HB:Hid (Bw w (w.alloc (U #[j (I ⟨b,off,none⟩) 2000 cap,.int .i64 0] 55))):=(aG);clear h3 H H2
 rotate_left
 focus
  have HR:=dx (SY H (by omega))
  have HB:Hid (Bw w (w.alloc (U #[j a n cap,.int .i64 0] 55))):=(aG);clear h3 H
 rotate_left
 all_goals
  go_enter func7,ntmps7
  go_wp2;go_ret;exact⟨w.heap.size,rfl,Nat.le_refl _,HR.out,HB.out⟩
end Go.Proofs.YtolokangldmodaaGreatDoor.Dr
