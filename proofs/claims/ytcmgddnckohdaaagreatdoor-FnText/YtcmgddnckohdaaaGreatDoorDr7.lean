import Derived.Lib.ItoaMem
import Derived.Test.YtcmgddnckohdaaaGreatDoorWBk
set_option maxRecDepth 100000
set_option maxHeartbeats 6400000
set_option linter.unusedSimpArgs false
set_option linter.unusedVariables false
namespace Go.Proofs.YtcmgddnckohdaaaGreatDoor.Dr
open Go.RowKit
theorem rP {a b:ByteArray} (h:a=b):Ending.returned (.string a)=.returned (.string b):=by rw [h]
def dW (n:Nat):ByteArray:=⟨(Lib.decDigits n).toArray⟩
def oz (n:Int):ByteArray:=⟨#[UInt8.ofNat n.toNat]⟩
theorem uw (n:Int):(oz n).size=1:=rfl
theorem uO {n:Nat} (h:n<10):dW n=oz (48+(n:Int)):=by
 unfold dW oz
 rw [Lib.decDigits_one h,show ((48:Int)+n).toNat=48+n by omega]
theorem Ct {n:Nat} (h:¬ n<10):dW n=dW (n / 10)++oz (48+(n:Int) % 10):=by
 unfold dW oz
 rw [Lib.decDigits,dif_neg h,show ((48:Int)+(n:Int) % 10).toNat=48+n % 10 by omega]
 apply ByteArray.ext
 simp [ByteArray.data_append]
theorem lh:∀ (k n:Nat),n<10 ^ (k+1)→Lib.nDigits n≤k+1
 | 0,n,h=>by rw [Lib.nDigits_small (by simpa using h)];omega
 | k+1,n,h=>by
  by_cases hs:n<10
  ·rw [Lib.nDigits_small hs];omega
  ·rw [Lib.nDigits_big hs]
   have:=lh k (n / 10) (by rw [Nat.pow_succ] at h;omega)
   omega
theorem aR (n:Nat) (h:n<10000000):(dW n).size≤7:=by
 have h1:=lh 6 n (by omega)
 show (Lib.decDigits n).toArray.size≤7
 rw [List.size_toArray,Lib.decDigits_length];exact h1
theorem Fe (w:World) (b:Nat) (n:Int) (h:w.cell? ⟨b,0,none⟩=some (.int .u8 n)) :
  (convert 22 9 (.slice (some ⟨b,0,none⟩) 1 1)).run Tryz.prog w=.ok (.string (oz n)) w:=by
 have:=run_convert_bytes_arg (P:=Tryz.prog) w 22 5 Tryz.underlying22 Tryz.underlying5 b 0 1 1 [n] rfl (fun i hi=>by
  obtain rfl:i=0:=by omega
  simpa using h) 9 Tryz.underlying9
 simpa [strOfNums,oz] using this
theorem oF (n:Nat) (h:n<10) (w:World) :
  Calls Tryz.prog 45 #[.int .i64 n] w fun e w'=>e=.returned (.string (dW n))∧Below w.heap.size w w':=by
 rw [uO h]
 have h1:(n:Int)<10:=by omega
 have kc:=Fe
 go_enter Tryz.func45,Tryz.ntmps45
 go_wp2;go_ret;exact ⟨rfl,(aM)⟩
theorem qW (n:Nat) (h:¬ n<10) (hn:n≤9999999) (ih:∀ w,Calls Tryz.prog 45 #[.int .i64 ((n:Int) / 10)] w fun e w'=>e=.returned (.string (dW (n / 10)))∧Below w.heap.size w w') (w:World) :
  Calls Tryz.prog 45 #[.int .i64 n] w fun e w'=>e=.returned (.string (dW n))∧Below w.heap.size w w':=by
 rw [Ct h]
 have h1:¬ (n:Int)<10:=by omega
 have kc:=Fe;have IH:Hid (∀ w,Calls Tryz.prog 45 #[.int .i64 ((n:Int) / 10)] w fun e w'=>e=.returned (.string (dW (n / 10)))∧Below w.heap.size w w'):=ih;clear ih
 have hsz:¬ 9223372036854775807<(dW (n / 10)).size+(oz (48+(n:Int) % 10)).size:=by
  have:=aR (n / 10) (by omega)
  rw [uw];omega
 generalize dW (n / 10)=ds at IH hsz
 have hw1:IntKind.i64.wrap ((n:Int) / 10)=(n:Int) / 10:=by rw [IntKind.wrap_i64];omega
 have hw3:IntKind.i64.wrap (48+(n:Int).tmod 10)=48+(n:Int) % 10:=by rw [Int.tmod_eq_emod_of_nonneg (by omega),IntKind.wrap_i64];omega
 have hw4:IntKind.u8.wrap (48+(n:Int) % 10)=48+(n:Int) % 10:=by rw [IntKind.wrap_u8];omega
 go_enter Tryz.func45,Tryz.ntmps45
 go_wp2
 go_region_with (go_at_call 45;refine (IH.out _).mono ?_;rintro e w1 ⟨rfl,hb1⟩;have hc1:=fun b o h=>hb1.cell (p:=⟨b,o,none⟩) h)
 all_goals go_wp2
 all_goals go_ret
 all_goals first | exact ⟨rfl,(aa (Below.refl _ _).drew hb1).alloc (aa (Below.refl w.heap.size w).drew hb1).size _⟩ | exact ⟨rfl,aa (aM).drew hb1⟩
theorem bv:∀ (n:Nat),n≤9999999→∀ w,Calls Tryz.prog 45 #[.int .i64 n] w fun e w'=>e=.returned (.string (dW n))∧Below w.heap.size w w':=by
 intro n
 induction n using Nat.strongRecOn with
 | ind n ih =>
  intro hn w
  by_cases h:n<10
  ·exact oF n h w
  ·refine qW n h hn (fun w=>?_) w
   have:=ih (n / 10) (by omega) (by omega) w
   simpa using this
open Go.RowKit
theorem mW {W:World} {g:Nat} {C:Array Value} {T:TypeId} (ws:List ByteArray) (h:W.heap[g]?=some (.cells C T (0,0))) (hC:C=(ws.map Value.string).toArray) (hl:ws.length≤1000):dV W (.slice (some ⟨g,0,none⟩) ws.length ws.length) ws :=
 ⟨g,0,_,rfl,Nat.le_refl _,by unfold maxLen;omega,fun i x hx=>by
  rw [Nat.zero_add]
  exact an h (by rw [hC];simp [hx])⟩
theorem aI (w:World) (o:Obj):(w.alloc o).heap[w.heap.size]?=some o:=by show (w.heap.push o)[w.heap.size]?=some o;simp
theorem aV {w w':World} {R b:Nat} {C:Array Value} {T:TypeId} (hg:w.grownBy w' (some R)) (hb:b≠R) (h:w.heap[b]?=some (.cells C T (0,0))):w'.heap[b]?=some (.cells C T (0,0)) :=
 (hg.block b (aP h) (fun e=>hb (Option.some.inj e))).trans h
theorem Rd.lt {w:World} {R p:Nat} (h:Rd w R p):R<w.heap.size:=by
 obtain ⟨v,n,hn,hx,-⟩:=h.box;exact aP hx
def Out (w:World) (R p c:Nat) (w':World):Prop:=∃ p',p≤p'∧p'≤p+c∧Rd w' R p'∧w.grownBy w' (some R)
def Iu:List ByteArray:=[⟨#[97,49]⟩,⟨#[104,101,97,118,121]⟩,⟨#[97,49]⟩,⟨#[104,101,97,118,121]⟩,⟨#[115,108,111,119]⟩]
def Bn:List ByteArray:=[⟨#[111,112,101,110]⟩,⟨#[99,108,111,115,101,100]⟩]
theorem JA:∀ s∈Iu,s.size≤100:=by decide
theorem F8:∀ s∈Bn,s.size≤100:=by decide
def I6 (l:List dx) (i:Nat):dx:=l.getD i ⟨⟨#[]⟩,0,0⟩
theorem wM {l:List dx} {i:Nat} (h:i<l.length):l[i]?=some (I6 l i):=by simp [I6,h]
theorem lQ (R p:Nat) (vk vp:Value) (ps:List dx) (what:Int) (w:World) (h:Rd w R p) (hp:p≤900000) (hv:dA w vp ps) (hps:1≤ps.length∧ps.length≤1000) (hn:∀ t∈ps,t.s.size≤100) :
  Calls Tryz.prog 110 #[.pointer (some ⟨R,0,none⟩),.agg #[vk,vp],.int .i64 what] w fun e w'=>∃ s:ByteArray,e=.returned (.string s)∧s.size≤2000∧Out w R p 20 w':=by
 have gM:=h.lt;have HB:Hid (Below w.heap.size w (w.alloc (.cells #[vk,vp] 27))):=(aM);have HR1:=ay (h.far HB.out);have jG:Hid ((w.alloc (.cells #[vk,vp] 27)).heap[w.heap.size]?=some (.cells #[vk,vp] 27 (0,0))):=aI w _;have HV1:Hid (dA (w.alloc (.cells #[vk,vp] 27)) vp ps):=hv.keep HB.out
 have HZ1:Hid ((w.alloc (.cells #[vk,vp] 27)).heap.size=w.heap.size+1):=by show _=_;simp
 have HNN:Hid (∀ t∈ps,t.s.size≤100):=hn;obtain ⟨va,vc,rfl,hvl,LJ,-⟩:=hv;unfold maxLen at LJ;obtain ⟨JH,JG⟩:=hps;clear h hn
 by_cases h1:what=1
 ·have hb1:(what==1)=true:=by simp [h1]
  have HK:Hid (Below (w.alloc (.cells #[vk,.slice va ps.length vc] 27)).heap.size (w.alloc (.cells #[vk,.slice va ps.length vc] 27)) ((w.alloc (.cells #[vk,.slice va ps.length vc] 27)).alloc (.cells #[.string ⟨#[97,49]⟩,.string ⟨#[104,101,97,118,121]⟩,.string ⟨#[97,49]⟩,.string ⟨#[104,101,97,118,121]⟩,.string ⟨#[115,108,111,119]⟩] 9))):=(aM)
  have HS:Hid (dV ((w.alloc (.cells #[vk,.slice va ps.length vc] 27)).alloc (.cells #[.string ⟨#[97,49]⟩,.string ⟨#[104,101,97,118,121]⟩,.string ⟨#[97,49]⟩,.string ⟨#[104,101,97,118,121]⟩,.string ⟨#[115,108,111,119]⟩] 9)) (.slice (some ⟨w.heap.size+1,0,none⟩) 5 5) Iu):=by
   have h:=aI (w.alloc (.cells #[vk,.slice va ps.length vc] 27)) (.cells #[.string ⟨#[97,49]⟩,.string ⟨#[104,101,97,118,121]⟩,.string ⟨#[97,49]⟩,.string ⟨#[104,101,97,118,121]⟩,.string ⟨#[115,108,111,119]⟩] 9);rw [HZ1.out] at h
   exact mW Iu h rfl (by decide)
  have HO:=ay (qO R p _ Iu _ (HR1.out.far HK.out) (by omega) HS.out (by decide))
  clear h1
  go_enter Tryz.func110,Tryz.ntmps110
  go_wp2_with fail;refine HO.out.mono ?_;rintro e w1 ⟨s,rfl,hs,hr,hg⟩
  have HF:Hid (s.size≤2000∧Out w R p 20 w1):=⟨by have:=JA s hs;omega,p+1,by omega,by omega,hr,az (aH HB.out _) (az (aH HK.out _) hg)⟩
  clear hs hr hg;go_wp2;go_ret;exact ⟨s,rfl,HF.out⟩
 have hb1:(what==1)=false:=by simp [h1]
 clear h1
 by_cases h2:what=2
 ·have hb2:(what==2)=true:=by simp [h2]
  clear h2
  go_enter Tryz.func110,Tryz.ntmps110
  go_wp2_with fail;generalize (w.alloc (.cells #[vk,.slice va ps.length vc] 27))=w1 at *
  refine (aL R p 200 _ HR1.out (by omega) (by omega)).mono ?_
  rintro e w2 ⟨x,rfl,hx0,hx1,-,hr2,hg2⟩
  have hx1:=hx1 (by omega)
  have R2:Hid (Rd w2 R (p+1)∧w.grownBy w2 (some R)):=⟨hr2,az (aH HB.out _) hg2⟩;clear hr2 hg2;go_wp2_with fail
  refine (aL R (p+1) 16 _ R2.out.1 (by omega) (by omega)).mono ?_
  rintro e w3 ⟨y,rfl,hy0,hy1,-,hr3,hg3⟩;have R3:Hid (Rd w3 R (p+1+1)∧w.grownBy w3 (some R)):=⟨hr3,az R2.out.2 hg3⟩;clear hr3 hg3 R2 hy1
  by_cases hy:y=0
  ·have hyb:(y==0)=true:=by simp [hy]
   clear hy;go_wp2_with fail
   refine (aL R (p+1+1) 80 _ R3.out.1 (by omega) (by omega)).mono ?_
   rintro e w4 ⟨z,rfl,hz0,hz1,-,hr4,hg4⟩
   have hz1:=hz1 (by omega)
   have R4:Hid (Rd w4 R (p+1+1+1)∧w.grownBy w4 (some R)):=⟨hr4,az R3.out.2 hg4⟩;clear hr4 hg4 R3
   obtain ⟨f,hf⟩:∃ f:Nat,(10000-z)=(f:Int):=⟨(10000-z).toNat,by omega⟩
   have hf1:f≤10000:=by omega
   have Kl:10000-z=(f:Int):=hf;clear hf;go_wp2_with fail
   refine (aL R (p+1+1+1) 20 _ R4.out.1 (by omega) (by omega)).mono ?_
   rintro e w5 ⟨u,rfl,hu0,hu1,-,qA,hg5⟩
   have hu1:=hu1 (by omega)
   obtain ⟨un,rfl⟩:∃ n:Nat,u=n:=⟨u.toNat,by omega⟩
   have R5:Hid (Rd w5 R ((p+1+1+1)+1)∧w.grownBy w5 (some R)):=⟨qA,az R4.out.2 hg5⟩;clear qA hg5 R4
   by_cases hby:(10000:Int)<(f:Int)+(un:Int)
   focus
    have D1:=ay (bv f (by omega))
    have D2:=ay (bv 10000 (by omega))
    rw [show ((10000:Nat):Int)=10000 from rfl] at D2
    have hz1:=aR f (by omega)
    have hz2:=aR 10000 (by omega)
    generalize dW f=s1 at *;generalize dW 10000=s2 at *
   rotate_left
   focus
    have D1:=ay (bv f (by omega))
    have D2:=ay (bv (f+un) (by omega))
    rw [show ((f+un:Nat):Int)=(f:Int)+(un:Int) by omega] at D2
    have hz1:=aR f (by omega)
    have hz2:=aR (f+un) (by omega)
    generalize dW f=s1 at *;generalize dW (f+un)=s2 at *
   rotate_left
   all_goals
    have hq3:¬ 9223372036854775807<s1.size+1:=by omega
    have hq4:¬ 9223372036854775807<s1.size+1+s2.size:=by omega
    have hq1:¬ 9223372036854775807<s1.size+(⟨#[32]⟩:ByteArray).size:=by show ¬ 9223372036854775807<s1.size+1;omega
    have hq2:¬ 9223372036854775807<(s1++⟨#[32]⟩).size+s2.size:=by rw [ByteArray.size_append];show ¬ 9223372036854775807<s1.size+1+s2.size;omega
    go_wp2_with fail;refine (D1.out _).mono ?_;rintro e w6 ⟨rfl,hb6⟩;go_wp2_with fail;refine (D2.out _).mono ?_;rintro e w7 ⟨rfl,FH⟩
    have HF:Hid ((s1++⟨#[32]⟩++s2).size≤2000∧Out w R p 20 w7):=⟨by simp only [ByteArray.size_append];show s1.size+1+s2.size≤2000;omega,(p+1+1+1)+1,by omega,by omega,(R5.out.1.far hb6).far FH,az R5.out.2 (az (aH hb6 _) (aH FH _))⟩
    clear hb6 FH;go_wp2;go_ret;exact ⟨_,rfl,HF.out⟩
  ·have hyb:(y==0)=false:=by simp [hy]
   clear hy
   obtain ⟨f,hf⟩:∃ f:Nat,(x)=(f:Int):=⟨(x).toNat,by omega⟩
   have hf1:f≤10000:=by omega
   have Kl:x=(f:Int):=hf;clear hf;go_wp2_with fail
   refine (aL R (p+1+1) 20 _ R3.out.1 (by omega) (by omega)).mono ?_
   rintro e w5 ⟨u,rfl,hu0,hu1,-,qA,hg5⟩
   have hu1:=hu1 (by omega)
   obtain ⟨un,rfl⟩:∃ n:Nat,u=n:=⟨u.toNat,by omega⟩
   have R5:Hid (Rd w5 R ((p+1+1)+1)∧w.grownBy w5 (some R)):=⟨qA,az R3.out.2 hg5⟩;clear qA hg5 R3
   by_cases hby:(10000:Int)<(f:Int)+(un:Int)
   focus
    have D1:=ay (bv f (by omega))
    have D2:=ay (bv 10000 (by omega))
    rw [show ((10000:Nat):Int)=10000 from rfl] at D2
    have hz1:=aR f (by omega)
    have hz2:=aR 10000 (by omega)
    generalize dW f=s1 at *;generalize dW 10000=s2 at *
   rotate_left
   focus
    have D1:=ay (bv f (by omega))
    have D2:=ay (bv (f+un) (by omega))
    rw [show ((f+un:Nat):Int)=(f:Int)+(un:Int) by omega] at D2
    have hz1:=aR f (by omega)
    have hz2:=aR (f+un) (by omega)
    generalize dW f=s1 at *;generalize dW (f+un)=s2 at *
   rotate_left
   all_goals
    have hq3:¬ 9223372036854775807<s1.size+1:=by omega
    have hq4:¬ 9223372036854775807<s1.size+1+s2.size:=by omega
    have hq1:¬ 9223372036854775807<s1.size+(⟨#[32]⟩:ByteArray).size:=by show ¬ 9223372036854775807<s1.size+1;omega
    have hq2:¬ 9223372036854775807<(s1++⟨#[32]⟩).size+s2.size:=by rw [ByteArray.size_append];show ¬ 9223372036854775807<s1.size+1+s2.size;omega
    go_wp2_with fail;refine (D1.out _).mono ?_;rintro e w6 ⟨rfl,hb6⟩;go_wp2_with fail;refine (D2.out _).mono ?_;rintro e w7 ⟨rfl,FH⟩
    have HF:Hid ((s1++⟨#[32]⟩++s2).size≤2000∧Out w R p 20 w7):=⟨by simp only [ByteArray.size_append];show s1.size+1+s2.size≤2000;omega,(p+1+1)+1,by omega,by omega,(R5.out.1.far hb6).far FH,az R5.out.2 (az (aH hb6 _) (aH FH _))⟩
    clear hb6 FH;go_wp2;go_ret;exact ⟨_,rfl,HF.out⟩
 have hb2:(what==2)=false:=by simp [h2]
 clear h2
 by_cases h3:what=3
 ·have hb3:(what==3)=true:=by simp [h3]
  clear h3
  go_enter Tryz.func110,Tryz.ntmps110
  go_wp2_with fail;generalize (w.alloc (.cells #[vk,.slice va ps.length vc] 27))=w1 at *
  refine (aL R p 6 _ HR1.out (by omega) (by omega)).mono ?_
  rintro e w2 ⟨x,rfl,hx0,hx1,-,hr2,hg2⟩
  have hx1:=hx1 (by omega)
  obtain ⟨xn,rfl⟩:∃ n:Nat,x=n:=⟨x.toNat,by omega⟩
  have R2:Hid (Rd w2 R (p+1)∧w.grownBy w2 (some R)):=⟨hr2,az (aH HB.out _) hg2⟩
  have D1:=ay (bv (1+xn) (by omega))
  rw [show ((1+xn:Nat):Int)=1+(xn:Int) by omega] at D1
  have hz1:=aR (1+xn) (by omega)
  generalize dW (1+xn)=s1 at *;clear hr2 hg2;go_wp2_with fail;refine (D1.out _).mono ?_;rintro e w6 ⟨rfl,hb6⟩
  have HF:Hid (s1.size≤2000∧Out w R p 20 w6):=⟨by omega,p+1,by omega,by omega,R2.out.1.far hb6,az R2.out.2 (aH hb6 _)⟩
  clear hb6;go_wp2;go_ret;exact ⟨_,rfl,HF.out⟩
 have hb3:(what==3)=false:=by simp [h3]
 clear h3
 by_cases h4:what=4
 ·have hb4:(what==4)=true:=by simp [h4]
  clear h4;obtain ⟨va',vc',hve,-,-,hvc⟩:=HV1.out
  obtain ⟨bP,oP,hap,-⟩:=hvc 0 _ (wM (by omega))
  cases hve
  subst hap;clear hvc
  go_enter Tryz.func110,Tryz.ntmps110
  go_wp2;generalize (w.alloc (.cells #[vk,.slice (some ⟨bP,oP,none⟩) ps.length vc] 27))=w1 at *
  have ku:Hid (∀ wx:World,w1.grownBy wx (some R)→wx.cell? ⟨w.heap.size,1,none⟩=some (.slice (some ⟨bP,oP,none⟩) ps.length vc)):=fun wx hg=>an (aV hg (by omega) jG.out) rfl
  have AZ:Hid (∀ wx:World,w1.grownBy wx (some R)→∀ i,i<ps.length→wx.cell? ⟨bP,oP+i*3,none⟩=some (.string (I6 ps i).s)∧(I6 ps i).s.size≤100):=fun wx hg i hi=>by
   obtain ⟨va',vc',hve,-,-,hvc⟩:=cu HV1.out HR1.out hg;obtain ⟨b,o,hap,d0,-⟩:=hvc i _ (wM hi)
   cases hve
   cases hap
   exact ⟨d0,HNN.out _ (List.mem_of_getElem? (wM hi))⟩
  have HRF:Hid (w1.grownBy w1 (some R)):=aH (Below.refl _ _) _;refine wp_region_noPanic ?_
  refine wp_region_held_drew (S:=fun wx=>wx.cell? ⟨w.heap.size,1,none⟩=some (.slice (some ⟨bP,oP,none⟩) ps.length vc)) (by kernel_rfl) ?_ (fun hHeld=>?_)
  ·exact ku.out _ (az HRF.out (aH (Below.refl _ _).drew _))
  have RD:Hid (Rd w1.drew R p∧w1.grownBy w1.drew (some R)):=⟨HR1.out.far (Below.refl _ _).drew,az HRF.out (aH (Below.refl _ _).drew _)⟩;generalize w1.drew=WD at *;refine aO 0 ?_ rfl ?_ (aO 1 ?_ rfl ?_ (aO 2 ?_ rfl ?_ (aO 3 ?_ rfl ?_ (aO 4 ?_ rfl ?_ (aO 5 ?_ rfl ?_ ?_)))))
  iterate 6 (rotate_left;focus (intro w hSw;(try dsimp only at hSw);simp only [Act.put,aU];go_simp;try with_reducible rfl))
  simp only [Act.put,aU]
  clear hHeld;refine bE 6 rfl (fun K hK=>?_);go_simp
  refine (aL R p (ps.length:Int) _ RD.out.1 (by omega) (by omega)).mono ?_
  rintro e w2 ⟨x,rfl,hx0,hx1,-,hr,hg⟩
  have hx1:=hx1 (by omega)
  obtain ⟨i,rfl⟩:∃ n:Nat,x=n:=⟨x.toNat,by omega⟩
  have R2:Hid (Rd w2 R (p+1)∧w1.grownBy w2 (some R)):=⟨hr,az RD.out.2 hg⟩;have hHeld:=ku.out _ R2.out.2;refine hK.out _ _ hHeld (fun _=>?_);clear hK K hr hg RD
  have c0:=(AZ.out _ R2.out.2 i (by omega)).1
  have hsz:=(AZ.out _ R2.out.2 i (by omega)).2
  generalize (I6 ps i).s=s0 at *;refine bE 7 rfl (fun K hK=>?_);go_simp;refine hK.out _ _ hHeld (fun _=>?_);clear hK K;refine bE 8 rfl (fun K hK=>?_);go_simp;refine hK.out _ _ hHeld (fun _=>?_);clear hK K;refine bE 9 rfl (fun K hK=>?_);go_simp;refine hK.out _ _ hHeld (fun _=>?_);clear hK K;refine bE 10 rfl (fun K hK=>?_);go_simp;refine hK.out _ _ hHeld (fun _=>?_);clear hK K
  refine wpAnyH_done (by kernel_rfl) ?_ _
  refine NoPanic.normal ?_;clear hHeld c0;go_wp2_with fail
  refine (aL R (p+1) 4 _ R2.out.1 (by omega) (by omega)).mono ?_
  rintro e w3 ⟨x3,rfl,hx30,hx31,-,hr3,hg3⟩
  have hx31:=hx31 (by omega)
  obtain ⟨n3,rfl⟩:∃ n:Nat,x3=n:=⟨x3.toNat,by omega⟩
  have R3:Hid (Rd w3 R (p+1+1)∧w1.grownBy w3 (some R)):=⟨hr3,az R2.out.2 hg3⟩;clear hr3 hg3 R2;go_wp2_with fail
  refine (aL R (p+1+1) 8 _ R3.out.1 (by omega) (by omega)).mono ?_
  rintro e w4 ⟨x4,rfl,hx40,hx41,-,hr4,hg4⟩;have R4:Hid (Rd w4 R (p+1+1+1)∧w1.grownBy w4 (some R)):=⟨hr4,az R3.out.2 hg4⟩;clear hr4 hg4 R3 hx41
  obtain ⟨N0,hN0,hN1⟩:∃ n:Nat,n≤7∧(if x4=0 then 7 else 1+(n3:Int))=(n:Int):=by
   by_cases e:x4=0
   ·exact ⟨7,by omega,by rw [if_pos e];rfl⟩
   ·exact ⟨1+n3,by omega,by rw [if_neg e];omega⟩
  have HLOOP:Hid (s0.size+N0*101≤807∧∃ px,Rd w4 R px∧px+N0≤p+12∧p≤px∧w1.grownBy w4 (some R)):=⟨by omega,p+1+1+1,R4.out.1,by omega,by omega,R4.out.2⟩
  by_cases h40:x4=0
  focus
   have hb40:(x4==0)=true:=by simp [h40]
   rw [if_pos h40] at hN1
   have hN7:N0=7:=by omega
   clear h40 hN1
  rotate_left
  focus
   have hb40:(x4==0)=false:=by simp [h40]
   rw [if_neg h40] at hN1;clear h40
  rotate_left
  all_goals
   go_wp2
   go_loopw [9,10,11] (fun ov lv nv wr=>∃ (s t:ByteArray) (m:Nat),ov=.string s∧lv=.string t∧nv=.int .i64 m∧m≤7∧Hid (s.size+m*101≤807∧∃ px,Rd wr R px∧px+m≤p+12∧p≤px∧w1.grownBy wr (some R))) (fun _ _ nv _=>(intOf nv).toNat)
   case atStart=>exact ⟨s0,s0,N0,rfl,rfl,by first | rfl | (congr 1;omega),hN0,HLOOP⟩
   case round =>
    obtain ⟨s,t,m,rfl,rfl,rfl,hm,HI⟩:=hrel;obtain ⟨hsz1,px,hrx,hpx1,hpx2,hgx⟩:=HI.out
    by_cases hm0:m=0
    ·subst hm0
     have HF:Hid (s.size≤2000∧Out w R p 20 wr):=⟨by omega,px,by omega,by omega,hrx,az (aH HB.out _) hgx⟩
     clear HI hrx hgx;go_wp2;go_ret;exact ⟨s,rfl,HF.out⟩
    ·have hmp:(0:Int)<(m:Int):=by omega
     have RX:Hid (Rd wr R px∧w1.grownBy wr (some R)):=⟨hrx,hgx⟩;clear HI hrx hgx;go_wp2;refine wp_region_noPanic ?_
     refine wp_region_held_drew (S:=fun wx=>wx.cell? ⟨w.heap.size,1,none⟩=some (.slice (some ⟨bP,oP,none⟩) ps.length vc)) (by kernel_rfl) ?_ (fun hHeld=>?_)
     ·exact ku.out _ (az RX.out.2 (aH (Below.refl _ _).drew _))
     have RD:Hid (Rd wr.drew R px∧w1.grownBy wr.drew (some R)):=⟨RX.out.1.far (Below.refl _ _).drew,az RX.out.2 (aH (Below.refl _ _).drew _)⟩;generalize wr.drew=WD at *;refine aO 0 ?_ rfl ?_ (aO 1 ?_ rfl ?_ (aO 2 ?_ rfl ?_ (aO 3 ?_ rfl ?_ (aO 4 ?_ rfl ?_ (aO 5 ?_ rfl ?_ ?_)))))
     iterate 6 (rotate_left;focus (intro w hSw;(try dsimp only at hSw);simp only [Act.put,aU];go_simp;try with_reducible rfl))
     simp only [Act.put,aU]
     clear hHeld;refine bE 6 rfl (fun K hK=>?_);go_simp
     refine (aL R px (ps.length:Int) _ RD.out.1 (by omega) (by omega)).mono ?_
     rintro e w6 ⟨x,rfl,hx0,hx1,-,hr,hg⟩
     have hx1:=hx1 (by omega)
     obtain ⟨i,rfl⟩:∃ n:Nat,x=n:=⟨x.toNat,by omega⟩
     have R6:Hid (Rd w6 R (px+1)∧w1.grownBy w6 (some R)):=⟨hr,az RD.out.2 hg⟩;have hHeld:=ku.out _ R6.out.2;refine hK.out _ _ hHeld (fun _=>?_);clear hK K hr hg RD
     have c0:=(AZ.out _ R6.out.2 i (by omega)).1
     have hsz:=(AZ.out _ R6.out.2 i (by omega)).2
     generalize (I6 ps i).s=s1 at *;refine bE 7 rfl (fun K hK=>?_);go_simp;refine hK.out _ _ hHeld (fun _=>?_);clear hK K;refine bE 8 rfl (fun K hK=>?_);go_simp;refine hK.out _ _ hHeld (fun _=>?_);clear hK K;refine bE 9 rfl (fun K hK=>?_);go_simp;refine hK.out _ _ hHeld (fun _=>?_);clear hK K;refine bE 10 rfl (fun K hK=>?_);go_simp;refine hK.out _ _ hHeld (fun _=>?_);clear hK K
     refine wpAnyH_done (by kernel_rfl) ?_ _
     refine NoPanic.normal ?_;clear hHeld c0
     obtain ⟨m1,rfl⟩:∃ m1,m=m1+1:=⟨m-1,by omega⟩
     have HQW:Hid (wrap64 (((m1+1:Nat):Int)-1)=(m1:Int)):=by show _=_;unfold wrap64;omega
     obtain ⟨bb,hbb⟩:∃ b,(s1.toList==t.toList)=b:=⟨_,rfl⟩
     cases bb
     rotate_left
     ·have HN:Hid (s.size+m1*101≤807∧∃ px,Rd w6 R px∧px+m1≤p+12∧p≤px∧w1.grownBy w6 (some R)):=⟨by omega,px+1,R6.out.1,by omega,by omega,R6.out.2⟩
      go_wp2
      exact ⟨⟨s,t,m1,rfl,rfl,by first | rfl | (congr 1;push_cast;omega) | rw [HQW.out],by omega,HN⟩,by simp [intOf]⟩
     ·have hq1:¬ 9223372036854775807<s.size+1:=by omega
      have hq2:¬ 9223372036854775807<s.size+1+s1.size:=by omega
      have hq3:¬ 9223372036854775807<(s++⟨#[32]⟩).size+s1.size:=by rw [ByteArray.size_append];show ¬ 9223372036854775807<s.size+1+s1.size;omega
      have HN:Hid ((s++⟨#[32]⟩++s1).size+m1*101≤807∧∃ px,Rd w6 R px∧px+m1≤p+12∧p≤px∧w1.grownBy w6 (some R)):=⟨by simp only [ByteArray.size_append];show s.size+1+s1.size+m1*101≤807;omega,px+1,R6.out.1,by omega,by omega,R6.out.2⟩
      go_wp2
      exact ⟨⟨s++⟨#[32]⟩++s1,s1,m1,rfl,rfl,by first | rfl | (congr 1;push_cast;omega) | rw [HQW.out],by omega,HN⟩,by simp [intOf]⟩
 have hb4:(what==4)=false:=by simp [h4]
 clear h4;have HK:Hid (Below (w.alloc (.cells #[vk,.slice va ps.length vc] 27)).heap.size (w.alloc (.cells #[vk,.slice va ps.length vc] 27)) ((w.alloc (.cells #[vk,.slice va ps.length vc] 27)).alloc (.cells #[.string ⟨#[111,112,101,110]⟩,.string ⟨#[99,108,111,115,101,100]⟩] 9))):=(aM)
 have HS:Hid (dV ((w.alloc (.cells #[vk,.slice va ps.length vc] 27)).alloc (.cells #[.string ⟨#[111,112,101,110]⟩,.string ⟨#[99,108,111,115,101,100]⟩] 9)) (.slice (some ⟨w.heap.size+1,0,none⟩) 2 2) Bn):=by
  have h:=aI (w.alloc (.cells #[vk,.slice va ps.length vc] 27)) (.cells #[.string ⟨#[111,112,101,110]⟩,.string ⟨#[99,108,111,115,101,100]⟩] 9);rw [HZ1.out] at h
  exact mW Bn h rfl (by decide)
 have HO:=ay (qO R p _ Bn _ (HR1.out.far HK.out) (by omega) HS.out (by decide))
 go_enter Tryz.func110,Tryz.ntmps110
 go_wp2_with fail;refine HO.out.mono ?_;rintro e w1 ⟨s,rfl,hs,hr,hg⟩
 have HF:Hid (s.size≤2000∧Out w R p 20 w1):=⟨by have:=F8 s hs;omega,p+1,by omega,by omega,hr,az (aH HB.out _) (az (aH HK.out _) hg)⟩
 clear hs hr hg;go_wp2;go_ret;exact ⟨s,rfl,HF.out⟩
open Go.RowKit
def flL:List ByteArray:=[⟨#[107,108,49]⟩,⟨#[107,108,49]⟩,⟨#[107,108,49]⟩,⟨#[98,97,45,50]⟩,⟨#[98,97,45,50]⟩,⟨#[108,104,51]⟩,⟨#[120]⟩]
theorem Cm:∀ s∈flL,s.size≤100:=by decide
theorem cP {w:World} {b o:Nat} {cs:Array Value} {x:Value} {t:TypeId} (h:w.heap[b]?=some (.cells cs t (0,0))):(w.setCell ⟨b,o,none⟩ x).heap[b]?=some (.cells (cs.setIfInBounds o x) t (0,0)):=by
 have hlt:=aP h
 have h':w.heap[b]=.cells cs t (0,0):=by simpa [Array.getElem?_eq_getElem hlt] using h
 show (w.heap.modify b _)[b]?=_
 rw [Array.getElem?_eq_getElem (by simpa using hlt),Array.getElem_modify_self,h']
 rfl
theorem BU (R p:Nat) (vk vp:Value) (ps:List dx) (w:World) (h:Rd w R p) (hp:p≤800000) (hv:dA w vp ps) (hps:1≤ps.length∧ps.length≤1000) (hn:∀ t∈ps,t.s.size≤100) :
  Calls Tryz.prog 153 #[.pointer (some ⟨R,0,none⟩),.agg #[vk,vp]] w fun e w'=>∃ (f:ByteArray) (wh num:Int) (s:ByteArray),e=.returned (.agg #[.string f,.int .i64 wh,.int .i64 num,.string s])∧f.size≤100∧s.size≤2000∧(1≤wh∧wh≤5)∧(1≤num∧num≤12)∧Out w R p 40 w':=by
 have gM:=h.lt;have HNN:Hid (∀ t∈ps,t.s.size≤100):=hn;have HV0:Hid (dA w vp ps):=hv;obtain ⟨va,vc,rfl,hvl,LJ,-⟩:=hv;unfold maxLen at LJ;obtain ⟨JH,JG⟩:=hps
 have HB:Hid (Below w.heap.size w ((w.alloc (.cells #[vk,.slice va ps.length vc] 27)).alloc (.cells #[.string ⟨#[]⟩,.int .i64 0,.int .i64 0,.string ⟨#[]⟩] 76))):=(aM).alloc (by simp) _
 have HR1:Hid (Rd ((w.alloc (.cells #[vk,.slice va ps.length vc] 27)).alloc (.cells #[.string ⟨#[]⟩,.int .i64 0,.int .i64 0,.string ⟨#[]⟩] 76)) R p):=h.far HB.out
 have jG:Hid (((w.alloc (.cells #[vk,.slice va ps.length vc] 27)).alloc (.cells #[.string ⟨#[]⟩,.int .i64 0,.int .i64 0,.string ⟨#[]⟩] 76)).heap[w.heap.size]?=some (.cells #[vk,.slice va ps.length vc] 27 (0,0))):=by
  show _=_
  rw [(((aM):Below (w.alloc (.cells #[vk,.slice va ps.length vc] 27)).heap.size (w.alloc (.cells #[vk,.slice va ps.length vc] 27)) ((w.alloc (.cells #[vk,.slice va ps.length vc] 27)).alloc (.cells #[.string ⟨#[]⟩,.int .i64 0,.int .i64 0,.string ⟨#[]⟩] 76)))).block _ (by simp)]
  exact aI w _
 have jF:Hid (((w.alloc (.cells #[vk,.slice va ps.length vc] 27)).alloc (.cells #[.string ⟨#[]⟩,.int .i64 0,.int .i64 0,.string ⟨#[]⟩] 76)).heap[w.heap.size+1]?=some (.cells #[.string ⟨#[]⟩,.int .i64 0,.int .i64 0,.string ⟨#[]⟩] 76 (0,0))):=by
  have h:=aI (w.alloc (.cells #[vk,.slice va ps.length vc] 27)) (.cells #[.string ⟨#[]⟩,.int .i64 0,.int .i64 0,.string ⟨#[]⟩] 76)
  rw [show (w.alloc (.cells #[vk,.slice va ps.length vc] 27)).heap.size=w.heap.size+1 by simp] at h
  exact h
 have HZ1:Hid (((w.alloc (.cells #[vk,.slice va ps.length vc] 27)).alloc (.cells #[.string ⟨#[]⟩,.int .i64 0,.int .i64 0,.string ⟨#[]⟩] 76)).heap.size=w.heap.size+2):=by show _=_;simp
 have HV1:Hid (dA ((w.alloc (.cells #[vk,.slice va ps.length vc] 27)).alloc (.cells #[.string ⟨#[]⟩,.int .i64 0,.int .i64 0,.string ⟨#[]⟩] 76)) (.slice va ps.length vc) ps):=HV0.out.keep HB.out;clear h hn
 go_enter Tryz.func153,Tryz.ntmps153
 go_wp2_with fail;generalize ((w.alloc (.cells #[vk,.slice va ps.length vc] 27)).alloc (.cells #[.string ⟨#[]⟩,.int .i64 0,.int .i64 0,.string ⟨#[]⟩] 76))=w1 at *
 have ku:Hid (∀ wx:World,w1.grownBy wx (some R)→wx.cell? ⟨w.heap.size,0,none⟩=some vk∧wx.cell? ⟨w.heap.size,1,none⟩=some (.slice va ps.length vc)):=fun wx hg=>⟨an (aV hg (by omega) jG.out) rfl,an (aV hg (by omega) jG.out) rfl⟩
 have HRX:Hid (∀ wx:World,w1.grownBy wx (some R)→wx.heap[w.heap.size+1]?=some (.cells #[.string ⟨#[]⟩,.int .i64 0,.int .i64 0,.string ⟨#[]⟩] 76 (0,0))):=fun wx hg=>aV hg (by omega) jF.out
 have HVX:Hid (∀ wx:World,w1.grownBy wx (some R)→dA wx (.slice va ps.length vc) ps):=fun wx hg=>cu HV1.out HR1.out hg
 have HZX:Hid (∀ wx:World,w1.grownBy wx (some R)→w.heap.size+2≤wx.heap.size):=fun wx hg=>by have:=hg.size;have:=HZ1.out;omega
 refine (aL R p 5 _ HR1.out (by omega) (by omega)).mono ?_
 rintro e w2 ⟨x,rfl,hx0,hx1,-,hr2,hg2⟩
 have hx1:=hx1 (by omega)
 have R2:Hid (Rd w2 R (p+1)∧w1.grownBy w2 (some R)):=⟨hr2,hg2⟩;clear hr2 hg2
 by_cases h5:x=4
 ·subst h5
  go_wp2_with fail
  refine (aL R (p+1) 2 _ R2.out.1 (by omega) (by omega)).mono ?_
  rintro e w3 ⟨y,rfl,hy0,hy1,-,hr3,hg3⟩;have R3:Hid (Rd w3 R (p+1+1)∧w1.grownBy w3 (some R)):=⟨hr3,az R2.out.2 hg3⟩;clear hr3 hg3 R2 hy1
  by_cases hy:y=0
  ·have hyb:(y==0)=true:=by simp [hy]
   clear hy;have HK:Hid (Below w3.heap.size w3 (w3.alloc (.cells #[.string ⟨#[107,108,49]⟩,.string ⟨#[107,108,49]⟩,.string ⟨#[107,108,49]⟩,.string ⟨#[98,97,45,50]⟩,.string ⟨#[98,97,45,50]⟩,.string ⟨#[108,104,51]⟩,.string ⟨#[120]⟩] 9))):=(aM)
   have HS:Hid (dV (w3.alloc (.cells #[.string ⟨#[107,108,49]⟩,.string ⟨#[107,108,49]⟩,.string ⟨#[107,108,49]⟩,.string ⟨#[98,97,45,50]⟩,.string ⟨#[98,97,45,50]⟩,.string ⟨#[108,104,51]⟩,.string ⟨#[120]⟩] 9)) (.slice (some ⟨w3.heap.size,0,none⟩) 7 7) flL):=mW flL (aI w3 _) rfl (by decide)
   have HO:=ay (qO R (p+1+1) _ flL _ (R3.out.1.far HK.out) (by omega) HS.out (by decide))
   go_wp2_with fail;refine HO.out.mono ?_;rintro e w4 ⟨f,rfl,hf,hr4,hg4⟩;have hfs:=Cm f hf;have R4:Hid (Rd w4 R ((p+1+1)+1)∧w1.grownBy w4 (some R)):=⟨hr4,az R3.out.2 (az (aH HK.out _) hg4)⟩;clear hf hr4 hg4 HO HS HK R3;go_wp2_with fail
   refine (aL R ((p+1+1)+1) 12 _ R4.out.1 (by omega) (by omega)).mono ?_
   rintro e w5 ⟨z,rfl,hz0,hz1,-,qA,hg5⟩
   have hz1:=hz1 (by omega)
   have R5:Hid (Rd w5 R ((p+1+1)+1+1)∧w1.grownBy w5 (some R)):=⟨qA,az R4.out.2 hg5⟩;clear qA hg5 R4;have B6:Hid (Below w5.heap.size w5 (w5.alloc (.cells #[.string f,.int .i64 4,.int .i64 (1+z),.string ⟨#[]⟩] 76))):=(aM);have X6:Hid ((w5.alloc (.cells #[.string f,.int .i64 4,.int .i64 (1+z),.string ⟨#[]⟩] 76)).heap[w5.heap.size]?=some (.cells #[.string f,.int .i64 4,.int .i64 (1+z),.string ⟨#[]⟩] 76 (0,0))):=aI w5 _;have R6:Hid (Rd (w5.alloc (.cells #[.string f,.int .i64 4,.int .i64 (1+z),.string ⟨#[]⟩] 76)) R ((p+1+1)+1+1)∧w1.grownBy (w5.alloc (.cells #[.string f,.int .i64 4,.int .i64 (1+z),.string ⟨#[]⟩] 76)) (some R)):=⟨R5.out.1.far B6.out,az R5.out.2 (aH B6.out _)⟩;have hRw5:=R5.out.1.lt;have HZ5:=ay (HZX.out _ R5.out.2);have b0:=(ku.out _ R6.out.2).1;have b1:=(ku.out _ R6.out.2).2;have b0':=(ku.out _ R5.out.2).1;have b1':=(ku.out _ R5.out.2).2;have zb:=av b0';go_wp2_with fail;generalize (w5.alloc (.cells #[.string f,.int .i64 4,.int .i64 (1+z),.string ⟨#[]⟩] 76))=w6 at *;clear b0 b1 b0' b1' R5
   refine (lQ R ((p+1+1)+1+1) vk _ ps 4 _ R6.out.1 (by omega) (HVX.out _ R6.out.2) ⟨JH,JG⟩ HNN.out).mono ?_
   rintro e w7 ⟨s,rfl,hs,p7,hp71,hp72,sG,lT⟩
   have X7:Hid (w7.heap[w5.heap.size]?=some (.cells #[.string f,.int .i64 4,.int .i64 (1+z),.string ⟨#[]⟩] 76 (0,0))):=aV lT (by omega) X6.out
   have R7:Hid (Rd w7 R p7∧w1.grownBy w7 (some R)):=⟨sG,az R6.out.2 lT⟩;clear sG lT R6 X6;have hx7:=X7.out;have lz:=an hx7 (i:=3) rfl
   have Eh:w7.frozen? ⟨w5.heap.size,3,none⟩=false:=by simp [World.frozen?,hx7]
   have X8:Hid ((w7.setCell ⟨w5.heap.size,3,none⟩ (.string s)).heap[w5.heap.size]?=some (.cells #[.string f,.int .i64 4,.int .i64 (1+z),.string s] 76 (0,0))):=cP hx7;have HO8:Hid (∀ b,b≠w5.heap.size→(w7.setCell ⟨w5.heap.size,3,none⟩ (.string s)).heap[b]?=w7.heap[b]?):=fun b hb=>Below.heap_setCell w7 ⟨w5.heap.size,3,none⟩ (.string s) b hb
   have HZ8:Hid (w7.heap.size≤(w7.setCell ⟨w5.heap.size,3,none⟩ (.string s)).heap.size):=by show _≤_;simp
   have G8:Hid (w7.grownBy (w7.setCell ⟨w5.heap.size,3,none⟩ (.string s)) (some w5.heap.size)):=bF w7 _ 3 _;clear hx7 X7;have EF:=X8.out;have e0:=an EF (i:=0) rfl;have e1:=an EF (i:=1) rfl;have e2:=an EF (i:=2) rfl;have e3:=an EF (i:=3) rfl;clear EF;have hw15:=HZ5.out
   have hR8:(w7.setCell ⟨w5.heap.size,3,none⟩ (.string s)).heap[w.heap.size+1]?=some (.cells #[.string ⟨#[]⟩,.int .i64 0,.int .i64 0,.string ⟨#[]⟩] 76 (0,0)):=(HO8.out _ (by omega)).trans (HRX.out _ R7.out.2)
   have qF:Hid (Out w R p 40 ((w7.setCell ⟨w5.heap.size,3,none⟩ (.string s)).setRow (w.heap.size+1) #[.string f,.int .i64 4,.int .i64 (1+z),.string s])):=by
    refine ⟨p7,by omega,by omega,(R7.out.1.late (fun j hj=>HO8.out j (by omega))).late (fun j hj=>setRow_other _ _ _ _ (by omega)),bX (bV (az (aH HB.out _) R7.out.2) 3 _ (by omega)) _ (by omega)⟩
   go_wp2_with (refine wpList_store_row rfl 76 _ _ rfl (w.heap.size+1) #[.string f,.int .i64 4,.int .i64 (1+z),.string s] rfl rfl 76 _ hR8 (by kernel_rfl) rfl (by simp [Value.oneCell']) ?_)
   exact bodyPost_ret (v:=.agg #[.string f,.int .i64 4,.int .i64 (1+z),.string s]) (by simp [results,Tryz.results153,go_sem,cell_setRow_same _ _ _ _ _ _ _ hR8]) rfl ⟨f,4,1+z,s,rfl,by omega,by omega,by omega,by omega,qF.out⟩
  ·have hyb:(y==0)=false:=by simp [hy]
   clear hy;have HK:Hid (Below w3.heap.size w3 (w3.alloc (.cells #[.string ⟨#[107,108,49]⟩,.string ⟨#[107,108,49]⟩,.string ⟨#[107,108,49]⟩,.string ⟨#[98,97,45,50]⟩,.string ⟨#[98,97,45,50]⟩,.string ⟨#[108,104,51]⟩,.string ⟨#[120]⟩] 9))):=(aM)
   have HS:Hid (dV (w3.alloc (.cells #[.string ⟨#[107,108,49]⟩,.string ⟨#[107,108,49]⟩,.string ⟨#[107,108,49]⟩,.string ⟨#[98,97,45,50]⟩,.string ⟨#[98,97,45,50]⟩,.string ⟨#[108,104,51]⟩,.string ⟨#[120]⟩] 9)) (.slice (some ⟨w3.heap.size,0,none⟩) 7 7) flL):=mW flL (aI w3 _) rfl (by decide)
   have HO:=ay (qO R (p+1+1) _ flL _ (R3.out.1.far HK.out) (by omega) HS.out (by decide))
   go_wp2_with fail;refine HO.out.mono ?_;rintro e w4 ⟨f,rfl,hf,hr4,hg4⟩;have hfs:=Cm f hf;have R4:Hid (Rd w4 R ((p+1+1)+1)∧w1.grownBy w4 (some R)):=⟨hr4,az R3.out.2 (az (aH HK.out _) hg4)⟩;clear hf hr4 hg4 HO HS HK R3;go_wp2_with fail
   refine (aL R ((p+1+1)+1) 12 _ R4.out.1 (by omega) (by omega)).mono ?_
   rintro e w5 ⟨z,rfl,hz0,hz1,-,qA,hg5⟩
   have hz1:=hz1 (by omega)
   have R5:Hid (Rd w5 R ((p+1+1)+1+1)∧w1.grownBy w5 (some R)):=⟨qA,az R4.out.2 hg5⟩;clear qA hg5 R4;have B6:Hid (Below w5.heap.size w5 (w5.alloc (.cells #[.string f,.int .i64 5,.int .i64 (1+z),.string ⟨#[]⟩] 76))):=(aM);have X6:Hid ((w5.alloc (.cells #[.string f,.int .i64 5,.int .i64 (1+z),.string ⟨#[]⟩] 76)).heap[w5.heap.size]?=some (.cells #[.string f,.int .i64 5,.int .i64 (1+z),.string ⟨#[]⟩] 76 (0,0))):=aI w5 _;have R6:Hid (Rd (w5.alloc (.cells #[.string f,.int .i64 5,.int .i64 (1+z),.string ⟨#[]⟩] 76)) R ((p+1+1)+1+1)∧w1.grownBy (w5.alloc (.cells #[.string f,.int .i64 5,.int .i64 (1+z),.string ⟨#[]⟩] 76)) (some R)):=⟨R5.out.1.far B6.out,az R5.out.2 (aH B6.out _)⟩;have hRw5:=R5.out.1.lt;have HZ5:=ay (HZX.out _ R5.out.2);have b0:=(ku.out _ R6.out.2).1;have b1:=(ku.out _ R6.out.2).2;have b0':=(ku.out _ R5.out.2).1;have b1':=(ku.out _ R5.out.2).2;have zb:=av b0';go_wp2_with fail;generalize (w5.alloc (.cells #[.string f,.int .i64 5,.int .i64 (1+z),.string ⟨#[]⟩] 76))=w6 at *;clear b0 b1 b0' b1' R5
   refine (lQ R ((p+1+1)+1+1) vk _ ps 5 _ R6.out.1 (by omega) (HVX.out _ R6.out.2) ⟨JH,JG⟩ HNN.out).mono ?_
   rintro e w7 ⟨s,rfl,hs,p7,hp71,hp72,sG,lT⟩
   have X7:Hid (w7.heap[w5.heap.size]?=some (.cells #[.string f,.int .i64 5,.int .i64 (1+z),.string ⟨#[]⟩] 76 (0,0))):=aV lT (by omega) X6.out
   have R7:Hid (Rd w7 R p7∧w1.grownBy w7 (some R)):=⟨sG,az R6.out.2 lT⟩;clear sG lT R6 X6;have hx7:=X7.out;have lz:=an hx7 (i:=3) rfl
   have Eh:w7.frozen? ⟨w5.heap.size,3,none⟩=false:=by simp [World.frozen?,hx7]
   have X8:Hid ((w7.setCell ⟨w5.heap.size,3,none⟩ (.string s)).heap[w5.heap.size]?=some (.cells #[.string f,.int .i64 5,.int .i64 (1+z),.string s] 76 (0,0))):=cP hx7;have HO8:Hid (∀ b,b≠w5.heap.size→(w7.setCell ⟨w5.heap.size,3,none⟩ (.string s)).heap[b]?=w7.heap[b]?):=fun b hb=>Below.heap_setCell w7 ⟨w5.heap.size,3,none⟩ (.string s) b hb
   have HZ8:Hid (w7.heap.size≤(w7.setCell ⟨w5.heap.size,3,none⟩ (.string s)).heap.size):=by show _≤_;simp
   have G8:Hid (w7.grownBy (w7.setCell ⟨w5.heap.size,3,none⟩ (.string s)) (some w5.heap.size)):=bF w7 _ 3 _;clear hx7 X7;have EF:=X8.out;have e0:=an EF (i:=0) rfl;have e1:=an EF (i:=1) rfl;have e2:=an EF (i:=2) rfl;have e3:=an EF (i:=3) rfl;clear EF;have hw15:=HZ5.out
   have hR8:(w7.setCell ⟨w5.heap.size,3,none⟩ (.string s)).heap[w.heap.size+1]?=some (.cells #[.string ⟨#[]⟩,.int .i64 0,.int .i64 0,.string ⟨#[]⟩] 76 (0,0)):=(HO8.out _ (by omega)).trans (HRX.out _ R7.out.2)
   have qF:Hid (Out w R p 40 ((w7.setCell ⟨w5.heap.size,3,none⟩ (.string s)).setRow (w.heap.size+1) #[.string f,.int .i64 5,.int .i64 (1+z),.string s])):=by
    refine ⟨p7,by omega,by omega,(R7.out.1.late (fun j hj=>HO8.out j (by omega))).late (fun j hj=>setRow_other _ _ _ _ (by omega)),bX (bV (az (aH HB.out _) R7.out.2) 3 _ (by omega)) _ (by omega)⟩
   go_wp2_with (refine wpList_store_row rfl 76 _ _ rfl (w.heap.size+1) #[.string f,.int .i64 5,.int .i64 (1+z),.string s] rfl rfl 76 _ hR8 (by kernel_rfl) rfl (by simp [Value.oneCell']) ?_)
   exact bodyPost_ret (v:=.agg #[.string f,.int .i64 5,.int .i64 (1+z),.string s]) (by simp [results,Tryz.results153,go_sem,cell_setRow_same _ _ _ _ _ _ _ hR8]) rfl ⟨f,5,1+z,s,rfl,by omega,by omega,by omega,by omega,qF.out⟩
 ·have h5b:((1+x)==5)=false:=by simp;omega
  have h5c:¬ 1+x=5:=by omega
  clear h5;have HK:Hid (Below w2.heap.size w2 (w2.alloc (.cells #[.string ⟨#[107,108,49]⟩,.string ⟨#[107,108,49]⟩,.string ⟨#[107,108,49]⟩,.string ⟨#[98,97,45,50]⟩,.string ⟨#[98,97,45,50]⟩,.string ⟨#[108,104,51]⟩,.string ⟨#[120]⟩] 9))):=(aM)
  have HS:Hid (dV (w2.alloc (.cells #[.string ⟨#[107,108,49]⟩,.string ⟨#[107,108,49]⟩,.string ⟨#[107,108,49]⟩,.string ⟨#[98,97,45,50]⟩,.string ⟨#[98,97,45,50]⟩,.string ⟨#[108,104,51]⟩,.string ⟨#[120]⟩] 9)) (.slice (some ⟨w2.heap.size,0,none⟩) 7 7) flL):=mW flL (aI w2 _) rfl (by decide)
  have HO:=ay (qO R (p+1) _ flL _ (R2.out.1.far HK.out) (by omega) HS.out (by decide))
  go_wp2_with fail;refine HO.out.mono ?_;rintro e w4 ⟨f,rfl,hf,hr4,hg4⟩;have hfs:=Cm f hf;have R4:Hid (Rd w4 R ((p+1)+1)∧w1.grownBy w4 (some R)):=⟨hr4,az R2.out.2 (az (aH HK.out _) hg4)⟩;clear hf hr4 hg4 HO HS HK R2;go_wp2_with fail
  refine (aL R ((p+1)+1) 12 _ R4.out.1 (by omega) (by omega)).mono ?_
  rintro e w5 ⟨z,rfl,hz0,hz1,-,qA,hg5⟩
  have hz1:=hz1 (by omega)
  have R5:Hid (Rd w5 R ((p+1)+1+1)∧w1.grownBy w5 (some R)):=⟨qA,az R4.out.2 hg5⟩;clear qA hg5 R4;have B6:Hid (Below w5.heap.size w5 (w5.alloc (.cells #[.string f,.int .i64 (1+x),.int .i64 (1+z),.string ⟨#[]⟩] 76))):=(aM);have X6:Hid ((w5.alloc (.cells #[.string f,.int .i64 (1+x),.int .i64 (1+z),.string ⟨#[]⟩] 76)).heap[w5.heap.size]?=some (.cells #[.string f,.int .i64 (1+x),.int .i64 (1+z),.string ⟨#[]⟩] 76 (0,0))):=aI w5 _;have R6:Hid (Rd (w5.alloc (.cells #[.string f,.int .i64 (1+x),.int .i64 (1+z),.string ⟨#[]⟩] 76)) R ((p+1)+1+1)∧w1.grownBy (w5.alloc (.cells #[.string f,.int .i64 (1+x),.int .i64 (1+z),.string ⟨#[]⟩] 76)) (some R)):=⟨R5.out.1.far B6.out,az R5.out.2 (aH B6.out _)⟩;have hRw5:=R5.out.1.lt;have HZ5:=ay (HZX.out _ R5.out.2);have b0:=(ku.out _ R6.out.2).1;have b1:=(ku.out _ R6.out.2).2;have b0':=(ku.out _ R5.out.2).1;have b1':=(ku.out _ R5.out.2).2;have zb:=av b0';go_wp2_with fail;generalize (w5.alloc (.cells #[.string f,.int .i64 (1+x),.int .i64 (1+z),.string ⟨#[]⟩] 76))=w6 at *;clear b0 b1 b0' b1' R5
  refine (lQ R ((p+1)+1+1) vk _ ps (1+x) _ R6.out.1 (by omega) (HVX.out _ R6.out.2) ⟨JH,JG⟩ HNN.out).mono ?_
  rintro e w7 ⟨s,rfl,hs,p7,hp71,hp72,sG,lT⟩
  have X7:Hid (w7.heap[w5.heap.size]?=some (.cells #[.string f,.int .i64 (1+x),.int .i64 (1+z),.string ⟨#[]⟩] 76 (0,0))):=aV lT (by omega) X6.out
  have R7:Hid (Rd w7 R p7∧w1.grownBy w7 (some R)):=⟨sG,az R6.out.2 lT⟩;clear sG lT R6 X6;have hx7:=X7.out;have lz:=an hx7 (i:=3) rfl
  have Eh:w7.frozen? ⟨w5.heap.size,3,none⟩=false:=by simp [World.frozen?,hx7]
  have X8:Hid ((w7.setCell ⟨w5.heap.size,3,none⟩ (.string s)).heap[w5.heap.size]?=some (.cells #[.string f,.int .i64 (1+x),.int .i64 (1+z),.string s] 76 (0,0))):=cP hx7;have HO8:Hid (∀ b,b≠w5.heap.size→(w7.setCell ⟨w5.heap.size,3,none⟩ (.string s)).heap[b]?=w7.heap[b]?):=fun b hb=>Below.heap_setCell w7 ⟨w5.heap.size,3,none⟩ (.string s) b hb
  have HZ8:Hid (w7.heap.size≤(w7.setCell ⟨w5.heap.size,3,none⟩ (.string s)).heap.size):=by show _≤_;simp
  have G8:Hid (w7.grownBy (w7.setCell ⟨w5.heap.size,3,none⟩ (.string s)) (some w5.heap.size)):=bF w7 _ 3 _;clear hx7 X7;have EF:=X8.out;have e0:=an EF (i:=0) rfl;have e1:=an EF (i:=1) rfl;have e2:=an EF (i:=2) rfl;have e3:=an EF (i:=3) rfl;clear EF;have hw15:=HZ5.out
  have hR8:(w7.setCell ⟨w5.heap.size,3,none⟩ (.string s)).heap[w.heap.size+1]?=some (.cells #[.string ⟨#[]⟩,.int .i64 0,.int .i64 0,.string ⟨#[]⟩] 76 (0,0)):=(HO8.out _ (by omega)).trans (HRX.out _ R7.out.2)
  have qF:Hid (Out w R p 40 ((w7.setCell ⟨w5.heap.size,3,none⟩ (.string s)).setRow (w.heap.size+1) #[.string f,.int .i64 (1+x),.int .i64 (1+z),.string s])):=by
   refine ⟨p7,by omega,by omega,(R7.out.1.late (fun j hj=>HO8.out j (by omega))).late (fun j hj=>setRow_other _ _ _ _ (by omega)),bX (bV (az (aH HB.out _) R7.out.2) 3 _ (by omega)) _ (by omega)⟩
  go_wp2_with (refine wpList_store_row rfl 76 _ _ rfl (w.heap.size+1) #[.string f,.int .i64 (1+x),.int .i64 (1+z),.string s] rfl rfl 76 _ hR8 (by kernel_rfl) rfl (by simp [Value.oneCell']) ?_)
  exact bodyPost_ret (v:=.agg #[.string f,.int .i64 (1+x),.int .i64 (1+z),.string s]) (by simp [results,Tryz.results153,go_sem,cell_setRow_same _ _ _ _ _ _ _ hR8]) rfl ⟨f,(1+x),1+z,s,rfl,by omega,by omega,by omega,by omega,qF.out⟩
open Go.RowKit
open Go.RowKit
def nN (w:World) (v:Value) (n:Nat):Prop:=∃ a cap,v=.slice a n cap∧n≤cap∧cap≤maxLen∧∀ i,i<n→∃ b off x,a=some ⟨b,off,none⟩∧w.cell? ⟨b,off+i,none⟩=some (.int .u8 x)∧0≤x∧x<256
theorem nN.keep {w w':World} {v:Value} {n:Nat} (h:nN w v n) (hb:Below w.heap.size w w'):nN w' v n:=by
 obtain ⟨a,cap,rfl,h1,h2,h3⟩:=h;refine ⟨a,cap,rfl,h1,h2,fun i hi=>?_⟩;obtain ⟨b,off,x,e,hc,hr⟩:=h3 i hi;exact ⟨b,off,x,e,ag hb aG hc,hr⟩
theorem KX {w:World} {a:Option Addr} {n cap:Nat} (h:nN w (.slice a n cap) n) (hn:n≤2000):Rd (w.alloc (.cells #[.slice a n cap,.int .i64 0] 97)) w.heap.size 0:=by
 have hb:Below w.heap.size w (w.alloc (.cells #[.slice a n cap,.int .i64 0] 97)):=(aM);obtain ⟨a',cap',e,h1,h2,h3⟩:=h
 cases e
 refine ⟨.slice a n cap,n,hn,aI w _,a,cap,rfl,h1,h2,fun i hi=>?_⟩;obtain ⟨b,off,x,e,hc,hr⟩:=h3 i hi;exact ⟨b,off,x,e,av hc,ag hb aG hc,hr⟩
theorem Gy (v:Value) (n:Nat) (w:World) (h:nN w v n) :
  Calls Tryz.prog 23 #[v] w fun e w'=>∃ R,e=.returned (.pointer (some ⟨R,0,none⟩))∧w.heap.size≤R∧Rd w' R 0∧Below w.heap.size w w':=by
 have H:=h;obtain ⟨a,cap,rfl,h1,h2,h3⟩:=h;unfold maxLen at h2
 by_cases hn:(2000:Int)<(n:Int)
 ·obtain ⟨b,off,x,rfl,-⟩:=h3 0 (by omega)
  have H2:nN w (.slice (some ⟨b,off,none⟩) 2000 cap) 2000:=⟨_,cap,rfl,by omega,by unfold maxLen;omega,fun i hi=>h3 i (by omega)⟩
  have HR:=ay (KX H2 aG);have HB:Hid (Below w.heap.size w (w.alloc (.cells #[.slice (some ⟨b,off,none⟩) 2000 cap,.int .i64 0] 97))):=(aM);clear h3 H H2
  go_enter Tryz.func23,Tryz.ntmps23
  go_wp2;go_ret;exact ⟨w.heap.size,rfl,Nat.le_refl _,HR.out,HB.out⟩
 ·have HR:=ay (KX H (by omega))
  have HB:Hid (Below w.heap.size w (w.alloc (.cells #[.slice a n cap,.int .i64 0] 97))):=(aM);clear h3 H
  go_enter Tryz.func23,Tryz.ntmps23
  go_wp2;go_ret;exact ⟨w.heap.size,rfl,Nat.le_refl _,HR.out,HB.out⟩
end Go.Proofs.YtcmgddnckohdaaaGreatDoor.Dr
