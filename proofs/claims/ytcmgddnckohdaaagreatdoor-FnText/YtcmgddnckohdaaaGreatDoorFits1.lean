import Derived.Test.YtcmgddnckohdaaaGreatDoorLater
import Derived.Test.YtcmgddnckohdaaaGreatDoorTkU
import Derived.Test.YtcmgddnckohdaaaGreatDoorRows2
set_option maxRecDepth 100000
set_option maxHeartbeats 6400000
set_option linter.unusedSimpArgs false
set_option linter.unusedVariables false
namespace Go.Proofs.YtcmgddnckohdaaaGreatDoor.Dr
open Go.RowKit
attribute [local go_sem] Later.cell Later.frozen
theorem ay {P:Prop} (h:P):Hid P:=h
def BysAt (w:World) (R:Nat) (v:Value) (n:Nat):Prop:=∃ a cap,v=.slice a n cap∧n≤cap∧cap≤maxLen∧∀ i,i<n→∃ b off x,a=some ⟨b,off,none⟩∧b<R∧w.cell? ⟨b,off+i,none⟩=some (.int .u8 x)∧0≤x∧x<256
structure Rd (w:World) (R p:Nat):Prop where
 box:∃ v n,n≤2000∧w.heap[R]?=some (.cells #[v,.int .i64 (p:Int)] 97 (0,0))∧BysAt w R v n
theorem aP {w:World} {b:Nat} {o:Obj} (h:w.heap[b]?=some o):b<w.heap.size:=(Array.getElem?_eq_some_iff.1 h).1
theorem an {w:World} {b i:Nat} {C:Array Value} {T:TypeId} {u:Value} (h:w.heap[b]?=some (.cells C T (0,0))) (hc:C[i]?=some u):w.cell? ⟨b,i,none⟩=some u:=by simp [World.cell?,h,hc]
theorem Rd.far {w w':World} {R p:Nat} (h:Rd w R p) (hb:Below w.heap.size w w'):Rd w' R p:=by
 obtain ⟨v,n,hn,hx,a,cap,rfl,h1,h2,h3⟩:=h.box;refine ⟨.slice a n cap,n,hn,(hb.block R (aP hx)).trans hx,a,cap,rfl,h1,h2,fun i hi=>?_⟩;obtain ⟨b,off,x,e,hbR,hc,hr⟩:=h3 i hi;exact ⟨b,off,x,e,hbR,ag hb aG hc,hr⟩
theorem Rd.next {w:World} {R p:Nat} (h:Rd w R p) (q:Nat):Rd (w.setCell ⟨R,1,none⟩ (.int .i64 (q:Int))) R q:=by
 obtain ⟨v,n,hn,hx,hb⟩:=h.box;obtain ⟨a,cap,rfl,h1,h2,h3⟩:=hb;have hlt:=aP hx
 have hh:(w.setCell ⟨R,1,none⟩ (.int .i64 (q:Int))).heap[R]?=some (.cells #[.slice a n cap,.int .i64 (q:Int)] 97 (0,0)):=by
  have h':w.heap[R]=.cells #[.slice a n cap,.int .i64 (p:Int)] 97 (0,0):=by simpa [Array.getElem?_eq_getElem hlt] using hx
  show (w.heap.modify R _)[R]?=_
  rw [Array.getElem?_eq_getElem (by simpa using hlt),Array.getElem_modify_self,h']
  rfl
 refine ⟨.slice a n cap,n,hn,hh,a,cap,rfl,h1,h2,fun i hi=>?_⟩;obtain ⟨b,off,x,e,hbR,hc,hr⟩:=h3 i hi;refine ⟨b,off,x,e,hbR,?_,hr⟩
 rw [World.cell?_of_block (w:=w) (Below.heap_setCell w ⟨R,1,none⟩ _ b (by show b≠R;omega))]
 exact hc
theorem Rd.late {w w':World} {R p:Nat} (h:Rd w R p) (hs:∀ j,j≤R→w'.heap[j]?=w.heap[j]?):Rd w' R p:=by
 obtain ⟨v,n,hn,hx,a,cap,rfl,h1,h2,h3⟩:=h.box;refine ⟨.slice a n cap,n,hn,(hs R aG).trans hx,a,cap,rfl,h1,h2,fun i hi=>?_⟩;obtain ⟨b,off,x,e,hbR,hc,hr⟩:=h3 i hi;refine ⟨b,off,x,e,hbR,?_,hr⟩
 rw [World.cell?_of_block (w:=w) (hs b (by omega))]
 exact hc
theorem bV {w w7:World} {r:Option Nat} (h:w.grownBy w7 r) {b:Nat} (i:Nat) (v:Value) (hb:w.heap.size≤b):w.grownBy (w7.setCell ⟨b,i,none⟩ v) r :=
 ⟨h.1,h.2,h.3,by simpa using h.4,fun j hj hr=>(Below.heap_setCell w7 ⟨b,i,none⟩ v j (by show j≠b;omega)).trans (h.5 j hj hr)⟩
theorem bX {w w7:World} {r:Option Nat} (h:w.grownBy w7 r) {b:Nat} (C:Array Value) (hb:w.heap.size≤b):w.grownBy (w7.setRow b C) r :=
 ⟨h.1,h.2,h.3,by simpa using h.4,fun j hj hr=>(setRow_other _ _ _ _ (by omega)).trans (h.5 j hj hr)⟩
theorem bF (w:World) (R i:Nat) (v:Value):w.grownBy (w.setCell ⟨R,i,none⟩ v) (some R) :=
 ⟨rfl,rfl,rfl,by simp,fun j _ hr=>Below.heap_setCell w ⟨R,i,none⟩ v j (fun e=>hr (by rw [e]))⟩
theorem az {w w1 w2:World} {r:Option Nat} (h:w.grownBy w1 r) (k:w1.grownBy w2 r):w.grownBy w2 r :=
 ⟨k.1.trans h.1,k.2.trans h.2,k.3.trans h.3,Nat.le_trans h.4 k.4,fun j hj hr=>(k.5 j (Nat.lt_of_lt_of_le hj h.4) hr).trans (h.5 j hj hr)⟩
theorem aH {w w':World} (h:Below w.heap.size w w') (r:Option Nat):w.grownBy w' r:=⟨h.1,h.2,h.3,h.4,fun k hk _=>h.5 k hk⟩
theorem xor_i64 (a b:Nat) (ha:a<4611686018427387904) (hb:b<4611686018427387904):bits .xor .i64 (a:Int) (b:Int)=((a ^^^ b:Nat):Int):=by
 have hx:a ^^^ b<2 ^ 62:=Nat.xor_lt_two_pow (by omega) (by omega)
 have h1:(BitVec.ofInt 64 (a:Int)).toNat=a:=by
  rw [BitVec.ofInt_natCast,BitVec.toNat_ofNat];exact Nat.mod_eq_of_lt (by omega)
 have h2:(BitVec.ofInt 64 (b:Int)).toNat=b:=by
  rw [BitVec.ofInt_natCast,BitVec.toNat_ofNat];exact Nat.mod_eq_of_lt (by omega)
 show IntKind.i64.wrap ((BitVec.ofInt 64 (a:Int) ^^^ BitVec.ofInt 64 (b:Int)).toNat:Int)=_
 rw [BitVec.toNat_xor,h1,h2,IntKind.wrap_i64]
 omega
theorem aL (R p:Nat) (n:Int) (w:World) (h:Rd w R p) (hp:p≤1000000) (hn:n≤1000000) :
  Calls Tryz.prog 25 #[.pointer (some ⟨R,0,none⟩),.int .i64 n] w fun e w'=>∃ x:Int,e=.returned (.int .i64 x)∧0≤x∧(1≤n→x<n)∧(n<1→x=0)∧Rd w' R (p+1)∧w.grownBy w' (some R):=by
 have HN:=ay (h.next (p+1));obtain ⟨v,m,hm,hx,hb⟩:=h.box;obtain ⟨a,cap,rfl,h1,h2,h3⟩:=hb;unfold maxLen at h2;have hlt:=aP hx;have c0:=an hx (i:=0) rfl;have c1:=an hx (i:=1) rfl
 have f1:w.frozen? ⟨R,1,none⟩=false:=by simp [World.frozen?,hx]
 have HG:Hid (w.grownBy (w.setCell ⟨R,1,none⟩ (.int .i64 ((p+1:Nat):Int))) (some R)):=bF w R 1 _
 rw [show ((p+1:Nat):Int)=(p:Int)+1 by omega] at HG HN
 have d0:(w.setCell ⟨R,1,none⟩ (.int .i64 ((p:Int)+1))).cell? ⟨R,0,none⟩=some (.slice a m cap):=by
  rw [World.cell?_setCell_other w ⟨R,1,none⟩ ⟨R,0,none⟩ _ (by simp)];exact c0
 by_cases hn1:n<1
 ·go_enter Tryz.func25,Tryz.ntmps25
  go_wp2;go_ret
  exact ⟨0,rfl,Int.le_refl _,fun h=>absurd h (by omega),fun _=>rfl,HN.out,HG.out⟩
 ·by_cases hm0:m=0
  ·subst hm0
   go_enter Tryz.func25,Tryz.ntmps25
   go_wp2;go_ret
   exact ⟨0,rfl,Int.le_refl _,(by first | omega | exact fun _=>by omega),(by first | trivial | exact fun _=>rfl | omega),HN.out,HG.out⟩
  ·obtain ⟨b,off,x00,rfl,hbR,hc00,-⟩:=h3 0 (by omega)
   have Kb:Hid (b≠R):=by show b≠R;omega
   have H3:Hid (∀ i,i<m→∃ x,(w.setCell ⟨R,1,none⟩ (.int .i64 ((p:Int)+1))).cell? ⟨b,off+i,none⟩=some (.int .u8 x)∧0≤x∧x<256):=fun i hi=>by
    obtain ⟨b',off',x,e,-,hc,hr⟩:=h3 i hi
    cases e
    refine ⟨x,?_,hr⟩;rw [World.cell?_of_block (w:=w) (Below.heap_setCell w ⟨R,1,none⟩ _ b Kb.out)];exact hc
   have d1:(w.setCell ⟨R,1,none⟩ (.int .i64 ((p:Int)+1))).cell? ⟨R,1,none⟩=some (.int .i64 ((p:Int)+1)):=World.cell?_setCell_same w ⟨R,1,none⟩ _ c1;clear h3 hc00
   have hp0:(0:Int)≤(p:Int):=by omega
   have hmp:(0:Int)<(m:Int):=by omega
   have hmz:¬ (m:Int)=0:=by omega
   have hmb:((m:Int)==0)=false:=by simp;omega
   have hnz:¬ n=0:=by omega
   by_cases hpm:(p:Int)<(m:Int)
   ·obtain ⟨x,e0,hx0,hx1⟩:=H3.out p (by omega)
    go_enter Tryz.func25,Tryz.ntmps25
    go_wp2;go_ret
    exact ⟨x % n,rfl,Int.emod_nonneg _ hnz,(by first | exact Int.emod_lt_of_pos _ (by omega) | exact fun _=>Int.emod_lt_of_pos _ (by omega)),(by first | omega | exact fun _=>by omega),HN.out,HG.out⟩
   ·obtain ⟨i1,hi1⟩:∃ i:Nat,(p:Int) % (m:Int)=(i:Int):=⟨p % m,by simp⟩
    obtain ⟨i2,hi2⟩:∃ i:Nat,((p:Int)*7+3) % (m:Int)=(i:Int):=⟨(p*7+3) % m,by simp⟩
    have l1:(0:Int)≤(i1:Int):=by omega
    have l2:(i1:Int)<(m:Int):=by rw [← hi1];exact Int.emod_lt_of_pos _ hmp
    have l3:(0:Int)≤(i2:Int):=by omega
    have l4:(i2:Int)<(m:Int):=by rw [← hi2];exact Int.emod_lt_of_pos _ hmp
    obtain ⟨x1,e1,hx0,hx1⟩:=H3.out i1 (by omega)
    obtain ⟨x2,e2,hx2,hx3⟩:=H3.out i2 (by omega)
    obtain ⟨dv,hdv⟩:∃ d:Int,(p:Int) / (m:Int)=d:=⟨_,rfl⟩
    have hd0:0≤dv:=by rw [← hdv];exact Int.ediv_nonneg hp0 (by omega)
    have hd1:dv≤1000000:=by rw [← hdv];have:=Int.ediv_le_self (m:Int) hp0;omega
    have z1:=av e1;have zR:=av d0
    have hw1:IntKind.i64.wrap ((p:Int)*7)=(p:Int)*7:=by rw [IntKind.wrap_i64];omega
    have hw2:IntKind.i64.wrap ((p:Int)*7+3)=(p:Int)*7+3:=by rw [IntKind.wrap_i64];omega
    have hw3:IntKind.i64.wrap (x1*131)=x1*131:=by rw [IntKind.wrap_i64];omega
    have hw4:IntKind.i64.wrap (x2*1117)=x2*1117:=by rw [IntKind.wrap_i64];omega
    have hw5:IntKind.i64.wrap (x1*131+x2*1117)=x1*131+x2*1117:=by rw [IntKind.wrap_i64];omega
    have hw6:IntKind.i64.wrap ((p:Int)*29)=(p:Int)*29:=by rw [IntKind.wrap_i64];omega
    have hw7:IntKind.i64.wrap (x1*131+x2*1117+(p:Int)*29)=x1*131+x2*1117+(p:Int)*29:=by rw [IntKind.wrap_i64];omega
    have hw8:IntKind.i64.wrap (dv*53)=dv*53:=by rw [IntKind.wrap_i64];omega
    have hw9:IntKind.i64.wrap (x1*131+x2*1117+(p:Int)*29+dv*53)=x1*131+x2*1117+(p:Int)*29+dv*53:=by rw [IntKind.wrap_i64];omega
    have hwd:IntKind.i64.wrap dv=dv:=by rw [IntKind.wrap_i64];omega
    go_enter Tryz.func25,Tryz.ntmps25
    go_wp2;generalize (w.setCell ⟨R,1,none⟩ (.int .i64 ((p:Int)+1)))=w1 at *;have hne:=Later.some w1
    refine au (by kernel_rfl) (by kernel_rfl) ?_
    repeat (go_big_quiet_step (fail))
    refine wpQuiet_nil ?_;rintro _ ⟨xx,rfl⟩;have nT:=ay (HN.out.far xx.below);have HG2:=ay (az HG.out (aH xx.below _))
    have ht0:0≤x1*131+x2*1117+(p:Int)*29+dv*53:=by omega
    have ht1:x1*131+x2*1117+(p:Int)*29+dv*53≤100000000:=by omega
    generalize x1*131+x2*1117+(p:Int)*29+dv*53=t at *
    obtain ⟨u,hu0,hu1⟩:∃ u:Nat,bits .xor .i64 t (t / 64)=(u:Int)∧u<2 ^ 62:=by
     obtain ⟨tn,rfl⟩:∃ tn:Nat,t=tn:=⟨t.toNat,by omega⟩
     refine ⟨tn ^^^ (tn / 64),?_,Nat.xor_lt_two_pow (by omega) (by omega)⟩
     rw [show ((tn:Int) / 64)=((tn / 64:Nat):Int) by simp]
     exact xor_i64 _ _ (by omega) (by omega)
    have hun:(0:Int)≤(u:Int):=by omega
    go_wp2;go_ret
    exact ⟨(u:Int) % n,rfl,Int.emod_nonneg _ hnz,(by first | exact Int.emod_lt_of_pos _ (by omega) | exact fun _=>Int.emod_lt_of_pos _ (by omega)),(by first | omega | exact fun _=>by omega),nT.out,HG2.out⟩
end Go.Proofs.YtcmgddnckohdaaaGreatDoor.Dr
namespace Go.Proofs.YtcmgddnckohdaaaGreatDoor
open Go.RowKit
theorem tH (l:List dx):gY l 0=true:=by simp [gY]
theorem tJ (l:List dx) (m:Nat):gY l (m+1)=!kz (at' l m).s (at' l (m+1)).s:=by simp [gY]
def gX (w:World) (b o:Nat) (t:dx):Prop :=
  w.cell? ⟨b,o,none⟩=some (.string t.s)∧w.cell? ⟨b,o+1,none⟩=some (.int .i64 t.x)∧w.cell? ⟨b,o+2,none⟩=some (.int .i64 t.y)
theorem gX.keep {w w':World} {b o B:Nat} {t:dx} (h:gX w b o t) (hb:Below B w w') (hB:w.heap.size≤B):gX w' b o t :=
  ⟨ag hb hB h.1,ag hb hB h.2.1,ag hb hB h.2.2⟩
theorem zF (v : Value) (l : List dx) (most : Nat) (w : World) (hv : dA w v l) (hs : ∀ t ∈ l, t.s.size ≤ maxLen) (hm : most ≤ 1000) :
    Calls Tryz.prog 128 #[v,.int .i64 most,.func (.func 129) #[] #[]] w fun e w'=>e=.returned (.bool (eO l most))∧Below w.heap.size w w':=by
  obtain ⟨a,cap,rfl,hlc,hcm,hc⟩:=hv;unfold maxLen at hcm;have HC:Hid (∀ i t,l[i]?=some t→∃ b off,a=some ⟨b,off,none⟩∧gX w b (off+i*3) t):=hc;have HS:Hid (∀ t∈l,t.s.size≤maxLen):=hs;clear hc hs
  by_cases hn:(most:Int)<(l.length:Int)
  · have e:eO l most=false:=by simp [eO];omega
    rw [e];clear e
    go_enter Tryz.func128,Tryz.ntmps128
    go_wp2;go_ret;exact ⟨rfl,Below.refl _ _⟩
  · have e : eO l most = fw l.length fun i => dD (at' l i).s && gY l i := by
      have:l.length≤most:=by omega
      simp [eO,this]
    rw [e];clear e
    go_enter Tryz.func128,Tryz.ntmps128
    go_wp2
    go_loopw [7,8,15] (fun _ _ i wr=>∃ k:Nat,k≤l.length∧i=.int .i64 k∧Below w.heap.size w wr∧Hid (∀ j,j<k→(dD (at' l j).s&&gY l j)=true)) (fun _ _ i _=>l.length-(intOf i).toNat)
    case atStart=>exact ⟨0,Nat.zero_le _,rfl,Below.refl _ _,fun j hj=>absurd hj (Nat.not_lt_zero _)⟩
    case round =>
      obtain ⟨k,hk,rfl,hb,HA⟩:=hrel
      by_cases hlt:k<l.length
      · obtain ⟨b,off,rfl,hc⟩:=HC.out k _ (bo hlt)
        obtain ⟨d0,d1,d2⟩:=hc.keep hb aG;have hsk:(at' l k).s.size≤maxLen:=HS.out _ (List.mem_of_getElem? (bo hlt))
        have uh:Hid (dD (at' l k).s=false→fw l.length (fun i=>dD (at' l i).s&&gY l i)=false):=fun h=>bc hlt (by simp [h])
        have M4:Hid (gY l k=false→fw l.length (fun i=>dD (at' l i).s&&gY l i)=false):=fun h=>bc hlt (by simp [h])
        have hk0:(0:Int)≤(k:Int):=by omega
        have hk1:(k:Int)<(l.length:Int):=by omega
        have hbl:=av d0;go_wp2_with fail;refine (kJ (at' l k) _).mono ?_;rintro e w1 ⟨rfl,hb1⟩;go_wp2_with fail;refine (cf (at' l k).s _ hsk).mono ?_;rintro e w2 ⟨rfl,hb2⟩;have GJ:Below (wr.alloc (.cells #[.string (at' l k).s,.int .i64 (at' l k).x,.int .i64 (at' l k).y] 69)).heap.size (wr.alloc (.cells #[.string (at' l k).s,.int .i64 (at' l k).x,.int .i64 (at' l k).y] 69)) w2:=aa hb1 hb2;have hbw:Below w.heap.size w w2:=aa (hb.alloc hb.size _) GJ;have tk:gX w2 b (off+k*3) (at' l k):=hc.keep hbw aG
        have tn:gX w2 wr.heap.size 0 (at' l k):=gX.keep (w:=wr.alloc (.cells #[.string (at' l k).s,.int .i64 (at' l k).x,.int .i64 (at' l k).y] 69)) ⟨by simp,by simp,by simp⟩ GJ aG
        clear d0 d1 d2 hb1 hb2 GJ
        cases hnm:dD (at' l k).s
        · have HN:Hid (dD (at' l k).s=false):=hnm
          clear hnm;go_wp2;go_ret;exact ⟨ax (uh.out HN.out).symm,hbw⟩
        · have HN:Hid (dD (at' l k).s=true):=hnm
          clear hnm
          by_cases hkz:k=0
          · subst hkz
            go_wp2
            go_quiet (fail)
            go_wp2
            exact ⟨⟨1, by omega, by go_num, below_drewN hbw _, fun j hj => by obtain rfl : j = 0 := by omega
                                                                              rw [HN.out,tH];rfl⟩,by simp [intOf];omega⟩
          · obtain ⟨m,rfl⟩:∃ m,k=m+1:=⟨k-1,by omega⟩
            obtain ⟨b',off',EH,hcm'⟩:=HC.out m _ (bo (by omega))
            cases EH
            have tm:gX w2 b (off+m*3) (at' l m):=hcm'.keep hbw aG;have HE:Hid (gY l (m+1)=!kz (at' l m).s (at' l (m+1)).s):=tJ l m;obtain ⟨m0,m1,m2⟩:=tm;obtain ⟨n0,n1,n2⟩:=tn
            have hi0:(0:Int)≤(m:Int):=by omega
            have hi1:(m:Int)<(l.length:Int):=by omega
            have hi2:(0:Int)<(m:Int)+1:=by omega
            have hw1:IntKind.i64.wrap (m:Int)=(m:Int):=by rw [IntKind.wrap_i64];omega
            have hw2:IntKind.i64.wrap ((m:Int)+1-1)=(m:Int):=by rw [IntKind.wrap_i64];omega
            clear hc hcm' tk;go_wp2
            go_region_held3 (fun w' => w'.cell? ⟨b, off + m * 3, none⟩ = some (.string (at' l m).s) ∧ w'.cell? ⟨b, off + m * 3 + 1, none⟩ = some (.int .i64 (at' l m).x) ∧ w'.cell? ⟨b, off + m * 3 + 2, none⟩ = some (.int .i64 (at' l m).y) ∧
                w'.cell? ⟨wr.heap.size,0,none⟩=some (.string (at' l (m+1)).s)∧w'.cell? ⟨wr.heap.size,1,none⟩=some (.int .i64 (at' l (m+1)).x)∧w'.cell? ⟨wr.heap.size,2,none⟩=some (.int .i64 (at' l (m+1)).y)∧Below w2.heap.size w2 w')
              (first | (refine ⟨by simp [*,go_sem],by simp [*,go_sem],by simp [*,go_sem],by simp [*,go_sem],by simp [*,go_sem],by simp [*,go_sem],?_⟩;exact (Below.refl _ _).drew) | (obtain ⟨s0,s1,s2,s3,s4,s5,s6⟩:=‹_∧_∧_∧_∧_∧_∧_›;exact ⟨ag hb3 aG s0,ag hb3 aG s1,ag hb3 aG s2,ag hb3 aG s3,ag hb3 aG s4,ag hb3 aG s5,aa s6 hb3⟩))
              (first | (go_at_call 129;refine (kJ _ _).mono ?_;rintro e w3 ⟨rfl,hb3⟩))
            go_wp2
            · rename_i h
              obtain ⟨_,_,_,_,_,_,hS⟩:=‹_∧_∧_∧_∧_∧_∧Below w2.heap.size w2 w3›;go_ret
              exact ⟨ax (M4.out (by rw [HE.out];unfold kz;rw [h];rfl)).symm,aa hbw hS⟩
            · rename_i h
              obtain ⟨_,_,_,_,_,_,hS⟩:=‹_∧_∧_∧_∧_∧_∧Below w2.heap.size w2 w3›
              exact ⟨⟨m+1+1,by omega,by go_num,aa hbw hS,fun j hj=>if e:j=m+1 then by rw [e,HN.out,HE.out];unfold kz;rw [h];rfl else HA.out j (by omega)⟩,by simp [intOf];omega⟩
      · go_wp2
        go_ret
        exact ⟨ax (aX fun j hj=>HA.out j (by omega)).symm,hb⟩
theorem xO (v : Value) (l : List dx) (most : Nat) (w : World) (hv : dA w v l) (hs : ∀ t ∈ l, t.s.size ≤ maxLen) (hm : most ≤ 1000) :
    Calls Tryz.prog 131 #[v,.int .i64 most,.func (.func 132) #[] #[]] w fun e w'=>e=.returned (.bool (eO l most))∧Below w.heap.size w w':=by
  obtain ⟨a,cap,rfl,hlc,hcm,hc⟩:=hv;unfold maxLen at hcm;have HC:Hid (∀ i t,l[i]?=some t→∃ b off,a=some ⟨b,off,none⟩∧gX w b (off+i*3) t):=hc;have HS:Hid (∀ t∈l,t.s.size≤maxLen):=hs;clear hc hs
  by_cases hn:(most:Int)<(l.length:Int)
  · have e:eO l most=false:=by simp [eO];omega
    rw [e];clear e
    go_enter Tryz.func131,Tryz.ntmps131
    go_wp2;go_ret;exact ⟨rfl,Below.refl _ _⟩
  · have e : eO l most = fw l.length fun i => dD (at' l i).s && gY l i := by
      have:l.length≤most:=by omega
      simp [eO,this]
    rw [e];clear e
    go_enter Tryz.func131,Tryz.ntmps131
    go_wp2
    go_loopw [7,8,15] (fun _ _ i wr=>∃ k:Nat,k≤l.length∧i=.int .i64 k∧Below w.heap.size w wr∧Hid (∀ j,j<k→(dD (at' l j).s&&gY l j)=true)) (fun _ _ i _=>l.length-(intOf i).toNat)
    case atStart=>exact ⟨0,Nat.zero_le _,rfl,Below.refl _ _,fun j hj=>absurd hj (Nat.not_lt_zero _)⟩
    case round =>
      obtain ⟨k,hk,rfl,hb,HA⟩:=hrel
      by_cases hlt:k<l.length
      · obtain ⟨b,off,rfl,hc⟩:=HC.out k _ (bo hlt)
        obtain ⟨d0,d1,d2⟩:=hc.keep hb aG;have hsk:(at' l k).s.size≤maxLen:=HS.out _ (List.mem_of_getElem? (bo hlt))
        have uh:Hid (dD (at' l k).s=false→fw l.length (fun i=>dD (at' l i).s&&gY l i)=false):=fun h=>bc hlt (by simp [h])
        have M4:Hid (gY l k=false→fw l.length (fun i=>dD (at' l i).s&&gY l i)=false):=fun h=>bc hlt (by simp [h])
        have hk0:(0:Int)≤(k:Int):=by omega
        have hk1:(k:Int)<(l.length:Int):=by omega
        have hbl:=av d0;go_wp2_with fail;refine (jV (at' l k) _).mono ?_;rintro e w1 ⟨rfl,hb1⟩;go_wp2_with fail;refine (cf (at' l k).s _ hsk).mono ?_;rintro e w2 ⟨rfl,hb2⟩;have GJ:Below (wr.alloc (.cells #[.string (at' l k).s,.int .i64 (at' l k).x,.int .i64 (at' l k).y] 72)).heap.size (wr.alloc (.cells #[.string (at' l k).s,.int .i64 (at' l k).x,.int .i64 (at' l k).y] 72)) w2:=aa hb1 hb2;have hbw:Below w.heap.size w w2:=aa (hb.alloc hb.size _) GJ;have tk:gX w2 b (off+k*3) (at' l k):=hc.keep hbw aG
        have tn:gX w2 wr.heap.size 0 (at' l k):=gX.keep (w:=wr.alloc (.cells #[.string (at' l k).s,.int .i64 (at' l k).x,.int .i64 (at' l k).y] 72)) ⟨by simp,by simp,by simp⟩ GJ aG
        clear d0 d1 d2 hb1 hb2 GJ
        cases hnm:dD (at' l k).s
        · have HN:Hid (dD (at' l k).s=false):=hnm
          clear hnm;go_wp2;go_ret;exact ⟨ax (uh.out HN.out).symm,hbw⟩
        · have HN:Hid (dD (at' l k).s=true):=hnm
          clear hnm
          by_cases hkz:k=0
          · subst hkz
            go_wp2
            go_quiet (fail)
            go_wp2
            exact ⟨⟨1, by omega, by go_num, below_drewN hbw _, fun j hj => by obtain rfl : j = 0 := by omega
                                                                              rw [HN.out,tH];rfl⟩,by simp [intOf];omega⟩
          · obtain ⟨m,rfl⟩:∃ m,k=m+1:=⟨k-1,by omega⟩
            obtain ⟨b',off',EH,hcm'⟩:=HC.out m _ (bo (by omega))
            cases EH
            have tm:gX w2 b (off+m*3) (at' l m):=hcm'.keep hbw aG;have HE:Hid (gY l (m+1)=!kz (at' l m).s (at' l (m+1)).s):=tJ l m;obtain ⟨m0,m1,m2⟩:=tm;obtain ⟨n0,n1,n2⟩:=tn
            have hi0:(0:Int)≤(m:Int):=by omega
            have hi1:(m:Int)<(l.length:Int):=by omega
            have hi2:(0:Int)<(m:Int)+1:=by omega
            have hw1:IntKind.i64.wrap (m:Int)=(m:Int):=by rw [IntKind.wrap_i64];omega
            have hw2:IntKind.i64.wrap ((m:Int)+1-1)=(m:Int):=by rw [IntKind.wrap_i64];omega
            clear hc hcm' tk;go_wp2
            go_region_held3 (fun w' => w'.cell? ⟨b, off + m * 3, none⟩ = some (.string (at' l m).s) ∧ w'.cell? ⟨b, off + m * 3 + 1, none⟩ = some (.int .i64 (at' l m).x) ∧ w'.cell? ⟨b, off + m * 3 + 2, none⟩ = some (.int .i64 (at' l m).y) ∧
                w'.cell? ⟨wr.heap.size,0,none⟩=some (.string (at' l (m+1)).s)∧w'.cell? ⟨wr.heap.size,1,none⟩=some (.int .i64 (at' l (m+1)).x)∧w'.cell? ⟨wr.heap.size,2,none⟩=some (.int .i64 (at' l (m+1)).y)∧Below w2.heap.size w2 w')
              (first | (refine ⟨by simp [*,go_sem],by simp [*,go_sem],by simp [*,go_sem],by simp [*,go_sem],by simp [*,go_sem],by simp [*,go_sem],?_⟩;exact (Below.refl _ _).drew) | (obtain ⟨s0,s1,s2,s3,s4,s5,s6⟩:=‹_∧_∧_∧_∧_∧_∧_›;exact ⟨ag hb3 aG s0,ag hb3 aG s1,ag hb3 aG s2,ag hb3 aG s3,ag hb3 aG s4,ag hb3 aG s5,aa s6 hb3⟩))
              (first | (go_at_call 132;refine (jV _ _).mono ?_;rintro e w3 ⟨rfl,hb3⟩))
            go_wp2
            · rename_i h
              obtain ⟨_,_,_,_,_,_,hS⟩:=‹_∧_∧_∧_∧_∧_∧Below w2.heap.size w2 w3›;go_ret
              exact ⟨ax (M4.out (by rw [HE.out];unfold kz;rw [h];rfl)).symm,aa hbw hS⟩
            · rename_i h
              obtain ⟨_,_,_,_,_,_,hS⟩:=‹_∧_∧_∧_∧_∧_∧Below w2.heap.size w2 w3›
              exact ⟨⟨m+1+1,by omega,by go_num,aa hbw hS,fun j hj=>if e:j=m+1 then by rw [e,HN.out,HE.out];unfold kz;rw [h];rfl else HA.out j (by omega)⟩,by simp [intOf];omega⟩
      · go_wp2
        go_ret
        exact ⟨ax (aX fun j hj=>HA.out j (by omega)).symm,hb⟩
open Go.RowKit
theorem oG (v:Value) (l:List dx) (w:World) (hv:dA w v l) (hs:∀ t∈l,t.s.size≤maxLen) :
  Calls Tryz.prog 79 #[v] w fun e w'=>e=.returned (.bool (dM l))∧Below w.heap.size w w':=by
 have hnm:=fun wx hvx=>zF v l 6 wx hvx hs (by omega)
 have MS:Hid (∀ (wx:World),dA wx v l→Calls Tryz.prog 128 #[v,.int .i64 (6:Nat),.func (.func 129) #[] #[]] wx fun e w'=>e=.returned (.bool (eO l 6))∧Below wx.heap.size wx w'):=hnm;clear hnm;have HV:Hid (dA w v l):=hv;obtain ⟨a,cap,rfl,hlc,hcm,hc⟩:=hv;unfold maxLen at hcm;have HC:Hid (∀ i t,l[i]?=some t→∃ b off,a=some ⟨b,off,none⟩∧gX w b (off+i*3) t):=hc;clear hc
 cases hn:eO l 6
 ·have e:dM l=false:=by simp [dM,hn]
  have HN:Hid (eO l 6=false):=hn;rw [e];clear e hn
  go_enter Tryz.func79,Tryz.ntmps79
  go_wp2_with fail;refine (MS.out _ HV.out).mono ?_;rw [HN.out];rintro e w1 ⟨rfl,hb1⟩;go_wp2;go_ret;exact ⟨rfl,hb1⟩
 ·have e:dM l=fw l.length fun i=>gI (at' l i):=by simp [dM,hn]
  have HN:Hid (eO l 6=true):=hn;rw [e];clear e hn
  go_enter Tryz.func79,Tryz.ntmps79
  go_wp2_with fail;refine (MS.out _ HV.out).mono ?_;rw [HN.out];rintro e w1 ⟨rfl,hb1⟩;go_wp2
  go_loopw [4,10] (fun _ i wr=>∃ k:Nat,k≤l.length∧i=.int .i64 k∧Below w.heap.size w wr∧Hid (∀ j,j<k→gI (at' l j)=true)) (fun _ i _=>l.length-(intOf i).toNat)
  case atStart=>exact ⟨0,Nat.zero_le _,rfl,hb1,fun j hj=>absurd hj (Nat.not_lt_zero _)⟩
  case round =>
   obtain ⟨k,hk,rfl,hb,HA⟩:=hrel
   by_cases hlt:k<l.length
   ·obtain ⟨b,off,rfl,hc⟩:=HC.out k _ (bo hlt)
    obtain ⟨d0,d1,d2⟩:=hc.keep hb aG;have uh:Hid (gI (at' l k)=false→fw l.length (fun i=>gI (at' l i))=false):=fun h=>bc hlt h
    have hk0:(0:Int)≤(k:Int):=by omega
    have hk1:(k:Int)<(l.length:Int):=by omega
    cases hp:gI (at' l k)
    ·have HP:Hid (gI (at' l k)=false):=hp
     clear hp;go_wp2_with fail;refine (xI (at' l k) _).mono ?_;rw [HP.out];rintro e w2 ⟨rfl,hb2⟩;go_wp2;go_ret;exact ⟨ax (uh.out HP.out).symm,aa (hb.alloc hb.size _) hb2⟩
    ·have HP:Hid (gI (at' l k)=true):=hp
     clear hp;go_wp2_with fail;refine (xI (at' l k) _).mono ?_;rw [HP.out];rintro e w2 ⟨rfl,hb2⟩;go_wp2
     exact ⟨⟨k+1,by omega,by go_num,aa (hb.alloc hb.size _) hb2,fun j hj=>if e:j=k then by rw [e];exact HP.out else HA.out j (by omega)⟩,by simp [intOf];omega⟩
   ·go_wp2
    go_ret
    exact ⟨ax (aX fun j hj=>HA.out j (by omega)).symm,hb⟩
theorem l9 (v:Value) (l:List dx) (t:dx) (w:World) (hv:dA w v l) :
  Calls Tryz.prog 134 #[v,.agg #[.string t.s,.int .i64 t.x,.int .i64 t.y]] w fun e w'=>e=.returned (.bool (fu l l.length t))∧Below w.heap.size w w':=by
 obtain ⟨a,cap,rfl,hlc,hcm,hc⟩:=hv;unfold maxLen at hcm;have HC:Hid (∀ i t,l[i]?=some t→∃ b off,a=some ⟨b,off,none⟩∧gX w b (off+i*3) t):=hc;clear hc
 go_enter Tryz.func134,Tryz.ntmps134
 go_wp2
 go_loopw [6,9] (fun _ i wr=>∃ k:Nat,k≤l.length∧i=.int .i64 k∧Below (w.heap.size+1) (w.alloc (.cells #[.string t.s,.int .i64 t.x,.int .i64 t.y] 72)) wr∧Hid (∀ j,j<k→(!jb (at' l j) t)=true)) (fun _ i _=>l.length-(intOf i).toNat)
 case atStart=>exact ⟨0,Nat.zero_le _,rfl,Below.refl _ _,fun j hj=>absurd hj (Nat.not_lt_zero _)⟩
 case round =>
  obtain ⟨k,hk,rfl,hb,HA⟩:=hrel;have hbw:Below w.heap.size w wr:=(aM).trans (hb.mono (Nat.le_succ _))
  have hsz:w.heap.size<wr.heap.size:=by have:=hb.size;simp at this;omega
  have p1:wr.cell? ⟨w.heap.size,1,none⟩=some (.int .i64 t.x):=by rw [hb.cell (p:=⟨w.heap.size,1,none⟩) (Nat.lt_succ_self _)];simp
  have p2:wr.cell? ⟨w.heap.size,2,none⟩=some (.int .i64 t.y):=by rw [hb.cell (p:=⟨w.heap.size,2,none⟩) (Nat.lt_succ_self _)];simp
  by_cases hlt:k<l.length
  ·obtain ⟨b,off,rfl,hc⟩:=HC.out k _ (bo hlt)
   obtain ⟨d0,d1,d2⟩:=hc.keep hbw aG
   have uh:Hid ((!jb (at' l k) t)=false→fu l l.length t=true):=fun h=>by unfold fu;rw [bc hlt h];rfl
   have hk0:(0:Int)≤(k:Int):=by omega
   have hk1:(k:Int)<(l.length:Int):=by omega
   have hfin:Hid (Below (w.heap.size+1) (w.alloc (.cells #[.string t.s,.int .i64 t.x,.int .i64 t.y] 72)) (wr.alloc (.cells #[.string (at' l k).s,.int .i64 (at' l k).x,.int .i64 (at' l k).y] 72))):=hb.alloc (by omega) _
   have hfin':Hid (Below w.heap.size w (wr.alloc (.cells #[.string (at' l k).s,.int .i64 (at' l k).x,.int .i64 (at' l k).y] 72))):=hbw.alloc (by omega) _
   have SM:Hid (jb (at' l k) t=(decide ((at' l k).x=t.x)&&decide ((at' l k).y=t.y))):=rfl
   by_cases hx:(at' l k).x=t.x
   ·have hx':((at' l k).x==t.x)=true:=by simp [hx]
    have HX:Hid ((at' l k).x=t.x):=hx;clear hx
    by_cases hy:(at' l k).y=t.y
    ·have hy':((at' l k).y==t.y)=true:=by simp [hy]
     have HY:Hid ((at' l k).y=t.y):=hy;clear hy;go_wp2;go_ret
     exact ⟨ax (uh.out (by rw [SM.out,HX.out,HY.out];simp)).symm,hfin'.out⟩
    ·have hy':((at' l k).y==t.y)=false:=by simp [hy]
     have HY:Hid (¬ (at' l k).y=t.y):=hy;clear hy;go_wp2
     exact ⟨⟨k+1,by omega,by go_num,hfin.out,fun j hj=>if e:j=k then by rw [e,SM.out];simp [HY.out] else HA.out j (by omega)⟩,by simp [intOf];omega⟩
   ·have hx':((at' l k).x==t.x)=false:=by simp [hx]
    have HX:Hid (¬ (at' l k).x=t.x):=hx;clear hx;go_wp2
    exact ⟨⟨k+1,by omega,by go_num,hfin.out,fun j hj=>if e:j=k then by rw [e,SM.out];simp [HX.out] else HA.out j (by omega)⟩,by simp [intOf];omega⟩
  ·go_wp2
   go_ret
   exact ⟨ax (by unfold fu;rw [aX fun j hj=>HA.out j (by omega)];rfl),hbw⟩
theorem FX (l:List dx) (i:Nat) (h:i≤l.length) (t:dx):fu (l.take i) (l.take i).length t=fu l i t:=by
 unfold fu;rw [List.length_take,Nat.min_eq_left h]
 congr 1
 refine jT fun j hj=>?_
 simp [at',List.getD,hj]
theorem dA.take {w:World} {a:Option Addr} {l:List dx} {cap:Nat} (h:dA w (.slice a l.length cap) l) (i:Nat) (hi:i≤l.length):dA w (.slice a i cap) (l.take i):=by
 obtain ⟨a',cap',he,h1,h2,h3⟩:=h
 cases he
 have hl:(l.take i).length=i:=by rw [List.length_take,Nat.min_eq_left hi]
 refine ⟨a,cap,by rw [hl],by omega,h2,fun j t ht=>h3 j t ?_⟩
 have hj:j<(l.take i).length:=(List.getElem?_eq_some_iff.1 ht).1;rw [List.getElem?_take] at ht;rw [hl] at hj
 simpa [hj] using ht
open Go.RowKit
theorem rQ (v:Value) (l:List dx) (w:World) (hv:dA w v l) (hs:∀ t∈l,t.s.size≤maxLen) :
  Calls Tryz.prog 80 #[v] w fun e w'=>e=.returned (.bool (dH l))∧Below w.heap.size w w':=by
 have hnm:=fun wx hvx=>xO v l 16 wx hvx hs (by omega)
 have MS:Hid (∀ (wx:World),dA wx v l→Calls Tryz.prog 131 #[v,.int .i64 (16:Nat),.func (.func 132) #[] #[]] wx fun e w'=>e=.returned (.bool (eO l 16))∧Below wx.heap.size wx w'):=hnm;clear hnm;have HV:Hid (dA w v l):=hv;obtain ⟨a,cap,rfl,hlc,hcm,hc⟩:=hv;unfold maxLen at hcm;have HC:Hid (∀ i t,l[i]?=some t→∃ b off,a=some ⟨b,off,none⟩∧gX w b (off+i*3) t):=hc;clear hc
 cases hn:eO l 16
 ·have e:dH l=false:=by simp [dH,hn]
  have HN:Hid (eO l 16=false):=hn;rw [e];clear e hn
  go_enter Tryz.func80,Tryz.ntmps80
  go_wp2_with fail;refine (MS.out _ HV.out).mono ?_;rw [HN.out];rintro e w1 ⟨rfl,hb1⟩;go_wp2;go_ret;exact ⟨rfl,hb1⟩
 ·have e:dH l=fw l.length fun i=>eQ (at' l i)&&!fu l i (at' l i):=by simp [dH,hn]
  have HN:Hid (eO l 16=true):=hn;rw [e];clear e hn
  go_enter Tryz.func80,Tryz.ntmps80
  go_wp2_with fail;refine (MS.out _ HV.out).mono ?_;rw [HN.out];rintro e w1 ⟨rfl,hb1⟩;go_wp2
  go_loopw [3,4,10] (fun _ _ i wr=>∃ k:Nat,k≤l.length∧i=.int .i64 k∧Below w.heap.size w wr∧Hid (∀ j,j<k→(eQ (at' l j)&&!fu l j (at' l j))=true)) (fun _ _ i _=>l.length-(intOf i).toNat)
  case atStart=>exact ⟨0,Nat.zero_le _,rfl,hb1,fun j hj=>absurd hj (Nat.not_lt_zero _)⟩
  case round =>
   obtain ⟨k,hk,rfl,hb,HA⟩:=hrel
   by_cases hlt:k<l.length
   ·obtain ⟨b,off,rfl,hc⟩:=HC.out k _ (bo hlt)
    obtain ⟨d0,d1,d2⟩:=hc.keep hb aG;have uh:Hid ((eQ (at' l k)&&!fu l k (at' l k))=false→fw l.length (fun i=>eQ (at' l i)&&!fu l i (at' l i))=false):=fun h=>bc hlt h
    have hk0:(0:Int)≤(k:Int):=by omega
    have hk1:(k:Int)<(l.length:Int):=by omega
    have hk2:(k:Int)≤(cap:Int):=by omega
    have HT:Hid (fu (l.take k) (l.take k).length (at' l k)=fu l k (at' l k)):=FX l k hk _;have ug:Hid (∀ wx:World,Below w.heap.size w wx→dA wx (.slice (some ⟨b,off,none⟩) k cap) (l.take k)):=fun wx hx=>(HV.out.keep hx).take k hk
    cases hp:eQ (at' l k)
    ·have HP:Hid (eQ (at' l k)=false):=hp
     clear hp;go_wp2
     first | go_region_with (go_at_call 133;refine (qY (at' l k) _).mono ?_;rw [HP.out];rintro e w3 ⟨rfl,hb3⟩) | fail
     all_goals go_wp2
     all_goals go_ret
     all_goals exact ⟨ax (uh.out (by rw [HP.out];rfl)).symm,aa (hb.alloc hb.size _).drew hb3⟩
    ·have HP:Hid (eQ (at' l k)=true):=hp
     clear hp
     cases ht:fu l k (at' l k)
     ·have HT2:Hid (fu l k (at' l k)=false):=ht
      clear ht;go_wp2
      go_region_held3 (fun w'=>w'.cell? ⟨wr.heap.size,0,none⟩=some (.string (at' l k).s)∧w'.cell? ⟨wr.heap.size,1,none⟩=some (.int .i64 (at' l k).x)∧w'.cell? ⟨wr.heap.size,2,none⟩=some (.int .i64 (at' l k).y)∧Below w.heap.size w w')
       (first | (refine ⟨by simp [*,go_sem],by simp [*,go_sem],by simp [*,go_sem],?_⟩;exact (hb.alloc hb.size _).drew) | (obtain ⟨s0,s1,s2,s6⟩:=‹_∧_∧_∧Below w.heap.size w _›;exact ⟨ag hb3 aG s0,ag hb3 aG s1,ag hb3 aG s2,aa s6 hb3⟩))
       (first | (go_at_call 133;refine (qY (at' l k) _).mono ?_;rw [HP.out];rintro e w3 ⟨rfl,hb3⟩) | (go_at_call 134;refine (l9 _ (l.take k) (at' l k) _ (ug.out _ (by exact (‹_∧_∧_∧Below w.heap.size w _›).2.2.2))).mono ?_;rw [HT.out,HT2.out];rintro e w3 ⟨rfl,hb3⟩))
      go_wp2;obtain ⟨_,_,_,hS⟩:=‹_∧_∧_∧Below w.heap.size w w3›
      exact ⟨⟨k+1,by omega,by go_num,hS,fun j hj=>if e:j=k then by rw [e,HP.out,HT2.out];rfl else HA.out j (by omega)⟩,by simp [intOf];omega⟩
     ·have HT2:Hid (fu l k (at' l k)=true):=ht
      clear ht;go_wp2
      go_region_held3 (fun w'=>w'.cell? ⟨wr.heap.size,0,none⟩=some (.string (at' l k).s)∧w'.cell? ⟨wr.heap.size,1,none⟩=some (.int .i64 (at' l k).x)∧w'.cell? ⟨wr.heap.size,2,none⟩=some (.int .i64 (at' l k).y)∧Below w.heap.size w w')
       (first | (refine ⟨by simp [*,go_sem],by simp [*,go_sem],by simp [*,go_sem],?_⟩;exact (hb.alloc hb.size _).drew) | (obtain ⟨s0,s1,s2,s6⟩:=‹_∧_∧_∧Below w.heap.size w _›;exact ⟨ag hb3 aG s0,ag hb3 aG s1,ag hb3 aG s2,aa s6 hb3⟩))
       (first | (go_at_call 133;refine (qY (at' l k) _).mono ?_;rw [HP.out];rintro e w3 ⟨rfl,hb3⟩) | (go_at_call 134;refine (l9 _ (l.take k) (at' l k) _ (ug.out _ (by exact (‹_∧_∧_∧Below w.heap.size w _›).2.2.2))).mono ?_;rw [HT.out,HT2.out];rintro e w3 ⟨rfl,hb3⟩))
      go_wp2;obtain ⟨_,_,_,hS⟩:=‹_∧_∧_∧Below w.heap.size w w3›;go_ret
      exact ⟨ax (uh.out (by rw [HP.out,HT2.out];rfl)).symm,hS⟩
   ·go_wp2
    go_ret
    exact ⟨ax (aX fun j hj=>HA.out j (by omega)).symm,hb⟩
open Go.RowKit
def Names (l:List dx):Prop:=∀ t∈l,t.s.size≤maxLen
theorem dA.alloc {w:World} {v:Value} {l:List dx} (h:dA w v l) (o:Obj):dA (w.alloc o) v l:=h.keep (aM)
theorem Hd (vk vp:Value) (ks ps:List dx) (w:World) (hk:dA w vk ks) (hp:dA w vp ps) (nk:Names ks) (np:Names ps) :
  Calls Tryz.prog 40 #[.agg #[vk,vp]] w fun e w'=>e=.returned (.bool (dM ks&&dH ps))∧Below w.heap.size w w':=by
 have HK:=hk;have HP:=hp;obtain ⟨ak,ck,rfl,-,-,-⟩:=hk;obtain ⟨ap,cp,rfl,-,-,-⟩:=hp;have Ho:Hid (dA w (.slice ak ks.length ck) ks):=HK;have uW:Hid (dA w (.slice ap ps.length cp) ps):=HP;have NK:Hid (Names ks):=nk;have NP:Hid (Names ps):=np;clear HK HP nk np
 cases h1:dM ks
 ·have H1:Hid (dM ks=false):=h1
  rw [Bool.false_and];clear h1
  go_enter Tryz.func40,Tryz.ntmps40
  go_wp2_with fail;refine (oG _ ks _ (Ho.out.alloc _) NK.out).mono ?_;rw [H1.out];rintro e w1 ⟨rfl,hb1⟩;go_wp2;go_ret;exact ⟨rfl,aa (aM) hb1⟩
 ·have H1:Hid (dM ks=true):=h1
  rw [Bool.true_and];clear h1
  go_enter Tryz.func40,Tryz.ntmps40
  go_wp2_with fail;refine (oG _ ks _ (Ho.out.alloc _) NK.out).mono ?_;rw [H1.out];rintro e w1 ⟨rfl,hb1⟩
  have c1:w1.cell? ⟨w.heap.size,1,none⟩=some (.slice ap ps.length cp):=ag hb1 aG (by simp)
  have hbw:=aa (aM) hb1;go_wp2_with fail;refine (rQ _ ps _ (uW.out.keep hbw) NP.out).mono ?_;rintro e w2 ⟨rfl,hb2⟩;go_wp2;go_ret;exact ⟨rfl,aa hbw hb2⟩
theorem pU {B:Nat} {a w:World} (h:Below B a w) (k o:Nat) (hk:B≤k) (v:Value):Below B a (w.setCell ⟨k,o,none⟩ v):=h.setCell (p:=⟨k,o,none⟩) hk v
open Go.RowKit
structure fI where
 what:Int
 num:Int
 v:ByteArray
structure dU where
 name:ByteArray
 fs:List fI
def lG (w:World) (b o:Nat) (f:fI):Prop:=w.cell? ⟨b,o,none⟩=some (.int .i64 f.what)∧w.cell? ⟨b,o+1,none⟩=some (.int .i64 f.num)∧w.cell? ⟨b,o+2,none⟩=some (.string f.v)
def iW (w:World) (v:Value) (l:List fI):Prop :=
 ∃ a cap,v=.slice a l.length cap∧l.length≤cap∧cap≤maxLen∧∀ i f,l[i]?=some f→∃ b off,a=some ⟨b,off,none⟩∧lG w b (off+i*3) f
def lH (w:World) (b o:Nat) (e:dU):Prop:=∃ fv,w.cell? ⟨b,o,none⟩=some (.string e.name)∧w.cell? ⟨b,o+1,none⟩=some fv∧iW w fv e.fs
def je (w:World) (v:Value) (l:List dU):Prop :=
 ∃ a cap,v=.slice a l.length cap∧l.length≤cap∧cap≤maxLen∧∀ i e,l[i]?=some e→∃ b off,a=some ⟨b,off,none⟩∧lH w b (off+i*2) e
theorem lG.keep {w w':World} {b o B:Nat} {f:fI} (h:lG w b o f) (hb:Below B w w') (hB:w.heap.size≤B):lG w' b o f :=
 ⟨ag hb hB h.1,ag hb hB h.2.1,ag hb hB h.2.2⟩
theorem iW.keep {w w':World} {v:Value} {l:List fI} (h:iW w v l) (hb:Below w.heap.size w w'):iW w' v l:=by
 obtain ⟨a,cap,rfl,h1,h2,h3⟩:=h;refine ⟨a,cap,rfl,h1,h2,fun i t ht=>?_⟩;obtain ⟨b,off,ha,hc⟩:=h3 i t ht;exact ⟨b,off,ha,hc.keep hb aG⟩
theorem lH.keep {w w':World} {b o:Nat} {e:dU} (h:lH w b o e) (hb:Below w.heap.size w w'):lH w' b o e:=by
 obtain ⟨fv,h0,h1,h2⟩:=h;exact ⟨fv,ag hb aG h0,ag hb aG h1,h2.keep hb⟩
theorem je.keep {w w':World} {v:Value} {l:List dU} (h:je w v l) (hb:Below w.heap.size w w'):je w' v l:=by
 obtain ⟨a,cap,rfl,h1,h2,h3⟩:=h;refine ⟨a,cap,rfl,h1,h2,fun i t ht=>?_⟩;obtain ⟨b,off,ha,hc⟩:=h3 i t ht;exact ⟨b,off,ha,hc.keep hb⟩
def fH (l:List fI) (i:Nat):fI:=l.getD i ⟨0,0,⟨#[]⟩⟩
theorem b7 {l:List fI} {i:Nat} (h:i<l.length):l[i]?=some (fH l i):=by simp [fH,h]
def eZ (l:List dU) (i:Nat):dU:=l.getD i ⟨⟨#[]⟩,[]⟩
theorem bp {l:List dU} {i:Nat} (h:i<l.length):l[i]?=some (eZ l i):=by simp [eZ,h]
def FNames (l:List fI):Prop:=∀ f∈l,f.v.size≤maxLen
def zh (l:List dU):Prop:=∀ e∈l,e.name.size≤maxLen∧FNames e.fs
def jC {α:Type} (g:α→Nat):List α→Nat
 | []=>0
 | t::r=>g t+jC g r
theorem Dg {α:Type} (g:α→Nat) (l r:List α):jC g (l++r)=jC g l+jC g r:=by
 induction l with
 | nil=>simp [jC]
 | cons a l ih=>simp [jC,ih];omega
theorem Bi {α:Type} (g:α→Nat) (l:List α) (k:Nat):jC g (l.take k)≤jC g l:=by
 conv=>rhs;rw [← List.take_append_drop k l,Dg]
 omega
theorem Df {α:Type} (g:α→Nat) (l:List α) (x:α) (h:x∈l):g x≤jC g l:=by
 induction l with
 | nil=>cases h
 | cons a l ih =>
  rcases List.mem_cons.1 h with rfl | h
  ·simp [jC]
  ·have:=ih h;simp [jC];omega
def Bh (l:List fI):Nat:=l.length+jC (fun f=>f.v.size) l
def zU (e:dU):Nat:=e.name.size+Bh e.fs
def KH (l:List dU):Nat:=l.length+jC zU l
open Go.RowKit
open Go.RowKit
def dL (f:fI):List Value:=[.int .i64 f.what,.int .i64 f.num,.string f.v]
theorem il.iL {w wr:World} {B n:Nat} {l:List fI} (h:il w wr B n 3 (l.map dL)) (hn:l.length=n) (hm:n≤maxLen):iW wr (.slice (some ⟨B,0,none⟩) n n) l :=
 ⟨some ⟨B,0,none⟩,n,by rw [hn],by omega,hm,fun i f hf=>⟨B,0,rfl,by
  have hr:(l.map dL)[i]?=some (dL f):=by rw [List.getElem?_map,hf];rfl
  refine ⟨?_,?_,?_⟩
  ·simpa using h.cell hr (j:=0) (v:=.int .i64 f.what) rfl
  ·simpa using h.cell hr (j:=1) (v:=.int .i64 f.num) rfl
  ·simpa using h.cell hr (j:=2) (v:=.string f.v) rfl⟩⟩
open Go.RowKit
theorem qj (v:Value) (l:List dx) (s:ByteArray) (w:World) (hv:dA w v l) :
  Calls Tryz.prog 180 #[v,.string s,.func (.func 129) #[] #[]] w fun e w'=>e=.returned (.tuple #[.int .i64 (iH l s:Nat),.bool (hasB l s)])∧Below w.heap.size w w':=by
 obtain ⟨a,cap,rfl,hlc,hcm,hc⟩:=hv;unfold maxLen at hcm;have HC:Hid (∀ i t,l[i]?=some t→∃ b off,a=some ⟨b,off,none⟩∧gX w b (off+i*3) t):=hc;clear hc
 go_enter Tryz.func180,Tryz.ntmps180
 go_wp2
 go_loopw [7,8,12] (fun _ _ i wr=>∃ k:Nat,k≤l.length∧i=.int .i64 k∧Below w.heap.size w wr∧Hid (∀ j,j<k→kz (at' l j).s s=false)) (fun _ _ i _=>l.length-(intOf i).toNat)
 case atStart=>exact ⟨0,Nat.zero_le _,rfl,Below.refl _ _,fun j hj=>absurd hj (Nat.not_lt_zero _)⟩
 case round =>
  obtain ⟨k,hk,rfl,hb,HA⟩:=hrel
  by_cases hlt:k<l.length
  ·obtain ⟨b,off,rfl,hc⟩:=HC.out k _ (bo hlt)
   obtain ⟨d0,d1,d2⟩:=hc.keep hb aG
   have hk0:(0:Int)≤(k:Int):=by omega
   have hk1:(k:Int)<(l.length:Int):=by omega
   go_wp2_with fail;refine (kJ (at' l k) _).mono ?_;rintro e w1 ⟨rfl,hb1⟩
   have tn:gX w1 wr.heap.size 0 (at' l k):=gX.keep (w:=wr.alloc (.cells #[.string (at' l k).s,.int .i64 (at' l k).x,.int .i64 (at' l k).y] 69)) ⟨by simp,by simp,by simp⟩ hb1 aG
   have bY:Hid (Below w.heap.size w w1):=aa (hb.alloc hb.size _) hb1;obtain ⟨n0,n1,n2⟩:=tn;clear hb1 d0 d1 d2 hc
   cases hg:kz (at' l k).s s
   ·have hg':Op.bytesLess (at' l k).s.toList s.toList=true:=by unfold kz at hg;simpa using hg
    have HG:Hid (kz (at' l k).s s=false):=hg;clear hg;go_wp2
    exact ⟨⟨k+1,by omega,by go_num,bY.out,fun j hj=>if e:j=k then by rw [e];exact HG.out else HA.out j (by omega)⟩,by simp [intOf];omega⟩
   ·have hg':Op.bytesLess (at' l k).s.toList s.toList=false:=by unfold kz at hg;simpa using hg
    have HG:Hid (kz (at' l k).s s=true):=hg;have HP:Hid (iH l s=k):=xB hlt hg HA.out;have HH:Hid (hasB l s=decide ((at' l k).s=s)):=Cg hlt hg HA.out;clear hg
    have hq:((at' l k).s.toList==s.toList)=decide ((at' l k).s=s):=by
     by_cases hx:(at' l k).s=s
     ·rw [cA hx];simp [hx]
     ·rw [b9 hx];simp [hx]
    go_wp2_with fail;refine (kJ (at' l k) _).mono ?_;rintro e w2 ⟨rfl,hb2⟩;go_wp2
    go_ret2
    exact ⟨by rw [HP.out,HH.out];rfl,aa bY.out hb2⟩
  ·go_wp2
   go_ret2
   exact ⟨by rw [rR fun j hj=>HA.out j (by omega),EI fun j hj=>HA.out j (by omega)];rfl,hb⟩
theorem ou (v:Value) (l:List dx) (s:ByteArray) (w:World) (hv:dA w v l) :
  Calls Tryz.prog 183 #[v,.string s,.func (.func 132) #[] #[]] w fun e w'=>e=.returned (.tuple #[.int .i64 (iH l s:Nat),.bool (hasB l s)])∧Below w.heap.size w w':=by
 obtain ⟨a,cap,rfl,hlc,hcm,hc⟩:=hv;unfold maxLen at hcm;have HC:Hid (∀ i t,l[i]?=some t→∃ b off,a=some ⟨b,off,none⟩∧gX w b (off+i*3) t):=hc;clear hc
 go_enter Tryz.func183,Tryz.ntmps183
 go_wp2
 go_loopw [7,8,12] (fun _ _ i wr=>∃ k:Nat,k≤l.length∧i=.int .i64 k∧Below w.heap.size w wr∧Hid (∀ j,j<k→kz (at' l j).s s=false)) (fun _ _ i _=>l.length-(intOf i).toNat)
 case atStart=>exact ⟨0,Nat.zero_le _,rfl,Below.refl _ _,fun j hj=>absurd hj (Nat.not_lt_zero _)⟩
 case round =>
  obtain ⟨k,hk,rfl,hb,HA⟩:=hrel
  by_cases hlt:k<l.length
  ·obtain ⟨b,off,rfl,hc⟩:=HC.out k _ (bo hlt)
   obtain ⟨d0,d1,d2⟩:=hc.keep hb aG
   have hk0:(0:Int)≤(k:Int):=by omega
   have hk1:(k:Int)<(l.length:Int):=by omega
   go_wp2_with fail;refine (jV (at' l k) _).mono ?_;rintro e w1 ⟨rfl,hb1⟩
   have tn:gX w1 wr.heap.size 0 (at' l k):=gX.keep (w:=wr.alloc (.cells #[.string (at' l k).s,.int .i64 (at' l k).x,.int .i64 (at' l k).y] 72)) ⟨by simp,by simp,by simp⟩ hb1 aG
   have bY:Hid (Below w.heap.size w w1):=aa (hb.alloc hb.size _) hb1;obtain ⟨n0,n1,n2⟩:=tn;clear hb1 d0 d1 d2 hc
   cases hg:kz (at' l k).s s
   ·have hg':Op.bytesLess (at' l k).s.toList s.toList=true:=by unfold kz at hg;simpa using hg
    have HG:Hid (kz (at' l k).s s=false):=hg;clear hg;go_wp2
    exact ⟨⟨k+1,by omega,by go_num,bY.out,fun j hj=>if e:j=k then by rw [e];exact HG.out else HA.out j (by omega)⟩,by simp [intOf];omega⟩
   ·have hg':Op.bytesLess (at' l k).s.toList s.toList=false:=by unfold kz at hg;simpa using hg
    have HG:Hid (kz (at' l k).s s=true):=hg;have HP:Hid (iH l s=k):=xB hlt hg HA.out;have HH:Hid (hasB l s=decide ((at' l k).s=s)):=Cg hlt hg HA.out;clear hg
    have hq:((at' l k).s.toList==s.toList)=decide ((at' l k).s=s):=by
     by_cases hx:(at' l k).s=s
     ·rw [cA hx];simp [hx]
     ·rw [b9 hx];simp [hx]
    go_wp2_with fail;refine (jV (at' l k) _).mono ?_;rintro e w2 ⟨rfl,hb2⟩;go_wp2
    go_ret2
    exact ⟨by rw [HP.out,HH.out];rfl,aa bY.out hb2⟩
  ·go_wp2
   go_ret2
   exact ⟨by rw [rR fun j hj=>HA.out j (by omega),EI fun j hj=>HA.out j (by omega)];rfl,hb⟩
theorem BV (vk vp:Value) (l:List dx) (s:ByteArray) (w:World) (hv:dA w vk l) :
  Calls Tryz.prog 330 #[.agg #[],.agg #[vk,vp],.string s] w fun e w'=>e=.returned (.bool (hasB l s))∧Below w.heap.size w w':=by
 have HV:Hid (dA w vk l):=hv;obtain ⟨a,cap,rfl,-,-,-⟩:=hv
 go_enter Tryz.func330,Tryz.ntmps330
 go_wp2_with fail
 refine (qj _ l s _ (HV.out.keep ((aM).alloc (by simp) _))).mono ?_
 rintro e w1 ⟨rfl,hb1⟩;go_wp2;go_ret
 exact ⟨rfl,aa ((aM).alloc (by simp) _) hb1⟩
theorem open_list:DW.toList=[111,112,101,110]:=by rw [ByteArray.toList_eq];rfl
theorem vN:pJ.toList=[99,108,111,115,101,100]:=by rw [ByteArray.toList_eq];rfl
theorem zw (vk vp:Value) (s:ByteArray) (w:World) :
  Calls Tryz.prog 334 #[.agg #[],.agg #[vk,vp],.string s] w fun e w'=>e=.returned (.bool (iq s))∧Below w.heap.size w w':=by
 by_cases h1:s=DW
 ·have e:iq s=true:=by simp [iq,h1]
  have g1:(s.toList==[111,112,101,110])=true:=open_list ▸ cA h1;rw [e];clear e h1
  go_enter Tryz.func334,Tryz.ntmps334
  go_wp2;go_ret
  exact ⟨rfl,(aM).alloc (by simp) _⟩
 ·have g1:(s.toList==[111,112,101,110])=false:=open_list ▸ b9 h1
  by_cases h2:s=pJ
  ·have e:iq s=true:=by simp [iq,h2]
   have g2:(s.toList==[99,108,111,115,101,100])=true:=vN ▸ cA h2;rw [e];clear e h1 h2
   go_enter Tryz.func334,Tryz.ntmps334
   go_wp2;go_ret
   exact ⟨rfl,(aM).alloc (by simp) _⟩
  ·have e:iq s=false:=by simp [iq,h1,h2]
   have g2:(s.toList==[99,108,111,115,101,100])=false:=vN ▸ b9 h2;rw [e];clear e h1 h2
   go_enter Tryz.func334,Tryz.ntmps334
   go_wp2;go_ret
   exact ⟨rfl,(aM).alloc (by simp) _⟩
theorem zH (vk vp:Value) (s:ByteArray) (w:World) (hs:s.size≤1048576) :
  Calls Tryz.prog 332 #[.agg #[],.agg #[vk,vp],.string s] w fun e w'=>e=.returned (.bool (kD s))∧Below w.heap.size w w':=by
 have J9:Hid (∀ wx:World,Calls Tryz.prog 208 #[.string s] wx fun e w'=>e=.returned (.tuple #[.int .i64 (bif eu s then (lI s:Int) else 0),.bool (eu s)])∧Below wx.heap.size wx w'):=fun wx=>bW s wx (by unfold maxLen;omega)
 cases hd:eu s
 ·have e:kD s=false:=by simp [kD,hd]
  have HD:Hid (eu s=false):=hd;rw [e];clear e hd
  go_enter Tryz.func332,Tryz.ntmps332
  go_wp2_with fail;refine (J9.out _).mono ?_;rw [HD.out];rintro e w1 ⟨rfl,hb1⟩;go_wp2;go_ret
  exact ⟨rfl,aa ((aM).alloc (by simp) _) hb1⟩
 ·have e:kD s=eB (lI s) 1 6:=by simp [kD,hd]
  have HD:Hid (eu s=true):=hd;rw [e];clear e hd;generalize lI s=n at J9
  by_cases h1:1≤(n:Int)
  ·by_cases h2:(n:Int)≤6
   ·have e:eB n 1 6=true:=by simp [eB,h1,h2]
    rw [e];clear e
    go_enter Tryz.func332,Tryz.ntmps332
    go_wp2_with fail;refine (J9.out _).mono ?_;rw [HD.out,cond_true];rintro e w1 ⟨rfl,hb1⟩;go_wp2;go_ret
    exact ⟨rfl,aa ((aM).alloc (by simp) _) hb1⟩
   ·have e:eB n 1 6=false:=by simp [eB];omega
    rw [e];clear e
    go_enter Tryz.func332,Tryz.ntmps332
    go_wp2_with fail;refine (J9.out _).mono ?_;rw [HD.out,cond_true];rintro e w1 ⟨rfl,hb1⟩;go_wp2;go_ret
    exact ⟨ax (decide_eq_false (by omega)),aa ((aM).alloc (by simp) _) hb1⟩
  ·have e:eB n 1 6=false:=by simp [eB];omega
   rw [e];clear e
   go_enter Tryz.func332,Tryz.ntmps332
   go_wp2_with fail;refine (J9.out _).mono ?_;rw [HD.out,cond_true];rintro e w1 ⟨rfl,hb1⟩;go_wp2;go_ret
   exact ⟨rfl,aa ((aM).alloc (by simp) _) hb1⟩
end Go.Proofs.YtcmgddnckohdaaaGreatDoor
