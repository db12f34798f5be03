import Derived.Test.YtcmgddnckohdaaaGreatDoorLater
import Derived.Test.YtcmgddnckohdaaaGreatDoorTkU
import Derived.Test.YtcmgddnckohdaaaGreatDoorRows2
set_option maxRecDepth 100000
set_option maxHeartbeats 6400000
set_option linter.unusedSimpArgs false
set_option linter.unusedVariables false
namespace Go.Proofs.YtcmgddnckohdaaaGreatDoor.Dr
open Go.RowKit
attribute [local go_sem] Later.cell Later.frozen
theorem am {P:Prop} (h:P):Hid P:=h
def BysAt (w:World) (R:Nat) (v:Value) (n:Nat):Prop:=∃ a cap,v=.slice a n cap∧n≤cap∧cap≤maxLen∧∀ i,i<n→∃ b off x,a=some ⟨b,off,none⟩∧b<R∧w.cell? ⟨b,off+i,none⟩=some (.int .u8 x)∧0≤x∧x<256
structure Rd (w:World) (R p:Nat):Prop where
 box:∃ v n,n≤2000∧w.heap[R]?=some (.cells #[v,.int .i64 (p:Int)] 97 (0,0))∧BysAt w R v n
theorem aG {w:World} {b:Nat} {o:Obj} (h:w.heap[b]?=some o):b<w.heap.size:=(Array.getElem?_eq_some_iff.1 h).1
theorem ab {w:World} {b i:Nat} {C:Array Value} {T:TypeId} {u:Value} (h:w.heap[b]?=some (.cells C T (0,0))) (hc:C[i]?=some u):w.cell? ⟨b,i,none⟩=some u:=by simp [World.cell?,h,hc]
theorem Rd.far {w w':World} {R p:Nat} (h:Rd w R p) (hb:Below w.heap.size w w'):Rd w' R p:=by
 obtain ⟨v,n,hn,hx,a,cap,rfl,h1,h2,h3⟩:=h.box;refine ⟨.slice a n cap,n,hn,(hb.block R (aG hx)).trans hx,a,cap,rfl,h1,h2,fun i hi=>?_⟩;obtain ⟨b,off,x,e,hbR,hc,hr⟩:=h3 i hi;exact ⟨b,off,x,e,hbR,ag hb aH hc,hr⟩
theorem Rd.next {w:World} {R p:Nat} (h:Rd w R p) (q:Nat):Rd (w.setCell ⟨R,1,none⟩ (.int .i64 (q:Int))) R q:=by
 obtain ⟨v,n,hn,hx,hb⟩:=h.box;obtain ⟨a,cap,rfl,h1,h2,h3⟩:=hb;have hlt:=aG hx
 have hh:(w.setCell ⟨R,1,none⟩ (.int .i64 (q:Int))).heap[R]?=some (.cells #[.slice a n cap,.int .i64 (q:Int)] 97 (0,0)):=by
  have h':w.heap[R]=.cells #[.slice a n cap,.int .i64 (p:Int)] 97 (0,0):=by simpa [Array.getElem?_eq_getElem hlt] using hx
  show (w.heap.modify R _)[R]?=_
  rw [Array.getElem?_eq_getElem (by simpa using hlt),Array.getElem_modify_self,h']
  rfl
 refine ⟨.slice a n cap,n,hn,hh,a,cap,rfl,h1,h2,fun i hi=>?_⟩;obtain ⟨b,off,x,e,hbR,hc,hr⟩:=h3 i hi;refine ⟨b,off,x,e,hbR,?_,hr⟩
 rw [World.cell?_of_block (w:=w) (Below.heap_setCell w ⟨R,1,none⟩ _ b (by show b≠R;omega))]
 exact hc
theorem Rd.late {w w':World} {R p:Nat} (h:Rd w R p) (hs:∀ j,j≤R→w'.heap[j]?=w.heap[j]?):Rd w' R p:=by
 obtain ⟨v,n,hn,hx,a,cap,rfl,h1,h2,h3⟩:=h.box;refine ⟨.slice a n cap,n,hn,(hs R aH).trans hx,a,cap,rfl,h1,h2,fun i hi=>?_⟩;obtain ⟨b,off,x,e,hbR,hc,hr⟩:=h3 i hi;refine ⟨b,off,x,e,hbR,?_,hr⟩
 rw [World.cell?_of_block (w:=w) (hs b (by omega))]
 exact hc
theorem bM {w w7:World} {r:Option Nat} (h:w.grownBy w7 r) {b:Nat} (i:Nat) (v:Value) (hb:w.heap.size≤b):w.grownBy (w7.setCell ⟨b,i,none⟩ v) r :=
 ⟨h.1,h.2,h.3,by simpa using h.4,fun j hj hr=>(Below.heap_setCell w7 ⟨b,i,none⟩ v j (by show j≠b;omega)).trans (h.5 j hj hr)⟩
theorem aW {w w7:World} {r:Option Nat} (h:w.grownBy w7 r) {b:Nat} (C:Array Value) (hb:w.heap.size≤b):w.grownBy (w7.setRow b C) r :=
 ⟨h.1,h.2,h.3,by simpa using h.4,fun j hj hr=>(setRow_other _ _ _ _ (by omega)).trans (h.5 j hj hr)⟩
theorem bd (w:World) (R i:Nat) (v:Value):w.grownBy (w.setCell ⟨R,i,none⟩ v) (some R) :=
 ⟨rfl,rfl,rfl,by simp,fun j _ hr=>Below.heap_setCell w ⟨R,i,none⟩ v j (fun e=>hr (by rw [e]))⟩
theorem av {w w1 w2:World} {r:Option Nat} (h:w.grownBy w1 r) (k:w1.grownBy w2 r):w.grownBy w2 r :=
 ⟨k.1.trans h.1,k.2.trans h.2,k.3.trans h.3,Nat.le_trans h.4 k.4,fun j hj hr=>(k.5 j (Nat.lt_of_lt_of_le hj h.4) hr).trans (h.5 j hj hr)⟩
theorem az {w w':World} (h:Below w.heap.size w w') (r:Option Nat):w.grownBy w' r:=⟨h.1,h.2,h.3,h.4,fun k hk _=>h.5 k hk⟩
theorem xor_i64 (a b:Nat) (ha:a<4611686018427387904) (hb:b<4611686018427387904):bits .xor .i64 (a:Int) (b:Int)=((a ^^^ b:Nat):Int):=by
 have hx:a ^^^ b<2 ^ 62:=Nat.xor_lt_two_pow (by omega) (by omega)
 have h1:(BitVec.ofInt 64 (a:Int)).toNat=a:=by
  rw [BitVec.ofInt_natCast,BitVec.toNat_ofNat];exact Nat.mod_eq_of_lt (by omega)
 have h2:(BitVec.ofInt 64 (b:Int)).toNat=b:=by
  rw [BitVec.ofInt_natCast,BitVec.toNat_ofNat];exact Nat.mod_eq_of_lt (by omega)
 show IntKind.i64.wrap ((BitVec.ofInt 64 (a:Int) ^^^ BitVec.ofInt 64 (b:Int)).toNat:Int)=_
 rw [BitVec.toNat_xor,h1,h2,IntKind.wrap_i64]
 omega
theorem aF (R p:Nat) (n:Int) (w:World) (h:Rd w R p) (hp:p≤1000000) (hn:n≤1000000) :
  Calls Tryz.prog 25 #[.pointer (some ⟨R,0,none⟩),.int .i64 n] w fun e w'=>∃ x:Int,e=.returned (.int .i64 x)∧0≤x∧(1≤n→x<n)∧(n<1→x=0)∧Rd w' R (p+1)∧w.grownBy w' (some R):=by
 have HN:=am (h.next (p+1));obtain ⟨v,m,hm,hx,hb⟩:=h.box;obtain ⟨a,cap,rfl,h1,h2,h3⟩:=hb;unfold maxLen at h2;have hlt:=aG hx;have c0:=ab hx (i:=0) rfl;have c1:=ab hx (i:=1) rfl
 have f1:w.frozen? ⟨R,1,none⟩=false:=by simp [World.frozen?,hx]
 have HG:Hid (w.grownBy (w.setCell ⟨R,1,none⟩ (.int .i64 ((p+1:Nat):Int))) (some R)):=bd w R 1 _
 rw [show ((p+1:Nat):Int)=(p:Int)+1 by omega] at HG HN
 have d0:(w.setCell ⟨R,1,none⟩ (.int .i64 ((p:Int)+1))).cell? ⟨R,0,none⟩=some (.slice a m cap):=by
  rw [World.cell?_setCell_other w ⟨R,1,none⟩ ⟨R,0,none⟩ _ (by simp)];exact c0
 by_cases hn1:n<1
 ·go_enter Tryz.func25,Tryz.ntmps25
  go_wp2;go_ret
  exact ⟨0,rfl,Int.le_refl _,fun h=>absurd h (by omega),fun _=>rfl,HN.out,HG.out⟩
 ·by_cases hm0:m=0
  ·subst hm0
   go_enter Tryz.func25,Tryz.ntmps25
   go_wp2;go_ret
   exact ⟨0,rfl,Int.le_refl _,(by first | omega | exact fun _=>by omega),(by first | trivial | exact fun _=>rfl | omega),HN.out,HG.out⟩
  ·obtain ⟨b,off,x00,rfl,hbR,hc00,-⟩:=h3 0 (by omega)
   have HNB:Hid (b≠R):=by show b≠R;omega
   have H3:Hid (∀ i,i<m→∃ x,(w.setCell ⟨R,1,none⟩ (.int .i64 ((p:Int)+1))).cell? ⟨b,off+i,none⟩=some (.int .u8 x)∧0≤x∧x<256):=fun i hi=>by
    obtain ⟨b',off',x,e,-,hc,hr⟩:=h3 i hi
    cases e
    refine ⟨x,?_,hr⟩;rw [World.cell?_of_block (w:=w) (Below.heap_setCell w ⟨R,1,none⟩ _ b HNB.out)];exact hc
   have d1:(w.setCell ⟨R,1,none⟩ (.int .i64 ((p:Int)+1))).cell? ⟨R,1,none⟩=some (.int .i64 ((p:Int)+1)):=World.cell?_setCell_same w ⟨R,1,none⟩ _ c1;clear h3 hc00
   have hp0:(0:Int)≤(p:Int):=by omega
   have hmp:(0:Int)<(m:Int):=by omega
   have hmz:¬ (m:Int)=0:=by omega
   have hmb:((m:Int)==0)=false:=by simp;omega
   have hnz:¬ n=0:=by omega
   by_cases hpm:(p:Int)<(m:Int)
   ·obtain ⟨x,e0,hx0,hx1⟩:=H3.out p (by omega)
    go_enter Tryz.func25,Tryz.ntmps25
    go_wp2;go_ret
    exact ⟨x % n,rfl,Int.emod_nonneg _ hnz,(by first | exact Int.emod_lt_of_pos _ (by omega) | exact fun _=>Int.emod_lt_of_pos _ (by omega)),(by first | omega | exact fun _=>by omega),HN.out,HG.out⟩
   ·obtain ⟨i1,hi1⟩:∃ i:Nat,(p:Int) % (m:Int)=(i:Int):=⟨p % m,by simp⟩
    obtain ⟨i2,hi2⟩:∃ i:Nat,((p:Int)*7+3) % (m:Int)=(i:Int):=⟨(p*7+3) % m,by simp⟩
    have l1:(0:Int)≤(i1:Int):=by omega
    have l2:(i1:Int)<(m:Int):=by rw [← hi1];exact Int.emod_lt_of_pos _ hmp
    have l3:(0:Int)≤(i2:Int):=by omega
    have l4:(i2:Int)<(m:Int):=by rw [← hi2];exact Int.emod_lt_of_pos _ hmp
    obtain ⟨x1,e1,hx0,hx1⟩:=H3.out i1 (by omega)
    obtain ⟨x2,e2,hx2,hx3⟩:=H3.out i2 (by omega)
    obtain ⟨dv,hdv⟩:∃ d:Int,(p:Int) / (m:Int)=d:=⟨_,rfl⟩
    have hd0:0≤dv:=by rw [← hdv];exact Int.ediv_nonneg hp0 (by omega)
    have hd1:dv≤1000000:=by rw [← hdv];have:=Int.ediv_le_self (m:Int) hp0;omega
    have z1:=ar e1;have zR:=ar d0
    have hw1:IntKind.i64.wrap ((p:Int)*7)=(p:Int)*7:=by rw [IntKind.wrap_i64];omega
    have hw2:IntKind.i64.wrap ((p:Int)*7+3)=(p:Int)*7+3:=by rw [IntKind.wrap_i64];omega
    have hw3:IntKind.i64.wrap (x1*131)=x1*131:=by rw [IntKind.wrap_i64];omega
    have hw4:IntKind.i64.wrap (x2*1117)=x2*1117:=by rw [IntKind.wrap_i64];omega
    have hw5:IntKind.i64.wrap (x1*131+x2*1117)=x1*131+x2*1117:=by rw [IntKind.wrap_i64];omega
    have hw6:IntKind.i64.wrap ((p:Int)*29)=(p:Int)*29:=by rw [IntKind.wrap_i64];omega
    have hw7:IntKind.i64.wrap (x1*131+x2*1117+(p:Int)*29)=x1*131+x2*1117+(p:Int)*29:=by rw [IntKind.wrap_i64];omega
    have hw8:IntKind.i64.wrap (dv*53)=dv*53:=by rw [IntKind.wrap_i64];omega
    have hw9:IntKind.i64.wrap (x1*131+x2*1117+(p:Int)*29+dv*53)=x1*131+x2*1117+(p:Int)*29+dv*53:=by rw [IntKind.wrap_i64];omega
    have hwd:IntKind.i64.wrap dv=dv:=by rw [IntKind.wrap_i64];omega
    go_enter Tryz.func25,Tryz.ntmps25
    go_wp2;generalize (w.setCell ⟨R,1,none⟩ (.int .i64 ((p:Int)+1)))=w1 at *;have hne:=Later.some w1
    refine aq (by kernel_rfl) (by kernel_rfl) ?_
    repeat (go_big_quiet_step (fail))
    refine wpQuiet_nil ?_;rintro _ ⟨xx,rfl⟩;have HN2:=am (HN.out.far xx.below);have HG2:=am (av HG.out (az xx.below _))
    have ht0:0≤x1*131+x2*1117+(p:Int)*29+dv*53:=by omega
    have ht1:x1*131+x2*1117+(p:Int)*29+dv*53≤100000000:=by omega
    generalize x1*131+x2*1117+(p:Int)*29+dv*53=t at *
    obtain ⟨u,hu0,hu1⟩:∃ u:Nat,bits .xor .i64 t (t / 64)=(u:Int)∧u<2 ^ 62:=by
     obtain ⟨tn,rfl⟩:∃ tn:Nat,t=tn:=⟨t.toNat,by omega⟩
     refine ⟨tn ^^^ (tn / 64),?_,Nat.xor_lt_two_pow (by omega) (by omega)⟩
     rw [show ((tn:Int) / 64)=((tn / 64:Nat):Int) by simp]
     exact xor_i64 _ _ (by omega) (by omega)
    have hun:(0:Int)≤(u:Int):=by omega
    go_wp2;go_ret
    exact ⟨(u:Int) % n,rfl,Int.emod_nonneg _ hnz,(by first | exact Int.emod_lt_of_pos _ (by omega) | exact fun _=>Int.emod_lt_of_pos _ (by omega)),(by first | omega | exact fun _=>by omega),HN2.out,HG2.out⟩
end Go.Proofs.YtcmgddnckohdaaaGreatDoor.Dr
namespace Go.Proofs.YtcmgddnckohdaaaGreatDoor
open Go.RowKit
theorem asc_zero (l:List Tri):ascB l 0=true:=by simp [ascB]
theorem asc_succ (l:List Tri) (m:Nat):ascB l (m+1)=!geB (at' l m).s (at' l (m+1)).s:=by simp [ascB]
def TriAt (w:World) (b o:Nat) (t:Tri):Prop :=
  w.cell? ⟨b,o,none⟩=some (.string t.s)∧w.cell? ⟨b,o+1,none⟩=some (.int .i64 t.x)∧w.cell? ⟨b,o+2,none⟩=some (.int .i64 t.y)
theorem TriAt.keep {w w':World} {b o B:Nat} {t:Tri} (h:TriAt w b o t) (hb:Below B w w') (hB:w.heap.size≤B):TriAt w' b o t :=
  ⟨ag hb hB h.1,ag hb hB h.2.1,ag hb hB h.2.2⟩
theorem namesKind_any (v : Value) (l : List Tri) (most : Nat) (w : World) (hv : TrisAt w v l) (hs : ∀ t ∈ l, t.s.size ≤ maxLen) (hm : most ≤ 1000) :
    Calls Tryz.prog 128 #[v,.int .i64 most,.func (.func 129) #[] #[]] w fun e w'=>e=.returned (.bool (namesB l most))∧Below w.heap.size w w':=by
  obtain ⟨a,cap,rfl,hlc,hcm,hc⟩:=hv;unfold maxLen at hcm;have HC:Hid (∀ i t,l[i]?=some t→∃ b off,a=some ⟨b,off,none⟩∧TriAt w b (off+i*3) t):=hc;have HS:Hid (∀ t∈l,t.s.size≤maxLen):=hs;clear hc hs
  by_cases hn:(most:Int)<(l.length:Int)
  · have e:namesB l most=false:=by simp [namesB];omega
    rw [e];clear e
    go_enter Tryz.func128,Tryz.ntmps128
    go_wp2;go_ret;exact ⟨rfl,Below.refl _ _⟩
  · have e : namesB l most = allB l.length fun i => nameB (at' l i).s && ascB l i := by
      have:l.length≤most:=by omega
      simp [namesB,this]
    rw [e];clear e
    go_enter Tryz.func128,Tryz.ntmps128
    go_wp2
    go_loopw [7,8,15] (fun _ _ i wr=>∃ k:Nat,k≤l.length∧i=.int .i64 k∧Below w.heap.size w wr∧Hid (∀ j,j<k→(nameB (at' l j).s&&ascB l j)=true)) (fun _ _ i _=>l.length-(intOf i).toNat)
    case atStart=>exact ⟨0,Nat.zero_le _,rfl,Below.refl _ _,fun j hj=>absurd hj (Nat.not_lt_zero _)⟩
    case round =>
      obtain ⟨k,hk,rfl,hb,HA⟩:=hrel
      by_cases hlt:k<l.length
      · obtain ⟨b,off,rfl,hc⟩:=HC.out k _ (aX hlt)
        obtain ⟨d0,d1,d2⟩:=hc.keep hb aH;have hsk:(at' l k).s.size≤maxLen:=HS.out _ (List.mem_of_getElem? (aX hlt))
        have BAD:Hid (nameB (at' l k).s=false→allB l.length (fun i=>nameB (at' l i).s&&ascB l i)=false):=fun h=>ba hlt (by simp [h])
        have BAD':Hid (ascB l k=false→allB l.length (fun i=>nameB (at' l i).s&&ascB l i)=false):=fun h=>ba hlt (by simp [h])
        have hk0:(0:Int)≤(k:Int):=by omega
        have hk1:(k:Int)<(l.length:Int):=by omega
        have hbl:=ar d0;go_wp2_with fail;refine (kindName_any (at' l k) _).mono ?_;rintro e w1 ⟨rfl,hb1⟩;go_wp2_with fail;refine (b7 (at' l k).s _ hsk).mono ?_;rintro e w2 ⟨rfl,hb2⟩;have hb12:Below (wr.alloc (.cells #[.string (at' l k).s,.int .i64 (at' l k).x,.int .i64 (at' l k).y] 69)).heap.size (wr.alloc (.cells #[.string (at' l k).s,.int .i64 (at' l k).x,.int .i64 (at' l k).y] 69)) w2:=aa hb1 hb2;have hbw:Below w.heap.size w w2:=aa (hb.alloc hb.size _) hb12;have tk:TriAt w2 b (off+k*3) (at' l k):=hc.keep hbw aH
        have tn:TriAt w2 wr.heap.size 0 (at' l k):=TriAt.keep (w:=wr.alloc (.cells #[.string (at' l k).s,.int .i64 (at' l k).x,.int .i64 (at' l k).y] 69)) ⟨by simp,by simp,by simp⟩ hb12 aH
        clear d0 d1 d2 hb1 hb2 hb12
        cases hnm:nameB (at' l k).s
        · have HN:Hid (nameB (at' l k).s=false):=hnm
          clear hnm;go_wp2;go_ret;exact ⟨aw (BAD.out HN.out).symm,hbw⟩
        · have HN:Hid (nameB (at' l k).s=true):=hnm
          clear hnm
          by_cases hkz:k=0
          · subst hkz
            go_wp2
            go_quiet (fail)
            go_wp2
            exact ⟨⟨1, by omega, by go_num, below_drewN hbw _, fun j hj => by obtain rfl : j = 0 := by omega
                                                                              rw [HN.out,asc_zero];rfl⟩,by simp [intOf];omega⟩
          · obtain ⟨m,rfl⟩:∃ m,k=m+1:=⟨k-1,by omega⟩
            obtain ⟨b',off',hbo,hcm'⟩:=HC.out m _ (aX (by omega))
            cases hbo
            have tm:TriAt w2 b (off+m*3) (at' l m):=hcm'.keep hbw aH;have HE:Hid (ascB l (m+1)=!geB (at' l m).s (at' l (m+1)).s):=asc_succ l m;obtain ⟨m0,m1,m2⟩:=tm;obtain ⟨n0,n1,n2⟩:=tn
            have hi0:(0:Int)≤(m:Int):=by omega
            have hi1:(m:Int)<(l.length:Int):=by omega
            have hi2:(0:Int)<(m:Int)+1:=by omega
            have hw1:IntKind.i64.wrap (m:Int)=(m:Int):=by rw [IntKind.wrap_i64];omega
            have hw2:IntKind.i64.wrap ((m:Int)+1-1)=(m:Int):=by rw [IntKind.wrap_i64];omega
            clear hc hcm' tk;go_wp2
            go_region_held3 (fun w' => w'.cell? ⟨b, off + m * 3, none⟩ = some (.string (at' l m).s) ∧ w'.cell? ⟨b, off + m * 3 + 1, none⟩ = some (.int .i64 (at' l m).x) ∧ w'.cell? ⟨b, off + m * 3 + 2, none⟩ = some (.int .i64 (at' l m).y) ∧
                w'.cell? ⟨wr.heap.size,0,none⟩=some (.string (at' l (m+1)).s)∧w'.cell? ⟨wr.heap.size,1,none⟩=some (.int .i64 (at' l (m+1)).x)∧w'.cell? ⟨wr.heap.size,2,none⟩=some (.int .i64 (at' l (m+1)).y)∧Below w2.heap.size w2 w')
              (first | (refine ⟨by simp [*,go_sem],by simp [*,go_sem],by simp [*,go_sem],by simp [*,go_sem],by simp [*,go_sem],by simp [*,go_sem],?_⟩;exact (Below.refl _ _).drew) | (obtain ⟨s0,s1,s2,s3,s4,s5,s6⟩:=‹_∧_∧_∧_∧_∧_∧_›;exact ⟨ag hb3 aH s0,ag hb3 aH s1,ag hb3 aH s2,ag hb3 aH s3,ag hb3 aH s4,ag hb3 aH s5,aa s6 hb3⟩))
              (first | (go_at_call 129;refine (kindName_any _ _).mono ?_;rintro e w3 ⟨rfl,hb3⟩))
            go_wp2
            · rename_i h
              obtain ⟨_,_,_,_,_,_,hS⟩:=‹_∧_∧_∧_∧_∧_∧Below w2.heap.size w2 w3›;go_ret
              exact ⟨aw (BAD'.out (by rw [HE.out];unfold geB;rw [h];rfl)).symm,aa hbw hS⟩
            · rename_i h
              obtain ⟨_,_,_,_,_,_,hS⟩:=‹_∧_∧_∧_∧_∧_∧Below w2.heap.size w2 w3›
              exact ⟨⟨m+1+1,by omega,by go_num,aa hbw hS,fun j hj=>if e:j=m+1 then by rw [e,HN.out,HE.out];unfold geB;rw [h];rfl else HA.out j (by omega)⟩,by simp [intOf];omega⟩
      · go_wp2
        go_ret
        exact ⟨aw (aY fun j hj=>HA.out j (by omega)).symm,hb⟩
theorem namesPoint_any (v : Value) (l : List Tri) (most : Nat) (w : World) (hv : TrisAt w v l) (hs : ∀ t ∈ l, t.s.size ≤ maxLen) (hm : most ≤ 1000) :
    Calls Tryz.prog 131 #[v,.int .i64 most,.func (.func 132) #[] #[]] w fun e w'=>e=.returned (.bool (namesB l most))∧Below w.heap.size w w':=by
  obtain ⟨a,cap,rfl,hlc,hcm,hc⟩:=hv;unfold maxLen at hcm;have HC:Hid (∀ i t,l[i]?=some t→∃ b off,a=some ⟨b,off,none⟩∧TriAt w b (off+i*3) t):=hc;have HS:Hid (∀ t∈l,t.s.size≤maxLen):=hs;clear hc hs
  by_cases hn:(most:Int)<(l.length:Int)
  · have e:namesB l most=false:=by simp [namesB];omega
    rw [e];clear e
    go_enter Tryz.func131,Tryz.ntmps131
    go_wp2;go_ret;exact ⟨rfl,Below.refl _ _⟩
  · have e : namesB l most = allB l.length fun i => nameB (at' l i).s && ascB l i := by
      have:l.length≤most:=by omega
      simp [namesB,this]
    rw [e];clear e
    go_enter Tryz.func131,Tryz.ntmps131
    go_wp2
    go_loopw [7,8,15] (fun _ _ i wr=>∃ k:Nat,k≤l.length∧i=.int .i64 k∧Below w.heap.size w wr∧Hid (∀ j,j<k→(nameB (at' l j).s&&ascB l j)=true)) (fun _ _ i _=>l.length-(intOf i).toNat)
    case atStart=>exact ⟨0,Nat.zero_le _,rfl,Below.refl _ _,fun j hj=>absurd hj (Nat.not_lt_zero _)⟩
    case round =>
      obtain ⟨k,hk,rfl,hb,HA⟩:=hrel
      by_cases hlt:k<l.length
      · obtain ⟨b,off,rfl,hc⟩:=HC.out k _ (aX hlt)
        obtain ⟨d0,d1,d2⟩:=hc.keep hb aH;have hsk:(at' l k).s.size≤maxLen:=HS.out _ (List.mem_of_getElem? (aX hlt))
        have BAD:Hid (nameB (at' l k).s=false→allB l.length (fun i=>nameB (at' l i).s&&ascB l i)=false):=fun h=>ba hlt (by simp [h])
        have BAD':Hid (ascB l k=false→allB l.length (fun i=>nameB (at' l i).s&&ascB l i)=false):=fun h=>ba hlt (by simp [h])
        have hk0:(0:Int)≤(k:Int):=by omega
        have hk1:(k:Int)<(l.length:Int):=by omega
        have hbl:=ar d0;go_wp2_with fail;refine (pointName_any (at' l k) _).mono ?_;rintro e w1 ⟨rfl,hb1⟩;go_wp2_with fail;refine (b7 (at' l k).s _ hsk).mono ?_;rintro e w2 ⟨rfl,hb2⟩;have hb12:Below (wr.alloc (.cells #[.string (at' l k).s,.int .i64 (at' l k).x,.int .i64 (at' l k).y] 72)).heap.size (wr.alloc (.cells #[.string (at' l k).s,.int .i64 (at' l k).x,.int .i64 (at' l k).y] 72)) w2:=aa hb1 hb2;have hbw:Below w.heap.size w w2:=aa (hb.alloc hb.size _) hb12;have tk:TriAt w2 b (off+k*3) (at' l k):=hc.keep hbw aH
        have tn:TriAt w2 wr.heap.size 0 (at' l k):=TriAt.keep (w:=wr.alloc (.cells #[.string (at' l k).s,.int .i64 (at' l k).x,.int .i64 (at' l k).y] 72)) ⟨by simp,by simp,by simp⟩ hb12 aH
        clear d0 d1 d2 hb1 hb2 hb12
        cases hnm:nameB (at' l k).s
        · have HN:Hid (nameB (at' l k).s=false):=hnm
          clear hnm;go_wp2;go_ret;exact ⟨aw (BAD.out HN.out).symm,hbw⟩
        · have HN:Hid (nameB (at' l k).s=true):=hnm
          clear hnm
          by_cases hkz:k=0
          · subst hkz
            go_wp2
            go_quiet (fail)
            go_wp2
            exact ⟨⟨1, by omega, by go_num, below_drewN hbw _, fun j hj => by obtain rfl : j = 0 := by omega
                                                                              rw [HN.out,asc_zero];rfl⟩,by simp [intOf];omega⟩
          · obtain ⟨m,rfl⟩:∃ m,k=m+1:=⟨k-1,by omega⟩
            obtain ⟨b',off',hbo,hcm'⟩:=HC.out m _ (aX (by omega))
            cases hbo
            have tm:TriAt w2 b (off+m*3) (at' l m):=hcm'.keep hbw aH;have HE:Hid (ascB l (m+1)=!geB (at' l m).s (at' l (m+1)).s):=asc_succ l m;obtain ⟨m0,m1,m2⟩:=tm;obtain ⟨n0,n1,n2⟩:=tn
            have hi0:(0:Int)≤(m:Int):=by omega
            have hi1:(m:Int)<(l.length:Int):=by omega
            have hi2:(0:Int)<(m:Int)+1:=by omega
            have hw1:IntKind.i64.wrap (m:Int)=(m:Int):=by rw [IntKind.wrap_i64];omega
            have hw2:IntKind.i64.wrap ((m:Int)+1-1)=(m:Int):=by rw [IntKind.wrap_i64];omega
            clear hc hcm' tk;go_wp2
            go_region_held3 (fun w' => w'.cell? ⟨b, off + m * 3, none⟩ = some (.string (at' l m).s) ∧ w'.cell? ⟨b, off + m * 3 + 1, none⟩ = some (.int .i64 (at' l m).x) ∧ w'.cell? ⟨b, off + m * 3 + 2, none⟩ = some (.int .i64 (at' l m).y) ∧
                w'.cell? ⟨wr.heap.size,0,none⟩=some (.string (at' l (m+1)).s)∧w'.cell? ⟨wr.heap.size,1,none⟩=some (.int .i64 (at' l (m+1)).x)∧w'.cell? ⟨wr.heap.size,2,none⟩=some (.int .i64 (at' l (m+1)).y)∧Below w2.heap.size w2 w')
              (first | (refine ⟨by simp [*,go_sem],by simp [*,go_sem],by simp [*,go_sem],by simp [*,go_sem],by simp [*,go_sem],by simp [*,go_sem],?_⟩;exact (Below.refl _ _).drew) | (obtain ⟨s0,s1,s2,s3,s4,s5,s6⟩:=‹_∧_∧_∧_∧_∧_∧_›;exact ⟨ag hb3 aH s0,ag hb3 aH s1,ag hb3 aH s2,ag hb3 aH s3,ag hb3 aH s4,ag hb3 aH s5,aa s6 hb3⟩))
              (first | (go_at_call 132;refine (pointName_any _ _).mono ?_;rintro e w3 ⟨rfl,hb3⟩))
            go_wp2
            · rename_i h
              obtain ⟨_,_,_,_,_,_,hS⟩:=‹_∧_∧_∧_∧_∧_∧Below w2.heap.size w2 w3›;go_ret
              exact ⟨aw (BAD'.out (by rw [HE.out];unfold geB;rw [h];rfl)).symm,aa hbw hS⟩
            · rename_i h
              obtain ⟨_,_,_,_,_,_,hS⟩:=‹_∧_∧_∧_∧_∧_∧Below w2.heap.size w2 w3›
              exact ⟨⟨m+1+1,by omega,by go_num,aa hbw hS,fun j hj=>if e:j=m+1 then by rw [e,HN.out,HE.out];unfold geB;rw [h];rfl else HA.out j (by omega)⟩,by simp [intOf];omega⟩
      · go_wp2
        go_ret
        exact ⟨aw (aY fun j hj=>HA.out j (by omega)).symm,hb⟩
open Go.RowKit
theorem kindsOk_any (v:Value) (l:List Tri) (w:World) (hv:TrisAt w v l) (hs:∀ t∈l,t.s.size≤maxLen) :
  Calls Tryz.prog 79 #[v] w fun e w'=>e=.returned (.bool (kindsB l))∧Below w.heap.size w w':=by
 have hnm:=fun wx hvx=>namesKind_any v l 6 wx hvx hs (by omega)
 have HNM:Hid (∀ (wx:World),TrisAt wx v l→Calls Tryz.prog 128 #[v,.int .i64 (6:Nat),.func (.func 129) #[] #[]] wx fun e w'=>e=.returned (.bool (namesB l 6))∧Below wx.heap.size wx w'):=hnm;clear hnm;have HV:Hid (TrisAt w v l):=hv;obtain ⟨a,cap,rfl,hlc,hcm,hc⟩:=hv;unfold maxLen at hcm;have HC:Hid (∀ i t,l[i]?=some t→∃ b off,a=some ⟨b,off,none⟩∧TriAt w b (off+i*3) t):=hc;clear hc
 cases hn:namesB l 6
 ·have e:kindsB l=false:=by simp [kindsB,hn]
  have HN:Hid (namesB l 6=false):=hn;rw [e];clear e hn
  go_enter Tryz.func79,Tryz.ntmps79
  go_wp2_with fail;refine (HNM.out _ HV.out).mono ?_;rw [HN.out];rintro e w1 ⟨rfl,hb1⟩;go_wp2;go_ret;exact ⟨rfl,hb1⟩
 ·have e:kindsB l=allB l.length fun i=>paceB (at' l i):=by simp [kindsB,hn]
  have HN:Hid (namesB l 6=true):=hn;rw [e];clear e hn
  go_enter Tryz.func79,Tryz.ntmps79
  go_wp2_with fail;refine (HNM.out _ HV.out).mono ?_;rw [HN.out];rintro e w1 ⟨rfl,hb1⟩;go_wp2
  go_loopw [4,10] (fun _ i wr=>∃ k:Nat,k≤l.length∧i=.int .i64 k∧Below w.heap.size w wr∧Hid (∀ j,j<k→paceB (at' l j)=true)) (fun _ i _=>l.length-(intOf i).toNat)
  case atStart=>exact ⟨0,Nat.zero_le _,rfl,hb1,fun j hj=>absurd hj (Nat.not_lt_zero _)⟩
  case round =>
   obtain ⟨k,hk,rfl,hb,HA⟩:=hrel
   by_cases hlt:k<l.length
   ·obtain ⟨b,off,rfl,hc⟩:=HC.out k _ (aX hlt)
    obtain ⟨d0,d1,d2⟩:=hc.keep hb aH;have BAD:Hid (paceB (at' l k)=false→allB l.length (fun i=>paceB (at' l i))=false):=fun h=>ba hlt h
    have hk0:(0:Int)≤(k:Int):=by omega
    have hk1:(k:Int)<(l.length:Int):=by omega
    cases hp:paceB (at' l k)
    ·have HP:Hid (paceB (at' l k)=false):=hp
     clear hp;go_wp2_with fail;refine (paceOk_any (at' l k) _).mono ?_;rw [HP.out];rintro e w2 ⟨rfl,hb2⟩;go_wp2;go_ret;exact ⟨aw (BAD.out HP.out).symm,aa (hb.alloc hb.size _) hb2⟩
    ·have HP:Hid (paceB (at' l k)=true):=hp
     clear hp;go_wp2_with fail;refine (paceOk_any (at' l k) _).mono ?_;rw [HP.out];rintro e w2 ⟨rfl,hb2⟩;go_wp2
     exact ⟨⟨k+1,by omega,by go_num,aa (hb.alloc hb.size _) hb2,fun j hj=>if e:j=k then by rw [e];exact HP.out else HA.out j (by omega)⟩,by simp [intOf];omega⟩
   ·go_wp2
    go_ret
    exact ⟨aw (aY fun j hj=>HA.out j (by omega)).symm,hb⟩
theorem cellTaken_any (v:Value) (l:List Tri) (t:Tri) (w:World) (hv:TrisAt w v l) :
  Calls Tryz.prog 134 #[v,.agg #[.string t.s,.int .i64 t.x,.int .i64 t.y]] w fun e w'=>e=.returned (.bool (takenB l l.length t))∧Below w.heap.size w w':=by
 obtain ⟨a,cap,rfl,hlc,hcm,hc⟩:=hv;unfold maxLen at hcm;have HC:Hid (∀ i t,l[i]?=some t→∃ b off,a=some ⟨b,off,none⟩∧TriAt w b (off+i*3) t):=hc;clear hc
 go_enter Tryz.func134,Tryz.ntmps134
 go_wp2
 go_loopw [6,9] (fun _ i wr=>∃ k:Nat,k≤l.length∧i=.int .i64 k∧Below (w.heap.size+1) (w.alloc (.cells #[.string t.s,.int .i64 t.x,.int .i64 t.y] 72)) wr∧Hid (∀ j,j<k→(!sameB (at' l j) t)=true)) (fun _ i _=>l.length-(intOf i).toNat)
 case atStart=>exact ⟨0,Nat.zero_le _,rfl,Below.refl _ _,fun j hj=>absurd hj (Nat.not_lt_zero _)⟩
 case round =>
  obtain ⟨k,hk,rfl,hb,HA⟩:=hrel;have hbw:Below w.heap.size w wr:=(aO).trans (hb.mono (Nat.le_succ _))
  have hsz:w.heap.size<wr.heap.size:=by have:=hb.size;simp at this;omega
  have p1:wr.cell? ⟨w.heap.size,1,none⟩=some (.int .i64 t.x):=by rw [hb.cell (p:=⟨w.heap.size,1,none⟩) (Nat.lt_succ_self _)];simp
  have p2:wr.cell? ⟨w.heap.size,2,none⟩=some (.int .i64 t.y):=by rw [hb.cell (p:=⟨w.heap.size,2,none⟩) (Nat.lt_succ_self _)];simp
  by_cases hlt:k<l.length
  ·obtain ⟨b,off,rfl,hc⟩:=HC.out k _ (aX hlt)
   obtain ⟨d0,d1,d2⟩:=hc.keep hbw aH
   have BAD:Hid ((!sameB (at' l k) t)=false→takenB l l.length t=true):=fun h=>by unfold takenB;rw [ba hlt h];rfl
   have hk0:(0:Int)≤(k:Int):=by omega
   have hk1:(k:Int)<(l.length:Int):=by omega
   have hfin:Hid (Below (w.heap.size+1) (w.alloc (.cells #[.string t.s,.int .i64 t.x,.int .i64 t.y] 72)) (wr.alloc (.cells #[.string (at' l k).s,.int .i64 (at' l k).x,.int .i64 (at' l k).y] 72))):=hb.alloc (by omega) _
   have hfin':Hid (Below w.heap.size w (wr.alloc (.cells #[.string (at' l k).s,.int .i64 (at' l k).x,.int .i64 (at' l k).y] 72))):=hbw.alloc (by omega) _
   have SM:Hid (sameB (at' l k) t=(decide ((at' l k).x=t.x)&&decide ((at' l k).y=t.y))):=rfl
   by_cases hx:(at' l k).x=t.x
   ·have hx':((at' l k).x==t.x)=true:=by simp [hx]
    have HX:Hid ((at' l k).x=t.x):=hx;clear hx
    by_cases hy:(at' l k).y=t.y
    ·have hy':((at' l k).y==t.y)=true:=by simp [hy]
     have HY:Hid ((at' l k).y=t.y):=hy;clear hy;go_wp2;go_ret
     exact ⟨aw (BAD.out (by rw [SM.out,HX.out,HY.out];simp)).symm,hfin'.out⟩
    ·have hy':((at' l k).y==t.y)=false:=by simp [hy]
     have HY:Hid (¬ (at' l k).y=t.y):=hy;clear hy;go_wp2
     exact ⟨⟨k+1,by omega,by go_num,hfin.out,fun j hj=>if e:j=k then by rw [e,SM.out];simp [HY.out] else HA.out j (by omega)⟩,by simp [intOf];omega⟩
   ·have hx':((at' l k).x==t.x)=false:=by simp [hx]
    have HX:Hid (¬ (at' l k).x=t.x):=hx;clear hx;go_wp2
    exact ⟨⟨k+1,by omega,by go_num,hfin.out,fun j hj=>if e:j=k then by rw [e,SM.out];simp [HX.out] else HA.out j (by omega)⟩,by simp [intOf];omega⟩
  ·go_wp2
   go_ret
   exact ⟨aw (by unfold takenB;rw [aY fun j hj=>HA.out j (by omega)];rfl),hbw⟩
theorem taken_take (l:List Tri) (i:Nat) (h:i≤l.length) (t:Tri):takenB (l.take i) (l.take i).length t=takenB l i t:=by
 unfold takenB;rw [List.length_take,Nat.min_eq_left h]
 congr 1
 refine allB_congr fun j hj=>?_
 simp [at',List.getD,hj]
theorem TrisAt.take {w:World} {a:Option Addr} {l:List Tri} {cap:Nat} (h:TrisAt w (.slice a l.length cap) l) (i:Nat) (hi:i≤l.length):TrisAt w (.slice a i cap) (l.take i):=by
 obtain ⟨a',cap',he,h1,h2,h3⟩:=h
 cases he
 have hl:(l.take i).length=i:=by rw [List.length_take,Nat.min_eq_left hi]
 refine ⟨a,cap,by rw [hl],by omega,h2,fun j t ht=>h3 j t ?_⟩
 have hj:j<(l.take i).length:=(List.getElem?_eq_some_iff.1 ht).1;rw [List.getElem?_take] at ht;rw [hl] at hj
 simpa [hj] using ht
open Go.RowKit
theorem placeKind_any (v:Value) (l:List Tri) (s:ByteArray) (w:World) (hv:TrisAt w v l) :
  Calls Tryz.prog 180 #[v,.string s,.func (.func 129) #[] #[]] w fun e w'=>e=.returned (.tuple #[.int .i64 (plc l s:Nat),.bool (hasB l s)])∧Below w.heap.size w w':=by
 obtain ⟨a,cap,rfl,hlc,hcm,hc⟩:=hv;unfold maxLen at hcm;have HC:Hid (∀ i t,l[i]?=some t→∃ b off,a=some ⟨b,off,none⟩∧TriAt w b (off+i*3) t):=hc;clear hc
 go_enter Tryz.func180,Tryz.ntmps180
 go_wp2
 go_loopw [7,8,12] (fun _ _ i wr=>∃ k:Nat,k≤l.length∧i=.int .i64 k∧Below w.heap.size w wr∧Hid (∀ j,j<k→geB (at' l j).s s=false)) (fun _ _ i _=>l.length-(intOf i).toNat)
 case atStart=>exact ⟨0,Nat.zero_le _,rfl,Below.refl _ _,fun j hj=>absurd hj (Nat.not_lt_zero _)⟩
 case round =>
  obtain ⟨k,hk,rfl,hb,HA⟩:=hrel
  by_cases hlt:k<l.length
  ·obtain ⟨b,off,rfl,hc⟩:=HC.out k _ (aX hlt)
   obtain ⟨d0,d1,d2⟩:=hc.keep hb aH
   have hk0:(0:Int)≤(k:Int):=by omega
   have hk1:(k:Int)<(l.length:Int):=by omega
   go_wp2_with fail;refine (kindName_any (at' l k) _).mono ?_;rintro e w1 ⟨rfl,hb1⟩
   have tn:TriAt w1 wr.heap.size 0 (at' l k):=TriAt.keep (w:=wr.alloc (.cells #[.string (at' l k).s,.int .i64 (at' l k).x,.int .i64 (at' l k).y] 69)) ⟨by simp,by simp,by simp⟩ hb1 aH
   have HBW:Hid (Below w.heap.size w w1):=aa (hb.alloc hb.size _) hb1;obtain ⟨n0,n1,n2⟩:=tn;clear hb1 d0 d1 d2 hc
   cases hg:geB (at' l k).s s
   ·have hg':Op.bytesLess (at' l k).s.toList s.toList=true:=by unfold geB at hg;simpa using hg
    have HG:Hid (geB (at' l k).s s=false):=hg;clear hg;go_wp2
    exact ⟨⟨k+1,by omega,by go_num,HBW.out,fun j hj=>if e:j=k then by rw [e];exact HG.out else HA.out j (by omega)⟩,by simp [intOf];omega⟩
   ·have hg':Op.bytesLess (at' l k).s.toList s.toList=false:=by unfold geB at hg;simpa using hg
    have HG:Hid (geB (at' l k).s s=true):=hg;have HP:Hid (plc l s=k):=plc_some hlt hg HA.out;have HH:Hid (hasB l s=decide ((at' l k).s=s)):=hasB_at hlt hg HA.out;clear hg
    have hq:((at' l k).s.toList==s.toList)=decide ((at' l k).s=s):=by
     by_cases hx:(at' l k).s=s
     ·rw [str_eq hx];simp [hx]
     ·rw [cF hx];simp [hx]
    go_wp2_with fail;refine (kindName_any (at' l k) _).mono ?_;rintro e w2 ⟨rfl,hb2⟩;go_wp2
    go_ret2
    exact ⟨by rw [HP.out,HH.out];rfl,aa HBW.out hb2⟩
  ·go_wp2
   go_ret2
   exact ⟨by rw [plc_none fun j hj=>HA.out j (by omega),hasB_end fun j hj=>HA.out j (by omega)];rfl,hb⟩
theorem placePoint_any (v:Value) (l:List Tri) (s:ByteArray) (w:World) (hv:TrisAt w v l) :
  Calls Tryz.prog 183 #[v,.string s,.func (.func 132) #[] #[]] w fun e w'=>e=.returned (.tuple #[.int .i64 (plc l s:Nat),.bool (hasB l s)])∧Below w.heap.size w w':=by
 obtain ⟨a,cap,rfl,hlc,hcm,hc⟩:=hv;unfold maxLen at hcm;have HC:Hid (∀ i t,l[i]?=some t→∃ b off,a=some ⟨b,off,none⟩∧TriAt w b (off+i*3) t):=hc;clear hc
 go_enter Tryz.func183,Tryz.ntmps183
 go_wp2
 go_loopw [7,8,12] (fun _ _ i wr=>∃ k:Nat,k≤l.length∧i=.int .i64 k∧Below w.heap.size w wr∧Hid (∀ j,j<k→geB (at' l j).s s=false)) (fun _ _ i _=>l.length-(intOf i).toNat)
 case atStart=>exact ⟨0,Nat.zero_le _,rfl,Below.refl _ _,fun j hj=>absurd hj (Nat.not_lt_zero _)⟩
 case round =>
  obtain ⟨k,hk,rfl,hb,HA⟩:=hrel
  by_cases hlt:k<l.length
  ·obtain ⟨b,off,rfl,hc⟩:=HC.out k _ (aX hlt)
   obtain ⟨d0,d1,d2⟩:=hc.keep hb aH
   have hk0:(0:Int)≤(k:Int):=by omega
   have hk1:(k:Int)<(l.length:Int):=by omega
   go_wp2_with fail;refine (pointName_any (at' l k) _).mono ?_;rintro e w1 ⟨rfl,hb1⟩
   have tn:TriAt w1 wr.heap.size 0 (at' l k):=TriAt.keep (w:=wr.alloc (.cells #[.string (at' l k).s,.int .i64 (at' l k).x,.int .i64 (at' l k).y] 72)) ⟨by simp,by simp,by simp⟩ hb1 aH
   have HBW:Hid (Below w.heap.size w w1):=aa (hb.alloc hb.size _) hb1;obtain ⟨n0,n1,n2⟩:=tn;clear hb1 d0 d1 d2 hc
   cases hg:geB (at' l k).s s
   ·have hg':Op.bytesLess (at' l k).s.toList s.toList=true:=by unfold geB at hg;simpa using hg
    have HG:Hid (geB (at' l k).s s=false):=hg;clear hg;go_wp2
    exact ⟨⟨k+1,by omega,by go_num,HBW.out,fun j hj=>if e:j=k then by rw [e];exact HG.out else HA.out j (by omega)⟩,by simp [intOf];omega⟩
   ·have hg':Op.bytesLess (at' l k).s.toList s.toList=false:=by unfold geB at hg;simpa using hg
    have HG:Hid (geB (at' l k).s s=true):=hg;have HP:Hid (plc l s=k):=plc_some hlt hg HA.out;have HH:Hid (hasB l s=decide ((at' l k).s=s)):=hasB_at hlt hg HA.out;clear hg
    have hq:((at' l k).s.toList==s.toList)=decide ((at' l k).s=s):=by
     by_cases hx:(at' l k).s=s
     ·rw [str_eq hx];simp [hx]
     ·rw [cF hx];simp [hx]
    go_wp2_with fail;refine (pointName_any (at' l k) _).mono ?_;rintro e w2 ⟨rfl,hb2⟩;go_wp2
    go_ret2
    exact ⟨by rw [HP.out,HH.out];rfl,aa HBW.out hb2⟩
  ·go_wp2
   go_ret2
   exact ⟨by rw [plc_none fun j hj=>HA.out j (by omega),hasB_end fun j hj=>HA.out j (by omega)];rfl,hb⟩
theorem kindRule_any (vk vp:Value) (l:List Tri) (s:ByteArray) (w:World) (hv:TrisAt w vk l) :
  Calls Tryz.prog 330 #[.agg #[],.agg #[vk,vp],.string s] w fun e w'=>e=.returned (.bool (hasB l s))∧Below w.heap.size w w':=by
 have HV:Hid (TrisAt w vk l):=hv;obtain ⟨a,cap,rfl,-,-,-⟩:=hv
 go_enter Tryz.func330,Tryz.ntmps330
 go_wp2_with fail
 refine (placeKind_any _ l s _ (HV.out.keep ((aO).alloc (by simp) _))).mono ?_
 rintro e w1 ⟨rfl,hb1⟩;go_wp2;go_ret
 exact ⟨rfl,aa ((aO).alloc (by simp) _) hb1⟩
theorem open_list:openS.toList=[111,112,101,110]:=by rw [ByteArray.toList_eq];rfl
theorem closed_list:closedS.toList=[99,108,111,115,101,100]:=by rw [ByteArray.toList_eq];rfl
theorem stateRule_any (vk vp:Value) (s:ByteArray) (w:World) :
  Calls Tryz.prog 334 #[.agg #[],.agg #[vk,vp],.string s] w fun e w'=>e=.returned (.bool (stateB s))∧Below w.heap.size w w':=by
 by_cases h1:s=openS
 ·have e:stateB s=true:=by simp [stateB,h1]
  have g1:(s.toList==[111,112,101,110])=true:=open_list ▸ str_eq h1;rw [e];clear e h1
  go_enter Tryz.func334,Tryz.ntmps334
  go_wp2;go_ret
  exact ⟨rfl,(aO).alloc (by simp) _⟩
 ·have g1:(s.toList==[111,112,101,110])=false:=open_list ▸ cF h1
  by_cases h2:s=closedS
  ·have e:stateB s=true:=by simp [stateB,h2]
   have g2:(s.toList==[99,108,111,115,101,100])=true:=closed_list ▸ str_eq h2;rw [e];clear e h1 h2
   go_enter Tryz.func334,Tryz.ntmps334
   go_wp2;go_ret
   exact ⟨rfl,(aO).alloc (by simp) _⟩
  ·have e:stateB s=false:=by simp [stateB,h1,h2]
   have g2:(s.toList==[99,108,111,115,101,100])=false:=closed_list ▸ cF h2;rw [e];clear e h1 h2
   go_enter Tryz.func334,Tryz.ntmps334
   go_wp2;go_ret
   exact ⟨rfl,(aO).alloc (by simp) _⟩
theorem levelRule_any (vk vp:Value) (s:ByteArray) (w:World) (hs:s.size≤1048576) :
  Calls Tryz.prog 332 #[.agg #[],.agg #[vk,vp],.string s] w fun e w'=>e=.returned (.bool (levelB s))∧Below w.heap.size w w':=by
 have HRD:Hid (∀ wx:World,Calls Tryz.prog 208 #[.string s] wx fun e w'=>e=.returned (.tuple #[.int .i64 (bif decB s then (numV s:Int) else 0),.bool (decB s)])∧Below wx.heap.size wx w'):=fun wx=>bN s wx (by unfold maxLen;omega)
 cases hd:decB s
 ·have e:levelB s=false:=by simp [levelB,hd]
  have HD:Hid (decB s=false):=hd;rw [e];clear e hd
  go_enter Tryz.func332,Tryz.ntmps332
  go_wp2_with fail;refine (HRD.out _).mono ?_;rw [HD.out];rintro e w1 ⟨rfl,hb1⟩;go_wp2;go_ret
  exact ⟨rfl,aa ((aO).alloc (by simp) _) hb1⟩
 ·have e:levelB s=inB (numV s) 1 6:=by simp [levelB,hd]
  have HD:Hid (decB s=true):=hd;rw [e];clear e hd;generalize numV s=n at HRD
  by_cases h1:1≤(n:Int)
  ·by_cases h2:(n:Int)≤6
   ·have e:inB n 1 6=true:=by simp [inB,h1,h2]
    rw [e];clear e
    go_enter Tryz.func332,Tryz.ntmps332
    go_wp2_with fail;refine (HRD.out _).mono ?_;rw [HD.out,cond_true];rintro e w1 ⟨rfl,hb1⟩;go_wp2;go_ret
    exact ⟨rfl,aa ((aO).alloc (by simp) _) hb1⟩
   ·have e:inB n 1 6=false:=by simp [inB];omega
    rw [e];clear e
    go_enter Tryz.func332,Tryz.ntmps332
    go_wp2_with fail;refine (HRD.out _).mono ?_;rw [HD.out,cond_true];rintro e w1 ⟨rfl,hb1⟩;go_wp2;go_ret
    exact ⟨aw (decide_eq_false (by omega)),aa ((aO).alloc (by simp) _) hb1⟩
  ·have e:inB n 1 6=false:=by simp [inB];omega
   rw [e];clear e
   go_enter Tryz.func332,Tryz.ntmps332
   go_wp2_with fail;refine (HRD.out _).mono ?_;rw [HD.out,cond_true];rintro e w1 ⟨rfl,hb1⟩;go_wp2;go_ret
   exact ⟨rfl,aa ((aO).alloc (by simp) _) hb1⟩
open Go.RowKit
attribute [local go_sem] Later.cell Later.frozen
theorem StrsAt.cell {w:World} {g off n cap:Nat} {ws:List ByteArray} (h:StrsAt w (.slice (some ⟨g,off,none⟩) n cap) ws) (i:Nat) (hi:i<ws.length):w.cell? ⟨g,off+i,none⟩=some (.string (wat ws i)):=by
 obtain ⟨g',off',cap',e,_,_,hc⟩:=h
 cases e
 exact hc i _ (cm hi)
def rdN (x:ByteArray):Int:=bif decB x then (numV x:Int) else 0
def tmF (ws:List ByteArray):Int:=bif decide (ws.length=2) then rdN (wat ws 0) else 0
def tmY (ws:List ByteArray):Int:=bif decide (ws.length=2) then rdN (wat ws 1) else 0
def tmO (ws:List ByteArray):Bool:=decide (ws.length=2)&&(decB (wat ws 0)&&decB (wat ws 1))
theorem timeB_tm (ws:List ByteArray):timeB ws=(tmO ws&&(decide (tmF ws≤tmY ws)&&decide (tmY ws≤10000))):=by
 unfold timeB tmO tmF tmY rdN
 by_cases h:ws.length=2
 ·have e1:decide (((numV (wat ws 0):Nat):Int)≤((numV (wat ws 1):Nat):Int))=decide (numV (wat ws 0)≤numV (wat ws 1)):=by rw [Bool.eq_iff_iff];simp
  have e2:decide (((numV (wat ws 1):Nat):Int)≤10000)=decide (numV (wat ws 1)≤10000):=by rw [Bool.eq_iff_iff];simp;omega
  simp only [h,decide_true,Bool.true_and,cond_true]
  cases decB (wat ws 0) <;> cases decB (wat ws 1) <;> simp only [cond_true,cond_false,e1,e2,Bool.true_and,Bool.false_and,Bool.and_false]
 ·simp [h]
theorem readTimes_any (s:ByteArray) (w:World) (hs:s.size≤1048576) :
  Calls Tryz.prog 266 #[.string s] w fun e w'=>e=.returned (.tuple #[.int .i64 (tmF (cutW s)),.int .i64 (tmY (cutW s)),.bool (tmO (cutW s))])∧Below w.heap.size w w':=by
 have HRD:Hid (∀ (x:ByteArray) (wx:World),x.size≤s.size→Calls Tryz.prog 208 #[.string x] wx fun e w'=>e=.returned (.tuple #[.int .i64 (rdN x),.bool (decB x)])∧Below wx.heap.size wx w'):=fun x wx hx=>bN x wx (by unfold maxLen;omega)
 have HSZ:Hid (∀ i,i<(cutW s).length→(wat (cutW s) i).size≤s.size):=fun i hi=>wat_size hi;have HWD:Hid (∀ wx:World,Calls Tryz.prog 140 #[.string s] wx fun e w'=>∃ v,e=.returned v∧StrsAt w' v (cutW s)∧Below wx.heap.size wx w'):=fun wx=>wordsOf_any s wx hs;generalize cutW s=ws at *
 go_enter Tryz.func266,Tryz.ntmps266
 go_wp2_with fail;refine (HWD.out _).mono ?_;rintro e w1 ⟨v,rfl,hst,hb1⟩;have HST:Hid (StrsAt w1 v ws):=hst;obtain ⟨g,off,cap,rfl,hlc,hcm,-⟩:=hst;have HB1:Hid (Below w.heap.size w w1):=hb1;clear hb1
 by_cases h2:ws.length=2
 ·have h2':(((ws.length:Nat):Int)==2)=true:=by simp [h2]
  have h2i:(1:Int)<((ws.length:Nat):Int):=by omega
  have h2j:1<ws.length:=by omega
  have h2k:0<ws.length:=by omega
  have c0:w1.cell? ⟨g,off+0,none⟩=some (.string (wat ws 0)):=HST.out.cell 0 (by omega)
  have c1:w1.cell? ⟨g,off+1,none⟩=some (.string (wat ws 1)):=HST.out.cell 1 (by omega)
  simp only [Nat.add_zero] at c0
  have HF:Hid (tmF ws=rdN (wat ws 0)):=by show tmF ws=_;unfold tmF;simp [h2]
  have HY:Hid (tmY ws=rdN (wat ws 1)):=by show tmY ws=_;unfold tmY;simp [h2]
  have HO:Hid (tmO ws=(decB (wat ws 0)&&decB (wat ws 1))):=by show tmO ws=_;unfold tmO;simp [h2]
  have Z0:Hid ((wat ws 0).size≤s.size):=HSZ.out 0 (by omega)
  have Z1:Hid ((wat ws 1).size≤s.size):=HSZ.out 1 (by omega)
  clear HST HSZ h2 HWD;generalize wat ws 0=x0 at *;generalize wat ws 1=x1 at *;go_wp2_with fail;refine (HRD.out x0 _ Z0.out).mono ?_;rintro e w2 ⟨rfl,hb2⟩;have d1:=ag hb2 aH c1;go_wp2_with fail;refine (HRD.out x1 _ Z1.out).mono ?_;rintro e w3 ⟨rfl,hb3⟩;have HB:Hid (Below w.heap.size w w3):=aa (aa HB1.out hb2) hb3;clear hb2 hb3 HRD c0 c1 d1;generalize decB x0=b0 at *;generalize decB x1=b1 at *
  cases b0
  ·go_wp2
   exact bodyPost_ret (v:=.tuple #[.int .i64 (rdN x0),.int .i64 (rdN x1),.bool false]) (by simp [results,Tryz.results266,go_sem]) rfl ⟨by rw [HF.out,HY.out,HO.out];rfl,HB.out⟩
  ·cases b1
   ·go_wp2
    exact bodyPost_ret (v:=.tuple #[.int .i64 (rdN x0),.int .i64 (rdN x1),.bool false]) (by simp [results,Tryz.results266,go_sem]) rfl ⟨by rw [HF.out,HY.out,HO.out];rfl,HB.out⟩
   ·go_wp2
    exact bodyPost_ret (v:=.tuple #[.int .i64 (rdN x0),.int .i64 (rdN x1),.bool true]) (by simp [results,Tryz.results266,go_sem]) rfl ⟨by rw [HF.out,HY.out,HO.out];rfl,HB.out⟩
 ·have h2':(((ws.length:Nat):Int)==2)=false:=by simp;omega
  have HF:Hid (tmF ws=0):=by show tmF ws=_;unfold tmF;simp [h2]
  have HY:Hid (tmY ws=0):=by show tmY ws=_;unfold tmY;simp [h2]
  have HO:Hid (tmO ws=false):=by show tmO ws=_;unfold tmO;simp [h2]
  go_wp2
  exact bodyPost_ret (v:=.tuple #[.int .i64 (0),.int .i64 (0),.bool false]) (by simp [results,Tryz.results266,go_sem]) rfl ⟨by rw [HF.out,HY.out,HO.out],HB1.out⟩
theorem timeRule_any (vk vp:Value) (s:ByteArray) (w:World) (hs:s.size≤1048576) :
  Calls Tryz.prog 331 #[.agg #[],.agg #[vk,vp],.string s] w fun e w'=>e=.returned (.bool (timeB (cutW s)))∧Below w.heap.size w w':=by
 have HRT:=fun wx=>readTimes_any s wx hs;have HE:Hid (timeB (cutW s)=(tmO (cutW s)&&(decide (tmF (cutW s)≤tmY (cutW s))&&decide (tmY (cutW s)≤10000)))):=timeB_tm _;have HR:Hid (∀ wx:World,Calls Tryz.prog 266 #[.string s] wx fun e w'=>e=.returned (.tuple #[.int .i64 (tmF (cutW s)),.int .i64 (tmY (cutW s)),.bool (tmO (cutW s))])∧Below wx.heap.size wx w'):=HRT;clear HRT;generalize timeB (cutW s)=r at *;generalize tmO (cutW s)=o at *;generalize tmF (cutW s)=n0 at *;generalize tmY (cutW s)=n1 at *
 go_enter Tryz.func331,Tryz.ntmps331
 go_wp2_with fail;refine (HR.out _).mono ?_;rintro e w1 ⟨rfl,hb1⟩
 have HB:Hid (Below w.heap.size w w1):=aa ((aO).alloc (by simp) _) hb1
 clear hb1
 cases o
 ·go_wp2
  go_ret
  exact ⟨aw (by rw [HE.out];rfl),HB.out⟩
 ·by_cases h3:n0≤n1
  ·by_cases h4:n1≤10000
   ·go_wp2
    go_ret
    exact ⟨aw (by rw [HE.out];simp;omega),HB.out⟩
   ·go_wp2
    go_ret
    exact ⟨aw (by rw [HE.out];simp;omega),HB.out⟩
  ·go_wp2
   go_ret
   exact ⟨aw (by rw [HE.out];simp;omega),HB.out⟩
theorem routeB_no {ps:List Tri} {ws:List ByteArray} (h:inB ws.length 2 8=false):routeB ps ws=false:=by unfold routeB;rw [h];rfl
theorem routeB_yes {ps:List Tri} {ws:List ByteArray} (h:inB ws.length 2 8=true):routeB ps ws=allB ws.length (stepB ps ws):=by unfold routeB;rw [h];rfl
theorem routeFits_any (vk vp v:Value) (ps:List Tri) (ws:List ByteArray) (w:World) (hp:TrisAt w vp ps) (hst0:StrsAt w v ws) :
  Calls Tryz.prog 249 #[.agg #[vk,vp],v] w fun e w'=>e=.returned (.bool (routeB ps ws))∧Below w.heap.size w w':=by
 have HHP:Hid (∀ (x:ByteArray) (wx:World),Below w.heap.size w wx→Calls Tryz.prog 183 #[vp,.string x,.func (.func 132) #[] #[]] wx fun e w'=>e=.returned (.tuple #[.int .i64 (plc ps x:Nat),.bool (hasB ps x)])∧Below wx.heap.size wx w'):=fun x wx hx=>placePoint_any vp ps x wx (hp.keep hx);clear hp;have HB1:Hid (Below w.heap.size w (w.alloc (.cells #[vk,vp] 27))):=(aO);have hst:=hst0.keep HB1.out;have HST:Hid (StrsAt (w.alloc (.cells #[vk,vp] 27)) v ws):=hst;clear hst0;obtain ⟨g,off,cap,rfl,hlc,hcm,-⟩:=hst
 have p0:(w.alloc (.cells #[vk,vp] 27)).cell? ⟨w.heap.size,0,none⟩=some vk:=by simp [go_sem]
 have p1:(w.alloc (.cells #[vk,vp] 27)).cell? ⟨w.heap.size,1,none⟩=some vp:=by simp [go_sem]
 unfold maxLen at hcm
 go_enter Tryz.func249,Tryz.ntmps249
 by_cases h1:(ws.length:Int)<2
 ·have HE:Hid (routeB ps ws=false):=routeB_no (by simp [inB];omega)
  go_wp2;go_ret;exact ⟨aw HE.out.symm,HB1.out⟩
 by_cases h2:(8:Int)<(ws.length:Int)
 ·have HE:Hid (routeB ps ws=false):=routeB_no (by simp [inB];omega)
  go_wp2;go_ret;exact ⟨aw HE.out.symm,HB1.out⟩
 have HE:Hid (routeB ps ws=allB ws.length (stepB ps ws)):=routeB_yes (by simp [inB];omega)
 have Q0:Hid ((w.alloc (.cells #[vk,vp] 27)).cell? ⟨w.heap.size,0,none⟩=some vk∧(w.alloc (.cells #[vk,vp] 27)).cell? ⟨w.heap.size,1,none⟩=some vp):=⟨p0,p1⟩;clear p0 p1;go_wp2_with fail;generalize (w.alloc (.cells #[vk,vp] 27))=w1 at *
 go_loopw [5,6,19] (fun _ _ i wr=>∃ k:Nat,k≤ws.length∧i=.int .i64 k∧Below w1.heap.size w1 wr∧Hid (∀ j,j<k→stepB ps ws j=true)) (fun _ _ i _=>ws.length-(intOf i).toNat)
 case atStart=>exact ⟨0,Nat.zero_le _,rfl,Below.refl _ _,fun j hj=>absurd hj (Nat.not_lt_zero _)⟩
 case round =>
  obtain ⟨k,hk,rfl,hb,HA⟩:=hrel
  by_cases hlt:k<ws.length
  ·have c0:wr.cell? ⟨g,off+k,none⟩=some (.string (wat ws k)):=(HST.out.keep hb).cell k hlt
   have p0:=ag hb aH Q0.out.1;have p1:=ag hb aH Q0.out.2
   have hk0:(0:Int)≤(k:Int):=by omega
   have hk1:(k:Int)<(ws.length:Int):=by omega
   cases hh:hasB ps (wat ws k)
   ·have HH:Hid (hasB ps (wat ws k)=false):=hh
    clear hh;go_wp2_with fail;refine (HHP.out (wat ws k) _ (aa HB1.out hb)).mono ?_;rw [HH.out];rintro e w2 ⟨rfl,hb2⟩;go_wp2;go_ret
    exact ⟨aw (by rw [HE.out];exact (ba hlt (by unfold stepB;rw [HH.out];rfl)).symm),aa (aa HB1.out hb) hb2⟩
   ·have HH:Hid (hasB ps (wat ws k)=true):=hh
    clear hh
    by_cases hz:0<k
    ·have c1:wr.cell? ⟨g,off+(k-1),none⟩=some (.string (wat ws (k-1))):=(HST.out.keep hb).cell (k-1) (by omega)
     by_cases hx:wat ws (k-1)=wat ws k
     ·have hq:((wat ws (k-1)).toList==(wat ws k).toList)=true:=str_eq hx
      have HX:Hid (stepB ps ws k=false):=by show stepB ps ws k=false;unfold stepB;simp [hx,hz]
      clear hx;go_wp2_with fail;refine (HHP.out (wat ws k) _ (aa HB1.out hb)).mono ?_;rw [HH.out];rintro e w2 ⟨rfl,hb2⟩;have c2:=ag hb2 aH c1;go_wp2;go_ret
      exact ⟨aw (by rw [HE.out];exact (ba hlt HX.out).symm),aa (aa HB1.out hb) hb2⟩
     ·have hq:((wat ws (k-1)).toList==(wat ws k).toList)=false:=cF hx
      have HX:Hid (stepB ps ws k=true):=by show stepB ps ws k=true;unfold stepB;rw [HH.out];simp [hx]
      clear hx;go_wp2_with fail;refine (HHP.out (wat ws k) _ (aa HB1.out hb)).mono ?_;rw [HH.out];rintro e w2 ⟨rfl,hb2⟩;have c2:=ag hb2 aH c1;go_wp2
      exact ⟨⟨k+1,by omega,by go_num,aa hb hb2,fun j hj=>if e:j=k then by rw [e];exact HX.out else HA.out j (by omega)⟩,by simp [intOf];omega⟩
    ·have HX:Hid (stepB ps ws k=true):=by show stepB ps ws k=true;unfold stepB;rw [HH.out];simp [hz]
     go_wp2_with fail;refine (HHP.out (wat ws k) _ (aa HB1.out hb)).mono ?_;rw [HH.out];rintro e w2 ⟨rfl,hb2⟩;go_wp2
     exact ⟨⟨k+1,by omega,by go_num,aa hb hb2,fun j hj=>if e:j=k then by rw [e];exact HX.out else HA.out j (by omega)⟩,by simp [intOf];omega⟩
  ·go_wp2
   go_ret
   exact ⟨aw (by rw [HE.out];exact (aY fun j hj=>HA.out j (by omega)).symm),aa HB1.out hb⟩
theorem routeRule_any (vk vp:Value) (ps:List Tri) (s:ByteArray) (w:World) (hs:s.size≤1048576) (hp:TrisAt w vp ps) :
  Calls Tryz.prog 333 #[.agg #[],.agg #[vk,vp],.string s] w fun e w'=>e=.returned (.bool (routeB ps (cutW s)))∧Below w.heap.size w w':=by
 have HWD:Hid (∀ wx:World,Calls Tryz.prog 140 #[.string s] wx fun e w'=>∃ v,e=.returned v∧StrsAt w' v (cutW s)∧Below wx.heap.size wx w'):=fun wx=>wordsOf_any s wx hs;generalize cutW s=ws at *;have HRF:Hid (∀ (v:Value) (wx:World),Below w.heap.size w wx→StrsAt wx v ws→Calls Tryz.prog 249 #[.agg #[vk,vp],v] wx fun e w'=>e=.returned (.bool (routeB ps ws))∧Below wx.heap.size wx w'):=fun v wx hx hv=>routeFits_any vk vp v ps ws wx (hp.keep hx) hv;clear hp
 have HAL:Hid (Below w.heap.size w ((w.alloc (.cells #[] 263)).alloc (.cells #[vk,vp] 27))):=(aO).alloc (by simp) _
 have p0:((w.alloc (.cells #[] 263)).alloc (.cells #[vk,vp] 27)).cell? ⟨w.heap.size+1,0,none⟩=some vk:=by simp [go_sem]
 have p1:((w.alloc (.cells #[] 263)).alloc (.cells #[vk,vp] 27)).cell? ⟨w.heap.size+1,1,none⟩=some vp:=by simp [go_sem]
 go_enter Tryz.func333,Tryz.ntmps333
 go_wp2_with fail;generalize ((w.alloc (.cells #[] 263)).alloc (.cells #[vk,vp] 27))=w1 at *;refine wp_region_noPanic ?_
 refine wp_region_held_drew (S:=fun w'=>w'.cell? ⟨w.heap.size+1,0,none⟩=some vk∧w'.cell? ⟨w.heap.size+1,1,none⟩=some vp) (by kernel_rfl) ?_ (fun hHeld=>?_)
 ·exact ⟨ag (Below.refl _ _).drew aH p0,ag (Below.refl _ _).drew aH p1⟩
 have HBW:Hid (Below w.heap.size w w1.drew):=aa HAL.out (Below.refl _ _).drew;have Q0:Hid (∀ wx:World,Below w1.heap.size w1 wx→wx.cell? ⟨w.heap.size+1,0,none⟩=some vk∧wx.cell? ⟨w.heap.size+1,1,none⟩=some vp):=fun wx hx=>⟨ag hx aH p0,ag hx aH p1⟩;have HB1:Hid (Below w1.heap.size w1 w1.drew):=(Below.refl _ _).drew;clear p0 p1;refine aJ 0 ?_ rfl ?_ (aJ 1 ?_ rfl ?_ ?_)
 iterate 2 (rotate_left;focus (intro w hSw;(try dsimp only at hSw);simp only [Act.put,aR];go_simp;try with_reducible rfl))
 simp only [Act.put,aR]
 clear hHeld;refine bh 2 rfl (fun K hK=>?_);go_simp;refine (HWD.out _).mono ?_;rintro e w2 ⟨v,rfl,hst,hb2⟩;have HB2:Hid (Below w1.heap.size w1 w2):=aa HB1.out hb2;have HC2:Hid (Below w.heap.size w w2):=aa HBW.out hb2;have HST:Hid (StrsAt w2 v ws):=hst;obtain ⟨g,off,cap,rfl,hlc,hcm,-⟩:=hst;refine hK.out _ _ (Q0.out _ HB2.out) (fun _=>?_);clear hK K hb2 HBW HB1;refine bh 3 rfl (fun K hK=>?_);go_simp;refine (HRF.out _ _ HC2.out HST.out).mono ?_;rintro e w3 ⟨rfl,hb3⟩;have HB3:Hid (Below w1.heap.size w1 w3):=aa HB2.out hb3;have HC3:Hid (Below w.heap.size w w3):=aa HC2.out hb3;have hHeld:=Q0.out _ HB3.out;refine hK.out _ _ hHeld (fun _=>?_);clear hK K;refine aJ 4 ?_ rfl ?_ ?_;rotate_left
 ·intro w hSw;(try dsimp only at hSw);go_simp;try with_reducible rfl
 simp only [Act.put,aR]
 clear hHeld
 refine wpAnyH_done (by kernel_rfl) ?_ _
 refine NoPanic.normal ?_;go_wp2;go_ret;exact ⟨rfl,HC3.out⟩
end Go.Proofs.YtcmgddnckohdaaaGreatDoor
