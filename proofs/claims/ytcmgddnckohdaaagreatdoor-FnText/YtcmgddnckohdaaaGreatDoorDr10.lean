import Derived.Test.YtcmgddnckohdaaaGreatDoorDr7
import Derived.Test.YtcmgddnckohdaaaGreatDoorMark3
import Derived.Test.YtcmgddnckohdaaaGreatDoorApp
set_option maxRecDepth 100000
set_option maxHeartbeats 6400000
set_option linter.unusedSimpArgs false
set_option linter.unusedVariables false
namespace Go.Proofs.YtcmgddnckohdaaaGreatDoor.Dr
open Go.RowKit
theorem kU {w W W':World} {r row:Option Nat} (h:w.grownBy W r) (k:W.grownBy W' row) (hr:∀ q,row=some q→w.heap.size≤q):w.grownBy W' r :=
 ⟨k.1.trans h.1,k.2.trans h.2,k.3.trans h.3,Nat.le_trans h.4 k.4,fun j hj hn=>(k.5 j (Nat.lt_of_lt_of_le hj h.4) (fun e=>by have:=hr j e.symm;omega)).trans (h.5 j hj hn)⟩
theorem cE {w:World} {base:Nat} {e:TypeId} {size:Nat} {v:Value} {n:Nat} {xs:List Value} (h:w.ownsRow base e size v n xs):∀ k,v.ownBlock=some k→base≤k:=by
 intro k hk
 rcases h.2 with ⟨rfl,_⟩ | ⟨g,cap,cur,rfl,hg,_⟩
 ·cases hk
 ·cases hk;exact hg
theorem bU {w:World} {base:Nat} {e:TypeId} {size:Nat} {v:Value} {n:Nat} {xs:List Value} (h:w.ownsRow base e size v n xs):∃ a c,v=.slice a n c:=by
 rcases h.2 with ⟨rfl,h0⟩ | ⟨g,cap,cur,rfl,_⟩
 ·exact ⟨none,0,by rw [h0]⟩
 ·exact ⟨_,cap,rfl⟩
theorem cj {w w':World} {base:Nat} {e:TypeId} {size:Nat} {v:Value} {n:Nat} {xs:List Value} (h:w.ownsRow base e size v n xs) (hb:Below w.heap.size w w'):w'.ownsRow base e size v n xs:=by
 obtain ⟨h1,h2⟩:=h;refine ⟨h1,?_⟩
 rcases h2 with h2 | ⟨g,cap,cur,hv,hg,hh,rest⟩
 ·exact .inl h2
 ·exact .inr ⟨g,cap,cur,hv,hg,(hb.block g (Array.getElem?_eq_some_iff.1 hh).1).trans hh,rest⟩
theorem cy {w w':World} {R base:Nat} {e:TypeId} {size:Nat} {v:Value} {n:Nat} {xs:List Value} (h:w.ownsRow base e size v n xs) (hg:w.grownBy w' (some R)) (hR:R<base):w'.ownsRow base e size v n xs:=by
 obtain ⟨h1,h2⟩:=h;refine ⟨h1,?_⟩
 rcases h2 with h2 | ⟨g,cap,cur,hv,hgb,hh,rest⟩
 ·exact .inl h2
 ·exact .inr ⟨g,cap,cur,hv,hgb,(hg.block g (Array.getElem?_eq_some_iff.1 hh).1 (fun e=>by have:=Option.some.inj e;omega)).trans hh,rest⟩
def SmC (c:dP):Prop:=c.f.size≤2000∧c.v.size≤2000
structure CI (w wr:World) (R:Nat) (C:Array Value) (v:Value) (l:List dP) (px:Nat):Prop where
 rd:Rd wr R px
 gr:w.grownBy wr (some R)
 box:wr.heap[w.heap.size]?=some (.cells C 27 (0,0))
 row:fJ wr (w.heap.size+1) v l
 sm:∀ c∈l,SmC c
theorem qw (R p:Nat) (vk vp:Value) (ps:List dx) (most:Int) (w:World) (h:Rd w R p) (hp:p≤700000) (hm:1≤most∧most≤24) (hv:dA w vp ps) (hps:1≤ps.length∧ps.length≤1000) (hn:∀ t∈ps,t.s.size≤100) :
  Calls Tryz.prog 112 #[.pointer (some ⟨R,0,none⟩),.agg #[vk,vp],.int .i64 most] w fun e w'=>∃ v l,e=.returned v∧fJ w' w.heap.size v l∧l.length≤24∧(∀ c∈l,SmC c)∧Out w R p 1000 w':=by
 obtain ⟨i0,hi0,hz0,hz1,hz2⟩:=info_parts yx;have gM:=h.lt;have HNN:Hid (∀ t∈ps,t.s.size≤100):=hn;have HV0:Hid (∀ wx:World,w.grownBy wx (some R)→dA wx vp ps):=fun wx hg=>cu hv h hg;obtain ⟨va,vc,rfl,hvl,LJ,-⟩:=hv;unfold maxLen at LJ;obtain ⟨JH,JG⟩:=hps;obtain ⟨hm1,hm2⟩:=hm
 have HB:Hid (Below w.heap.size w ((w.alloc (.cells #[vk,.slice va ps.length vc] 27)).alloc (.cells #[] 76))):=(aM).alloc (by simp) _
 have jG:Hid (((w.alloc (.cells #[vk,.slice va ps.length vc] 27)).alloc (.cells #[] 76)).heap[w.heap.size]?=some (.cells #[vk,.slice va ps.length vc] 27 (0,0))):=by
  show _=_
  rw [(((aM):Below (w.alloc (.cells #[vk,.slice va ps.length vc] 27)).heap.size (w.alloc (.cells #[vk,.slice va ps.length vc] 27)) ((w.alloc (.cells #[vk,.slice va ps.length vc] 27)).alloc (.cells #[] 76)))).block _ (by simp)]
  exact aI w _
 have jF:Hid (((w.alloc (.cells #[vk,.slice va ps.length vc] 27)).alloc (.cells #[] 76)).heap[w.heap.size+1]?=some (.cells #[] 76 (0,0))):=by
  have h:=aI (w.alloc (.cells #[vk,.slice va ps.length vc] 27)) (.cells #[] 76)
  rw [show (w.alloc (.cells #[vk,.slice va ps.length vc] 27)).heap.size=w.heap.size+1 by simp] at h
  exact h
 have CI0:Hid (CI w ((w.alloc (.cells #[vk,.slice va ps.length vc] 27)).alloc (.cells #[] 76)) R #[vk,.slice va ps.length vc] (.slice (some ⟨w.heap.size+1,0,none⟩) 0 0) [] p) :=
  ⟨h.far HB.out,aH HB.out _,jG.out,⟨rfl,.inr ⟨w.heap.size+1,0,#[],rfl,Nat.le_refl _,jF.out,Nat.le_refl _,Nat.zero_le _,rfl,rfl⟩⟩,(fun c hc=>by cases hc)⟩
 clear h hn
 go_enter Tryz.func112,Tryz.ntmps112
 go_wp2_with fail;generalize ((w.alloc (.cells #[vk,.slice va ps.length vc] 27)).alloc (.cells #[] 76))=w1 at *
 refine (aL R p most _ CI0.out.rd (by omega) (by omega)).mono ?_
 rintro e w2 ⟨x,rfl,hx0,hx1,-,hr2,hg2⟩;have hx1:=hx1 hm1
 obtain ⟨N0,rfl⟩:∃ n:Nat,x=n:=⟨x.toNat,by omega⟩
 have CI2:Hid (CI w w2 R #[vk,.slice va ps.length vc] (.slice (some ⟨w.heap.size+1,0,none⟩) 0 0) [] (p+1)) :=
  ⟨hr2,az CI0.out.gr hg2,aV hg2 (by omega) CI0.out.box,cy CI0.out.row hg2 (by omega),CI0.out.sm⟩
 clear hr2 hg2;go_wp2_with fail
 go_loopw [7,8] (fun v nv wr=>∃ (m:Nat) (l:List dP) (a:Option Addr) (c:Nat),v=.slice a l.length c∧nv=.int .i64 m∧m≤24∧Hid (l.length+m≤24∧∃ px,CI w wr R #[vk,.slice va ps.length vc] v l px∧p≤px∧px+40*m≤p+1+40*24)) (fun _ nv _=>(intOf nv).toNat)
 case atStart=>exact ⟨N0,[],_,_,rfl,rfl,by omega,by show 0+N0≤24;omega,p+1,CI2.out,by omega,by omega⟩
 case round =>
  obtain ⟨m,l,a,c,rfl,rfl,hm24,HI⟩:=hrel;obtain ⟨hl,px,hci,hpx1,hpx2⟩:=HI.out;have HC:=ay hci;clear HI hci
  by_cases hm0:m=0
  ·subst hm0
   have HF:Hid (fJ wr w.heap.size (.slice a l.length c) l∧l.length≤24∧(∀ c∈l,SmC c)∧Out w R p 1000 wr):=⟨by
    have h:=HC.out.row;refine ⟨h.1,?_⟩
    rcases h.2 with h2 | ⟨g,cap,cur,hv,hg,rest⟩
    ·exact .inl h2
    ·exact .inr ⟨g,cap,cur,hv,by omega,rest⟩,by omega,HC.out.sm,px,by omega,by omega,HC.out.rd,HC.out.gr⟩
   clear HC;go_wp2;go_ret;exact ⟨_,l,rfl,HF.out⟩
  ·have hmp:(0:Int)<(m:Int):=by omega
   have b0:=an HC.out.box (i:=0) rfl;have b1:=an HC.out.box (i:=1) rfl;go_wp2_with fail
   refine (BU R px vk _ ps _ HC.out.rd (by omega) (HV0.out _ HC.out.gr) ⟨JH,JG⟩ HNN.out).mono ?_
   rintro e w4 ⟨f,wh,num,s,rfl,hf,hs,-,-,px',hpx3,hpx4,hr4,hg4⟩
   have C4:Hid (CI w w4 R #[vk,.slice va ps.length vc] (.slice a l.length c) l px'):=⟨hr4,az HC.out.gr hg4,aV hg4 (by omega) HC.out.box,cy HC.out.row hg4 (by omega),HC.out.sm⟩
   clear hr4 hg4 HC b0 b1;have BC:Hid (Below w4.heap.size w4 (w4.alloc (.cells #[.string f,.int .i64 wh,.int .i64 num,.string s] 76))):=(aM);have J8:Hid ((w4.alloc (.cells #[.string f,.int .i64 wh,.int .i64 num,.string s] 76)).heap[w4.heap.size]?=some (.cells #[.string f,.int .i64 wh,.int .i64 num,.string s] 76 (0,0))):=aI w4 _;have hown0:=cj C4.out.row BC.out;have hw4:=C4.out.gr.size;have hwb:=aP C4.out.box
   obtain ⟨m1,rfl⟩:∃ m1,m=m1+1:=⟨m-1,by omega⟩
   go_wp2_with (at_builtin;refine aZ _ rfl _ _ 73 rfl (w.heap.size+1) 76 i0 _ 4 48 Tryz.underlying73 hi0 hz0 hz1 hz2 rfl (by decide) _ l.length _ rfl hown0 _ 1 1 [.string f,.int .i64 wh,.int .i64 num,.string s] rfl (.inr ⟨_,rfl,World.news_of_block J8.out⟩) rfl (fun u hu=>by simp at hu;rcases hu with rfl | rfl | rfl | rfl <;> rfl) (by unfold maxLen;omega) (by omega) (by simp;omega) ?_;intro vq wx hown hgrow hat)
   have HN:Hid ((l++[(⟨f,wh,num,s⟩:dP)]).length+m1≤24∧∃ px,CI w wx R #[vk,.slice va ps.length vc] vq (l++[(⟨f,wh,num,s⟩:dP)]) px∧p≤px∧px+40*m1≤p+1+40*24):=by
    have hge:∀ q,(Value.slice a l.length c).ownBlock=some q→w.heap.size+1≤q:=fun q hq=>cE C4.out.row q hq
    refine ⟨by simp;omega,px',⟨(C4.out.rd.far BC.out).late (fun j hj=>hgrow.block j (by simp;omega) (fun e=>by have:=hge j e.symm;omega)),kU (az C4.out.gr (aH BC.out _)) hgrow (fun q hq=>by have:=hge q hq;omega),(hgrow.block _ (by simp;omega) (fun e=>by have:=hge _ e.symm;omega)).trans ((BC.out.block _ (by omega)).trans C4.out.box),?_,fun c hc=>?_⟩,by omega,by omega⟩
    ·unfold fJ
     rw [List.length_append,sZ];exact hown
    ·rcases List.mem_append.1 hc with hc | hc
     ·exact C4.out.sm c hc
     ·have hc':=List.mem_singleton.1 hc
      rw [hc']
      exact (show SmC ⟨f,wh,num,s⟩ from ⟨(show f.size≤2000 by omega),hs⟩)
   obtain ⟨qa,qc,rfl⟩:=bU hown
   exact ⟨⟨m1,l++[(⟨f,wh,num,s⟩:dP)],qa,qc,by simp,by first | rfl | (congr 1;push_cast;omega),by omega,HN⟩,by simp [intOf]⟩
open Go.RowKit
attribute [local go_sem] Later.cell Later.frozen
theorem Kr {P:Program} {c:Code} {Q:Exit→Act→World→Prop} {a:Act} {w:World} (F:Nat→Int→Int→World→Prop) (a':Nat→Int→Int→Act) (h:c.wp P (fun e b z=>e=.normal∧∃ f x y,b=a' f x y∧F f x y z) a w) (k:∀ f x y z,F f x y z→Q .normal (a' f x y) z):c.wp P Q a w :=
 Code.wp_mono (fun e b z ⟨he,f,x,y,hb,hz⟩=>by subst he;subst hb;exact k f x y z hz) h
def aS (l:List dx):List Value:=l.flatMap fA
theorem cL (l:List dx) (t:dx):aS (l++[t])=aS l++fA t:=by simp [aS]
theorem wL:∀ (l:List dx) (i:Nat) (t:dx),l[i]?=some t→∀ j,j<3→(aS l)[i*3+j]?=(fA t)[j]?
 | [],i,t,h,j,hj=>by simp at h
 | a::l,0,t,h,j,hj=>by
  simp at h;subst h
  have e:aS (a::l)=fA a++aS l:=by simp [aS]
  rw [e,List.getElem?_append_left (by simp [fA];omega)];simp
 | a::l,i+1,t,h,j,hj=>by
  have e:aS (a::l)=fA a++aS l:=by simp [aS]
  rw [e,List.getElem?_append_right (by simp [fA];omega)]
  have:(i+1)*3+j-(fA a).length=i*3+j:=by simp [fA];omega
  rw [this]
  exact wL l i t (by simpa using h) j hj
theorem rF {w:World} {base:Nat} {e:TypeId} {v:Value} {l:List dx} (h:w.ownsRow base e 3 v l.length (aS l)):dA w v l:=by
 obtain ⟨h1,h2⟩:=h
 rcases h2 with ⟨rfl,h0⟩ | ⟨g,cap,cur,rfl,_,hb,hn,hc,hs,ht⟩
 ·have:l=[]:=List.length_eq_zero_iff.1 h0
  subst this
  exact ⟨none,0,rfl,Nat.le_refl _,Nat.zero_le _,fun i c hc=>by simp at hc⟩
 ·refine ⟨some ⟨g,0,none⟩,cap,rfl,hn,hc,fun i t hi=>⟨g,0,rfl,?_⟩⟩
  have hil:i<l.length:=(List.getElem?_eq_some_iff.1 hi).1
  have one:∀ j u,j<3→(fA t)[j]?=some u→w.cell? ⟨g,0+i*3+j,none⟩=some u:=fun j u hj hu=>by
   have e:=wL l i t hi j hj
   rw [hu,← ht,List.getElem?_take,if_pos (by omega)] at e
   simp only [World.cell?,hb,Option.isSome_none,Bool.false_eq_true,if_false,Nat.zero_add]
   simpa using e
  exact ⟨one 0 _ (by omega) rfl,one 1 _ (by omega) rfl,one 2 _ (by omega) rfl⟩
structure BI (w wr:World) (R BB:Nat) (kv pv:Value) (ks ps:List dx) (px:Nat):Prop where
 rd:Rd wr R px
 gr:w.grownBy wr (some R)
 res:wr.heap[w.heap.size]?=some (.cells #[.slice none 0 0,.slice none 0 0] 27 (0,0))
 box:wr.heap[BB]?=some (.cells #[kv,pv] 27 (0,0))
 k:wr.ownsRow (w.heap.size+1) 69 3 kv ks.length (aS ks)
 p:wr.ownsRow (w.heap.size+1) 72 3 pv ps.length (aS ps)
theorem BI.pick {w wr wx:World} {R BB:Nat} {kv pv:Value} {ks ps:List dx} {px qx:Nat} (h:BI w wr R BB kv pv ks ps px) (hR:R<w.heap.size) (hB:w.heap.size<BB) (hr:Rd wx R qx) (hg:wr.grownBy wx (some R)):BI w wx R BB kv pv ks ps qx :=
 ⟨hr,az h.gr hg,aV hg (by omega) h.res,aV hg (by omega) h.box,cy h.k hg (by omega),cy h.p hg (by omega)⟩
theorem BI.call {w wr wx:World} {R BB:Nat} {kv pv:Value} {ks ps:List dx} {px:Nat} (h:BI w wr R BB kv pv ks ps px) (hb:Below wr.heap.size wr wx):BI w wx R BB kv pv ks ps px :=
 ⟨h.rd.far hb,az h.gr (aH hb _),(hb.block _ (aP h.res)).trans h.res,(hb.block _ (aP h.box)).trans h.box,cj h.k hb,cj h.p hb⟩
theorem bu {w:World} {base:Nat} {e:TypeId} {size:Nat} {v:Value} {n:Nat} {xs:List Value} {B:Nat} {C:Array Value} {t:TypeId} (h:w.ownsRow base e size v n xs) (hB:w.heap[B]?=some (.cells C t (0,0))) (hne:e≠t):some B≠v.ownBlock:=by
 rcases h.2 with ⟨rfl,_⟩ | ⟨g,cap,cur,rfl,hg,hc,_⟩
 ·intro e;cases e
 ·intro e
  simp only [Value.ownBlock,Option.some.injEq] at e
  subst e;rw [hc] at hB
  simp at hB
  exact hne hB.2
theorem br {W W':World} {row:Option Nat} {base:Nat} {e:TypeId} {size:Nat} {v:Value} {n:Nat} {xs:List Value} (h:W.ownsRow base e size v n xs) (hg:W.grownBy W' row) (hr:∀ k,v.ownBlock=some k→some k≠row):W'.ownsRow base e size v n xs:=by
 refine ⟨h.1,?_⟩
 rcases h.2 with h2 | ⟨g,cap,cur,hv,hb,hc,rest⟩
 ·exact .inl h2
 ·refine .inr ⟨g,cap,cur,hv,hb,?_,rest⟩
  exact (hg.block g (Array.getElem?_eq_some_iff.1 hc).1 (hr g (by rw [hv];rfl))).trans hc
theorem jO {w:World} {b b':Nat} {e e':TypeId} {s s' n n':Nat} {u v:Value} {xs ys:List Value} (h:w.ownsRow b e s u n xs) (h':w.ownsRow b' e' s' v n' ys) (hne:e≠e'):∀ k,u.ownBlock=some k→some k≠v.ownBlock:=by
 intro k hk hv
 rcases h'.2 with ⟨rfl,_⟩ | ⟨g,cap,cur,rfl,hb,hc,_⟩
 ·cases hv
 ·have e2:k=g:=by
   have h3:(some k:Option Nat)=some g:=hv;injection h3
  subst e2;exact bu h hc hne hk.symm
theorem BI.setK {w W2 W3:World} {R BB:Nat} {kv pv kv':Value} {ks ps ks':List dx} {px:Nat} (h:BI w W2 R BB kv pv ks ps px) (hR:R<w.heap.size) (hB:w.heap.size<BB) (hg:W2.grownBy W3 kv.ownBlock) (hown:W3.ownsRow (w.heap.size+1) 69 3 kv' ks'.length (aS ks')):BI w (W3.setCell ⟨BB,0,none⟩ kv') R BB kv' pv ks' ps px:=by
 have hge:∀ q,kv.ownBlock=some q→w.heap.size+1≤q:=fun q hq=>cE h.k q hq
 have hBk:some BB≠kv.ownBlock:=bu h.k h.box (by decide)
 have hb3:W3.heap[BB]?=some (.cells #[kv,pv] 27 (0,0)):=(hg.block BB (aP h.box) hBk).trans h.box;have ho:∀ b,b≠BB→(W3.setCell ⟨BB,0,none⟩ kv').heap[b]?=W3.heap[b]?:=fun b hb=>Below.heap_setCell W3 ⟨BB,0,none⟩ kv' b hb
 have hlow:∀ b,b≤w.heap.size→b<W2.heap.size→(W3.setCell ⟨BB,0,none⟩ kv').heap[b]?=W2.heap[b]?:=fun b hb hl=>(ho b (by omega)).trans (hg.block b hl (fun e=>by have:=hge b e.symm;omega))
 have hz:=h.gr.size
 refine ⟨h.rd.late (fun j hj=>hlow j (by omega) (by omega)),bV (kU h.gr hg (fun q hq=>by have:=hge q hq;omega)) 0 _ (by omega),(hlow _ aG (aP h.res)).trans h.res,cP hb3,br hown (bF W3 BB 0 kv') (fun k hk e=>bu hown hb3 (by decide) (by rw [hk,e])),?_⟩
 have hp3:W3.ownsRow (w.heap.size+1) 72 3 pv ps.length (aS ps):=br h.p hg (jO h.p h.k (by decide))
 exact br hp3 (bF W3 BB 0 kv') (fun k hk e=>bu hp3 hb3 (by decide) (by rw [hk,e]))
theorem BI.setP {w W2 W3:World} {R BB:Nat} {kv pv pv':Value} {ks ps ps':List dx} {px:Nat} (h:BI w W2 R BB kv pv ks ps px) (hR:R<w.heap.size) (hB:w.heap.size<BB) (hg:W2.grownBy W3 pv.ownBlock) (hown:W3.ownsRow (w.heap.size+1) 72 3 pv' ps'.length (aS ps')):BI w (W3.setCell ⟨BB,1,none⟩ pv') R BB kv pv' ks ps' px:=by
 have hge:∀ q,pv.ownBlock=some q→w.heap.size+1≤q:=fun q hq=>cE h.p q hq
 have hBk:some BB≠pv.ownBlock:=bu h.p h.box (by decide)
 have hb3:W3.heap[BB]?=some (.cells #[kv,pv] 27 (0,0)):=(hg.block BB (aP h.box) hBk).trans h.box;have ho:∀ b,b≠BB→(W3.setCell ⟨BB,1,none⟩ pv').heap[b]?=W3.heap[b]?:=fun b hb=>Below.heap_setCell W3 ⟨BB,1,none⟩ pv' b hb
 have hlow:∀ b,b≤w.heap.size→b<W2.heap.size→(W3.setCell ⟨BB,1,none⟩ pv').heap[b]?=W2.heap[b]?:=fun b hb hl=>(ho b (by omega)).trans (hg.block b hl (fun e=>by have:=hge b e.symm;omega))
 have hz:=h.gr.size
 have hk3:W3.ownsRow (w.heap.size+1) 69 3 kv ks.length (aS ks):=br h.k hg (jO h.k h.p (by decide))
 exact ⟨h.rd.late (fun j hj=>hlow j (by omega) (by omega)),bV (kU h.gr hg (fun q hq=>by have:=hge q hq;omega)) 1 _ (by omega),(hlow _ aG (aP h.res)).trans h.res,cP hb3,br hk3 (bF W3 BB 1 pv') (fun k hk e=>bu hk3 hb3 (by decide) (by rw [hk,e])),br hown (bF W3 BB 1 pv') (fun k hk e=>bu hown hb3 (by decide) (by rw [hk,e]))⟩
theorem BI.rowF {w wr:World} {R BB FB:Nat} {kv pv:Value} {ks ps:List dx} {px:Nat} (h:BI w wr R BB kv pv ks ps px) (hR:R<w.heap.size) (hF:w.heap.size<FB) (hFB:FB≠BB) (hk:kv.ownBlock≠some FB) (hp:pv.ownBlock≠some FB) (C:Array Value):BI w (wr.setRow FB C) R BB kv pv ks ps px:=by
 have ho:∀ b,b≠FB→(wr.setRow FB C).heap[b]?=wr.heap[b]?:=fun b hb=>setRow_other _ _ _ _ hb
 have hg:wr.grownBy (wr.setRow FB C) (some FB):=⟨rfl,rfl,rfl,by simp,fun j _ hj=>ho j (fun e=>hj (by rw [e]))⟩
 exact ⟨h.rd.late (fun j hj=>ho j (by omega)),bX h.gr _ (by omega),(ho _ (by omega)).trans h.res,(ho _ (by omega)).trans h.box,br h.k hg (fun k hk' e=>hk (by rw [hk',e])),br h.p hg (fun k hk' e=>hp (by rw [hk',e]))⟩
theorem o9 {w:World} {base:Nat} {e:TypeId} {size:Nat} {v:Value} {n:Nat} {xs:List Value} (h:w.ownsRow base e size v n xs):∀ k,v.ownBlock=some k→k<w.heap.size:=by
 intro k hk
 rcases h.2 with ⟨rfl,_⟩ | ⟨g,cap,cur,rfl,hg,hc,_⟩
 ·cases hk
 ·cases hk;exact (Array.getElem?_eq_some_iff.1 hc).1
def si:List ByteArray:=[⟨#[97,108,102,97]⟩,⟨#[98,114,97,118]⟩,⟨#[99,104,97,114]⟩,⟨#[100,45,52]⟩,⟨#[101,99,104,111]⟩,⟨#[120]⟩]
def kA (x y:Int):List dx:=[⟨⟨#[97,49]⟩,1,1+x⟩,⟨⟨#[104,101,97,118,121]⟩,2+y,5⟩]
theorem AV {l:List dx} {t:dx} {i:Nat} (h:i<l.length):at' (l++[t]) i=at' l i:=by
 simp [at',List.getElem?_append_left h,h]
theorem at_eq (l:List dx) (t:dx):at' (l++[t]) l.length=t:=by simp [at']
theorem Db {l:List dx} {t u:dx} {i:Nat} (h:i≤l.length):fu (l++[t]) i u=fu l i u:=by
 unfold fu
 rw [jT (fun j hj=>by rw [AV (by omega)])]
theorem DL {l:List dx} {t:dx} (hp:dH l=true) (hl:l.length<16) (hn:dD t.s=true) (ha:0<l.length→kz (at' l (l.length-1)).s t.s=false) (hin:eQ t=true) (hf:fu l l.length t=false):dH (l++[t])=true:=by
 unfold dH eO at hp ⊢;rw [Bool.and_eq_true,Bool.and_eq_true] at hp ⊢;obtain ⟨⟨h1,h2⟩,h3⟩:=hp
 have hlen:(l++[t]).length=l.length+1:=by simp
 refine ⟨⟨decide_eq_true (by rw [hlen];omega),aX fun j hj=>?_⟩,aX fun j hj=>?_⟩
 ·rw [hlen] at hj
  by_cases e:j<l.length
  ·have h:=bH h2 j e
   rw [Bool.and_eq_true] at h ⊢
   refine ⟨by rw [AV e];exact h.1,?_⟩
   have h4:=h.2;unfold gY at h4 ⊢
   rw [AV e,AV (show j-1<l.length by omega)]
   exact h4
  ·have e2:j=l.length:=by omega
   subst e2;rw [Bool.and_eq_true]
   refine ⟨by rw [at_eq];exact hn,?_⟩
   unfold gY
   by_cases e0:0<l.length
   ·rw [at_eq,AV (show l.length-1<l.length by omega),ha e0];simp
   ·simp [e0]
 ·rw [hlen] at hj
  by_cases e:j<l.length
  ·have h:=bH h3 j e
   rw [AV e,Db (by omega)]
   exact h
  ·have e2:j=l.length:=by omega
   subst e2;rw [at_eq,Db aG,hin,hf]
   rfl
theorem Gl:dH []=true:=by decide
def nU (k:Nat):ByteArray:=si.getD k ⟨#[]⟩
theorem nm_ok:∀ k,k<6→dD (nU k)=true∧∀ s∈si.take k,kz s (nU k)=false:=by
 intro k hk
 rcases (show k=0∨k=1∨k=2∨k=3∨k=4∨k=5 by omega) with rfl | rfl | rfl | rfl | rfl | rfl <;> decide +kernel
theorem nm_take:∀ k,k<6→si.take (k+1)=si.take k++[nU k]:=by
 intro k hk
 rcases (show k=0∨k=1∨k=2∨k=3∨k=4∨k=5 by omega) with rfl | rfl | rfl | rfl | rfl | rfl <;> rfl
theorem FY (l:List dx) (t:dx) (k:Nat):fu l (k+1) t=(fu l k t||jb (at' l k) t):=by
 unfold fu fw;rw [List.range_succ,List.all_append]
 simp
theorem kA_ok {x y:Int} (hx:0≤x∧x<3) (hy:0≤y∧y<2):dM (kA x y)=true:=by
 rcases (show x=0∨x=1∨x=2 by omega) with rfl | rfl | rfl <;> rcases (show y=0∨y=1 by omega) with rfl | rfl <;> decide +kernel
theorem kA3_ok {x y u:Int} (hx:0≤x∧x<3) (hy:0≤y∧y<2) (hu:0≤u∧u<50):dM (kA x y++[(⟨⟨#[115,108,111,119]⟩,1+u,50⟩:dx)])=true:=by
 unfold dM;rw [Bool.and_eq_true];refine ⟨?_,aX fun j hj=>?_⟩
 ·have h1:∀ a b c d e f:Int,eO [⟨⟨#[97,49]⟩,a,b⟩,⟨⟨#[104,101,97,118,121]⟩,c,d⟩,⟨⟨#[115,108,111,119]⟩,e,f⟩] 6=true:=fun a b c d e f=>by
   unfold eO;rw [Bool.and_eq_true];refine ⟨rfl,aX fun j hj=>?_⟩
   rcases (show j=0∨j=1∨j=2 by simp at hj;omega) with rfl | rfl | rfl
   ·exact (show (dD (⟨#[97,49]⟩:ByteArray)&&true)=true by decide +kernel)
   ·exact (show (dD (⟨#[104,101,97,118,121]⟩:ByteArray)&&!(decide (0<1)&&kz (⟨#[97,49]⟩:ByteArray) ⟨#[104,101,97,118,121]⟩))=true by decide +kernel)
   ·exact (show (dD (⟨#[115,108,111,119]⟩:ByteArray)&&!(decide (0<2)&&kz (⟨#[104,101,97,118,121]⟩:ByteArray) ⟨#[115,108,111,119]⟩))=true by decide +kernel)
  exact h1 _ _ _ _ _ _
 ·rcases (show j=0∨j=1∨j=2 by simp [kA] at hj;omega) with rfl | rfl | rfl <;> (unfold gI;simp [kA,at'];omega)
theorem GA (R p:Nat) (w:World) (h:Rd w R p) (hp:p≤700000) :
  Calls Tryz.prog 63 #[.pointer (some ⟨R,0,none⟩)] w fun e w'=>∃ (kv pv:Value) (ks ps:List dx),e=.returned (.agg #[kv,pv])∧w'.ownsRow (w.heap.size+1) 69 3 kv ks.length (aS ks)∧w'.ownsRow (w.heap.size+1) 72 3 pv ps.length (aS ps)∧dM ks=true∧dH ps=true∧1≤ps.length∧1≤ks.length∧Out w R p 30 w':=by
 obtain ⟨i1,hi1,hq0,hq1,hq2⟩:=info_parts JD;obtain ⟨i0,hi0,hz0',hz1',hz2'⟩:=info_parts LG;have gM:=h.lt;have HB:Hid (Below w.heap.size w (w.alloc (.cells #[.slice none 0 0,.slice none 0 0] 27))):=(aM);have HR1:=ay (h.far HB.out);have jG:Hid ((w.alloc (.cells #[.slice none 0 0,.slice none 0 0] 27)).heap[w.heap.size]?=some (.cells #[.slice none 0 0,.slice none 0 0] 27 (0,0))):=aI w _
 have HZ1:Hid ((w.alloc (.cells #[.slice none 0 0,.slice none 0 0] 27)).heap.size=w.heap.size+1):=by show _=_;simp
 clear h
 go_enter Tryz.func63,Tryz.ntmps63
 go_wp2_with fail;generalize (w.alloc (.cells #[.slice none 0 0,.slice none 0 0] 27))=w1 at *
 refine (aL R p 3 _ HR1.out (by omega) (by omega)).mono ?_
 rintro e w2 ⟨x,rfl,hx0,hx1,-,hr2,hg2⟩
 have hx1:=hx1 (by omega)
 have R2:Hid (Rd w2 R (p+1)∧w1.grownBy w2 (some R)):=⟨hr2,hg2⟩;clear hr2 hg2;go_wp2_with fail
 refine (aL R (p+1) 2 _ R2.out.1 (by omega) (by omega)).mono ?_
 rintro e w3 ⟨y,rfl,hy0,hy1,-,hr3,hg3⟩
 have hy1:=hy1 (by omega)
 have R3:Hid (Rd w3 R (p+1+1)∧w1.grownBy w3 (some R)):=⟨hr3,az R2.out.2 hg3⟩;clear hr3 hg3 R2
 -- the kinds lie
 have hz3:w.heap.size+1≤w3.heap.size:=by have:=R3.out.2.size;have:=HZ1.out;omega
 have B4:Hid (Below w3.heap.size w3 ((w3.alloc (.cells #[.string ⟨#[97,49]⟩,.int .i64 1,.int .i64 (1+x),.string ⟨#[104,101,97,118,121]⟩,.int .i64 (2+y),.int .i64 5] 69)).alloc (.cells #[.slice (some ⟨w3.heap.size,0,none⟩) 2 2,.slice none 0 0] 27))):=(aM).alloc (by simp) _
 have XK:Hid (((w3.alloc (.cells #[.string ⟨#[97,49]⟩,.int .i64 1,.int .i64 (1+x),.string ⟨#[104,101,97,118,121]⟩,.int .i64 (2+y),.int .i64 5] 69)).alloc (.cells #[.slice (some ⟨w3.heap.size,0,none⟩) 2 2,.slice none 0 0] 27)).heap[w3.heap.size]?=some (.cells #[.string ⟨#[97,49]⟩,.int .i64 1,.int .i64 (1+x),.string ⟨#[104,101,97,118,121]⟩,.int .i64 (2+y),.int .i64 5] 69 (0,0))):=by
  show _=_
  rw [(((aM):Below (w3.alloc (.cells #[.string ⟨#[97,49]⟩,.int .i64 1,.int .i64 (1+x),.string ⟨#[104,101,97,118,121]⟩,.int .i64 (2+y),.int .i64 5] 69)).heap.size (w3.alloc (.cells #[.string ⟨#[97,49]⟩,.int .i64 1,.int .i64 (1+x),.string ⟨#[104,101,97,118,121]⟩,.int .i64 (2+y),.int .i64 5] 69)) ((w3.alloc (.cells #[.string ⟨#[97,49]⟩,.int .i64 1,.int .i64 (1+x),.string ⟨#[104,101,97,118,121]⟩,.int .i64 (2+y),.int .i64 5] 69)).alloc (.cells #[.slice (some ⟨w3.heap.size,0,none⟩) 2 2,.slice none 0 0] 27)))).block _ (by simp)]
  exact aI w3 _
 have XB:Hid (((w3.alloc (.cells #[.string ⟨#[97,49]⟩,.int .i64 1,.int .i64 (1+x),.string ⟨#[104,101,97,118,121]⟩,.int .i64 (2+y),.int .i64 5] 69)).alloc (.cells #[.slice (some ⟨w3.heap.size,0,none⟩) 2 2,.slice none 0 0] 27)).heap[w3.heap.size+1]?=some (.cells #[.slice (some ⟨w3.heap.size,0,none⟩) 2 2,.slice none 0 0] 27 (0,0))):=by
  have h:=aI (w3.alloc (.cells #[.string ⟨#[97,49]⟩,.int .i64 1,.int .i64 (1+x),.string ⟨#[104,101,97,118,121]⟩,.int .i64 (2+y),.int .i64 5] 69)) (.cells #[.slice (some ⟨w3.heap.size,0,none⟩) 2 2,.slice none 0 0] 27)
  rw [show (w3.alloc (.cells #[.string ⟨#[97,49]⟩,.int .i64 1,.int .i64 (1+x),.string ⟨#[104,101,97,118,121]⟩,.int .i64 (2+y),.int .i64 5] 69)).heap.size=w3.heap.size+1 by simp] at h
  exact h
 have BI4:Hid (BI w ((w3.alloc (.cells #[.string ⟨#[97,49]⟩,.int .i64 1,.int .i64 (1+x),.string ⟨#[104,101,97,118,121]⟩,.int .i64 (2+y),.int .i64 5] 69)).alloc (.cells #[.slice (some ⟨w3.heap.size,0,none⟩) 2 2,.slice none 0 0] 27)) R (w3.heap.size+1) (.slice (some ⟨w3.heap.size,0,none⟩) 2 2) (.slice none 0 0) (kA x y) [] (p+1+1)) :=
  ⟨R3.out.1.far B4.out,az (aH HB.out _) (az R3.out.2 (aH B4.out _)),(B4.out.block _ (by omega)).trans (aV R3.out.2 (by omega) jG.out),XB.out,⟨rfl,.inr ⟨w3.heap.size,2,#[.string ⟨#[97,49]⟩,.int .i64 1,.int .i64 (1+x),.string ⟨#[104,101,97,118,121]⟩,.int .i64 (2+y),.int .i64 5],rfl,by omega,XK.out,Nat.le_refl _,by unfold maxLen;omega,rfl,rfl⟩⟩,⟨rfl,.inl ⟨rfl,rfl⟩⟩⟩
 go_wp2_with fail;generalize ((w3.alloc (.cells #[.string ⟨#[97,49]⟩,.int .i64 1,.int .i64 (1+x),.string ⟨#[104,101,97,118,121]⟩,.int .i64 (2+y),.int .i64 5] 69)).alloc (.cells #[.slice (some ⟨w3.heap.size,0,none⟩) 2 2,.slice none 0 0] 27))=w4 at *;clear XK XB B4 R3
 refine (aL R (p+1+1) 4 _ BI4.out.rd (by omega) (by omega)).mono ?_
 rintro e w5 ⟨z,rfl,hz0,hz1,-,qA,hg5⟩
 have BI5:Hid (BI w w5 R (w3.heap.size+1) (.slice (some ⟨w3.heap.size,0,none⟩) 2 2) (.slice none 0 0) (kA x y) [] (p+1+1+1)):=BI4.out.pick gM (by omega) qA hg5
 clear qA hg5 BI4 hz1
 by_cases hzz:z=0
 focus
  have hzb:(z==0)=true:=by simp [hzz]
  clear hzz;go_wp2;refine wp_region_noPanic ?_;have dK:Hid (∀ (wx:World) (q:Nat),BI w wx R (w3.heap.size+1) (.slice (some ⟨w3.heap.size,0,none⟩) 2 2) (.slice none 0 0) (kA x y) [] q→wx.cell? ⟨w3.heap.size+1,0,none⟩=some (.slice (some ⟨w3.heap.size,0,none⟩) 2 2)):=fun wx q h=>an h.box rfl;have BD:Hid (BI w w5.drew R (w3.heap.size+1) (.slice (some ⟨w3.heap.size,0,none⟩) 2 2) (.slice none 0 0) (kA x y) [] (p+1+1+1)):=BI5.out.call (Below.refl _ _).drew
  refine bj (S:=fun w'=>w'.cell? ⟨w3.heap.size+1,0,none⟩=some (.slice (some ⟨w3.heap.size,0,none⟩) 2 2)) 9 (by kernel_rfl) ?_ (fun hHeld=>?_)
  ·exact dK.out _ _ BD.out
  generalize w5.drew=W0 at *;refine bG 0 ?_ rfl ?_ (bG 1 ?_ rfl ?_ (bG 2 ?_ rfl ?_ ?_))
  iterate 3 (rotate_left;focus (intro w hSw;(try dsimp only at hSw);simp only [Act.put,aU];go_simp;try with_reducible rfl))
  simp only [Act.put,aU]
  clear hHeld BI5;refine bL 3 rfl (fun K hK=>?_);go_simp
  refine (aL R (p+1+1+1) 50 _ BD.out.rd (by omega) (by omega)).mono ?_
  rintro e W1 ⟨u,rfl,hu0,hu1,-,hr1,hg1⟩
  have hu1:=hu1 (by omega)
  have B1:Hid (BI w W1 R (w3.heap.size+1) (.slice (some ⟨w3.heap.size,0,none⟩) 2 2) (.slice none 0 0) (kA x y) [] (p+1+1+1+1)):=BD.out.pick gM (by omega) hr1 hg1
  refine hK.out _ _ (.inr (dK.out _ _ B1.out)) ?_;clear hK K hr1 hg1 BD;have hHeld:=dK.out _ _ B1.out
  have hwu:IntKind.i64.wrap (1+u)=1+u:=by rw [IntKind.wrap_i64];omega
  refine bG 4 ?_ rfl ?_ (bG 5 ?_ rfl ?_ ?_)
  iterate 2 (rotate_left;focus (intro w hSw;(try dsimp only at hSw);simp only [Act.put,aU];go_simp;try with_reducible rfl))
  simp only [Act.put,aU]
  clear hHeld;have BC:Hid (Below W1.heap.size W1 (W1.alloc (.cells #[.string ⟨#[115,108,111,119]⟩,.int .i64 (1+u),.int .i64 50] 69))):=(aM);have J8:Hid ((W1.alloc (.cells #[.string ⟨#[115,108,111,119]⟩,.int .i64 (1+u),.int .i64 50] 69)).heap[W1.heap.size]?=some (.cells #[.string ⟨#[115,108,111,119]⟩,.int .i64 (1+u),.int .i64 50] 69 (0,0))):=aI W1 _;have B2:Hid (BI w (W1.alloc (.cells #[.string ⟨#[115,108,111,119]⟩,.int .i64 (1+u),.int .i64 50] 69)) R (w3.heap.size+1) (.slice (some ⟨w3.heap.size,0,none⟩) 2 2) (.slice none 0 0) (kA x y) [] (p+1+1+1+1)):=B1.out.call BC.out;refine bL 6 rfl (fun K hK=>?_);go_simp;refine hK.out _ _ (.inr (dK.out _ _ B2.out)) ?_;clear hK K;generalize (W1.alloc (.cells #[.string ⟨#[115,108,111,119]⟩,.int .i64 (1+u),.int .i64 50] 69))=W2 at *;refine bL 7 rfl (fun K hK=>?_);have hw2:=B2.out.gr.size;have hw2b:=aP B2.out.res
  refine aj _ rfl _ _ 24 rfl (w.heap.size+1) 69 i0 _ 3 32 Tryz.underlying24 hi0 hz0' hz1' hz2' rfl (by decide) _ 2 _ rfl B2.out.k _ 1 1 [.string ⟨#[115,108,111,119]⟩,.int .i64 (1+u),.int .i64 50] rfl (.inr ⟨_,rfl,World.news_of_block J8.out⟩) rfl (fun u hu=>by simp at hu;rcases hu with rfl | rfl | rfl <;> rfl) (by unfold maxLen;omega) (by omega) (by omega) ?_
  intro va W3 hown hgrow hat;have hG3:=ay hgrow
  have hbx3:W3.heap[w3.heap.size+1]?=some (.cells #[.slice (some ⟨w3.heap.size,0,none⟩) 2 2,.slice none 0 0] 27 (0,0)):=(hgrow.block _ (aP B2.out.box) (bu B2.out.k B2.out.box (by decide))).trans B2.out.box
  have lz:=an hbx3 (i:=0) rfl
  have Eh:W3.frozen? ⟨w3.heap.size+1,0,none⟩=false:=by simp [World.frozen?,hbx3]
  obtain ⟨ga,gc,rfl⟩:=bU hown
  have B3:Hid (BI w (W3.setCell ⟨w3.heap.size+1,0,none⟩ (.slice ga (2+1) gc)) R (w3.heap.size+1) (.slice ga (2+1) gc) (.slice none 0 0) (kA x y++[(⟨⟨#[115,108,111,119]⟩,1+u,50⟩:dx)]) [] (p+1+1+1+1)):=B2.out.setK gM (by omega) hgrow (by rw [cL];exact hown)
  refine hK.out _ _ (.inr lz) ?_;clear hK K hat;have hHeld:=lz;refine bG 8 ?_ rfl ?_ ?_;rotate_left
  ·intro w hSw;(try dsimp only at hSw);go_simp;try with_reducible rfl
  simp only [Act.put,aU]
  clear hHeld hbx3;refine bL 9 rfl (fun K hK=>?_);go_simp;refine hK.out _ _ (.inl rfl) ?_;clear hK K lz Eh
  refine aY (by kernel_rfl) ?_ _
  refine NoPanic.normal ?_;generalize (W3.setCell ⟨w3.heap.size+1,0,none⟩ (.slice ga (2+1) gc))=W4 at *;clear hown hgrow hG3 B2 B1 J8 BC;go_wp2_with fail
  -- the names and the side
  have HKL:Hid (1≤(kA x y++[(⟨⟨#[115,108,111,119]⟩,1+u,50⟩:dx)]).length):=by show 1≤_;simp [kA]
  have HKB:Hid (dM (kA x y++[(⟨⟨#[115,108,111,119]⟩,1+u,50⟩:dx)])=true):=kA3_ok ⟨hx0,hx1⟩ ⟨hy0,hy1⟩ ⟨hu0,hu1⟩
  have BN:Hid (Below W4.heap.size W4 ((W4.alloc (.cells #[.string ⟨#[97,108,102,97]⟩,.string ⟨#[98,114,97,118]⟩,.string ⟨#[99,104,97,114]⟩,.string ⟨#[100,45,52]⟩,.string ⟨#[101,99,104,111]⟩,.string ⟨#[120]⟩] 9)).alloc (.cells #[.int .i64 6,.int .i64 6,.int .i64 16] 3))):=(aM).alloc (by simp) _
  have XN:Hid (((W4.alloc (.cells #[.string ⟨#[97,108,102,97]⟩,.string ⟨#[98,114,97,118]⟩,.string ⟨#[99,104,97,114]⟩,.string ⟨#[100,45,52]⟩,.string ⟨#[101,99,104,111]⟩,.string ⟨#[120]⟩] 9)).alloc (.cells #[.int .i64 6,.int .i64 6,.int .i64 16] 3)).heap[W4.heap.size]?=some (.cells #[.string ⟨#[97,108,102,97]⟩,.string ⟨#[98,114,97,118]⟩,.string ⟨#[99,104,97,114]⟩,.string ⟨#[100,45,52]⟩,.string ⟨#[101,99,104,111]⟩,.string ⟨#[120]⟩] 9 (0,0))):=by
   show _=_
   rw [(((aM):Below (W4.alloc (.cells #[.string ⟨#[97,108,102,97]⟩,.string ⟨#[98,114,97,118]⟩,.string ⟨#[99,104,97,114]⟩,.string ⟨#[100,45,52]⟩,.string ⟨#[101,99,104,111]⟩,.string ⟨#[120]⟩] 9)).heap.size (W4.alloc (.cells #[.string ⟨#[97,108,102,97]⟩,.string ⟨#[98,114,97,118]⟩,.string ⟨#[99,104,97,114]⟩,.string ⟨#[100,45,52]⟩,.string ⟨#[101,99,104,111]⟩,.string ⟨#[120]⟩] 9)) ((W4.alloc (.cells #[.string ⟨#[97,108,102,97]⟩,.string ⟨#[98,114,97,118]⟩,.string ⟨#[99,104,97,114]⟩,.string ⟨#[100,45,52]⟩,.string ⟨#[101,99,104,111]⟩,.string ⟨#[120]⟩] 9)).alloc (.cells #[.int .i64 6,.int .i64 6,.int .i64 16] 3)))).block _ (by simp)]
   exact aI W4 _
  have XS:Hid (((W4.alloc (.cells #[.string ⟨#[97,108,102,97]⟩,.string ⟨#[98,114,97,118]⟩,.string ⟨#[99,104,97,114]⟩,.string ⟨#[100,45,52]⟩,.string ⟨#[101,99,104,111]⟩,.string ⟨#[120]⟩] 9)).alloc (.cells #[.int .i64 6,.int .i64 6,.int .i64 16] 3)).heap[W4.heap.size+1]?=some (.cells #[.int .i64 6,.int .i64 6,.int .i64 16] 3 (0,0))):=by
   have h:=aI (W4.alloc (.cells #[.string ⟨#[97,108,102,97]⟩,.string ⟨#[98,114,97,118]⟩,.string ⟨#[99,104,97,114]⟩,.string ⟨#[100,45,52]⟩,.string ⟨#[101,99,104,111]⟩,.string ⟨#[120]⟩] 9)) (.cells #[.int .i64 6,.int .i64 6,.int .i64 16] 3)
   rw [show (W4.alloc (.cells #[.string ⟨#[97,108,102,97]⟩,.string ⟨#[98,114,97,118]⟩,.string ⟨#[99,104,97,114]⟩,.string ⟨#[100,45,52]⟩,.string ⟨#[101,99,104,111]⟩,.string ⟨#[120]⟩] 9)).heap.size=W4.heap.size+1 by simp] at h
   exact h
  have BI6:=ay (B3.out.call BN.out);have hzW:w.heap.size<W4.heap.size:=aP B3.out.res;have hzW2:w3.heap.size+1<W4.heap.size:=aP B3.out.box;generalize ((W4.alloc (.cells #[.string ⟨#[97,108,102,97]⟩,.string ⟨#[98,114,97,118]⟩,.string ⟨#[99,104,97,114]⟩,.string ⟨#[100,45,52]⟩,.string ⟨#[101,99,104,111]⟩,.string ⟨#[120]⟩] 9)).alloc (.cells #[.int .i64 6,.int .i64 6,.int .i64 16] 3))=w6 at *;generalize W4.heap.size=NB at *;generalize hKV:(Value.slice ga (2+1) gc)=kv at *;generalize hKS:(kA x y++[(⟨⟨#[115,108,111,119]⟩,1+u,50⟩:dx)])=KS at *;clear hKV hKS
  refine (aL R (p+1+1+1+1) 3 _ BI6.out.rd (by omega) (by omega)).mono ?_
  rintro e w7 ⟨sx,rfl,hs0,hs1,-,sG,lT⟩
  have hs1:=hs1 (by omega)
  obtain ⟨sn,rfl⟩:∃ n:Nat,sx=n:=⟨sx.toNat,by omega⟩
  have BI7:=ay (BI6.out.pick gM (by omega) sG lT)
  have XN7:=ay (aV lT (by omega) XN.out)
  have XS7:=aV lT (show NB+1≠R by omega) XS.out
  obtain ⟨side,hsd,hsv⟩:∃ u:Int,(#[.int .i64 6,.int .i64 6,.int .i64 16]:Array Value)[sn]?=some (.int .i64 u)∧(u=6∨u=16):=by
   rcases (show sn=0∨sn=1∨sn=2 by omega) with rfl | rfl | rfl
   ·exact ⟨6,rfl,.inl rfl⟩
   ·exact ⟨6,rfl,.inl rfl⟩
   ·exact ⟨16,rfl,.inr rfl⟩
  have c0:=an XS7 hsd;clear sG lT XS7 hsd XN XS BN BI6;go_wp2_with fail;clear c0;obtain ⟨Q0,hQ0⟩:∃ q,(p+1+1+1+1)+1=q:=⟨_,rfl⟩
 rotate_left
 focus
  have hzb:(z==0)=false:=by simp [hzz]
  clear hzz;go_wp2_with fail
  -- the names and the side
  have HKL:Hid (1≤(kA x y).length):=by show 1≤_;simp [kA]
  have HKB:Hid (dM (kA x y)=true):=kA_ok ⟨hx0,hx1⟩ ⟨hy0,hy1⟩
  have BN:Hid (Below w5.heap.size w5 ((w5.alloc (.cells #[.string ⟨#[97,108,102,97]⟩,.string ⟨#[98,114,97,118]⟩,.string ⟨#[99,104,97,114]⟩,.string ⟨#[100,45,52]⟩,.string ⟨#[101,99,104,111]⟩,.string ⟨#[120]⟩] 9)).alloc (.cells #[.int .i64 6,.int .i64 6,.int .i64 16] 3))):=(aM).alloc (by simp) _
  have XN:Hid (((w5.alloc (.cells #[.string ⟨#[97,108,102,97]⟩,.string ⟨#[98,114,97,118]⟩,.string ⟨#[99,104,97,114]⟩,.string ⟨#[100,45,52]⟩,.string ⟨#[101,99,104,111]⟩,.string ⟨#[120]⟩] 9)).alloc (.cells #[.int .i64 6,.int .i64 6,.int .i64 16] 3)).heap[w5.heap.size]?=some (.cells #[.string ⟨#[97,108,102,97]⟩,.string ⟨#[98,114,97,118]⟩,.string ⟨#[99,104,97,114]⟩,.string ⟨#[100,45,52]⟩,.string ⟨#[101,99,104,111]⟩,.string ⟨#[120]⟩] 9 (0,0))):=by
   show _=_
   rw [(((aM):Below (w5.alloc (.cells #[.string ⟨#[97,108,102,97]⟩,.string ⟨#[98,114,97,118]⟩,.string ⟨#[99,104,97,114]⟩,.string ⟨#[100,45,52]⟩,.string ⟨#[101,99,104,111]⟩,.string ⟨#[120]⟩] 9)).heap.size (w5.alloc (.cells #[.string ⟨#[97,108,102,97]⟩,.string ⟨#[98,114,97,118]⟩,.string ⟨#[99,104,97,114]⟩,.string ⟨#[100,45,52]⟩,.string ⟨#[101,99,104,111]⟩,.string ⟨#[120]⟩] 9)) ((w5.alloc (.cells #[.string ⟨#[97,108,102,97]⟩,.string ⟨#[98,114,97,118]⟩,.string ⟨#[99,104,97,114]⟩,.string ⟨#[100,45,52]⟩,.string ⟨#[101,99,104,111]⟩,.string ⟨#[120]⟩] 9)).alloc (.cells #[.int .i64 6,.int .i64 6,.int .i64 16] 3)))).block _ (by simp)]
   exact aI w5 _
  have XS:Hid (((w5.alloc (.cells #[.string ⟨#[97,108,102,97]⟩,.string ⟨#[98,114,97,118]⟩,.string ⟨#[99,104,97,114]⟩,.string ⟨#[100,45,52]⟩,.string ⟨#[101,99,104,111]⟩,.string ⟨#[120]⟩] 9)).alloc (.cells #[.int .i64 6,.int .i64 6,.int .i64 16] 3)).heap[w5.heap.size+1]?=some (.cells #[.int .i64 6,.int .i64 6,.int .i64 16] 3 (0,0))):=by
   have h:=aI (w5.alloc (.cells #[.string ⟨#[97,108,102,97]⟩,.string ⟨#[98,114,97,118]⟩,.string ⟨#[99,104,97,114]⟩,.string ⟨#[100,45,52]⟩,.string ⟨#[101,99,104,111]⟩,.string ⟨#[120]⟩] 9)) (.cells #[.int .i64 6,.int .i64 6,.int .i64 16] 3)
   rw [show (w5.alloc (.cells #[.string ⟨#[97,108,102,97]⟩,.string ⟨#[98,114,97,118]⟩,.string ⟨#[99,104,97,114]⟩,.string ⟨#[100,45,52]⟩,.string ⟨#[101,99,104,111]⟩,.string ⟨#[120]⟩] 9)).heap.size=w5.heap.size+1 by simp] at h
   exact h
  have BI6:=ay (BI5.out.call BN.out);have hzW:w.heap.size<w5.heap.size:=aP BI5.out.res;have hzW2:w3.heap.size+1<w5.heap.size:=aP BI5.out.box;generalize ((w5.alloc (.cells #[.string ⟨#[97,108,102,97]⟩,.string ⟨#[98,114,97,118]⟩,.string ⟨#[99,104,97,114]⟩,.string ⟨#[100,45,52]⟩,.string ⟨#[101,99,104,111]⟩,.string ⟨#[120]⟩] 9)).alloc (.cells #[.int .i64 6,.int .i64 6,.int .i64 16] 3))=w6 at *;generalize w5.heap.size=NB at *;generalize hKV:(Value.slice (some ⟨w3.heap.size,0,none⟩) 2 2)=kv at *;generalize hKS:(kA x y)=KS at *;clear hKV hKS
  refine (aL R (p+1+1+1) 3 _ BI6.out.rd (by omega) (by omega)).mono ?_
  rintro e w7 ⟨sx,rfl,hs0,hs1,-,sG,lT⟩
  have hs1:=hs1 (by omega)
  obtain ⟨sn,rfl⟩:∃ n:Nat,sx=n:=⟨sx.toNat,by omega⟩
  have BI7:=ay (BI6.out.pick gM (by omega) sG lT)
  have XN7:=ay (aV lT (by omega) XN.out)
  have XS7:=aV lT (show NB+1≠R by omega) XS.out
  obtain ⟨side,hsd,hsv⟩:∃ u:Int,(#[.int .i64 6,.int .i64 6,.int .i64 16]:Array Value)[sn]?=some (.int .i64 u)∧(u=6∨u=16):=by
   rcases (show sn=0∨sn=1∨sn=2 by omega) with rfl | rfl | rfl
   ·exact ⟨6,rfl,.inl rfl⟩
   ·exact ⟨6,rfl,.inl rfl⟩
   ·exact ⟨16,rfl,.inr rfl⟩
  have c0:=an XS7 hsd;clear sG lT XS7 hsd XN XS BN BI6;go_wp2_with fail;clear c0;obtain ⟨Q0,hQ0⟩:∃ q,(p+1+1+1)+1=q:=⟨_,rfl⟩
 rotate_left
 all_goals
  rw [hQ0] at BI7
  have hQ1:p≤Q0∧Q0≤p+6:=by omega
  clear hQ0
  go_loopw [6] (fun i wr=>∃ k:Nat,k≤6∧i=.int .i64 k∧Hid (∃ pv ps px,BI w wr R (w3.heap.size+1) kv pv KS ps px∧wr.heap[NB]?=some (.cells #[.string ⟨#[97,108,102,97]⟩,.string ⟨#[98,114,97,118]⟩,.string ⟨#[99,104,97,114]⟩,.string ⟨#[100,45,52]⟩,.string ⟨#[101,99,104,111]⟩,.string ⟨#[120]⟩] 9 (0,0))∧Q0≤px∧px≤Q0+2*k∧dH ps=true∧(∀ t∈ps,t.s∈si.take k)∧ps.length≤k∧(1≤k→1≤ps.length))) (fun i _=>6-(intOf i).toNat)
  case atStart=>exact ⟨0,Nat.zero_le _,rfl,.slice none 0 0,[],_,BI7.out,XN7.out,by omega,by omega,Gl,(fun t ht=>by cases ht),Nat.zero_le _,fun h=>by omega⟩
  case round =>
   obtain ⟨k,hk6,rfl,HI⟩:=hrel;obtain ⟨pv,ps,px,hbi,hxn,hpx1,hpx2,hpt,hnm,hpl,hp1⟩:=HI.out;have Ki:=ay hbi;have HXN:=ay hxn;have AZ:Hid (dH ps=true∧(∀ t∈ps,t.s∈si.take k)∧(1≤k→1≤ps.length)):=⟨hpt,hnm,hp1⟩;clear HI hbi hxn hpt hnm hp1 BI7 XN7
   by_cases hlt:k<6
   ·have HNK:Hid (si.length=6):=rfl
    have MM:Hid (∀ wx:World,wx.heap[NB]?=some (.cells #[.string ⟨#[97,108,102,97]⟩,.string ⟨#[98,114,97,118]⟩,.string ⟨#[99,104,97,114]⟩,.string ⟨#[100,45,52]⟩,.string ⟨#[101,99,104,111]⟩,.string ⟨#[120]⟩] 9 (0,0))→wx.cell? ⟨NB,k,none⟩=some (.string (nU k))):=fun wx h=>by
     refine an h ?_
     rcases (show k=0∨k=1∨k=2∨k=3∨k=4∨k=5 by omega) with rfl | rfl | rfl | rfl | rfl | rfl <;> rfl
    have hk0:(0:Int)≤(k:Int):=by omega
    have hk1:(k:Int)<6:=by omega
    have hsb:1≤side∧side≤16:=by omega
    go_wp2
    apply Kr (F:=fun f x y z=>BI w z R (w3.heap.size+1) kv pv KS ps (px+1+1)∧z.heap[f]?=some (.cells #[.string (nU k),.int .i64 x,.int .i64 y] 72 (0,0))∧z.heap[NB]?=some (.cells #[.string ⟨#[97,108,102,97]⟩,.string ⟨#[98,114,97,118]⟩,.string ⟨#[99,104,97,114]⟩,.string ⟨#[100,45,52]⟩,.string ⟨#[101,99,104,111]⟩,.string ⟨#[120]⟩] 9 (0,0))∧0≤x∧x<side∧0≤y∧y<side)
    ·refine wp_region_noPanic ?_
     refine wp_region_held_drew (S:=fun wx=>wx.cell? ⟨NB,k,none⟩=some (.string (nU k))) (by kernel_rfl) ?_ (fun hHeld=>?_)
     ·exact MM.out _ HXN.out
     have BID:=ay (Ki.out.call (Below.refl _ _).drew);have XND:Hid (wr.drew.heap[NB]?=some (.cells #[.string ⟨#[97,108,102,97]⟩,.string ⟨#[98,114,97,118]⟩,.string ⟨#[99,104,97,114]⟩,.string ⟨#[100,45,52]⟩,.string ⟨#[101,99,104,111]⟩,.string ⟨#[120]⟩] 9 (0,0))):=HXN.out;generalize wr.drew=W0 at *;refine aO 0 ?_ rfl ?_ (aO 1 ?_ rfl ?_ (aO 2 ?_ rfl ?_ (aO 3 ?_ rfl ?_ (aO 4 ?_ rfl ?_ (aO 5 ?_ rfl ?_ (aO 7 ?_ rfl ?_ (aO 8 ?_ rfl ?_ ?_)))))))
     iterate 8 (rotate_left;focus (intro w hSw;(try dsimp only at hSw);simp only [Act.put,aU];go_simp;try with_reducible rfl))
     simp only [Act.put,aU]
     clear hHeld;refine lZ 6 11 rfl rfl (fun K hK=>?_) (fun K hK=>?_)
     ·go_simp
      refine (aL R (px) side _ BID.out.rd (by omega) (by omega)).mono ?_
      rintro e W1 ⟨xx,rfl,hxx0,EE,-,hr,hg⟩
      have EE:=EE (by omega)
      have B1:=ay (BID.out.pick gM (by omega) hr hg)
      have X1:=ay (aV hg (show NB≠R by omega) XND.out)
      have hHeld:=MM.out _ X1.out;refine hK.out _ _ hHeld (fun _=>?_);clear hK K hr hg BID XND;clear hHeld;refine lZ 9 11 rfl rfl (fun K hK=>?_) (fun K hK=>?_)
      focus
       go_simp
       refine (aL R (px+1) side _ B1.out.rd (by omega) (by omega)).mono ?_
       rintro e W2 ⟨yy,rfl,LH,yC,-,hr,hg⟩
       have yC:=yC (by omega)
       have B2:=ay (B1.out.pick gM (by omega) hr hg)
       have X2:=ay (aV hg (show NB≠R by omega) X1.out)
       have hHeld:=MM.out _ X2.out;refine hK.out _ _ hHeld (fun _=>?_);clear hK K hr hg B1 X1;refine aO 10 ?_ rfl ?_ ?_;rotate_left
       ·intro w hSw;(try dsimp only at hSw);go_simp;try with_reducible rfl
       simp only [Act.put,aU]
       clear hHeld;refine bE 11 rfl (fun K hK=>?_);go_simp;have BA:Hid (Below W2.heap.size W2 (W2.alloc (.cells #[.string ⟨#[]⟩,.int .i64 0,.int .i64 0] 72))):=(aM);have FA0:Hid ((W2.alloc (.cells #[.string ⟨#[]⟩,.int .i64 0,.int .i64 0] 72)).heap[W2.heap.size]?=some (.cells #[.string ⟨#[]⟩,.int .i64 0,.int .i64 0] 72 (0,0))):=aI W2 _;have B3:=ay (B2.out.call BA.out);have X3:Hid ((W2.alloc (.cells #[.string ⟨#[]⟩,.int .i64 0,.int .i64 0] 72)).heap[NB]?=some (.cells #[.string ⟨#[97,108,102,97]⟩,.string ⟨#[98,114,97,118]⟩,.string ⟨#[99,104,97,114]⟩,.string ⟨#[100,45,52]⟩,.string ⟨#[101,99,104,111]⟩,.string ⟨#[120]⟩] 9 (0,0))):=(BA.out.block _ (aP X2.out)).trans X2.out;have hFw:w.heap.size<W2.heap.size:=aP B2.out.res
       have L6:W2.heap.size≠w3.heap.size+1:=by have:=aP B2.out.box;omega
       have hFk:kv.ownBlock≠some W2.heap.size:=fun e=>by have:=o9 B2.out.k _ e;omega
       have hFp:pv.ownBlock≠some W2.heap.size:=fun e=>by have:=o9 B2.out.p _ e;omega
       have hFN:NB≠W2.heap.size:=by have:=aP X2.out;omega
       refine hK.out _ _ (MM.out _ X3.out) (fun _=>?_);clear hK K B2 X2;generalize (W2.alloc (.cells #[.string ⟨#[]⟩,.int .i64 0,.int .i64 0] 72))=W3 at *;generalize W2.heap.size=FB at *;clear BA;have BIX:=B3.out.rowF gM hFw L6 hFk hFp #[.string (nU k),.int .i64 xx,.int .i64 yy];have PXB:(W3.setRow FB #[.string (nU k),.int .i64 xx,.int .i64 yy]).heap[FB]?=some (.cells #[.string (nU k),.int .i64 xx,.int .i64 yy] 72 (0,0)):=setRow_heap _ _ _ _ _ _ FA0.out;have XNX:(W3.setRow FB #[.string (nU k),.int .i64 xx,.int .i64 yy]).heap[NB]?=some (.cells #[.string ⟨#[97,108,102,97]⟩,.string ⟨#[98,114,97,118]⟩,.string ⟨#[99,104,97,114]⟩,.string ⟨#[100,45,52]⟩,.string ⟨#[101,99,104,111]⟩,.string ⟨#[120]⟩] 9 (0,0)):=(setRow_other _ _ _ _ hFN).trans X3.out;refine bE 12 rfl (fun K hK=>?_)
       refine aF rfl 72 _ _ rfl FB #[.string (nU k),.int .i64 xx,.int .i64 yy] rfl rfl 72 _ FA0.out (by kernel_rfl) rfl (by simp [Value.oneCell']) ?_
      rotate_left
      focus
       go_simp;have BA:Hid (Below W1.heap.size W1 (W1.alloc (.cells #[.string ⟨#[]⟩,.int .i64 0,.int .i64 0] 72))):=(aM);have FA0:Hid ((W1.alloc (.cells #[.string ⟨#[]⟩,.int .i64 0,.int .i64 0] 72)).heap[W1.heap.size]?=some (.cells #[.string ⟨#[]⟩,.int .i64 0,.int .i64 0] 72 (0,0))):=aI W1 _;have B2:=ay (B1.out.call BA.out);have X2:Hid ((W1.alloc (.cells #[.string ⟨#[]⟩,.int .i64 0,.int .i64 0] 72)).heap[NB]?=some (.cells #[.string ⟨#[97,108,102,97]⟩,.string ⟨#[98,114,97,118]⟩,.string ⟨#[99,104,97,114]⟩,.string ⟨#[100,45,52]⟩,.string ⟨#[101,99,104,111]⟩,.string ⟨#[120]⟩] 9 (0,0))):=(BA.out.block _ (aP X1.out)).trans X1.out;have hFw:w.heap.size<W1.heap.size:=aP B1.out.res
       have L6:W1.heap.size≠w3.heap.size+1:=by have:=aP B1.out.box;omega
       have hFk:kv.ownBlock≠some W1.heap.size:=fun e=>by have:=o9 B1.out.k _ e;omega
       have hFp:pv.ownBlock≠some W1.heap.size:=fun e=>by have:=o9 B1.out.p _ e;omega
       have hFN:NB≠W1.heap.size:=by have:=aP X1.out;omega
       refine hK.out _ _ (MM.out _ X2.out) (fun _=>?_);clear hK K B1 X1;generalize (W1.alloc (.cells #[.string ⟨#[]⟩,.int .i64 0,.int .i64 0] 72))=W2 at *;generalize W1.heap.size=FB at *;clear BA;refine bE 9 rfl (fun K hK=>?_);go_simp
       refine (aL R (px+1) side _ B2.out.rd (by omega) (by omega)).mono ?_
       rintro e W3 ⟨yy,rfl,LH,yC,-,hr,hg⟩
       have yC:=yC (by omega)
       have B3:=ay (B2.out.pick gM (by omega) hr hg)
       have X3:=ay (aV hg (show NB≠R by omega) X2.out)
       have FA1:=ay (aV hg (show FB≠R by omega) FA0.out)
       have hHeld:=MM.out _ X3.out;refine hK.out _ _ hHeld (fun _=>?_);clear hK K hr hg B2 X2 FA0;refine aO 10 ?_ rfl ?_ ?_;rotate_left
       ·intro w hSw;(try dsimp only at hSw);go_simp;try with_reducible rfl
       simp only [Act.put,aU]
       clear hHeld;have BIX:=B3.out.rowF gM hFw L6 hFk hFp #[.string (nU k),.int .i64 xx,.int .i64 yy];have PXB:(W3.setRow FB #[.string (nU k),.int .i64 xx,.int .i64 yy]).heap[FB]?=some (.cells #[.string (nU k),.int .i64 xx,.int .i64 yy] 72 (0,0)):=setRow_heap _ _ _ _ _ _ FA1.out;have XNX:(W3.setRow FB #[.string (nU k),.int .i64 xx,.int .i64 yy]).heap[NB]?=some (.cells #[.string ⟨#[97,108,102,97]⟩,.string ⟨#[98,114,97,118]⟩,.string ⟨#[99,104,97,114]⟩,.string ⟨#[100,45,52]⟩,.string ⟨#[101,99,104,111]⟩,.string ⟨#[120]⟩] 9 (0,0)):=(setRow_other _ _ _ _ hFN).trans X3.out;refine bE 12 rfl (fun K hK=>?_)
       refine aF rfl 72 _ _ rfl FB #[.string (nU k),.int .i64 xx,.int .i64 yy] rfl rfl 72 _ FA1.out (by kernel_rfl) rfl (by simp [Value.oneCell']) ?_
      rotate_left
      all_goals
       refine hK.out _ _ (MM.out _ XNX) (fun _=>?_)
       refine wpAnyH_done (by kernel_rfl) ?_ _
       refine NoPanic.normal ?_;exact ⟨rfl,FB,xx,yy,rfl,BIX,PXB,XNX,hxx0,EE,LH,yC⟩
     ·go_simp
      have BA:Hid (Below W0.heap.size W0 (W0.alloc (.cells #[.string ⟨#[]⟩,.int .i64 0,.int .i64 0] 72))):=(aM);have FA0:Hid ((W0.alloc (.cells #[.string ⟨#[]⟩,.int .i64 0,.int .i64 0] 72)).heap[W0.heap.size]?=some (.cells #[.string ⟨#[]⟩,.int .i64 0,.int .i64 0] 72 (0,0))):=aI W0 _;have B1:=ay (BID.out.call BA.out);have X1:Hid ((W0.alloc (.cells #[.string ⟨#[]⟩,.int .i64 0,.int .i64 0] 72)).heap[NB]?=some (.cells #[.string ⟨#[97,108,102,97]⟩,.string ⟨#[98,114,97,118]⟩,.string ⟨#[99,104,97,114]⟩,.string ⟨#[100,45,52]⟩,.string ⟨#[101,99,104,111]⟩,.string ⟨#[120]⟩] 9 (0,0))):=(BA.out.block _ (aP XND.out)).trans XND.out;have hFw:w.heap.size<W0.heap.size:=aP BID.out.res
      have L6:W0.heap.size≠w3.heap.size+1:=by have:=aP BID.out.box;omega
      have hFk:kv.ownBlock≠some W0.heap.size:=fun e=>by have:=o9 BID.out.k _ e;omega
      have hFp:pv.ownBlock≠some W0.heap.size:=fun e=>by have:=o9 BID.out.p _ e;omega
      have hFN:NB≠W0.heap.size:=by have:=aP XND.out;omega
      refine hK.out _ _ (MM.out _ X1.out) (fun _=>?_);clear hK K BID XND;generalize (W0.alloc (.cells #[.string ⟨#[]⟩,.int .i64 0,.int .i64 0] 72))=W1 at *;generalize W0.heap.size=FB at *;clear BA;refine bE 6 rfl (fun K hK=>?_);go_simp
      refine (aL R (px) side _ B1.out.rd (by omega) (by omega)).mono ?_
      rintro e W2 ⟨xx,rfl,hxx0,EE,-,hr,hg⟩
      have EE:=EE (by omega)
      have B2:=ay (B1.out.pick gM (by omega) hr hg)
      have X2:=ay (aV hg (show NB≠R by omega) X1.out)
      have FA1:=ay (aV hg (show FB≠R by omega) FA0.out)
      have hHeld:=MM.out _ X2.out;refine hK.out _ _ hHeld (fun _=>?_);clear hK K hr hg B1 X1 FA0;clear hHeld;refine bE 9 rfl (fun K hK=>?_);go_simp
      refine (aL R (px+1) side _ B2.out.rd (by omega) (by omega)).mono ?_
      rintro e W3 ⟨yy,rfl,LH,yC,-,hr,hg⟩
      have yC:=yC (by omega)
      have B3:=ay (B2.out.pick gM (by omega) hr hg)
      have X3:=ay (aV hg (show NB≠R by omega) X2.out)
      have FA2:=ay (aV hg (show FB≠R by omega) FA1.out)
      have hHeld:=MM.out _ X3.out;refine hK.out _ _ hHeld (fun _=>?_);clear hK K hr hg B2 X2 FA1;refine aO 10 ?_ rfl ?_ ?_;rotate_left
      ·intro w hSw;(try dsimp only at hSw);go_simp;try with_reducible rfl
      simp only [Act.put,aU]
      clear hHeld;have BIX:=B3.out.rowF gM hFw L6 hFk hFp #[.string (nU k),.int .i64 xx,.int .i64 yy];have PXB:(W3.setRow FB #[.string (nU k),.int .i64 xx,.int .i64 yy]).heap[FB]?=some (.cells #[.string (nU k),.int .i64 xx,.int .i64 yy] 72 (0,0)):=setRow_heap _ _ _ _ _ _ FA2.out;have XNX:(W3.setRow FB #[.string (nU k),.int .i64 xx,.int .i64 yy]).heap[NB]?=some (.cells #[.string ⟨#[97,108,102,97]⟩,.string ⟨#[98,114,97,118]⟩,.string ⟨#[99,104,97,114]⟩,.string ⟨#[100,45,52]⟩,.string ⟨#[101,99,104,111]⟩,.string ⟨#[120]⟩] 9 (0,0)):=(setRow_other _ _ _ _ hFN).trans X3.out;refine bE 12 rfl (fun K hK=>?_)
      refine aF rfl 72 _ _ rfl FB #[.string (nU k),.int .i64 xx,.int .i64 yy] rfl rfl 72 _ FA2.out (by kernel_rfl) rfl (by simp [Value.oneCell']) ?_
      refine hK.out _ _ (MM.out _ XNX) (fun _=>?_)
      refine wpAnyH_done (by kernel_rfl) ?_ _
      refine NoPanic.normal ?_;exact ⟨rfl,FB,xx,yy,rfl,BIX,PXB,XNX,hxx0,EE,LH,yC⟩
    ·rintro FB xx yy WX ⟨bix,pxb,xnx,hxx0,EE,LH,yC⟩
     have BIX:=ay bix;have PXB:=ay pxb;have XNX:=ay xnx;clear bix pxb xnx Ki HXN
     -- the point lies in FB; is its cell free?
     obtain ⟨pa,pc,hpve⟩:=bU BIX.out.p;subst hpve;have hFz:=aP PXB.out;have hBz:=aP BIX.out.box
     obtain ⟨-,hpm,-⟩:True∧pc≤maxLen∧True:=⟨trivial,by
      obtain ⟨a',c',e',h1,h2,-⟩:=rF BIX.out.p
      cases e'
      exact h2,trivial⟩
     unfold maxLen at hpm;go_wp2
     go_loopw [8,9] (fun fv jv wz=>∃ j:Nat,j≤ps.length∧jv=.int .i64 j∧fv=.bool (!fu ps j ⟨nU k,xx,yy⟩)∧Hid (Below WX.heap.size WX wz)) (fun _ jv _=>ps.length-(intOf jv).toNat)
     case atStart=>exact ⟨0,Nat.zero_le _,rfl,rfl,Below.refl _ _⟩
     case round =>
      obtain ⟨j,hj,rfl,rfl,HW⟩:=hrel;have BIZ:=ay (BIX.out.call HW.out);have q1:=an BIZ.out.box (i:=1) rfl;have zq:=av q1
      by_cases hjl:j<ps.length
      ·obtain ⟨a',c',e',-,-,hcs⟩:=rF BIZ.out.p
       obtain ⟨bP,oP,hap,d0,d1,d2⟩:=hcs j _ (bo hjl)
       cases e'
       subst hap;clear hcs;have hfz:=(HW.out.block _ hFz).trans PXB.out;have f1:=an hfz (i:=1) rfl;have f2:=an hfz (i:=2) rfl;have zd:=av d1;have zf:=av f1
       have hj0:(0:Int)≤(j:Int):=by omega
       have hj1:(j:Int)<(ps.length:Int):=by omega
       have Hf:=ay (FY ps ⟨nU k,xx,yy⟩ j);have MN:Hid (jb (at' ps j) ⟨nU k,xx,yy⟩=(decide ((at' ps j).x=xx)&&decide ((at' ps j).y=yy))):=rfl;generalize at' ps j=tj at *;have hne:=Later.some wr;clear d0 hfz
       cases htk:fu ps j ⟨nU k,xx,yy⟩
       ·by_cases hx:tj.x=xx
        ·have hxe:(tj.x != xx)=false:=by simp [hx]
         by_cases hy:tj.y=yy
         focus
          have hye:(tj.y != yy)=false:=by simp [hy]
          have FL:Hid ((!fu ps (j+1) ⟨nU k,xx,yy⟩)=false):=by show _=_;rw [Hf.out,MN.out];simp [hx,hy]
         rotate_left
         focus
          have hye:(tj.y != yy)=true:=by simp [hy]
          have FL:Hid ((!fu ps (j+1) ⟨nU k,xx,yy⟩)=true):=by show _=_;rw [Hf.out,MN.out,htk];simp [hy]
         rotate_left
         all_goals
          clear hx hy
          simp only [Bool.not_false]
          go_wp2
          refine au (by kernel_rfl) (by kernel_rfl) ?_
          repeat (go_big_quiet_step (fail))
          refine wpQuiet_nil ?_;rintro _ ⟨zz,rfl⟩;have HW2:Hid (Below WX.heap.size WX zz.val):=aa HW.out zz.below;go_wp2
          exact ⟨⟨j+1,by omega,by go_num,by rw [FL.out],HW2⟩,by simp [intOf];omega⟩
        ·have hxe:(tj.x != xx)=true:=by simp [hx]
         have FL:Hid ((!fu ps (j+1) ⟨nU k,xx,yy⟩)=true):=by show _=_;rw [Hf.out,MN.out,htk];simp [hx]
         clear hx
         simp only [Bool.not_false]
         go_wp2
         refine au (by kernel_rfl) (by kernel_rfl) ?_
         repeat (go_big_quiet_step (fail))
         refine wpQuiet_nil ?_;rintro _ ⟨zz,rfl⟩;have HW2:Hid (Below WX.heap.size WX zz.val):=aa HW.out zz.below;go_wp2
         exact ⟨⟨j+1,by omega,by go_num,by rw [FL.out],HW2⟩,by simp [intOf];omega⟩
       ·have FL:Hid ((!fu ps (j+1) ⟨nU k,xx,yy⟩)=false):=by show _=_;rw [Hf.out,htk];simp
        simp only [Bool.not_true]
        go_wp2
        refine au (by kernel_rfl) (by kernel_rfl) ?_
        repeat (go_big_quiet_step (fail))
        refine wpQuiet_nil ?_;rintro _ ⟨zz,rfl⟩;have HW2:Hid (Below WX.heap.size WX zz.val):=aa HW.out zz.below;go_wp2
        exact ⟨⟨j+1,by omega,by go_num,by rw [FL.out],HW2⟩,by simp [intOf];omega⟩
      ·have hje:j=ps.length:=by omega
       have HXZ:Hid (wr.heap[NB]?=some (.cells #[.string ⟨#[97,108,102,97]⟩,.string ⟨#[98,114,97,118]⟩,.string ⟨#[99,104,97,114]⟩,.string ⟨#[100,45,52]⟩,.string ⟨#[101,99,104,111]⟩,.string ⟨#[120]⟩] 9 (0,0))):=(HW.out.block _ (aP XNX.out)).trans XNX.out;have HTK6:=ay (nm_take k hlt)
       cases htk:fu ps j ⟨nU k,xx,yy⟩
       ·simp only [Bool.not_false]
        have HTF:Hid (fu ps ps.length ⟨nU k,xx,yy⟩=false):=by show _=_;rw [← hje];exact htk
        have hfz:=(HW.out.block _ hFz).trans PXB.out;have f0:=an hfz (i:=0) rfl;have f1:=an hfz (i:=1) rfl;have f2:=an hfz (i:=2) rfl;have BC:Hid (Below wr.heap.size wr (wr.alloc (.cells #[.string (nU k),.int .i64 xx,.int .i64 yy] 72))):=(aM);have J8:Hid ((wr.alloc (.cells #[.string (nU k),.int .i64 xx,.int .i64 yy] 72)).heap[wr.heap.size]?=some (.cells #[.string (nU k),.int .i64 xx,.int .i64 yy] 72 (0,0))):=aI wr _;have BIC:=ay (BIZ.out.call BC.out);have hown0:=BIC.out.p;have hbc:=BIC.out.box;have hwz:=BIC.out.gr.size;have hwr:=aP BIC.out.res;clear hfz htk;subst hje
        go_wp2_with (at_builtin;refine aZ _ rfl _ _ 25 rfl (w.heap.size+1) 72 i1 _ 3 32 Tryz.underlying25 hi1 hq0 hq1 hq2 rfl (by decide) _ ps.length _ rfl hown0 _ 1 1 [.string (nU k),.int .i64 xx,.int .i64 yy] rfl (.inr ⟨_,rfl,World.news_of_block J8.out⟩) rfl (fun u hu=>by simp at hu;rcases hu with rfl | rfl | rfl <;> rfl) (by unfold maxLen;omega) (by omega) (by omega) ?_;intro va W8 hown hgrow hat;have HOWN:=ay hown;have HGR:=ay hgrow;obtain ⟨qa,qc,rfl⟩:=bU hown;clear hown;have hg2:W8.heap[w3.heap.size+1]?=some (.cells #[kv,.slice pa ps.length pc] 27 (0,0)):=(HGR.out.block _ (aP hbc) (bu hown0 hbc (by decide))).trans hbc;have lz:W8.cell? ⟨w3.heap.size+1,1,none⟩=some (.slice pa ps.length pc):=an hg2 rfl;have Eh:W8.frozen? ⟨w3.heap.size+1,1,none⟩=false:=(by simp [World.frozen?,hg2]);clear hg2 hgrow hat)
        have qE:Hid (∃ pv' ps' px',BI w (W8.setCell ⟨w3.heap.size+1,1,none⟩ (.slice qa (ps.length+1) qc)) R (w3.heap.size+1) kv pv' KS ps' px'∧(W8.setCell ⟨w3.heap.size+1,1,none⟩ (.slice qa (ps.length+1) qc)).heap[NB]?=some (.cells #[.string ⟨#[97,108,102,97]⟩,.string ⟨#[98,114,97,118]⟩,.string ⟨#[99,104,97,114]⟩,.string ⟨#[100,45,52]⟩,.string ⟨#[101,99,104,111]⟩,.string ⟨#[120]⟩] 9 (0,0))∧Q0≤px'∧px'≤Q0+2*(k+1)∧dH ps'=true∧(∀ t∈ps',t.s∈si.take (k+1))∧ps'.length≤k+1∧(1≤k+1→1≤ps'.length)):=by
         refine ⟨.slice qa (ps.length+1) qc,ps++[(⟨nU k,xx,yy⟩:dx)],px+1+1,BIC.out.setP gM (by omega) HGR.out (by rw [List.length_append,cL];exact HOWN.out),?_,by omega,by omega,?_,fun t ht=>?_,by simp;omega,fun _=>by simp⟩
         ·have hNz:=(BC.out.block _ (aP HXZ.out)).trans HXZ.out
          exact (Below.heap_setCell W8 ⟨w3.heap.size+1,1,none⟩ _ NB (by show NB≠w3.heap.size+1;omega)).trans ((HGR.out.block _ (aP hNz) (bu hown0 hNz (by decide))).trans hNz)
         ·refine DL AZ.out.1 (by omega) (nm_ok k hlt).1 (fun h0=>?_) ?_ HTF.out
          ·exact (nm_ok k hlt).2 _ (AZ.out.2.1 _ (List.mem_of_getElem? (bo (show ps.length-1<ps.length by omega))))
          ·unfold eQ eB
           simp
           omega
         ·rw [HTK6.out]
          rcases List.mem_append.1 ht with ht | ht
          ·exact List.mem_append_left _ (AZ.out.2.1 t ht)
          ·rw [List.mem_singleton.1 ht];exact List.mem_append_right _ (List.mem_singleton.2 rfl)
        exact ⟨⟨k+1,by omega,by go_num,qE⟩,by simp [intOf];omega⟩
       ·simp only [Bool.not_true]
        have qE:Hid (∃ pv' ps' px',BI w wr R (w3.heap.size+1) kv pv' KS ps' px'∧wr.heap[NB]?=some (.cells #[.string ⟨#[97,108,102,97]⟩,.string ⟨#[98,114,97,118]⟩,.string ⟨#[99,104,97,114]⟩,.string ⟨#[100,45,52]⟩,.string ⟨#[101,99,104,111]⟩,.string ⟨#[120]⟩] 9 (0,0))∧Q0≤px'∧px'≤Q0+2*(k+1)∧dH ps'=true∧(∀ t∈ps',t.s∈si.take (k+1))∧ps'.length≤k+1∧(1≤k+1→1≤ps'.length)):=by
         refine ⟨_,ps,px+1+1,BIZ.out,HXZ.out,by omega,by omega,AZ.out.1,fun t ht=>?_,by omega,fun _=>?_⟩
         ·rw [HTK6.out];exact List.mem_append_left _ (AZ.out.2.1 t ht)
         ·rcases Nat.eq_zero_or_pos ps.length with e | e
          ·rw [hje,e] at htk
           simp [fu,fw] at htk
          ·omega
        clear htk;go_wp2
        exact ⟨⟨k+1,by omega,by go_num,qE⟩,by simp [intOf];omega⟩
   ·obtain ⟨ka,kc,hke⟩:=bU Ki.out.k
    obtain ⟨pa,pc,hpe⟩:=bU Ki.out.p;subst hke;subst hpe;have q0:=an Ki.out.box (i:=0) rfl;have q1:=an Ki.out.box (i:=1) rfl;have Ch:=Ki.out.res
    have hk6e:k=6:=by omega
    have qF:Hid ((wr.setRow w.heap.size #[.slice ka KS.length kc,.slice pa ps.length pc]).ownsRow (w.heap.size+1) 69 3 (.slice ka KS.length kc) KS.length (aS KS)∧(wr.setRow w.heap.size #[.slice ka KS.length kc,.slice pa ps.length pc]).ownsRow (w.heap.size+1) 72 3 (.slice pa ps.length pc) ps.length (aS ps)∧dM KS=true∧dH ps=true∧1≤ps.length∧1≤KS.length∧Out w R p 30 (wr.setRow w.heap.size #[.slice ka KS.length kc,.slice pa ps.length pc])):=by
     have hg:wr.grownBy (wr.setRow w.heap.size #[.slice ka KS.length kc,.slice pa ps.length pc]) (some w.heap.size):=⟨rfl,rfl,rfl,by simp,fun j _ hj=>setRow_other _ _ _ _ (fun e=>hj (by rw [e]))⟩
     refine ⟨br Ki.out.k hg (fun q hq e=>?_),br Ki.out.p hg (fun q hq e=>?_),HKB.out,AZ.out.1,AZ.out.2.2 (by omega),HKL.out,px,by omega,by omega,Ki.out.rd.late (fun j hj=>setRow_other _ _ _ _ (by omega)),bX Ki.out.gr _ aG⟩
     ·have:=cE Ki.out.k q hq;injection e with e;omega
     ·have:=cE Ki.out.p q hq;injection e with e;omega
    go_wp2_with (refine wpList_store_row rfl 27 _ _ rfl w.heap.size #[.slice ka KS.length kc,.slice pa ps.length pc] rfl rfl 27 _ Ch (by kernel_rfl) rfl (by simp [Value.oneCell']) ?_)
    exact bodyPost_ret (v:=.agg #[.slice ka KS.length kc,.slice pa ps.length pc]) (by simp [results,Tryz.results63,go_sem,cell_setRow_same _ _ _ _ _ _ _ Ch]) rfl ⟨_,_,KS,ps,rfl,qF.out⟩
end Go.Proofs.YtcmgddnckohdaaaGreatDoor.Dr
namespace Go.Proofs.YtcmgddnckohdaaaGreatDoor.Dr
open Go.RowKit
theorem Ec {l:List dx} {m:Nat} (h:eO l m=true):l.length≤m∧∀ t∈l,t.s.size≤8:=by
 unfold eO at h;rw [Bool.and_eq_true] at h
 refine ⟨by have:=of_decide_eq_true h.1;omega,fun t ht=>?_⟩
 obtain ⟨i,hi,e⟩:=List.getElem_of_mem ht;have h2:=bH h.2 i hi;rw [Bool.and_eq_true] at h2;have h3:=h2.1
 rw [show at' l i=t by simp [at',hi,e]] at h3
 unfold dD eB at h3
 simp at h3
 omega
theorem uu {l:List dx} (h:dH l=true):l.length≤16∧∀ t∈l,t.s.size≤8:=by
 unfold dH at h;rw [Bool.and_eq_true] at h;exact Ec h.1
theorem Ey {l:List dx} (h:dM l=true):l.length≤6∧∀ t∈l,t.s.size≤8:=by
 unfold dM at h;rw [Bool.and_eq_true] at h;exact Ec h.1
theorem bz {w w1 w2:World} {R:Nat} (h:Below w.heap.size w w1) (hg:w1.grownBy w2 (some R)) (hR:w.heap.size≤R):Below w.heap.size w w2 :=
 ⟨hg.1.trans h.1,hg.2.trans h.2,hg.3.trans h.3,Nat.le_trans h.4 hg.4,fun j hj=>(hg.5 j (Nat.lt_of_lt_of_le hj h.4) (fun e=>by have:=Option.some.inj e;omega)).trans (h.5 j hj)⟩
structure DC (w z:World) (R q bs:Nat) (kv pv:Value) (ks ps:List dx):Prop where
 rd:Rd z R q
 bl:Below w.heap.size w z
 r0:z.heap[w.heap.size]?=some (.cells #[.slice none 0 0,.slice none 0 0] 27 (0,0))
 r1:z.heap[w.heap.size+1]?=some (.cells #[.string ⟨#[]⟩,.int .i64 0,.int .i64 0,.string ⟨#[]⟩] 76 (0,0))
 k:z.ownsRow bs 69 3 kv ks.length (aS ks)
 p:z.ownsRow bs 72 3 pv ps.length (aS ps)
theorem DC.call {w z z':World} {R q bs:Nat} {kv pv:Value} {ks ps:List dx} (h:DC w z R q bs kv pv ks ps) (hb:Below z.heap.size z z'):DC w z' R q bs kv pv ks ps :=
 ⟨h.rd.far hb,aa h.bl hb,(hb.block _ (aP h.r0)).trans h.r0,(hb.block _ (aP h.r1)).trans h.r1,cj h.k hb,cj h.p hb⟩
theorem DC.grow {w z z':World} {R q q' bs:Nat} {kv pv:Value} {ks ps:List dx} (h:DC w z R q bs kv pv ks ps) (hR:w.heap.size+1<R) (hb:R<bs) (hr:Rd z' R q') (hg:z.grownBy z' (some R)):DC w z' R q' bs kv pv ks ps :=
 ⟨hr,bz h.bl hg (by omega),aV hg (by omega) h.r0,aV hg (by omega) h.r1,cy h.k hg hb,cy h.p hg hb⟩
theorem DC.row {w z:World} {R q bs C:Nat} {kv pv:Value} {ks ps:List dx} {old:Array Value} (h:DC w z R q bs kv pv ks ps) (hC:z.heap[C]?=some (.cells old 76 (0,0))) (hw:w.heap.size+1<C) (hR:R<C) (cs:Array Value):DC w (z.setRow C cs) R q bs kv pv ks ps:=by
 have hg:z.grownBy (z.setRow C cs) (some C):=⟨rfl,rfl,rfl,by simp,fun j _ hj=>setRow_other _ _ _ _ (fun e=>hj (by rw [e]))⟩
 have hbl:Below w.heap.size w (z.setRow C cs):=bz h.bl hg (by omega)
 refine ⟨?_,hbl,(setRow_other _ _ _ _ (by omega)).trans h.r0,(setRow_other _ _ _ _ (by omega)).trans h.r1,br h.k hg (fun q hq e=>bu h.k hC (by decide) (by rw [hq,← e])),br h.p hg (fun q hq e=>bu h.p hC (by decide) (by rw [hq,← e]))⟩
 exact h.rd.late (fun j hj=>setRow_other _ _ _ _ (by omega))
open Go.RowKit
def IU:List ByteArray:=[⟨#[32]⟩,⟨#[48]⟩,⟨#[10]⟩,⟨#[45]⟩,⟨#[120]⟩]
theorem J3:∀ s∈IU,s.size≤1:=by decide
theorem bend_ix (x:Int) (n:Nat) (h0:0≤x) (h1:x<256) (hn:n≤100000):∃ i:Nat,i≤n∧wrap64 ((wrap64 (x*((n:Int)+1))).tdiv 256)=(i:Int):=by
 have m0:0≤x*((n:Int)+1):=Int.mul_nonneg h0 (by omega)
 have m1:x*((n:Int)+1)≤255*((n:Int)+1):=Int.mul_le_mul_of_nonneg_right (by omega) (by omega)
 generalize x*((n:Int)+1)=y at *
 have e1:wrap64 y=y:=by unfold wrap64;omega
 rw [e1,Int.tdiv_eq_ediv_of_nonneg m0]
 have e2:wrap64 (y / 256)=y / 256:=by unfold wrap64;omega
 rw [e2]
 exact ⟨(y / 256).toNat,by omega,by omega⟩
theorem Gx (R p:Nat) (s:ByteArray) (w:World) (h:Rd w R p) (hp:p≤800000) (hs:s.size≤100000) :
  Calls Tryz.prog 64 #[.pointer (some ⟨R,0,none⟩),.string s] w fun e w'=>∃ t:ByteArray,e=.returned (.string t)∧t.size≤2*s.size+1∧Out w R p 5 w':=by
 have HR:=ay h;have hz:=h.lt;clear h
 go_enter Tryz.func64,Tryz.ntmps64
 go_wp2_with fail
 refine (aL R p 256 _ HR.out (by omega) (by omega)).mono ?_
 rintro e w1 ⟨x,rfl,hx0,hx1,-,hr1,hg1⟩
 have hx1:=hx1 (by omega)
 have R1:Hid (Rd w1 R (p+1)∧w.grownBy w1 (some R)):=⟨hr1,hg1⟩;clear hr1 hg1 HR;obtain ⟨i,hi,hie⟩:=bend_ix x s.size hx0 hx1 hs;have HIE:=ay hie;clear hie;go_wp2_with fail;rw [HIE.out]
 refine (aL R (p+1) 4 _ R1.out.1 (by omega) (by omega)).mono ?_
 rintro e w2 ⟨z,rfl,hz0,hz1,-,hr2,hg2⟩
 have hz1:=hz1 (by omega)
 have R2:Hid (Rd w2 R (p+1+1)∧w.grownBy w2 (some R)):=⟨hr2,az R1.out.2 hg2⟩;clear hr2 hg2 R1 HIE
 have hi0:(0:Int)≤(i:Int):=by omega
 have hi1:(i:Int)≤(s.size:Int):=by omega
 rcases (show z=0∨z=1∨z=2∨z=3 by omega) with rfl | rfl | rfl | rfl
 ·go_wp2_with fail
  exact bodyPost_ret (v:=.string (s.extract 0 i)) (by simp [results,Tryz.results64,go_sem]) rfl ⟨_,rfl,by rw [ByteArray.size_extract];omega,_,by omega,by omega,R2.out.1,R2.out.2⟩
 ·go_wp2
  have zm:Hid ((s.extract 0 i).size≤i∧(s.extract i s.size).size≤s.size-i):=⟨by rw [ByteArray.size_extract];omega,by rw [ByteArray.size_extract];omega⟩
  refine wp_region_noPanic ?_
  refine wp_region_held_drew (S:=fun _=>True) (by kernel_rfl) trivial (fun hHeld=>?_)
  have RD:Hid (Rd w2.drew R (p+1+1)∧w.grownBy w2.drew (some R)):=⟨R2.out.1.far (Below.refl _ _).drew,az R2.out.2 (aH (Below.refl _ _).drew _)⟩;generalize w2.drew=W0 at *;clear R2;have HK:Hid (Below W0.heap.size W0 (W0.alloc (.cells #[.string ⟨#[32]⟩,.string ⟨#[48]⟩,.string ⟨#[10]⟩,.string ⟨#[45]⟩,.string ⟨#[120]⟩] 9))):=(aM)
  have HS:Hid (dV (W0.alloc (.cells #[.string ⟨#[32]⟩,.string ⟨#[48]⟩,.string ⟨#[10]⟩,.string ⟨#[45]⟩,.string ⟨#[120]⟩] 9)) (.slice (some ⟨W0.heap.size,0,none⟩) 5 5) IU):=mW IU (aI W0 _) rfl (by decide)
  have HO:=ay (qO R (p+1+1) _ IU _ (RD.out.1.far HK.out) (by omega) HS.out (by decide))
  refine aO 0 ?_ rfl ?_ (aO 1 ?_ rfl ?_ (aO 2 ?_ rfl ?_ (aO 3 ?_ rfl ?_ (aO 7 ?_ rfl ?_ (aO 8 ?_ rfl ?_ (aO 9 ?_ rfl ?_ ?_))))))
  iterate 7 (rotate_left;focus (intro w hSw;(try dsimp only at hSw);simp only [Act.put,aU];go_simp;try with_reducible rfl))
  simp only [Act.put,aU]
  refine bE 4 rfl (fun K hK=>?_);go_simp;refine hK.out _ _ trivial (fun _=>?_);clear hK K;refine bE 5 rfl (fun K hK=>?_);go_simp;refine HO.out.mono ?_;rintro e w4 ⟨f,rfl,hf,hr4,hg4⟩;have hfs:=J3 f hf;have R4:Hid (Rd w4 R (p+1+1+1)∧w.grownBy w4 (some R)):=⟨hr4,az RD.out.2 (az (aH HK.out _) hg4)⟩;refine hK.out _ _ trivial (fun _=>?_);clear hK K hf hr4 hg4 HO HS HK RD;obtain ⟨sz1,sz2⟩:=zm.out;generalize s.extract 0 i=s1 at *;generalize s.extract i s.size=s2 at *
  have cz1:¬ 9223372036854775807<s1.size+f.size:=by omega
  have cz2:¬ 9223372036854775807<s1.size+f.size+s2.size:=by omega
  have HF:Hid (((s1++f)++s2).size≤2*s.size+1):=by show _≤_;rw [ByteArray.size_append,ByteArray.size_append];omega
  refine aO 6 ?_ rfl ?_ (aO 10 ?_ rfl ?_ (aO 11 ?_ rfl ?_ ?_))
  iterate 3 (rotate_left;focus (intro w hSw;(try dsimp only at hSw);simp only [Act.put,aU];go_simp;try with_reducible rfl))
  simp only [Act.put,aU]
  refine wpAnyH_done (by kernel_rfl) ?_ _
  refine NoPanic.normal ?_;go_wp2_with fail
  exact bodyPost_ret (v:=.string ((s1++f)++s2)) (by simp [results,Tryz.results64,go_sem]) rfl ⟨_,rfl,HF.out,_,by omega,by omega,R4.out.1,R4.out.2⟩
 ·by_cases hlt:(i:Int)<(s.size:Int)
  ·have hlt1:(i:Int)+1≤(s.size:Int):=by omega
   have hlt2:(0:Int)≤(i:Int)+1:=by omega
   have hwi:IntKind.i64.wrap ((i:Int)+1)=(i:Int)+1:=by rw [IntKind.wrap_i64];omega
   have htn:((i:Int)+1).toNat=i+1:=by omega
   go_wp2;refine wp_region_noPanic ?_
   refine wp_region_held_drew (S:=fun _=>True) (by kernel_rfl) trivial (fun hHeld=>?_)
   have RD:Hid (Rd w2.drew R (p+1+1)∧w.grownBy w2.drew (some R)):=⟨R2.out.1.far (Below.refl _ _).drew,az R2.out.2 (aH (Below.refl _ _).drew _)⟩;generalize w2.drew=W0 at *;clear R2;refine aO 0 ?_ rfl ?_ (aO 1 ?_ rfl ?_ (aO 2 ?_ rfl ?_ (aO 3 ?_ rfl ?_ (aO 4 ?_ rfl ?_ (aO 5 ?_ rfl ?_ (aO 6 ?_ rfl ?_ ?_))))))
   iterate 7 (rotate_left;focus (intro w hSw;(try dsimp only at hSw);simp only [Act.put,aU];go_simp;try with_reducible rfl))
   simp only [Act.put,aU]
   have zm:Hid ((s.extract 0 i).size≤i∧(s.extract (i+1) s.size).size≤s.size-i):=⟨by rw [ByteArray.size_extract];omega,by rw [ByteArray.size_extract];omega⟩
   obtain ⟨sz1,sz2⟩:=zm.out;generalize s.extract 0 i=s1 at *;generalize s.extract (i+1) s.size=s2 at *
   have cz1:¬ 9223372036854775807<s1.size+s2.size:=by omega
   have HF:Hid ((s1++s2).size≤2*s.size+1):=by show _≤_;rw [ByteArray.size_append];omega
   refine aO 7 ?_ rfl ?_ (aO 8 ?_ rfl ?_ ?_)
   iterate 2 (rotate_left;focus (intro w hSw;(try dsimp only at hSw);simp only [Act.put,aU];go_simp;try with_reducible rfl))
   simp only [Act.put,aU]
   refine wpAnyH_done (by kernel_rfl) ?_ _
   refine NoPanic.normal ?_;go_wp2_with fail
   exact bodyPost_ret (v:=.string (s1++s2)) (by simp [results,Tryz.results64,go_sem]) rfl ⟨_,rfl,HF.out,_,by omega,by omega,RD.out.1,RD.out.2⟩
  ·go_wp2_with fail
   exact bodyPost_ret (v:=.string (s++s.extract i s.size)) (by simp [results,Tryz.results64,go_sem]) rfl ⟨_,rfl,by rw [ByteArray.size_append,ByteArray.size_extract];omega,_,by omega,by omega,R2.out.1,R2.out.2⟩
 ·go_wp2_with fail
  exact bodyPost_ret (v:=.string (s++s.extract i s.size)) (by simp [results,Tryz.results64,go_sem]) rfl ⟨_,rfl,by rw [ByteArray.size_append,ByteArray.size_extract];omega,_,by omega,by omega,R2.out.1,R2.out.2⟩
end Go.Proofs.YtcmgddnckohdaaaGreatDoor.Dr
