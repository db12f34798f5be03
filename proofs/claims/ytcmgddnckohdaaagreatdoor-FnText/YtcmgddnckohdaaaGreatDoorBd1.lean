import Derived.Test.YtcmgddnckohdaaaGreatDoorDr10
import Derived.Test.YtcmgddnckohdaaaGreatDoorTk0
set_option maxRecDepth 100000
set_option maxHeartbeats 12800000
namespace Go.Proofs.YtcmgddnckohdaaaGreatDoor.Dr
open Go.RowKit
attribute [local go_sem] Later.cell Later.frozen
set_option linter.unusedSimpArgs false
set_option linter.unusedVariables false
structure LB (w wr:World) (R px:Nat) (vk vp x y z:Value) (ks ps:List dx) (es:List dU):Prop where
 rd:Rd wr R px
 gr:w.grownBy wr (some R)
 pb:wr.heap[w.heap.size]?=some (.cells #[vk,vp] 27 (0,0))
 rs:wr.heap[w.heap.size+1]?=some (.cells #[.slice none 0 0,.slice none 0 0,.slice none 0 0] 30 (0,0))
 bx:wr.heap[w.heap.size+2]?=some (.cells #[x,y,z] 30 (0,0))
 bk:(x=vk∧y=vp∧z=.slice none 0 0∧es=[])∨df (w.heap.size+3) wr x y z ks ps es
 ok:dJ ks ps es=true
 sm:vX (ks,ps,es)
theorem LB.pick {w wr wx:World} {R px qx:Nat} {vk vp x y z:Value} {ks ps:List dx} {es:List dU} (h:LB w wr R px vk vp x y z ks ps es) (hR:R<w.heap.size) (hr:Rd wx R qx) (hg:wr.grownBy wx (some R)):LB w wx R qx vk vp x y z ks ps es :=
 ⟨hr,az h.gr hg,aV hg (by omega) h.pb,aV hg (by omega) h.rs,aV hg (by omega) h.bx,h.bk.imp (fun h=>h) (fun h=>h.far hg (by omega)),h.ok,h.sm⟩
theorem LB.call {w wr wx:World} {R px:Nat} {vk vp x y z:Value} {ks ps:List dx} {es:List dU} (h:LB w wr R px vk vp x y z ks ps es) (hb:Below wr.heap.size wr wx):LB w wx R px vk vp x y z ks ps es :=
 ⟨h.rd.far hb,az h.gr (aH hb _),(hb.block _ (aP h.pb)).trans h.pb,(hb.block _ (aP h.rs)).trans h.rs,(hb.block _ (aP h.bx)).trans h.bx,h.bk.imp (fun h=>h) (fun h=>h.keep hb),h.ok,h.sm⟩
theorem Mg (w:World):je w (.slice none 0 0) []:=⟨none,0,rfl,Nat.le_refl _,Nat.zero_le _,fun i e he=>by simp at he⟩
theorem LB.at {w wr:World} {R px p:Nat} {vk vp x y z:Value} {ks ps:List dx} {es:List dU} (h:LB w wr R px vk vp x y z ks ps es) (hr:Rd w R p) (hk:dA w vk ks) (hp:dA w vp ps):dI wr x y z ks ps es:=by
 rcases h.bk with ⟨rfl,rfl,rfl,rfl⟩ | h1
 ·exact ⟨cu hk hr h.gr,cu hp hr h.gr,Mg _⟩
 ·exact h1.at
theorem LB.put {w W W':World} {R px:Nat} {vk vp x y z x' y' z':Value} {ks ps:List dx} {es es':List dU} (h:LB w W R px vk vp x y z ks ps es) (hR:R<w.heap.size) (hb:Below W.heap.size W W') (hn:df W.heap.size W' x' y' z' ks ps es') (ok:dJ ks ps es'=true) (sm:vX (ks,ps,es')):LB w (W'.setRow (w.heap.size+2) #[x',y',z']) R px vk vp x' y' z' ks ps es':=by
 have h1:=h.call hb;have hX:=aP h.bx;have ho:∀ b,b≠w.heap.size+2→(W'.setRow (w.heap.size+2) #[x',y',z']).heap[b]?=W'.heap[b]?:=fun b hb=>setRow_other _ _ _ _ hb
 have hg:W'.grownBy (W'.setRow (w.heap.size+2) #[x',y',z']) (some (w.heap.size+2)):=⟨rfl,rfl,rfl,by simp,fun j _ hj=>ho j (fun e=>hj (by rw [e]))⟩
 exact ⟨h1.rd.late (fun j hj=>ho j (by omega)),bX h1.gr _ (by omega),(ho _ (by omega)).trans h1.pb,(ho _ (by omega)).trans h1.rs,setRow_heap _ _ _ _ _ _ h1.bx,.inr ((hn.mono (by omega)).far hg (by omega)),ok,sm⟩
theorem LB.KY {w W W':World} {R px:Nat} {vk vp x y z x' y' z':Value} {ks ps:List dx} {es es':List dU} (h:LB w W R px vk vp x y z ks ps es) (hb:Below W.heap.size W W') (hn:df W.heap.size W' x' y' z' ks ps es'):df (w.heap.size+3) (W'.setRow (w.heap.size+2) #[x',y',z']) x' y' z' ks ps es':=by
 have hX:=aP h.bx;have ho:∀ b,b≠w.heap.size+2→(W'.setRow (w.heap.size+2) #[x',y',z']).heap[b]?=W'.heap[b]?:=fun b hb=>setRow_other _ _ _ _ hb
 have hg:W'.grownBy (W'.setRow (w.heap.size+2) #[x',y',z']) (some (w.heap.size+2)):=⟨rfl,rfl,rfl,by simp,fun j _ hj=>ho j (fun e=>hj (by rw [e]))⟩
 exact (hn.mono (by omega)).far hg (by omega)
theorem book_nil {ks ps:List dx} (h:dM ks=true) (k:dH ps=true):dJ ks ps []=true:=by
 unfold dJ
 rw [show (jP []&&fw ([]:List dU).length fun i=>fieldsB ks ps (eZ [] i).name (eZ [] i).fs)=true from rfl,Bool.and_true]
 unfold eF;rw [h,k]
 rfl
theorem sm_nil {ks ps:List dx} (h:dM ks=true) (k:dH ps=true):vX (ks,ps,[]):=by
 have h1:=Ey h;have h2:=uu k
 exact ⟨⟨fun t ht=>Nat.le_trans (h1.2 t ht) (by unfold maxLen;omega),fun t ht=>Nat.le_trans (h2.2 t ht) (by unfold maxLen;omega),fun e he=>by cases he⟩,⟨Nat.le_trans h1.1 (by omega),Nat.le_trans h2.1 (by omega),Nat.zero_le _,(fun e he=>by cases he),(fun e he=>by cases he),fun e he=>by cases he⟩,Nat.zero_le _⟩
theorem LB.slices {w wr:World} {R px p:Nat} {vk vp x y z:Value} {ks ps:List dx} {es:List dU} (h:LB w wr R px vk vp x y z ks ps es) (hr:Rd w R p) (hk:dA w vk ks) (hp:dA w vp ps):∃ a1 c1 a2 c2 a3 c3,x=.slice a1 ks.length c1∧y=.slice a2 ps.length c2∧z=.slice a3 es.length c3:=by
 obtain ⟨⟨a1,c1,h1,-⟩,⟨a2,c2,h2,-⟩,⟨a3,c3,h3,-⟩⟩:=h.at hr hk hp;exact ⟨a1,c1,a2,c2,a3,c3,h1,h2,h3⟩
theorem Be (vk vp ve:Value) (ks ps:List dx) (es:List dU) (f:ByteArray) (wh num:Int) (s:ByteArray) (w:World) (hB:dI w vk vp ve ks ps es) (hok:dJ ks ps es=true) (hs:vX (ks,ps,es)) (hf:f.size≤2000) (hv:s.size≤2000) :
  Calls Tryz.prog 109 #[.agg #[vk,vp,ve],.agg #[.string f,.int .i64 wh,.int .i64 num,.string s]] w fun e w'=>∃ a1 c1 a2 c2 a3 c3 es' u,e=.returned (.tuple #[.agg #[.slice a1 ks.length c1,.slice a2 ps.length c2,.slice a3 (List.length es') c3],.int .i64 u])∧df w.heap.size w' (.slice a1 ks.length c1) (.slice a2 ps.length c2) (.slice a3 es'.length c3) ks ps es'∧dJ ks ps es'=true∧vX (ks,ps,es')∧Below w.heap.size w w':=by
 refine (kH vk vp ve ks ps es ⟨f,wh,num,s⟩ w hB hs.n hs.s (by show f.size≤_;omega) (by show s.size≤_;omega)).mono ?_
 rintro e w' ⟨x,y,z,rfl,hn,hb⟩
 have h1:vX (dB (ks,ps,es) ⟨f,wh,num,s⟩):=hs.step (by show f.size≤_;omega) (by show s.size≤_;omega)
 rw [show dB (ks,ps,es) ⟨f,wh,num,s⟩=(ks,ps,eT ks ps es ⟨f,wh,num,s⟩) by simp only [dB,jX hok]] at h1
 rw [jX hok,jX hok] at hn;obtain ⟨a1,c1,a2,c2,a3,c3,rfl,rfl,rfl⟩:=hn.slices;exact ⟨a1,c1,a2,c2,a3,c3,_,_,rfl,hn,uj _ hok,h1,hb⟩
theorem wO (vk vp ve vl:Value) (ks ps:List dx) (es:List dU) (L:List dP) (w:World) (hB:dI w vk vp ve ks ps es) (hok:dJ ks ps es=true) (hs:vX (ks,ps,es)) (hL:iC w vl L) (hl:L.length≤24) (hc:∀ c∈L,SmC c) :
  Calls Tryz.prog 111 #[.agg #[vk,vp,ve],vl] w fun e w'=>∃ a1 c1 a2 c2 a3 c3 es' a4 n4 c4,e=.returned (.tuple #[.agg #[.slice a1 ks.length c1,.slice a2 ps.length c2,.slice a3 (List.length es') c3],.slice a4 n4 c4])∧df w.heap.size w' (.slice a1 ks.length c1) (.slice a2 ps.length c2) (.slice a3 es'.length c3) ks ps es'∧dJ ks ps es'=true∧vX (ks,ps,es')∧Below w.heap.size w w':=by
 have hc':∀ c∈L,c.f.size≤1048576∧c.v.size≤1048576:=fun c h=>⟨Nat.le_trans (hc c h).1 (by omega),Nat.le_trans (hc c h).2 (by omega)⟩
 refine (vQ vk vp ve vl ks ps es L w hB hL hs hc' (by omega)).mono ?_
 rintro e w' ⟨x,y,z,v,rfl,hn,hi,hb⟩;obtain ⟨es',h1,h2⟩:=Dj L hok;have h3:=hs.steps (L:=L) hc'
 have e1:CF ks ps es L=(ks,ps,es'):=by unfold CF;rw [hok];exact h1
 rw [h1] at h3;rw [e1] at hn;have hn':df w.heap.size w' x y z ks ps es':=hn;obtain ⟨a1,c1,a2,c2,a3,c3,rfl,rfl,rfl⟩:=hn'.slices;obtain ⟨a4,c4,rfl⟩:=bU hi;exact ⟨a1,c1,a2,c2,a3,c3,es',a4,_,c4,rfl,hn',h2,h3,hb⟩
theorem Gw (R p:Nat) (vk vp:Value) (ks ps:List dx) (w:World) (h:Rd w R p) (hp:p≤600000) (hk:dA w vk ks) (hv:dA w vp ps) (kB:dM ks=true) (pB:dH ps=true) (h1:1≤ps.length) :
  Calls Tryz.prog 62 #[.pointer (some ⟨R,0,none⟩),.agg #[vk,vp]] w fun e w'=>∃ (x y z:Value) (es:List dU),e=.returned (.agg #[x,y,z])∧df (w.heap.size+3) w' x y z ks ps es∧dJ ks ps es=true∧vX (ks,ps,es)∧Out w R p 1200 w':=by
 have gM:=h.lt;have jH:=ay h;have Ko:=ay hk;have CR:=ay hv;have hkl:=(Ey kB).1;have hpl:=(uu pB).1;have NP:=ay (uu pB).2;have BN:=ay (book_nil kB pB);have SN:=ay (sm_nil kB pB);obtain ⟨ka,kc,rfl,-,-,-⟩:=hk;obtain ⟨pa,pc,rfl,-,-,-⟩:=hv;have HX0:Hid (iZ w (((w.alloc (.cells #[(.slice ka ks.length kc),(.slice pa ps.length pc)] 27)).alloc (.cells #[.slice none 0 0,.slice none 0 0,.slice none 0 0] 30)).alloc (.cells #[.slice none 0 0,.slice none 0 0,.slice none 0 0] 30)) (.cells #[(.slice ka ks.length kc),(.slice pa ps.length pc)] 27) (.cells #[.slice none 0 0,.slice none 0 0,.slice none 0 0] 30) (.cells #[.slice none 0 0,.slice none 0 0,.slice none 0 0] 30)):=iZ.start w _ _ _
 have HC0:((w.alloc (.cells #[(.slice ka ks.length kc),(.slice pa ps.length pc)] 27)).alloc (.cells #[.slice none 0 0,.slice none 0 0,.slice none 0 0] 30)).heap[w.heap.size]?=some (.cells #[(.slice ka ks.length kc),(.slice pa ps.length pc)] 27 (0,0)):=by
  rw [((aM):Below (w.alloc (.cells #[(.slice ka ks.length kc),(.slice pa ps.length pc)] 27)).heap.size (w.alloc (.cells #[(.slice ka ks.length kc),(.slice pa ps.length pc)] 27)) ((w.alloc (.cells #[(.slice ka ks.length kc),(.slice pa ps.length pc)] 27)).alloc (.cells #[.slice none 0 0,.slice none 0 0,.slice none 0 0] 30))).block _ (by simp)]
  exact aI w _
 have Ch:=HX0.out.b2
 rw [show w.heap.size+1+1=w.heap.size+2 by omega] at Ch
 have L1:Hid (LB w ((((w.alloc (.cells #[(.slice ka ks.length kc),(.slice pa ps.length pc)] 27)).alloc (.cells #[.slice none 0 0,.slice none 0 0,.slice none 0 0] 30)).alloc (.cells #[.slice none 0 0,.slice none 0 0,.slice none 0 0] 30)).setRow (w.heap.size+2) #[(.slice ka ks.length kc),(.slice pa ps.length pc),.slice none 0 0]) R p (.slice ka ks.length kc) (.slice pa ps.length pc) (.slice ka ks.length kc) (.slice pa ps.length pc) (.slice none 0 0) ks ps []):=by
  have ho:∀ b,b≠w.heap.size+2→((((w.alloc (.cells #[(.slice ka ks.length kc),(.slice pa ps.length pc)] 27)).alloc (.cells #[.slice none 0 0,.slice none 0 0,.slice none 0 0] 30)).alloc (.cells #[.slice none 0 0,.slice none 0 0,.slice none 0 0] 30)).setRow (w.heap.size+2) #[(.slice ka ks.length kc),(.slice pa ps.length pc),.slice none 0 0]).heap[b]?=(((w.alloc (.cells #[(.slice ka ks.length kc),(.slice pa ps.length pc)] 27)).alloc (.cells #[.slice none 0 0,.slice none 0 0,.slice none 0 0] 30)).alloc (.cells #[.slice none 0 0,.slice none 0 0,.slice none 0 0] 30)).heap[b]?:=fun b hb=>setRow_other _ _ _ _ hb
  exact ⟨(h.far HX0.out.below).late (fun j hj=>ho j (by omega)),bX (aH HX0.out.below _) _ (by omega),(ho _ (by omega)).trans HX0.out.b0,(ho _ (by omega)).trans HX0.out.b1,setRow_heap _ _ _ _ _ _ Ch,.inl ⟨rfl,rfl,rfl,rfl⟩,BN.out,SN.out⟩
 have b0:=an HC0 (i:=0) rfl;have b1:=an HC0 (i:=1) rfl;clear h HC0 HX0 kB pB
 go_enter Tryz.func62,Tryz.ntmps62
 go_wp2_with (refine wpList_store_row rfl 30 _ _ rfl (w.heap.size+2) #[(.slice ka ks.length kc),(.slice pa ps.length pc),.slice none 0 0] rfl rfl 30 _ Ch (by kernel_rfl) rfl (by simp [Value.oneCell']) ?_)
 clear b0 b1 Ch;generalize ((((w.alloc (.cells #[(.slice ka ks.length kc),(.slice pa ps.length pc)] 27)).alloc (.cells #[.slice none 0 0,.slice none 0 0,.slice none 0 0] 30)).alloc (.cells #[.slice none 0 0,.slice none 0 0,.slice none 0 0] 30)).setRow (w.heap.size+2) #[(.slice ka ks.length kc),(.slice pa ps.length pc),.slice none 0 0])=w1 at *
 refine (aL R p 3 _ L1.out.rd (by omega) (by omega)).mono ?_
 rintro e w2 ⟨x,rfl,hx0,hx1,-,hr,hg⟩;have L2:=ay (L1.out.pick gM hr hg);clear hr hg L1 hx1
 by_cases hx:0<x
 ·go_wp2
  go_loopw [6] (fun i wr=>∃ k:Nat,1≤k∧k≤5∧i=.int .i64 k∧Hid (∃ x y z es px,LB w wr R px (.slice ka ks.length kc) (.slice pa ps.length pc) x y z ks ps es∧p≤px∧px≤p+1+20*k)) (fun i _=>5-(intOf i).toNat)
  case atStart=>exact ⟨1,by omega,by omega,rfl,_,_,_,_,_,L2.out,by omega,by omega⟩
  case round =>
   obtain ⟨k,hk1,hk5,rfl,HI⟩:=hrel;obtain ⟨x,y,z,es,px,hl,hpx1,hpx2⟩:=HI.out;have LR:=ay hl;clear HI hl L2
   by_cases hk:k≤4
   ·have hkd:(k:Int)≤4:=by omega
    obtain ⟨a1,c1,a2,c2,a3,c3,hs1,hs2,hs3⟩:=LR.out.slices jH.out Ko.out CR.out;subst hs1;subst hs2;subst hs3;have dK:Hid (∀ (wx:World) (q:Nat),LB w wx R q (.slice ka ks.length kc) (.slice pa ps.length pc) (.slice a1 ks.length c1) (.slice a2 ps.length c2) (.slice a3 (List.length es) c3) ks ps es→((wx.cell? ⟨w.heap.size+2,0,none⟩=some (.slice a1 ks.length c1)∧wx.cell? ⟨w.heap.size+2,1,none⟩=some (.slice a2 ps.length c2)∧wx.cell? ⟨w.heap.size+2,2,none⟩=some (.slice a3 es.length c3))∧wx.cell? ⟨w.heap.size,0,none⟩=some (.slice ka ks.length kc)∧wx.cell? ⟨w.heap.size,1,none⟩=some (.slice pa ps.length pc))):=fun wx q h=>⟨⟨an h.bx rfl,an h.bx rfl,an h.bx rfl⟩,an h.pb rfl,an h.pb rfl⟩;go_wp2;refine wp_region_noPanic ?_
    refine cB (S:=fun wx=>((wx.cell? ⟨w.heap.size+2,0,none⟩=some (.slice a1 ks.length c1)∧wx.cell? ⟨w.heap.size+2,1,none⟩=some (.slice a2 ps.length c2)∧wx.cell? ⟨w.heap.size+2,2,none⟩=some (.slice a3 es.length c3))∧wx.cell? ⟨w.heap.size,0,none⟩=some (.slice ka ks.length kc)∧wx.cell? ⟨w.heap.size,1,none⟩=some (.slice pa ps.length pc))) 11 (by kernel_rfl) ?_ (fun hHeld=>?_)
    ·exact dK.out _ _ (LR.out.call (Below.refl _ _).drew)
    have L0:=ay (LR.out.call (Below.refl _ _).drew);generalize wr.drew=W0 at *;clear LR;refine rD 0 ?_ rfl ?_ (rD 1 ?_ rfl ?_ (rD 2 ?_ rfl ?_ (rD 3 ?_ rfl ?_ (rD 4 ?_ rfl ?_ ?_))))
    iterate 5 (rotate_left;focus (intro w hSw;(try dsimp only at hSw);simp only [Act.put,aU];go_simp;try with_reducible rfl))
    simp only [Act.put,aU]
    clear hHeld;refine Gh 5 rfl (fun K hK=>?_);go_simp
    refine (lQ R px _ _ ps k _ L0.out.rd (by omega) (cu CR.out jH.out L0.out.gr) ⟨h1,by omega⟩ (fun t ht=>by have:=NP.out t ht;omega)).mono ?_
    rintro e W1 ⟨s,rfl,hs,p1,hp11,hp12,hr1,hg1⟩;have L1:=ay (L0.out.pick gM hr1 hg1);have hHeld:=dK.out _ _ L1.out;refine hK.out _ _ (.inr (.inr hHeld)) ?_;clear hK K hr1 hg1 L0;refine rD 6 ?_ rfl ?_ ?_;rotate_left
    ·intro w hSw;(try dsimp only at hSw);go_simp;try with_reducible rfl
    simp only [Act.put,aU]
    clear hHeld;refine Gh 7 rfl (fun K hK=>?_);go_simp
    refine (Be _ _ _ ks ps es ⟨#[107,108,49]⟩ k 1 s _ (L1.out.at jH.out Ko.out CR.out) L1.out.ok L1.out.sm (by show 3≤2000;omega) hs).mono ?_
    rintro e W2 ⟨b1,d1,b2,d2,b3,d3,es2,u9,rfl,Ce,sH,sF,oL⟩;have L7:=ay (L1.out.put gM oL Ce sH sF);have N7:=ay (L1.out.KY oL Ce);have sJ:=(L1.out.call oL).bx;have hHeld:=dK.out _ _ (L1.out.call oL);refine hK.out _ _ (.inr (.inr hHeld)) ?_;clear hK K;refine rD 8 ?_ rfl ?_ (rD 9 ?_ rfl ?_ (tkP 10 ?_ rfl ?_ ?_))
    iterate 3 (rotate_left;focus (intro w hSw;(try dsimp only at hSw);simp only [Act.put,aU];go_simp;try with_reducible rfl))
    simp only [Act.put,aU]
    clear hHeld;refine Gh 11 rfl (fun K hK=>?_)
    refine aF rfl 30 _ _ rfl (w.heap.size+2) #[.slice b1 ks.length d1,.slice b2 ps.length d2,.slice b3 es2.length d3] rfl rfl 30 _ sJ (by kernel_rfl) rfl (by simp [Value.oneCell']) ?_
    refine hK.out _ _ (.inl rfl) ?_;clear hK K
    refine kW (by kernel_rfl) ?_ _
    refine NoPanic.normal ?_;generalize (W2.setRow (w.heap.size+2) #[.slice b1 ks.length d1,.slice b2 ps.length d2,.slice b3 es2.length d3])=W8 at *;clear sJ oL Ce sH sF L1
    have FL:Hid (∃ x y z es px,LB w W8 R px (.slice ka ks.length kc) (.slice pa ps.length pc) x y z ks ps es∧p≤px∧px≤p+1+20*(k+1)):=⟨_,_,_,_,_,L7.out,by omega,by omega⟩
    go_wp2
    exact ⟨⟨k+1,by omega,by omega,by go_num,FL⟩,by simp [intOf];omega⟩
   ·have hkd:¬ (k:Int)≤4:=by omega
    obtain ⟨a1,c1,a2,c2,a3,c3,hs1,hs2,hs3⟩:=LR.out.slices jH.out Ko.out CR.out;subst hs1;subst hs2;subst hs3;have dK:Hid (∀ (wx:World) (q:Nat),LB w wx R q (.slice ka ks.length kc) (.slice pa ps.length pc) (.slice a1 ks.length c1) (.slice a2 ps.length c2) (.slice a3 (List.length es) c3) ks ps es→((wx.cell? ⟨w.heap.size+2,0,none⟩=some (.slice a1 ks.length c1)∧wx.cell? ⟨w.heap.size+2,1,none⟩=some (.slice a2 ps.length c2)∧wx.cell? ⟨w.heap.size+2,2,none⟩=some (.slice a3 es.length c3))∧wx.cell? ⟨w.heap.size,0,none⟩=some (.slice ka ks.length kc)∧wx.cell? ⟨w.heap.size,1,none⟩=some (.slice pa ps.length pc))):=fun wx q h=>⟨⟨an h.bx rfl,an h.bx rfl,an h.bx rfl⟩,an h.pb rfl,an h.pb rfl⟩;go_wp2;refine wp_region_noPanic ?_
    refine cB (S:=fun wx=>((wx.cell? ⟨w.heap.size+2,0,none⟩=some (.slice a1 ks.length c1)∧wx.cell? ⟨w.heap.size+2,1,none⟩=some (.slice a2 ps.length c2)∧wx.cell? ⟨w.heap.size+2,2,none⟩=some (.slice a3 es.length c3))∧wx.cell? ⟨w.heap.size,0,none⟩=some (.slice ka ks.length kc)∧wx.cell? ⟨w.heap.size,1,none⟩=some (.slice pa ps.length pc))) 8 (by kernel_rfl) ?_ (fun hHeld=>?_)
    ·exact dK.out _ _ (LR.out.call (Below.refl _ _).drew)
    have L0:=ay (LR.out.call (Below.refl _ _).drew);generalize wr.drew=W0 at *;clear LR;refine rD 0 ?_ rfl ?_ (rD 1 ?_ rfl ?_ (rD 2 ?_ rfl ?_ ?_))
    iterate 3 (rotate_left;focus (intro w hSw;(try dsimp only at hSw);simp only [Act.put,aU];go_simp;try with_reducible rfl))
    simp only [Act.put,aU]
    clear hHeld;refine Gh 3 rfl (fun K hK=>?_);go_simp
    refine (qw R _ _ _ ps 24 _ L0.out.rd (by omega) (by omega) (cu CR.out jH.out L0.out.gr) ⟨h1,by omega⟩ (fun t ht=>by have:=NP.out t ht;omega)).mono ?_
    rintro e W1 ⟨v,l,rfl,hcn,hcl,hcs,p1,hp11,hp12,hr1,hg1⟩;have L1:=ay (L0.out.pick gM hr1 hg1);have HCN:Hid (iC W1 v l∧l.length≤24∧∀ c∈l,SmC c):=⟨hcn.at,hcl,hcs⟩;refine hK.out _ _ (.inr (.inr (dK.out _ _ L1.out))) ?_;clear hK K hcn hcl hcs hr1 hg1 L0;refine Gh 4 rfl (fun K hK=>?_);go_simp;refine (wO _ _ _ v ks ps es l _ (L1.out.at jH.out Ko.out CR.out) L1.out.ok L1.out.sm HCN.out.1 HCN.out.2.1 HCN.out.2.2).mono ?_;rintro e W2 ⟨b1,d1,b2,d2,b3,d3,es2,b4,n4,d4,rfl,Ce,sH,sF,oL⟩;have L7:=ay (L1.out.put gM oL Ce sH sF);have N7:=ay (L1.out.KY oL Ce);have sJ:=(L1.out.call oL).bx;have hHeld:=dK.out _ _ (L1.out.call oL);refine hK.out _ _ (.inr (.inr hHeld)) ?_;clear hK K;refine rD 5 ?_ rfl ?_ (rD 6 ?_ rfl ?_ (tkP 7 ?_ rfl ?_ ?_))
    iterate 3 (rotate_left;focus (intro w hSw;(try dsimp only at hSw);simp only [Act.put,aU];go_simp;try with_reducible rfl))
    simp only [Act.put,aU]
    clear hHeld;refine Gh 8 rfl (fun K hK=>?_)
    refine aF rfl 30 _ _ rfl (w.heap.size+2) #[.slice b1 ks.length d1,.slice b2 ps.length d2,.slice b3 es2.length d3] rfl rfl 30 _ sJ (by kernel_rfl) rfl (by simp [Value.oneCell']) ?_
    refine hK.out _ _ (.inl rfl) ?_;clear hK K
    refine kW (by kernel_rfl) ?_ _
    refine NoPanic.normal ?_;generalize (W2.setRow (w.heap.size+2) #[.slice b1 ks.length d1,.slice b2 ps.length d2,.slice b3 es2.length d3])=W8 at *;clear sJ oL Ce sH sF L1;clear dK HCN;obtain ⟨Q1,hQ1⟩:∃ q,p1=q:=⟨_,rfl⟩;go_wp2_with fail
    refine (aL R p1 16 _ L7.out.rd (by omega) (by omega)).mono ?_
    rintro e w9 ⟨y,rfl,hy0,hy1,-,hr9,hg9⟩;have L9:=ay (L7.out.pick gM hr9 hg9)
    have N9:=ay (N7.out.far hg9 (by omega))
    clear hr9 hg9 L7 N7 hy1
    by_cases hy:y=0
    ·have hyb:(y==0)=true:=by simp [hy]
     clear hy;go_wp2
     go_loopw [7] (fun i wr=>∃ k:Nat,k≤12∧i=.int .i64 k∧Hid (∃ x y z es,LB w wr R (p1+1) (.slice ka ks.length kc) (.slice pa ps.length pc) x y z ks ps es∧df (w.heap.size+3) wr x y z ks ps es)) (fun i _=>12-(intOf i).toNat)
     case atStart=>exact ⟨0,Nat.zero_le _,rfl,_,_,_,_,L9.out,N9.out⟩
     case round =>
      obtain ⟨k,hk12,rfl,HI⟩:=hrel;obtain ⟨x,y,z,es,hl,hn⟩:=HI.out;have LR:=ay hl;have NR:=ay hn;clear HI hl hn L9 N9
      by_cases hk:k<12
      ·have hkd:(k:Int)<12:=by omega
       have hds:=aR k (by omega)
       have hdn:¬ 9223372036854775807<1+(dW k).size:=by omega
       have hfs:(⟨#[102]⟩++dW k:ByteArray).size≤2000:=by simp only [ByteArray.size_append];show 1+_≤2000;omega
       obtain ⟨a1,c1,a2,c2,a3,c3,hs1,hs2,hs3⟩:=LR.out.slices jH.out Ko.out CR.out;subst hs1;subst hs2;subst hs3;have dK:Hid (∀ (wx:World) (q:Nat),LB w wx R q (.slice ka ks.length kc) (.slice pa ps.length pc) (.slice a1 ks.length c1) (.slice a2 ps.length c2) (.slice a3 (List.length es) c3) ks ps es→((wx.cell? ⟨w.heap.size+2,0,none⟩=some (.slice a1 ks.length c1)∧wx.cell? ⟨w.heap.size+2,1,none⟩=some (.slice a2 ps.length c2)∧wx.cell? ⟨w.heap.size+2,2,none⟩=some (.slice a3 es.length c3))∧wx.cell? ⟨w.heap.size,0,none⟩=some (.slice ka ks.length kc)∧wx.cell? ⟨w.heap.size,1,none⟩=some (.slice pa ps.length pc))):=fun wx q h=>⟨⟨an h.bx rfl,an h.bx rfl,an h.bx rfl⟩,an h.pb rfl,an h.pb rfl⟩;go_wp2;refine wp_region_noPanic ?_
       refine cB (S:=fun wx=>((wx.cell? ⟨w.heap.size+2,0,none⟩=some (.slice a1 ks.length c1)∧wx.cell? ⟨w.heap.size+2,1,none⟩=some (.slice a2 ps.length c2)∧wx.cell? ⟨w.heap.size+2,2,none⟩=some (.slice a3 es.length c3))∧wx.cell? ⟨w.heap.size,0,none⟩=some (.slice ka ks.length kc)∧wx.cell? ⟨w.heap.size,1,none⟩=some (.slice pa ps.length pc))) 9 (by kernel_rfl) ?_ (fun hHeld=>?_)
       ·exact dK.out _ _ (LR.out.call (Below.refl _ _).drew)
       have L0:=ay (LR.out.call (Below.refl _ _).drew);generalize wr.drew=W0 at *;clear LR;refine rD 0 ?_ rfl ?_ (rD 1 ?_ rfl ?_ ?_)
       iterate 2 (rotate_left;focus (intro w hSw;(try dsimp only at hSw);simp only [Act.put,aU];go_simp;try with_reducible rfl))
       simp only [Act.put,aU]
       clear hHeld;refine Gh 2 rfl (fun K hK=>?_);go_simp
       refine (bv k (by omega) _).mono ?_
       rintro e W1 ⟨rfl,hb1⟩;have L1:=ay (L0.out.call hb1);have hHeld:=dK.out _ _ L1.out;refine hK.out _ _ (.inr (.inr hHeld)) ?_;clear hK K hb1 L0 NR;refine rD 3 ?_ rfl ?_ ?_;rotate_left
       ·intro w hSw;(try dsimp only at hSw);go_simp;try with_reducible rfl
       simp only [Act.put,aU]
       generalize (⟨#[102]⟩++dW k:ByteArray)=nm at *;refine rD 4 ?_ rfl ?_ ?_;rotate_left
       ·intro w hSw;(try dsimp only at hSw);go_simp;try with_reducible rfl
       simp only [Act.put,aU]
       clear hHeld hds hdn;refine Gh 5 rfl (fun K hK=>?_);go_simp
       refine (Be _ _ _ ks ps es nm 3 5 ⟨#[50]⟩ _ (L1.out.at jH.out Ko.out CR.out) L1.out.ok L1.out.sm hfs (by show 1≤2000;omega)).mono ?_
       rintro e W2 ⟨b1,d1,b2,d2,b3,d3,es2,u9,rfl,Ce,sH,sF,oL⟩;have L7:=ay (L1.out.put gM oL Ce sH sF);have N7:=ay (L1.out.KY oL Ce);have sJ:=(L1.out.call oL).bx;have hHeld:=dK.out _ _ (L1.out.call oL);refine hK.out _ _ (.inr (.inr hHeld)) ?_;clear hK K;refine rD 6 ?_ rfl ?_ (rD 7 ?_ rfl ?_ (tkP 8 ?_ rfl ?_ ?_))
       iterate 3 (rotate_left;focus (intro w hSw;(try dsimp only at hSw);simp only [Act.put,aU];go_simp;try with_reducible rfl))
       simp only [Act.put,aU]
       clear hHeld;refine Gh 9 rfl (fun K hK=>?_)
       refine aF rfl 30 _ _ rfl (w.heap.size+2) #[.slice b1 ks.length d1,.slice b2 ps.length d2,.slice b3 es2.length d3] rfl rfl 30 _ sJ (by kernel_rfl) rfl (by simp [Value.oneCell']) ?_
       refine hK.out _ _ (.inl rfl) ?_;clear hK K
       refine kW (by kernel_rfl) ?_ _
       refine NoPanic.normal ?_;generalize (W2.setRow (w.heap.size+2) #[.slice b1 ks.length d1,.slice b2 ps.length d2,.slice b3 es2.length d3])=W8 at *;clear sJ oL Ce sH sF L1;have FL:Hid (∃ x y z es,LB w W8 R (p1+1) (.slice ka ks.length kc) (.slice pa ps.length pc) x y z ks ps es∧df (w.heap.size+3) W8 x y z ks ps es):=⟨_,_,_,_,L7.out,N7.out⟩;go_wp2
       exact ⟨⟨k+1,by omega,by go_num,FL⟩,by simp [intOf];omega⟩
      ·have hkd:¬ (k:Int)<12:=by omega
       obtain ⟨a1,c1,a2,c2,a3,c3,hs1,hs2,hs3⟩:=LR.out.slices jH.out Ko.out CR.out;subst hs1;subst hs2;subst hs3;have dK:Hid (∀ (wx:World) (q:Nat),LB w wx R q (.slice ka ks.length kc) (.slice pa ps.length pc) (.slice a1 ks.length c1) (.slice a2 ps.length c2) (.slice a3 (List.length es) c3) ks ps es→((wx.cell? ⟨w.heap.size+2,0,none⟩=some (.slice a1 ks.length c1)∧wx.cell? ⟨w.heap.size+2,1,none⟩=some (.slice a2 ps.length c2)∧wx.cell? ⟨w.heap.size+2,2,none⟩=some (.slice a3 es.length c3))∧wx.cell? ⟨w.heap.size,0,none⟩=some (.slice ka ks.length kc)∧wx.cell? ⟨w.heap.size,1,none⟩=some (.slice pa ps.length pc))):=fun wx q h=>⟨⟨an h.bx rfl,an h.bx rfl,an h.bx rfl⟩,an h.pb rfl,an h.pb rfl⟩;have q0:wr.cell? ⟨w.heap.size+1+1,0,none⟩=some (.slice a1 ks.length c1):=an LR.out.bx (i:=0) rfl;have q1:wr.cell? ⟨w.heap.size+1+1,1,none⟩=some (.slice a2 ps.length c2):=an LR.out.bx (i:=1) rfl;have q2:wr.cell? ⟨w.heap.size+1+1,2,none⟩=some (.slice a3 es.length c3):=an LR.out.bx (i:=2) rfl;have Ch:=LR.out.rs
       have qF:Hid (df (w.heap.size+3) (wr.setRow (w.heap.size+1) #[.slice a1 ks.length c1,.slice a2 ps.length c2,.slice a3 es.length c3]) (.slice a1 ks.length c1) (.slice a2 ps.length c2) (.slice a3 es.length c3) ks ps es∧dJ ks ps es=true∧vX (ks,ps,es)∧Out w R p 1200 (wr.setRow (w.heap.size+1) #[.slice a1 ks.length c1,.slice a2 ps.length c2,.slice a3 es.length c3])):=by
        have ho:∀ b,b≠w.heap.size+1→(wr.setRow (w.heap.size+1) #[.slice a1 ks.length c1,.slice a2 ps.length c2,.slice a3 es.length c3]).heap[b]?=wr.heap[b]?:=fun b hb=>setRow_other _ _ _ _ hb
        have hg:wr.grownBy (wr.setRow (w.heap.size+1) #[.slice a1 ks.length c1,.slice a2 ps.length c2,.slice a3 es.length c3]) (some (w.heap.size+1)):=⟨rfl,rfl,rfl,by simp,fun j _ hj=>ho j (fun e=>hj (by rw [e]))⟩
        exact ⟨NR.out.far hg (by omega),LR.out.ok,LR.out.sm,_,by omega,by omega,LR.out.rd.late (fun j hj=>ho j (by omega)),bX LR.out.gr _ (by omega)⟩
       go_wp2_with (refine wpList_store_row rfl 30 _ _ rfl (w.heap.size+1) #[.slice a1 ks.length c1,.slice a2 ps.length c2,.slice a3 es.length c3] rfl rfl 30 _ Ch (by kernel_rfl) rfl (by simp [Value.oneCell']) ?_)
       exact bodyPost_ret (v:=.agg #[.slice a1 ks.length c1,.slice a2 ps.length c2,.slice a3 es.length c3]) (by simp [results,Tryz.results62,go_sem,cell_setRow_same _ _ _ _ _ _ _ Ch]) rfl (by first | exact ⟨_,_,_,es,rfl,qF.out⟩ | exact ⟨_,_,_,rfl,es,qF.out⟩)
    ·have hyb:(y==0)=false:=by simp [hy]
     clear hy;have q0:w9.cell? ⟨w.heap.size+1+1,0,none⟩=some (.slice b1 ks.length d1):=an L9.out.bx (i:=0) rfl;have q1:w9.cell? ⟨w.heap.size+1+1,1,none⟩=some (.slice b2 ps.length d2):=an L9.out.bx (i:=1) rfl;have q2:w9.cell? ⟨w.heap.size+1+1,2,none⟩=some (.slice b3 es2.length d3):=an L9.out.bx (i:=2) rfl;have Ch:=L9.out.rs
     have qF:Hid (df (w.heap.size+3) (w9.setRow (w.heap.size+1) #[.slice b1 ks.length d1,.slice b2 ps.length d2,.slice b3 es2.length d3]) (.slice b1 ks.length d1) (.slice b2 ps.length d2) (.slice b3 es2.length d3) ks ps es2∧dJ ks ps es2=true∧vX (ks,ps,es2)∧Out w R p 1200 (w9.setRow (w.heap.size+1) #[.slice b1 ks.length d1,.slice b2 ps.length d2,.slice b3 es2.length d3])):=by
      have ho:∀ b,b≠w.heap.size+1→(w9.setRow (w.heap.size+1) #[.slice b1 ks.length d1,.slice b2 ps.length d2,.slice b3 es2.length d3]).heap[b]?=w9.heap[b]?:=fun b hb=>setRow_other _ _ _ _ hb
      have hg:w9.grownBy (w9.setRow (w.heap.size+1) #[.slice b1 ks.length d1,.slice b2 ps.length d2,.slice b3 es2.length d3]) (some (w.heap.size+1)):=⟨rfl,rfl,rfl,by simp,fun j _ hj=>ho j (fun e=>hj (by rw [e]))⟩
      exact ⟨N9.out.far hg (by omega),L9.out.ok,L9.out.sm,_,by omega,by omega,L9.out.rd.late (fun j hj=>ho j (by omega)),bX L9.out.gr _ (by omega)⟩
     go_wp2_with (refine wpList_store_row rfl 30 _ _ rfl (w.heap.size+1) #[.slice b1 ks.length d1,.slice b2 ps.length d2,.slice b3 es2.length d3] rfl rfl 30 _ Ch (by kernel_rfl) rfl (by simp [Value.oneCell']) ?_)
     exact bodyPost_ret (v:=.agg #[.slice b1 ks.length d1,.slice b2 ps.length d2,.slice b3 es2.length d3]) (by simp [results,Tryz.results62,go_sem,cell_setRow_same _ _ _ _ _ _ _ Ch]) rfl (by first | exact ⟨_,_,_,es2,rfl,qF.out⟩ | exact ⟨_,_,_,rfl,es2,qF.out⟩)
 ·obtain ⟨X0,Y0,Z0,es,LR⟩:∃ x y z es,Hid (LB w w2 R (p+1) (.slice ka ks.length kc) (.slice pa ps.length pc) x y z ks ps es):=⟨_,_,_,_,L2⟩
  clear L2;obtain ⟨a1,c1,a2,c2,a3,c3,hs1,hs2,hs3⟩:=LR.out.slices jH.out Ko.out CR.out;subst hs1;subst hs2;subst hs3;have dK:Hid (∀ (wx:World) (q:Nat),LB w wx R q (.slice ka ks.length kc) (.slice pa ps.length pc) (.slice a1 ks.length c1) (.slice a2 ps.length c2) (.slice a3 (List.length es) c3) ks ps es→((wx.cell? ⟨w.heap.size+2,0,none⟩=some (.slice a1 ks.length c1)∧wx.cell? ⟨w.heap.size+2,1,none⟩=some (.slice a2 ps.length c2)∧wx.cell? ⟨w.heap.size+2,2,none⟩=some (.slice a3 es.length c3))∧wx.cell? ⟨w.heap.size,0,none⟩=some (.slice ka ks.length kc)∧wx.cell? ⟨w.heap.size,1,none⟩=some (.slice pa ps.length pc))):=fun wx q h=>⟨⟨an h.bx rfl,an h.bx rfl,an h.bx rfl⟩,an h.pb rfl,an h.pb rfl⟩;go_wp2;refine wp_region_noPanic ?_
  refine cB (S:=fun wx=>((wx.cell? ⟨w.heap.size+2,0,none⟩=some (.slice a1 ks.length c1)∧wx.cell? ⟨w.heap.size+2,1,none⟩=some (.slice a2 ps.length c2)∧wx.cell? ⟨w.heap.size+2,2,none⟩=some (.slice a3 es.length c3))∧wx.cell? ⟨w.heap.size,0,none⟩=some (.slice ka ks.length kc)∧wx.cell? ⟨w.heap.size,1,none⟩=some (.slice pa ps.length pc))) 8 (by kernel_rfl) ?_ (fun hHeld=>?_)
  ·exact dK.out _ _ (LR.out.call (Below.refl _ _).drew)
  have L0:=ay (LR.out.call (Below.refl _ _).drew);generalize w2.drew=W0 at *;clear LR;refine rD 0 ?_ rfl ?_ (rD 1 ?_ rfl ?_ (rD 2 ?_ rfl ?_ ?_))
  iterate 3 (rotate_left;focus (intro w hSw;(try dsimp only at hSw);simp only [Act.put,aU];go_simp;try with_reducible rfl))
  simp only [Act.put,aU]
  clear hHeld;refine Gh 3 rfl (fun K hK=>?_);go_simp
  refine (qw R _ _ _ ps 24 _ L0.out.rd (by omega) (by omega) (cu CR.out jH.out L0.out.gr) ⟨h1,by omega⟩ (fun t ht=>by have:=NP.out t ht;omega)).mono ?_
  rintro e W1 ⟨v,l,rfl,hcn,hcl,hcs,p1,hp11,hp12,hr1,hg1⟩;have L1:=ay (L0.out.pick gM hr1 hg1);have HCN:Hid (iC W1 v l∧l.length≤24∧∀ c∈l,SmC c):=⟨hcn.at,hcl,hcs⟩;refine hK.out _ _ (.inr (.inr (dK.out _ _ L1.out))) ?_;clear hK K hcn hcl hcs hr1 hg1 L0;refine Gh 4 rfl (fun K hK=>?_);go_simp;refine (wO _ _ _ v ks ps es l _ (L1.out.at jH.out Ko.out CR.out) L1.out.ok L1.out.sm HCN.out.1 HCN.out.2.1 HCN.out.2.2).mono ?_;rintro e W2 ⟨b1,d1,b2,d2,b3,d3,es2,b4,n4,d4,rfl,Ce,sH,sF,oL⟩;have L7:=ay (L1.out.put gM oL Ce sH sF);have N7:=ay (L1.out.KY oL Ce);have sJ:=(L1.out.call oL).bx;have hHeld:=dK.out _ _ (L1.out.call oL);refine hK.out _ _ (.inr (.inr hHeld)) ?_;clear hK K;refine rD 5 ?_ rfl ?_ (rD 6 ?_ rfl ?_ (tkP 7 ?_ rfl ?_ ?_))
  iterate 3 (rotate_left;focus (intro w hSw;(try dsimp only at hSw);simp only [Act.put,aU];go_simp;try with_reducible rfl))
  simp only [Act.put,aU]
  clear hHeld;refine Gh 8 rfl (fun K hK=>?_)
  refine aF rfl 30 _ _ rfl (w.heap.size+2) #[.slice b1 ks.length d1,.slice b2 ps.length d2,.slice b3 es2.length d3] rfl rfl 30 _ sJ (by kernel_rfl) rfl (by simp [Value.oneCell']) ?_
  refine hK.out _ _ (.inl rfl) ?_;clear hK K
  refine kW (by kernel_rfl) ?_ _
  refine NoPanic.normal ?_;generalize (W2.setRow (w.heap.size+2) #[.slice b1 ks.length d1,.slice b2 ps.length d2,.slice b3 es2.length d3])=W8 at *;clear sJ oL Ce sH sF L1;clear dK HCN;obtain ⟨Q1,hQ1⟩:∃ q,p1=q:=⟨_,rfl⟩;go_wp2_with fail
  refine (aL R p1 16 _ L7.out.rd (by omega) (by omega)).mono ?_
  rintro e w9 ⟨y,rfl,hy0,hy1,-,hr9,hg9⟩;have L9:=ay (L7.out.pick gM hr9 hg9)
  have N9:=ay (N7.out.far hg9 (by omega))
  clear hr9 hg9 L7 N7 hy1
  by_cases hy:y=0
  ·have hyb:(y==0)=true:=by simp [hy]
   clear hy;go_wp2
   go_loopw [7] (fun i wr=>∃ k:Nat,k≤12∧i=.int .i64 k∧Hid (∃ x y z es,LB w wr R (p1+1) (.slice ka ks.length kc) (.slice pa ps.length pc) x y z ks ps es∧df (w.heap.size+3) wr x y z ks ps es)) (fun i _=>12-(intOf i).toNat)
   case atStart=>exact ⟨0,Nat.zero_le _,rfl,_,_,_,_,L9.out,N9.out⟩
   case round =>
    obtain ⟨k,hk12,rfl,HI⟩:=hrel;obtain ⟨x,y,z,es,hl,hn⟩:=HI.out;have LR:=ay hl;have NR:=ay hn;clear HI hl hn L9 N9
    by_cases hk:k<12
    ·have hkd:(k:Int)<12:=by omega
     have hds:=aR k (by omega)
     have hdn:¬ 9223372036854775807<1+(dW k).size:=by omega
     have hfs:(⟨#[102]⟩++dW k:ByteArray).size≤2000:=by simp only [ByteArray.size_append];show 1+_≤2000;omega
     obtain ⟨a1,c1,a2,c2,a3,c3,hs1,hs2,hs3⟩:=LR.out.slices jH.out Ko.out CR.out;subst hs1;subst hs2;subst hs3;have dK:Hid (∀ (wx:World) (q:Nat),LB w wx R q (.slice ka ks.length kc) (.slice pa ps.length pc) (.slice a1 ks.length c1) (.slice a2 ps.length c2) (.slice a3 (List.length es) c3) ks ps es→((wx.cell? ⟨w.heap.size+2,0,none⟩=some (.slice a1 ks.length c1)∧wx.cell? ⟨w.heap.size+2,1,none⟩=some (.slice a2 ps.length c2)∧wx.cell? ⟨w.heap.size+2,2,none⟩=some (.slice a3 es.length c3))∧wx.cell? ⟨w.heap.size,0,none⟩=some (.slice ka ks.length kc)∧wx.cell? ⟨w.heap.size,1,none⟩=some (.slice pa ps.length pc))):=fun wx q h=>⟨⟨an h.bx rfl,an h.bx rfl,an h.bx rfl⟩,an h.pb rfl,an h.pb rfl⟩;go_wp2;refine wp_region_noPanic ?_
     refine cB (S:=fun wx=>((wx.cell? ⟨w.heap.size+2,0,none⟩=some (.slice a1 ks.length c1)∧wx.cell? ⟨w.heap.size+2,1,none⟩=some (.slice a2 ps.length c2)∧wx.cell? ⟨w.heap.size+2,2,none⟩=some (.slice a3 es.length c3))∧wx.cell? ⟨w.heap.size,0,none⟩=some (.slice ka ks.length kc)∧wx.cell? ⟨w.heap.size,1,none⟩=some (.slice pa ps.length pc))) 9 (by kernel_rfl) ?_ (fun hHeld=>?_)
     ·exact dK.out _ _ (LR.out.call (Below.refl _ _).drew)
     have L0:=ay (LR.out.call (Below.refl _ _).drew);generalize wr.drew=W0 at *;clear LR;refine rD 0 ?_ rfl ?_ (rD 1 ?_ rfl ?_ ?_)
     iterate 2 (rotate_left;focus (intro w hSw;(try dsimp only at hSw);simp only [Act.put,aU];go_simp;try with_reducible rfl))
     simp only [Act.put,aU]
     clear hHeld;refine Gh 2 rfl (fun K hK=>?_);go_simp
     refine (bv k (by omega) _).mono ?_
     rintro e W1 ⟨rfl,hb1⟩;have L1:=ay (L0.out.call hb1);have hHeld:=dK.out _ _ L1.out;refine hK.out _ _ (.inr (.inr hHeld)) ?_;clear hK K hb1 L0 NR;refine rD 3 ?_ rfl ?_ ?_;rotate_left
     ·intro w hSw;(try dsimp only at hSw);go_simp;try with_reducible rfl
     simp only [Act.put,aU]
     generalize (⟨#[102]⟩++dW k:ByteArray)=nm at *;refine rD 4 ?_ rfl ?_ ?_;rotate_left
     ·intro w hSw;(try dsimp only at hSw);go_simp;try with_reducible rfl
     simp only [Act.put,aU]
     clear hHeld hds hdn;refine Gh 5 rfl (fun K hK=>?_);go_simp
     refine (Be _ _ _ ks ps es nm 3 5 ⟨#[50]⟩ _ (L1.out.at jH.out Ko.out CR.out) L1.out.ok L1.out.sm hfs (by show 1≤2000;omega)).mono ?_
     rintro e W2 ⟨b1,d1,b2,d2,b3,d3,es2,u9,rfl,Ce,sH,sF,oL⟩;have L7:=ay (L1.out.put gM oL Ce sH sF);have N7:=ay (L1.out.KY oL Ce);have sJ:=(L1.out.call oL).bx;have hHeld:=dK.out _ _ (L1.out.call oL);refine hK.out _ _ (.inr (.inr hHeld)) ?_;clear hK K;refine rD 6 ?_ rfl ?_ (rD 7 ?_ rfl ?_ (tkP 8 ?_ rfl ?_ ?_))
     iterate 3 (rotate_left;focus (intro w hSw;(try dsimp only at hSw);simp only [Act.put,aU];go_simp;try with_reducible rfl))
     simp only [Act.put,aU]
     clear hHeld;refine Gh 9 rfl (fun K hK=>?_)
     refine aF rfl 30 _ _ rfl (w.heap.size+2) #[.slice b1 ks.length d1,.slice b2 ps.length d2,.slice b3 es2.length d3] rfl rfl 30 _ sJ (by kernel_rfl) rfl (by simp [Value.oneCell']) ?_
     refine hK.out _ _ (.inl rfl) ?_;clear hK K
     refine kW (by kernel_rfl) ?_ _
     refine NoPanic.normal ?_;generalize (W2.setRow (w.heap.size+2) #[.slice b1 ks.length d1,.slice b2 ps.length d2,.slice b3 es2.length d3])=W8 at *;clear sJ oL Ce sH sF L1;have FL:Hid (∃ x y z es,LB w W8 R (p1+1) (.slice ka ks.length kc) (.slice pa ps.length pc) x y z ks ps es∧df (w.heap.size+3) W8 x y z ks ps es):=⟨_,_,_,_,L7.out,N7.out⟩;go_wp2
     exact ⟨⟨k+1,by omega,by go_num,FL⟩,by simp [intOf];omega⟩
    ·have hkd:¬ (k:Int)<12:=by omega
     obtain ⟨a1,c1,a2,c2,a3,c3,hs1,hs2,hs3⟩:=LR.out.slices jH.out Ko.out CR.out;subst hs1;subst hs2;subst hs3;have dK:Hid (∀ (wx:World) (q:Nat),LB w wx R q (.slice ka ks.length kc) (.slice pa ps.length pc) (.slice a1 ks.length c1) (.slice a2 ps.length c2) (.slice a3 (List.length es) c3) ks ps es→((wx.cell? ⟨w.heap.size+2,0,none⟩=some (.slice a1 ks.length c1)∧wx.cell? ⟨w.heap.size+2,1,none⟩=some (.slice a2 ps.length c2)∧wx.cell? ⟨w.heap.size+2,2,none⟩=some (.slice a3 es.length c3))∧wx.cell? ⟨w.heap.size,0,none⟩=some (.slice ka ks.length kc)∧wx.cell? ⟨w.heap.size,1,none⟩=some (.slice pa ps.length pc))):=fun wx q h=>⟨⟨an h.bx rfl,an h.bx rfl,an h.bx rfl⟩,an h.pb rfl,an h.pb rfl⟩;have q0:wr.cell? ⟨w.heap.size+1+1,0,none⟩=some (.slice a1 ks.length c1):=an LR.out.bx (i:=0) rfl;have q1:wr.cell? ⟨w.heap.size+1+1,1,none⟩=some (.slice a2 ps.length c2):=an LR.out.bx (i:=1) rfl;have q2:wr.cell? ⟨w.heap.size+1+1,2,none⟩=some (.slice a3 es.length c3):=an LR.out.bx (i:=2) rfl;have Ch:=LR.out.rs
     have qF:Hid (df (w.heap.size+3) (wr.setRow (w.heap.size+1) #[.slice a1 ks.length c1,.slice a2 ps.length c2,.slice a3 es.length c3]) (.slice a1 ks.length c1) (.slice a2 ps.length c2) (.slice a3 es.length c3) ks ps es∧dJ ks ps es=true∧vX (ks,ps,es)∧Out w R p 1200 (wr.setRow (w.heap.size+1) #[.slice a1 ks.length c1,.slice a2 ps.length c2,.slice a3 es.length c3])):=by
      have ho:∀ b,b≠w.heap.size+1→(wr.setRow (w.heap.size+1) #[.slice a1 ks.length c1,.slice a2 ps.length c2,.slice a3 es.length c3]).heap[b]?=wr.heap[b]?:=fun b hb=>setRow_other _ _ _ _ hb
      have hg:wr.grownBy (wr.setRow (w.heap.size+1) #[.slice a1 ks.length c1,.slice a2 ps.length c2,.slice a3 es.length c3]) (some (w.heap.size+1)):=⟨rfl,rfl,rfl,by simp,fun j _ hj=>ho j (fun e=>hj (by rw [e]))⟩
      exact ⟨NR.out.far hg (by omega),LR.out.ok,LR.out.sm,_,by omega,by omega,LR.out.rd.late (fun j hj=>ho j (by omega)),bX LR.out.gr _ (by omega)⟩
     go_wp2_with (refine wpList_store_row rfl 30 _ _ rfl (w.heap.size+1) #[.slice a1 ks.length c1,.slice a2 ps.length c2,.slice a3 es.length c3] rfl rfl 30 _ Ch (by kernel_rfl) rfl (by simp [Value.oneCell']) ?_)
     exact bodyPost_ret (v:=.agg #[.slice a1 ks.length c1,.slice a2 ps.length c2,.slice a3 es.length c3]) (by simp [results,Tryz.results62,go_sem,cell_setRow_same _ _ _ _ _ _ _ Ch]) rfl (by first | exact ⟨_,_,_,es,rfl,qF.out⟩ | exact ⟨_,_,_,rfl,es,qF.out⟩)
  ·have hyb:(y==0)=false:=by simp [hy]
   clear hy;have q0:w9.cell? ⟨w.heap.size+1+1,0,none⟩=some (.slice b1 ks.length d1):=an L9.out.bx (i:=0) rfl;have q1:w9.cell? ⟨w.heap.size+1+1,1,none⟩=some (.slice b2 ps.length d2):=an L9.out.bx (i:=1) rfl;have q2:w9.cell? ⟨w.heap.size+1+1,2,none⟩=some (.slice b3 es2.length d3):=an L9.out.bx (i:=2) rfl;have Ch:=L9.out.rs
   have qF:Hid (df (w.heap.size+3) (w9.setRow (w.heap.size+1) #[.slice b1 ks.length d1,.slice b2 ps.length d2,.slice b3 es2.length d3]) (.slice b1 ks.length d1) (.slice b2 ps.length d2) (.slice b3 es2.length d3) ks ps es2∧dJ ks ps es2=true∧vX (ks,ps,es2)∧Out w R p 1200 (w9.setRow (w.heap.size+1) #[.slice b1 ks.length d1,.slice b2 ps.length d2,.slice b3 es2.length d3])):=by
    have ho:∀ b,b≠w.heap.size+1→(w9.setRow (w.heap.size+1) #[.slice b1 ks.length d1,.slice b2 ps.length d2,.slice b3 es2.length d3]).heap[b]?=w9.heap[b]?:=fun b hb=>setRow_other _ _ _ _ hb
    have hg:w9.grownBy (w9.setRow (w.heap.size+1) #[.slice b1 ks.length d1,.slice b2 ps.length d2,.slice b3 es2.length d3]) (some (w.heap.size+1)):=⟨rfl,rfl,rfl,by simp,fun j _ hj=>ho j (fun e=>hj (by rw [e]))⟩
    exact ⟨N9.out.far hg (by omega),L9.out.ok,L9.out.sm,_,by omega,by omega,L9.out.rd.late (fun j hj=>ho j (by omega)),bX L9.out.gr _ (by omega)⟩
   go_wp2_with (refine wpList_store_row rfl 30 _ _ rfl (w.heap.size+1) #[.slice b1 ks.length d1,.slice b2 ps.length d2,.slice b3 es2.length d3] rfl rfl 30 _ Ch (by kernel_rfl) rfl (by simp [Value.oneCell']) ?_)
   exact bodyPost_ret (v:=.agg #[.slice b1 ks.length d1,.slice b2 ps.length d2,.slice b3 es2.length d3]) (by simp [results,Tryz.results62,go_sem,cell_setRow_same _ _ _ _ _ _ _ Ch]) rfl (by first | exact ⟨_,_,_,es2,rfl,qF.out⟩ | exact ⟨_,_,_,rfl,es2,qF.out⟩)
end Go.Proofs.YtcmgddnckohdaaaGreatDoor.Dr
