import Derived.Test.YtcmgddnckohdaaaGreatDoorAllS
import Derived.Test.YtcmgddnckohdaaaGreatDoorSb1
set_option maxRecDepth 100000
set_option maxHeartbeats 12800000
set_option linter.unusedSimpArgs false
set_option linter.unusedVariables false
namespace Go.Proofs.YtcmgddnckohdaaaGreatDoor.Dr
open Go.RowKit
attribute [local go_sem] Later.cell Later.frozen
structure LB (w wr:World) (R px:Nat) (vk vp x y z:Value) (ks ps:List Tri) (es:List Ent):Prop where
 rd:Rd wr R px
 gr:w.grownBy wr (some R)
 pb:wr.heap[w.heap.size]?=some (.cells #[vk,vp] 27 (0,0))
 rs:wr.heap[w.heap.size+1]?=some (.cells #[.slice none 0 0,.slice none 0 0,.slice none 0 0] 30 (0,0))
 bx:wr.heap[w.heap.size+2]?=some (.cells #[x,y,z] 30 (0,0))
 bk:(x=vk∧y=vp∧z=.slice none 0 0∧es=[])∨BookNew (w.heap.size+3) wr x y z ks ps es
 ok:bookB ks ps es=true
 sm:SmB (ks,ps,es)
theorem LB.pick {w wr wx:World} {R px qx:Nat} {vk vp x y z:Value} {ks ps:List Tri} {es:List Ent} (h:LB w wr R px vk vp x y z ks ps es) (hR:R<w.heap.size) (hr:Rd wx R qx) (hg:wr.grownBy wx (some R)):LB w wx R qx vk vp x y z ks ps es :=
 ⟨hr,av h.gr hg,aL hg (by omega) h.pb,aL hg (by omega) h.rs,aL hg (by omega) h.bx,h.bk.imp (fun h=>h) (fun h=>h.far hg (by omega)),h.ok,h.sm⟩
theorem LB.call {w wr wx:World} {R px:Nat} {vk vp x y z:Value} {ks ps:List Tri} {es:List Ent} (h:LB w wr R px vk vp x y z ks ps es) (hb:Below wr.heap.size wr wx):LB w wx R px vk vp x y z ks ps es :=
 ⟨h.rd.far hb,av h.gr (az hb _),(hb.block _ (aG h.pb)).trans h.pb,(hb.block _ (aG h.rs)).trans h.rs,(hb.block _ (aG h.bx)).trans h.bx,h.bk.imp (fun h=>h) (fun h=>h.keep hb),h.ok,h.sm⟩
theorem ents_nil (w:World):EntsAt w (.slice none 0 0) []:=⟨none,0,rfl,Nat.le_refl _,Nat.zero_le _,fun i e he=>by simp at he⟩
theorem LB.at {w wr:World} {R px p:Nat} {vk vp x y z:Value} {ks ps:List Tri} {es:List Ent} (h:LB w wr R px vk vp x y z ks ps es) (hr:Rd w R p) (hk:TrisAt w vk ks) (hp:TrisAt w vp ps):BookAt wr x y z ks ps es:=by
 rcases h.bk with ⟨rfl,rfl,rfl,rfl⟩ | h1
 ·exact ⟨cj hk hr h.gr,cj hp hr h.gr,ents_nil _⟩
 ·exact h1.at
theorem LB.put {w W W':World} {R px:Nat} {vk vp x y z x' y' z':Value} {ks ps:List Tri} {es es':List Ent} (h:LB w W R px vk vp x y z ks ps es) (hR:R<w.heap.size) (hb:Below W.heap.size W W') (hn:BookNew W.heap.size W' x' y' z' ks ps es') (ok:bookB ks ps es'=true) (sm:SmB (ks,ps,es')):LB w (W'.setRow (w.heap.size+2) #[x',y',z']) R px vk vp x' y' z' ks ps es':=by
 have h1:=h.call hb;have hX:=aG h.bx;have ho:∀ b,b≠w.heap.size+2→(W'.setRow (w.heap.size+2) #[x',y',z']).heap[b]?=W'.heap[b]?:=fun b hb=>setRow_other _ _ _ _ hb
 have hg:W'.grownBy (W'.setRow (w.heap.size+2) #[x',y',z']) (some (w.heap.size+2)):=⟨rfl,rfl,rfl,by simp,fun j _ hj=>ho j (fun e=>hj (by rw [e]))⟩
 exact ⟨h1.rd.late (fun j hj=>ho j (by omega)),aW h1.gr _ (by omega),(ho _ (by omega)).trans h1.pb,(ho _ (by omega)).trans h1.rs,setRow_heap _ _ _ _ _ _ h1.bx,.inr ((hn.mono (by omega)).far hg (by omega)),ok,sm⟩
theorem LB.putN {w W W':World} {R px:Nat} {vk vp x y z x' y' z':Value} {ks ps:List Tri} {es es':List Ent} (h:LB w W R px vk vp x y z ks ps es) (hb:Below W.heap.size W W') (hn:BookNew W.heap.size W' x' y' z' ks ps es'):BookNew (w.heap.size+3) (W'.setRow (w.heap.size+2) #[x',y',z']) x' y' z' ks ps es':=by
 have hX:=aG h.bx;have ho:∀ b,b≠w.heap.size+2→(W'.setRow (w.heap.size+2) #[x',y',z']).heap[b]?=W'.heap[b]?:=fun b hb=>setRow_other _ _ _ _ hb
 have hg:W'.grownBy (W'.setRow (w.heap.size+2) #[x',y',z']) (some (w.heap.size+2)):=⟨rfl,rfl,rfl,by simp,fun j _ hj=>ho j (fun e=>hj (by rw [e]))⟩
 exact (hn.mono (by omega)).far hg (by omega)
theorem book_nil {ks ps:List Tri} (h:kindsB ks=true) (k:pointsB ps=true):bookB ks ps []=true:=by
 unfold bookB
 rw [show (namesE []&&allB ([]:List Ent).length fun i=>fieldsB ks ps (eat [] i).name (eat [] i).fs)=true from rfl,Bool.and_true]
 unfold baseB;rw [h,k]
 rfl
theorem sm_nil {ks ps:List Tri} (h:kindsB ks=true) (k:pointsB ps=true):SmB (ks,ps,[]):=by
 have h1:=kinds_le h;have h2:=points_le k
 exact ⟨⟨fun t ht=>Nat.le_trans (h1.2 t ht) (by unfold maxLen;omega),fun t ht=>Nat.le_trans (h2.2 t ht) (by unfold maxLen;omega),fun e he=>by cases he⟩,⟨Nat.le_trans h1.1 (by omega),Nat.le_trans h2.1 (by omega),Nat.zero_le _,(fun e he=>by cases he),(fun e he=>by cases he),fun e he=>by cases he⟩,Nat.zero_le _⟩
theorem LB.slices {w wr:World} {R px p:Nat} {vk vp x y z:Value} {ks ps:List Tri} {es:List Ent} (h:LB w wr R px vk vp x y z ks ps es) (hr:Rd w R p) (hk:TrisAt w vk ks) (hp:TrisAt w vp ps):∃ a1 c1 a2 c2 a3 c3,x=.slice a1 ks.length c1∧y=.slice a2 ps.length c2∧z=.slice a3 es.length c3:=by
 obtain ⟨⟨a1,c1,h1,-⟩,⟨a2,c2,h2,-⟩,⟨a3,c3,h3,-⟩⟩:=h.at hr hk hp;exact ⟨a1,c1,a2,c2,a3,c3,h1,h2,h3⟩
theorem take_ok (vk vp ve:Value) (ks ps:List Tri) (es:List Ent) (f:ByteArray) (wh num:Int) (s:ByteArray) (w:World) (hB:BookAt w vk vp ve ks ps es) (hok:bookB ks ps es=true) (hs:SmB (ks,ps,es)) (hf:f.size≤2000) (hv:s.size≤2000) :
  Calls Tryz.prog 109 #[.agg #[vk,vp,ve],.agg #[.string f,.int .i64 wh,.int .i64 num,.string s]] w fun e w'=>∃ a1 c1 a2 c2 a3 c3 es' u,e=.returned (.tuple #[.agg #[.slice a1 ks.length c1,.slice a2 ps.length c2,.slice a3 (List.length es') c3],.int .i64 u])∧BookNew w.heap.size w' (.slice a1 ks.length c1) (.slice a2 ps.length c2) (.slice a3 es'.length c3) ks ps es'∧bookB ks ps es'=true∧SmB (ks,ps,es')∧Below w.heap.size w w':=by
 refine (specTake_any vk vp ve ks ps es ⟨f,wh,num,s⟩ w hB hs.n hs.s (by show f.size≤_;omega) (by show s.size≤_;omega)).mono ?_
 rintro e w' ⟨x,y,z,rfl,hn,hb⟩
 have h1:SmB (stepBk (ks,ps,es) ⟨f,wh,num,s⟩):=hs.step (by show f.size≤_;omega) (by show s.size≤_;omega)
 rw [show stepBk (ks,ps,es) ⟨f,wh,num,s⟩=(ks,ps,takeE ks ps es ⟨f,wh,num,s⟩) by simp only [stepBk,takeT_ok hok]] at h1
 rw [takeT_ok hok,takeT_ok hok] at hn;obtain ⟨a1,c1,a2,c2,a3,c3,rfl,rfl,rfl⟩:=hn.slices;exact ⟨a1,c1,a2,c2,a3,c3,_,_,rfl,hn,take_book _ hok,h1,hb⟩
theorem takeAll_ok (vk vp ve vl:Value) (ks ps:List Tri) (es:List Ent) (L:List Chg) (w:World) (hB:BookAt w vk vp ve ks ps es) (hok:bookB ks ps es=true) (hs:SmB (ks,ps,es)) (hL:ChgsAt w vl L) (hl:L.length≤24) (hc:∀ c∈L,SmC c) :
  Calls Tryz.prog 111 #[.agg #[vk,vp,ve],vl] w fun e w'=>∃ a1 c1 a2 c2 a3 c3 es' a4 n4 c4,e=.returned (.tuple #[.agg #[.slice a1 ks.length c1,.slice a2 ps.length c2,.slice a3 (List.length es') c3],.slice a4 n4 c4])∧BookNew w.heap.size w' (.slice a1 ks.length c1) (.slice a2 ps.length c2) (.slice a3 es'.length c3) ks ps es'∧bookB ks ps es'=true∧SmB (ks,ps,es')∧Below w.heap.size w w':=by
 have hc':∀ c∈L,c.f.size≤1048576∧c.v.size≤1048576:=fun c h=>⟨Nat.le_trans (hc c h).1 (by omega),Nat.le_trans (hc c h).2 (by omega)⟩
 refine (specTakeAll_any vk vp ve vl ks ps es L w hB hL hs hc' (by omega)).mono ?_
 rintro e w' ⟨x,y,z,v,rfl,hn,hi,hb⟩;obtain ⟨es',h1,h2⟩:=steps_ok L hok;have h3:=hs.steps (L:=L) hc'
 have e1:allR ks ps es L=(ks,ps,es'):=by unfold allR;rw [hok];exact h1
 rw [h1] at h3;rw [e1] at hn;have hn':BookNew w.heap.size w' x y z ks ps es':=hn;obtain ⟨a1,c1,a2,c2,a3,c3,rfl,rfl,rfl⟩:=hn'.slices;obtain ⟨a4,c4,rfl⟩:=bD hi;exact ⟨a1,c1,a2,c2,a3,c3,es',a4,_,c4,rfl,hn',h2,h3,hb⟩
theorem l3Book_any (R p:Nat) (vk vp:Value) (ks ps:List Tri) (w:World) (h:Rd w R p) (hp:p≤600000) (hk:TrisAt w vk ks) (hv:TrisAt w vp ps) (kB:kindsB ks=true) (pB:pointsB ps=true) (h1:1≤ps.length) :
  Calls Tryz.prog 62 #[.pointer (some ⟨R,0,none⟩),.agg #[vk,vp]] w fun e w'=>∃ (x y z:Value) (es:List Ent),e=.returned (.agg #[x,y,z])∧BookNew (w.heap.size+3) w' x y z ks ps es∧bookB ks ps es=true∧SmB (ks,ps,es)∧Out w R p 1200 w':=by
 have hRlt:=h.lt;have HR0:=am h;have HK0:=am hk;have HP0:=am hv;have hkl:=(kinds_le kB).1;have hpl:=(points_le pB).1;have NP:=am (points_le pB).2;have BN:=am (book_nil kB pB);have SN:=am (sm_nil kB pB);obtain ⟨ka,kc,rfl,-,-,-⟩:=hk;obtain ⟨pa,pc,rfl,-,-,-⟩:=hv;have HX0:Hid (Blk3 w (((w.alloc (.cells #[(.slice ka ks.length kc),(.slice pa ps.length pc)] 27)).alloc (.cells #[.slice none 0 0,.slice none 0 0,.slice none 0 0] 30)).alloc (.cells #[.slice none 0 0,.slice none 0 0,.slice none 0 0] 30)) (.cells #[(.slice ka ks.length kc),(.slice pa ps.length pc)] 27) (.cells #[.slice none 0 0,.slice none 0 0,.slice none 0 0] 30) (.cells #[.slice none 0 0,.slice none 0 0,.slice none 0 0] 30)):=Blk3.start w _ _ _
 have HC0:((w.alloc (.cells #[(.slice ka ks.length kc),(.slice pa ps.length pc)] 27)).alloc (.cells #[.slice none 0 0,.slice none 0 0,.slice none 0 0] 30)).heap[w.heap.size]?=some (.cells #[(.slice ka ks.length kc),(.slice pa ps.length pc)] 27 (0,0)):=by
  rw [((aO):Below (w.alloc (.cells #[(.slice ka ks.length kc),(.slice pa ps.length pc)] 27)).heap.size (w.alloc (.cells #[(.slice ka ks.length kc),(.slice pa ps.length pc)] 27)) ((w.alloc (.cells #[(.slice ka ks.length kc),(.slice pa ps.length pc)] 27)).alloc (.cells #[.slice none 0 0,.slice none 0 0,.slice none 0 0] 30))).block _ (by simp)]
  exact ay w _
 have hR9:=HX0.out.b2
 rw [show w.heap.size+1+1=w.heap.size+2 by omega] at hR9
 have L1:Hid (LB w ((((w.alloc (.cells #[(.slice ka ks.length kc),(.slice pa ps.length pc)] 27)).alloc (.cells #[.slice none 0 0,.slice none 0 0,.slice none 0 0] 30)).alloc (.cells #[.slice none 0 0,.slice none 0 0,.slice none 0 0] 30)).setRow (w.heap.size+2) #[(.slice ka ks.length kc),(.slice pa ps.length pc),.slice none 0 0]) R p (.slice ka ks.length kc) (.slice pa ps.length pc) (.slice ka ks.length kc) (.slice pa ps.length pc) (.slice none 0 0) ks ps []):=by
  have ho:∀ b,b≠w.heap.size+2→((((w.alloc (.cells #[(.slice ka ks.length kc),(.slice pa ps.length pc)] 27)).alloc (.cells #[.slice none 0 0,.slice none 0 0,.slice none 0 0] 30)).alloc (.cells #[.slice none 0 0,.slice none 0 0,.slice none 0 0] 30)).setRow (w.heap.size+2) #[(.slice ka ks.length kc),(.slice pa ps.length pc),.slice none 0 0]).heap[b]?=(((w.alloc (.cells #[(.slice ka ks.length kc),(.slice pa ps.length pc)] 27)).alloc (.cells #[.slice none 0 0,.slice none 0 0,.slice none 0 0] 30)).alloc (.cells #[.slice none 0 0,.slice none 0 0,.slice none 0 0] 30)).heap[b]?:=fun b hb=>setRow_other _ _ _ _ hb
  exact ⟨(h.far HX0.out.below).late (fun j hj=>ho j (by omega)),aW (az HX0.out.below _) _ (by omega),(ho _ (by omega)).trans HX0.out.b0,(ho _ (by omega)).trans HX0.out.b1,setRow_heap _ _ _ _ _ _ hR9,.inl ⟨rfl,rfl,rfl,rfl⟩,BN.out,SN.out⟩
 have b0:=ab HC0 (i:=0) rfl;have b1:=ab HC0 (i:=1) rfl;clear h HC0 HX0 kB pB
 go_enter Tryz.func62,Tryz.ntmps62
 go_wp2_with (refine wpList_store_row rfl 30 _ _ rfl (w.heap.size+2) #[(.slice ka ks.length kc),(.slice pa ps.length pc),.slice none 0 0] rfl rfl 30 _ hR9 (by kernel_rfl) rfl (by simp [Value.oneCell']) ?_)
 clear b0 b1 hR9;generalize ((((w.alloc (.cells #[(.slice ka ks.length kc),(.slice pa ps.length pc)] 27)).alloc (.cells #[.slice none 0 0,.slice none 0 0,.slice none 0 0] 30)).alloc (.cells #[.slice none 0 0,.slice none 0 0,.slice none 0 0] 30)).setRow (w.heap.size+2) #[(.slice ka ks.length kc),(.slice pa ps.length pc),.slice none 0 0])=w1 at *
 refine (aF R p 3 _ L1.out.rd (by omega) (by omega)).mono ?_
 rintro e w2 ⟨x,rfl,hx0,hx1,-,hr,hg⟩;have L2:=am (L1.out.pick hRlt hr hg);clear hr hg L1 hx1
 by_cases hx:0<x
 ·go_wp2
  go_loopw [6] (fun i wr=>∃ k:Nat,1≤k∧k≤5∧i=.int .i64 k∧Hid (∃ x y z es px,LB w wr R px (.slice ka ks.length kc) (.slice pa ps.length pc) x y z ks ps es∧p≤px∧px≤p+1+20*k)) (fun i _=>5-(intOf i).toNat)
  case atStart=>exact ⟨1,by omega,by omega,rfl,_,_,_,_,_,L2.out,by omega,by omega⟩
  case round =>
   obtain ⟨k,hk1,hk5,rfl,HI⟩:=hrel;obtain ⟨x,y,z,es,px,hl,hpx1,hpx2⟩:=HI.out;have LR:=am hl;clear HI hl L2
   by_cases hk:k≤4
   ·have hkd:(k:Int)≤4:=by omega
    obtain ⟨a1,c1,a2,c2,a3,c3,hs1,hs2,hs3⟩:=LR.out.slices HR0.out HK0.out HP0.out;subst hs1;subst hs2;subst hs3;have HSS:Hid (∀ (wx:World) (q:Nat),LB w wx R q (.slice ka ks.length kc) (.slice pa ps.length pc) (.slice a1 ks.length c1) (.slice a2 ps.length c2) (.slice a3 (List.length es) c3) ks ps es→((wx.cell? ⟨w.heap.size+2,0,none⟩=some (.slice a1 ks.length c1)∧wx.cell? ⟨w.heap.size+2,1,none⟩=some (.slice a2 ps.length c2)∧wx.cell? ⟨w.heap.size+2,2,none⟩=some (.slice a3 es.length c3))∧wx.cell? ⟨w.heap.size,0,none⟩=some (.slice ka ks.length kc)∧wx.cell? ⟨w.heap.size,1,none⟩=some (.slice pa ps.length pc))):=fun wx q h=>⟨⟨ab h.bx rfl,ab h.bx rfl,ab h.bx rfl⟩,ab h.pb rfl,ab h.pb rfl⟩;go_wp2;refine wp_region_noPanic ?_
    refine cq (S:=fun wx=>((wx.cell? ⟨w.heap.size+2,0,none⟩=some (.slice a1 ks.length c1)∧wx.cell? ⟨w.heap.size+2,1,none⟩=some (.slice a2 ps.length c2)∧wx.cell? ⟨w.heap.size+2,2,none⟩=some (.slice a3 es.length c3))∧wx.cell? ⟨w.heap.size,0,none⟩=some (.slice ka ks.length kc)∧wx.cell? ⟨w.heap.size,1,none⟩=some (.slice pa ps.length pc))) 11 (by kernel_rfl) ?_ (fun hHeld=>?_)
    ·exact HSS.out _ _ (LR.out.call (Below.refl _ _).drew)
    have L0:=am (LR.out.call (Below.refl _ _).drew);generalize wr.drew=W0 at *;clear LR;refine tkU 0 ?_ rfl ?_ (tkU 1 ?_ rfl ?_ (tkU 2 ?_ rfl ?_ (tkU 3 ?_ rfl ?_ (tkU 4 ?_ rfl ?_ ?_))))
    iterate 5 (rotate_left;focus (intro w hSw;(try dsimp only at hSw);simp only [Act.put,aR];go_simp;try with_reducible rfl))
    simp only [Act.put,aR]
    clear hHeld;refine rdU 5 rfl (fun K hK=>?_);go_simp
    refine (l2Value_any R px _ _ ps k _ L0.out.rd (by omega) (cj HP0.out HR0.out L0.out.gr) ⟨h1,by omega⟩ (fun t ht=>by have:=NP.out t ht;omega)).mono ?_
    rintro e W1 ⟨s,rfl,hs,p1,hp11,hp12,hr1,hg1⟩;have L1:=am (L0.out.pick hRlt hr1 hg1);have hHeld:=HSS.out _ _ L1.out;refine hK.out _ _ (.inr (.inr hHeld)) ?_;clear hK K hr1 hg1 L0;refine tkU 6 ?_ rfl ?_ ?_;rotate_left
    ·intro w hSw;(try dsimp only at hSw);go_simp;try with_reducible rfl
    simp only [Act.put,aR]
    clear hHeld;refine rdU 7 rfl (fun K hK=>?_);go_simp
    refine (take_ok _ _ _ ks ps es ⟨#[107,108,49]⟩ k 1 s _ (L1.out.at HR0.out HK0.out HP0.out) L1.out.ok L1.out.sm (by show 3≤2000;omega) hs).mono ?_
    rintro e W2 ⟨b1,d1,b2,d2,b3,d3,es2,u9,rfl,hn9,hok9,hsm9,hb9⟩;have L7:=am (L1.out.put hRlt hb9 hn9 hok9 hsm9);have N7:=am (L1.out.putN hb9 hn9);have hbx9:=(L1.out.call hb9).bx;have hHeld:=HSS.out _ _ (L1.out.call hb9);refine hK.out _ _ (.inr (.inr hHeld)) ?_;clear hK K;refine tkU 8 ?_ rfl ?_ (tkU 9 ?_ rfl ?_ (tkP 10 ?_ rfl ?_ ?_))
    iterate 3 (rotate_left;focus (intro w hSw;(try dsimp only at hSw);simp only [Act.put,aR];go_simp;try with_reducible rfl))
    simp only [Act.put,aR]
    clear hHeld;refine rdU 11 rfl (fun K hK=>?_)
    refine aQ rfl 30 _ _ rfl (w.heap.size+2) #[.slice b1 ks.length d1,.slice b2 ps.length d2,.slice b3 es2.length d3] rfl rfl 30 _ hbx9 (by kernel_rfl) rfl (by simp [Value.oneCell']) ?_
    refine hK.out _ _ (.inl rfl) ?_;clear hK K
    refine wpTil_done (by kernel_rfl) ?_ _
    refine NoPanic.normal ?_;generalize (W2.setRow (w.heap.size+2) #[.slice b1 ks.length d1,.slice b2 ps.length d2,.slice b3 es2.length d3])=W8 at *;clear hbx9 hb9 hn9 hok9 hsm9 L1
    have HNX:Hid (∃ x y z es px,LB w W8 R px (.slice ka ks.length kc) (.slice pa ps.length pc) x y z ks ps es∧p≤px∧px≤p+1+20*(k+1)):=⟨_,_,_,_,_,L7.out,by omega,by omega⟩
    go_wp2
    exact ⟨⟨k+1,by omega,by omega,by go_num,HNX⟩,by simp [intOf];omega⟩
   ·have hkd:¬ (k:Int)≤4:=by omega
    obtain ⟨a1,c1,a2,c2,a3,c3,hs1,hs2,hs3⟩:=LR.out.slices HR0.out HK0.out HP0.out;subst hs1;subst hs2;subst hs3;have HSS:Hid (∀ (wx:World) (q:Nat),LB w wx R q (.slice ka ks.length kc) (.slice pa ps.length pc) (.slice a1 ks.length c1) (.slice a2 ps.length c2) (.slice a3 (List.length es) c3) ks ps es→((wx.cell? ⟨w.heap.size+2,0,none⟩=some (.slice a1 ks.length c1)∧wx.cell? ⟨w.heap.size+2,1,none⟩=some (.slice a2 ps.length c2)∧wx.cell? ⟨w.heap.size+2,2,none⟩=some (.slice a3 es.length c3))∧wx.cell? ⟨w.heap.size,0,none⟩=some (.slice ka ks.length kc)∧wx.cell? ⟨w.heap.size,1,none⟩=some (.slice pa ps.length pc))):=fun wx q h=>⟨⟨ab h.bx rfl,ab h.bx rfl,ab h.bx rfl⟩,ab h.pb rfl,ab h.pb rfl⟩;go_wp2;refine wp_region_noPanic ?_
    refine cq (S:=fun wx=>((wx.cell? ⟨w.heap.size+2,0,none⟩=some (.slice a1 ks.length c1)∧wx.cell? ⟨w.heap.size+2,1,none⟩=some (.slice a2 ps.length c2)∧wx.cell? ⟨w.heap.size+2,2,none⟩=some (.slice a3 es.length c3))∧wx.cell? ⟨w.heap.size,0,none⟩=some (.slice ka ks.length kc)∧wx.cell? ⟨w.heap.size,1,none⟩=some (.slice pa ps.length pc))) 8 (by kernel_rfl) ?_ (fun hHeld=>?_)
    ·exact HSS.out _ _ (LR.out.call (Below.refl _ _).drew)
    have L0:=am (LR.out.call (Below.refl _ _).drew);generalize wr.drew=W0 at *;clear LR;refine tkU 0 ?_ rfl ?_ (tkU 1 ?_ rfl ?_ (tkU 2 ?_ rfl ?_ ?_))
    iterate 3 (rotate_left;focus (intro w hSw;(try dsimp only at hSw);simp only [Act.put,aR];go_simp;try with_reducible rfl))
    simp only [Act.put,aR]
    clear hHeld;refine rdU 3 rfl (fun K hK=>?_);go_simp
    refine (l3Changes_any R _ _ _ ps 24 _ L0.out.rd (by omega) (by omega) (cj HP0.out HR0.out L0.out.gr) ⟨h1,by omega⟩ (fun t ht=>by have:=NP.out t ht;omega)).mono ?_
    rintro e W1 ⟨v,l,rfl,hcn,hcl,hcs,p1,hp11,hp12,hr1,hg1⟩;have L1:=am (L0.out.pick hRlt hr1 hg1);have HCN:Hid (ChgsAt W1 v l∧l.length≤24∧∀ c∈l,SmC c):=⟨hcn.at,hcl,hcs⟩;refine hK.out _ _ (.inr (.inr (HSS.out _ _ L1.out))) ?_;clear hK K hcn hcl hcs hr1 hg1 L0;refine rdU 4 rfl (fun K hK=>?_);go_simp;refine (takeAll_ok _ _ _ v ks ps es l _ (L1.out.at HR0.out HK0.out HP0.out) L1.out.ok L1.out.sm HCN.out.1 HCN.out.2.1 HCN.out.2.2).mono ?_;rintro e W2 ⟨b1,d1,b2,d2,b3,d3,es2,b4,n4,d4,rfl,hn9,hok9,hsm9,hb9⟩;have L7:=am (L1.out.put hRlt hb9 hn9 hok9 hsm9);have N7:=am (L1.out.putN hb9 hn9);have hbx9:=(L1.out.call hb9).bx;have hHeld:=HSS.out _ _ (L1.out.call hb9);refine hK.out _ _ (.inr (.inr hHeld)) ?_;clear hK K;refine tkU 5 ?_ rfl ?_ (tkU 6 ?_ rfl ?_ (tkP 7 ?_ rfl ?_ ?_))
    iterate 3 (rotate_left;focus (intro w hSw;(try dsimp only at hSw);simp only [Act.put,aR];go_simp;try with_reducible rfl))
    simp only [Act.put,aR]
    clear hHeld;refine rdU 8 rfl (fun K hK=>?_)
    refine aQ rfl 30 _ _ rfl (w.heap.size+2) #[.slice b1 ks.length d1,.slice b2 ps.length d2,.slice b3 es2.length d3] rfl rfl 30 _ hbx9 (by kernel_rfl) rfl (by simp [Value.oneCell']) ?_
    refine hK.out _ _ (.inl rfl) ?_;clear hK K
    refine wpTil_done (by kernel_rfl) ?_ _
    refine NoPanic.normal ?_;generalize (W2.setRow (w.heap.size+2) #[.slice b1 ks.length d1,.slice b2 ps.length d2,.slice b3 es2.length d3])=W8 at *;clear hbx9 hb9 hn9 hok9 hsm9 L1;clear HSS HCN;obtain ⟨Q1,hQ1⟩:∃ q,p1=q:=⟨_,rfl⟩;go_wp2_with fail
    refine (aF R p1 16 _ L7.out.rd (by omega) (by omega)).mono ?_
    rintro e w9 ⟨y,rfl,hy0,hy1,-,hr9,hg9⟩;have L9:=am (L7.out.pick hRlt hr9 hg9)
    have N9:=am (N7.out.far hg9 (by omega))
    clear hr9 hg9 L7 N7 hy1
    by_cases hy:y=0
    ·have hyb:(y==0)=true:=by simp [hy]
     clear hy;go_wp2
     go_loopw [7] (fun i wr=>∃ k:Nat,k≤12∧i=.int .i64 k∧Hid (∃ x y z es,LB w wr R (p1+1) (.slice ka ks.length kc) (.slice pa ps.length pc) x y z ks ps es∧BookNew (w.heap.size+3) wr x y z ks ps es)) (fun i _=>12-(intOf i).toNat)
     case atStart=>exact ⟨0,Nat.zero_le _,rfl,_,_,_,_,L9.out,N9.out⟩
     case round =>
      obtain ⟨k,hk12,rfl,HI⟩:=hrel;obtain ⟨x,y,z,es,hl,hn⟩:=HI.out;have LR:=am hl;have NR:=am hn;clear HI hl hn L9 N9
      by_cases hk:k<12
      ·have hkd:(k:Int)<12:=by omega
       have hds:=aP k (by omega)
       have hdn:¬ 9223372036854775807<1+(decS k).size:=by omega
       have hfs:(⟨#[102]⟩++decS k:ByteArray).size≤2000:=by simp only [ByteArray.size_append];show 1+_≤2000;omega
       obtain ⟨a1,c1,a2,c2,a3,c3,hs1,hs2,hs3⟩:=LR.out.slices HR0.out HK0.out HP0.out;subst hs1;subst hs2;subst hs3;have HSS:Hid (∀ (wx:World) (q:Nat),LB w wx R q (.slice ka ks.length kc) (.slice pa ps.length pc) (.slice a1 ks.length c1) (.slice a2 ps.length c2) (.slice a3 (List.length es) c3) ks ps es→((wx.cell? ⟨w.heap.size+2,0,none⟩=some (.slice a1 ks.length c1)∧wx.cell? ⟨w.heap.size+2,1,none⟩=some (.slice a2 ps.length c2)∧wx.cell? ⟨w.heap.size+2,2,none⟩=some (.slice a3 es.length c3))∧wx.cell? ⟨w.heap.size,0,none⟩=some (.slice ka ks.length kc)∧wx.cell? ⟨w.heap.size,1,none⟩=some (.slice pa ps.length pc))):=fun wx q h=>⟨⟨ab h.bx rfl,ab h.bx rfl,ab h.bx rfl⟩,ab h.pb rfl,ab h.pb rfl⟩;go_wp2;refine wp_region_noPanic ?_
       refine cq (S:=fun wx=>((wx.cell? ⟨w.heap.size+2,0,none⟩=some (.slice a1 ks.length c1)∧wx.cell? ⟨w.heap.size+2,1,none⟩=some (.slice a2 ps.length c2)∧wx.cell? ⟨w.heap.size+2,2,none⟩=some (.slice a3 es.length c3))∧wx.cell? ⟨w.heap.size,0,none⟩=some (.slice ka ks.length kc)∧wx.cell? ⟨w.heap.size,1,none⟩=some (.slice pa ps.length pc))) 9 (by kernel_rfl) ?_ (fun hHeld=>?_)
       ·exact HSS.out _ _ (LR.out.call (Below.refl _ _).drew)
       have L0:=am (LR.out.call (Below.refl _ _).drew);generalize wr.drew=W0 at *;clear LR;refine tkU 0 ?_ rfl ?_ (tkU 1 ?_ rfl ?_ ?_)
       iterate 2 (rotate_left;focus (intro w hSw;(try dsimp only at hSw);simp only [Act.put,aR];go_simp;try with_reducible rfl))
       simp only [Act.put,aR]
       clear hHeld;refine rdU 2 rfl (fun K hK=>?_);go_simp
       refine (bq k (by omega) _).mono ?_
       rintro e W1 ⟨rfl,hb1⟩;have L1:=am (L0.out.call hb1);have hHeld:=HSS.out _ _ L1.out;refine hK.out _ _ (.inr (.inr hHeld)) ?_;clear hK K hb1 L0 NR;refine tkU 3 ?_ rfl ?_ ?_;rotate_left
       ·intro w hSw;(try dsimp only at hSw);go_simp;try with_reducible rfl
       simp only [Act.put,aR]
       generalize (⟨#[102]⟩++decS k:ByteArray)=nm at *;refine tkU 4 ?_ rfl ?_ ?_;rotate_left
       ·intro w hSw;(try dsimp only at hSw);go_simp;try with_reducible rfl
       simp only [Act.put,aR]
       clear hHeld hds hdn;refine rdU 5 rfl (fun K hK=>?_);go_simp
       refine (take_ok _ _ _ ks ps es nm 3 5 ⟨#[50]⟩ _ (L1.out.at HR0.out HK0.out HP0.out) L1.out.ok L1.out.sm hfs (by show 1≤2000;omega)).mono ?_
       rintro e W2 ⟨b1,d1,b2,d2,b3,d3,es2,u9,rfl,hn9,hok9,hsm9,hb9⟩;have L7:=am (L1.out.put hRlt hb9 hn9 hok9 hsm9);have N7:=am (L1.out.putN hb9 hn9);have hbx9:=(L1.out.call hb9).bx;have hHeld:=HSS.out _ _ (L1.out.call hb9);refine hK.out _ _ (.inr (.inr hHeld)) ?_;clear hK K;refine tkU 6 ?_ rfl ?_ (tkU 7 ?_ rfl ?_ (tkP 8 ?_ rfl ?_ ?_))
       iterate 3 (rotate_left;focus (intro w hSw;(try dsimp only at hSw);simp only [Act.put,aR];go_simp;try with_reducible rfl))
       simp only [Act.put,aR]
       clear hHeld;refine rdU 9 rfl (fun K hK=>?_)
       refine aQ rfl 30 _ _ rfl (w.heap.size+2) #[.slice b1 ks.length d1,.slice b2 ps.length d2,.slice b3 es2.length d3] rfl rfl 30 _ hbx9 (by kernel_rfl) rfl (by simp [Value.oneCell']) ?_
       refine hK.out _ _ (.inl rfl) ?_;clear hK K
       refine wpTil_done (by kernel_rfl) ?_ _
       refine NoPanic.normal ?_;generalize (W2.setRow (w.heap.size+2) #[.slice b1 ks.length d1,.slice b2 ps.length d2,.slice b3 es2.length d3])=W8 at *;clear hbx9 hb9 hn9 hok9 hsm9 L1;have HNX:Hid (∃ x y z es,LB w W8 R (p1+1) (.slice ka ks.length kc) (.slice pa ps.length pc) x y z ks ps es∧BookNew (w.heap.size+3) W8 x y z ks ps es):=⟨_,_,_,_,L7.out,N7.out⟩;go_wp2
       exact ⟨⟨k+1,by omega,by go_num,HNX⟩,by simp [intOf];omega⟩
      ·have hkd:¬ (k:Int)<12:=by omega
       obtain ⟨a1,c1,a2,c2,a3,c3,hs1,hs2,hs3⟩:=LR.out.slices HR0.out HK0.out HP0.out;subst hs1;subst hs2;subst hs3;have HSS:Hid (∀ (wx:World) (q:Nat),LB w wx R q (.slice ka ks.length kc) (.slice pa ps.length pc) (.slice a1 ks.length c1) (.slice a2 ps.length c2) (.slice a3 (List.length es) c3) ks ps es→((wx.cell? ⟨w.heap.size+2,0,none⟩=some (.slice a1 ks.length c1)∧wx.cell? ⟨w.heap.size+2,1,none⟩=some (.slice a2 ps.length c2)∧wx.cell? ⟨w.heap.size+2,2,none⟩=some (.slice a3 es.length c3))∧wx.cell? ⟨w.heap.size,0,none⟩=some (.slice ka ks.length kc)∧wx.cell? ⟨w.heap.size,1,none⟩=some (.slice pa ps.length pc))):=fun wx q h=>⟨⟨ab h.bx rfl,ab h.bx rfl,ab h.bx rfl⟩,ab h.pb rfl,ab h.pb rfl⟩;have q0:wr.cell? ⟨w.heap.size+1+1,0,none⟩=some (.slice a1 ks.length c1):=ab LR.out.bx (i:=0) rfl;have q1:wr.cell? ⟨w.heap.size+1+1,1,none⟩=some (.slice a2 ps.length c2):=ab LR.out.bx (i:=1) rfl;have q2:wr.cell? ⟨w.heap.size+1+1,2,none⟩=some (.slice a3 es.length c3):=ab LR.out.bx (i:=2) rfl;have hR9:=LR.out.rs
       have HFI:Hid (BookNew (w.heap.size+3) (wr.setRow (w.heap.size+1) #[.slice a1 ks.length c1,.slice a2 ps.length c2,.slice a3 es.length c3]) (.slice a1 ks.length c1) (.slice a2 ps.length c2) (.slice a3 es.length c3) ks ps es∧bookB ks ps es=true∧SmB (ks,ps,es)∧Out w R p 1200 (wr.setRow (w.heap.size+1) #[.slice a1 ks.length c1,.slice a2 ps.length c2,.slice a3 es.length c3])):=by
        have ho:∀ b,b≠w.heap.size+1→(wr.setRow (w.heap.size+1) #[.slice a1 ks.length c1,.slice a2 ps.length c2,.slice a3 es.length c3]).heap[b]?=wr.heap[b]?:=fun b hb=>setRow_other _ _ _ _ hb
        have hg:wr.grownBy (wr.setRow (w.heap.size+1) #[.slice a1 ks.length c1,.slice a2 ps.length c2,.slice a3 es.length c3]) (some (w.heap.size+1)):=⟨rfl,rfl,rfl,by simp,fun j _ hj=>ho j (fun e=>hj (by rw [e]))⟩
        exact ⟨NR.out.far hg (by omega),LR.out.ok,LR.out.sm,_,by omega,by omega,LR.out.rd.late (fun j hj=>ho j (by omega)),aW LR.out.gr _ (by omega)⟩
       go_wp2_with (refine wpList_store_row rfl 30 _ _ rfl (w.heap.size+1) #[.slice a1 ks.length c1,.slice a2 ps.length c2,.slice a3 es.length c3] rfl rfl 30 _ hR9 (by kernel_rfl) rfl (by simp [Value.oneCell']) ?_)
       exact bodyPost_ret (v:=.agg #[.slice a1 ks.length c1,.slice a2 ps.length c2,.slice a3 es.length c3]) (by simp [results,Tryz.results62,go_sem,cell_setRow_same _ _ _ _ _ _ _ hR9]) rfl (by first | exact ⟨_,_,_,es,rfl,HFI.out⟩ | exact ⟨_,_,_,rfl,es,HFI.out⟩)
    ·have hyb:(y==0)=false:=by simp [hy]
     clear hy;have q0:w9.cell? ⟨w.heap.size+1+1,0,none⟩=some (.slice b1 ks.length d1):=ab L9.out.bx (i:=0) rfl;have q1:w9.cell? ⟨w.heap.size+1+1,1,none⟩=some (.slice b2 ps.length d2):=ab L9.out.bx (i:=1) rfl;have q2:w9.cell? ⟨w.heap.size+1+1,2,none⟩=some (.slice b3 es2.length d3):=ab L9.out.bx (i:=2) rfl;have hR9:=L9.out.rs
     have HFI:Hid (BookNew (w.heap.size+3) (w9.setRow (w.heap.size+1) #[.slice b1 ks.length d1,.slice b2 ps.length d2,.slice b3 es2.length d3]) (.slice b1 ks.length d1) (.slice b2 ps.length d2) (.slice b3 es2.length d3) ks ps es2∧bookB ks ps es2=true∧SmB (ks,ps,es2)∧Out w R p 1200 (w9.setRow (w.heap.size+1) #[.slice b1 ks.length d1,.slice b2 ps.length d2,.slice b3 es2.length d3])):=by
      have ho:∀ b,b≠w.heap.size+1→(w9.setRow (w.heap.size+1) #[.slice b1 ks.length d1,.slice b2 ps.length d2,.slice b3 es2.length d3]).heap[b]?=w9.heap[b]?:=fun b hb=>setRow_other _ _ _ _ hb
      have hg:w9.grownBy (w9.setRow (w.heap.size+1) #[.slice b1 ks.length d1,.slice b2 ps.length d2,.slice b3 es2.length d3]) (some (w.heap.size+1)):=⟨rfl,rfl,rfl,by simp,fun j _ hj=>ho j (fun e=>hj (by rw [e]))⟩
      exact ⟨N9.out.far hg (by omega),L9.out.ok,L9.out.sm,_,by omega,by omega,L9.out.rd.late (fun j hj=>ho j (by omega)),aW L9.out.gr _ (by omega)⟩
     go_wp2_with (refine wpList_store_row rfl 30 _ _ rfl (w.heap.size+1) #[.slice b1 ks.length d1,.slice b2 ps.length d2,.slice b3 es2.length d3] rfl rfl 30 _ hR9 (by kernel_rfl) rfl (by simp [Value.oneCell']) ?_)
     exact bodyPost_ret (v:=.agg #[.slice b1 ks.length d1,.slice b2 ps.length d2,.slice b3 es2.length d3]) (by simp [results,Tryz.results62,go_sem,cell_setRow_same _ _ _ _ _ _ _ hR9]) rfl (by first | exact ⟨_,_,_,es2,rfl,HFI.out⟩ | exact ⟨_,_,_,rfl,es2,HFI.out⟩)
 ·obtain ⟨X0,Y0,Z0,es,LR⟩:∃ x y z es,Hid (LB w w2 R (p+1) (.slice ka ks.length kc) (.slice pa ps.length pc) x y z ks ps es):=⟨_,_,_,_,L2⟩
  clear L2;obtain ⟨a1,c1,a2,c2,a3,c3,hs1,hs2,hs3⟩:=LR.out.slices HR0.out HK0.out HP0.out;subst hs1;subst hs2;subst hs3;have HSS:Hid (∀ (wx:World) (q:Nat),LB w wx R q (.slice ka ks.length kc) (.slice pa ps.length pc) (.slice a1 ks.length c1) (.slice a2 ps.length c2) (.slice a3 (List.length es) c3) ks ps es→((wx.cell? ⟨w.heap.size+2,0,none⟩=some (.slice a1 ks.length c1)∧wx.cell? ⟨w.heap.size+2,1,none⟩=some (.slice a2 ps.length c2)∧wx.cell? ⟨w.heap.size+2,2,none⟩=some (.slice a3 es.length c3))∧wx.cell? ⟨w.heap.size,0,none⟩=some (.slice ka ks.length kc)∧wx.cell? ⟨w.heap.size,1,none⟩=some (.slice pa ps.length pc))):=fun wx q h=>⟨⟨ab h.bx rfl,ab h.bx rfl,ab h.bx rfl⟩,ab h.pb rfl,ab h.pb rfl⟩;go_wp2;refine wp_region_noPanic ?_
  refine cq (S:=fun wx=>((wx.cell? ⟨w.heap.size+2,0,none⟩=some (.slice a1 ks.length c1)∧wx.cell? ⟨w.heap.size+2,1,none⟩=some (.slice a2 ps.length c2)∧wx.cell? ⟨w.heap.size+2,2,none⟩=some (.slice a3 es.length c3))∧wx.cell? ⟨w.heap.size,0,none⟩=some (.slice ka ks.length kc)∧wx.cell? ⟨w.heap.size,1,none⟩=some (.slice pa ps.length pc))) 8 (by kernel_rfl) ?_ (fun hHeld=>?_)
  ·exact HSS.out _ _ (LR.out.call (Below.refl _ _).drew)
  have L0:=am (LR.out.call (Below.refl _ _).drew);generalize w2.drew=W0 at *;clear LR;refine tkU 0 ?_ rfl ?_ (tkU 1 ?_ rfl ?_ (tkU 2 ?_ rfl ?_ ?_))
  iterate 3 (rotate_left;focus (intro w hSw;(try dsimp only at hSw);simp only [Act.put,aR];go_simp;try with_reducible rfl))
  simp only [Act.put,aR]
  clear hHeld;refine rdU 3 rfl (fun K hK=>?_);go_simp
  refine (l3Changes_any R _ _ _ ps 24 _ L0.out.rd (by omega) (by omega) (cj HP0.out HR0.out L0.out.gr) ⟨h1,by omega⟩ (fun t ht=>by have:=NP.out t ht;omega)).mono ?_
  rintro e W1 ⟨v,l,rfl,hcn,hcl,hcs,p1,hp11,hp12,hr1,hg1⟩;have L1:=am (L0.out.pick hRlt hr1 hg1);have HCN:Hid (ChgsAt W1 v l∧l.length≤24∧∀ c∈l,SmC c):=⟨hcn.at,hcl,hcs⟩;refine hK.out _ _ (.inr (.inr (HSS.out _ _ L1.out))) ?_;clear hK K hcn hcl hcs hr1 hg1 L0;refine rdU 4 rfl (fun K hK=>?_);go_simp;refine (takeAll_ok _ _ _ v ks ps es l _ (L1.out.at HR0.out HK0.out HP0.out) L1.out.ok L1.out.sm HCN.out.1 HCN.out.2.1 HCN.out.2.2).mono ?_;rintro e W2 ⟨b1,d1,b2,d2,b3,d3,es2,b4,n4,d4,rfl,hn9,hok9,hsm9,hb9⟩;have L7:=am (L1.out.put hRlt hb9 hn9 hok9 hsm9);have N7:=am (L1.out.putN hb9 hn9);have hbx9:=(L1.out.call hb9).bx;have hHeld:=HSS.out _ _ (L1.out.call hb9);refine hK.out _ _ (.inr (.inr hHeld)) ?_;clear hK K;refine tkU 5 ?_ rfl ?_ (tkU 6 ?_ rfl ?_ (tkP 7 ?_ rfl ?_ ?_))
  iterate 3 (rotate_left;focus (intro w hSw;(try dsimp only at hSw);simp only [Act.put,aR];go_simp;try with_reducible rfl))
  simp only [Act.put,aR]
  clear hHeld;refine rdU 8 rfl (fun K hK=>?_)
  refine aQ rfl 30 _ _ rfl (w.heap.size+2) #[.slice b1 ks.length d1,.slice b2 ps.length d2,.slice b3 es2.length d3] rfl rfl 30 _ hbx9 (by kernel_rfl) rfl (by simp [Value.oneCell']) ?_
  refine hK.out _ _ (.inl rfl) ?_;clear hK K
  refine wpTil_done (by kernel_rfl) ?_ _
  refine NoPanic.normal ?_;generalize (W2.setRow (w.heap.size+2) #[.slice b1 ks.length d1,.slice b2 ps.length d2,.slice b3 es2.length d3])=W8 at *;clear hbx9 hb9 hn9 hok9 hsm9 L1;clear HSS HCN;obtain ⟨Q1,hQ1⟩:∃ q,p1=q:=⟨_,rfl⟩;go_wp2_with fail
  refine (aF R p1 16 _ L7.out.rd (by omega) (by omega)).mono ?_
  rintro e w9 ⟨y,rfl,hy0,hy1,-,hr9,hg9⟩;have L9:=am (L7.out.pick hRlt hr9 hg9)
  have N9:=am (N7.out.far hg9 (by omega))
  clear hr9 hg9 L7 N7 hy1
  by_cases hy:y=0
  ·have hyb:(y==0)=true:=by simp [hy]
   clear hy;go_wp2
   go_loopw [7] (fun i wr=>∃ k:Nat,k≤12∧i=.int .i64 k∧Hid (∃ x y z es,LB w wr R (p1+1) (.slice ka ks.length kc) (.slice pa ps.length pc) x y z ks ps es∧BookNew (w.heap.size+3) wr x y z ks ps es)) (fun i _=>12-(intOf i).toNat)
   case atStart=>exact ⟨0,Nat.zero_le _,rfl,_,_,_,_,L9.out,N9.out⟩
   case round =>
    obtain ⟨k,hk12,rfl,HI⟩:=hrel;obtain ⟨x,y,z,es,hl,hn⟩:=HI.out;have LR:=am hl;have NR:=am hn;clear HI hl hn L9 N9
    by_cases hk:k<12
    ·have hkd:(k:Int)<12:=by omega
     have hds:=aP k (by omega)
     have hdn:¬ 9223372036854775807<1+(decS k).size:=by omega
     have hfs:(⟨#[102]⟩++decS k:ByteArray).size≤2000:=by simp only [ByteArray.size_append];show 1+_≤2000;omega
     obtain ⟨a1,c1,a2,c2,a3,c3,hs1,hs2,hs3⟩:=LR.out.slices HR0.out HK0.out HP0.out;subst hs1;subst hs2;subst hs3;have HSS:Hid (∀ (wx:World) (q:Nat),LB w wx R q (.slice ka ks.length kc) (.slice pa ps.length pc) (.slice a1 ks.length c1) (.slice a2 ps.length c2) (.slice a3 (List.length es) c3) ks ps es→((wx.cell? ⟨w.heap.size+2,0,none⟩=some (.slice a1 ks.length c1)∧wx.cell? ⟨w.heap.size+2,1,none⟩=some (.slice a2 ps.length c2)∧wx.cell? ⟨w.heap.size+2,2,none⟩=some (.slice a3 es.length c3))∧wx.cell? ⟨w.heap.size,0,none⟩=some (.slice ka ks.length kc)∧wx.cell? ⟨w.heap.size,1,none⟩=some (.slice pa ps.length pc))):=fun wx q h=>⟨⟨ab h.bx rfl,ab h.bx rfl,ab h.bx rfl⟩,ab h.pb rfl,ab h.pb rfl⟩;go_wp2;refine wp_region_noPanic ?_
     refine cq (S:=fun wx=>((wx.cell? ⟨w.heap.size+2,0,none⟩=some (.slice a1 ks.length c1)∧wx.cell? ⟨w.heap.size+2,1,none⟩=some (.slice a2 ps.length c2)∧wx.cell? ⟨w.heap.size+2,2,none⟩=some (.slice a3 es.length c3))∧wx.cell? ⟨w.heap.size,0,none⟩=some (.slice ka ks.length kc)∧wx.cell? ⟨w.heap.size,1,none⟩=some (.slice pa ps.length pc))) 9 (by kernel_rfl) ?_ (fun hHeld=>?_)
     ·exact HSS.out _ _ (LR.out.call (Below.refl _ _).drew)
     have L0:=am (LR.out.call (Below.refl _ _).drew);generalize wr.drew=W0 at *;clear LR;refine tkU 0 ?_ rfl ?_ (tkU 1 ?_ rfl ?_ ?_)
     iterate 2 (rotate_left;focus (intro w hSw;(try dsimp only at hSw);simp only [Act.put,aR];go_simp;try with_reducible rfl))
     simp only [Act.put,aR]
     clear hHeld;refine rdU 2 rfl (fun K hK=>?_);go_simp
     refine (bq k (by omega) _).mono ?_
     rintro e W1 ⟨rfl,hb1⟩;have L1:=am (L0.out.call hb1);have hHeld:=HSS.out _ _ L1.out;refine hK.out _ _ (.inr (.inr hHeld)) ?_;clear hK K hb1 L0 NR;refine tkU 3 ?_ rfl ?_ ?_;rotate_left
     ·intro w hSw;(try dsimp only at hSw);go_simp;try with_reducible rfl
     simp only [Act.put,aR]
     generalize (⟨#[102]⟩++decS k:ByteArray)=nm at *;refine tkU 4 ?_ rfl ?_ ?_;rotate_left
     ·intro w hSw;(try dsimp only at hSw);go_simp;try with_reducible rfl
     simp only [Act.put,aR]
     clear hHeld hds hdn;refine rdU 5 rfl (fun K hK=>?_);go_simp
     refine (take_ok _ _ _ ks ps es nm 3 5 ⟨#[50]⟩ _ (L1.out.at HR0.out HK0.out HP0.out) L1.out.ok L1.out.sm hfs (by show 1≤2000;omega)).mono ?_
     rintro e W2 ⟨b1,d1,b2,d2,b3,d3,es2,u9,rfl,hn9,hok9,hsm9,hb9⟩;have L7:=am (L1.out.put hRlt hb9 hn9 hok9 hsm9);have N7:=am (L1.out.putN hb9 hn9);have hbx9:=(L1.out.call hb9).bx;have hHeld:=HSS.out _ _ (L1.out.call hb9);refine hK.out _ _ (.inr (.inr hHeld)) ?_;clear hK K;refine tkU 6 ?_ rfl ?_ (tkU 7 ?_ rfl ?_ (tkP 8 ?_ rfl ?_ ?_))
     iterate 3 (rotate_left;focus (intro w hSw;(try dsimp only at hSw);simp only [Act.put,aR];go_simp;try with_reducible rfl))
     simp only [Act.put,aR]
     clear hHeld;refine rdU 9 rfl (fun K hK=>?_)
     refine aQ rfl 30 _ _ rfl (w.heap.size+2) #[.slice b1 ks.length d1,.slice b2 ps.length d2,.slice b3 es2.length d3] rfl rfl 30 _ hbx9 (by kernel_rfl) rfl (by simp [Value.oneCell']) ?_
     refine hK.out _ _ (.inl rfl) ?_;clear hK K
     refine wpTil_done (by kernel_rfl) ?_ _
     refine NoPanic.normal ?_;generalize (W2.setRow (w.heap.size+2) #[.slice b1 ks.length d1,.slice b2 ps.length d2,.slice b3 es2.length d3])=W8 at *;clear hbx9 hb9 hn9 hok9 hsm9 L1;have HNX:Hid (∃ x y z es,LB w W8 R (p1+1) (.slice ka ks.length kc) (.slice pa ps.length pc) x y z ks ps es∧BookNew (w.heap.size+3) W8 x y z ks ps es):=⟨_,_,_,_,L7.out,N7.out⟩;go_wp2
     exact ⟨⟨k+1,by omega,by go_num,HNX⟩,by simp [intOf];omega⟩
    ·have hkd:¬ (k:Int)<12:=by omega
     obtain ⟨a1,c1,a2,c2,a3,c3,hs1,hs2,hs3⟩:=LR.out.slices HR0.out HK0.out HP0.out;subst hs1;subst hs2;subst hs3;have HSS:Hid (∀ (wx:World) (q:Nat),LB w wx R q (.slice ka ks.length kc) (.slice pa ps.length pc) (.slice a1 ks.length c1) (.slice a2 ps.length c2) (.slice a3 (List.length es) c3) ks ps es→((wx.cell? ⟨w.heap.size+2,0,none⟩=some (.slice a1 ks.length c1)∧wx.cell? ⟨w.heap.size+2,1,none⟩=some (.slice a2 ps.length c2)∧wx.cell? ⟨w.heap.size+2,2,none⟩=some (.slice a3 es.length c3))∧wx.cell? ⟨w.heap.size,0,none⟩=some (.slice ka ks.length kc)∧wx.cell? ⟨w.heap.size,1,none⟩=some (.slice pa ps.length pc))):=fun wx q h=>⟨⟨ab h.bx rfl,ab h.bx rfl,ab h.bx rfl⟩,ab h.pb rfl,ab h.pb rfl⟩;have q0:wr.cell? ⟨w.heap.size+1+1,0,none⟩=some (.slice a1 ks.length c1):=ab LR.out.bx (i:=0) rfl;have q1:wr.cell? ⟨w.heap.size+1+1,1,none⟩=some (.slice a2 ps.length c2):=ab LR.out.bx (i:=1) rfl;have q2:wr.cell? ⟨w.heap.size+1+1,2,none⟩=some (.slice a3 es.length c3):=ab LR.out.bx (i:=2) rfl;have hR9:=LR.out.rs
     have HFI:Hid (BookNew (w.heap.size+3) (wr.setRow (w.heap.size+1) #[.slice a1 ks.length c1,.slice a2 ps.length c2,.slice a3 es.length c3]) (.slice a1 ks.length c1) (.slice a2 ps.length c2) (.slice a3 es.length c3) ks ps es∧bookB ks ps es=true∧SmB (ks,ps,es)∧Out w R p 1200 (wr.setRow (w.heap.size+1) #[.slice a1 ks.length c1,.slice a2 ps.length c2,.slice a3 es.length c3])):=by
      have ho:∀ b,b≠w.heap.size+1→(wr.setRow (w.heap.size+1) #[.slice a1 ks.length c1,.slice a2 ps.length c2,.slice a3 es.length c3]).heap[b]?=wr.heap[b]?:=fun b hb=>setRow_other _ _ _ _ hb
      have hg:wr.grownBy (wr.setRow (w.heap.size+1) #[.slice a1 ks.length c1,.slice a2 ps.length c2,.slice a3 es.length c3]) (some (w.heap.size+1)):=⟨rfl,rfl,rfl,by simp,fun j _ hj=>ho j (fun e=>hj (by rw [e]))⟩
      exact ⟨NR.out.far hg (by omega),LR.out.ok,LR.out.sm,_,by omega,by omega,LR.out.rd.late (fun j hj=>ho j (by omega)),aW LR.out.gr _ (by omega)⟩
     go_wp2_with (refine wpList_store_row rfl 30 _ _ rfl (w.heap.size+1) #[.slice a1 ks.length c1,.slice a2 ps.length c2,.slice a3 es.length c3] rfl rfl 30 _ hR9 (by kernel_rfl) rfl (by simp [Value.oneCell']) ?_)
     exact bodyPost_ret (v:=.agg #[.slice a1 ks.length c1,.slice a2 ps.length c2,.slice a3 es.length c3]) (by simp [results,Tryz.results62,go_sem,cell_setRow_same _ _ _ _ _ _ _ hR9]) rfl (by first | exact ⟨_,_,_,es,rfl,HFI.out⟩ | exact ⟨_,_,_,rfl,es,HFI.out⟩)
  ·have hyb:(y==0)=false:=by simp [hy]
   clear hy;have q0:w9.cell? ⟨w.heap.size+1+1,0,none⟩=some (.slice b1 ks.length d1):=ab L9.out.bx (i:=0) rfl;have q1:w9.cell? ⟨w.heap.size+1+1,1,none⟩=some (.slice b2 ps.length d2):=ab L9.out.bx (i:=1) rfl;have q2:w9.cell? ⟨w.heap.size+1+1,2,none⟩=some (.slice b3 es2.length d3):=ab L9.out.bx (i:=2) rfl;have hR9:=L9.out.rs
   have HFI:Hid (BookNew (w.heap.size+3) (w9.setRow (w.heap.size+1) #[.slice b1 ks.length d1,.slice b2 ps.length d2,.slice b3 es2.length d3]) (.slice b1 ks.length d1) (.slice b2 ps.length d2) (.slice b3 es2.length d3) ks ps es2∧bookB ks ps es2=true∧SmB (ks,ps,es2)∧Out w R p 1200 (w9.setRow (w.heap.size+1) #[.slice b1 ks.length d1,.slice b2 ps.length d2,.slice b3 es2.length d3])):=by
    have ho:∀ b,b≠w.heap.size+1→(w9.setRow (w.heap.size+1) #[.slice b1 ks.length d1,.slice b2 ps.length d2,.slice b3 es2.length d3]).heap[b]?=w9.heap[b]?:=fun b hb=>setRow_other _ _ _ _ hb
    have hg:w9.grownBy (w9.setRow (w.heap.size+1) #[.slice b1 ks.length d1,.slice b2 ps.length d2,.slice b3 es2.length d3]) (some (w.heap.size+1)):=⟨rfl,rfl,rfl,by simp,fun j _ hj=>ho j (fun e=>hj (by rw [e]))⟩
    exact ⟨N9.out.far hg (by omega),L9.out.ok,L9.out.sm,_,by omega,by omega,L9.out.rd.late (fun j hj=>ho j (by omega)),aW L9.out.gr _ (by omega)⟩
   go_wp2_with (refine wpList_store_row rfl 30 _ _ rfl (w.heap.size+1) #[.slice b1 ks.length d1,.slice b2 ps.length d2,.slice b3 es2.length d3] rfl rfl 30 _ hR9 (by kernel_rfl) rfl (by simp [Value.oneCell']) ?_)
   exact bodyPost_ret (v:=.agg #[.slice b1 ks.length d1,.slice b2 ps.length d2,.slice b3 es2.length d3]) (by simp [results,Tryz.results62,go_sem,cell_setRow_same _ _ _ _ _ _ _ hR9]) rfl (by first | exact ⟨_,_,_,es2,rfl,HFI.out⟩ | exact ⟨_,_,_,rfl,es2,HFI.out⟩)
end Go.Proofs.YtcmgddnckohdaaaGreatDoor.Dr
namespace Go.Proofs.YtcmgddnckohdaaaGreatDoor.Dr
open Go.RowKit
structure SB (w wr:World) (R BB px:Nat) (xk xp xe:Value) (ks ps:List Tri) (l:List EntV):Prop where
 rd:Rd wr R px
 gr:w.grownBy wr (some R)
 res:wr.heap[w.heap.size]?=some (.cells #[.slice none 0 0,.slice none 0 0,.slice none 0 0] 30 (0,0))
 box:wr.heap[BB]?=some (.cells #[xk,xp,xe] 30 (0,0))
 k:wr.ownsRow (w.heap.size+1) 69 3 xk ks.length (Go.Proofs.YtcmgddnckohdaaaGreatDoor.triRows ks)
 p:wr.ownsRow (w.heap.size+1) 72 3 xp ps.length (Go.Proofs.YtcmgddnckohdaaaGreatDoor.triRows ps)
 e:wr.ownsRow (w.heap.size+1) 65 2 xe l.length (pairRows l)
 f:∀ q∈l,wr.ownsRow (w.heap.size+1) 67 3 q.2 q.1.fs.length (fldRows q.1.fs)
theorem SB.pick {w wr wx:World} {R BB px qx:Nat} {xk xp xe:Value} {ks ps:List Tri} {l:List EntV} (h:SB w wr R BB px xk xp xe ks ps l) (hR:R<w.heap.size) (hB:w.heap.size<BB) (hr:Rd wx R qx) (hg:wr.grownBy wx (some R)):SB w wx R BB qx xk xp xe ks ps l :=
 ⟨hr,av h.gr hg,aL hg (by omega) h.res,aL hg (by omega) h.box,own_box h.k hg (by omega),own_box h.p hg (by omega),own_box h.e hg (by omega),fun q hq=>own_box (h.f q hq) hg (by omega)⟩
theorem SB.call {w wr wx:World} {R BB px:Nat} {xk xp xe:Value} {ks ps:List Tri} {l:List EntV} (h:SB w wr R BB px xk xp xe ks ps l) (hb:Below wr.heap.size wr wx):SB w wx R BB px xk xp xe ks ps l :=
 ⟨h.rd.far hb,av h.gr (az hb _),(hb.block _ (aG h.res)).trans h.res,(hb.block _ (aG h.box)).trans h.box,bO h.k hb,bO h.p hb,bO h.e hb,fun q hq=>bO (h.f q hq) hb⟩
theorem SB.at {w wr:World} {R BB px:Nat} {xk xp xe:Value} {ks ps:List Tri} {l:List EntV} (h:SB w wr R BB px xk xp xe ks ps l):BookAt wr xk xp xe ks ps (l.map (·.1)):=by
 refine ⟨b8 h.k,b8 h.p,?_⟩;obtain ⟨a,cap,h1,h2,h3,h4⟩:=own_rows pairRow pairRow_len h.e
 refine ⟨a,cap,by rw [List.length_map];exact h1,by rw [List.length_map];exact h2,h3,fun i t ht=>?_⟩
 rw [List.getElem?_map] at ht
 cases hp:l[i]? with
 | none=>rw [hp] at ht;cases ht
 | some p =>
  rw [hp] at ht
  cases ht
  obtain ⟨g,ha,hc⟩:=h4 i p hp
  exact ⟨g,0,ha,p.2,by simpa using hc 0 _ rfl,by simpa using hc 1 _ rfl,flds_new (h.f p (List.mem_of_getElem? hp))⟩
theorem SB.cell {w wr:World} {R BB px g o:Nat} {xk xp xe x:Value} {ks ps:List Tri} {l:List EntV} (h:SB w wr R BB px xk xp xe ks ps l) (hR:R<w.heap.size) (hg:w.heap.size+1≤g) (hB:BB≠g) :
  Rd (wr.setCell ⟨g,o,none⟩ x) R px∧w.grownBy (wr.setCell ⟨g,o,none⟩ x) (some R)∧(wr.setCell ⟨g,o,none⟩ x).heap[w.heap.size]?=some (.cells #[.slice none 0 0,.slice none 0 0,.slice none 0 0] 30 (0,0))∧(wr.setCell ⟨g,o,none⟩ x).heap[BB]?=some (.cells #[xk,xp,xe] 30 (0,0)):=by
 have hoo:∀ b,b≠g→(wr.setCell ⟨g,o,none⟩ x).heap[b]?=wr.heap[b]?:=fun b hb=>Below.heap_setCell wr ⟨g,o,none⟩ x b hb
 exact ⟨h.rd.late (fun j hj=>hoo j (by omega)),bM h.gr o x (by omega),(hoo _ (by omega)).trans h.res,(hoo _ hB).trans h.box⟩
theorem pairRows_name:∀ (l:List EntV) (k:Nat) (p:EntV) (s:ByteArray) (fs:List Fld),l[k]?=some p→pairRows (l.set k (⟨s,fs⟩,p.2))=(pairRows l).set (k*2) (.string s)
 | [],k,p,s,fs,hk=>by simp at hk
 | a::l,0,p,s,fs,hk=>by
  have:a=p:=by simpa using hk
  subst this
  simp [pairRows,pairRow]
 | a::l,k+1,p,s,fs,hk=>by
  have ih:=pairRows_name l k p s fs (by simpa using hk)
  have c:∀ (x:EntV) (m:List EntV),pairRows (x::m)=pairRow x++pairRows m:=fun x m=>by simp [pairRows]
  rw [List.set_cons_succ,c,c,ih,show (k+1)*2=2+k*2 by omega,List.set_append_right _ _ (by simp [pairRow])]
  simp [pairRow]
theorem pairRows_same (l:List EntV) (k:Nat) (p:EntV) (fs:List Fld) (hk:l[k]?=some p):pairRows (l.set k (⟨p.1.name,fs⟩,p.2))=pairRows l:=by
 rw [pairRows_set l k p ⟨p.1.name,fs⟩ p.2 hk rfl];have hl:=(List.getElem?_eq_some_iff.1 hk).1;refine List.ext_getElem? fun i=>?_;rw [List.getElem?_set]
 split
 ·rename_i e
  subst e
  have h:(pairRows l)[k*2+1]?=some p.2:=by
   unfold pairRows
   rw [rows_idx pairRow 2 (fun _=>rfl) l k 1 (by omega),hk]
   rfl
  rw [h]
  simp [aU]
  omega
 ·rfl
theorem SB.name {w wr:World} {R BB px g cap kn n:Nat} {xk xp:Value} {ks ps:List Tri} {l:List EntV} {q:EntV} {s:ByteArray} (h:SB w wr R BB px xk xp (.slice (some ⟨g,0,none⟩) n cap) ks ps l) (hn:l.length=n) (hR:R<w.heap.size) (hq:l[kn]?=some q):SB w (wr.setCell ⟨g,kn*2,none⟩ (.string s)) R BB px xk xp (.slice (some ⟨g,0,none⟩) n cap) ks ps (l.set kn (⟨s,q.1.fs⟩,q.2)):=by
 subst hn;have hkl:=(List.getElem?_eq_some_iff.1 hq).1;have hg:w.heap.size+1≤g:=bf h.e g rfl
 have hgB:BB≠g:=fun e=>aV h.e h.box (by decide) (by rw [e];rfl)
 obtain ⟨c1,c2,c3,c4⟩:=h.cell (o:=kn*2) (x:=.string s) hR hg hgB
 refine ⟨c1,c2,c3,c4,aE h.k (bd wr g _ _) (bw h.k h.e (by decide)),aE h.p (bd wr g _ _) (bw h.p h.e (by decide)),?_,fun r hr=>?_⟩
 ·rw [List.length_set,pairRows_name l kn q s q.1.fs hq]
  exact own_setD h.e (by omega)
 ·have hr2:wr.ownsRow (w.heap.size+1) 67 3 r.2 r.1.fs.length (fldRows r.1.fs):=by
   rcases List.mem_or_eq_of_mem_set hr with h1 | h1
   ·exact h.f r h1
   ·rw [h1];exact h.f q (List.mem_of_getElem? hq)
  exact aE hr2 (bd wr g _ _) (bw hr2 h.e (by decide))
theorem SB.fld {w wr:World} {R BB px gf cf nf kn o:Nat} {xk xp xe x:Value} {ks ps:List Tri} {l:List EntV} {e:Ent} {fs':List Fld} (h:SB w wr R BB px xk xp xe ks ps l) (hR:R<w.heap.size) (ap:l.Pairwise fun p q=>∀ k,p.2.ownBlock=some k→q.2.ownBlock≠some k) (hq:l[kn]?=some (e,.slice (some ⟨gf,0,none⟩) nf cf)) (hnf:e.fs.length=nf) (ho:o<nf*3) (hl:fs'.length=e.fs.length) (ht:fldRows fs'=(fldRows e.fs).set o x):SB w (wr.setCell ⟨gf,o,none⟩ x) R BB px xk xp xe ks ps (l.set kn (⟨e.name,fs'⟩,.slice (some ⟨gf,0,none⟩) nf cf)):=by
 subst hnf;have hkl:=(List.getElem?_eq_some_iff.1 hq).1;have h0:=h.f _ (List.mem_of_getElem? hq);have hg:w.heap.size+1≤gf:=bf h0 gf rfl
 have hgB:BB≠gf:=fun e=>aV h0 h.box (by decide) (by rw [e];rfl)
 obtain ⟨c1,c2,c3,c4⟩:=h.cell (o:=o) (x:=x) hR hg hgB
 refine ⟨c1,c2,c3,c4,aE h.k (bd wr gf _ _) (bw h.k h0 (by decide)),aE h.p (bd wr gf _ _) (bw h.p h0 (by decide)),?_,fun r hr=>?_⟩
 ·rw [List.length_set,pairRows_same l kn (e,.slice (some ⟨gf,0,none⟩) e.fs.length cf) fs' hq]
  exact aE h.e (bd wr gf _ _) (bw h.e h0 (by decide))
 ·obtain ⟨i,hi⟩:=List.getElem?_of_mem hr
  rw [List.getElem?_set] at hi
  split at hi
  ·rename_i e2
   subst e2
   cases hi
   show (wr.setCell ⟨gf,o,none⟩ x).ownsRow _ _ 3 _ fs'.length (fldRows fs')
   rw [hl,ht];exact own_setD h0 ho
  ·rename_i e2
   have hr2:=h.f r (List.mem_of_getElem? hi);refine aE hr2 (bd wr gf _ _) (fun k hk e3=>?_)
   cases e3
   have hil:=(List.getElem?_eq_some_iff.1 hi).1;have hpw:=List.pairwise_iff_getElem.1 ap
   have e4:l[i]=r:=by rw [List.getElem?_eq_getElem hil] at hi;exact Option.some.inj hi
   have e5:l[kn]=(e,.slice (some ⟨gf,0,none⟩) e.fs.length cf):=by rw [List.getElem?_eq_getElem hkl] at hq;exact Option.some.inj hq
   rcases Nat.lt_or_gt_of_ne e2 with h5 | h5
   ·exact hpw kn i hkl hil h5 gf (by rw [e5];rfl) (by rw [e4];exact hk)
   ·exact hpw i kn hil hkl h5 gf (by rw [e4];exact hk) (by rw [e5];rfl)
theorem ci:∀ (l:List Fld) (i j:Nat) (t t':Fld) (x:Value),l[i]?=some t→j<3→fldRow t'=(fldRow t).set j x→fldRows (l.set i t')=(fldRows l).set (i*3+j) x
 | [],i,j,t,t',x,h,hj,hs=>by simp at h
 | a::l,0,j,t,t',x,h,hj,hs=>by
  simp at h;subst h
  have e:fldRows (a::l)=fldRow a++fldRows l:=by simp [fldRows]
  have e':fldRows ((a::l).set 0 t')=fldRow t'++fldRows l:=by simp [fldRows]
  rw [e,e',hs,Nat.zero_mul,Nat.zero_add,List.set_append_left _ _ (by simp [fldRow];omega)]
 | a::l,i+1,j,t,t',x,h,hj,hs=>by
  have e:fldRows (a::l)=fldRow a++fldRows l:=by simp [fldRows]
  have e':fldRows ((a::l).set (i+1) t')=fldRow a++fldRows (l.set i t'):=by simp [fldRows]
  have hl:(fldRow a).length=3:=rfl
  rw [e,e',ci l i j t t' x (by simpa using h) hj hs,List.set_append_right _ _ (by omega),hl]
  congr 2
  omega
theorem SB.turn {w wr W:World} {R BB px g cap n kn:Nat} {xk xp fv:Value} {ks ps:List Tri} {l:List EntV} {q:EntV} {fs:List Fld} (h:SB w wr R BB px xk xp (.slice (some ⟨g,0,none⟩) n cap) ks ps l) (hn:l.length=n) (hR:R<w.heap.size) (hq:l[kn]?=some q) (hb:Below wr.heap.size wr W) (hf:W.ownsRow (w.heap.size+1) 67 3 fv fs.length (fldRows fs)):SB w (W.setCell ⟨g,kn*2+1,none⟩ fv) R BB px xk xp (.slice (some ⟨g,0,none⟩) n cap) ks ps (l.set kn (⟨q.1.name,fs⟩,fv)):=by
 subst hn;have h:=h.call hb;have hkl:=(List.getElem?_eq_some_iff.1 hq).1;have hg:w.heap.size+1≤g:=bf h.e g rfl
 have hgB:BB≠g:=fun e=>aV h.e h.box (by decide) (by rw [e];rfl)
 obtain ⟨c1,c2,c3,c4⟩:=h.cell (o:=kn*2+1) (x:=fv) hR hg hgB
 refine ⟨c1,c2,c3,c4,aE h.k (bd W g _ _) (bw h.k h.e (by decide)),aE h.p (bd W g _ _) (bw h.p h.e (by decide)),?_,fun r hr=>?_⟩
 ·rw [List.length_set,pairRows_set l kn q ⟨q.1.name,fs⟩ fv hq rfl]
  exact own_setD h.e (by omega)
 ·have hr2:W.ownsRow (w.heap.size+1) 67 3 r.2 r.1.fs.length (fldRows r.1.fs):=by
   rcases List.mem_or_eq_of_mem_set hr with h1 | h1
   ·exact h.f r h1
   ·rw [h1];exact hf
  exact aE hr2 (bd W g _ _) (bw hr2 h.e (by decide))
theorem SB.more {w W2 W3:World} {R BB px:Nat} {xk xp xe xe':Value} {ks ps:List Tri} {l:List EntV} {q:EntV} (h:SB w W2 R BB px xk xp xe ks ps l) (hR:R<w.heap.size) (hB:w.heap.size<BB) (hg:W2.grownBy W3 xe.ownBlock) (hown:W3.ownsRow (w.heap.size+1) 65 2 xe' (l.length+1) (pairRows l++pairRow q)) (hf:W2.ownsRow (w.heap.size+1) 67 3 q.2 q.1.fs.length (fldRows q.1.fs)):SB w (W3.setCell ⟨BB,2,none⟩ xe') R BB px xk xp xe' ks ps (l++[q]):=by
 have hge:∀ q,xe.ownBlock=some q→w.heap.size+1≤q:=fun q hq=>bf h.e q hq
 have hBk:some BB≠xe.ownBlock:=aV h.e h.box (by decide)
 have hb3:W3.heap[BB]?=some (.cells #[xk,xp,xe] 30 (0,0)):=(hg.block BB (aG h.box) hBk).trans h.box;have ho:∀ b,b≠BB→(W3.setCell ⟨BB,2,none⟩ xe').heap[b]?=W3.heap[b]?:=fun b hb=>Below.heap_setCell W3 ⟨BB,2,none⟩ xe' b hb
 have hlow:∀ b,b≤w.heap.size→b<W2.heap.size→(W3.setCell ⟨BB,2,none⟩ xe').heap[b]?=W2.heap[b]?:=fun b hb hl=>(ho b (by omega)).trans (hg.block b hl (fun e=>by have:=hge b e.symm;omega))
 have hz:=h.gr.size
 have go:∀ {t:TypeId} {c n:Nat} {v:Value} {xs:List Value},W2.ownsRow (w.heap.size+1) t c v n xs→t≠65→t≠30→(W3.setCell ⟨BB,2,none⟩ xe').ownsRow (w.heap.size+1) t c v n xs:=fun h1 h2 h3=>by
  have h4:=aE h1 hg (bw h1 h.e h2)
  exact aE h4 (bd W3 BB 2 xe') (fun k hk e=>aV h4 hb3 h3 (by rw [hk,e]))
 refine ⟨h.rd.late (fun j hj=>hlow j (by omega) (by omega)),bM (grown_own h.gr hg (fun q hq=>by have:=hge q hq;omega)) 2 _ (by omega),(hlow _ aH (aG h.res)).trans h.res,cI hb3,go h.k (by decide) (by decide),go h.p (by decide) (by decide),?_,fun r hr=>?_⟩
 ·rw [List.length_append,ca]
  exact aE hown (bd W3 BB 2 xe') (fun k hk e=>aV hown hb3 (by decide) (by rw [hk,e]))
 ·rcases List.mem_append.1 hr with h1 | h1
  ·exact go (h.f r h1) (by decide) (by decide)
  ·rw [List.mem_singleton.1 h1];exact go hf (by decide) (by decide)
end Go.Proofs.YtcmgddnckohdaaaGreatDoor.Dr
