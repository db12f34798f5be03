import Derived.Test.YtbjmgglpiakgdaaGreatDoorDr9
import Derived.Test.YtbjmgglpiakgdaaGreatDoorAllS
namespace Go.Proofs.YtbjmgglpiakgdaaGreatDoor.Dr
open Go.RowKit Go.Proofs.YtbjmgglpiakgdaaGreatDoor
attribute [local go_sem] Later.cell Later.frozen
set_option linter.unusedSimpArgs false
set_option linter.unusedVariables false
structure LB (w wr:World) (R px:Nat) (vk vp x y z:Value) (ks ps:List Tri) (es:List Ent):Prop where
 rd:Rd wr R px
 gr:w.grownBy wr (some R)
 pb:wr.heap[w.heap.size]? = some (.cells #[vk,vp] 26 (0,0))
 rs:wr.heap[w.heap.size + 1]? = some (.cells #[.slice none 0 0,.slice none 0 0,.slice none 0 0] 29 (0,0))
 bx:wr.heap[w.heap.size + 2]? = some (.cells #[x,y,z] 29 (0,0))
 bk:(x = vk ∧ y = vp ∧ z = .slice none 0 0 ∧ es = []) ∨ BookNew (w.heap.size + 3) wr x y z ks ps es
 ok:bookB ks ps es = true
 sm:SmB (ks,ps,es)
theorem LB.pick {w wr wx:World} {R px qx:Nat} {vk vp x y z:Value} {ks ps:List Tri} {es:List Ent} (h:LB w wr R px vk vp x y z ks ps es) (hR:R < w.heap.size) (hr:Rd wx R qx) (hg:wr.grownBy wx (some R)):LB w wx R qx vk vp x y z ks ps es :=
 ⟨hr,grown_on h.gr hg,box_keep hg (by omega) h.pb,box_keep hg (by omega) h.rs,box_keep hg (by omega) h.bx,h.bk.imp (fun h => h) (fun h => h.far hg (by omega)),h.ok,h.sm⟩
theorem LB.call {w wr wx:World} {R px:Nat} {vk vp x y z:Value} {ks ps:List Tri} {es:List Ent} (h:LB w wr R px vk vp x y z ks ps es) (hb:Below wr.heap.size wr wx):LB w wx R px vk vp x y z ks ps es :=
 ⟨h.rd.far hb,grown_on h.gr (grown_of hb _),(hb.block _ (lt_blk h.pb)).trans h.pb,(hb.block _ (lt_blk h.rs)).trans h.rs,(hb.block _ (lt_blk h.bx)).trans h.bx,h.bk.imp (fun h => h) (fun h => h.keep hb),h.ok,h.sm⟩
theorem ents_nil (w:World):EntsAt w (.slice none 0 0) []:=⟨none,0,rfl,Nat.le_refl _,Nat.zero_le _,fun i e he => by simp at he⟩
theorem LB.at {w wr:World} {R px p:Nat} {vk vp x y z:Value} {ks ps:List Tri} {es:List Ent} (h:LB w wr R px vk vp x y z ks ps es) (hr:Rd w R p) (hk:TrisAt w vk ks) (hp:TrisAt w vp ps):BookAt wr x y z ks ps es:=by
 rcases h.bk with ⟨rfl,rfl,rfl,rfl⟩ | h1
 ·exact ⟨TrisAt_box hk hr h.gr,TrisAt_box hp hr h.gr,ents_nil _⟩
 ·exact h1.at
theorem LB.put {w W W':World} {R px:Nat} {vk vp x y z x' y' z':Value} {ks ps:List Tri} {es es':List Ent} (h:LB w W R px vk vp x y z ks ps es) (hR:R < w.heap.size) (hb:Below W.heap.size W W') (hn:BookNew W.heap.size W' x' y' z' ks ps es') (ok:bookB ks ps es' = true) (sm:SmB (ks,ps,es')):LB w (W'.setRow (w.heap.size + 2) #[x',y',z']) R px vk vp x' y' z' ks ps es':=by
 have h1:=h.call hb
 have hX:=lt_blk h.bx
 have ho:∀ b,b ≠ w.heap.size + 2 → (W'.setRow (w.heap.size + 2) #[x',y',z']).heap[b]? = W'.heap[b]?:=fun b hb => setRow_other _ _ _ _ hb
 have hg:W'.grownBy (W'.setRow (w.heap.size + 2) #[x',y',z']) (some (w.heap.size + 2)):=⟨rfl,rfl,rfl,by simp,fun j _ hj => ho j (fun e => hj (by rw [e]))⟩
 exact ⟨h1.rd.late (fun j hj => ho j (by omega)),grown_row h1.gr _ (by omega),(ho _ (by omega)).trans h1.pb,(ho _ (by omega)).trans h1.rs,setRow_heap _ _ _ _ _ _ h1.bx,.inr ((hn.mono (by omega)).far hg (by omega)),ok,sm⟩
theorem LB.putN {w W W':World} {R px:Nat} {vk vp x y z x' y' z':Value} {ks ps:List Tri} {es es':List Ent} (h:LB w W R px vk vp x y z ks ps es) (hb:Below W.heap.size W W') (hn:BookNew W.heap.size W' x' y' z' ks ps es'):BookNew (w.heap.size + 3) (W'.setRow (w.heap.size + 2) #[x',y',z']) x' y' z' ks ps es':=by
 have hX:=lt_blk h.bx
 have ho:∀ b,b ≠ w.heap.size + 2 → (W'.setRow (w.heap.size + 2) #[x',y',z']).heap[b]? = W'.heap[b]?:=fun b hb => setRow_other _ _ _ _ hb
 have hg:W'.grownBy (W'.setRow (w.heap.size + 2) #[x',y',z']) (some (w.heap.size + 2)):=⟨rfl,rfl,rfl,by simp,fun j _ hj => ho j (fun e => hj (by rw [e]))⟩
 exact (hn.mono (by omega)).far hg (by omega)
theorem book_nil {ks ps:List Tri} (h:kindsB ks = true) (k:pointsB ps = true):bookB ks ps [] = true:=by
 unfold bookB
 rw [show (namesE [] && allB ([]:List Ent).length fun i => fieldsB ks ps (eat [] i).name (eat [] i).fs) = true from rfl,Bool.and_true]
 unfold baseB
 rw [h,k]
 rfl
theorem sm_nil {ks ps:List Tri} (h:kindsB ks = true) (k:pointsB ps = true):SmB (ks,ps,[]):=by
 have h1:=kinds_le h
 have h2:=points_le k
 exact ⟨⟨fun t ht => Nat.le_trans (h1.2 t ht) (by unfold maxLen; omega),fun t ht => Nat.le_trans (h2.2 t ht) (by unfold maxLen; omega),fun e he => by cases he⟩,⟨Nat.le_trans h1.1 (by omega),Nat.le_trans h2.1 (by omega),Nat.zero_le _,(fun e he => by cases he),(fun e he => by cases he),fun e he => by cases he⟩,Nat.zero_le _⟩
theorem LB.slices {w wr:World} {R px p:Nat} {vk vp x y z:Value} {ks ps:List Tri} {es:List Ent} (h:LB w wr R px vk vp x y z ks ps es) (hr:Rd w R p) (hk:TrisAt w vk ks) (hp:TrisAt w vp ps):∃ a1 c1 a2 c2 a3 c3,x = .slice a1 ks.length c1 ∧ y = .slice a2 ps.length c2 ∧ z = .slice a3 es.length c3:=by
 obtain ⟨⟨a1,c1,h1,-⟩,⟨a2,c2,h2,-⟩,⟨a3,c3,h3,-⟩⟩:=h.at hr hk hp
 exact ⟨a1,c1,a2,c2,a3,c3,h1,h2,h3⟩
theorem take_ok (vk vp ve:Value) (ks ps:List Tri) (es:List Ent) (f:ByteArray) (wh num:Int) (s:ByteArray) (w:World) (hB:BookAt w vk vp ve ks ps es) (hok:bookB ks ps es = true) (hs:SmB (ks,ps,es)) (hf:f.size ≤ 2000) (hv:s.size ≤ 2000) :
  Calls Tryz.prog 40 #[.agg #[vk,vp,ve],.agg #[.string f,.int .i64 wh,.int .i64 num,.string s]] w fun e w' => ∃ a1 c1 a2 c2 a3 c3 es' u,e = .returned (.tuple #[.agg #[.slice a1 ks.length c1,.slice a2 ps.length c2,.slice a3 (List.length es') c3],.int .i64 u]) ∧ BookNew w.heap.size w' (.slice a1 ks.length c1) (.slice a2 ps.length c2) (.slice a3 es'.length c3) ks ps es' ∧ bookB ks ps es' = true ∧ SmB (ks,ps,es') ∧ Below w.heap.size w w':=by
 refine (specTake_any vk vp ve ks ps es ⟨f,wh,num,s⟩ w hB hs.n hs.s (by show f.size ≤ _; omega) (by show s.size ≤ _; omega)).mono ?_
 rintro e w' ⟨x,y,z,rfl,hn,hb⟩
 have h1:SmB (stepBk (ks,ps,es) ⟨f,wh,num,s⟩):=hs.step (by show f.size ≤ _; omega) (by show s.size ≤ _; omega)
 rw [show stepBk (ks,ps,es) ⟨f,wh,num,s⟩ = (ks,ps,takeE ks ps es ⟨f,wh,num,s⟩) by simp only [stepBk,takeT_ok hok]] at h1
 rw [takeT_ok hok,takeT_ok hok] at hn
 obtain ⟨a1,c1,a2,c2,a3,c3,rfl,rfl,rfl⟩:=hn.slices
 exact ⟨a1,c1,a2,c2,a3,c3,_,_,rfl,hn,take_book _ hok,h1,hb⟩
theorem takeAll_ok (vk vp ve vl:Value) (ks ps:List Tri) (es:List Ent) (L:List Chg) (w:World) (hB:BookAt w vk vp ve ks ps es) (hok:bookB ks ps es = true) (hs:SmB (ks,ps,es)) (hL:ChgsAt w vl L) (hl:L.length ≤ 24) (hc:∀ c ∈ L,SmC c) :
  Calls Tryz.prog 8 #[.agg #[vk,vp,ve],vl] w fun e w' => ∃ a1 c1 a2 c2 a3 c3 es' a4 n4 c4,e = .returned (.tuple #[.agg #[.slice a1 ks.length c1,.slice a2 ps.length c2,.slice a3 (List.length es') c3],.slice a4 n4 c4]) ∧ BookNew w.heap.size w' (.slice a1 ks.length c1) (.slice a2 ps.length c2) (.slice a3 es'.length c3) ks ps es' ∧ bookB ks ps es' = true ∧ SmB (ks,ps,es') ∧ Below w.heap.size w w':=by
 have hc':∀ c ∈ L,c.f.size ≤ 1048576 ∧ c.v.size ≤ 1048576:=fun c h => ⟨Nat.le_trans (hc c h).1 (by omega),Nat.le_trans (hc c h).2 (by omega)⟩
 refine (specTakeAll_any vk vp ve vl ks ps es L w hB hL hs hc' (by omega)).mono ?_
 rintro e w' ⟨x,y,z,v,rfl,hn,hi,hb⟩
 obtain ⟨es',h1,h2⟩:=steps_ok L hok
 have h3:=hs.steps (L:=L) hc'
 have e1:allR ks ps es L = (ks,ps,es'):=by unfold allR; rw [hok]; exact h1
 rw [h1] at h3
 rw [e1] at hn
 have hn':BookNew w.heap.size w' x y z ks ps es':=hn
 obtain ⟨a1,c1,a2,c2,a3,c3,rfl,rfl,rfl⟩:=hn'.slices
 obtain ⟨a4,c4,rfl⟩:=own_sliceD hi
 exact ⟨a1,c1,a2,c2,a3,c3,es',a4,_,c4,rfl,hn',h2,h3,hb⟩
set_option maxRecDepth 100000 in
set_option maxHeartbeats 12800000 in
theorem l3Book_any (R p:Nat) (vk vp:Value) (ks ps:List Tri) (w:World) (h:Rd w R p) (hp:p ≤ 600000) (hk:TrisAt w vk ks) (hv:TrisAt w vp ps) (kB:kindsB ks = true) (pB:pointsB ps = true) (h1:1 ≤ ps.length) :
  Calls Tryz.prog 31 #[.pointer (some ⟨R,0,none⟩),.agg #[vk,vp]] w fun e w' => ∃ (x y z:Value) (es:List Ent),e = .returned (.agg #[x,y,z]) ∧ BookNew (w.heap.size + 3) w' x y z ks ps es ∧ bookB ks ps es = true ∧ SmB (ks,ps,es) ∧ Out w R p 1200 w':=by
 have hRlt:=h.lt
 have HR0:=toHid h
 have HK0:=toHid hk
 have HP0:=toHid hv
 have hkl:=(kinds_le kB).1
 have hpl:=(points_le pB).1
 have NP:=toHid (points_le pB).2
 have BN:=toHid (book_nil kB pB)
 have SN:=toHid (sm_nil kB pB)
 obtain ⟨ka,kc,rfl,-,-,-⟩:=hk
 obtain ⟨pa,pc,rfl,-,-,-⟩:=hv
 have HX0:Hid (Blk3 w (((w.alloc (.cells #[(.slice ka ks.length kc),(.slice pa ps.length pc)] 26)).alloc (.cells #[.slice none 0 0,.slice none 0 0,.slice none 0 0] 29)).alloc (.cells #[.slice none 0 0,.slice none 0 0,.slice none 0 0] 29)) (.cells #[(.slice ka ks.length kc),(.slice pa ps.length pc)] 26) (.cells #[.slice none 0 0,.slice none 0 0,.slice none 0 0] 29) (.cells #[.slice none 0 0,.slice none 0 0,.slice none 0 0] 29)):=Blk3.start w _ _ _
 have HC0:((w.alloc (.cells #[(.slice ka ks.length kc),(.slice pa ps.length pc)] 26)).alloc (.cells #[.slice none 0 0,.slice none 0 0,.slice none 0 0] 29)).heap[w.heap.size]? = some (.cells #[(.slice ka ks.length kc),(.slice pa ps.length pc)] 26 (0,0)):=by
  rw [((Below.refl _ _).alloc (Nat.le_refl _) _:Below (w.alloc (.cells #[(.slice ka ks.length kc),(.slice pa ps.length pc)] 26)).heap.size (w.alloc (.cells #[(.slice ka ks.length kc),(.slice pa ps.length pc)] 26)) ((w.alloc (.cells #[(.slice ka ks.length kc),(.slice pa ps.length pc)] 26)).alloc (.cells #[.slice none 0 0,.slice none 0 0,.slice none 0 0] 29))).block _ (by simp)]
  exact heap_newD w _
 have hR9:=HX0.out.b2
 rw [show w.heap.size + 1 + 1 = w.heap.size + 2 by omega] at hR9
 have L1:Hid (LB w ((((w.alloc (.cells #[(.slice ka ks.length kc),(.slice pa ps.length pc)] 26)).alloc (.cells #[.slice none 0 0,.slice none 0 0,.slice none 0 0] 29)).alloc (.cells #[.slice none 0 0,.slice none 0 0,.slice none 0 0] 29)).setRow (w.heap.size + 2) #[(.slice ka ks.length kc),(.slice pa ps.length pc),.slice none 0 0]) R p (.slice ka ks.length kc) (.slice pa ps.length pc) (.slice ka ks.length kc) (.slice pa ps.length pc) (.slice none 0 0) ks ps []):=by
  have ho:∀ b,b ≠ w.heap.size + 2 → ((((w.alloc (.cells #[(.slice ka ks.length kc),(.slice pa ps.length pc)] 26)).alloc (.cells #[.slice none 0 0,.slice none 0 0,.slice none 0 0] 29)).alloc (.cells #[.slice none 0 0,.slice none 0 0,.slice none 0 0] 29)).setRow (w.heap.size + 2) #[(.slice ka ks.length kc),(.slice pa ps.length pc),.slice none 0 0]).heap[b]? = (((w.alloc (.cells #[(.slice ka ks.length kc),(.slice pa ps.length pc)] 26)).alloc (.cells #[.slice none 0 0,.slice none 0 0,.slice none 0 0] 29)).alloc (.cells #[.slice none 0 0,.slice none 0 0,.slice none 0 0] 29)).heap[b]?:=fun b hb => setRow_other _ _ _ _ hb
  exact ⟨(h.far HX0.out.below).late (fun j hj => ho j (by omega)),grown_row (grown_of HX0.out.below _) _ (by omega),(ho _ (by omega)).trans HX0.out.b0,(ho _ (by omega)).trans HX0.out.b1,setRow_heap _ _ _ _ _ _ hR9,.inl ⟨rfl,rfl,rfl,rfl⟩,BN.out,SN.out⟩
 have b0:=cell_blkD HC0 (i:=0) rfl
 have b1:=cell_blkD HC0 (i:=1) rfl
 clear h HC0 HX0 kB pB
 go_enter Tryz.func31,Tryz.ntmps31
 go_wp2_with (refine wpList_store_row rfl 29 _ _ rfl (w.heap.size + 2) #[(.slice ka ks.length kc),(.slice pa ps.length pc),.slice none 0 0] rfl rfl 29 _ hR9 (by kernel_rfl) rfl (by simp [Value.oneCell']) ?_)
 clear b0 b1 hR9
 generalize ((((w.alloc (.cells #[(.slice ka ks.length kc),(.slice pa ps.length pc)] 26)).alloc (.cells #[.slice none 0 0,.slice none 0 0,.slice none 0 0] 29)).alloc (.cells #[.slice none 0 0,.slice none 0 0,.slice none 0 0] 29)).setRow (w.heap.size + 2) #[(.slice ka ks.length kc),(.slice pa ps.length pc),.slice none 0 0]) = w1 at *
 refine (pick_any R p 3 _ L1.out.rd (by omega) (by omega)).mono ?_
 rintro e w2 ⟨x,rfl,hx0,hx1,-,hr,hg⟩
 have L2:=toHid (L1.out.pick hRlt hr hg)
 clear hr hg L1 hx1
 by_cases hx:0 < x
 ·go_wp2
  go_loopw [6] (fun i wr => ∃ k:Nat,1 ≤ k ∧ k ≤ 5 ∧ i = .int .i64 k ∧ Hid (∃ x y z es px,LB w wr R px (.slice ka ks.length kc) (.slice pa ps.length pc) x y z ks ps es ∧ p ≤ px ∧ px ≤ p + 1 + 20 * k)) (fun i _ => 5 - (intOf i).toNat)
  case atStart => exact ⟨1,by omega,by omega,rfl,_,_,_,_,_,L2.out,by omega,by omega⟩
  case round =>
   obtain ⟨k,hk1,hk5,rfl,HI⟩:=hrel
   obtain ⟨x,y,z,es,px,hl,hpx1,hpx2⟩:=HI.out
   have LR:=toHid hl
   clear HI hl L2
   by_cases hk:k ≤ 4
   ·have hkd:(k:Int) ≤ 4:=by omega
    obtain ⟨a1,c1,a2,c2,a3,c3,hs1,hs2,hs3⟩:=LR.out.slices HR0.out HK0.out HP0.out
    subst hs1
    subst hs2
    subst hs3
    have HSS:Hid (∀ (wx:World) (q:Nat),LB w wx R q (.slice ka ks.length kc) (.slice pa ps.length pc) (.slice a1 ks.length c1) (.slice a2 ps.length c2) (.slice a3 (List.length es) c3) ks ps es → ((wx.cell? ⟨w.heap.size + 2,0,none⟩ = some (.slice a1 ks.length c1) ∧ wx.cell? ⟨w.heap.size + 2,1,none⟩ = some (.slice a2 ps.length c2) ∧ wx.cell? ⟨w.heap.size + 2,2,none⟩ = some (.slice a3 es.length c3)) ∧ wx.cell? ⟨w.heap.size,0,none⟩ = some (.slice ka ks.length kc) ∧ wx.cell? ⟨w.heap.size,1,none⟩ = some (.slice pa ps.length pc))):=fun wx q h => ⟨⟨cell_blkD h.bx rfl,cell_blkD h.bx rfl,cell_blkD h.bx rfl⟩,cell_blkD h.pb rfl,cell_blkD h.pb rfl⟩
    go_wp2
    refine wp_region_noPanic ?_
    refine wp_region_til (S:=fun wx => ((wx.cell? ⟨w.heap.size + 2,0,none⟩ = some (.slice a1 ks.length c1) ∧ wx.cell? ⟨w.heap.size + 2,1,none⟩ = some (.slice a2 ps.length c2) ∧ wx.cell? ⟨w.heap.size + 2,2,none⟩ = some (.slice a3 es.length c3)) ∧ wx.cell? ⟨w.heap.size,0,none⟩ = some (.slice ka ks.length kc) ∧ wx.cell? ⟨w.heap.size,1,none⟩ = some (.slice pa ps.length pc))) 11 (by kernel_rfl) ?_ (fun hHeld => ?_)
    ·exact HSS.out _ _ (LR.out.call (Below.refl _ _).drew)
    have L0:=toHid (LR.out.call (Below.refl _ _).drew)
    generalize wr.drew = W0 at *
    clear LR
    refine tkU 0 ?_ rfl ?_ (tkU 1 ?_ rfl ?_ (tkU 2 ?_ rfl ?_ (tkU 3 ?_ rfl ?_ (tkU 4 ?_ rfl ?_ ?_))))
    iterate 5 (rotate_left; focus (intro w hSw; (try dsimp only at hSw); simp only [Act.put,tkS]; go_simp; try with_reducible rfl))
    simp only [Act.put,tkS]
    clear hHeld
    refine rdU 5 rfl (fun K hK => ?_)
    go_simp
    refine (l2Value_any R px _ _ ps k _ L0.out.rd (by omega) (TrisAt_box HP0.out HR0.out L0.out.gr) ⟨h1,by omega⟩ (fun t ht => by have:=NP.out t ht; omega)).mono ?_
    rintro e W1 ⟨s,rfl,hs,p1,hp11,hp12,hr1,hg1⟩
    have L1:=toHid (L0.out.pick hRlt hr1 hg1)
    have hHeld:=HSS.out _ _ L1.out
    refine hK.out _ _ (.inr (.inr hHeld)) ?_
    clear hK K hr1 hg1 L0
    refine tkU 6 ?_ rfl ?_ ?_; rotate_left
    ·intro w hSw; (try dsimp only at hSw); go_simp; try with_reducible rfl
    simp only [Act.put,tkS]
    clear hHeld
    refine rdU 7 rfl (fun K hK => ?_)
    go_simp
    refine (take_ok _ _ _ ks ps es ⟨#[107,108,49]⟩ k 1 s _ (L1.out.at HR0.out HK0.out HP0.out) L1.out.ok L1.out.sm (by show 3 ≤ 2000; omega) hs).mono ?_
    rintro e W2 ⟨b1,d1,b2,d2,b3,d3,es2,u9,rfl,hn9,hok9,hsm9,hb9⟩
    have L7:=toHid (L1.out.put hRlt hb9 hn9 hok9 hsm9)
    have N7:=toHid (L1.out.putN hb9 hn9)
    have hbx9:=(L1.out.call hb9).bx
    have hHeld:=HSS.out _ _ (L1.out.call hb9)
    refine hK.out _ _ (.inr (.inr hHeld)) ?_
    clear hK K
    refine tkU 8 ?_ rfl ?_ (tkU 9 ?_ rfl ?_ (tkP 10 ?_ rfl ?_ ?_))
    iterate 3 (rotate_left; focus (intro w hSw; (try dsimp only at hSw); simp only [Act.put,tkS]; go_simp; try with_reducible rfl))
    simp only [Act.put,tkS]
    clear hHeld
    refine rdU 11 rfl (fun K hK => ?_)
    refine step_store_rowC rfl 29 _ _ rfl (w.heap.size + 2) #[.slice b1 ks.length d1,.slice b2 ps.length d2,.slice b3 es2.length d3] rfl rfl 29 _ hbx9 (by kernel_rfl) rfl (by simp [Value.oneCell']) ?_
    refine hK.out _ _ (.inl rfl) ?_
    clear hK K
    refine wpTil_done (by kernel_rfl) ?_ _
    refine NoPanic.normal ?_
    generalize (W2.setRow (w.heap.size + 2) #[.slice b1 ks.length d1,.slice b2 ps.length d2,.slice b3 es2.length d3]) = W8 at *
    clear hbx9 hb9 hn9 hok9 hsm9 L1
    have HNX:Hid (∃ x y z es px,LB w W8 R px (.slice ka ks.length kc) (.slice pa ps.length pc) x y z ks ps es ∧ p ≤ px ∧ px ≤ p + 1 + 20 * (k + 1)):=⟨_,_,_,_,_,L7.out,by omega,by omega⟩
    go_wp2
    exact ⟨⟨k + 1,by omega,by omega,by go_num,HNX⟩,by simp [intOf]; omega⟩
   ·have hkd:¬ (k:Int) ≤ 4:=by omega
    obtain ⟨a1,c1,a2,c2,a3,c3,hs1,hs2,hs3⟩:=LR.out.slices HR0.out HK0.out HP0.out
    subst hs1
    subst hs2
    subst hs3
    have HSS:Hid (∀ (wx:World) (q:Nat),LB w wx R q (.slice ka ks.length kc) (.slice pa ps.length pc) (.slice a1 ks.length c1) (.slice a2 ps.length c2) (.slice a3 (List.length es) c3) ks ps es → ((wx.cell? ⟨w.heap.size + 2,0,none⟩ = some (.slice a1 ks.length c1) ∧ wx.cell? ⟨w.heap.size + 2,1,none⟩ = some (.slice a2 ps.length c2) ∧ wx.cell? ⟨w.heap.size + 2,2,none⟩ = some (.slice a3 es.length c3)) ∧ wx.cell? ⟨w.heap.size,0,none⟩ = some (.slice ka ks.length kc) ∧ wx.cell? ⟨w.heap.size,1,none⟩ = some (.slice pa ps.length pc))):=fun wx q h => ⟨⟨cell_blkD h.bx rfl,cell_blkD h.bx rfl,cell_blkD h.bx rfl⟩,cell_blkD h.pb rfl,cell_blkD h.pb rfl⟩
    go_wp2
    refine wp_region_noPanic ?_
    refine wp_region_til (S:=fun wx => ((wx.cell? ⟨w.heap.size + 2,0,none⟩ = some (.slice a1 ks.length c1) ∧ wx.cell? ⟨w.heap.size + 2,1,none⟩ = some (.slice a2 ps.length c2) ∧ wx.cell? ⟨w.heap.size + 2,2,none⟩ = some (.slice a3 es.length c3)) ∧ wx.cell? ⟨w.heap.size,0,none⟩ = some (.slice ka ks.length kc) ∧ wx.cell? ⟨w.heap.size,1,none⟩ = some (.slice pa ps.length pc))) 8 (by kernel_rfl) ?_ (fun hHeld => ?_)
    ·exact HSS.out _ _ (LR.out.call (Below.refl _ _).drew)
    have L0:=toHid (LR.out.call (Below.refl _ _).drew)
    generalize wr.drew = W0 at *
    clear LR
    refine tkU 0 ?_ rfl ?_ (tkU 1 ?_ rfl ?_ (tkU 2 ?_ rfl ?_ ?_))
    iterate 3 (rotate_left; focus (intro w hSw; (try dsimp only at hSw); simp only [Act.put,tkS]; go_simp; try with_reducible rfl))
    simp only [Act.put,tkS]
    clear hHeld
    refine rdU 3 rfl (fun K hK => ?_)
    go_simp
    refine (l3Changes_any R _ _ _ ps 24 _ L0.out.rd (by omega) (by omega) (TrisAt_box HP0.out HR0.out L0.out.gr) ⟨h1,by omega⟩ (fun t ht => by have:=NP.out t ht; omega)).mono ?_
    rintro e W1 ⟨v,l,rfl,hcn,hcl,hcs,p1,hp11,hp12,hr1,hg1⟩
    have L1:=toHid (L0.out.pick hRlt hr1 hg1)
    have HCN:Hid (ChgsAt W1 v l ∧ l.length ≤ 24 ∧ ∀ c ∈ l,SmC c):=⟨hcn.at,hcl,hcs⟩
    refine hK.out _ _ (.inr (.inr (HSS.out _ _ L1.out))) ?_
    clear hK K hcn hcl hcs hr1 hg1 L0
    refine rdU 4 rfl (fun K hK => ?_)
    go_simp
    refine (takeAll_ok _ _ _ v ks ps es l _ (L1.out.at HR0.out HK0.out HP0.out) L1.out.ok L1.out.sm HCN.out.1 HCN.out.2.1 HCN.out.2.2).mono ?_
    rintro e W2 ⟨b1,d1,b2,d2,b3,d3,es2,b4,n4,d4,rfl,hn9,hok9,hsm9,hb9⟩
    have L7:=toHid (L1.out.put hRlt hb9 hn9 hok9 hsm9)
    have N7:=toHid (L1.out.putN hb9 hn9)
    have hbx9:=(L1.out.call hb9).bx
    have hHeld:=HSS.out _ _ (L1.out.call hb9)
    refine hK.out _ _ (.inr (.inr hHeld)) ?_
    clear hK K
    refine tkU 5 ?_ rfl ?_ (tkU 6 ?_ rfl ?_ (tkP 7 ?_ rfl ?_ ?_))
    iterate 3 (rotate_left; focus (intro w hSw; (try dsimp only at hSw); simp only [Act.put,tkS]; go_simp; try with_reducible rfl))
    simp only [Act.put,tkS]
    clear hHeld
    refine rdU 8 rfl (fun K hK => ?_)
    refine step_store_rowC rfl 29 _ _ rfl (w.heap.size + 2) #[.slice b1 ks.length d1,.slice b2 ps.length d2,.slice b3 es2.length d3] rfl rfl 29 _ hbx9 (by kernel_rfl) rfl (by simp [Value.oneCell']) ?_
    refine hK.out _ _ (.inl rfl) ?_
    clear hK K
    refine wpTil_done (by kernel_rfl) ?_ _
    refine NoPanic.normal ?_
    generalize (W2.setRow (w.heap.size + 2) #[.slice b1 ks.length d1,.slice b2 ps.length d2,.slice b3 es2.length d3]) = W8 at *
    clear hbx9 hb9 hn9 hok9 hsm9 L1
    clear HSS HCN
    obtain ⟨Q1,hQ1⟩:∃ q,p1 = q:=⟨_,rfl⟩
    go_wp2_with fail
    refine (pick_any R p1 16 _ L7.out.rd (by omega) (by omega)).mono ?_
    rintro e w9 ⟨y,rfl,hy0,hy1,-,hr9,hg9⟩
    have L9:=toHid (L7.out.pick hRlt hr9 hg9)
    have N9:=toHid (N7.out.far hg9 (by omega))
    clear hr9 hg9 L7 N7 hy1
    by_cases hy:y = 0
    ·have hyb:(y == 0) = true:=by simp [hy]
     clear hy
     go_wp2
     go_loopw [7] (fun i wr => ∃ k:Nat,k ≤ 12 ∧ i = .int .i64 k ∧ Hid (∃ x y z es,LB w wr R (p1 + 1) (.slice ka ks.length kc) (.slice pa ps.length pc) x y z ks ps es ∧ BookNew (w.heap.size + 3) wr x y z ks ps es)) (fun i _ => 12 - (intOf i).toNat)
     case atStart => exact ⟨0,Nat.zero_le _,rfl,_,_,_,_,L9.out,N9.out⟩
     case round =>
      obtain ⟨k,hk12,rfl,HI⟩:=hrel
      obtain ⟨x,y,z,es,hl,hn⟩:=HI.out
      have LR:=toHid hl
      have NR:=toHid hn
      clear HI hl hn L9 N9
      by_cases hk:k < 12
      ·have hkd:(k:Int) < 12:=by omega
       have hds:=decS_size k (by omega)
       have hdn:¬ 9223372036854775807 < 1 + (decS k).size:=by omega
       have hfs:(⟨#[102]⟩ ++ decS k:ByteArray).size ≤ 2000:=by simp only [ByteArray.size_append]; show 1 + _ ≤ 2000; omega
       obtain ⟨a1,c1,a2,c2,a3,c3,hs1,hs2,hs3⟩:=LR.out.slices HR0.out HK0.out HP0.out
       subst hs1
       subst hs2
       subst hs3
       have HSS:Hid (∀ (wx:World) (q:Nat),LB w wx R q (.slice ka ks.length kc) (.slice pa ps.length pc) (.slice a1 ks.length c1) (.slice a2 ps.length c2) (.slice a3 (List.length es) c3) ks ps es → ((wx.cell? ⟨w.heap.size + 2,0,none⟩ = some (.slice a1 ks.length c1) ∧ wx.cell? ⟨w.heap.size + 2,1,none⟩ = some (.slice a2 ps.length c2) ∧ wx.cell? ⟨w.heap.size + 2,2,none⟩ = some (.slice a3 es.length c3)) ∧ wx.cell? ⟨w.heap.size,0,none⟩ = some (.slice ka ks.length kc) ∧ wx.cell? ⟨w.heap.size,1,none⟩ = some (.slice pa ps.length pc))):=fun wx q h => ⟨⟨cell_blkD h.bx rfl,cell_blkD h.bx rfl,cell_blkD h.bx rfl⟩,cell_blkD h.pb rfl,cell_blkD h.pb rfl⟩
       go_wp2
       refine wp_region_noPanic ?_
       refine wp_region_til (S:=fun wx => ((wx.cell? ⟨w.heap.size + 2,0,none⟩ = some (.slice a1 ks.length c1) ∧ wx.cell? ⟨w.heap.size + 2,1,none⟩ = some (.slice a2 ps.length c2) ∧ wx.cell? ⟨w.heap.size + 2,2,none⟩ = some (.slice a3 es.length c3)) ∧ wx.cell? ⟨w.heap.size,0,none⟩ = some (.slice ka ks.length kc) ∧ wx.cell? ⟨w.heap.size,1,none⟩ = some (.slice pa ps.length pc))) 9 (by kernel_rfl) ?_ (fun hHeld => ?_)
       ·exact HSS.out _ _ (LR.out.call (Below.refl _ _).drew)
       have L0:=toHid (LR.out.call (Below.refl _ _).drew)
       generalize wr.drew = W0 at *
       clear LR
       refine tkU 0 ?_ rfl ?_ (tkU 1 ?_ rfl ?_ ?_)
       iterate 2 (rotate_left; focus (intro w hSw; (try dsimp only at hSw); simp only [Act.put,tkS]; go_simp; try with_reducible rfl))
       simp only [Act.put,tkS]
       clear hHeld
       refine rdU 2 rfl (fun K hK => ?_)
       go_simp
       refine (l2Dec_any k (by omega) _).mono ?_
       rintro e W1 ⟨rfl,hb1⟩
       have L1:=toHid (L0.out.call hb1)
       have hHeld:=HSS.out _ _ L1.out
       refine hK.out _ _ (.inr (.inr hHeld)) ?_
       clear hK K hb1 L0 NR
       refine tkU 3 ?_ rfl ?_ ?_; rotate_left
       ·intro w hSw; (try dsimp only at hSw); go_simp; try with_reducible rfl
       simp only [Act.put,tkS]
       generalize (⟨#[102]⟩ ++ decS k:ByteArray) = nm at *
       refine tkU 4 ?_ rfl ?_ ?_; rotate_left
       ·intro w hSw; (try dsimp only at hSw); go_simp; try with_reducible rfl
       simp only [Act.put,tkS]
       clear hHeld hds hdn
       refine rdU 5 rfl (fun K hK => ?_)
       go_simp
       refine (take_ok _ _ _ ks ps es nm 3 5 ⟨#[50]⟩ _ (L1.out.at HR0.out HK0.out HP0.out) L1.out.ok L1.out.sm hfs (by show 1 ≤ 2000; omega)).mono ?_
       rintro e W2 ⟨b1,d1,b2,d2,b3,d3,es2,u9,rfl,hn9,hok9,hsm9,hb9⟩
       have L7:=toHid (L1.out.put hRlt hb9 hn9 hok9 hsm9)
       have N7:=toHid (L1.out.putN hb9 hn9)
       have hbx9:=(L1.out.call hb9).bx
       have hHeld:=HSS.out _ _ (L1.out.call hb9)
       refine hK.out _ _ (.inr (.inr hHeld)) ?_
       clear hK K
       refine tkU 6 ?_ rfl ?_ (tkU 7 ?_ rfl ?_ (tkP 8 ?_ rfl ?_ ?_))
       iterate 3 (rotate_left; focus (intro w hSw; (try dsimp only at hSw); simp only [Act.put,tkS]; go_simp; try with_reducible rfl))
       simp only [Act.put,tkS]
       clear hHeld
       refine rdU 9 rfl (fun K hK => ?_)
       refine step_store_rowC rfl 29 _ _ rfl (w.heap.size + 2) #[.slice b1 ks.length d1,.slice b2 ps.length d2,.slice b3 es2.length d3] rfl rfl 29 _ hbx9 (by kernel_rfl) rfl (by simp [Value.oneCell']) ?_
       refine hK.out _ _ (.inl rfl) ?_
       clear hK K
       refine wpTil_done (by kernel_rfl) ?_ _
       refine NoPanic.normal ?_
       generalize (W2.setRow (w.heap.size + 2) #[.slice b1 ks.length d1,.slice b2 ps.length d2,.slice b3 es2.length d3]) = W8 at *
       clear hbx9 hb9 hn9 hok9 hsm9 L1
       have HNX:Hid (∃ x y z es,LB w W8 R (p1 + 1) (.slice ka ks.length kc) (.slice pa ps.length pc) x y z ks ps es ∧ BookNew (w.heap.size + 3) W8 x y z ks ps es):=⟨_,_,_,_,L7.out,N7.out⟩
       go_wp2
       exact ⟨⟨k + 1,by omega,by go_num,HNX⟩,by simp [intOf]; omega⟩
      ·have hkd:¬ (k:Int) < 12:=by omega
       obtain ⟨a1,c1,a2,c2,a3,c3,hs1,hs2,hs3⟩:=LR.out.slices HR0.out HK0.out HP0.out
       subst hs1
       subst hs2
       subst hs3
       have HSS:Hid (∀ (wx:World) (q:Nat),LB w wx R q (.slice ka ks.length kc) (.slice pa ps.length pc) (.slice a1 ks.length c1) (.slice a2 ps.length c2) (.slice a3 (List.length es) c3) ks ps es → ((wx.cell? ⟨w.heap.size + 2,0,none⟩ = some (.slice a1 ks.length c1) ∧ wx.cell? ⟨w.heap.size + 2,1,none⟩ = some (.slice a2 ps.length c2) ∧ wx.cell? ⟨w.heap.size + 2,2,none⟩ = some (.slice a3 es.length c3)) ∧ wx.cell? ⟨w.heap.size,0,none⟩ = some (.slice ka ks.length kc) ∧ wx.cell? ⟨w.heap.size,1,none⟩ = some (.slice pa ps.length pc))):=fun wx q h => ⟨⟨cell_blkD h.bx rfl,cell_blkD h.bx rfl,cell_blkD h.bx rfl⟩,cell_blkD h.pb rfl,cell_blkD h.pb rfl⟩
       have q0:wr.cell? ⟨w.heap.size + 1 + 1,0,none⟩ = some (.slice a1 ks.length c1):=cell_blkD LR.out.bx (i:=0) rfl
       have q1:wr.cell? ⟨w.heap.size + 1 + 1,1,none⟩ = some (.slice a2 ps.length c2):=cell_blkD LR.out.bx (i:=1) rfl
       have q2:wr.cell? ⟨w.heap.size + 1 + 1,2,none⟩ = some (.slice a3 es.length c3):=cell_blkD LR.out.bx (i:=2) rfl
       have hR9:=LR.out.rs
       have HFI:Hid (BookNew (w.heap.size + 3) (wr.setRow (w.heap.size + 1) #[.slice a1 ks.length c1,.slice a2 ps.length c2,.slice a3 es.length c3]) (.slice a1 ks.length c1) (.slice a2 ps.length c2) (.slice a3 es.length c3) ks ps es ∧ bookB ks ps es = true ∧ SmB (ks,ps,es) ∧ Out w R p 1200 (wr.setRow (w.heap.size + 1) #[.slice a1 ks.length c1,.slice a2 ps.length c2,.slice a3 es.length c3])):=by
        have ho:∀ b,b ≠ w.heap.size + 1 → (wr.setRow (w.heap.size + 1) #[.slice a1 ks.length c1,.slice a2 ps.length c2,.slice a3 es.length c3]).heap[b]? = wr.heap[b]?:=fun b hb => setRow_other _ _ _ _ hb
        have hg:wr.grownBy (wr.setRow (w.heap.size + 1) #[.slice a1 ks.length c1,.slice a2 ps.length c2,.slice a3 es.length c3]) (some (w.heap.size + 1)):=⟨rfl,rfl,rfl,by simp,fun j _ hj => ho j (fun e => hj (by rw [e]))⟩
        exact ⟨NR.out.far hg (by omega),LR.out.ok,LR.out.sm,_,by omega,by omega,LR.out.rd.late (fun j hj => ho j (by omega)),grown_row LR.out.gr _ (by omega)⟩
       go_wp2_with (refine wpList_store_row rfl 29 _ _ rfl (w.heap.size + 1) #[.slice a1 ks.length c1,.slice a2 ps.length c2,.slice a3 es.length c3] rfl rfl 29 _ hR9 (by kernel_rfl) rfl (by simp [Value.oneCell']) ?_)
       exact bodyPost_ret (v:=.agg #[.slice a1 ks.length c1,.slice a2 ps.length c2,.slice a3 es.length c3]) (by simp [results,Tryz.results31,go_sem,cell_setRow_same _ _ _ _ _ _ _ hR9]) rfl (by first | exact ⟨_,_,_,es,rfl,HFI.out⟩ | exact ⟨_,_,_,rfl,es,HFI.out⟩)
    ·have hyb:(y == 0) = false:=by simp [hy]
     clear hy
     have q0:w9.cell? ⟨w.heap.size + 1 + 1,0,none⟩ = some (.slice b1 ks.length d1):=cell_blkD L9.out.bx (i:=0) rfl
     have q1:w9.cell? ⟨w.heap.size + 1 + 1,1,none⟩ = some (.slice b2 ps.length d2):=cell_blkD L9.out.bx (i:=1) rfl
     have q2:w9.cell? ⟨w.heap.size + 1 + 1,2,none⟩ = some (.slice b3 es2.length d3):=cell_blkD L9.out.bx (i:=2) rfl
     have hR9:=L9.out.rs
     have HFI:Hid (BookNew (w.heap.size + 3) (w9.setRow (w.heap.size + 1) #[.slice b1 ks.length d1,.slice b2 ps.length d2,.slice b3 es2.length d3]) (.slice b1 ks.length d1) (.slice b2 ps.length d2) (.slice b3 es2.length d3) ks ps es2 ∧ bookB ks ps es2 = true ∧ SmB (ks,ps,es2) ∧ Out w R p 1200 (w9.setRow (w.heap.size + 1) #[.slice b1 ks.length d1,.slice b2 ps.length d2,.slice b3 es2.length d3])):=by
      have ho:∀ b,b ≠ w.heap.size + 1 → (w9.setRow (w.heap.size + 1) #[.slice b1 ks.length d1,.slice b2 ps.length d2,.slice b3 es2.length d3]).heap[b]? = w9.heap[b]?:=fun b hb => setRow_other _ _ _ _ hb
      have hg:w9.grownBy (w9.setRow (w.heap.size + 1) #[.slice b1 ks.length d1,.slice b2 ps.length d2,.slice b3 es2.length d3]) (some (w.heap.size + 1)):=⟨rfl,rfl,rfl,by simp,fun j _ hj => ho j (fun e => hj (by rw [e]))⟩
      exact ⟨N9.out.far hg (by omega),L9.out.ok,L9.out.sm,_,by omega,by omega,L9.out.rd.late (fun j hj => ho j (by omega)),grown_row L9.out.gr _ (by omega)⟩
     go_wp2_with (refine wpList_store_row rfl 29 _ _ rfl (w.heap.size + 1) #[.slice b1 ks.length d1,.slice b2 ps.length d2,.slice b3 es2.length d3] rfl rfl 29 _ hR9 (by kernel_rfl) rfl (by simp [Value.oneCell']) ?_)
     exact bodyPost_ret (v:=.agg #[.slice b1 ks.length d1,.slice b2 ps.length d2,.slice b3 es2.length d3]) (by simp [results,Tryz.results31,go_sem,cell_setRow_same _ _ _ _ _ _ _ hR9]) rfl (by first | exact ⟨_,_,_,es2,rfl,HFI.out⟩ | exact ⟨_,_,_,rfl,es2,HFI.out⟩)
 ·obtain ⟨X0,Y0,Z0,es,LR⟩:∃ x y z es,Hid (LB w w2 R (p + 1) (.slice ka ks.length kc) (.slice pa ps.length pc) x y z ks ps es):=⟨_,_,_,_,L2⟩
  clear L2
  obtain ⟨a1,c1,a2,c2,a3,c3,hs1,hs2,hs3⟩:=LR.out.slices HR0.out HK0.out HP0.out
  subst hs1
  subst hs2
  subst hs3
  have HSS:Hid (∀ (wx:World) (q:Nat),LB w wx R q (.slice ka ks.length kc) (.slice pa ps.length pc) (.slice a1 ks.length c1) (.slice a2 ps.length c2) (.slice a3 (List.length es) c3) ks ps es → ((wx.cell? ⟨w.heap.size + 2,0,none⟩ = some (.slice a1 ks.length c1) ∧ wx.cell? ⟨w.heap.size + 2,1,none⟩ = some (.slice a2 ps.length c2) ∧ wx.cell? ⟨w.heap.size + 2,2,none⟩ = some (.slice a3 es.length c3)) ∧ wx.cell? ⟨w.heap.size,0,none⟩ = some (.slice ka ks.length kc) ∧ wx.cell? ⟨w.heap.size,1,none⟩ = some (.slice pa ps.length pc))):=fun wx q h => ⟨⟨cell_blkD h.bx rfl,cell_blkD h.bx rfl,cell_blkD h.bx rfl⟩,cell_blkD h.pb rfl,cell_blkD h.pb rfl⟩
  go_wp2
  refine wp_region_noPanic ?_
  refine wp_region_til (S:=fun wx => ((wx.cell? ⟨w.heap.size + 2,0,none⟩ = some (.slice a1 ks.length c1) ∧ wx.cell? ⟨w.heap.size + 2,1,none⟩ = some (.slice a2 ps.length c2) ∧ wx.cell? ⟨w.heap.size + 2,2,none⟩ = some (.slice a3 es.length c3)) ∧ wx.cell? ⟨w.heap.size,0,none⟩ = some (.slice ka ks.length kc) ∧ wx.cell? ⟨w.heap.size,1,none⟩ = some (.slice pa ps.length pc))) 8 (by kernel_rfl) ?_ (fun hHeld => ?_)
  ·exact HSS.out _ _ (LR.out.call (Below.refl _ _).drew)
  have L0:=toHid (LR.out.call (Below.refl _ _).drew)
  generalize w2.drew = W0 at *
  clear LR
  refine tkU 0 ?_ rfl ?_ (tkU 1 ?_ rfl ?_ (tkU 2 ?_ rfl ?_ ?_))
  iterate 3 (rotate_left; focus (intro w hSw; (try dsimp only at hSw); simp only [Act.put,tkS]; go_simp; try with_reducible rfl))
  simp only [Act.put,tkS]
  clear hHeld
  refine rdU 3 rfl (fun K hK => ?_)
  go_simp
  refine (l3Changes_any R _ _ _ ps 24 _ L0.out.rd (by omega) (by omega) (TrisAt_box HP0.out HR0.out L0.out.gr) ⟨h1,by omega⟩ (fun t ht => by have:=NP.out t ht; omega)).mono ?_
  rintro e W1 ⟨v,l,rfl,hcn,hcl,hcs,p1,hp11,hp12,hr1,hg1⟩
  have L1:=toHid (L0.out.pick hRlt hr1 hg1)
  have HCN:Hid (ChgsAt W1 v l ∧ l.length ≤ 24 ∧ ∀ c ∈ l,SmC c):=⟨hcn.at,hcl,hcs⟩
  refine hK.out _ _ (.inr (.inr (HSS.out _ _ L1.out))) ?_
  clear hK K hcn hcl hcs hr1 hg1 L0
  refine rdU 4 rfl (fun K hK => ?_)
  go_simp
  refine (takeAll_ok _ _ _ v ks ps es l _ (L1.out.at HR0.out HK0.out HP0.out) L1.out.ok L1.out.sm HCN.out.1 HCN.out.2.1 HCN.out.2.2).mono ?_
  rintro e W2 ⟨b1,d1,b2,d2,b3,d3,es2,b4,n4,d4,rfl,hn9,hok9,hsm9,hb9⟩
  have L7:=toHid (L1.out.put hRlt hb9 hn9 hok9 hsm9)
  have N7:=toHid (L1.out.putN hb9 hn9)
  have hbx9:=(L1.out.call hb9).bx
  have hHeld:=HSS.out _ _ (L1.out.call hb9)
  refine hK.out _ _ (.inr (.inr hHeld)) ?_
  clear hK K
  refine tkU 5 ?_ rfl ?_ (tkU 6 ?_ rfl ?_ (tkP 7 ?_ rfl ?_ ?_))
  iterate 3 (rotate_left; focus (intro w hSw; (try dsimp only at hSw); simp only [Act.put,tkS]; go_simp; try with_reducible rfl))
  simp only [Act.put,tkS]
  clear hHeld
  refine rdU 8 rfl (fun K hK => ?_)
  refine step_store_rowC rfl 29 _ _ rfl (w.heap.size + 2) #[.slice b1 ks.length d1,.slice b2 ps.length d2,.slice b3 es2.length d3] rfl rfl 29 _ hbx9 (by kernel_rfl) rfl (by simp [Value.oneCell']) ?_
  refine hK.out _ _ (.inl rfl) ?_
  clear hK K
  refine wpTil_done (by kernel_rfl) ?_ _
  refine NoPanic.normal ?_
  generalize (W2.setRow (w.heap.size + 2) #[.slice b1 ks.length d1,.slice b2 ps.length d2,.slice b3 es2.length d3]) = W8 at *
  clear hbx9 hb9 hn9 hok9 hsm9 L1
  clear HSS HCN
  obtain ⟨Q1,hQ1⟩:∃ q,p1 = q:=⟨_,rfl⟩
  go_wp2_with fail
  refine (pick_any R p1 16 _ L7.out.rd (by omega) (by omega)).mono ?_
  rintro e w9 ⟨y,rfl,hy0,hy1,-,hr9,hg9⟩
  have L9:=toHid (L7.out.pick hRlt hr9 hg9)
  have N9:=toHid (N7.out.far hg9 (by omega))
  clear hr9 hg9 L7 N7 hy1
  by_cases hy:y = 0
  ·have hyb:(y == 0) = true:=by simp [hy]
   clear hy
   go_wp2
   go_loopw [7] (fun i wr => ∃ k:Nat,k ≤ 12 ∧ i = .int .i64 k ∧ Hid (∃ x y z es,LB w wr R (p1 + 1) (.slice ka ks.length kc) (.slice pa ps.length pc) x y z ks ps es ∧ BookNew (w.heap.size + 3) wr x y z ks ps es)) (fun i _ => 12 - (intOf i).toNat)
   case atStart => exact ⟨0,Nat.zero_le _,rfl,_,_,_,_,L9.out,N9.out⟩
   case round =>
    obtain ⟨k,hk12,rfl,HI⟩:=hrel
    obtain ⟨x,y,z,es,hl,hn⟩:=HI.out
    have LR:=toHid hl
    have NR:=toHid hn
    clear HI hl hn L9 N9
    by_cases hk:k < 12
    ·have hkd:(k:Int) < 12:=by omega
     have hds:=decS_size k (by omega)
     have hdn:¬ 9223372036854775807 < 1 + (decS k).size:=by omega
     have hfs:(⟨#[102]⟩ ++ decS k:ByteArray).size ≤ 2000:=by simp only [ByteArray.size_append]; show 1 + _ ≤ 2000; omega
     obtain ⟨a1,c1,a2,c2,a3,c3,hs1,hs2,hs3⟩:=LR.out.slices HR0.out HK0.out HP0.out
     subst hs1
     subst hs2
     subst hs3
     have HSS:Hid (∀ (wx:World) (q:Nat),LB w wx R q (.slice ka ks.length kc) (.slice pa ps.length pc) (.slice a1 ks.length c1) (.slice a2 ps.length c2) (.slice a3 (List.length es) c3) ks ps es → ((wx.cell? ⟨w.heap.size + 2,0,none⟩ = some (.slice a1 ks.length c1) ∧ wx.cell? ⟨w.heap.size + 2,1,none⟩ = some (.slice a2 ps.length c2) ∧ wx.cell? ⟨w.heap.size + 2,2,none⟩ = some (.slice a3 es.length c3)) ∧ wx.cell? ⟨w.heap.size,0,none⟩ = some (.slice ka ks.length kc) ∧ wx.cell? ⟨w.heap.size,1,none⟩ = some (.slice pa ps.length pc))):=fun wx q h => ⟨⟨cell_blkD h.bx rfl,cell_blkD h.bx rfl,cell_blkD h.bx rfl⟩,cell_blkD h.pb rfl,cell_blkD h.pb rfl⟩
     go_wp2
     refine wp_region_noPanic ?_
     refine wp_region_til (S:=fun wx => ((wx.cell? ⟨w.heap.size + 2,0,none⟩ = some (.slice a1 ks.length c1) ∧ wx.cell? ⟨w.heap.size + 2,1,none⟩ = some (.slice a2 ps.length c2) ∧ wx.cell? ⟨w.heap.size + 2,2,none⟩ = some (.slice a3 es.length c3)) ∧ wx.cell? ⟨w.heap.size,0,none⟩ = some (.slice ka ks.length kc) ∧ wx.cell? ⟨w.heap.size,1,none⟩ = some (.slice pa ps.length pc))) 9 (by kernel_rfl) ?_ (fun hHeld => ?_)
     ·exact HSS.out _ _ (LR.out.call (Below.refl _ _).drew)
     have L0:=toHid (LR.out.call (Below.refl _ _).drew)
     generalize wr.drew = W0 at *
     clear LR
     refine tkU 0 ?_ rfl ?_ (tkU 1 ?_ rfl ?_ ?_)
     iterate 2 (rotate_left; focus (intro w hSw; (try dsimp only at hSw); simp only [Act.put,tkS]; go_simp; try with_reducible rfl))
     simp only [Act.put,tkS]
     clear hHeld
     refine rdU 2 rfl (fun K hK => ?_)
     go_simp
     refine (l2Dec_any k (by omega) _).mono ?_
     rintro e W1 ⟨rfl,hb1⟩
     have L1:=toHid (L0.out.call hb1)
     have hHeld:=HSS.out _ _ L1.out
     refine hK.out _ _ (.inr (.inr hHeld)) ?_
     clear hK K hb1 L0 NR
     refine tkU 3 ?_ rfl ?_ ?_; rotate_left
     ·intro w hSw; (try dsimp only at hSw); go_simp; try with_reducible rfl
     simp only [Act.put,tkS]
     generalize (⟨#[102]⟩ ++ decS k:ByteArray) = nm at *
     refine tkU 4 ?_ rfl ?_ ?_; rotate_left
     ·intro w hSw; (try dsimp only at hSw); go_simp; try with_reducible rfl
     simp only [Act.put,tkS]
     clear hHeld hds hdn
     refine rdU 5 rfl (fun K hK => ?_)
     go_simp
     refine (take_ok _ _ _ ks ps es nm 3 5 ⟨#[50]⟩ _ (L1.out.at HR0.out HK0.out HP0.out) L1.out.ok L1.out.sm hfs (by show 1 ≤ 2000; omega)).mono ?_
     rintro e W2 ⟨b1,d1,b2,d2,b3,d3,es2,u9,rfl,hn9,hok9,hsm9,hb9⟩
     have L7:=toHid (L1.out.put hRlt hb9 hn9 hok9 hsm9)
     have N7:=toHid (L1.out.putN hb9 hn9)
     have hbx9:=(L1.out.call hb9).bx
     have hHeld:=HSS.out _ _ (L1.out.call hb9)
     refine hK.out _ _ (.inr (.inr hHeld)) ?_
     clear hK K
     refine tkU 6 ?_ rfl ?_ (tkU 7 ?_ rfl ?_ (tkP 8 ?_ rfl ?_ ?_))
     iterate 3 (rotate_left; focus (intro w hSw; (try dsimp only at hSw); simp only [Act.put,tkS]; go_simp; try with_reducible rfl))
     simp only [Act.put,tkS]
     clear hHeld
     refine rdU 9 rfl (fun K hK => ?_)
     refine step_store_rowC rfl 29 _ _ rfl (w.heap.size + 2) #[.slice b1 ks.length d1,.slice b2 ps.length d2,.slice b3 es2.length d3] rfl rfl 29 _ hbx9 (by kernel_rfl) rfl (by simp [Value.oneCell']) ?_
     refine hK.out _ _ (.inl rfl) ?_
     clear hK K
     refine wpTil_done (by kernel_rfl) ?_ _
     refine NoPanic.normal ?_
     generalize (W2.setRow (w.heap.size + 2) #[.slice b1 ks.length d1,.slice b2 ps.length d2,.slice b3 es2.length d3]) = W8 at *
     clear hbx9 hb9 hn9 hok9 hsm9 L1
     have HNX:Hid (∃ x y z es,LB w W8 R (p1 + 1) (.slice ka ks.length kc) (.slice pa ps.length pc) x y z ks ps es ∧ BookNew (w.heap.size + 3) W8 x y z ks ps es):=⟨_,_,_,_,L7.out,N7.out⟩
     go_wp2
     exact ⟨⟨k + 1,by omega,by go_num,HNX⟩,by simp [intOf]; omega⟩
    ·have hkd:¬ (k:Int) < 12:=by omega
     obtain ⟨a1,c1,a2,c2,a3,c3,hs1,hs2,hs3⟩:=LR.out.slices HR0.out HK0.out HP0.out
     subst hs1
     subst hs2
     subst hs3
     have HSS:Hid (∀ (wx:World) (q:Nat),LB w wx R q (.slice ka ks.length kc) (.slice pa ps.length pc) (.slice a1 ks.length c1) (.slice a2 ps.length c2) (.slice a3 (List.length es) c3) ks ps es → ((wx.cell? ⟨w.heap.size + 2,0,none⟩ = some (.slice a1 ks.length c1) ∧ wx.cell? ⟨w.heap.size + 2,1,none⟩ = some (.slice a2 ps.length c2) ∧ wx.cell? ⟨w.heap.size + 2,2,none⟩ = some (.slice a3 es.length c3)) ∧ wx.cell? ⟨w.heap.size,0,none⟩ = some (.slice ka ks.length kc) ∧ wx.cell? ⟨w.heap.size,1,none⟩ = some (.slice pa ps.length pc))):=fun wx q h => ⟨⟨cell_blkD h.bx rfl,cell_blkD h.bx rfl,cell_blkD h.bx rfl⟩,cell_blkD h.pb rfl,cell_blkD h.pb rfl⟩
     have q0:wr.cell? ⟨w.heap.size + 1 + 1,0,none⟩ = some (.slice a1 ks.length c1):=cell_blkD LR.out.bx (i:=0) rfl
     have q1:wr.cell? ⟨w.heap.size + 1 + 1,1,none⟩ = some (.slice a2 ps.length c2):=cell_blkD LR.out.bx (i:=1) rfl
     have q2:wr.cell? ⟨w.heap.size + 1 + 1,2,none⟩ = some (.slice a3 es.length c3):=cell_blkD LR.out.bx (i:=2) rfl
     have hR9:=LR.out.rs
     have HFI:Hid (BookNew (w.heap.size + 3) (wr.setRow (w.heap.size + 1) #[.slice a1 ks.length c1,.slice a2 ps.length c2,.slice a3 es.length c3]) (.slice a1 ks.length c1) (.slice a2 ps.length c2) (.slice a3 es.length c3) ks ps es ∧ bookB ks ps es = true ∧ SmB (ks,ps,es) ∧ Out w R p 1200 (wr.setRow (w.heap.size + 1) #[.slice a1 ks.length c1,.slice a2 ps.length c2,.slice a3 es.length c3])):=by
      have ho:∀ b,b ≠ w.heap.size + 1 → (wr.setRow (w.heap.size + 1) #[.slice a1 ks.length c1,.slice a2 ps.length c2,.slice a3 es.length c3]).heap[b]? = wr.heap[b]?:=fun b hb => setRow_other _ _ _ _ hb
      have hg:wr.grownBy (wr.setRow (w.heap.size + 1) #[.slice a1 ks.length c1,.slice a2 ps.length c2,.slice a3 es.length c3]) (some (w.heap.size + 1)):=⟨rfl,rfl,rfl,by simp,fun j _ hj => ho j (fun e => hj (by rw [e]))⟩
      exact ⟨NR.out.far hg (by omega),LR.out.ok,LR.out.sm,_,by omega,by omega,LR.out.rd.late (fun j hj => ho j (by omega)),grown_row LR.out.gr _ (by omega)⟩
     go_wp2_with (refine wpList_store_row rfl 29 _ _ rfl (w.heap.size + 1) #[.slice a1 ks.length c1,.slice a2 ps.length c2,.slice a3 es.length c3] rfl rfl 29 _ hR9 (by kernel_rfl) rfl (by simp [Value.oneCell']) ?_)
     exact bodyPost_ret (v:=.agg #[.slice a1 ks.length c1,.slice a2 ps.length c2,.slice a3 es.length c3]) (by simp [results,Tryz.results31,go_sem,cell_setRow_same _ _ _ _ _ _ _ hR9]) rfl (by first | exact ⟨_,_,_,es,rfl,HFI.out⟩ | exact ⟨_,_,_,rfl,es,HFI.out⟩)
  ·have hyb:(y == 0) = false:=by simp [hy]
   clear hy
   have q0:w9.cell? ⟨w.heap.size + 1 + 1,0,none⟩ = some (.slice b1 ks.length d1):=cell_blkD L9.out.bx (i:=0) rfl
   have q1:w9.cell? ⟨w.heap.size + 1 + 1,1,none⟩ = some (.slice b2 ps.length d2):=cell_blkD L9.out.bx (i:=1) rfl
   have q2:w9.cell? ⟨w.heap.size + 1 + 1,2,none⟩ = some (.slice b3 es2.length d3):=cell_blkD L9.out.bx (i:=2) rfl
   have hR9:=L9.out.rs
   have HFI:Hid (BookNew (w.heap.size + 3) (w9.setRow (w.heap.size + 1) #[.slice b1 ks.length d1,.slice b2 ps.length d2,.slice b3 es2.length d3]) (.slice b1 ks.length d1) (.slice b2 ps.length d2) (.slice b3 es2.length d3) ks ps es2 ∧ bookB ks ps es2 = true ∧ SmB (ks,ps,es2) ∧ Out w R p 1200 (w9.setRow (w.heap.size + 1) #[.slice b1 ks.length d1,.slice b2 ps.length d2,.slice b3 es2.length d3])):=by
    have ho:∀ b,b ≠ w.heap.size + 1 → (w9.setRow (w.heap.size + 1) #[.slice b1 ks.length d1,.slice b2 ps.length d2,.slice b3 es2.length d3]).heap[b]? = w9.heap[b]?:=fun b hb => setRow_other _ _ _ _ hb
    have hg:w9.grownBy (w9.setRow (w.heap.size + 1) #[.slice b1 ks.length d1,.slice b2 ps.length d2,.slice b3 es2.length d3]) (some (w.heap.size + 1)):=⟨rfl,rfl,rfl,by simp,fun j _ hj => ho j (fun e => hj (by rw [e]))⟩
    exact ⟨N9.out.far hg (by omega),L9.out.ok,L9.out.sm,_,by omega,by omega,L9.out.rd.late (fun j hj => ho j (by omega)),grown_row L9.out.gr _ (by omega)⟩
   go_wp2_with (refine wpList_store_row rfl 29 _ _ rfl (w.heap.size + 1) #[.slice b1 ks.length d1,.slice b2 ps.length d2,.slice b3 es2.length d3] rfl rfl 29 _ hR9 (by kernel_rfl) rfl (by simp [Value.oneCell']) ?_)
   exact bodyPost_ret (v:=.agg #[.slice b1 ks.length d1,.slice b2 ps.length d2,.slice b3 es2.length d3]) (by simp [results,Tryz.results31,go_sem,cell_setRow_same _ _ _ _ _ _ _ hR9]) rfl (by first | exact ⟨_,_,_,es2,rfl,HFI.out⟩ | exact ⟨_,_,_,rfl,es2,HFI.out⟩)
end Go.Proofs.YtbjmgglpiakgdaaGreatDoor.Dr
