import Derived.Test.YtcmgddnckohdaaaGreatDoorDr9
import Derived.Test.YtcmgddnckohdaaaGreatDoorRt2
set_option maxRecDepth 100000
set_option maxHeartbeats 12800000
namespace Go.Proofs.YtcmgddnckohdaaaGreatDoor.Dr
open Go.RowKit
attribute [local go_sem] Later.cell Later.frozen
set_option linter.unusedSimpArgs false
set_option linter.unusedVariables false
theorem own_setD {w:World} {base:Nat} {e:TypeId} {size g n cap o:Nat} {xs:List Value} {x:Value} (h:w.ownsRow base e size (.slice (some ⟨g,0,none⟩) n cap) n xs) (ho:o<n*size):(w.setCell ⟨g,o,none⟩ x).ownsRow base e size (.slice (some ⟨g,0,none⟩) n cap) n (xs.set o x):=by
 obtain ⟨h1,h2⟩:=h
 refine ⟨by rw [List.length_set];exact h1,?_⟩
 rcases h2 with ⟨h0,hn⟩ | ⟨g',cap',cur,hv,hg,hc,hn,hm,hs,ht⟩
 ·cases h0
 ·cases hv
  refine .inr ⟨g,cap,cur.setIfInBounds o x,rfl,hg,cI hc,hn,hm,by simpa using hs,?_⟩
  rw [Array.toList_setIfInBounds,← ht,List.take_set]
theorem bG {w:World} {base:Nat} {e:TypeId} {size:Nat} {v:Value} {n:Nat} {xs:List Value} (h:w.ownsRow base e size v n xs) (h1:1≤n):∃ g cap,v=.slice (some ⟨g,0,none⟩) n cap∧n≤cap∧cap≤maxLen:=by
 rcases h.2 with ⟨_,h0⟩ | ⟨g,cap,cur,hv,_,_,hn,hm,_⟩
 ·omega
 ·exact ⟨g,cap,hv,hn,hm⟩
theorem cA:∀ (l:List Tri) (i j:Nat) (t t':Tri) (x:Value),l[i]?=some t→j<3→triRow t'=(triRow t).set j x→triRows (l.set i t')=(triRows l).set (i*3+j) x
 | [],i,j,t,t',x,h,hj,hs=>by simp at h
 | a::l,0,j,t,t',x,h,hj,hs=>by
  simp at h;subst h
  have e:triRows (a::l)=triRow a++triRows l:=by simp [triRows]
  have e':triRows ((a::l).set 0 t')=triRow t'++triRows l:=by simp [triRows]
  rw [e,e',hs,Nat.zero_mul,Nat.zero_add,List.set_append_left _ _ (by simp [triRow];omega)]
 | a::l,i+1,j,t,t',x,h,hj,hs=>by
  have e:triRows (a::l)=triRow a++triRows l:=by simp [triRows]
  have e':triRows ((a::l).set (i+1) t')=triRow a++triRows (l.set i t'):=by simp [triRows]
  have hl:(triRow a).length=3:=rfl
  rw [e,e',cA l i j t t' x (by simpa using h) hj hs,List.set_append_right _ _ (by omega),hl]
  congr 2
  omega
theorem BI.cellK {w wr:World} {R BB g cap o px n:Nat} {pv x:Value} {ks ks' ps:List Tri} (h:BI w wr R BB (.slice (some ⟨g,0,none⟩) n cap) pv ks ps px) (hn:ks.length=n) (hR:R<w.heap.size) (ho:o<ks.length*3) (hl:ks'.length=ks.length) (ht:triRows ks'=(triRows ks).set o x):BI w (wr.setCell ⟨g,o,none⟩ x) R BB (.slice (some ⟨g,0,none⟩) n cap) pv ks' ps px:=by
 subst hn;have hg:w.heap.size+1≤g:=bf h.k g rfl
 have hgB:BB≠g:=fun e=>aV h.k h.box (by decide) (by rw [e];rfl)
 have hoo:∀ b,b≠g→(wr.setCell ⟨g,o,none⟩ x).heap[b]?=wr.heap[b]?:=fun b hb=>Below.heap_setCell wr ⟨g,o,none⟩ x b hb
 refine ⟨h.rd.late (fun j hj=>hoo j (by omega)),bM h.gr o x (by omega),(hoo _ (by omega)).trans h.res,(hoo _ hgB).trans h.box,?_,aE h.p (bd wr g o x) (bw h.p h.k (by decide))⟩
 rw [hl,ht];exact own_setD h.k ho
theorem BI.cellP {w wr:World} {R BB g cap o px n:Nat} {kv x:Value} {ks ps ps':List Tri} (h:BI w wr R BB kv (.slice (some ⟨g,0,none⟩) n cap) ks ps px) (hn:ps.length=n) (hR:R<w.heap.size) (ho:o<ps.length*3) (hl:ps'.length=ps.length) (ht:triRows ps'=(triRows ps).set o x):BI w (wr.setCell ⟨g,o,none⟩ x) R BB kv (.slice (some ⟨g,0,none⟩) n cap) ks ps' px:=by
 subst hn;have hg:w.heap.size+1≤g:=bf h.p g rfl
 have hgB:BB≠g:=fun e=>aV h.p h.box (by decide) (by rw [e];rfl)
 have hoo:∀ b,b≠g→(wr.setCell ⟨g,o,none⟩ x).heap[b]?=wr.heap[b]?:=fun b hb=>Below.heap_setCell wr ⟨g,o,none⟩ x b hb
 refine ⟨h.rd.late (fun j hj=>hoo j (by omega)),bM h.gr o x (by omega),(hoo _ (by omega)).trans h.res,(hoo _ hgB).trans h.box,aE h.k (bd wr g o x) (bw h.k h.p (by decide)),?_⟩
 rw [hl,ht];exact own_setD h.p ho
def SpOk (ks ps:List Tri):Prop:=ks.length≤150∧1≤ps.length∧ps.length≤150∧(∀ t∈ks,t.s.size≤100)∧(∀ t∈ps,t.s.size≤100)
theorem set_names {l:List Tri} {i:Nat} {t:Tri} (h:∀ t∈l,t.s.size≤100) (ht:t.s.size≤100):∀ u∈l.set i t,u.s.size≤100:=fun u hu=>by
 rcases List.mem_or_eq_of_mem_set hu with h1 | h1
 ·exact h u h1
 ·rw [h1];exact ht
theorem snoc_names {l:List Tri} {t:Tri} (h:∀ t∈l,t.s.size≤100) (ht:t.s.size≤100):∀ u∈l++[t],u.s.size≤100:=fun u hu=>by
 rcases List.mem_append.1 hu with h1 | h1
 ·exact h u h1
 ·rw [List.mem_singleton.1 h1];exact ht
theorem l1SpoilBase_any (R p:Nat) (vk vp:Value) (ks ps:List Tri) (w:World) (h:Rd w R p) (hp:p≤700000) (hk:TrisAt w vk ks) (hv:TrisAt w vp ps) (lk:1≤ks.length∧ks.length≤100) (lp:1≤ps.length∧ps.length≤100) (nk:∀ t∈ks,t.s.size≤100) (np:∀ t∈ps,t.s.size≤100) :
  Calls Tryz.prog 136 #[.pointer (some ⟨R,0,none⟩),.agg #[vk,vp]] w fun e w'=>∃ (kv pv:Value) (ks' ps':List Tri),e=.returned (.agg #[kv,pv])∧w'.ownsRow (w.heap.size+2) 69 3 kv ks'.length (triRows ks')∧w'.ownsRow (w.heap.size+2) 72 3 pv ps'.length (triRows ps')∧SpOk ks' ps'∧Out w R p 60 w':=by
 obtain ⟨i1,hi1,hq0,hq1,hq2⟩:=info_parts infoPoint;obtain ⟨i0,hi0,hz0',hz1',hz2'⟩:=info_parts infoKind;obtain ⟨lk1,lk2⟩:=lk;obtain ⟨lp1,lp2⟩:=lp;have hRlt:=h.lt;have NK:=am nk;have NP:=am np;have HA:Hid (Below w.heap.size w (w.alloc (.cells #[vk,vp] 27))):=(aO)
 have HAS:(w.alloc (.cells #[vk,vp] 27)).heap.size=w.heap.size+1:=by simp
 have HB:Hid (Below w.heap.size w ((w.alloc (.cells #[vk,vp] 27)).alloc (.cells #[.slice none 0 0,.slice none 0 0] 27))):=(aO).alloc (by simp) _
 have HB1:Hid (Below (w.alloc (.cells #[vk,vp] 27)).heap.size (w.alloc (.cells #[vk,vp] 27)) ((w.alloc (.cells #[vk,vp] 27)).alloc (.cells #[.slice none 0 0,.slice none 0 0] 27))):=(aO);have HR1:Hid (Rd ((w.alloc (.cells #[vk,vp] 27)).alloc (.cells #[.slice none 0 0,.slice none 0 0] 27)) R p):=h.far HB.out
 have HX1:((w.alloc (.cells #[vk,vp] 27)).alloc (.cells #[.slice none 0 0,.slice none 0 0] 27)).heap[w.heap.size]?=some (.cells #[vk,vp] 27 (0,0)):=by
  rw [HB1.out.block _ (by simp)]
  exact ay w _
 have HX2:Hid (((w.alloc (.cells #[vk,vp] 27)).alloc (.cells #[.slice none 0 0,.slice none 0 0] 27)).heap[(w.alloc (.cells #[vk,vp] 27)).heap.size]?=some (.cells #[.slice none 0 0,.slice none 0 0] 27 (0,0))):=ay (w.alloc (.cells #[vk,vp] 27)) (.cells #[.slice none 0 0,.slice none 0 0] 27)
 have hz1:((w.alloc (.cells #[vk,vp] 27)).alloc (.cells #[.slice none 0 0,.slice none 0 0] 27)).heap.size=w.heap.size+2:=by simp
 have HC:Hid (Calls Tryz.prog 70 #[.agg #[vk,vp]] ((w.alloc (.cells #[vk,vp] 27)).alloc (.cells #[.slice none 0 0,.slice none 0 0] 27)) fun e w'=>∃ x y,e=.returned (.agg #[x,y])∧w'.ownsRow (((w.alloc (.cells #[vk,vp] 27)).alloc (.cells #[.slice none 0 0,.slice none 0 0] 27)).heap.size+2) 69 3 x ks.length (triRows ks)∧w'.ownsRow (((w.alloc (.cells #[vk,vp] 27)).alloc (.cells #[.slice none 0 0,.slice none 0 0] 27)).heap.size+2) 72 3 y ps.length (triRows ps)∧Below ((w.alloc (.cells #[vk,vp] 27)).alloc (.cells #[.slice none 0 0,.slice none 0 0] 27)).heap.size ((w.alloc (.cells #[vk,vp] 27)).alloc (.cells #[.slice none 0 0,.slice none 0 0] 27)) w'):=specL1Copy_any vk vp ks ps _ (hk.keep HB.out) (hv.keep HB.out) (by omega) (by omega)
 obtain ⟨vka,vkc,rfl,-,-,-⟩:=hk;obtain ⟨vpa,vpc,rfl,-,-,-⟩:=hv;have b0:=ab HX1 (i:=0) rfl;have b1:=ab HX1 (i:=1) rfl;clear h nk np
 go_enter Tryz.func136,Tryz.ntmps136
 go_wp2_with fail;clear b0 b1 HX1;refine HC.out.mono ?_;rintro e w2 ⟨xv,yv,rfl,hxo,hyo,hb2⟩;generalize ((w.alloc (.cells #[.slice vka ks.length vkc,.slice vpa ps.length vpc] 27)).alloc (.cells #[.slice none 0 0,.slice none 0 0] 27))=w1 at *;generalize (w.alloc (.cells #[.slice vka ks.length vkc,.slice vpa ps.length vpc] 27))=wA at *;clear HC;obtain ⟨gk,ck,hxe,hkc1,hkc2⟩:=bG hxo lk1;obtain ⟨gp,cp,hye,hpc1,hpc2⟩:=bG hyo lp1;subst hxe;subst hye
 have hRA:R<wA.heap.size:=by omega
 have hz2:=hb2.size
 have B3:Hid (BI wA ((w2.alloc (.cells #[.slice none 0 0,.slice none 0 0] 27)).setRow w2.heap.size #[(.slice (some ⟨gk,0,none⟩) ks.length ck),(.slice (some ⟨gp,0,none⟩) ps.length cp)]) R w2.heap.size (.slice (some ⟨gk,0,none⟩) ks.length ck) (.slice (some ⟨gp,0,none⟩) ps.length cp) ks ps p):=by
  have hba:Below w2.heap.size w2 (w2.alloc (.cells #[.slice none 0 0,.slice none 0 0] 27)):=(aO);have hox:∀ b,b≠w2.heap.size→((w2.alloc (.cells #[.slice none 0 0,.slice none 0 0] 27)).setRow w2.heap.size #[(.slice (some ⟨gk,0,none⟩) ks.length ck),(.slice (some ⟨gp,0,none⟩) ps.length cp)]).heap[b]?=(w2.alloc (.cells #[.slice none 0 0,.slice none 0 0] 27)).heap[b]?:=fun b hb=>setRow_other _ _ _ _ hb
  have hgr:(w2.alloc (.cells #[.slice none 0 0,.slice none 0 0] 27)).grownBy ((w2.alloc (.cells #[.slice none 0 0,.slice none 0 0] 27)).setRow w2.heap.size #[(.slice (some ⟨gk,0,none⟩) ks.length ck),(.slice (some ⟨gp,0,none⟩) ps.length cp)]) (some w2.heap.size):=⟨rfl,rfl,rfl,by simp,fun j _ hj=>hox j (fun e=>hj (by rw [e]))⟩
  refine ⟨((HR1.out.far hb2).far hba).late (fun j hj=>hox j (by omega)),aW (av (az HB1.out _) (av (az hb2 _) (az hba _))) _ (by omega),(hox _ (by omega)).trans ((hba.block _ (by omega)).trans ((hb2.block _ (by omega)).trans HX2.out)),setRow_heap _ _ _ _ _ _ (ay w2 _),?_,?_⟩
  ·refine aN (aE (bO hxo hba) hgr (fun k hk e=>?_)) (by omega)
   have:=own_ltD hxo k hk;injection e;omega
  ·refine aN (aE (bO hyo hba) hgr (fun k hk e=>?_)) (by omega)
   have:=own_ltD hyo k hk;injection e;omega
 have B3X:=B3.out;have hR9:(w2.alloc (.cells #[.slice none 0 0,.slice none 0 0] 27)).heap[w2.heap.size]?=some (.cells #[.slice none 0 0,.slice none 0 0] 27 (0,0)):=ay w2 _;unfold maxLen at hkc2 hpc2;clear B3X hxo hyo hb2 HB HX2 HB1 HR1
 go_wp2_with (refine wpList_store_row rfl 27 _ _ rfl w2.heap.size #[(.slice (some ⟨gk,0,none⟩) ks.length ck),(.slice (some ⟨gp,0,none⟩) ps.length cp)] rfl rfl 27 _ hR9 (by kernel_rfl) rfl (by simp [Value.oneCell']) ?_;have B3X:=B3.out;have q0:=ab B3X.box (i:=0) rfl;have q1:=ab B3X.box (i:=1) rfl;clear B3X hR9;generalize (w2.alloc (.cells #[.slice none 0 0,.slice none 0 0] 27)).setRow w2.heap.size #[(.slice (some ⟨gk,0,none⟩) ks.length ck),(.slice (some ⟨gp,0,none⟩) ps.length cp)]=w3 at *)
 refine (aF R p ks.length _ B3.out.rd (by omega) (by omega)).mono ?_
 rintro e w3a ⟨kx,rfl,hkx0,hkx1,-,hr,hg⟩
 have hkx1:=hkx1 (by omega)
 obtain ⟨kn,rfl⟩:∃ n:Nat,kx=n:=⟨kx.toNat,by omega⟩
 have B3a:=am (B3.out.pick hRA (by omega) hr hg)
 have hkn:kn<ks.length:=by omega
 clear hr hg B3 q0 q1;have q1:=ab B3a.out.box (i:=1) rfl;go_wp2_with fail
 refine (aF R (p+1) ps.length _ B3a.out.rd (by omega) (by omega)).mono ?_
 rintro e w3b ⟨px,rfl,hpx0,hpx1,-,hr,hg⟩
 have hpx1:=hpx1 (by omega)
 obtain ⟨pn,rfl⟩:∃ n:Nat,px=n:=⟨px.toNat,by omega⟩
 have hpn:pn<ps.length:=by omega
 have B3b:=am (B3a.out.pick hRA (by omega) hr hg)
 clear hr hg B3a q1;go_wp2_with fail
 refine (aF R (p+1+1) 8 _ B3b.out.rd (by omega) (by omega)).mono ?_
 rintro e w4 ⟨c,rfl,hc0,hc1,-,hr,hg⟩
 have hc1:=hc1 (by omega)
 have B4:=am (B3b.out.pick hRA (by omega) hr hg)
 clear hr hg B3b;have HSK:Hid (∀ (wx:World) (q:Nat) (l m:List Tri),BI wA wx R w2.heap.size (.slice (some ⟨gk,0,none⟩) ks.length ck) (.slice (some ⟨gp,0,none⟩) ps.length cp) l m q→wx.cell? ⟨w2.heap.size,0,none⟩=some (.slice (some ⟨gk,0,none⟩) ks.length ck)):=fun wx q l m h=>ab h.box rfl;have HSP:Hid (∀ (wx:World) (q:Nat) (l m:List Tri),BI wA wx R w2.heap.size (.slice (some ⟨gk,0,none⟩) ks.length ck) (.slice (some ⟨gp,0,none⟩) ps.length cp) l m q→wx.cell? ⟨w2.heap.size,1,none⟩=some (.slice (some ⟨gp,0,none⟩) ps.length cp)):=fun wx q l m h=>ab h.box rfl
 have hwz:w.heap.size+2≤w2.heap.size:=by omega
 clear hz2 hz1
 by_cases h0:c=0
 ·have h0b:(c==0)=true:=by simp [h0]
  clear h0;go_wp2;refine wp_region_noPanic ?_
  refine wp_region_held_drew (S:=fun wx=>wx.cell? ⟨w2.heap.size,0,none⟩=some (.slice (some ⟨gk,0,none⟩) ks.length ck)) (by kernel_rfl) ?_ (fun hHeld=>?_)
  ·exact HSK.out _ _ _ _ (B4.out.call (Below.refl _ _).drew)
  have B0:=am (B4.out.call (Below.refl _ _).drew);generalize w4.drew=W0 at *;clear B4;refine aJ 0 ?_ rfl ?_ (aJ 1 ?_ rfl ?_ (aJ 2 ?_ rfl ?_ (aJ 3 ?_ rfl ?_ (aJ 4 ?_ rfl ?_ ?_))))
  iterate 5 (rotate_left;focus (intro w hSw;(try dsimp only at hSw);simp only [Act.put,aR];go_simp;try with_reducible rfl))
  simp only [Act.put,aR]
  clear hHeld;refine bh 5 rfl (fun K hK=>?_);go_simp
  refine (aF R (p+1+1+1) 2 _ B0.out.rd (by omega) (by omega)).mono ?_
  rintro e W5 ⟨y,rfl,hy0,hy1,-,hr,hg⟩
  have hy1:=hy1 (by omega)
  obtain ⟨yn,rfl⟩:∃ n:Nat,y=n:=⟨y.toNat,by omega⟩
  have B5:=am (B0.out.pick hRA (by omega) hr hg)
  have hHeld:=HSK.out _ _ _ _ B5.out;refine hK.out _ _ hHeld (fun _=>?_);clear hK K hr hg B0
  have hwu:IntKind.i64.wrap (8+(yn:Int))=8+yn:=by rw [IntKind.wrap_i64];omega
  refine aJ 6 ?_ rfl ?_ ?_;rotate_left
  ·intro w hSw;(try dsimp only at hSw);go_simp;try with_reducible rfl
  simp only [Act.put,aR]
  clear hHeld
  have HM:Hid (∀ wx:World,Calls Tryz.prog 29 #[.string ⟨#[107]⟩,.int .i64 (8+(yn:Int))] wx fun e w'=>∃ t:ByteArray,e=.returned (.string t)∧t.size≤9∧w'=wx):=fun wx=>by
   have h:=l1Many_any ⟨#[107]⟩ (8+yn) wx (by show 1*(8+yn)≤1000;omega) (by omega) (by decide)
   rw [show ((8+yn:Nat):Int)=8+(yn:Int) by omega] at h
   exact h.mono fun e w' ⟨t,h1,h2,h3⟩=>⟨t,h1,by have h2':t.size≤1*(8+yn):=h2;omega,h3⟩
  refine bh 7 rfl (fun K hK=>?_);go_simp;refine (HM.out _).mono ?_;rintro e W6 ⟨t,rfl,ht,rfl⟩;refine hK.out _ _ (HSK.out _ _ _ _ B5.out) (fun _=>?_);clear hK K HM;refine bh 8 rfl (fun K hK=>?_);have BA:Hid (Below W6.heap.size W6 (W6.alloc (.cells #[.string ⟨#[]⟩,.string ⟨#[65]⟩,.string ⟨#[122,122]⟩,.string ⟨#[97,49]⟩,.string t] 9))):=(aO);have XS:Hid ((W6.alloc (.cells #[.string ⟨#[]⟩,.string ⟨#[65]⟩,.string ⟨#[122,122]⟩,.string ⟨#[97,49]⟩,.string t] 9)).heap[W6.heap.size]?=some (.cells #[.string ⟨#[]⟩,.string ⟨#[65]⟩,.string ⟨#[122,122]⟩,.string ⟨#[97,49]⟩,.string t] 9 (0,0))):=ay W6 _;have B6:=am (B5.out.call BA.out);have hRN:R<W6.heap.size:=B5.out.rd.lt;go_simp;refine hK.out _ _ (HSK.out _ _ _ _ B6.out) (fun _=>?_);clear hK K B5;generalize (W6.alloc (.cells #[.string ⟨#[]⟩,.string ⟨#[65]⟩,.string ⟨#[122,122]⟩,.string ⟨#[97,49]⟩,.string t] 9))=W7 at *;generalize W6.heap.size=NS at *;clear BA;refine bh 9 rfl (fun K hK=>?_)
  have HO:=am (of_any R (p+1+1+1+1) _ [⟨#[]⟩,⟨#[65]⟩,⟨#[122,122]⟩,⟨#[97,49]⟩,t] _ B6.out.rd (by omega) (strs_of [⟨#[]⟩,⟨#[65]⟩,⟨#[122,122]⟩,⟨#[97,49]⟩,t] XS.out rfl (by simp)) (by simp))
  go_simp;refine HO.out.mono ?_;rintro e W8 ⟨g,rfl,hgm,hr,hg⟩
  have hgs:g.size≤100:=by
   simp at hgm
   rcases hgm with rfl | rfl | rfl | rfl | rfl
   ·show 0≤100;omega
   ·show 1≤100;omega
   ·show 2≤100;omega
   ·show 2≤100;omega
   ·omega
  have B7:=am (B6.out.pick hRA (by omega) hr hg)
  have hHeld:=HSK.out _ _ _ _ B7.out;refine hK.out _ _ hHeld (fun _=>?_);clear hK K hr hg B6 hgm HO;refine aJ 10 ?_ rfl ?_ (aJ 11 ?_ rfl ?_ ?_)
  iterate 2 (rotate_left;focus (intro w hSw;(try dsimp only at hSw);simp only [Act.put,aR];go_simp;try with_reducible rfl))
  simp only [Act.put,aR]
  clear hHeld;refine bh 12 rfl (fun K hK=>?_);obtain ⟨a',c',e',-,-,hcs⟩:=cr B7.out.k
  obtain ⟨bP,oP,hap,d0,d1,d2⟩:=hcs kn _ (aX (by assumption))
  cases e'
  cases hap
  clear hcs;rw [Nat.zero_add] at d0 d1 d2
  have HAT:Hid (ks[kn]?=some (at' ks kn)):=aX (by assumption)
  generalize at' ks kn=tj at *;have zd:=ar d0
  have lfz:∀ j,W8.frozen? ⟨gk,j,none⟩=false:=fun j=>by
   obtain ⟨-,h2⟩:=B7.out.k
   rcases h2 with ⟨h0,-⟩ | ⟨g',cap',cur,hv,-,hc,-⟩
   ·cases h0
   ·cases hv;simp [World.frozen?,hc]
  have B9:Hid (BI wA (W8.setCell ⟨gk,kn*3,none⟩ (.string g)) R w2.heap.size (.slice (some ⟨gk,0,none⟩) ks.length ck) (.slice (some ⟨gp,0,none⟩) ps.length cp) (ks.set kn ⟨g,tj.x,tj.y⟩) ps _):=B7.out.cellK rfl hRA (by omega) (by simp) (cA ks kn 0 tj _ _ HAT.out (by omega) rfl)
  skip
  go_simp;refine hK.out _ _ (HSK.out _ _ _ _ B9.out) (fun _=>?_);clear hK K
  refine wpAnyH_done (by kernel_rfl) ?_ _
  refine NoPanic.normal ?_;generalize (W8.setCell ⟨gk,kn*3,none⟩ (.string g))=W9 at *;clear d0 d1 d2 zd lfz B7;have q0:=ab B9.out.box (i:=0) rfl;have q1:=ab B9.out.box (i:=1) rfl;have hR9:=B9.out.res;rw [HAS] at hR9
  have HFI:Hid ((W9.setRow (w.heap.size+1) #[.slice (some ⟨gk,0,none⟩) ks.length ck,.slice (some ⟨gp,0,none⟩) ps.length cp]).ownsRow (w.heap.size+2) 69 3 (.slice (some ⟨gk,0,none⟩) ks.length ck) (ks.set kn ⟨g,tj.x,tj.y⟩).length (triRows (ks.set kn ⟨g,tj.x,tj.y⟩))∧(W9.setRow (w.heap.size+1) #[.slice (some ⟨gk,0,none⟩) ks.length ck,.slice (some ⟨gp,0,none⟩) ps.length cp]).ownsRow (w.heap.size+2) 72 3 (.slice (some ⟨gp,0,none⟩) ps.length cp) (ps).length (triRows (ps))∧SpOk (ks.set kn ⟨g,tj.x,tj.y⟩) (ps)∧Out w R p 60 (W9.setRow (w.heap.size+1) #[.slice (some ⟨gk,0,none⟩) ks.length ck,.slice (some ⟨gp,0,none⟩) ps.length cp])):=by
   have hg:W9.grownBy (W9.setRow (w.heap.size+1) #[.slice (some ⟨gk,0,none⟩) ks.length ck,.slice (some ⟨gp,0,none⟩) ps.length cp]) (some (w.heap.size+1)):=⟨rfl,rfl,rfl,by simp,fun j _ hj=>setRow_other _ _ _ _ (fun e=>hj (by rw [e]))⟩
   rw [show w.heap.size+2=wA.heap.size+1 by omega]
   refine ⟨aE B9.out.k hg (fun q hq e=>?_),aE B9.out.p hg (fun q hq e=>?_),⟨by simp;omega,by omega,by omega,set_names NK.out (by first | exact hgs | (show tj.s.size≤100;exact NK.out _ (List.mem_of_getElem? HAT.out))),NP.out⟩,_,?_,?_,B9.out.rd.late (fun j hj=>setRow_other _ _ _ _ (by omega)),aW (av (az HA.out _) B9.out.gr) _ (by omega)⟩
   ·have:=bf B9.out.k q hq;injection e with e;omega
   ·have:=bf B9.out.p q hq;injection e with e;omega
   ·omega
   ·omega
  go_wp2_with (refine wpList_store_row rfl 27 _ _ rfl (w.heap.size+1) #[.slice (some ⟨gk,0,none⟩) ks.length ck,.slice (some ⟨gp,0,none⟩) ps.length cp] rfl rfl 27 _ hR9 (by kernel_rfl) rfl (by simp [Value.oneCell']) ?_)
  exact bodyPost_ret (v:=.agg #[.slice (some ⟨gk,0,none⟩) ks.length ck,.slice (some ⟨gp,0,none⟩) ps.length cp]) (by simp [results,Tryz.results136,go_sem,cell_setRow_same _ _ _ _ _ _ _ hR9]) rfl (by first | exact ⟨_,_,ks.set kn ⟨g,tj.x,tj.y⟩,ps,rfl,HFI.out⟩ | exact ⟨_,_,rfl,ks.set kn ⟨g,tj.x,tj.y⟩,HFI.out.1,ps,HFI.out.2⟩)
 have h0b:(c==0)=false:=by simp [h0]
 clear h0
 by_cases h1:c=1
 ·have h1b:(c==1)=true:=by simp [h1]
  clear h1;go_wp2;refine wp_region_noPanic ?_
  refine wp_region_held_drew (S:=fun wx=>wx.cell? ⟨w2.heap.size,0,none⟩=some (.slice (some ⟨gk,0,none⟩) ks.length ck)) (by kernel_rfl) ?_ (fun hHeld=>?_)
  ·exact HSK.out _ _ _ _ (B4.out.call (Below.refl _ _).drew)
  have B0:=am (B4.out.call (Below.refl _ _).drew);generalize w4.drew=W0 at *;clear B4;refine aJ 0 ?_ rfl ?_ (aJ 1 ?_ rfl ?_ (aJ 2 ?_ rfl ?_ (aJ 3 ?_ rfl ?_ ?_)))
  iterate 4 (rotate_left;focus (intro w hSw;(try dsimp only at hSw);simp only [Act.put,aR];go_simp;try with_reducible rfl))
  simp only [Act.put,aR]
  clear hHeld;refine bh 4 rfl (fun K hK=>?_);go_simp
  refine (aF R (p+1+1+1) 9 _ B0.out.rd (by omega) (by omega)).mono ?_
  rintro e W5 ⟨y,rfl,hy0,hy1,-,hr,hg⟩
  have hy1:=hy1 (by omega)
  have B5:=am (B0.out.pick hRA (by omega) hr hg)
  have hHeld:=HSK.out _ _ _ _ B5.out;refine hK.out _ _ hHeld (fun _=>?_);clear hK K hr hg B0
  have hwu:IntKind.i64.wrap (y-1)=y-1:=by rw [IntKind.wrap_i64];omega
  refine aJ 5 ?_ rfl ?_ (aJ 6 ?_ rfl ?_ (aJ 7 ?_ rfl ?_ ?_))
  iterate 3 (rotate_left;focus (intro w hSw;(try dsimp only at hSw);simp only [Act.put,aR];go_simp;try with_reducible rfl))
  simp only [Act.put,aR]
  clear hHeld;refine bh 8 rfl (fun K hK=>?_);obtain ⟨a',c',e',-,-,hcs⟩:=cr B5.out.k
  obtain ⟨bP,oP,hap,d0,d1,d2⟩:=hcs kn _ (aX (by assumption))
  cases e'
  cases hap
  clear hcs;rw [Nat.zero_add] at d0 d1 d2
  have HAT:Hid (ks[kn]?=some (at' ks kn)):=aX (by assumption)
  generalize at' ks kn=tj at *;have zd:=ar d0
  have lfz:∀ j,W5.frozen? ⟨gk,j,none⟩=false:=fun j=>by
   obtain ⟨-,h2⟩:=B5.out.k
   rcases h2 with ⟨h0,-⟩ | ⟨g',cap',cur,hv,-,hc,-⟩
   ·cases h0
   ·cases hv;simp [World.frozen?,hc]
  have B9:Hid (BI wA (W5.setCell ⟨gk,kn*3+1,none⟩ (.int .i64 (y-1))) R w2.heap.size (.slice (some ⟨gk,0,none⟩) ks.length ck) (.slice (some ⟨gp,0,none⟩) ps.length cp) (ks.set kn ⟨tj.s,y-1,tj.y⟩) ps _):=B5.out.cellK rfl hRA (by omega) (by simp) (cA ks kn 1 tj _ _ HAT.out (by omega) rfl)
  skip
  go_simp;refine hK.out _ _ (HSK.out _ _ _ _ B9.out) (fun _=>?_);clear hK K
  refine wpAnyH_done (by kernel_rfl) ?_ _
  refine NoPanic.normal ?_;generalize (W5.setCell ⟨gk,kn*3+1,none⟩ (.int .i64 (y-1)))=W9 at *;clear d0 d1 d2 zd lfz B5;have q0:=ab B9.out.box (i:=0) rfl;have q1:=ab B9.out.box (i:=1) rfl;have hR9:=B9.out.res;rw [HAS] at hR9
  have HFI:Hid ((W9.setRow (w.heap.size+1) #[.slice (some ⟨gk,0,none⟩) ks.length ck,.slice (some ⟨gp,0,none⟩) ps.length cp]).ownsRow (w.heap.size+2) 69 3 (.slice (some ⟨gk,0,none⟩) ks.length ck) (ks.set kn ⟨tj.s,y-1,tj.y⟩).length (triRows (ks.set kn ⟨tj.s,y-1,tj.y⟩))∧(W9.setRow (w.heap.size+1) #[.slice (some ⟨gk,0,none⟩) ks.length ck,.slice (some ⟨gp,0,none⟩) ps.length cp]).ownsRow (w.heap.size+2) 72 3 (.slice (some ⟨gp,0,none⟩) ps.length cp) (ps).length (triRows (ps))∧SpOk (ks.set kn ⟨tj.s,y-1,tj.y⟩) (ps)∧Out w R p 60 (W9.setRow (w.heap.size+1) #[.slice (some ⟨gk,0,none⟩) ks.length ck,.slice (some ⟨gp,0,none⟩) ps.length cp])):=by
   have hg:W9.grownBy (W9.setRow (w.heap.size+1) #[.slice (some ⟨gk,0,none⟩) ks.length ck,.slice (some ⟨gp,0,none⟩) ps.length cp]) (some (w.heap.size+1)):=⟨rfl,rfl,rfl,by simp,fun j _ hj=>setRow_other _ _ _ _ (fun e=>hj (by rw [e]))⟩
   rw [show w.heap.size+2=wA.heap.size+1 by omega]
   refine ⟨aE B9.out.k hg (fun q hq e=>?_),aE B9.out.p hg (fun q hq e=>?_),⟨by simp;omega,by omega,by omega,set_names NK.out (by first | exact hgs | (show tj.s.size≤100;exact NK.out _ (List.mem_of_getElem? HAT.out))),NP.out⟩,_,?_,?_,B9.out.rd.late (fun j hj=>setRow_other _ _ _ _ (by omega)),aW (av (az HA.out _) B9.out.gr) _ (by omega)⟩
   ·have:=bf B9.out.k q hq;injection e with e;omega
   ·have:=bf B9.out.p q hq;injection e with e;omega
   ·omega
   ·omega
  go_wp2_with (refine wpList_store_row rfl 27 _ _ rfl (w.heap.size+1) #[.slice (some ⟨gk,0,none⟩) ks.length ck,.slice (some ⟨gp,0,none⟩) ps.length cp] rfl rfl 27 _ hR9 (by kernel_rfl) rfl (by simp [Value.oneCell']) ?_)
  exact bodyPost_ret (v:=.agg #[.slice (some ⟨gk,0,none⟩) ks.length ck,.slice (some ⟨gp,0,none⟩) ps.length cp]) (by simp [results,Tryz.results136,go_sem,cell_setRow_same _ _ _ _ _ _ _ hR9]) rfl (by first | exact ⟨_,_,ks.set kn ⟨tj.s,y-1,tj.y⟩,ps,rfl,HFI.out⟩ | exact ⟨_,_,rfl,ks.set kn ⟨tj.s,y-1,tj.y⟩,HFI.out.1,ps,HFI.out.2⟩)
 have h1b:(c==1)=false:=by simp [h1]
 clear h1
 by_cases h2:c=2
 ·have h2b:(c==2)=true:=by simp [h2]
  clear h2;go_wp2;refine wp_region_noPanic ?_
  refine wp_region_held_drew (S:=fun wx=>wx.cell? ⟨w2.heap.size,0,none⟩=some (.slice (some ⟨gk,0,none⟩) ks.length ck)) (by kernel_rfl) ?_ (fun hHeld=>?_)
  ·exact HSK.out _ _ _ _ (B4.out.call (Below.refl _ _).drew)
  have B0:=am (B4.out.call (Below.refl _ _).drew);generalize w4.drew=W0 at *;clear B4;refine aJ 0 ?_ rfl ?_ (aJ 1 ?_ rfl ?_ (aJ 2 ?_ rfl ?_ (aJ 4 ?_ rfl ?_ ?_)))
  iterate 4 (rotate_left;focus (intro w hSw;(try dsimp only at hSw);simp only [Act.put,aR];go_simp;try with_reducible rfl))
  simp only [Act.put,aR]
  clear hHeld;refine rdH2 3 5 rfl rfl (fun K hK=>?_) (fun K hK=>?_)
  focus
   skip
   have BA:Hid (Below W0.heap.size W0 (W0.alloc (.cells #[.int .i64 0,.int .i64 50,.int .i64 51] 3))):=(aO);have XS:Hid ((W0.alloc (.cells #[.int .i64 0,.int .i64 50,.int .i64 51] 3)).heap[W0.heap.size]?=some (.cells #[.int .i64 0,.int .i64 50,.int .i64 51] 3 (0,0))):=ay W0 _;have B5:=am (B0.out.call BA.out);have hRN:R<W0.heap.size:=B0.out.rd.lt;go_simp;refine hK.out _ _ (HSK.out _ _ _ _ B5.out) (fun _=>?_);clear hK K B0;generalize (W0.alloc (.cells #[.int .i64 0,.int .i64 50,.int .i64 51] 3))=W5 at *;generalize W0.heap.size=NS at *;clear BA;refine bh 5 rfl (fun K hK=>?_);go_simp
   refine (aF R (p+1+1+1) 3 _ B5.out.rd (by omega) (by omega)).mono ?_
   rintro e W6 ⟨y,rfl,hy0,hy1,-,hr,hg⟩
   have hy1:=hy1 (by omega)
   obtain ⟨yn,rfl⟩:∃ n:Nat,y=n:=⟨y.toNat,by omega⟩
   have B6:=am (B5.out.pick hRA (by omega) hr hg)
   have hHeld:=HSK.out _ _ _ _ B6.out;refine hK.out _ _ hHeld (fun _=>?_)
   have XS6:=am (aL hg (show NS≠R by omega) XS.out)
   clear hK K hr hg B5 XS;clear hHeld
  rotate_left
  focus
   skip
   go_simp
   refine (aF R (p+1+1+1) 3 _ B0.out.rd (by omega) (by omega)).mono ?_
   rintro e W5 ⟨y,rfl,hy0,hy1,-,hr,hg⟩
   have hy1:=hy1 (by omega)
   obtain ⟨yn,rfl⟩:∃ n:Nat,y=n:=⟨y.toNat,by omega⟩
   have B5:=am (B0.out.pick hRA (by omega) hr hg)
   have hHeld:=HSK.out _ _ _ _ B5.out;refine hK.out _ _ hHeld (fun _=>?_);clear hK K hr hg B0;clear hHeld;refine bh 3 rfl (fun K hK=>?_);have BA:Hid (Below W5.heap.size W5 (W5.alloc (.cells #[.int .i64 0,.int .i64 50,.int .i64 51] 3))):=(aO);have XS6:Hid ((W5.alloc (.cells #[.int .i64 0,.int .i64 50,.int .i64 51] 3)).heap[W5.heap.size]?=some (.cells #[.int .i64 0,.int .i64 50,.int .i64 51] 3 (0,0))):=ay W5 _;have B6:=am (B5.out.call BA.out);have hRN:R<W5.heap.size:=B5.out.rd.lt;go_simp;refine hK.out _ _ (HSK.out _ _ _ _ B6.out) (fun _=>?_);clear hK K B5;generalize (W5.alloc (.cells #[.int .i64 0,.int .i64 50,.int .i64 51] 3))=W6 at *;generalize W5.heap.size=NS at *;clear BA
  rotate_left
  all_goals
   obtain ⟨u,hu⟩:∃ u:Int,(#[.int .i64 0,.int .i64 50,.int .i64 51]:Array Value)[yn]?=some (.int .i64 u):=by
    rcases (show yn=0∨yn=1∨yn=2 by omega) with rfl | rfl | rfl <;> exact ⟨_,rfl⟩
   have c0:=ab XS6.out hu;have hHeld:(fun wx:World=>wx.cell? ⟨NS,yn,none⟩=some (.int .i64 u)) W6:=c0;refine bh 6 rfl (fun K hK=>?_);go_simp;refine hK.out _ _ (HSK.out _ _ _ _ B6.out) (fun _=>?_);clear hK K hHeld;refine bh 7 rfl (fun K hK=>?_);go_simp;refine hK.out _ _ (HSK.out _ _ _ _ B6.out) (fun _=>?_);clear hK K c0 hu;have hHeld:=HSK.out _ _ _ _ B6.out;refine aJ 8 ?_ rfl ?_ (aJ 9 ?_ rfl ?_ ?_)
   iterate 2 (rotate_left;focus (intro w hSw;(try dsimp only at hSw);simp only [Act.put,aR];go_simp;try with_reducible rfl))
   simp only [Act.put,aR]
   clear hHeld;refine bh 10 rfl (fun K hK=>?_);obtain ⟨a',c',e',-,-,hcs⟩:=cr B6.out.k
   obtain ⟨bP,oP,hap,d0,d1,d2⟩:=hcs kn _ (aX (by assumption))
   cases e'
   cases hap
   clear hcs;rw [Nat.zero_add] at d0 d1 d2
   have HAT:Hid (ks[kn]?=some (at' ks kn)):=aX (by assumption)
   generalize at' ks kn=tj at *;have zd:=ar d0
   have lfz:∀ j,W6.frozen? ⟨gk,j,none⟩=false:=fun j=>by
    obtain ⟨-,h2⟩:=B6.out.k
    rcases h2 with ⟨h0,-⟩ | ⟨g',cap',cur,hv,-,hc,-⟩
    ·cases h0
    ·cases hv;simp [World.frozen?,hc]
   have B9:Hid (BI wA (W6.setCell ⟨gk,kn*3+2,none⟩ (.int .i64 u)) R w2.heap.size (.slice (some ⟨gk,0,none⟩) ks.length ck) (.slice (some ⟨gp,0,none⟩) ps.length cp) (ks.set kn ⟨tj.s,tj.x,u⟩) ps _):=B6.out.cellK rfl hRA (by omega) (by simp) (cA ks kn 2 tj _ _ HAT.out (by omega) rfl)
   skip
   go_simp;refine hK.out _ _ (HSK.out _ _ _ _ B9.out) (fun _=>?_);clear hK K
   refine wpAnyH_done (by kernel_rfl) ?_ _
   refine NoPanic.normal ?_;generalize (W6.setCell ⟨gk,kn*3+2,none⟩ (.int .i64 u))=W9 at *;clear d0 d1 d2 zd lfz B6;have q0:=ab B9.out.box (i:=0) rfl;have q1:=ab B9.out.box (i:=1) rfl;have hR9:=B9.out.res;rw [HAS] at hR9
   have HFI:Hid ((W9.setRow (w.heap.size+1) #[.slice (some ⟨gk,0,none⟩) ks.length ck,.slice (some ⟨gp,0,none⟩) ps.length cp]).ownsRow (w.heap.size+2) 69 3 (.slice (some ⟨gk,0,none⟩) ks.length ck) (ks.set kn ⟨tj.s,tj.x,u⟩).length (triRows (ks.set kn ⟨tj.s,tj.x,u⟩))∧(W9.setRow (w.heap.size+1) #[.slice (some ⟨gk,0,none⟩) ks.length ck,.slice (some ⟨gp,0,none⟩) ps.length cp]).ownsRow (w.heap.size+2) 72 3 (.slice (some ⟨gp,0,none⟩) ps.length cp) (ps).length (triRows (ps))∧SpOk (ks.set kn ⟨tj.s,tj.x,u⟩) (ps)∧Out w R p 60 (W9.setRow (w.heap.size+1) #[.slice (some ⟨gk,0,none⟩) ks.length ck,.slice (some ⟨gp,0,none⟩) ps.length cp])):=by
    have hg:W9.grownBy (W9.setRow (w.heap.size+1) #[.slice (some ⟨gk,0,none⟩) ks.length ck,.slice (some ⟨gp,0,none⟩) ps.length cp]) (some (w.heap.size+1)):=⟨rfl,rfl,rfl,by simp,fun j _ hj=>setRow_other _ _ _ _ (fun e=>hj (by rw [e]))⟩
    rw [show w.heap.size+2=wA.heap.size+1 by omega]
    refine ⟨aE B9.out.k hg (fun q hq e=>?_),aE B9.out.p hg (fun q hq e=>?_),⟨by simp;omega,by omega,by omega,set_names NK.out (by first | exact hgs | (show tj.s.size≤100;exact NK.out _ (List.mem_of_getElem? HAT.out))),NP.out⟩,_,?_,?_,B9.out.rd.late (fun j hj=>setRow_other _ _ _ _ (by omega)),aW (av (az HA.out _) B9.out.gr) _ (by omega)⟩
    ·have:=bf B9.out.k q hq;injection e with e;omega
    ·have:=bf B9.out.p q hq;injection e with e;omega
    ·omega
    ·omega
   go_wp2_with (refine wpList_store_row rfl 27 _ _ rfl (w.heap.size+1) #[.slice (some ⟨gk,0,none⟩) ks.length ck,.slice (some ⟨gp,0,none⟩) ps.length cp] rfl rfl 27 _ hR9 (by kernel_rfl) rfl (by simp [Value.oneCell']) ?_)
   exact bodyPost_ret (v:=.agg #[.slice (some ⟨gk,0,none⟩) ks.length ck,.slice (some ⟨gp,0,none⟩) ps.length cp]) (by simp [results,Tryz.results136,go_sem,cell_setRow_same _ _ _ _ _ _ _ hR9]) rfl (by first | exact ⟨_,_,ks.set kn ⟨tj.s,tj.x,u⟩,ps,rfl,HFI.out⟩ | exact ⟨_,_,rfl,ks.set kn ⟨tj.s,tj.x,u⟩,HFI.out.1,ps,HFI.out.2⟩)
 have h2b:(c==2)=false:=by simp [h2]
 clear h2
 by_cases h3:c=3
 ·have h3b:(c==3)=true:=by simp [h3]
  clear h3;go_wp2;refine wp_region_noPanic ?_
  refine wp_region_held_drew (S:=fun wx=>wx.cell? ⟨w2.heap.size,1,none⟩=some (.slice (some ⟨gp,0,none⟩) ps.length cp)) (by kernel_rfl) ?_ (fun hHeld=>?_)
  ·exact HSP.out _ _ _ _ (B4.out.call (Below.refl _ _).drew)
  have B0:=am (B4.out.call (Below.refl _ _).drew);generalize w4.drew=W0 at *;clear B4;refine aJ 0 ?_ rfl ?_ (aJ 1 ?_ rfl ?_ (aJ 2 ?_ rfl ?_ (aJ 3 ?_ rfl ?_ ?_)))
  iterate 4 (rotate_left;focus (intro w hSw;(try dsimp only at hSw);simp only [Act.put,aR];go_simp;try with_reducible rfl))
  simp only [Act.put,aR]
  clear hHeld;refine bh 4 rfl (fun K hK=>?_);have BA:Hid (Below W0.heap.size W0 (W0.alloc (.cells #[.string ⟨#[]⟩,.string ⟨#[80]⟩,.string ⟨#[122,122]⟩,.string ⟨#[97,108,102,97]⟩] 9))):=(aO);have XS:Hid ((W0.alloc (.cells #[.string ⟨#[]⟩,.string ⟨#[80]⟩,.string ⟨#[122,122]⟩,.string ⟨#[97,108,102,97]⟩] 9)).heap[W0.heap.size]?=some (.cells #[.string ⟨#[]⟩,.string ⟨#[80]⟩,.string ⟨#[122,122]⟩,.string ⟨#[97,108,102,97]⟩] 9 (0,0))):=ay W0 _;have B5:=am (B0.out.call BA.out);have hRN:R<W0.heap.size:=B0.out.rd.lt;go_simp;refine hK.out _ _ (HSP.out _ _ _ _ B5.out) (fun _=>?_);clear hK K B0;generalize (W0.alloc (.cells #[.string ⟨#[]⟩,.string ⟨#[80]⟩,.string ⟨#[122,122]⟩,.string ⟨#[97,108,102,97]⟩] 9))=W5 at *;generalize W0.heap.size=NS at *;clear BA;refine bh 5 rfl (fun K hK=>?_)
  have HO:=am (of_any R (p+1+1+1) _ [⟨#[]⟩,⟨#[80]⟩,⟨#[122,122]⟩,⟨#[97,108,102,97]⟩] _ B5.out.rd (by omega) (strs_of [⟨#[]⟩,⟨#[80]⟩,⟨#[122,122]⟩,⟨#[97,108,102,97]⟩] XS.out rfl (by simp)) (by simp))
  go_simp;refine HO.out.mono ?_;rintro e W6 ⟨g,rfl,hgm,hr,hg⟩
  have hgs:g.size≤100:=by
   simp at hgm
   rcases hgm with rfl | rfl | rfl | rfl
   ·show 0≤100;omega
   ·show 1≤100;omega
   ·show 2≤100;omega
   ·show 4≤100;omega
  have B6:=am (B5.out.pick hRA (by omega) hr hg)
  have hHeld:=HSP.out _ _ _ _ B6.out;refine hK.out _ _ hHeld (fun _=>?_);clear hK K hr hg B5 hgm HO;refine aJ 6 ?_ rfl ?_ (aJ 7 ?_ rfl ?_ ?_)
  iterate 2 (rotate_left;focus (intro w hSw;(try dsimp only at hSw);simp only [Act.put,aR];go_simp;try with_reducible rfl))
  simp only [Act.put,aR]
  clear hHeld;refine bh 8 rfl (fun K hK=>?_);obtain ⟨a',c',e',-,-,hcs⟩:=cr B6.out.p
  obtain ⟨bP,oP,hap,d0,d1,d2⟩:=hcs pn _ (aX (by assumption))
  cases e'
  cases hap
  clear hcs;rw [Nat.zero_add] at d0 d1 d2
  have HAT:Hid (ps[pn]?=some (at' ps pn)):=aX (by assumption)
  generalize at' ps pn=tj at *;have zd:=ar d0
  have lfz:∀ j,W6.frozen? ⟨gp,j,none⟩=false:=fun j=>by
   obtain ⟨-,h2⟩:=B6.out.p
   rcases h2 with ⟨h0,-⟩ | ⟨g',cap',cur,hv,-,hc,-⟩
   ·cases h0
   ·cases hv;simp [World.frozen?,hc]
  have B9:Hid (BI wA (W6.setCell ⟨gp,pn*3,none⟩ (.string g)) R w2.heap.size (.slice (some ⟨gk,0,none⟩) ks.length ck) (.slice (some ⟨gp,0,none⟩) ps.length cp) ks (ps.set pn ⟨g,tj.x,tj.y⟩) _):=B6.out.cellP rfl hRA (by omega) (by simp) (cA ps pn 0 tj _ _ HAT.out (by omega) rfl)
  skip
  go_simp;refine hK.out _ _ (HSP.out _ _ _ _ B9.out) (fun _=>?_);clear hK K
  refine wpAnyH_done (by kernel_rfl) ?_ _
  refine NoPanic.normal ?_;generalize (W6.setCell ⟨gp,pn*3,none⟩ (.string g))=W9 at *;clear d0 d1 d2 zd lfz B6;have q0:=ab B9.out.box (i:=0) rfl;have q1:=ab B9.out.box (i:=1) rfl;have hR9:=B9.out.res;rw [HAS] at hR9
  have HFI:Hid ((W9.setRow (w.heap.size+1) #[.slice (some ⟨gk,0,none⟩) ks.length ck,.slice (some ⟨gp,0,none⟩) ps.length cp]).ownsRow (w.heap.size+2) 69 3 (.slice (some ⟨gk,0,none⟩) ks.length ck) (ks).length (triRows (ks))∧(W9.setRow (w.heap.size+1) #[.slice (some ⟨gk,0,none⟩) ks.length ck,.slice (some ⟨gp,0,none⟩) ps.length cp]).ownsRow (w.heap.size+2) 72 3 (.slice (some ⟨gp,0,none⟩) ps.length cp) (ps.set pn ⟨g,tj.x,tj.y⟩).length (triRows (ps.set pn ⟨g,tj.x,tj.y⟩))∧SpOk (ks) (ps.set pn ⟨g,tj.x,tj.y⟩)∧Out w R p 60 (W9.setRow (w.heap.size+1) #[.slice (some ⟨gk,0,none⟩) ks.length ck,.slice (some ⟨gp,0,none⟩) ps.length cp])):=by
   have hg:W9.grownBy (W9.setRow (w.heap.size+1) #[.slice (some ⟨gk,0,none⟩) ks.length ck,.slice (some ⟨gp,0,none⟩) ps.length cp]) (some (w.heap.size+1)):=⟨rfl,rfl,rfl,by simp,fun j _ hj=>setRow_other _ _ _ _ (fun e=>hj (by rw [e]))⟩
   rw [show w.heap.size+2=wA.heap.size+1 by omega]
   refine ⟨aE B9.out.k hg (fun q hq e=>?_),aE B9.out.p hg (fun q hq e=>?_),⟨by omega,by simp;omega,by simp;omega,NK.out,set_names NP.out (by first | exact hgs | (show tj.s.size≤100;exact NP.out _ (List.mem_of_getElem? HAT.out)))⟩,_,?_,?_,B9.out.rd.late (fun j hj=>setRow_other _ _ _ _ (by omega)),aW (av (az HA.out _) B9.out.gr) _ (by omega)⟩
   ·have:=bf B9.out.k q hq;injection e with e;omega
   ·have:=bf B9.out.p q hq;injection e with e;omega
   ·omega
   ·omega
  go_wp2_with (refine wpList_store_row rfl 27 _ _ rfl (w.heap.size+1) #[.slice (some ⟨gk,0,none⟩) ks.length ck,.slice (some ⟨gp,0,none⟩) ps.length cp] rfl rfl 27 _ hR9 (by kernel_rfl) rfl (by simp [Value.oneCell']) ?_)
  exact bodyPost_ret (v:=.agg #[.slice (some ⟨gk,0,none⟩) ks.length ck,.slice (some ⟨gp,0,none⟩) ps.length cp]) (by simp [results,Tryz.results136,go_sem,cell_setRow_same _ _ _ _ _ _ _ hR9]) rfl (by first | exact ⟨_,_,ks,ps.set pn ⟨g,tj.x,tj.y⟩,rfl,HFI.out⟩ | exact ⟨_,_,rfl,ks,HFI.out.1,ps.set pn ⟨g,tj.x,tj.y⟩,HFI.out.2⟩)
 have h3b:(c==3)=false:=by simp [h3]
 clear h3
 by_cases h4:c=4
 ·have h4b:(c==4)=true:=by simp [h4]
  clear h4;go_wp2;refine wp_region_noPanic ?_
  refine wp_region_held_drew (S:=fun wx=>wx.cell? ⟨w2.heap.size,1,none⟩=some (.slice (some ⟨gp,0,none⟩) ps.length cp)) (by kernel_rfl) ?_ (fun hHeld=>?_)
  ·exact HSP.out _ _ _ _ (B4.out.call (Below.refl _ _).drew)
  have B0:=am (B4.out.call (Below.refl _ _).drew);generalize w4.drew=W0 at *;clear B4;refine aJ 0 ?_ rfl ?_ (aJ 1 ?_ rfl ?_ (aJ 2 ?_ rfl ?_ (aJ 4 ?_ rfl ?_ ?_)))
  iterate 4 (rotate_left;focus (intro w hSw;(try dsimp only at hSw);simp only [Act.put,aR];go_simp;try with_reducible rfl))
  simp only [Act.put,aR]
  clear hHeld;refine rdH2 3 5 rfl rfl (fun K hK=>?_) (fun K hK=>?_)
  focus
   skip
   have BA:Hid (Below W0.heap.size W0 (W0.alloc (.cells #[.int .i64 (-1),.int .i64 16,.int .i64 0] 3))):=(aO);have XS:Hid ((W0.alloc (.cells #[.int .i64 (-1),.int .i64 16,.int .i64 0] 3)).heap[W0.heap.size]?=some (.cells #[.int .i64 (-1),.int .i64 16,.int .i64 0] 3 (0,0))):=ay W0 _;have B5:=am (B0.out.call BA.out);have hRN:R<W0.heap.size:=B0.out.rd.lt;go_simp;refine hK.out _ _ (HSP.out _ _ _ _ B5.out) (fun _=>?_);clear hK K B0;generalize (W0.alloc (.cells #[.int .i64 (-1),.int .i64 16,.int .i64 0] 3))=W5 at *;generalize W0.heap.size=NS at *;clear BA;refine bh 5 rfl (fun K hK=>?_);go_simp
   refine (aF R (p+1+1+1) 3 _ B5.out.rd (by omega) (by omega)).mono ?_
   rintro e W6 ⟨y,rfl,hy0,hy1,-,hr,hg⟩
   have hy1:=hy1 (by omega)
   obtain ⟨yn,rfl⟩:∃ n:Nat,y=n:=⟨y.toNat,by omega⟩
   have B6:=am (B5.out.pick hRA (by omega) hr hg)
   have hHeld:=HSP.out _ _ _ _ B6.out;refine hK.out _ _ hHeld (fun _=>?_)
   have XS6:=am (aL hg (show NS≠R by omega) XS.out)
   clear hK K hr hg B5 XS;clear hHeld
  rotate_left
  focus
   skip
   go_simp
   refine (aF R (p+1+1+1) 3 _ B0.out.rd (by omega) (by omega)).mono ?_
   rintro e W5 ⟨y,rfl,hy0,hy1,-,hr,hg⟩
   have hy1:=hy1 (by omega)
   obtain ⟨yn,rfl⟩:∃ n:Nat,y=n:=⟨y.toNat,by omega⟩
   have B5:=am (B0.out.pick hRA (by omega) hr hg)
   have hHeld:=HSP.out _ _ _ _ B5.out;refine hK.out _ _ hHeld (fun _=>?_);clear hK K hr hg B0;clear hHeld;refine bh 3 rfl (fun K hK=>?_);have BA:Hid (Below W5.heap.size W5 (W5.alloc (.cells #[.int .i64 (-1),.int .i64 16,.int .i64 0] 3))):=(aO);have XS6:Hid ((W5.alloc (.cells #[.int .i64 (-1),.int .i64 16,.int .i64 0] 3)).heap[W5.heap.size]?=some (.cells #[.int .i64 (-1),.int .i64 16,.int .i64 0] 3 (0,0))):=ay W5 _;have B6:=am (B5.out.call BA.out);have hRN:R<W5.heap.size:=B5.out.rd.lt;go_simp;refine hK.out _ _ (HSP.out _ _ _ _ B6.out) (fun _=>?_);clear hK K B5;generalize (W5.alloc (.cells #[.int .i64 (-1),.int .i64 16,.int .i64 0] 3))=W6 at *;generalize W5.heap.size=NS at *;clear BA
  rotate_left
  all_goals
   obtain ⟨u,hu⟩:∃ u:Int,(#[.int .i64 (-1),.int .i64 16,.int .i64 0]:Array Value)[yn]?=some (.int .i64 u):=by
    rcases (show yn=0∨yn=1∨yn=2 by omega) with rfl | rfl | rfl <;> exact ⟨_,rfl⟩
   have c0:=ab XS6.out hu;have hHeld:(fun wx:World=>wx.cell? ⟨NS,yn,none⟩=some (.int .i64 u)) W6:=c0;refine bh 6 rfl (fun K hK=>?_);go_simp;refine hK.out _ _ (HSP.out _ _ _ _ B6.out) (fun _=>?_);clear hK K hHeld;refine bh 7 rfl (fun K hK=>?_);go_simp;refine hK.out _ _ (HSP.out _ _ _ _ B6.out) (fun _=>?_);clear hK K c0 hu;have hHeld:=HSP.out _ _ _ _ B6.out;refine aJ 8 ?_ rfl ?_ (aJ 9 ?_ rfl ?_ ?_)
   iterate 2 (rotate_left;focus (intro w hSw;(try dsimp only at hSw);simp only [Act.put,aR];go_simp;try with_reducible rfl))
   simp only [Act.put,aR]
   clear hHeld;refine bh 10 rfl (fun K hK=>?_);obtain ⟨a',c',e',-,-,hcs⟩:=cr B6.out.p
   obtain ⟨bP,oP,hap,d0,d1,d2⟩:=hcs pn _ (aX (by assumption))
   cases e'
   cases hap
   clear hcs;rw [Nat.zero_add] at d0 d1 d2
   have HAT:Hid (ps[pn]?=some (at' ps pn)):=aX (by assumption)
   generalize at' ps pn=tj at *;have zd:=ar d0
   have lfz:∀ j,W6.frozen? ⟨gp,j,none⟩=false:=fun j=>by
    obtain ⟨-,h2⟩:=B6.out.p
    rcases h2 with ⟨h0,-⟩ | ⟨g',cap',cur,hv,-,hc,-⟩
    ·cases h0
    ·cases hv;simp [World.frozen?,hc]
   have B9:Hid (BI wA (W6.setCell ⟨gp,pn*3+1,none⟩ (.int .i64 u)) R w2.heap.size (.slice (some ⟨gk,0,none⟩) ks.length ck) (.slice (some ⟨gp,0,none⟩) ps.length cp) ks (ps.set pn ⟨tj.s,u,tj.y⟩) _):=B6.out.cellP rfl hRA (by omega) (by simp) (cA ps pn 1 tj _ _ HAT.out (by omega) rfl)
   skip
   go_simp;refine hK.out _ _ (HSP.out _ _ _ _ B9.out) (fun _=>?_);clear hK K
   refine wpAnyH_done (by kernel_rfl) ?_ _
   refine NoPanic.normal ?_;generalize (W6.setCell ⟨gp,pn*3+1,none⟩ (.int .i64 u))=W9 at *;clear d0 d1 d2 zd lfz B6;have q0:=ab B9.out.box (i:=0) rfl;have q1:=ab B9.out.box (i:=1) rfl;have hR9:=B9.out.res;rw [HAS] at hR9
   have HFI:Hid ((W9.setRow (w.heap.size+1) #[.slice (some ⟨gk,0,none⟩) ks.length ck,.slice (some ⟨gp,0,none⟩) ps.length cp]).ownsRow (w.heap.size+2) 69 3 (.slice (some ⟨gk,0,none⟩) ks.length ck) (ks).length (triRows (ks))∧(W9.setRow (w.heap.size+1) #[.slice (some ⟨gk,0,none⟩) ks.length ck,.slice (some ⟨gp,0,none⟩) ps.length cp]).ownsRow (w.heap.size+2) 72 3 (.slice (some ⟨gp,0,none⟩) ps.length cp) (ps.set pn ⟨tj.s,u,tj.y⟩).length (triRows (ps.set pn ⟨tj.s,u,tj.y⟩))∧SpOk (ks) (ps.set pn ⟨tj.s,u,tj.y⟩)∧Out w R p 60 (W9.setRow (w.heap.size+1) #[.slice (some ⟨gk,0,none⟩) ks.length ck,.slice (some ⟨gp,0,none⟩) ps.length cp])):=by
    have hg:W9.grownBy (W9.setRow (w.heap.size+1) #[.slice (some ⟨gk,0,none⟩) ks.length ck,.slice (some ⟨gp,0,none⟩) ps.length cp]) (some (w.heap.size+1)):=⟨rfl,rfl,rfl,by simp,fun j _ hj=>setRow_other _ _ _ _ (fun e=>hj (by rw [e]))⟩
    rw [show w.heap.size+2=wA.heap.size+1 by omega]
    refine ⟨aE B9.out.k hg (fun q hq e=>?_),aE B9.out.p hg (fun q hq e=>?_),⟨by omega,by simp;omega,by simp;omega,NK.out,set_names NP.out (by first | exact hgs | (show tj.s.size≤100;exact NP.out _ (List.mem_of_getElem? HAT.out)))⟩,_,?_,?_,B9.out.rd.late (fun j hj=>setRow_other _ _ _ _ (by omega)),aW (av (az HA.out _) B9.out.gr) _ (by omega)⟩
    ·have:=bf B9.out.k q hq;injection e with e;omega
    ·have:=bf B9.out.p q hq;injection e with e;omega
    ·omega
    ·omega
   go_wp2_with (refine wpList_store_row rfl 27 _ _ rfl (w.heap.size+1) #[.slice (some ⟨gk,0,none⟩) ks.length ck,.slice (some ⟨gp,0,none⟩) ps.length cp] rfl rfl 27 _ hR9 (by kernel_rfl) rfl (by simp [Value.oneCell']) ?_)
   exact bodyPost_ret (v:=.agg #[.slice (some ⟨gk,0,none⟩) ks.length ck,.slice (some ⟨gp,0,none⟩) ps.length cp]) (by simp [results,Tryz.results136,go_sem,cell_setRow_same _ _ _ _ _ _ _ hR9]) rfl (by first | exact ⟨_,_,ks,ps.set pn ⟨tj.s,u,tj.y⟩,rfl,HFI.out⟩ | exact ⟨_,_,rfl,ks,HFI.out.1,ps.set pn ⟨tj.s,u,tj.y⟩,HFI.out.2⟩)
 have h4b:(c==4)=false:=by simp [h4]
 clear h4
 by_cases h5:c=5
 ·have h5b:(c==5)=true:=by simp [h5]
  clear h5;go_wp2;refine wp_region_noPanic ?_
  refine aZ (S:=fun wx=>wx.cell? ⟨w2.heap.size,1,none⟩=some (.slice (some ⟨gp,0,none⟩) ps.length cp)) 18 (by kernel_rfl) ?_ (fun hHeld=>?_)
  ·exact HSP.out _ _ _ _ (B4.out.call (Below.refl _ _).drew)
  have B0:=am (B4.out.call (Below.refl _ _).drew);generalize w4.drew=W0 at *;clear B4;refine bp 0 ?_ rfl ?_ (bp 1 ?_ rfl ?_ (bp 2 ?_ rfl ?_ (bp 3 ?_ rfl ?_ (bp 4 ?_ rfl ?_ (bp 5 ?_ rfl ?_ (bp 6 ?_ rfl ?_ (bp 8 ?_ rfl ?_ (bp 9 ?_ rfl ?_ (bp 10 ?_ rfl ?_ (bp 11 ?_ rfl ?_ (bp 12 ?_ rfl ?_ ?_)))))))))))
  iterate 12 (rotate_left;focus (intro w hSw;(try dsimp only at hSw);simp only [Act.put,aR];go_simp;try with_reducible rfl))
  simp only [Act.put,aR]
  clear hHeld;obtain ⟨a',c',e',-,-,hcs⟩:=cr B0.out.p
  obtain ⟨bP,oP,hap,d0,d1,d2⟩:=hcs pn _ (aX (by assumption))
  cases e'
  cases hap
  clear hcs;rw [Nat.zero_add] at d0 d1 d2;generalize at' ps pn=tj at *
  refine bA (rs:=[7,13]) (by kernel_rfl) (by simp) ?_
  refine AllReadyT.cons rfl (fun K hK=>?_) (AllReadyT.cons rfl (fun K hK=>?_) AllReadyT.nil)
  focus
   skip
   go_simp;refine hK.out _ _ (.inr (HSP.out _ _ _ _ B0.out)) ?_;clear hK K;refine bU 13 rfl (fun K hK=>?_)
  rotate_left
  focus
   skip
   go_simp;refine hK.out _ _ (.inr (HSP.out _ _ _ _ B0.out)) ?_;clear hK K;refine bU 7 rfl (fun K hK=>?_)
  rotate_left
  all_goals
   go_simp;refine hK.out _ _ (.inr (HSP.out _ _ _ _ B0.out)) ?_;clear hK K;have hHeld:=HSP.out _ _ _ _ B0.out;refine bp 14 ?_ rfl ?_ ?_;rotate_left
   ·intro w hSw;(try dsimp only at hSw);go_simp;try with_reducible rfl
   simp only [Act.put,aR]
   clear hHeld d0 d1 d2;refine bU 15 rfl (fun K hK=>?_);have BC:Hid (Below W0.heap.size W0 (W0.alloc (.cells #[.string ⟨#[122,122]⟩,.int .i64 tj.x,.int .i64 tj.y] 72))):=(aO);have HSRC:Hid ((W0.alloc (.cells #[.string ⟨#[122,122]⟩,.int .i64 tj.x,.int .i64 tj.y] 72)).heap[W0.heap.size]?=some (.cells #[.string ⟨#[122,122]⟩,.int .i64 tj.x,.int .i64 tj.y] 72 (0,0))):=ay W0 _;have BX2:=am (B0.out.call BC.out);go_simp;refine hK.out _ _ (.inr (HSP.out _ _ _ _ BX2.out)) ?_;clear hK K;generalize (W0.alloc (.cells #[.string ⟨#[122,122]⟩,.int .i64 tj.x,.int .i64 tj.y] 72))=WX2 at *;refine bU 16 rfl (fun K hK=>?_);have hw2:=BX2.out.gr.size;have hw2b:=aG BX2.out.res
   refine ai _ rfl _ _ 25 rfl (wA.heap.size+1) 72 i1 _ 3 32 Tryz.underlying25 hi1 hq0 hq1 hq2 rfl (by decide) _ ps.length _ rfl BX2.out.p _ 1 1 [.string ⟨#[122,122]⟩,.int .i64 tj.x,.int .i64 tj.y] rfl (.inr ⟨_,rfl,World.news_of_block HSRC.out⟩) rfl (fun u hu=>by simp at hu;rcases hu with rfl | rfl | rfl <;> rfl) (by unfold maxLen;omega) (by omega) (by omega) ?_
   intro va WX3 hown hgrow hat
   obtain ⟨ga,gc,hve9,hgc1,hgc2⟩:=bG hown (by omega)
   subst hve9
   have hbx3:=(hgrow.block _ (aG BX2.out.box) (aV BX2.out.p BX2.out.box (by decide))).trans BX2.out.box
   have lz:WX3.cell? ⟨w2.heap.size,1,none⟩=some (.slice (some ⟨gp,0,none⟩) ps.length cp):=ab hbx3 rfl
   have lfz:WX3.frozen? ⟨w2.heap.size,1,none⟩=false:=by simp [World.frozen?,hbx3]
   have BX3:=am (BX2.out.setP (ps':=ps++[(⟨⟨#[122,122]⟩,tj.x,tj.y⟩:Tri)]) hRA (by omega) hgrow (by rw [List.length_append,bQ];exact hown))
   refine hK.out _ _ (.inr lz) ?_;clear hK K hat;have hHeld:=lz;refine bp 17 ?_ rfl ?_ ?_;rotate_left
   ·intro w hSw;(try dsimp only at hSw);go_simp;try with_reducible rfl
   simp only [Act.put,aR]
   clear hHeld hbx3;refine bU 18 rfl (fun K hK=>?_);go_simp;refine hK.out _ _ (.inl rfl) ?_;clear hK K lz lfz
   refine be (by kernel_rfl) ?_ _
   refine NoPanic.normal ?_;generalize (WX3.setCell ⟨w2.heap.size,1,none⟩ (.slice (some ⟨ga,0,none⟩) (ps.length+1) gc))=W9 at *;clear hown hgrow BX2 B0 HSRC BC;have q0:=ab BX3.out.box (i:=0) rfl;have q1:=ab BX3.out.box (i:=1) rfl;have hR9:=BX3.out.res;rw [HAS] at hR9
   have HFI:Hid ((W9.setRow (w.heap.size+1) #[.slice (some ⟨gk,0,none⟩) ks.length ck,.slice (some ⟨ga,0,none⟩) (ps.length+1) gc]).ownsRow (w.heap.size+2) 69 3 (.slice (some ⟨gk,0,none⟩) ks.length ck) (ks).length (triRows (ks))∧(W9.setRow (w.heap.size+1) #[.slice (some ⟨gk,0,none⟩) ks.length ck,.slice (some ⟨ga,0,none⟩) (ps.length+1) gc]).ownsRow (w.heap.size+2) 72 3 (.slice (some ⟨ga,0,none⟩) (ps.length+1) gc) (ps++[(⟨⟨#[122,122]⟩,tj.x,tj.y⟩:Tri)]).length (triRows (ps++[(⟨⟨#[122,122]⟩,tj.x,tj.y⟩:Tri)]))∧SpOk (ks) (ps++[(⟨⟨#[122,122]⟩,tj.x,tj.y⟩:Tri)])∧Out w R p 60 (W9.setRow (w.heap.size+1) #[.slice (some ⟨gk,0,none⟩) ks.length ck,.slice (some ⟨ga,0,none⟩) (ps.length+1) gc])):=by
    have hg:W9.grownBy (W9.setRow (w.heap.size+1) #[.slice (some ⟨gk,0,none⟩) ks.length ck,.slice (some ⟨ga,0,none⟩) (ps.length+1) gc]) (some (w.heap.size+1)):=⟨rfl,rfl,rfl,by simp,fun j _ hj=>setRow_other _ _ _ _ (fun e=>hj (by rw [e]))⟩
    rw [show w.heap.size+2=wA.heap.size+1 by omega]
    refine ⟨aE BX3.out.k hg (fun q hq e=>?_),aE BX3.out.p hg (fun q hq e=>?_),⟨by omega,by simp,by simp;omega,NK.out,snoc_names NP.out (by show 2≤100;omega)⟩,_,?_,?_,BX3.out.rd.late (fun j hj=>setRow_other _ _ _ _ (by omega)),aW (av (az HA.out _) BX3.out.gr) _ (by omega)⟩
    ·have:=bf BX3.out.k q hq;injection e with e;omega
    ·have:=bf BX3.out.p q hq;injection e with e;omega
    ·omega
    ·omega
   go_wp2_with (refine wpList_store_row rfl 27 _ _ rfl (w.heap.size+1) #[.slice (some ⟨gk,0,none⟩) ks.length ck,.slice (some ⟨ga,0,none⟩) (ps.length+1) gc] rfl rfl 27 _ hR9 (by kernel_rfl) rfl (by simp [Value.oneCell']) ?_)
   exact bodyPost_ret (v:=.agg #[.slice (some ⟨gk,0,none⟩) ks.length ck,.slice (some ⟨ga,0,none⟩) (ps.length+1) gc]) (by simp [results,Tryz.results136,go_sem,cell_setRow_same _ _ _ _ _ _ _ hR9]) rfl (by first | exact ⟨_,_,ks,ps++[(⟨⟨#[122,122]⟩,tj.x,tj.y⟩:Tri)],rfl,HFI.out⟩ | exact ⟨_,_,rfl,ks,HFI.out.1,ps++[(⟨⟨#[122,122]⟩,tj.x,tj.y⟩:Tri)],HFI.out.2⟩)
 have h5b:(c==5)=false:=by simp [h5]
 clear h5
 by_cases h6:c=6
 ·have h6b:(c==6)=true:=by simp [h6]
  clear h6;go_wp2
  go_loopw [8] (fun i wr=>∃ k:Nat,k≤9∧i=.int .i64 k∧Hid (∃ v ls q,BI wA wr R w2.heap.size v (.slice (some ⟨gp,0,none⟩) ps.length cp) ls ps q∧1≤ls.length∧ls.length≤100+k∧(∀ t∈ls,t.s.size≤100)∧p≤q∧q≤p+3+k)) (fun i _=>9-(intOf i).toNat)
  case atStart=>exact ⟨0,Nat.zero_le _,rfl,_,_,_,B4.out,by omega,by omega,NK.out,by omega,by omega⟩
  case round =>
   obtain ⟨k,hk9,rfl,HI⟩:=hrel;obtain ⟨v,ls,q,hbi,hl1,hl2,hnm,hq1',hq2'⟩:=HI.out;obtain ⟨g,cc,hve,hc1',hc2'⟩:=bG hbi.k hl1;subst hve;unfold maxLen at hc2';have HBI:=am hbi;have NM:=am hnm;clear HI hbi hnm B4;have HSS:Hid (∀ (wx:World) (q:Nat),BI wA wx R w2.heap.size (.slice (some ⟨g,0,none⟩) ls.length cc) (.slice (some ⟨gp,0,none⟩) ps.length cp) ls ps q→wx.cell? ⟨w2.heap.size,0,none⟩=some (.slice (some ⟨g,0,none⟩) ls.length cc)):=fun wx q h=>ab h.box rfl;go_wp2;refine wp_region_noPanic ?_
   refine wp_region_held_drew (S:=fun wx=>wx.cell? ⟨w2.heap.size,0,none⟩=some (.slice (some ⟨g,0,none⟩) ls.length cc)) (by kernel_rfl) ?_ (fun hHeld=>?_)
   ·exact HSS.out _ _ (HBI.out.call (Below.refl _ _).drew)
   have B0:=am (HBI.out.call (Below.refl _ _).drew);generalize wr.drew=W0 at *;clear HBI;refine aJ 0 ?_ rfl ?_ (aJ 1 ?_ rfl ?_ (aJ 2 ?_ rfl ?_ (aJ 3 ?_ rfl ?_ ?_)))
   iterate 4 (rotate_left;focus (intro w hSw;(try dsimp only at hSw);simp only [Act.put,aR];go_simp;try with_reducible rfl))
   simp only [Act.put,aR]
   clear hHeld;refine bh 4 rfl (fun K hK=>?_);go_simp
   refine (aF R (q) 2 _ B0.out.rd (by omega) (by omega)).mono ?_
   rintro e W5 ⟨y,rfl,hy0,hy1,-,hr,hg⟩
   have hy1:=hy1 (by omega)
   have B5:=am (B0.out.pick hRA (by omega) hr hg)
   have hHeld:=HSS.out _ _ B5.out;refine hK.out _ _ hHeld (fun _=>?_);clear hK K hr hg B0
   have hwu:IntKind.i64.wrap (6+y)=6+y:=by rw [IntKind.wrap_i64];omega
   refine aJ 5 ?_ rfl ?_ ?_;rotate_left
   ·intro w hSw;(try dsimp only at hSw);go_simp;try with_reducible rfl
   simp only [Act.put,aR]
   clear hHeld
   by_cases hlt:(ls.length:Int)<6+y
   ·have hd:decide ((ls.length:Int)<6+y)=true:=by simp [hlt]
    by_cases hkl:k<9
    ·have hd2:decide ((k:Int)<9)=true:=by simp;omega
     have hk2:(k:Int)<9:=by omega
     refine bh 6 rfl (fun K hK=>?_);go_simp;refine hK.out _ _ (HSS.out _ _ B5.out) (fun _=>?_);clear hK K;refine bh 7 rfl (fun K hK=>?_);go_simp;refine hK.out _ _ (HSS.out _ _ B5.out) (fun _=>?_);clear hK K;refine bh 8 rfl (fun K hK=>?_);go_simp;refine hK.out _ _ (HSS.out _ _ B5.out) (fun _=>?_);clear hK K;refine bh 9 rfl (fun K hK=>?_);go_simp;refine hK.out _ _ (HSS.out _ _ B5.out) (fun _=>?_);clear hK K;refine bh 10 rfl (fun K hK=>?_);go_simp;refine hK.out _ _ (HSS.out _ _ B5.out) (fun _=>?_);clear hK K
     refine wpAnyH_done (by kernel_rfl) ?_ _
     refine NoPanic.normal ?_
     have hds:=aP k (by omega)
     have hdn:¬ 9223372036854775807<1+(decS k).size:=by omega
     go_wp2;refine wp_region_noPanic ?_
     refine aZ (S:=fun wx=>wx.cell? ⟨w2.heap.size,0,none⟩=some (.slice (some ⟨g,0,none⟩) ls.length cc)) 9 (by kernel_rfl) ?_ (fun hHeld=>?_)
     ·exact HSS.out _ _ (B5.out.call (Below.refl _ _).drew)
     have B0:=am (B5.out.call (Below.refl _ _).drew);generalize W5.drew=W0 at *;clear B5;refine bp 0 ?_ rfl ?_ (bp 1 ?_ rfl ?_ (bp 2 ?_ rfl ?_ ?_))
     iterate 3 (rotate_left;focus (intro w hSw;(try dsimp only at hSw);simp only [Act.put,aR];go_simp;try with_reducible rfl))
     simp only [Act.put,aR]
     clear hHeld;refine bU 3 rfl (fun K hK=>?_);go_simp
     refine (bq k (by omega) _).mono ?_
     rintro e W6 ⟨rfl,hb6⟩;have B6:=am (B0.out.call hb6);have hHeld:=HSS.out _ _ B6.out;refine hK.out _ _ (.inr hHeld) ?_;clear hK K hb6 B0;refine bp 4 ?_ rfl ?_ (bp 5 ?_ rfl ?_ ?_)
     iterate 2 (rotate_left;focus (intro w hSw;(try dsimp only at hSw);simp only [Act.put,aR];go_simp;try with_reducible rfl))
     simp only [Act.put,aR]
     clear hHeld;refine bU 6 rfl (fun K hK=>?_);have BC:Hid (Below W6.heap.size W6 (W6.alloc (.cells #[.string (⟨#[116]⟩++decS k),.int .i64 1,.int .i64 1] 69))):=(aO);have HSRC:Hid ((W6.alloc (.cells #[.string (⟨#[116]⟩++decS k),.int .i64 1,.int .i64 1] 69)).heap[W6.heap.size]?=some (.cells #[.string (⟨#[116]⟩++decS k),.int .i64 1,.int .i64 1] 69 (0,0))):=ay W6 _;have BX2:=am (B6.out.call BC.out);go_simp;refine hK.out _ _ (.inr (HSS.out _ _ BX2.out)) ?_;clear hK K;generalize (W6.alloc (.cells #[.string (⟨#[116]⟩++decS k),.int .i64 1,.int .i64 1] 69))=WX2 at *;refine bU 7 rfl (fun K hK=>?_);have hw2:=BX2.out.gr.size;have hw2b:=aG BX2.out.res
     refine ai _ rfl _ _ 24 rfl (wA.heap.size+1) 69 i0 _ 3 32 Tryz.underlying24 hi0 hz0' hz1' hz2' rfl (by decide) _ ls.length _ rfl BX2.out.k _ 1 1 [.string (⟨#[116]⟩++decS k),.int .i64 1,.int .i64 1] rfl (.inr ⟨_,rfl,World.news_of_block HSRC.out⟩) rfl (fun u hu=>by simp at hu;rcases hu with rfl | rfl | rfl <;> rfl) (by unfold maxLen;omega) (by omega) (by omega) ?_
     intro va WX3 hown hgrow hat
     obtain ⟨ga,gc,hve9,hgc1,hgc2⟩:=bG hown (by omega)
     subst hve9
     have hbx3:=(hgrow.block _ (aG BX2.out.box) (aV BX2.out.k BX2.out.box (by decide))).trans BX2.out.box
     have lz:WX3.cell? ⟨w2.heap.size,0,none⟩=some (.slice (some ⟨g,0,none⟩) ls.length cc):=ab hbx3 rfl
     have lfz:WX3.frozen? ⟨w2.heap.size,0,none⟩=false:=by simp [World.frozen?,hbx3]
     have BX3:=am (BX2.out.setK (ks':=ls++[(⟨⟨#[116]⟩++decS k,1,1⟩:Tri)]) hRA (by omega) hgrow (by rw [List.length_append,bQ];exact hown))
     refine hK.out _ _ (.inr lz) ?_;clear hK K hat;have hHeld:=lz;refine bp 8 ?_ rfl ?_ ?_;rotate_left
     ·intro w hSw;(try dsimp only at hSw);go_simp;try with_reducible rfl
     simp only [Act.put,aR]
     clear hHeld hbx3;refine bU 9 rfl (fun K hK=>?_);go_simp;refine hK.out _ _ (.inl rfl) ?_;clear hK K lz lfz
     refine be (by kernel_rfl) ?_ _
     refine NoPanic.normal ?_;generalize (WX3.setCell ⟨w2.heap.size,0,none⟩ (.slice (some ⟨ga,0,none⟩) (ls.length+1) gc))=W9 at *;clear hown hgrow BX2 B6 HSRC BC
     have HNX:Hid (∃ v ls q,BI wA W9 R w2.heap.size v (.slice (some ⟨gp,0,none⟩) ps.length cp) ls ps q∧1≤ls.length∧ls.length≤100+(k+1)∧(∀ t∈ls,t.s.size≤100)∧p≤q∧q≤p+3+(k+1)):=⟨_,_,_,BX3.out,by simp,by simp;omega,snoc_names NM.out (by have:=aP k (by omega);simp only [ByteArray.size_append];show 1+_≤100;omega),by omega,by omega⟩
     go_wp2
     exact ⟨⟨k+1,by omega,by go_num,HNX⟩,by simp [intOf];omega⟩
    ·have hd2:decide ((k:Int)<9)=false:=by simp;omega
     have hk2:¬ (k:Int)<9:=by omega
     refine bh 6 rfl (fun K hK=>?_);go_simp;refine hK.out _ _ (HSS.out _ _ B5.out) (fun _=>?_);clear hK K;refine bh 7 rfl (fun K hK=>?_);go_simp;refine hK.out _ _ (HSS.out _ _ B5.out) (fun _=>?_);clear hK K;refine bh 8 rfl (fun K hK=>?_);go_simp;refine hK.out _ _ (HSS.out _ _ B5.out) (fun _=>?_);clear hK K;refine bh 9 rfl (fun K hK=>?_);go_simp;refine hK.out _ _ (HSS.out _ _ B5.out) (fun _=>?_);clear hK K;refine bh 10 rfl (fun K hK=>?_);go_simp;refine hK.out _ _ (HSS.out _ _ B5.out) (fun _=>?_);clear hK K
     refine wpAnyH_done (by kernel_rfl) ?_ _
     refine NoPanic.normal ?_;have q0:=ab B5.out.box (i:=0) rfl;have q1:=ab B5.out.box (i:=1) rfl;have hR9:=B5.out.res;rw [HAS] at hR9
     have HFI:Hid ((W5.setRow (w.heap.size+1) #[.slice (some ⟨g,0,none⟩) ls.length cc,.slice (some ⟨gp,0,none⟩) ps.length cp]).ownsRow (w.heap.size+2) 69 3 (.slice (some ⟨g,0,none⟩) ls.length cc) (ls).length (triRows (ls))∧(W5.setRow (w.heap.size+1) #[.slice (some ⟨g,0,none⟩) ls.length cc,.slice (some ⟨gp,0,none⟩) ps.length cp]).ownsRow (w.heap.size+2) 72 3 (.slice (some ⟨gp,0,none⟩) ps.length cp) (ps).length (triRows (ps))∧SpOk (ls) (ps)∧Out w R p 60 (W5.setRow (w.heap.size+1) #[.slice (some ⟨g,0,none⟩) ls.length cc,.slice (some ⟨gp,0,none⟩) ps.length cp])):=by
      have hg:W5.grownBy (W5.setRow (w.heap.size+1) #[.slice (some ⟨g,0,none⟩) ls.length cc,.slice (some ⟨gp,0,none⟩) ps.length cp]) (some (w.heap.size+1)):=⟨rfl,rfl,rfl,by simp,fun j _ hj=>setRow_other _ _ _ _ (fun e=>hj (by rw [e]))⟩
      rw [show w.heap.size+2=wA.heap.size+1 by omega]
      refine ⟨aE B5.out.k hg (fun q hq e=>?_),aE B5.out.p hg (fun q hq e=>?_),⟨by omega,by omega,by omega,NM.out,NP.out⟩,_,?_,?_,B5.out.rd.late (fun j hj=>setRow_other _ _ _ _ (by omega)),aW (av (az HA.out _) B5.out.gr) _ (by omega)⟩
      ·have:=bf B5.out.k q hq;injection e with e;omega
      ·have:=bf B5.out.p q hq;injection e with e;omega
      ·omega
      ·omega
     go_wp2_with (refine wpList_store_row rfl 27 _ _ rfl (w.heap.size+1) #[.slice (some ⟨g,0,none⟩) ls.length cc,.slice (some ⟨gp,0,none⟩) ps.length cp] rfl rfl 27 _ hR9 (by kernel_rfl) rfl (by simp [Value.oneCell']) ?_)
     exact bodyPost_ret (v:=.agg #[.slice (some ⟨g,0,none⟩) ls.length cc,.slice (some ⟨gp,0,none⟩) ps.length cp]) (by simp [results,Tryz.results136,go_sem,cell_setRow_same _ _ _ _ _ _ _ hR9]) rfl (by first | exact ⟨_,_,ls,ps,rfl,HFI.out⟩ | exact ⟨_,_,rfl,ls,HFI.out.1,ps,HFI.out.2⟩)
   ·have hd:decide ((ls.length:Int)<6+y)=false:=by simp;omega
    refine bh 6 rfl (fun K hK=>?_);go_simp;refine hK.out _ _ (HSS.out _ _ B5.out) (fun _=>?_);clear hK K;refine bh 7 rfl (fun K hK=>?_);go_simp;refine hK.out _ _ (HSS.out _ _ B5.out) (fun _=>?_);clear hK K;refine bh 8 rfl (fun K hK=>?_);go_simp;refine hK.out _ _ (HSS.out _ _ B5.out) (fun _=>?_);clear hK K;refine bh 9 rfl (fun K hK=>?_);go_simp;refine hK.out _ _ (HSS.out _ _ B5.out) (fun _=>?_);clear hK K;refine bh 10 rfl (fun K hK=>?_);go_simp;refine hK.out _ _ (HSS.out _ _ B5.out) (fun _=>?_);clear hK K
    refine wpAnyH_done (by kernel_rfl) ?_ _
    refine NoPanic.normal ?_;have q0:=ab B5.out.box (i:=0) rfl;have q1:=ab B5.out.box (i:=1) rfl;have hR9:=B5.out.res;rw [HAS] at hR9
    have HFI:Hid ((W5.setRow (w.heap.size+1) #[.slice (some ⟨g,0,none⟩) ls.length cc,.slice (some ⟨gp,0,none⟩) ps.length cp]).ownsRow (w.heap.size+2) 69 3 (.slice (some ⟨g,0,none⟩) ls.length cc) (ls).length (triRows (ls))∧(W5.setRow (w.heap.size+1) #[.slice (some ⟨g,0,none⟩) ls.length cc,.slice (some ⟨gp,0,none⟩) ps.length cp]).ownsRow (w.heap.size+2) 72 3 (.slice (some ⟨gp,0,none⟩) ps.length cp) (ps).length (triRows (ps))∧SpOk (ls) (ps)∧Out w R p 60 (W5.setRow (w.heap.size+1) #[.slice (some ⟨g,0,none⟩) ls.length cc,.slice (some ⟨gp,0,none⟩) ps.length cp])):=by
     have hg:W5.grownBy (W5.setRow (w.heap.size+1) #[.slice (some ⟨g,0,none⟩) ls.length cc,.slice (some ⟨gp,0,none⟩) ps.length cp]) (some (w.heap.size+1)):=⟨rfl,rfl,rfl,by simp,fun j _ hj=>setRow_other _ _ _ _ (fun e=>hj (by rw [e]))⟩
     rw [show w.heap.size+2=wA.heap.size+1 by omega]
     refine ⟨aE B5.out.k hg (fun q hq e=>?_),aE B5.out.p hg (fun q hq e=>?_),⟨by omega,by omega,by omega,NM.out,NP.out⟩,_,?_,?_,B5.out.rd.late (fun j hj=>setRow_other _ _ _ _ (by omega)),aW (av (az HA.out _) B5.out.gr) _ (by omega)⟩
     ·have:=bf B5.out.k q hq;injection e with e;omega
     ·have:=bf B5.out.p q hq;injection e with e;omega
     ·omega
     ·omega
    go_wp2_with (refine wpList_store_row rfl 27 _ _ rfl (w.heap.size+1) #[.slice (some ⟨g,0,none⟩) ls.length cc,.slice (some ⟨gp,0,none⟩) ps.length cp] rfl rfl 27 _ hR9 (by kernel_rfl) rfl (by simp [Value.oneCell']) ?_)
    exact bodyPost_ret (v:=.agg #[.slice (some ⟨g,0,none⟩) ls.length cc,.slice (some ⟨gp,0,none⟩) ps.length cp]) (by simp [results,Tryz.results136,go_sem,cell_setRow_same _ _ _ _ _ _ _ hR9]) rfl (by first | exact ⟨_,_,ls,ps,rfl,HFI.out⟩ | exact ⟨_,_,rfl,ls,HFI.out.1,ps,HFI.out.2⟩)
 have h6b:(c==6)=false:=by simp [h6]
 clear h6;go_wp2
 go_loopw [9] (fun i wr=>∃ k:Nat,k≤40∧i=.int .i64 k∧Hid (∃ v ls q,BI wA wr R w2.heap.size (.slice (some ⟨gk,0,none⟩) ks.length ck) v ks ls q∧1≤ls.length∧ls.length≤100+k∧(∀ t∈ls,t.s.size≤100)∧p≤q∧q≤p+3+k)) (fun i _=>40-(intOf i).toNat)
 case atStart=>exact ⟨0,Nat.zero_le _,rfl,_,_,_,B4.out,by omega,by omega,NP.out,by omega,by omega⟩
 case round =>
  obtain ⟨k,hk9,rfl,HI⟩:=hrel;obtain ⟨v,ls,q,hbi,hl1,hl2,hnm,hq1',hq2'⟩:=HI.out;obtain ⟨g,cc,hve,hc1',hc2'⟩:=bG hbi.p hl1;subst hve;unfold maxLen at hc2';have HBI:=am hbi;have NM:=am hnm;clear HI hbi hnm B4;have HSS:Hid (∀ (wx:World) (q:Nat),BI wA wx R w2.heap.size (.slice (some ⟨gk,0,none⟩) ks.length ck) (.slice (some ⟨g,0,none⟩) ls.length cc) ks ls q→wx.cell? ⟨w2.heap.size,1,none⟩=some (.slice (some ⟨g,0,none⟩) ls.length cc)):=fun wx q h=>ab h.box rfl;go_wp2;refine wp_region_noPanic ?_
  refine wp_region_held_drew (S:=fun wx=>wx.cell? ⟨w2.heap.size,1,none⟩=some (.slice (some ⟨g,0,none⟩) ls.length cc)) (by kernel_rfl) ?_ (fun hHeld=>?_)
  ·exact HSS.out _ _ (HBI.out.call (Below.refl _ _).drew)
  have B0:=am (HBI.out.call (Below.refl _ _).drew);generalize wr.drew=W0 at *;clear HBI;refine aJ 0 ?_ rfl ?_ (aJ 1 ?_ rfl ?_ (aJ 2 ?_ rfl ?_ (aJ 3 ?_ rfl ?_ ?_)))
  iterate 4 (rotate_left;focus (intro w hSw;(try dsimp only at hSw);simp only [Act.put,aR];go_simp;try with_reducible rfl))
  simp only [Act.put,aR]
  clear hHeld;refine bh 4 rfl (fun K hK=>?_);go_simp
  refine (aF R (q) 2 _ B0.out.rd (by omega) (by omega)).mono ?_
  rintro e W5 ⟨y,rfl,hy0,hy1,-,hr,hg⟩
  have hy1:=hy1 (by omega)
  have B5:=am (B0.out.pick hRA (by omega) hr hg)
  have hHeld:=HSS.out _ _ B5.out;refine hK.out _ _ hHeld (fun _=>?_);clear hK K hr hg B0
  have hwu:IntKind.i64.wrap (16+y)=16+y:=by rw [IntKind.wrap_i64];omega
  refine aJ 5 ?_ rfl ?_ ?_;rotate_left
  ·intro w hSw;(try dsimp only at hSw);go_simp;try with_reducible rfl
  simp only [Act.put,aR]
  clear hHeld
  by_cases hlt:(ls.length:Int)<16+y
  ·have hd:decide ((ls.length:Int)<16+y)=true:=by simp [hlt]
   by_cases hkl:k<40
   ·have hd2:decide ((k:Int)<40)=true:=by simp;omega
    have hk2:(k:Int)<40:=by omega
    refine bh 6 rfl (fun K hK=>?_);go_simp;refine hK.out _ _ (HSS.out _ _ B5.out) (fun _=>?_);clear hK K;refine bh 7 rfl (fun K hK=>?_);go_simp;refine hK.out _ _ (HSS.out _ _ B5.out) (fun _=>?_);clear hK K;refine bh 8 rfl (fun K hK=>?_);go_simp;refine hK.out _ _ (HSS.out _ _ B5.out) (fun _=>?_);clear hK K;refine bh 9 rfl (fun K hK=>?_);go_simp;refine hK.out _ _ (HSS.out _ _ B5.out) (fun _=>?_);clear hK K;refine bh 10 rfl (fun K hK=>?_);go_simp;refine hK.out _ _ (HSS.out _ _ B5.out) (fun _=>?_);clear hK K
    refine wpAnyH_done (by kernel_rfl) ?_ _
    refine NoPanic.normal ?_
    have hds:=aP (10+k) (by omega)
    have hdn:¬ 9223372036854775807<1+(decS (10+k)).size:=by omega
    have hw10:IntKind.i64.wrap (10+(k:Int))=10+(k:Int):=by rw [IntKind.wrap_i64];omega
    have HDC:Hid (∀ wx:World,Calls Tryz.prog 45 #[.int .i64 (10+(k:Int))] wx fun e w'=>e=.returned (.string (decS (10+k)))∧Below wx.heap.size wx w'):=fun wx=>by
     have h:=bq (10+k) (by omega) wx
     rw [show ((10+k:Nat):Int)=10+(k:Int) by omega] at h
     exact h
    have hmo:Int.tmod (k:Int) 16=(k:Int) % 16:=Int.tmod_eq_emod_of_nonneg (by omega)
    have hqu:Int.tdiv (k:Int) 16=(k:Int) / 16:=Int.tdiv_eq_ediv_of_nonneg (by omega)
    have hws:IntKind.i64.wrap (15-(k:Int) / 16)=15-(k:Int) / 16:=by rw [IntKind.wrap_i64];omega
    have hwq:IntKind.i64.wrap ((k:Int) / 16)=(k:Int) / 16:=by rw [IntKind.wrap_i64];omega
    go_wp2;refine wp_region_noPanic ?_
    refine aZ (S:=fun wx=>wx.cell? ⟨w2.heap.size,1,none⟩=some (.slice (some ⟨g,0,none⟩) ls.length cc)) 15 (by kernel_rfl) ?_ (fun hHeld=>?_)
    ·exact HSS.out _ _ (B5.out.call (Below.refl _ _).drew)
    have B0:=am (B5.out.call (Below.refl _ _).drew);generalize W5.drew=W0 at *;clear B5;refine bp 0 ?_ rfl ?_ (bp 1 ?_ rfl ?_ (bp 2 ?_ rfl ?_ (bp 3 ?_ rfl ?_ (bp 6 ?_ rfl ?_ (bp 7 ?_ rfl ?_ (bp 8 ?_ rfl ?_ (bp 9 ?_ rfl ?_ (bp 10 ?_ rfl ?_ ?_))))))))
    iterate 9 (rotate_left;focus (intro w hSw;(try dsimp only at hSw);simp only [Act.put,aR];go_simp;try with_reducible rfl))
    simp only [Act.put,aR]
    clear hHeld;refine bU 4 rfl (fun K hK=>?_);go_simp;refine (HDC.out _).mono ?_;rintro e W6 ⟨rfl,hb6⟩;have B6:=am (B0.out.call hb6);have hHeld:=HSS.out _ _ B6.out;refine hK.out _ _ (.inr hHeld) ?_;clear hK K hb6 B0 HDC;refine bp 5 ?_ rfl ?_ (bp 11 ?_ rfl ?_ ?_)
    iterate 2 (rotate_left;focus (intro w hSw;(try dsimp only at hSw);simp only [Act.put,aR];go_simp;try with_reducible rfl))
    simp only [Act.put,aR]
    clear hHeld;refine bU 12 rfl (fun K hK=>?_);have BC:Hid (Below W6.heap.size W6 (W6.alloc (.cells #[.string (⟨#[121]⟩++decS (10+k)),.int .i64 ((k:Int) % 16),.int .i64 (15-(k:Int) / 16)] 72))):=(aO);have HSRC:Hid ((W6.alloc (.cells #[.string (⟨#[121]⟩++decS (10+k)),.int .i64 ((k:Int) % 16),.int .i64 (15-(k:Int) / 16)] 72)).heap[W6.heap.size]?=some (.cells #[.string (⟨#[121]⟩++decS (10+k)),.int .i64 ((k:Int) % 16),.int .i64 (15-(k:Int) / 16)] 72 (0,0))):=ay W6 _;have BX2:=am (B6.out.call BC.out);go_simp;refine hK.out _ _ (.inr (HSS.out _ _ BX2.out)) ?_;clear hK K;generalize (W6.alloc (.cells #[.string (⟨#[121]⟩++decS (10+k)),.int .i64 ((k:Int) % 16),.int .i64 (15-(k:Int) / 16)] 72))=WX2 at *;refine bU 13 rfl (fun K hK=>?_);have hw2:=BX2.out.gr.size;have hw2b:=aG BX2.out.res
    refine ai _ rfl _ _ 25 rfl (wA.heap.size+1) 72 i1 _ 3 32 Tryz.underlying25 hi1 hq0 hq1 hq2 rfl (by decide) _ ls.length _ rfl BX2.out.p _ 1 1 [.string (⟨#[121]⟩++decS (10+k)),.int .i64 ((k:Int) % 16),.int .i64 (15-(k:Int) / 16)] rfl (.inr ⟨_,rfl,World.news_of_block HSRC.out⟩) rfl (fun u hu=>by simp at hu;rcases hu with rfl | rfl | rfl <;> rfl) (by unfold maxLen;omega) (by omega) (by omega) ?_
    intro va WX3 hown hgrow hat
    obtain ⟨ga,gc,hve9,hgc1,hgc2⟩:=bG hown (by omega)
    subst hve9
    have hbx3:=(hgrow.block _ (aG BX2.out.box) (aV BX2.out.p BX2.out.box (by decide))).trans BX2.out.box
    have lz:WX3.cell? ⟨w2.heap.size,1,none⟩=some (.slice (some ⟨g,0,none⟩) ls.length cc):=ab hbx3 rfl
    have lfz:WX3.frozen? ⟨w2.heap.size,1,none⟩=false:=by simp [World.frozen?,hbx3]
    have BX3:=am (BX2.out.setP (ps':=ls++[(⟨⟨#[121]⟩++decS (10+k),(k:Int) % 16,15-(k:Int) / 16⟩:Tri)]) hRA (by omega) hgrow (by rw [List.length_append,bQ];exact hown))
    refine hK.out _ _ (.inr lz) ?_;clear hK K hat;have hHeld:=lz;refine bp 14 ?_ rfl ?_ ?_;rotate_left
    ·intro w hSw;(try dsimp only at hSw);go_simp;try with_reducible rfl
    simp only [Act.put,aR]
    clear hHeld hbx3;refine bU 15 rfl (fun K hK=>?_);go_simp;refine hK.out _ _ (.inl rfl) ?_;clear hK K lz lfz
    refine be (by kernel_rfl) ?_ _
    refine NoPanic.normal ?_;generalize (WX3.setCell ⟨w2.heap.size,1,none⟩ (.slice (some ⟨ga,0,none⟩) (ls.length+1) gc))=W9 at *;clear hown hgrow BX2 B6 HSRC BC
    have HNX:Hid (∃ v ls q,BI wA W9 R w2.heap.size (.slice (some ⟨gk,0,none⟩) ks.length ck) v ks ls q∧1≤ls.length∧ls.length≤100+(k+1)∧(∀ t∈ls,t.s.size≤100)∧p≤q∧q≤p+3+(k+1)):=⟨_,_,_,BX3.out,by simp,by simp;omega,snoc_names NM.out (by have:=aP (10+k) (by omega);simp only [ByteArray.size_append];show 1+_≤100;omega),by omega,by omega⟩
    go_wp2
    exact ⟨⟨k+1,by omega,by go_num,HNX⟩,by simp [intOf];omega⟩
   ·have hd2:decide ((k:Int)<40)=false:=by simp;omega
    have hk2:¬ (k:Int)<40:=by omega
    refine bh 6 rfl (fun K hK=>?_);go_simp;refine hK.out _ _ (HSS.out _ _ B5.out) (fun _=>?_);clear hK K;refine bh 7 rfl (fun K hK=>?_);go_simp;refine hK.out _ _ (HSS.out _ _ B5.out) (fun _=>?_);clear hK K;refine bh 8 rfl (fun K hK=>?_);go_simp;refine hK.out _ _ (HSS.out _ _ B5.out) (fun _=>?_);clear hK K;refine bh 9 rfl (fun K hK=>?_);go_simp;refine hK.out _ _ (HSS.out _ _ B5.out) (fun _=>?_);clear hK K;refine bh 10 rfl (fun K hK=>?_);go_simp;refine hK.out _ _ (HSS.out _ _ B5.out) (fun _=>?_);clear hK K
    refine wpAnyH_done (by kernel_rfl) ?_ _
    refine NoPanic.normal ?_;have q0:=ab B5.out.box (i:=0) rfl;have q1:=ab B5.out.box (i:=1) rfl;have hR9:=B5.out.res;rw [HAS] at hR9
    have HFI:Hid ((W5.setRow (w.heap.size+1) #[.slice (some ⟨gk,0,none⟩) ks.length ck,.slice (some ⟨g,0,none⟩) ls.length cc]).ownsRow (w.heap.size+2) 69 3 (.slice (some ⟨gk,0,none⟩) ks.length ck) (ks).length (triRows (ks))∧(W5.setRow (w.heap.size+1) #[.slice (some ⟨gk,0,none⟩) ks.length ck,.slice (some ⟨g,0,none⟩) ls.length cc]).ownsRow (w.heap.size+2) 72 3 (.slice (some ⟨g,0,none⟩) ls.length cc) (ls).length (triRows (ls))∧SpOk (ks) (ls)∧Out w R p 60 (W5.setRow (w.heap.size+1) #[.slice (some ⟨gk,0,none⟩) ks.length ck,.slice (some ⟨g,0,none⟩) ls.length cc])):=by
     have hg:W5.grownBy (W5.setRow (w.heap.size+1) #[.slice (some ⟨gk,0,none⟩) ks.length ck,.slice (some ⟨g,0,none⟩) ls.length cc]) (some (w.heap.size+1)):=⟨rfl,rfl,rfl,by simp,fun j _ hj=>setRow_other _ _ _ _ (fun e=>hj (by rw [e]))⟩
     rw [show w.heap.size+2=wA.heap.size+1 by omega]
     refine ⟨aE B5.out.k hg (fun q hq e=>?_),aE B5.out.p hg (fun q hq e=>?_),⟨by omega,by omega,by omega,NK.out,NM.out⟩,_,?_,?_,B5.out.rd.late (fun j hj=>setRow_other _ _ _ _ (by omega)),aW (av (az HA.out _) B5.out.gr) _ (by omega)⟩
     ·have:=bf B5.out.k q hq;injection e with e;omega
     ·have:=bf B5.out.p q hq;injection e with e;omega
     ·omega
     ·omega
    go_wp2_with (refine wpList_store_row rfl 27 _ _ rfl (w.heap.size+1) #[.slice (some ⟨gk,0,none⟩) ks.length ck,.slice (some ⟨g,0,none⟩) ls.length cc] rfl rfl 27 _ hR9 (by kernel_rfl) rfl (by simp [Value.oneCell']) ?_)
    exact bodyPost_ret (v:=.agg #[.slice (some ⟨gk,0,none⟩) ks.length ck,.slice (some ⟨g,0,none⟩) ls.length cc]) (by simp [results,Tryz.results136,go_sem,cell_setRow_same _ _ _ _ _ _ _ hR9]) rfl (by first | exact ⟨_,_,ks,ls,rfl,HFI.out⟩ | exact ⟨_,_,rfl,ks,HFI.out.1,ls,HFI.out.2⟩)
  ·have hd:decide ((ls.length:Int)<16+y)=false:=by simp;omega
   refine bh 6 rfl (fun K hK=>?_);go_simp;refine hK.out _ _ (HSS.out _ _ B5.out) (fun _=>?_);clear hK K;refine bh 7 rfl (fun K hK=>?_);go_simp;refine hK.out _ _ (HSS.out _ _ B5.out) (fun _=>?_);clear hK K;refine bh 8 rfl (fun K hK=>?_);go_simp;refine hK.out _ _ (HSS.out _ _ B5.out) (fun _=>?_);clear hK K;refine bh 9 rfl (fun K hK=>?_);go_simp;refine hK.out _ _ (HSS.out _ _ B5.out) (fun _=>?_);clear hK K;refine bh 10 rfl (fun K hK=>?_);go_simp;refine hK.out _ _ (HSS.out _ _ B5.out) (fun _=>?_);clear hK K
   refine wpAnyH_done (by kernel_rfl) ?_ _
   refine NoPanic.normal ?_;have q0:=ab B5.out.box (i:=0) rfl;have q1:=ab B5.out.box (i:=1) rfl;have hR9:=B5.out.res;rw [HAS] at hR9
   have HFI:Hid ((W5.setRow (w.heap.size+1) #[.slice (some ⟨gk,0,none⟩) ks.length ck,.slice (some ⟨g,0,none⟩) ls.length cc]).ownsRow (w.heap.size+2) 69 3 (.slice (some ⟨gk,0,none⟩) ks.length ck) (ks).length (triRows (ks))∧(W5.setRow (w.heap.size+1) #[.slice (some ⟨gk,0,none⟩) ks.length ck,.slice (some ⟨g,0,none⟩) ls.length cc]).ownsRow (w.heap.size+2) 72 3 (.slice (some ⟨g,0,none⟩) ls.length cc) (ls).length (triRows (ls))∧SpOk (ks) (ls)∧Out w R p 60 (W5.setRow (w.heap.size+1) #[.slice (some ⟨gk,0,none⟩) ks.length ck,.slice (some ⟨g,0,none⟩) ls.length cc])):=by
    have hg:W5.grownBy (W5.setRow (w.heap.size+1) #[.slice (some ⟨gk,0,none⟩) ks.length ck,.slice (some ⟨g,0,none⟩) ls.length cc]) (some (w.heap.size+1)):=⟨rfl,rfl,rfl,by simp,fun j _ hj=>setRow_other _ _ _ _ (fun e=>hj (by rw [e]))⟩
    rw [show w.heap.size+2=wA.heap.size+1 by omega]
    refine ⟨aE B5.out.k hg (fun q hq e=>?_),aE B5.out.p hg (fun q hq e=>?_),⟨by omega,by omega,by omega,NK.out,NM.out⟩,_,?_,?_,B5.out.rd.late (fun j hj=>setRow_other _ _ _ _ (by omega)),aW (av (az HA.out _) B5.out.gr) _ (by omega)⟩
    ·have:=bf B5.out.k q hq;injection e with e;omega
    ·have:=bf B5.out.p q hq;injection e with e;omega
    ·omega
    ·omega
   go_wp2_with (refine wpList_store_row rfl 27 _ _ rfl (w.heap.size+1) #[.slice (some ⟨gk,0,none⟩) ks.length ck,.slice (some ⟨g,0,none⟩) ls.length cc] rfl rfl 27 _ hR9 (by kernel_rfl) rfl (by simp [Value.oneCell']) ?_)
   exact bodyPost_ret (v:=.agg #[.slice (some ⟨gk,0,none⟩) ks.length ck,.slice (some ⟨g,0,none⟩) ls.length cc]) (by simp [results,Tryz.results136,go_sem,cell_setRow_same _ _ _ _ _ _ _ hR9]) rfl (by first | exact ⟨_,_,ks,ls,rfl,HFI.out⟩ | exact ⟨_,_,rfl,ks,HFI.out.1,ls,HFI.out.2⟩)
end Go.Proofs.YtcmgddnckohdaaaGreatDoor.Dr
