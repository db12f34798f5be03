import Derived.Test.YtbjmgglpiakgdaaGreatDoorDr5
import Derived.Test.YtbjmgglpiakgdaaGreatDoorBook7
import Derived.Test.YtbjmgglpiakgdaaGreatDoorApp
set_option maxRecDepth 100000
set_option maxHeartbeats 6400000
namespace Go.Proofs.YtbjmgglpiakgdaaGreatDoor.Dr
open Go.RowKit
set_option linter.unusedSimpArgs false
set_option linter.unusedVariables false
theorem grown_own {w W W':World} {r row:Option Nat} (h:w.grownBy W r) (k:W.grownBy W' row) (hr:∀ q,row=some q→w.heap.size≤q):w.grownBy W' r :=
 ⟨k.1.trans h.1,k.2.trans h.2,k.3.trans h.3,Nat.le_trans h.4 k.4,fun j hj hn=>(k.5 j (Nat.lt_of_lt_of_le hj h.4) (fun e=>by have:=hr j e.symm;omega)).trans (h.5 j hj hn)⟩
theorem own_geD {w:World} {base:Nat} {e:TypeId} {size:Nat} {v:Value} {n:Nat} {xs:List Value} (h:w.ownsRow base e size v n xs):∀ k,v.ownBlock=some k→base≤k:=by
 intro k hk
 rcases h.2 with ⟨rfl,_⟩ | ⟨g,cap,cur,rfl,hg,_⟩
 ·cases hk
 ·cases hk;exact hg
theorem own_sliceD {w:World} {base:Nat} {e:TypeId} {size:Nat} {v:Value} {n:Nat} {xs:List Value} (h:w.ownsRow base e size v n xs):∃ a c,v=.slice a n c:=by
 rcases h.2 with ⟨rfl,h0⟩ | ⟨g,cap,cur,rfl,_⟩
 ·exact ⟨none,0,by rw [h0]⟩
 ·exact ⟨_,cap,rfl⟩
theorem own_keepD {w w':World} {base:Nat} {e:TypeId} {size:Nat} {v:Value} {n:Nat} {xs:List Value} (h:w.ownsRow base e size v n xs) (hb:Below w.heap.size w w'):w'.ownsRow base e size v n xs:=by
 obtain ⟨h1,h2⟩:=h;refine ⟨h1,?_⟩
 rcases h2 with h2 | ⟨g,cap,cur,hv,hg,hh,rest⟩
 ·exact .inl h2
 ·exact .inr ⟨g,cap,cur,hv,hg,(hb.block g (Array.getElem?_eq_some_iff.1 hh).1).trans hh,rest⟩
theorem own_box {w w':World} {R base:Nat} {e:TypeId} {size:Nat} {v:Value} {n:Nat} {xs:List Value} (h:w.ownsRow base e size v n xs) (hg:w.grownBy w' (some R)) (hR:R<base):w'.ownsRow base e size v n xs:=by
 obtain ⟨h1,h2⟩:=h;refine ⟨h1,?_⟩
 rcases h2 with h2 | ⟨g,cap,cur,hv,hgb,hh,rest⟩
 ·exact .inl h2
 ·exact .inr ⟨g,cap,cur,hv,hgb,(hg.block g (Array.getElem?_eq_some_iff.1 hh).1 (fun e=>by have:=Option.some.inj e;omega)).trans hh,rest⟩
def SmC (c:Chg):Prop:=c.f.size≤2000∧c.v.size≤2000
structure CI (w wr:World) (R:Nat) (C:Array Value) (v:Value) (l:List Chg) (px:Nat):Prop where
 rd:Rd wr R px
 gr:w.grownBy wr (some R)
 box:wr.heap[w.heap.size]?=some (.cells C 26 (0,0))
 row:ChgsNew wr (w.heap.size+1) v l
 sm:∀ c∈l,SmC c
theorem l3Changes_any (R p:Nat) (vk vp:Value) (ps:List Tri) (most:Int) (w:World) (h:Rd w R p) (hp:p≤700000) (hm:1≤most∧most≤24) (hv:TrisAt w vp ps) (hps:1≤ps.length∧ps.length≤1000) (hn:∀ t∈ps,t.s.size≤100) :
  Calls Tryz.prog 32 #[.pointer (some ⟨R,0,none⟩),.agg #[vk,vp],.int .i64 most] w fun e w'=>∃ v l,e=.returned v∧ChgsNew w' w.heap.size v l∧l.length≤24∧(∀ c∈l,SmC c)∧Out w R p 1000 w':=by
 obtain ⟨i0,hi0,hz0,hz1,hz2⟩:=info_parts infoChange;have hRlt:=h.lt;have HNN:Hid (∀ t∈ps,t.s.size≤100):=hn;have HV0:Hid (∀ wx:World,w.grownBy wx (some R)→TrisAt wx vp ps):=fun wx hg=>TrisAt_box hv h hg;obtain ⟨va,vc,rfl,hvl,hvm,-⟩:=hv;unfold maxLen at hvm;obtain ⟨hps1,hps2⟩:=hps;obtain ⟨hm1,hm2⟩:=hm
 have HB:Hid (Below w.heap.size w ((w.alloc (.cells #[vk,.slice va ps.length vc] 26)).alloc (.cells #[] 40))):=(bal).alloc (by simp) _
 have HX1:Hid (((w.alloc (.cells #[vk,.slice va ps.length vc] 26)).alloc (.cells #[] 40)).heap[w.heap.size]?=some (.cells #[vk,.slice va ps.length vc] 26 (0,0))):=by
  show _=_
  rw [(((bal):Below (w.alloc (.cells #[vk,.slice va ps.length vc] 26)).heap.size (w.alloc (.cells #[vk,.slice va ps.length vc] 26)) ((w.alloc (.cells #[vk,.slice va ps.length vc] 26)).alloc (.cells #[] 40)))).block _ (by simp)]
  exact heap_newD w _
 have HX2:Hid (((w.alloc (.cells #[vk,.slice va ps.length vc] 26)).alloc (.cells #[] 40)).heap[w.heap.size+1]?=some (.cells #[] 40 (0,0))):=by
  have h:=heap_newD (w.alloc (.cells #[vk,.slice va ps.length vc] 26)) (.cells #[] 40)
  rw [show (w.alloc (.cells #[vk,.slice va ps.length vc] 26)).heap.size=w.heap.size+1 by simp] at h
  exact h
 have CI0:Hid (CI w ((w.alloc (.cells #[vk,.slice va ps.length vc] 26)).alloc (.cells #[] 40)) R #[vk,.slice va ps.length vc] (.slice (some ⟨w.heap.size+1,0,none⟩) 0 0) [] p) :=
  ⟨h.far HB.out,grown_of HB.out _,HX1.out,⟨rfl,.inr ⟨w.heap.size+1,0,#[],rfl,Nat.le_refl _,HX2.out,Nat.le_refl _,Nat.zero_le _,rfl,rfl⟩⟩,(fun c hc=>by cases hc)⟩
 clear h hn
 go_enter Tryz.func32,Tryz.ntmps32
 go_wp2_with fail;generalize ((w.alloc (.cells #[vk,.slice va ps.length vc] 26)).alloc (.cells #[] 40))=w1 at *
 refine (pick_any R p most _ CI0.out.rd (by omega) (by omega)).mono ?_
 rintro e w2 ⟨x,rfl,hx0,hx1,-,hr2,hg2⟩;have hx1:=hx1 hm1
 obtain ⟨N0,rfl⟩:∃ n:Nat,x=n:=⟨x.toNat,by omega⟩
 have CI2:Hid (CI w w2 R #[vk,.slice va ps.length vc] (.slice (some ⟨w.heap.size+1,0,none⟩) 0 0) [] (p+1)) :=
  ⟨hr2,grown_on CI0.out.gr hg2,box_keep hg2 (by omega) CI0.out.box,own_box CI0.out.row hg2 (by omega),CI0.out.sm⟩
 clear hr2 hg2;go_wp2_with fail
 go_loopw [7,8] (fun v nv wr=>∃ (m:Nat) (l:List Chg) (a:Option Addr) (c:Nat),v=.slice a l.length c∧nv=.int .i64 m∧m≤24∧Hid (l.length+m≤24∧∃ px,CI w wr R #[vk,.slice va ps.length vc] v l px∧p≤px∧px+40*m≤p+1+40*24)) (fun _ nv _=>(intOf nv).toNat)
 case atStart=>exact ⟨N0,[],_,_,rfl,rfl,by omega,by show 0+N0≤24;omega,p+1,CI2.out,by omega,by omega⟩
 case round =>
  obtain ⟨m,l,a,c,rfl,rfl,hm24,HI⟩:=hrel;obtain ⟨hl,px,hci,hpx1,hpx2⟩:=HI.out;have HC:=toHid hci;clear HI hci
  by_cases hm0:m=0
  ·subst hm0
   have HF:Hid (ChgsNew wr w.heap.size (.slice a l.length c) l∧l.length≤24∧(∀ c∈l,SmC c)∧Out w R p 1000 wr):=⟨by
    have h:=HC.out.row;refine ⟨h.1,?_⟩
    rcases h.2 with h2 | ⟨g,cap,cur,hv,hg,rest⟩
    ·exact .inl h2
    ·exact .inr ⟨g,cap,cur,hv,by omega,rest⟩,by omega,HC.out.sm,px,by omega,by omega,HC.out.rd,HC.out.gr⟩
   clear HC;go_wp2;go_ret;exact ⟨_,l,rfl,HF.out⟩
  ·have hmp:(0:Int)<(m:Int):=by omega
   have b0:=cell_blkD HC.out.box (i:=0) rfl;have b1:=cell_blkD HC.out.box (i:=1) rfl;go_wp2_with fail
   refine (l2Change_any R px vk _ ps _ HC.out.rd (by omega) (HV0.out _ HC.out.gr) ⟨hps1,hps2⟩ HNN.out).mono ?_
   rintro e w4 ⟨f,wh,num,s,rfl,hf,hs,-,-,px',hpx3,hpx4,hr4,hg4⟩
   have C4:Hid (CI w w4 R #[vk,.slice va ps.length vc] (.slice a l.length c) l px'):=⟨hr4,grown_on HC.out.gr hg4,box_keep hg4 (by omega) HC.out.box,own_box HC.out.row hg4 (by omega),HC.out.sm⟩
   clear hr4 hg4 HC b0 b1;have BC:Hid (Below w4.heap.size w4 (w4.alloc (.cells #[.string f,.int .i64 wh,.int .i64 num,.string s] 40))):=(bal);have HSRC:Hid ((w4.alloc (.cells #[.string f,.int .i64 wh,.int .i64 num,.string s] 40)).heap[w4.heap.size]?=some (.cells #[.string f,.int .i64 wh,.int .i64 num,.string s] 40 (0,0))):=heap_newD w4 _;have hown0:=own_keepD C4.out.row BC.out;have hw4:=C4.out.gr.size;have hwb:=lt_blk C4.out.box
   obtain ⟨m1,rfl⟩:∃ m1,m=m1+1:=⟨m-1,by omega⟩
   go_wp2_with (at_builtin;refine wpList_append_any _ rfl _ _ 30 rfl (w.heap.size+1) 40 i0 _ 4 48 Tryz.underlying30 hi0 hz0 hz1 hz2 rfl (by decide) _ l.length _ rfl hown0 _ 1 1 [.string f,.int .i64 wh,.int .i64 num,.string s] rfl (.inr ⟨_,rfl,World.news_of_block HSRC.out⟩) rfl (fun u hu=>by simp at hu;rcases hu with rfl | rfl | rfl | rfl <;> rfl) (by unfold maxLen;omega) (by omega) (by simp;omega) ?_;intro vq wx hown hgrow hat)
   have HN:Hid ((l++[(⟨f,wh,num,s⟩:Chg)]).length+m1≤24∧∃ px,CI w wx R #[vk,.slice va ps.length vc] vq (l++[(⟨f,wh,num,s⟩:Chg)]) px∧p≤px∧px+40*m1≤p+1+40*24):=by
    have hge:∀ q,(Value.slice a l.length c).ownBlock=some q→w.heap.size+1≤q:=fun q hq=>own_geD C4.out.row q hq
    refine ⟨by simp;omega,px',⟨(C4.out.rd.far BC.out).late (fun j hj=>hgrow.block j (by simp;omega) (fun e=>by have:=hge j e.symm;omega)),grown_own (grown_on C4.out.gr (grown_of BC.out _)) hgrow (fun q hq=>by have:=hge q hq;omega),(hgrow.block _ (by simp;omega) (fun e=>by have:=hge _ e.symm;omega)).trans ((BC.out.block _ (by omega)).trans C4.out.box),?_,fun c hc=>?_⟩,by omega,by omega⟩
    ·unfold ChgsNew
     rw [List.length_append,chgRows_snoc];exact hown
    ·rcases List.mem_append.1 hc with hc | hc
     ·exact C4.out.sm c hc
     ·have hc':=List.mem_singleton.1 hc
      rw [hc']
      exact (show SmC ⟨f,wh,num,s⟩ from ⟨(show f.size≤2000 by omega),hs⟩)
   obtain ⟨qa,qc,rfl⟩:=own_sliceD hown
   exact ⟨⟨m1,l++[(⟨f,wh,num,s⟩:Chg)],qa,qc,by simp,by first | rfl | (congr 1;push_cast;omega),by omega,HN⟩,by simp [intOf]⟩
end Go.Proofs.YtbjmgglpiakgdaaGreatDoor.Dr
