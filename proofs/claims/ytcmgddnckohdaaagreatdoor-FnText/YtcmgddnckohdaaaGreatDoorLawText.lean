import Derived.Test.YtcmgddnckohdaaaGreatDoorPx1
set_option maxRecDepth 100000
set_option maxHeartbeats 6400000
set_option linter.unusedSimpArgs false
set_option linter.unusedVariables false
namespace Go.Proofs.YtcmgddnckohdaaaGreatDoor.Tx
open Go.RowKit Sd
structure RS (w:World) (X:Nat) (vl:Value) (L:List ByteArray) (R:Bk×Nat×Int) (k:Nat) (b:Bk) (x y z:Value) (wr:World):Prop where
 below:Below w.heap.size w wr
 r:wr.heap[w.heap.size]?=some (.cells #[.slice none 0 0,.slice none 0 0,.slice none 0 0] 30 (0,0))
 f:wr.heap[w.heap.size+1]?=some (.cells #[.int .i64 0,.int .i64 0] 32 (0,0))
 bk:wr.heap[X]?=some (.cells #[x,y,z] 30 (0,0))
 lt:w.heap.size+1<X
 at':dI wr x y z b.1 b.2.1 b.2.2
 str:dV wr vl L
 gd:Gd b
 par:R=ed eH b k (L.drop k)
theorem RS.call {w wr wr':World} {X:Nat} {vl:Value} {L:List ByteArray} {R:Bk×Nat×Int} {k:Nat} {b:Bk} {x y z:Value} (h:RS w X vl L R k b x y z wr) (hb:Below wr.heap.size wr wr'):RS w X vl L R k b x y z wr' :=
 ⟨aa h.below hb,(hb.block _ (Array.getElem?_eq_some_iff.1 h.r).1).trans h.r,(hb.block _ (Array.getElem?_eq_some_iff.1 h.f).1).trans h.f,(hb.block _ (Array.getElem?_eq_some_iff.1 h.bk).1).trans h.bk,h.lt,h.at'.keep hb,h.str.keep hb,h.gd,h.par⟩
theorem dI.shapes {w:World} {vk vp ve:Value} {ks ps:List dx} {es:List dU} (h:dI w vk vp ve ks ps es):∃ a1 c1 a2 c2 a3 c3,vk=.slice a1 ks.length c1∧vp=.slice a2 ps.length c2∧ve=.slice a3 es.length c3:=by
 obtain ⟨⟨a1,c1,h1,-⟩,⟨a2,c2,h2,-⟩,⟨a3,c3,h3,-⟩⟩:=h;exact ⟨a1,c1,a2,c2,a3,c3,h1,h2,h3⟩
theorem RS.put {w wr:World} {X:Nat} {vl:Value} {L:List ByteArray} {R:Bk×Nat×Int} {k:Nat} {b b':Bk} {x y z x' y' z':Value} (h:RS w X vl L R k b x y z wr) (hn:dI wr x' y' z' b'.1 b'.2.1 b'.2.2) (hg:Gd b') (hp:R=ed eH b' (k+1) (L.drop (k+1))):RS w X vl L R (k+1) b' x' y' z' (wr.setRow X #[x',y',z']):=by
 have hlt:=h.lt;obtain ⟨a1,a2,a3,a4,a5,a6,rfl,rfl,rfl⟩:=dI.shapes h.at'
 refine ⟨below_setRow h.below (by omega) _,?_,?_,setRow_heap _ _ _ _ _ _ h.bk,hlt,cv hn h.bk _,Di h.str h.bk,hg,hp⟩
 ·rw [setRow_other _ _ _ _ (by omega)]
  exact h.r
 ·rw [setRow_other _ _ _ _ (by omega)]
  exact h.f
theorem lX (w:World):dI w (.slice none 0 0) (.slice none 0 0) (.slice none 0 0) [] [] []:=(df.none w.heap.size w).at
structure R2 (w:World) (w1:World):Prop where
 below:Below w.heap.size w w1
 r:w1.heap[w.heap.size]?=some (.cells #[.slice none 0 0,.slice none 0 0,.slice none 0 0] 30 (0,0))
 f:w1.heap[w.heap.size+1]?=some (.cells #[.int .i64 0,.int .i64 0] 32 (0,0))
theorem zy (s:ByteArray) (w:World) (hs:s.size≤1048576) :
  Calls Tryz.prog 9 #[.string s] w fun e w'=>∃ x y z,e=.returned (.tuple #[.agg #[x,y,z],.agg #[.int .i64 (fV s).2.1,.int .i64 (fV s).2.2]])∧dI w' x y z (fV s).1.1 (fV s).1.2.1 (fV s).1.2.2∧Below w.heap.size w w':=by
 have FK:Hid (fV s=bif jg s then (([],[],[]),0,1) else ed eH ([],[],[]) 0 (fe s)):=rfl;have HLB:Hid (jg s=(decide ((10000:Int)<(s.size:Int))||decide ((200:Int)<((fe s).length:Int)))):=rfl;have HLS:Hid (∀ l∈fe s,l.size≤s.size):=qU s;have HLN:=aq (fun wx:World=>Ev s wx hs);generalize fV s=R at *;generalize jg s=lb at *;generalize fe s=L at *
 go_enter Tryz.func9,Tryz.ntmps9
 go_wp2_with fail;refine (HLN.out _).mono ?_;rintro e w1 ⟨v,rfl,hv1,hb1⟩;have HV:=aq hv1;obtain ⟨g,off,cap,rfl,hlc,hcm,-⟩:=hv1;unfold maxLen at hcm
 have H1:Hid (R2 w w1):=by
  refine ⟨aa ((aM).alloc (by simp) _) hb1,(hb1.block _ (by simp;omega)).trans (j4 w _ _),(hb1.block _ (by simp)).trans ?_⟩
  have h:=am (w.alloc (.cells #[.slice none 0 0,.slice none 0 0,.slice none 0 0] 30)) (.cells #[.int .i64 0,.int .i64 0] 32);rw [World.size_alloc] at h;exact h
 clear hb1
 by_cases h1:(10000:Int)<(s.size:Int)
 ·have HP:Hid (R=(([],[],[]),0,1)):=by
   have h:lb=true:=by rw [HLB.out,decide_eq_true h1];rfl
   rw [h] at FK;exact FK.out
  have g2:=H1.out.r
  have g3:(w1.setRow w.heap.size #[.slice none 0 0,.slice none 0 0,.slice none 0 0]).heap[w.heap.size+1]?=some (.cells #[.int .i64 0,.int .i64 0] 32 (0,0)):=(setRow_other _ _ _ _ (by omega)).trans H1.out.f
  go_wp2_with (first | (refine wpList_store_row rfl 30 _ _ rfl (w.heap.size) #[.slice none 0 0,.slice none 0 0,.slice none 0 0] rfl rfl 30 _ g2 (by kernel_rfl) rfl (by simp [Value.oneCell']) ?_) | (refine wpList_store_row rfl 32 _ _ rfl (w.heap.size+1) #[.int .i64 0,.int .i64 1] rfl rfl 32 _ g3 (by kernel_rfl) rfl (by simp [Value.oneCell']) ?_))
  have r0:(w1.setRow w.heap.size #[.slice none 0 0,.slice none 0 0,.slice none 0 0]).heap[w.heap.size]?=some (.cells #[.slice none 0 0,.slice none 0 0,.slice none 0 0] 30 (0,0)):=setRow_heap _ _ _ _ _ _ g2
  have r1:((w1.setRow w.heap.size #[.slice none 0 0,.slice none 0 0,.slice none 0 0]).setRow (w.heap.size+1) #[.int .i64 0,.int .i64 1]).heap[w.heap.size]?=some (.cells #[.slice none 0 0,.slice none 0 0,.slice none 0 0] 30 (0,0)):=(setRow_other _ _ _ _ (by omega)).trans r0
  have r2:((w1.setRow w.heap.size #[.slice none 0 0,.slice none 0 0,.slice none 0 0]).setRow (w.heap.size+1) #[.int .i64 0,.int .i64 1]).heap[w.heap.size+1]?=some (.cells #[.int .i64 0,.int .i64 1] 32 (0,0)):=setRow_heap _ _ _ _ _ _ g3
  exact bodyPost_ret (v:=.tuple #[.agg #[.slice none 0 0,.slice none 0 0,.slice none 0 0],.agg #[.int .i64 0,.int .i64 1]]) (by simp [results,Tryz.results9,go_sem,World.cell?,r1,r2]) rfl ⟨_,_,_,by rw [HP.out];rfl,by rw [HP.out];exact lX _,below_setRow (below_setRow H1.out.below aG _) (by omega) _⟩
 ·by_cases h2:(200:Int)<(L.length:Int)
  ·have HP:Hid (R=(([],[],[]),0,1)):=by
    have h:lb=true:=by rw [HLB.out,decide_eq_true h2,Bool.or_true]
    rw [h] at FK;exact FK.out
   have g2:=H1.out.r
   have g3:(w1.setRow w.heap.size #[.slice none 0 0,.slice none 0 0,.slice none 0 0]).heap[w.heap.size+1]?=some (.cells #[.int .i64 0,.int .i64 0] 32 (0,0)):=(setRow_other _ _ _ _ (by omega)).trans H1.out.f
   go_wp2_with (first | (refine wpList_store_row rfl 30 _ _ rfl (w.heap.size) #[.slice none 0 0,.slice none 0 0,.slice none 0 0] rfl rfl 30 _ g2 (by kernel_rfl) rfl (by simp [Value.oneCell']) ?_) | (refine wpList_store_row rfl 32 _ _ rfl (w.heap.size+1) #[.int .i64 0,.int .i64 1] rfl rfl 32 _ g3 (by kernel_rfl) rfl (by simp [Value.oneCell']) ?_))
   have r0:(w1.setRow w.heap.size #[.slice none 0 0,.slice none 0 0,.slice none 0 0]).heap[w.heap.size]?=some (.cells #[.slice none 0 0,.slice none 0 0,.slice none 0 0] 30 (0,0)):=setRow_heap _ _ _ _ _ _ g2
   have r1:((w1.setRow w.heap.size #[.slice none 0 0,.slice none 0 0,.slice none 0 0]).setRow (w.heap.size+1) #[.int .i64 0,.int .i64 1]).heap[w.heap.size]?=some (.cells #[.slice none 0 0,.slice none 0 0,.slice none 0 0] 30 (0,0)):=(setRow_other _ _ _ _ (by omega)).trans r0
   have r2:((w1.setRow w.heap.size #[.slice none 0 0,.slice none 0 0,.slice none 0 0]).setRow (w.heap.size+1) #[.int .i64 0,.int .i64 1]).heap[w.heap.size+1]?=some (.cells #[.int .i64 0,.int .i64 1] 32 (0,0)):=setRow_heap _ _ _ _ _ _ g3
   exact bodyPost_ret (v:=.tuple #[.agg #[.slice none 0 0,.slice none 0 0,.slice none 0 0],.agg #[.int .i64 0,.int .i64 1]]) (by simp [results,Tryz.results9,go_sem,World.cell?,r1,r2]) rfl ⟨_,_,_,by rw [HP.out];rfl,by rw [HP.out];exact lX _,below_setRow (below_setRow H1.out.below aG _) (by omega) _⟩
  ·have HP:Hid (R=ed eH ([],[],[]) 0 L):=by
    have h:lb=false:=by rw [HLB.out,decide_eq_false h1,decide_eq_false h2];rfl
    rw [h] at FK;exact FK.out
   have HA1:Hid (Below w1.heap.size w1 (w1.alloc (.cells #[.slice none 0 0,.slice none 0 0,.slice none 0 0] 30))):=(aM);have HX:Hid (w.heap.size+1<w1.heap.size):=(Array.getElem?_eq_some_iff.1 H1.out.f).1
   have HI0:Hid (RS w w1.heap.size (.slice (some ⟨g,off,none⟩) L.length cap) L R 0 ([],[],[]) (.slice none 0 0) (.slice none 0 0) (.slice none 0 0) (w1.alloc (.cells #[.slice none 0 0,.slice none 0 0,.slice none 0 0] 30))):=⟨aa H1.out.below HA1.out,(HA1.out.block _ (by have:=HX.out;omega)).trans H1.out.r,(HA1.out.block _ HX.out).trans H1.out.f,am w1 _,HX.out,lX _,HV.out.keep HA1.out,Gd.none,HP.out⟩
   go_wp2_with fail;clear HV HA1 H1 HP;generalize w1.alloc (.cells #[.slice none 0 0,.slice none 0 0,.slice none 0 0] 30)=w2 at *;generalize w1.heap.size=X at *
   go_loopw [6] (fun i wr=>∃ (k:Nat) (b:Bk) (a1 a3 a5:Option Addr) (a2 a4 a6:Nat),k≤L.length∧i=.int .i64 k∧Hid (RS w X (.slice (some ⟨g,off,none⟩) L.length cap) L R k b (.slice a1 b.1.length a2) (.slice a3 b.2.1.length a4) (.slice a5 b.2.2.length a6) wr)) (fun i _=>L.length-(intOf i).toNat)
   case atStart=>exact ⟨0,([],[],[]),none,none,none,0,0,0,Nat.zero_le _,rfl,HI0.out⟩
   case round =>
    obtain ⟨k,b,a1,a3,a5,a2,a4,a6,hk,rfl,HI⟩:=hrel;have hbk:=HI.out.bk
    obtain ⟨d0,d1,d2⟩:wr.cell? ⟨X,0,none⟩=some (.slice a1 b.1.length a2)∧wr.cell? ⟨X,1,none⟩=some (.slice a3 b.2.1.length a4)∧wr.cell? ⟨X,2,none⟩=some (.slice a5 b.2.2.length a6):=by simp [World.cell?,hbk]
    by_cases hlt:k<L.length
    ·have c0:wr.cell? ⟨g,off+k,none⟩=some (.string (dE L k)):=HI.out.str.cellS k hlt
     have hk0:(0:Int)≤(k:Int):=by omega
     have hk1:(k:Int)<(L.length:Int):=by omega
     have HDR:Hid (L.drop k=dE L k::L.drop (k+1)):=by
      show _=_
      rw [List.drop_eq_getElem_cons hlt]
      simp [dE,hlt]
     have hsz:(dE L k).size≤1048576:=Nat.le_trans (HLS.out _ (by rw [Hw hlt];exact List.getElem_mem hlt)) hs
     have HLX:Hid (∀ wx:World,Below wr.heap.size wr wx→Calls Tryz.prog 33 #[.agg #[.slice a1 b.1.length a2,.slice a3 b.2.1.length a4,.slice a5 b.2.2.length a6],.string (dE L k)] wx fun e w'=>∃ (e1 e3 e5:Option Addr) (n1 n2 n3 e2 e4 e6:Nat),e=.returned (.tuple #[.agg #[.slice e1 n1 e2,.slice e3 n2 e4,.slice e5 n3 e6],.int .i64 (eU eH b (dE L k))])∧(eU eH b (dE L k)=0→dI w' (.slice e1 n1 e2) (.slice e3 n2 e4) (.slice e5 n3 e6) (dX eH b (dE L k)).1 (dX eH b (dE L k)).2.1 (dX eH b (dE L k)).2.2)∧Below wx.heap.size wx w'):=fun wx hx=>by
      refine (Gu (dE L k) _ _ _ b wx (HI.out.at'.keep hx) HI.out.gd hsz).mono ?_;rintro e w3 ⟨hb3,⟨hc,rfl⟩ | ⟨hc,x,y,z,rfl,hn⟩⟩
      ·exact ⟨_,_,_,_,_,_,_,_,_,rfl,fun h=>absurd h hc,hb3⟩
      ·obtain ⟨e1,e2,e3,e4,e5,e6,rfl,rfl,rfl⟩:=dI.shapes hn
       exact ⟨_,_,_,_,_,_,_,_,_,by rw [hc],fun _=>hn,hb3⟩
     have Kn:Hid (eU eH b (dE L k)≠0→R=(([],[],[]),k+1,eU eH b (dE L k))):=fun hc=>HI.out.par.trans (by rw [HDR.out,mZ hc])
     have HPG:Hid (eU eH b (dE L k)=0→R=ed eH (dX eH b (dE L k)) (k+1) (L.drop (k+1))∧Gd (dX eH b (dE L k))):=fun hc=>⟨HI.out.par.trans (by rw [HDR.out,bT hc]),HI.out.gd.line hsz (o8 _ hsz).2.2.2.2 hc⟩
     clear HDR hsz;generalize eU eH b (dE L k)=lc at *;generalize dX eH b (dE L k)=lb at *;generalize dE L k=lw at *;go_wp2_with fail
     go_cut [7,8] (fun s7 s8 wc=>∃ (Y:Nat) (e1 e3 e5:Option Addr) (n1 n2 n3 e2 e4 e6:Nat),s7=.pointer (some ⟨Y,0,none⟩)∧s8=.int .i64 lc∧Hid (Below wr.heap.size wr wc∧wc.heap[Y]?=some (.cells #[.slice e1 n1 e2,.slice e3 n2 e4,.slice e5 n3 e6] 30 (0,0))∧(lc=0→dI wc (.slice e1 n1 e2) (.slice e3 n2 e4) (.slice e5 n3 e6) lb.1 lb.2.1 lb.2.2)))
     case first =>
      have dK:Hid (∀ w':World,Below wr.heap.size wr w'→(w'.cell? ⟨X,0,none⟩=some (.slice a1 b.1.length a2)∧w'.cell? ⟨X,1,none⟩=some (.slice a3 b.2.1.length a4)∧w'.cell? ⟨X,2,none⟩=some (.slice a5 b.2.2.length a6)∧w'.cell? ⟨g,off+k,none⟩=some (.string lw))):=fun w' hx=>⟨ag hx aG d0,ag hx aG d1,ag hx aG d2,ag hx aG c0⟩;clear d0 d1 d2 c0 hbk;refine wp_region_noPanic ?_
      refine wp_region_held_drew (S:=fun w'=>w'.cell? ⟨X,0,none⟩=some (.slice a1 b.1.length a2)∧w'.cell? ⟨X,1,none⟩=some (.slice a3 b.2.1.length a4)∧w'.cell? ⟨X,2,none⟩=some (.slice a5 b.2.2.length a6)∧w'.cell? ⟨g,off+k,none⟩=some (.string lw)) (by kernel_rfl) ?_ (fun hHeld=>?_)
      ·exact dK.out _ (Below.refl _ _).drew
      have bY:Hid (Below wr.heap.size wr wr.drew):=(Below.refl _ _).drew;generalize wr.drew=W0 at *;refine aO 0 ?_ rfl ?_ (aO 1 ?_ rfl ?_ (aO 2 ?_ rfl ?_ (aO 3 ?_ rfl ?_ (aO 4 ?_ rfl ?_ ?_))))
      iterate 5 (rotate_left;focus (intro w hSw;(try dsimp only at hSw);simp only [Act.put,aU];go_simp;try with_reducible rfl))
      simp only [Act.put,aU]
      clear hHeld;refine lZ 5 9 rfl rfl (fun K hK=>?_) (fun K hK=>?_)
      focus
       go_simp;refine (HLX.out _ bY.out).mono ?_;rintro e W1 ⟨e1,e3,e5,n1,n2,n3,e2,e4,e6,rfl,hn,hbb⟩;have HB2:Hid (Below wr.heap.size wr W1):=aa bY.out hbb;have HN:=aq hn;have hHeld:=dK.out _ HB2.out;refine hK.out _ _ hHeld (fun _=>?_);clear hK K hbb bY hn;have bY:=HB2;clear HB2;refine aO 6 ?_ rfl ?_ (aO 7 ?_ rfl ?_ (aO 8 ?_ rfl ?_ ?_))
       iterate 3 (rotate_left;focus (intro w hSw;(try dsimp only at hSw);simp only [Act.put,aU];go_simp;try with_reducible rfl))
       simp only [Act.put,aU]
       clear hHeld;refine bE 9 rfl (fun K hK=>?_);go_simp;have hbb:Below W1.heap.size W1 (W1.alloc (.cells #[.slice none 0 0,.slice none 0 0,.slice none 0 0] 30)):=(aM);have HB2:Hid (Below wr.heap.size wr (W1.alloc (.cells #[.slice none 0 0,.slice none 0 0,.slice none 0 0] 30))):=aa bY.out hbb;have HY:Hid ((W1.alloc (.cells #[.slice none 0 0,.slice none 0 0,.slice none 0 0] 30)).heap[W1.heap.size]?=some (.cells #[.slice none 0 0,.slice none 0 0,.slice none 0 0] 30 (0,0))):=am W1 _;have HYL:Hid (wr.heap.size≤W1.heap.size):=bY.out.size;have nT:Hid (lc=0→dI (W1.alloc (.cells #[.slice none 0 0,.slice none 0 0,.slice none 0 0] 30)) (.slice e1 n1 e2) (.slice e3 n2 e4) (.slice e5 n3 e6) lb.1 lb.2.1 lb.2.2):=fun h=>(HN.out h).keep hbb;refine hK.out _ _ (dK.out _ HB2.out) (fun _=>?_);clear hK K hbb bY HN;have bY:=HB2;have HN:=nT;clear nT;clear HB2;generalize (W1.alloc (.cells #[.slice none 0 0,.slice none 0 0,.slice none 0 0] 30))=W2 at *;generalize W1.heap.size=Y at *
      rotate_left
      focus
       go_simp;have hbb:Below W0.heap.size W0 (W0.alloc (.cells #[.slice none 0 0,.slice none 0 0,.slice none 0 0] 30)):=(aM);have HB2:Hid (Below wr.heap.size wr (W0.alloc (.cells #[.slice none 0 0,.slice none 0 0,.slice none 0 0] 30))):=aa bY.out hbb;have HY:Hid ((W0.alloc (.cells #[.slice none 0 0,.slice none 0 0,.slice none 0 0] 30)).heap[W0.heap.size]?=some (.cells #[.slice none 0 0,.slice none 0 0,.slice none 0 0] 30 (0,0))):=am W0 _;have HYL:Hid (wr.heap.size≤W0.heap.size):=bY.out.size;refine hK.out _ _ (dK.out _ HB2.out) (fun _=>?_);clear hK K hbb bY;have bY:=HB2;clear HB2;generalize (W0.alloc (.cells #[.slice none 0 0,.slice none 0 0,.slice none 0 0] 30))=W1 at *;generalize W0.heap.size=Y at *;refine bE 5 rfl (fun K hK=>?_);go_simp;refine (HLX.out _ bY.out).mono ?_;rintro e W2 ⟨e1,e3,e5,n1,n2,n3,e2,e4,e6,rfl,hn,hbb⟩;have HB2:Hid (Below wr.heap.size wr W2):=aa bY.out hbb;have HN:=aq hn;have HY2:Hid (W2.heap[Y]?=some (.cells #[.slice none 0 0,.slice none 0 0,.slice none 0 0] 30 (0,0))):=(hbb.block _ (Array.getElem?_eq_some_iff.1 HY.out).1).trans HY.out;have hHeld:=dK.out _ HB2.out;refine hK.out _ _ hHeld (fun _=>?_);clear hK K hbb bY hn HY;have bY:=HB2;have HY:=HY2;clear HY2;clear HB2;refine aO 6 ?_ rfl ?_ (aO 7 ?_ rfl ?_ (aO 8 ?_ rfl ?_ ?_))
       iterate 3 (rotate_left;focus (intro w hSw;(try dsimp only at hSw);simp only [Act.put,aU];go_simp;try with_reducible rfl))
       simp only [Act.put,aU]
       clear hHeld
      rotate_left
      all_goals
       refine bE 10 rfl (fun K hK=>?_)
       refine aF rfl 30 _ _ rfl Y #[.slice e1 n1 e2,.slice e3 n2 e4,.slice e5 n3 e6] rfl rfl 30 _ HY.out (by kernel_rfl) rfl (by simp [Value.oneCell']) ?_
       have HB2:Hid (Below wr.heap.size wr (W2.setRow Y #[.slice e1 n1 e2,.slice e3 n2 e4,.slice e5 n3 e6])):=below_setRow bY.out HYL.out _;have HY2:Hid ((W2.setRow Y #[.slice e1 n1 e2,.slice e3 n2 e4,.slice e5 n3 e6]).heap[Y]?=some (.cells #[.slice e1 n1 e2,.slice e3 n2 e4,.slice e5 n3 e6] 30 (0,0))):=setRow_heap _ _ _ _ _ _ HY.out;have nT:Hid (lc=0→dI (W2.setRow Y #[.slice e1 n1 e2,.slice e3 n2 e4,.slice e5 n3 e6]) (.slice e1 n1 e2) (.slice e3 n2 e4) (.slice e5 n3 e6) lb.1 lb.2.1 lb.2.2):=fun h=>cv (HN.out h) HY.out _;have hHeld:=dK.out _ HB2.out;refine hK.out _ _ hHeld (fun _=>?_);clear hK K;refine aO 11 ?_ rfl ?_ ?_;rotate_left
       ·intro w hSw;(try dsimp only at hSw);go_simp;try with_reducible rfl
       simp only [Act.put,aU]
       refine wpAnyH_done (by kernel_rfl) ?_ _
       refine NoPanic.normal ?_;go_wp2_with fail
       go_meet
       exact ⟨Y,_,_,_,_,_,_,_,_,_,rfl,rfl,HB2.out,HY2.out,nT.out⟩
     case rest =>
      obtain ⟨Y,e1,e3,e5,n1,n2,n3,e2,e4,e6,rfl,rfl,HQ⟩:=hcut;have HI3:Hid (RS w X (.slice (some ⟨g,off,none⟩) L.length cap) L R k b (.slice a1 b.1.length a2) (.slice a3 b.2.1.length a4) (.slice a5 b.2.2.length a6) wc):=HI.out.call HQ.out.1;have HYB:=HQ.out.2.1
      obtain ⟨q0,q1,q2⟩:wc.cell? ⟨Y,0,none⟩=some (.slice e1 n1 e2)∧wc.cell? ⟨Y,1,none⟩=some (.slice e3 n2 e4)∧wc.cell? ⟨Y,2,none⟩=some (.slice e5 n3 e6):=by simp [World.cell?,HYB]
      clear d0 d1 d2 c0 HI hbk HYB
      by_cases hc:lc=0
      ·obtain ⟨hp,hgd⟩:=HPG.out hc
       have HN:=aq (HQ.out.2.2 hc)
       have hcb:(lc==0)=true:=by simp [hc]
       have hcn:(lc != 0)=false:=by simp [hc]
       have HI4:Hid (RS w X (.slice (some ⟨g,off,none⟩) L.length cap) L R (k+1) lb (.slice e1 n1 e2) (.slice e3 n2 e4) (.slice e5 n3 e6) (wc.setRow X #[.slice e1 n1 e2,.slice e3 n2 e4,.slice e5 n3 e6])):=HI3.out.put HN.out hgd hp;have ku:=aq HI3.out.bk;have HSH:=aq (dI.shapes HN.out);clear hp hgd HPG Kn HLX HQ HI3;have g3:=ku.out
       go_wp2_with (refine wpList_store_row rfl 30 _ _ rfl X #[.slice e1 n1 e2,.slice e3 n2 e4,.slice e5 n3 e6] rfl rfl 30 _ g3 (by kernel_rfl) rfl (by simp [Value.oneCell']) ?_)
       obtain ⟨f1,f2,f3,f4,f5,f6,h1,h2,h3⟩:=HSH.out
       injection h1 with i1 i2 i3
       injection h2 with i4 i5 i6
       injection h3 with i7 i8 i9
       have HI5:=HI4.out;rw [i2,i5,i8] at HI5
       exact ⟨⟨k+1,lb,e1,e3,e5,e2,e4,e6,by omega,by go_num,by rw [i2,i5,i8];exact HI5⟩,by simp [intOf];omega⟩
      ·have HP:=aq (Kn.out hc)
       have hcb:(lc==0)=false:=by simp [hc]
       have hcn:(lc != 0)=true:=by simp [hc]
       have g2:=HI3.out.r
       have g3:(wc.setRow w.heap.size #[.slice none 0 0,.slice none 0 0,.slice none 0 0]).heap[w.heap.size+1]?=some (.cells #[.int .i64 0,.int .i64 0] 32 (0,0)):=(setRow_other _ _ _ _ (by omega)).trans HI3.out.f
       go_wp2_with (first | (refine wpList_store_row rfl 30 _ _ rfl (w.heap.size) #[.slice none 0 0,.slice none 0 0,.slice none 0 0] rfl rfl 30 _ g2 (by kernel_rfl) rfl (by simp [Value.oneCell']) ?_) | (refine wpList_store_row rfl 32 _ _ rfl (w.heap.size+1) #[.int .i64 ((k:Int)+1),.int .i64 lc] rfl rfl 32 _ g3 (by kernel_rfl) rfl (by simp [Value.oneCell']) ?_))
       have r0:(wc.setRow w.heap.size #[.slice none 0 0,.slice none 0 0,.slice none 0 0]).heap[w.heap.size]?=some (.cells #[.slice none 0 0,.slice none 0 0,.slice none 0 0] 30 (0,0)):=setRow_heap _ _ _ _ _ _ g2
       have r1:((wc.setRow w.heap.size #[.slice none 0 0,.slice none 0 0,.slice none 0 0]).setRow (w.heap.size+1) #[.int .i64 ((k:Int)+1),.int .i64 lc]).heap[w.heap.size]?=some (.cells #[.slice none 0 0,.slice none 0 0,.slice none 0 0] 30 (0,0)):=(setRow_other _ _ _ _ (by omega)).trans r0
       have r2:((wc.setRow w.heap.size #[.slice none 0 0,.slice none 0 0,.slice none 0 0]).setRow (w.heap.size+1) #[.int .i64 ((k:Int)+1),.int .i64 lc]).heap[w.heap.size+1]?=some (.cells #[.int .i64 ((k:Int)+1),.int .i64 lc] 32 (0,0)):=setRow_heap _ _ _ _ _ _ g3
       exact bodyPost_ret (v:=.tuple #[.agg #[.slice none 0 0,.slice none 0 0,.slice none 0 0],.agg #[.int .i64 ((k:Int)+1),.int .i64 lc]]) (by simp [results,Tryz.results9,go_sem,World.cell?,r1,r2]) rfl ⟨_,_,_,by rw [HP.out];rfl,by rw [HP.out];exact lX _,below_setRow (below_setRow HI3.out.below aG _) (by omega) _⟩
    ·have HP:Hid (R=(b,0,0)):=HI.out.par.trans (by rw [List.drop_of_length_le (by omega)];rfl)
     have hk1:¬ (k:Int)<(L.length:Int):=by omega
     go_wp2_with fail;refine (cq _ _ _ b.1 b.2.1 b.2.2 _ HI.out.at' HI.out.gd.sm.s.k HI.out.gd.sm.s.p HI.out.gd.sm.s.e HI.out.gd.sm.s.f).mono ?_;rintro e w3 ⟨x,y,z,rfl,hn3,hb3⟩;have HI3:Hid (RS w X (.slice (some ⟨g,off,none⟩) L.length cap) L R k b (.slice a1 b.1.length a2) (.slice a3 b.2.1.length a4) (.slice a5 b.2.2.length a6) w3):=HI.out.call hb3;have FM:=aq hn3.at;obtain ⟨e1,e2,e3,e4,e5,e6,rfl,rfl,rfl⟩:=hn3.slices;clear d0 d1 d2 hbk hn3 hb3 HI;have g2:=HI3.out.r
     have g3:(w3.setRow w.heap.size #[.slice e1 b.1.length e2,.slice e3 b.2.1.length e4,.slice e5 b.2.2.length e6]).heap[w.heap.size+1]?=some (.cells #[.int .i64 0,.int .i64 0] 32 (0,0)):=(setRow_other _ _ _ _ (by omega)).trans HI3.out.f
     go_wp2_with (first | (refine wpList_store_row rfl 30 _ _ rfl (w.heap.size) #[.slice e1 b.1.length e2,.slice e3 b.2.1.length e4,.slice e5 b.2.2.length e6] rfl rfl 30 _ g2 (by kernel_rfl) rfl (by simp [Value.oneCell']) ?_) | (refine wpList_store_row rfl 32 _ _ rfl (w.heap.size+1) #[.int .i64 0,.int .i64 0] rfl rfl 32 _ g3 (by kernel_rfl) rfl (by simp [Value.oneCell']) ?_))
     have r0:(w3.setRow w.heap.size #[.slice e1 b.1.length e2,.slice e3 b.2.1.length e4,.slice e5 b.2.2.length e6]).heap[w.heap.size]?=some (.cells #[.slice e1 b.1.length e2,.slice e3 b.2.1.length e4,.slice e5 b.2.2.length e6] 30 (0,0)):=setRow_heap _ _ _ _ _ _ g2
     have r1:((w3.setRow w.heap.size #[.slice e1 b.1.length e2,.slice e3 b.2.1.length e4,.slice e5 b.2.2.length e6]).setRow (w.heap.size+1) #[.int .i64 0,.int .i64 0]).heap[w.heap.size]?=some (.cells #[.slice e1 b.1.length e2,.slice e3 b.2.1.length e4,.slice e5 b.2.2.length e6] 30 (0,0)):=(setRow_other _ _ _ _ (by omega)).trans r0
     have r2:((w3.setRow w.heap.size #[.slice e1 b.1.length e2,.slice e3 b.2.1.length e4,.slice e5 b.2.2.length e6]).setRow (w.heap.size+1) #[.int .i64 0,.int .i64 0]).heap[w.heap.size+1]?=some (.cells #[.int .i64 0,.int .i64 0] 32 (0,0)):=setRow_heap _ _ _ _ _ _ g3
     exact bodyPost_ret (v:=.tuple #[.agg #[.slice e1 b.1.length e2,.slice e3 b.2.1.length e4,.slice e5 b.2.2.length e6],.agg #[.int .i64 0,.int .i64 0]]) (by simp [results,Tryz.results9,go_sem,World.cell?,r1,r2]) rfl ⟨_,_,_,by rw [HP.out];rfl,by rw [HP.out];exact FE (cv FM.out g2 _) g3 _,below_setRow (below_setRow HI3.out.below aG _) (by omega) _⟩
end Go.Proofs.YtcmgddnckohdaaaGreatDoor.Tx
namespace Go.Proofs.YtcmgddnckohdaaaGreatDoor.Dr
open Go.RowKit
attribute [local go_sem] Later.cell Later.frozen
theorem Cy (w:World):dI w (.slice none 0 0) (.slice none 0 0) (.slice none 0 0) [] [] []:=⟨⟨none,0,rfl,Nat.le_refl _,Nat.zero_le _,fun i e he=>by simp at he⟩,⟨none,0,rfl,Nat.le_refl _,Nat.zero_le _,fun i e he=>by simp at he⟩,⟨none,0,rfl,Nat.le_refl _,Nat.zero_le _,fun i e he=>by simp at he⟩⟩
theorem bytes_at {s:ByteArray} {k:Nat} (h:k<s.size):(bytes s)[k]?=some s[k]:=by
 have h2:k<s.data.size:=h;unfold bytes;rw [Array.getElem?_toList,Array.getElem?_eq_getElem h2]
 rfl
theorem ui (w:World) (C1 C2:Array Value) (T1 T2:TypeId):((w.alloc (.cells C1 T1)).alloc (.cells C2 T2)).heap[w.heap.size]?=some (.cells C1 T1 (0,0)) :=
 (((Below.refl _ _).alloc aG (.cells C2 T2)).block _ (aP (aI w (.cells C1 T1)))).trans (aI w _)
theorem qI (w:World) (C1 C2:Array Value) (T1 T2:TypeId):((w.alloc (.cells C1 T1)).alloc (.cells C2 T2)).heap[w.heap.size+1]?=some (.cells C2 T2 (0,0)):=by
 have h:=aI (w.alloc (.cells C1 T1)) (.cells C2 T2)
 rwa [show (w.alloc (.cells C1 T1)).heap.size=w.heap.size+1 by simp] at h
theorem BQ (v:Value) (n:Nat) (w:World) (h:nN w v n) (hsa:ib w) (IG:jo w) (her:tT w) (hpw:Lib.TabIs Tryz.prog w "internal/strconv.uint64pow10" .u64 Lib.pow10Tab) :
  Calls Tryz.prog 3 #[v] w fun e w'=>e=.returned (.bool true)∧Below w.heap.size w w':=by
 have HA:=ay h;obtain ⟨a,cap,rfl,-⟩:=h
 by_cases hl1:(1048576:Int)<(n:Int)
 ·go_enter Tryz.func3,Tryz.ntmps3
  go_wp2_with fail
  exact bodyPost_ret (v:=.bool true) (by simp [results,Tryz.results3,go_sem]) rfl ⟨rfl,Below.refl _ _⟩
 have Hl:=ay hsa;have MU:=ay IG;have HER:=ay her;have HPW:=ay hpw;clear hsa IG her hpw
 go_enter Tryz.func3,Tryz.ntmps3
 go_wp2_with fail;refine (zM _ n _ HA.out).mono ?_;rintro e w1 ⟨s,rfl,hs,hb1⟩;have T1:=ay hb1;clear hb1 HA;have HGD:Hid (Gd (Tx.fV s).1):=Tx.par_gd s hs;have HBK:Hid ((Tx.fV s).2.2=0→dJ (Tx.fV s).1.1 (Tx.fV s).1.2.1 (Tx.fV s).1.2.2=true):=Tx.K8 s;have HNO:Hid ((Tx.fV s).2.2≠0→(Tx.fV s).1=([],[],[])):=Tx.Ab;have HHD:Hid (∀ (hd:ByteArray) (i n:Nat),Tx.J6 s i n hd→(Tx.fV s).2.2≠0→(Tx.fV s).2.1≠0→n≤(Tx.fV s).2.1→(Tx.fV hd).2.2=0∧hd.size≤s.size):=fun hd i n h h1 h2 h3=>Tx.hd_code h h1 h2 h3;have HPA:=ay (Tx.qi s w1 hs (Hl.out.keep T1.out) (MU.out.keep T1.out) (HER.out.keep T1.out));have HPS:Hid (∀ wx:World,_):=fun wx=>Tx.zy s wx hs;have HPX:Hid (∀ (wx:World) (x:ByteArray),Below w.heap.size w wx→x.size≤1048576→_):=fun wx x hx hz=>Tx.qi x wx hz (Hl.out.keep hx) (MU.out.keep hx) (HER.out.keep hx);have HS0:Hid (Tx.J6 s 0 1 ⟨#[]⟩):=Tx.LV s;generalize hR:Tx.fV s=Rr at *;obtain ⟨⟨ks,ps,es⟩,ln,cd⟩:=Rr;dsimp only at *;clear hR;go_wp2_with fail;refine HPA.out.mono ?_;rintro e w2 ⟨x,y,z,rfl,hn2,hb2⟩;obtain ⟨a1,c1,a2,c2,a3,c3,rfl,rfl,rfl⟩:=hn2.slices
 have hal:Below w2.heap.size w2 ((w2.alloc (.cells #[.slice a1 ks.length c1,.slice a2 ps.length c2,.slice a3 es.length c3] 30)).alloc (.cells #[.int .i64 (ln:Int),.int .i64 cd] 32)):=(aM).alloc (by simp) _
 have X3:Hid (Below w.heap.size w ((w2.alloc (.cells #[.slice a1 ks.length c1,.slice a2 ps.length c2,.slice a3 es.length c3] 30)).alloc (.cells #[.int .i64 (ln:Int),.int .i64 cd] 32))∧dI ((w2.alloc (.cells #[.slice a1 ks.length c1,.slice a2 ps.length c2,.slice a3 es.length c3] 30)).alloc (.cells #[.int .i64 (ln:Int),.int .i64 cd] 32)) (.slice a1 ks.length c1) (.slice a2 ps.length c2) (.slice a3 es.length c3) ks ps es∧((w2.alloc (.cells #[.slice a1 ks.length c1,.slice a2 ps.length c2,.slice a3 es.length c3] 30)).alloc (.cells #[.int .i64 (ln:Int),.int .i64 cd] 32)).heap[w2.heap.size]?=some (.cells #[.slice a1 ks.length c1,.slice a2 ps.length c2,.slice a3 es.length c3] 30 (0,0))∧((w2.alloc (.cells #[.slice a1 ks.length c1,.slice a2 ps.length c2,.slice a3 es.length c3] 30)).alloc (.cells #[.int .i64 (ln:Int),.int .i64 cd] 32)).heap[w2.heap.size+1]?=some (.cells #[.int .i64 (ln:Int),.int .i64 cd] 32 (0,0))):=⟨aa (aa T1.out hb2) hal,hn2.at.keep hal,ui w2 _ _ _ _,qI w2 _ _ _ _⟩;clear hn2 hb2 hal HPA;dsimp only;go_wp2_with fail;generalize ((w2.alloc (.cells #[.slice a1 ks.length c1,.slice a2 ps.length c2,.slice a3 es.length c3] 30)).alloc (.cells #[.int .i64 (ln:Int),.int .i64 cd] 32))=w3 at *;generalize w2.heap.size=Bb at *;have XK:Hid (∀ wx:World,Below w3.heap.size w3 wx→Below w.heap.size w wx∧dI wx (.slice a1 ks.length c1) (.slice a2 ps.length c2) (.slice a3 es.length c3) ks ps es∧wx.heap[Bb]?=some (.cells #[.slice a1 ks.length c1,.slice a2 ps.length c2,.slice a3 es.length c3] 30 (0,0))∧wx.heap[Bb+1]?=some (.cells #[.int .i64 (ln:Int),.int .i64 cd] 32 (0,0))):=fun wx hx=>⟨aa X3.out.1 hx,X3.out.2.1.keep hx,(hx.block _ (aP X3.out.2.2.1)).trans X3.out.2.2.1,(hx.block _ (aP X3.out.2.2.2)).trans X3.out.2.2.2⟩;refine (HPS.out _).mono ?_;rintro e w4 ⟨x,y,z,rfl,hat4,hb4⟩;obtain ⟨d1,e1,d2,e2,d3,e3,rfl,rfl,rfl⟩:=dI.slices hat4
 have hal:Below w4.heap.size w4 ((w4.alloc (.cells #[.slice d1 ks.length e1,.slice d2 ps.length e2,.slice d3 es.length e3] 30)).alloc (.cells #[.int .i64 (ln:Int),.int .i64 cd] 32)):=(aM).alloc (by simp) _
 have X5:Hid (Below w3.heap.size w3 ((w4.alloc (.cells #[.slice d1 ks.length e1,.slice d2 ps.length e2,.slice d3 es.length e3] 30)).alloc (.cells #[.int .i64 (ln:Int),.int .i64 cd] 32))∧dI ((w4.alloc (.cells #[.slice d1 ks.length e1,.slice d2 ps.length e2,.slice d3 es.length e3] 30)).alloc (.cells #[.int .i64 (ln:Int),.int .i64 cd] 32)) (.slice d1 ks.length e1) (.slice d2 ps.length e2) (.slice d3 es.length e3) ks ps es∧((w4.alloc (.cells #[.slice d1 ks.length e1,.slice d2 ps.length e2,.slice d3 es.length e3] 30)).alloc (.cells #[.int .i64 (ln:Int),.int .i64 cd] 32)).heap[w4.heap.size]?=some (.cells #[.slice d1 ks.length e1,.slice d2 ps.length e2,.slice d3 es.length e3] 30 (0,0))∧((w4.alloc (.cells #[.slice d1 ks.length e1,.slice d2 ps.length e2,.slice d3 es.length e3] 30)).alloc (.cells #[.int .i64 (ln:Int),.int .i64 cd] 32)).heap[w4.heap.size+1]?=some (.cells #[.int .i64 (ln:Int),.int .i64 cd] 32 (0,0))):=⟨aa hb4 hal,hat4.keep hal,ui w4 _ _ _ _,qI w4 _ _ _ _⟩;clear hat4 hb4 hal HPS;have hkw:=(XK.out _ X5.out.1).2.2.2
 obtain ⟨y0,y1⟩:((w4.alloc (.cells #[.slice d1 ks.length e1,.slice d2 ps.length e2,.slice d3 es.length e3] 30)).alloc (.cells #[.int .i64 (ln:Int),.int .i64 cd] 32)).cell? ⟨Bb+1,0,none⟩=some (.int .i64 (ln:Int))∧((w4.alloc (.cells #[.slice d1 ks.length e1,.slice d2 ps.length e2,.slice d3 es.length e3] 30)).alloc (.cells #[.int .i64 (ln:Int),.int .i64 cd] 32)).cell? ⟨Bb+1,1,none⟩=some (.int .i64 cd):=by simp only [World.cell?,hkw];exact ⟨rfl,rfl⟩
 have hkz:=an X5.out.2.2.2 (i:=0) rfl;have hkz1:=an X5.out.2.2.2 (i:=1) rfl;have hkb:=(XK.out _ X5.out.1).2.2.1;have b0:=an hkb (i:=0) rfl;have b1:=an hkb (i:=1) rfl;have b2:=an hkb (i:=2) rfl;clear hkb hkw;have q0:=an X5.out.2.2.1 (i:=0) rfl;have q1:=an X5.out.2.2.1 (i:=1) rfl;have q2:=an X5.out.2.2.1 (i:=2) rfl;dsimp only;go_wp2_with fail;clear b0 b1 b2 q0 q1 q2 y0 y1 hkz hkz1;generalize ((w4.alloc (.cells #[.slice d1 ks.length e1,.slice d2 ps.length e2,.slice d3 es.length e3] 30)).alloc (.cells #[.int .i64 (ln:Int),.int .i64 cd] 32))=w5 at *;refine (qH _ _ _ _ _ _ ks ps es _ (XK.out _ X5.out.1).2.1 X5.out.2.1 HGD.out.sm.s).mono ?_;rintro e w6 ⟨rfl,hb6⟩;have T6:=ay (aa X5.out.1 hb6);clear hb6 X5;have hkf:=(XK.out _ T6.out).2.2.2;have y0:=an hkf (i:=0) rfl;have y1:=an hkf (i:=1) rfl;clear hkf
 by_cases hcd:cd=0
 ·have hcb:(cd==0)=true:=by simp [hcd]
  have hkb:=(XK.out _ T6.out).2.2.1;have b0:=an hkb (i:=0) rfl;have b1:=an hkb (i:=1) rfl;have b2:=an hkb (i:=2) rfl;clear hkb;have BOK:=ay (HBK.out hcd);go_wp2_with fail;clear b0 b1 b2 y0 y1;refine (zD _ _ _ ks ps es _ (XK.out _ T6.out).2.1 HGD.out.sm.n HGD.out.sm.s HGD.out.sm.u (Hl.out.keep (XK.out _ T6.out).1) (mi HPW.out (XK.out _ T6.out).1)).mono ?_;rintro e w7 ⟨rfl,FH⟩;have T7:=ay (aa T6.out FH);clear FH T6;obtain ⟨hpr,hsz⟩:=Tx.vC BOK.out;generalize fU ks ps es=st at *;go_wp2_with fail
  have Kn:=ay (HPX.out w7 st (XK.out _ T7.out).1 (by omega))
  rw [hpr] at Kn;refine Kn.out.mono ?_;rintro e w8 ⟨x,y,z,rfl,hn8,hb8⟩;obtain ⟨q1,q2,q3,q4,q5,q6,rfl,rfl,rfl⟩:=hn8.slices
  have hal:Below w8.heap.size w8 ((w8.alloc (.cells #[.slice q1 ks.length q2,.slice q3 ps.length q4,.slice q5 es.length q6] 30)).alloc (.cells #[.int .i64 0,.int .i64 0] 32)):=(aM).alloc (by simp) _
  have X9:Hid (Below w3.heap.size w3 ((w8.alloc (.cells #[.slice q1 ks.length q2,.slice q3 ps.length q4,.slice q5 es.length q6] 30)).alloc (.cells #[.int .i64 0,.int .i64 0] 32))∧dI ((w8.alloc (.cells #[.slice q1 ks.length q2,.slice q3 ps.length q4,.slice q5 es.length q6] 30)).alloc (.cells #[.int .i64 0,.int .i64 0] 32)) (.slice q1 ks.length q2) (.slice q3 ps.length q4) (.slice q5 es.length q6) ks ps es∧((w8.alloc (.cells #[.slice q1 ks.length q2,.slice q3 ps.length q4,.slice q5 es.length q6] 30)).alloc (.cells #[.int .i64 0,.int .i64 0] 32)).heap[w8.heap.size]?=some (.cells #[.slice q1 ks.length q2,.slice q3 ps.length q4,.slice q5 es.length q6] 30 (0,0))∧((w8.alloc (.cells #[.slice q1 ks.length q2,.slice q3 ps.length q4,.slice q5 es.length q6] 30)).alloc (.cells #[.int .i64 0,.int .i64 0] 32)).heap[w8.heap.size+1]?=some (.cells #[.int .i64 0,.int .i64 0] 32 (0,0))):=⟨aa (aa T7.out hb8) hal,hn8.at.keep hal,ui w8 _ _ _ _,qI w8 _ _ _ _⟩;clear hn8 hb8 hal Kn hpr T7;have hkb:=(XK.out _ X9.out.1).2.2.1;have b0:=an hkb (i:=0) rfl;have b1:=an hkb (i:=1) rfl;have b2:=an hkb (i:=2) rfl;clear hkb;dsimp only;go_wp2_with fail;clear b0 b1 b2;generalize ((w8.alloc (.cells #[.slice q1 ks.length q2,.slice q3 ps.length q4,.slice q5 es.length q6] 30)).alloc (.cells #[.int .i64 0,.int .i64 0] 32))=w9 at *;generalize w8.heap.size=Bx at *;refine (ru _ _ _ ks ps es _ (XK.out _ X9.out.1).2.1 HGD.out.sm.n HGD.out.sm.s).mono ?_;rintro e wA ⟨rfl,Km⟩;have XA:Hid (Below w3.heap.size w3 wA∧dI wA (.slice q1 ks.length q2) (.slice q3 ps.length q4) (.slice q5 es.length q6) ks ps es∧wA.heap[Bx]?=some (.cells #[.slice q1 ks.length q2,.slice q3 ps.length q4,.slice q5 es.length q6] 30 (0,0))∧wA.heap[Bx+1]?=some (.cells #[.int .i64 0,.int .i64 0] 32 (0,0))):=⟨aa X9.out.1 Km,X9.out.2.1.keep Km,(Km.block _ (aP X9.out.2.2.1)).trans X9.out.2.2.1,(Km.block _ (aP X9.out.2.2.2)).trans X9.out.2.2.2⟩;clear Km X9;have hbt:=BOK.out;have hkb:=(XK.out _ XA.out.1).2.2.1;have b0:=an hkb (i:=0) rfl;have b1:=an hkb (i:=1) rfl;have b2:=an hkb (i:=2) rfl;have p0:=an XA.out.2.2.1 (i:=0) rfl;have p1:=an XA.out.2.2.1 (i:=1) rfl;have p2:=an XA.out.2.2.1 (i:=2) rfl;have p3:=an XA.out.2.2.2 (i:=1) rfl;clear hkb;go_wp2_with fail;clear b0 b1 b2 p0 p1 p2 p3;refine (qH _ _ _ _ _ _ ks ps es _ XA.out.2.1 (XK.out _ XA.out.1).2.1 HGD.out.sm.s).mono ?_;rintro e wB ⟨rfl,hbB⟩;have HE:=ay (aa (XK.out _ XA.out.1).1 hbB);go_wp2_with fail
  exact bodyPost_ret (v:=.bool true) (by simp [results,Tryz.results3,go_sem]) rfl ⟨rfl,HE.out⟩
 ·have hcb:(cd==0)=false:=by simp [hcd]
  have hno:=HNO.out hcd
  by_cases hln:ln=0
  ·have hlb:((ln:Int)==0)=true:=by simp [hln]
   injection hno with hk1 hno
   injection hno with hk2 hk3
   subst hk1 hk2 hk3;have hkb:=(XK.out _ T6.out).2.2.1;have b0:=an hkb (i:=0) rfl;have b1:=an hkb (i:=1) rfl;have b2:=an hkb (i:=2) rfl;clear hkb;go_wp2_with fail;clear b0 b1 b2 y0 y1;refine (qH _ _ _ _ _ _ [] [] [] _ (XK.out _ T6.out).2.1 (Cy w6) Gd.none.sm.s).mono ?_;rintro e wB ⟨rfl,hbB⟩;have HE:=ay (aa (XK.out _ T6.out).1 hbB);go_wp2_with fail
   exact bodyPost_ret (v:=.bool true) (by simp [results,Tryz.results3,go_sem]) rfl ⟨rfl,HE.out⟩
  ·have hlb:((ln:Int)==0)=false:=by simp [hln]
   have HB6:=ay (XK.out _ T6.out).1;have HHE:Hid (∀ (hd:ByteArray) (i n:Nat),Tx.J6 s i n hd→n≤ln→(Tx.fV hd).2.2=0∧hd.size≤s.size):=fun hd i n h h3=>HHD.out hd i n h hcd hln h3;clear HHD XK T6 hno;go_wp2_with fail
   go_loopw [10,11,12] (fun nv hv iv wr=>∃ (k m:Nat) (hd:ByteArray),k≤s.size∧iv=.int .i64 k∧nv=.int .i64 m∧hv=.string hd∧m≤k+1∧wr=w6∧Hid (m≤ln∧Tx.J6 s k m hd)) (fun _ _ iv _=>s.size-(intOf iv).toNat)
   case atStart=>exact ⟨0,1,⟨#[]⟩,Nat.zero_le _,rfl,rfl,rfl,Nat.le_refl _,rfl,by omega,HS0.out⟩
   case round =>
    obtain ⟨k,m,hd,hk,rfl,rfl,rfl,hmk,rfl,HI⟩:=hrel
    have hk0:(0:Int)≤(k:Int):=by omega
    by_cases hlt:k<s.size
    ·have hlt1:(k:Int)<(s.size:Int):=by omega
     by_cases hml:m<ln
     ·have hml1:(m:Int)<(ln:Int):=by omega
      by_cases hc:s[k]=10
      ·have h1:(((s[k].toNat:Nat):Int)==10)=true:=by rw [Tx.Hy];simpa using hc
       have HN:Hid (m+1≤ln∧Tx.J6 s (k+1) (m+1) (s.extract 0 (k+1))):=⟨hml,Tx.hd_line HI.out.2 (by rw [bytes_at hlt,hc]) (by rw [bf];simp)⟩
       clear hc HI;go_wp2_with fail
       exact ⟨⟨k+1,m+1,s.extract 0 (k+1),by omega,by go_num,by go_num,rfl,by omega,trivial,HN⟩,by simp [intOf];omega⟩
      ·have h1:(((s[k].toNat:Nat):Int)==10)=false:=by rw [Tx.Hy];simpa using hc
       have HN:Hid (m≤ln∧Tx.J6 s (k+1) m hd):=⟨HI.out.1,Tx.LW HI.out.2 (bytes_at hlt) hc⟩;clear hc HI;go_wp2_with fail
       exact ⟨⟨k+1,m,hd,by omega,by go_num,rfl,rfl,by omega,trivial,HN⟩,by simp [intOf];omega⟩
     ·have hml1:¬ (m:Int)<(ln:Int):=by omega
      go_wp2_with fail;obtain ⟨hpc,hhz⟩:=HHE.out hd k m HI.out.2 HI.out.1
      have Kn:=ay (HPX.out wr hd HB6.out (by omega))
      clear HHE HPX;generalize Tx.fV hd=Rh at *;obtain ⟨⟨k5,p5,e5⟩,l5,c5⟩:=Rh;dsimp only at hpc Kn;subst hpc;refine Kn.out.mono ?_;rintro e wC ⟨x,y,z,rfl,hnC,hbC⟩;obtain ⟨q1,q2,q3,q4,q5,q6,rfl,rfl,rfl⟩:=hnC.slices
      have HE:Hid (Below w.heap.size w ((wC.alloc (.cells #[.slice q1 k5.length q2,.slice q3 p5.length q4,.slice q5 e5.length q6] 30)).alloc (.cells #[.int .i64 (l5:Int),.int .i64 0] 32))):=aa (aa HB6.out hbC) ((aM).alloc (by simp) _)
      dsimp only;go_wp2_with fail
      exact bodyPost_ret (v:=.bool true) (by simp [results,Tryz.results3,go_sem]) rfl ⟨rfl,HE.out⟩
    ·have hlt1:¬ (k:Int)<(s.size:Int):=by omega
     go_wp2_with fail;obtain ⟨hpc,hhz⟩:=HHE.out hd k m HI.out.2 HI.out.1
     have Kn:=ay (HPX.out wr hd HB6.out (by omega))
     clear HHE HPX;generalize Tx.fV hd=Rh at *;obtain ⟨⟨k5,p5,e5⟩,l5,c5⟩:=Rh;dsimp only at hpc Kn;subst hpc;refine Kn.out.mono ?_;rintro e wC ⟨x,y,z,rfl,hnC,hbC⟩;obtain ⟨q1,q2,q3,q4,q5,q6,rfl,rfl,rfl⟩:=hnC.slices
     have HE:Hid (Below w.heap.size w ((wC.alloc (.cells #[.slice q1 k5.length q2,.slice q3 p5.length q4,.slice q5 e5.length q6] 30)).alloc (.cells #[.int .i64 (l5:Int),.int .i64 0] 32))):=aa (aa HB6.out hbC) ((aM).alloc (by simp) _)
     dsimp only;go_wp2_with fail
     exact bodyPost_ret (v:=.bool true) (by simp [results,Tryz.results3,go_sem]) rfl ⟨rfl,HE.out⟩
end Go.Proofs.YtcmgddnckohdaaaGreatDoor.Dr
