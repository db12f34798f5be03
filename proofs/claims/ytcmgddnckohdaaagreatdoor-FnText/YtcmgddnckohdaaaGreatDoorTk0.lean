import Derived.Test.YtcmgddnckohdaaaGreatDoorPut3
set_option maxRecDepth 100000
set_option maxHeartbeats 12800000
set_option linter.unusedSimpArgs false
set_option linter.unusedVariables false
namespace Go.Proofs.YtcmgddnckohdaaaGreatDoor
open Go.RowKit
theorem iZ.low {w wr wy:World} {X Y Z:Obj} {lo:Nat} (h:iZ w wr X Y Z) (hb:Below lo wr wy) (hl:w.heap.size+3≤lo):iZ w wy X Y Z:=by
 have hz:=h.z
 exact ⟨h.below.trans (hb.mono (by omega)),(hb.block _ (by omega)).trans h.b0,(hb.block _ (by omega)).trans h.b1,(hb.block _ (by omega)).trans h.b2⟩
theorem tC {ks ps:List dx} {es:List dU} (h:dJ ks ps es=true):es.length≤12:=by
 rw [Cx] at h
 simp only [Bool.and_eq_true,decide_eq_true_eq] at h
 exact h.2.1
theorem mQ {ks ps:List dx} {es:List dU} (h:dJ ks ps es=true):eF ks ps=true:=by
 rw [Cx] at h
 simp only [Bool.and_eq_true] at h
 exact h.1
theorem Gi {es:List dU} (n:ByteArray) (f:fI) (h:∀ e∈es,e.fs.length≤1048575):∀ e∈dS es n f,e.fs.length≤1048576:=by
 induction es with
 | nil=>intro e he;simp [dS] at he;subst he;simp
 | cons x es ih =>
  intro e he;rw [dS] at he
  split at he
  ·rcases List.mem_cons.1 he with rfl | he
   ·have:=KZ x.fs f
    have:=h x (by simp)
    show (gP x.fs f).length≤_
    omega
   ·have:=h e (by simp [he]);omega
  ·split at he
   ·rcases List.mem_cons.1 he with rfl | he
    ·have:=h e (by simp);omega
    ·exact ih (fun e he=>h e (by simp [he])) e he
   ·rcases List.mem_cons.1 he with rfl | he
    ·simp
    ·have:=h e he;omega
theorem tF {ks ps:List dx} {es:List dU} (h:dJ ks ps es=true):∀ e∈es,e.fs.length≤5:=fun e he=>by
 have hf:=cJ h he;have hs:=l8 hf;have hw:∀ f∈e.fs,1≤f.what∧f.what≤5:=fun f hf'=>ER (q8 hf hf');clear hf;generalize e.fs=l at *
 have key:∀ (l:List fI) (m:Int),1≤m→l.Pairwise (fun a b=>a.what<b.what)→(∀ f∈l,m≤f.what∧f.what≤5)→(l.length:Int)≤6-m∨l.length=0:=by
  intro l
  induction l with
  | nil=>intro m _ _ _;exact .inr rfl
  | cons a l ih =>
   intro m hm hp hb;have hp':=List.pairwise_cons.1 hp
   have ha:=hb a (by simp)
   left
   rcases ih (a.what+1) (by omega) hp'.2 (fun f hf=>⟨by have:=hp'.1 f hf;omega,(hb f (by simp [hf])).2⟩) with h1 | h1
   ·simp only [List.length_cons];omega
   ·simp only [List.length_cons,h1];omega
 rcases key l 1 (by omega) hs hw with h1 | h1 <;> omega
theorem kH (vk vp ve:Value) (ks ps:List dx) (es:List dU) (c:dP) (w:World) (hB:dI w vk vp ve ks ps es) (nB:jU ks ps es) (sB:ic ks ps es) (hcf:c.f.size≤1048576) (hcv:c.v.size≤1048576) :
  Calls Tryz.prog 109 #[.agg #[vk,vp,ve],.agg #[.string c.f,.int .i64 c.what,.int .i64 c.num,.string c.v]] w fun e w'=>∃ x y z,e=.returned (.tuple #[.agg #[x,y,z],.int .i64 (takeC ks ps es c)])∧df w.heap.size w' x y z (dN ks ps es ks) (dN ks ps es ps) (eT ks ps es c)∧Below w.heap.size w w':=by
 have HB:Hid (dI w vk vp ve ks ps es):=hB;have NB:Hid (jU ks ps es):=nB;have SB:Hid (ic ks ps es):=sB;obtain ⟨⟨ak,ck,rfl,-,-,-⟩,⟨ap,cp,rfl,-,-,-⟩,⟨ae,ce,rfl,-,-,-⟩⟩:=hB;have MW:Hid (∀ wx:World,Below w.heap.size w wx→Calls Tryz.prog 89 #[.agg #[.slice ak ks.length ck,.slice ap ps.length cp],.agg #[.string c.f,.int .i64 c.what,.int .i64 c.num,.string c.v]] wx fun e w'=>e=.returned (.bool (eF ks ps&&gy ks ps c))∧Below wx.heap.size wx w'):=fun wx hx=>mo _ _ ks ps c wx (HB.out.k.keep hx) (HB.out.p.keep hx) NB.out.k NB.out.p hcf hcv;clear nB sB
 go_enter Tryz.func109,Tryz.ntmps109
 have HX0:Hid (iZ w _ _ _ _):=iZ.start w (.cells #[.slice ak ks.length ck,.slice ap ps.length cp,.slice ae es.length ce] 30) (.cells #[.string c.f,.int .i64 c.what,.int .i64 c.num,.string c.v] 76) (.cells #[.slice none 0 0,.slice none 0 0,.slice none 0 0] 30);go_wp2_with fail;refine (lg _ _ _ ks ps es _ (HB.out.keep HX0.out.below) NB.out SB.out).mono ?_;rintro e w1 ⟨rfl,hb1⟩;have jG:Hid (iZ w w1 (.cells #[.slice ak ks.length ck,.slice ap ps.length cp,.slice ae es.length ce] 30) (.cells #[.string c.f,.int .i64 c.what,.int .i64 c.num,.string c.v] 76) (.cells #[.slice none 0 0,.slice none 0 0,.slice none 0 0] 30)):=HX0.out.call hb1;clear HX0 hb1
 obtain ⟨y0,y1,y2⟩:w1.cell? ⟨w.heap.size,0,none⟩=some (.slice ak ks.length ck)∧w1.cell? ⟨w.heap.size,1,none⟩=some (.slice ap ps.length cp)∧w1.cell? ⟨w.heap.size,2,none⟩=some (.slice ae es.length ce):=by simp [World.cell?,jG.out.b0]
 have hr1:=jG.out.b2;have hz1:=jG.out.z
 cases hbb:dJ ks ps es
 ·have HE:Hid (takeC ks ps es c=1∧dN ks ps es ks=[]∧dN ks ps es ps=[]∧eT ks ps es c=[]):=by
   show _∧_∧_∧_
   unfold takeC dN eT;rw [hbb];exact ⟨rfl,rfl,rfl,rfl⟩
  clear hbb
  go_wp2_with (refine wpList_store_row rfl 30 _ _ rfl (w.heap.size+1+1) #[.slice none 0 0,.slice none 0 0,.slice none 0 0] rfl rfl 30 _ hr1 (by kernel_rfl) rfl (by simp [Value.oneCell']) ?_)
  exact bodyPost_ret (v:=.tuple #[.agg #[.slice none 0 0,.slice none 0 0,.slice none 0 0],.int .i64 1]) (by simp [results,Tryz.results109,go_sem,cell_setRow_same _ _ _ _ _ _ _ hr1]) rfl ⟨_,_,_,by rw [HE.out.1],by rw [HE.out.2.1,HE.out.2.2.1,HE.out.2.2.2];exact df.none _ _,below_setRow jG.out.below (by omega) _⟩
 have A7:Hid (dJ ks ps es=true):=hbb
 have ug:Hid (dN ks ps es ks=ks∧dN ks ps es ps=ps):=by
  show _∧_
  unfold dN;rw [hbb];exact ⟨rfl,rfl⟩
 clear hbb hr1;have hl12:=tC A7.out;have HF5:Hid (∀ e∈es,e.fs.length≤5):=tF A7.out;go_wp2_with fail;refine (cq _ _ _ ks ps es _ (HB.out.keep jG.out.below) SB.out.k SB.out.p SB.out.e SB.out.f).mono ?_;rintro e w2 ⟨x,y,z,rfl,hN2,hb2⟩;obtain ⟨a1,c1,a2,c2,a3,c3,rfl,rfl,rfl⟩:=hN2.slices;have hal:Below w2.heap.size w2 (w2.alloc (.cells #[.slice a1 ks.length c1,.slice a2 ps.length c2,.slice a3 es.length c3] 30)):=(aM);have tN:Hid (iZ w (w2.alloc (.cells #[.slice a1 ks.length c1,.slice a2 ps.length c2,.slice a3 es.length c3] 30)) (.cells #[.slice ak ks.length ck,.slice ap ps.length cp,.slice ae es.length ce] 30) (.cells #[.string c.f,.int .i64 c.what,.int .i64 c.num,.string c.v] 76) (.cells #[.slice none 0 0,.slice none 0 0,.slice none 0 0] 30)):=(jG.out.call hb2).call hal;have FM:Hid (df (w1.heap.size+2) (w2.alloc (.cells #[.slice a1 ks.length c1,.slice a2 ps.length c2,.slice a3 es.length c3] 30)) (.slice a1 ks.length c1) (.slice a2 ps.length c2) (.slice a3 es.length c3) ks ps es):=hN2.keep hal;have HT3:Hid ((w2.alloc (.cells #[.slice a1 ks.length c1,.slice a2 ps.length c2,.slice a3 es.length c3] 30)).heap[w2.heap.size]?=some (.cells #[.slice a1 ks.length c1,.slice a2 ps.length c2,.slice a3 es.length c3] 30 (0,0))):=am w2 _;have hs12:w1.heap.size≤w2.heap.size:=hb2.size
 obtain ⟨x0,x1,x2,x3⟩:(w2.alloc (.cells #[.slice a1 ks.length c1,.slice a2 ps.length c2,.slice a3 es.length c3] 30)).cell? ⟨w.heap.size+1,0,none⟩=some (.string c.f)∧(w2.alloc (.cells #[.slice a1 ks.length c1,.slice a2 ps.length c2,.slice a3 es.length c3] 30)).cell? ⟨w.heap.size+1,1,none⟩=some (.int .i64 c.what)∧(w2.alloc (.cells #[.slice a1 ks.length c1,.slice a2 ps.length c2,.slice a3 es.length c3] 30)).cell? ⟨w.heap.size+1,2,none⟩=some (.int .i64 c.num)∧(w2.alloc (.cells #[.slice a1 ks.length c1,.slice a2 ps.length c2,.slice a3 es.length c3] 30)).cell? ⟨w.heap.size+1,3,none⟩=some (.string c.v):=by simp only [World.cell?,tN.out.b1];simp
 obtain ⟨q0,q1,q2⟩:(w2.alloc (.cells #[.slice a1 ks.length c1,.slice a2 ps.length c2,.slice a3 es.length c3] 30)).cell? ⟨w.heap.size,0,none⟩=some (.slice ak ks.length ck)∧(w2.alloc (.cells #[.slice a1 ks.length c1,.slice a2 ps.length c2,.slice a3 es.length c3] 30)).cell? ⟨w.heap.size,1,none⟩=some (.slice ap ps.length cp)∧(w2.alloc (.cells #[.slice a1 ks.length c1,.slice a2 ps.length c2,.slice a3 es.length c3] 30)).cell? ⟨w.heap.size,2,none⟩=some (.slice ae es.length ce):=by simp only [World.cell?,tN.out.b0];simp
 clear hN2 hb2 hal jG y0 y1 y2;go_wp2_with fail;refine (MW.out _ tN.out.below).mono ?_;rintro e w4 ⟨rfl,hb4⟩;have Fv:Hid (iZ w w4 (.cells #[.slice ak ks.length ck,.slice ap ps.length cp,.slice ae es.length ce] 30) (.cells #[.string c.f,.int .i64 c.what,.int .i64 c.num,.string c.v] 76) (.cells #[.slice none 0 0,.slice none 0 0,.slice none 0 0] 30)):=tN.out.call hb4;have HN4:Hid (df (w1.heap.size+2) w4 (.slice a1 ks.length c1) (.slice a2 ps.length c2) (.slice a3 es.length c3) ks ps es):=FM.out.keep hb4
 have HT4:Hid (w4.heap[w2.heap.size]?=some (.cells #[.slice a1 ks.length c1,.slice a2 ps.length c2,.slice a3 es.length c3] 30 (0,0))):=(hb4.block _ (by simp)).trans HT3.out
 have HBF:Hid ((eF ks ps&&gy ks ps c)=gy ks ps c):=by
  show _=_
  rw [mQ A7.out,Bool.true_and]
 rw [HBF.out];clear hb4 tN FM HT3 x0 x1 x2 x3 q0 q1 q2 HBF
 obtain ⟨x0,x1,x2,x3⟩:w4.cell? ⟨w.heap.size+1,0,none⟩=some (.string c.f)∧w4.cell? ⟨w.heap.size+1,1,none⟩=some (.int .i64 c.what)∧w4.cell? ⟨w.heap.size+1,2,none⟩=some (.int .i64 c.num)∧w4.cell? ⟨w.heap.size+1,3,none⟩=some (.string c.v):=by simp [World.cell?,Fv.out.b1]
 obtain ⟨q0,q1,q2⟩:w4.cell? ⟨w.heap.size,0,none⟩=some (.slice ak ks.length ck)∧w4.cell? ⟨w.heap.size,1,none⟩=some (.slice ap ps.length cp)∧w4.cell? ⟨w.heap.size,2,none⟩=some (.slice ae es.length ce):=by simp [World.cell?,Fv.out.b0]
 obtain ⟨t0,t1,t2⟩:=bg HT4.out;have hr4:=Fv.out.b2
 have hz4:w.heap.size<w4.heap.size:=by have:=Fv.out.z;omega
 cases Kl:gy ks ps c
 ·have HE:Hid (takeC ks ps es c=2∧eT ks ps es c=es):=by
   show _∧_
   unfold takeC eT;rw [A7.out,Kl];exact ⟨rfl,rfl⟩
  clear Kl
  go_wp2_with (refine wpList_store_row rfl 30 _ _ rfl (w.heap.size+1+1) #[.slice a1 ks.length c1,.slice a2 ps.length c2,.slice a3 es.length c3] rfl rfl 30 _ hr4 (by kernel_rfl) rfl (by simp [Value.oneCell']) ?_)
  exact bodyPost_ret (v:=.tuple #[.agg #[.slice a1 ks.length c1,.slice a2 ps.length c2,.slice a3 es.length c3],.int .i64 2]) (by simp [results,Tryz.results109,go_sem,cell_setRow_same _ _ _ _ _ _ _ hr4]) rfl ⟨_,_,_,by rw [HE.out.1],by rw [ug.out.1,ug.out.2,HE.out.2];exact (HN4.out.far (aD w4 (w.heap.size+1+1) _) (by omega)).mono (by omega),below_setRow Fv.out.below (by omega) _⟩
 ·have HFF:Hid (gy ks ps c=true):=Kl
  have HC:Hid (takeC ks ps es c=(bif decide (12<(dS es c.f (dZ c)).length) then 3 else 0)∧eT ks ps es c=(bif decide (12<(dS es c.f (dZ c)).length) then es else dS es c.f (dZ c))):=by
   show _∧_
   unfold takeC eT;rw [A7.out,Kl];exact ⟨rfl,rfl⟩
  have Ka:Hid ((dS es c.f (dZ c)).length=if es.any (fun e=>decide (e.name=c.f)) then es.length else es.length+1):=Dz c.f (dZ c) (bJ A7.out)
  clear Kl;go_wp2_with fail;refine (xZ _ _ _ es c.f _ (HB.out.keep Fv.out.below).e).mono ?_;rintro e w5 ⟨r,rfl,hr,hb5⟩;have J7:Hid (iZ w w5 (.cells #[.slice ak ks.length ck,.slice ap ps.length cp,.slice ae es.length ce] 30) (.cells #[.string c.f,.int .i64 c.what,.int .i64 c.num,.string c.v] 76) (.cells #[.slice none 0 0,.slice none 0 0,.slice none 0 0] 30)):=Fv.out.call hb5;have HN5:Hid (df (w1.heap.size+2) w5 (.slice a1 ks.length c1) (.slice a2 ps.length c2) (.slice a3 es.length c3) ks ps es):=HN4.out.keep hb5;have HT5:Hid (w5.heap[w2.heap.size]?=some (.cells #[.slice a1 ks.length c1,.slice a2 ps.length c2,.slice a3 es.length c3] 30 (0,0))):=(hb5.block _ (Array.getElem?_eq_some_iff.1 HT4.out).1).trans HT4.out
  have HAN:Hid ((r=-1∧(es.any fun e=>decide (e.name=c.f))=false)∨(0≤r∧(es.any fun e=>decide (e.name=c.f))=true)):=by
   rcases hr with ⟨h1,h2⟩ | ⟨k,h1,h2,h3⟩
   ·refine .inl ⟨h1,?_⟩
    rw [List.any_eq_false];intro e he;have:=List.find?_eq_none.1 h2 e he
    simpa using this
   ·refine .inr ⟨by omega,?_⟩
    rw [List.any_eq_true];have h4:=List.find?_some h3;exact ⟨_,List.mem_of_getElem? (bp h1),h4⟩
  clear hb5 Fv HN4 HT4 x0 x1 x2 x3 q0 q1 q2 t0 t1 t2 hr4 hz4 hr
  obtain ⟨x0,x1,x2,x3⟩:w5.cell? ⟨w.heap.size+1,0,none⟩=some (.string c.f)∧w5.cell? ⟨w.heap.size+1,1,none⟩=some (.int .i64 c.what)∧w5.cell? ⟨w.heap.size+1,2,none⟩=some (.int .i64 c.num)∧w5.cell? ⟨w.heap.size+1,3,none⟩=some (.string c.v):=by simp [World.cell?,J7.out.b1]
  obtain ⟨q0,q1,q2⟩:w5.cell? ⟨w.heap.size,0,none⟩=some (.slice ak ks.length ck)∧w5.cell? ⟨w.heap.size,1,none⟩=some (.slice ap ps.length cp)∧w5.cell? ⟨w.heap.size,2,none⟩=some (.slice ae es.length ce):=by simp [World.cell?,J7.out.b0]
  obtain ⟨t0,t1,t2⟩:=bg HT5.out;have qA:=J7.out.b2;have hz5:w.heap.size+2<w5.heap.size:=J7.out.z
  have hs15:w1.heap.size+2≤w5.heap.size∨w1.heap.size+2 > w5.heap.size:=by omega
  have HGO:Hid (∀ wq:World,iZ w wq (.cells #[.slice ak ks.length ck,.slice ap ps.length cp,.slice ae es.length ce] 30) (.cells #[.string c.f,.int .i64 c.what,.int .i64 c.num,.string c.v] 76) (.cells #[.slice none 0 0,.slice none 0 0,.slice none 0 0] 30)→df (w1.heap.size+1) wq (.slice a1 ks.length c1) (.slice a2 ps.length c2) (.slice a3 es.length c3) ks ps es→w1.heap.size+1≤wq.heap.size→Calls Tryz.prog 152 #[.agg #[.slice a1 ks.length c1,.slice a2 ps.length c2,.slice a3 es.length c3],.string c.f,.agg #[.int .i64 c.what,.int .i64 c.num,.string c.v]] wq fun e w'=>∃ z',e=.returned (.agg #[.slice a1 ks.length c1,.slice a2 ps.length c2,z'])∧df (w1.heap.size+1) w' (.slice a1 ks.length c1) (.slice a2 ps.length c2) z' ks ps (dS es c.f (dZ c))∧iZ w w' (.cells #[.slice ak ks.length ck,.slice ap ps.length cp,.slice ae es.length ce] 30) (.cells #[.string c.f,.int .i64 c.what,.int .i64 c.num,.string c.v] 76) (.cells #[.slice none 0 0,.slice none 0 0,.slice none 0 0] 30)):=fun wq hX hN hle=>by
   refine (Jw _ _ _ ks ps es c.f (dZ c) (w1.heap.size+1) wq hN hle (bJ A7.out) SB.out.e SB.out.f).mono ?_;rintro e w' ⟨z',rfl,h1,h2,-⟩
   exact ⟨z',rfl,h1,hX.low h2 (by omega)⟩
  have HPS:Hid ((dS es c.f (dZ c)).length≤13∧∀ e∈dS es c.f (dZ c),e.fs.length≤1048576):=by
   refine ⟨?_,Gi _ _ (fun e he=>by have:=HF5.out e he;omega)⟩
   rw [Ka.out];split <;> omega
  have HNL:Hid (df (w1.heap.size+1) w5 (.slice a1 ks.length c1) (.slice a2 ps.length c2) (.slice a3 es.length c3) ks ps es):=HN5.out.mono (by omega)
  have hle5:w1.heap.size+1≤w5.heap.size:=by have:=(Array.getElem?_eq_some_iff.1 HT5.out).1;omega
  clear hs15
  rcases HAN.out with ⟨hr1,ha⟩ | ⟨hr1,ha⟩
  ·subst hr1
   have HPL2:Hid ((dS es c.f (dZ c)).length=es.length+1):=by show _=_;rw [Ka.out,ha];rfl
   clear ha HAN Ka
   by_cases h12:12≤es.length
   ·have h12':(12:Int)≤(es.length:Int):=by omega
    have HE:Hid (takeC ks ps es c=3∧eT ks ps es c=es):=by
     have h0:decide (12<(dS es c.f (dZ c)).length)=true:=by rw [HPL2.out];simp;omega
     show _∧_
     rw [HC.out.1,HC.out.2,h0];exact ⟨rfl,rfl⟩
    go_wp2_with (refine wpList_store_row rfl 30 _ _ rfl (w.heap.size+1+1) #[.slice a1 ks.length c1,.slice a2 ps.length c2,.slice a3 es.length c3] rfl rfl 30 _ qA (by kernel_rfl) rfl (by simp [Value.oneCell']) ?_)
    exact bodyPost_ret (v:=.tuple #[.agg #[.slice a1 ks.length c1,.slice a2 ps.length c2,.slice a3 es.length c3],.int .i64 3]) (by simp [results,Tryz.results109,go_sem,cell_setRow_same _ _ _ _ _ _ _ qA]) rfl ⟨_,_,_,by rw [HE.out.1],by rw [ug.out.1,ug.out.2,HE.out.2];exact (HN5.out.far (aD w5 (w.heap.size+1+1) _) (by omega)).mono (by omega),below_setRow J7.out.below (by omega) _⟩
   ·have h12':¬ (12:Int)≤(es.length:Int):=by omega
    have HE:Hid (takeC ks ps es c=0∧eT ks ps es c=dS es c.f (dZ c)):=by
     have h0:decide (12<(dS es c.f (dZ c)).length)=false:=by rw [HPL2.out];simp;omega
     show _∧_
     rw [HC.out.1,HC.out.2,h0];exact ⟨rfl,rfl⟩
    go_wp2_with fail;refine (HGO.out _ J7.out HNL.out hle5).mono ?_;rintro e w6 ⟨z',rfl,hN6,hX6⟩;have HX6:Hid (iZ w w6 (.cells #[.slice ak ks.length ck,.slice ap ps.length cp,.slice ae es.length ce] 30) (.cells #[.string c.f,.int .i64 c.what,.int .i64 c.num,.string c.v] 76) (.cells #[.slice none 0 0,.slice none 0 0,.slice none 0 0] 30)):=hX6;have HN6:Hid (dI w6 (.slice a1 ks.length c1) (.slice a2 ps.length c2) z' ks ps (dS es c.f (dZ c))):=hN6.at;obtain ⟨-,-,-,-,a4,c4,-,-,rfl⟩:=hN6.slices;clear hX6 hN6;go_wp2_with fail
    refine (cq _ _ _ ks ps (dS es c.f (dZ c)) _ HN6.out SB.out.k SB.out.p (by have:=HPS.out.1;omega) HPS.out.2).mono ?_
    rintro e w7 ⟨x,y,z,rfl,hN7,FH⟩;obtain ⟨b1,d1,b2,d2,b3,d3,rfl,rfl,rfl⟩:=hN7.slices;have HX7:Hid (iZ w w7 (.cells #[.slice ak ks.length ck,.slice ap ps.length cp,.slice ae es.length ce] 30) (.cells #[.string c.f,.int .i64 c.what,.int .i64 c.num,.string c.v] 76) (.cells #[.slice none 0 0,.slice none 0 0,.slice none 0 0] 30)):=HX6.out.call FH;have hz6:=HX6.out.z;have HN7:=aq hN7;have sG:=HX7.out.b2;clear hN7 FH HX6 HN6 qA J7 HN5 HT5 HNL;generalize dS es c.f (dZ c)=es' at *
    go_wp2_with (refine wpList_store_row rfl 30 _ _ rfl (w.heap.size+1+1) #[.slice b1 ks.length d1,.slice b2 ps.length d2,.slice b3 es'.length d3] rfl rfl 30 _ sG (by kernel_rfl) rfl (by simp [Value.oneCell']) ?_)
    exact bodyPost_ret (v:=.tuple #[.agg #[.slice b1 ks.length d1,.slice b2 ps.length d2,.slice b3 es'.length d3],.int .i64 0]) (by simp [results,Tryz.results109,go_sem,cell_setRow_same _ _ _ _ _ _ _ sG]) rfl ⟨_,_,_,by rw [HE.out.1],by rw [ug.out.1,ug.out.2,HE.out.2];exact (HN7.out.far (aD w7 (w.heap.size+1+1) _) (by omega)).mono (by omega),below_setRow HX7.out.below (by omega) _⟩
  ·have HPL2:Hid ((dS es c.f (dZ c)).length=es.length):=by show _=_;rw [Ka.out,ha];rfl
   have hrn:¬ r<0:=by omega
   clear ha HAN Ka
   have HE:Hid (takeC ks ps es c=0∧eT ks ps es c=dS es c.f (dZ c)):=by
    have h0:decide (12<(dS es c.f (dZ c)).length)=false:=by rw [HPL2.out];simp;omega
    show _∧_
    rw [HC.out.1,HC.out.2,h0];exact ⟨rfl,rfl⟩
   go_wp2_with fail;refine (HGO.out _ J7.out HNL.out hle5).mono ?_;rintro e w6 ⟨z',rfl,hN6,hX6⟩;have HX6:Hid (iZ w w6 (.cells #[.slice ak ks.length ck,.slice ap ps.length cp,.slice ae es.length ce] 30) (.cells #[.string c.f,.int .i64 c.what,.int .i64 c.num,.string c.v] 76) (.cells #[.slice none 0 0,.slice none 0 0,.slice none 0 0] 30)):=hX6;have HN6:Hid (dI w6 (.slice a1 ks.length c1) (.slice a2 ps.length c2) z' ks ps (dS es c.f (dZ c))):=hN6.at;obtain ⟨-,-,-,-,a4,c4,-,-,rfl⟩:=hN6.slices;clear hX6 hN6;go_wp2_with fail
   refine (cq _ _ _ ks ps (dS es c.f (dZ c)) _ HN6.out SB.out.k SB.out.p (by have:=HPS.out.1;omega) HPS.out.2).mono ?_
   rintro e w7 ⟨x,y,z,rfl,hN7,FH⟩;obtain ⟨b1,d1,b2,d2,b3,d3,rfl,rfl,rfl⟩:=hN7.slices;have HX7:Hid (iZ w w7 (.cells #[.slice ak ks.length ck,.slice ap ps.length cp,.slice ae es.length ce] 30) (.cells #[.string c.f,.int .i64 c.what,.int .i64 c.num,.string c.v] 76) (.cells #[.slice none 0 0,.slice none 0 0,.slice none 0 0] 30)):=HX6.out.call FH;have hz6:=HX6.out.z;have HN7:=aq hN7;have sG:=HX7.out.b2;clear hN7 FH HX6 HN6 qA J7 HN5 HT5 HNL;generalize dS es c.f (dZ c)=es' at *
   go_wp2_with (refine wpList_store_row rfl 30 _ _ rfl (w.heap.size+1+1) #[.slice b1 ks.length d1,.slice b2 ps.length d2,.slice b3 es'.length d3] rfl rfl 30 _ sG (by kernel_rfl) rfl (by simp [Value.oneCell']) ?_)
   exact bodyPost_ret (v:=.tuple #[.agg #[.slice b1 ks.length d1,.slice b2 ps.length d2,.slice b3 es'.length d3],.int .i64 0]) (by simp [results,Tryz.results109,go_sem,cell_setRow_same _ _ _ _ _ _ _ sG]) rfl ⟨_,_,_,by rw [HE.out.1],by rw [ug.out.1,ug.out.2,HE.out.2];exact (HN7.out.far (aD w7 (w.heap.size+1+1) _) (by omega)).mono (by omega),below_setRow HX7.out.below (by omega) _⟩
open Go.RowKit
theorem Jb (fs:List fI) (f:fI):(gP fs f).length≤fs.length+1:=by
 induction fs with
 | nil=>simp [gP]
 | cons g l ih =>
  rw [gP]
  split
  ·simp;omega
  ·split
   ·split <;> simp
   ·simp
theorem DF {es:List dU} (n:ByteArray) (f:fI) (M:Nat) (h:∀ e∈es,e.fs.length≤M):∀ e∈dS es n f,e.fs.length≤M+1:=by
 induction es with
 | nil=>intro e he;simp [dS] at he;subst he;simp
 | cons x es ih =>
  intro e he;rw [dS] at he
  split at he
  ·rcases List.mem_cons.1 he with rfl | he
   ·have:=Jb x.fs f
    have:=h x (by simp)
    show (gP x.fs f).length≤_
    omega
   ·have:=h e (by simp [he]);omega
  ·split at he
   ·rcases List.mem_cons.1 he with rfl | he
    ·have:=h e (by simp);omega
    ·exact ih (fun e he=>h e (by simp [he])) e he
   ·rcases List.mem_cons.1 he with rfl | he
    ·simp
    ·have:=h e he;omega
open Go.RowKit
abbrev Bk:=List dx×List dx×List dU
def dB (b:Bk) (c:dP):Bk:=(dN b.1 b.2.1 b.2.2 b.1,dN b.1 b.2.1 b.2.2 b.2.1,eT b.1 b.2.1 b.2.2 c)
def nJ (b:Bk) (c:dP):Int:=takeC b.1 b.2.1 b.2.2 c
def dQ (b:Bk) (L:List dP):Bk:=L.foldl dB b
def iI:Bk→List dP→List Int
 | _,[]=>[]
 | b,c::L=>nJ b c::iI (dB b c) L
theorem Bl (b:Bk) (L:List dP) (c:dP):dQ b (L++[c])=dB (dQ b L) c:=by simp [dQ]
theorem sV:∀ (L:List dP) (b:Bk) (c:dP),iI b (L++[c])=iI b L++[nJ (dQ b L) c]
 | [],b,c=>rfl
 | d::L,b,c=>by
  show nJ b d::iI (dB b d) (L++[c])=_
  rw [sV L (dB b d) c]
  rfl
theorem vM:∀ (L:List dP) (b:Bk),(iI b L).length=L.length
 | [],b=>rfl
 | c::L,b=>by show (iI (dB b c) L).length+1=_;rw [vM L];rfl
theorem FZ {L:List dP} {k:Nat} (h:k<L.length):L.take (k+1)=L.take k++[j6 L k]:=by
 rw [List.take_succ_eq_append_getElem h]
 simp [j6,h]
structure vX (b:Bk):Prop where
 n:jU b.1 b.2.1 b.2.2
 s:ic b.1 b.2.1 b.2.2
 u:jC (fun e=>e.fs.length) b.2.2≤1048576
theorem xu {fs:List fI} {f x:fI} (h:x∈gP fs f):x=f∨x∈fs:=by
 induction fs with
 | nil=>simp [gP] at h;exact .inl h
 | cons g l ih =>
  rw [gP] at h
  split at h
  ·rcases List.mem_cons.1 h with rfl | h
   ·exact .inr (by simp)
   ·rcases ih h with h | h
    ·exact .inl h
    ·exact .inr (by simp [h])
  ·split at h
   ·split at h
    ·rcases List.mem_cons.1 h with rfl | h
     ·exact .inl rfl
     ·exact .inr (by simp [h])
    ·exact .inr h
   ·rcases List.mem_cons.1 h with rfl | h
    ·exact .inl rfl
    ·exact .inr h
theorem K3 {es:List dU} (n:ByteArray) (f:fI) {P:ByteArray→Prop} {Q:fI→Prop} (h:∀ e∈es,P e.name∧∀ x∈e.fs,Q x) (hn:P n) (hf:Q f):∀ e∈dS es n f,P e.name∧∀ x∈e.fs,Q x:=by
 induction es with
 | nil=>intro e he;simp [dS] at he;subst he;exact ⟨hn,fun x hx=>by simp at hx;subst hx;exact hf⟩
 | cons y es ih =>
  intro e he;rw [dS] at he
  split at he
  ·rcases List.mem_cons.1 he with rfl | he
   ·refine ⟨(h y (by simp)).1,fun x hx=>?_⟩
    rcases xu hx with rfl | hx
    ·exact hf
    ·exact (h y (by simp)).2 x hx
   ·exact h e (by simp [he])
  ·split at he
   ·rcases List.mem_cons.1 he with rfl | he
    ·exact h e (by simp)
    ·exact ih (fun e he=>h e (by simp [he])) e he
   ·rcases List.mem_cons.1 he with rfl | he
    ·exact ⟨hn,fun x hx=>by simp at hx;subst hx;exact hf⟩
    ·exact h e he
theorem zT (ks ps:List dx) (es:List dU) (c:dP) {P:ByteArray→Prop} {Q:fI→Prop} (h:∀ e∈es,P e.name∧∀ x∈e.fs,Q x) (hn:P c.f) (hf:Q (dZ c)):∀ e∈eT ks ps es c,P e.name∧∀ x∈e.fs,Q x:=by
 unfold eT
 cases dJ ks ps es
 ·intro e he;cases he
 ·cases gy ks ps c
  ·exact h
  ·cases decide (12<(dS es c.f (dZ c)).length)
   ·exact K3 c.f (dZ c) h hn hf
   ·exact h
theorem zQ {ks ps:List dx} {es:List dU} {l:List dx} {t:dx} (h:t∈dN ks ps es l):t∈l:=by
 unfold dN at h
 cases hb:dJ ks ps es
 ·rw [hb] at h;cases h
 ·rw [hb] at h;exact h
theorem KD (ks ps:List dx) (es:List dU) (c:dP) (h:∀ e∈es,e.fs.length≤1048576):∀ e∈eT ks ps es c,e.fs.length≤1048576:=by
 unfold eT
 cases hb:dJ ks ps es
 ·intro e he;cases he
 ·cases gy ks ps c
  ·exact h
  ·cases decide (12<(dS es c.f (dZ c)).length)
   ·intro e he
    have:=DF c.f (dZ c) 5 (tF hb) e he
    omega
   ·exact h
theorem De (ks ps:List dx) (es:List dU) (c:dP):(eT ks ps es c).length≤13∧jC (fun e=>e.fs.length) (eT ks ps es c)≤1048576:=by
 have go:∀ l:List dU,l.length≤13→(∀ e∈l,e.fs.length≤6)→l.length≤13∧jC (fun e=>e.fs.length) l≤1048576:=fun l h1 h2=>by
  have:=nX (fun e:dU=>e.fs.length) 6 l h2;have:=Nat.mul_le_mul_right 6 h1
  exact ⟨h1,by omega⟩
 unfold eT
 cases hb:dJ ks ps es
 ·exact go [] (by simp) (fun e he=>by cases he)
 ·have h12:=tC hb
  have h5:=tF hb
  have hes:=go es (by omega) (fun e he=>by have:=h5 e he;omega)
  have hput:=go (dS es c.f (dZ c)) (by rw [Dz c.f (dZ c) (bJ hb)];split <;> omega) (fun e he=>DF c.f (dZ c) 5 h5 e he)
  cases gy ks ps c
  ·exact hes
  ·cases decide (12<(dS es c.f (dZ c)).length)
   ·exact hput
   ·exact hes
theorem zS (ks ps:List dx) (es:List dU) (l:List dx):(dN ks ps es l).length≤l.length:=by
 unfold dN
 cases dJ ks ps es
 ·simp
 ·exact Nat.le_refl _
theorem vX.step {b:Bk} {c:dP} (h:vX b) (hf:c.f.size≤1048576) (hv:c.v.size≤1048576):vX (dB b c):=by
 obtain ⟨ks,ps,es⟩:=b;have h13:=De ks ps es c;have hall:=zT ks ps es c (P:=fun n=>n.size≤1048576) (Q:=fun f=>f.v.size≤1048576) (fun e he=>⟨h.s.n e he,h.s.v e he⟩) hf hv
 have hall2:=zT ks ps es c (P:=fun n=>n.size≤maxLen) (Q:=fun f=>f.v.size≤maxLen) (fun e he=>⟨(h.n.e e he).1,(h.n.e e he).2⟩) (by unfold maxLen;omega) (by show c.v.size≤_;unfold maxLen;omega)
 refine ⟨⟨fun t ht=>h.n.k t (zQ ht),fun t ht=>h.n.p t (zQ ht),fun e he=>⟨(hall2 e he).1,(hall2 e he).2⟩⟩,⟨Nat.le_trans (zS _ _ _ _) h.s.k,Nat.le_trans (zS _ _ _ _) h.s.p,?_,KD ks ps es c h.s.f,fun e he=>(hall e he).1,fun e he=>(hall e he).2⟩,h13.2⟩
 show (eT ks ps es c).length≤1048576
 omega
theorem vX.steps {L:List dP}:∀ {b:Bk},vX b→(∀ c∈L,c.f.size≤1048576∧c.v.size≤1048576)→vX (dQ b L):=by
 induction L with
 | nil=>intro b h _;exact h
 | cons c L ih=>intro b h hc;exact ih (h.step (hc c (by simp)).1 (hc c (by simp)).2) (fun d hd=>hc d (by simp [hd]))
open Go.RowKit
def iJ (w:World) (base:Nat) (v:Value) (l:List Int):Prop:=w.ownsRow base 3 1 v l.length (l.map (Value.int .i64))
theorem Iz:(Tryz.prog.info? 3).map (fun i=>(i.zero,i.size,i.bytes))=some (some (.int .i64 0),1,8):=by kernel_rfl
theorem df.ints {lo B n:Nat} {w w':World} {x y z v:Value} {xs:List Value} {ks ps:List dx} {es:List dU} (h:df lo w x y z ks ps es) (hv:w.ownsRow B 3 1 v n xs) (hg:w.grownBy w' v.ownBlock):df lo w' x y z ks ps es:=by
 obtain ⟨h1,h2,l,h3,h4⟩:=h
 exact ⟨ar h1 hg (aN hv h1 (by decide)),ar h2 hg (aN hv h2 (by decide)),l,h3,ar h4.row hg (aN hv h4.row (by decide)),fun p hp=>ar (h4.iL p hp) hg (aN hv (h4.iL p hp) (by decide)),h4.apart⟩
theorem tY.grownI {w wr wy:World} {bs:List Bx} {B n:Nat} {v:Value} {xs:List Value} (h:tY w wr bs) (hv:wr.ownsRow B 3 1 v n xs) (hB:w.heap.size≤B) (hg:wr.grownBy wy v.ownBlock) (hT:∀ p∈bs,3≠p.2.2):tY w wy bs :=
 ⟨h.below.grown hg h.below.size (fun k e=>Nat.le_trans hB (aw hv k e)),fun p hp=>(hg.block _ (h.lt hp) (bd hv (h.has p hp) (hT p hp))).trans (h.has p hp)⟩
theorem iJ.snoc {w:World} {B:Nat} {v:Value} {l:List Int} {x:Int} (h:w.ownsRow B 3 1 v (l.length+1) (l.map (Value.int .i64)++[.int .i64 x])):iJ w B v (l++[x]):=by
 unfold iJ;rw [List.length_append,List.map_append];exact h
def CF (ks ps:List dx) (es:List dU) (L:List dP):Bk:=bif dJ ks ps es then dQ (ks,ps,es) L else ([],[],[])
def ME (ks ps:List dx) (es:List dU) (L:List dP):List Int:=bif dJ ks ps es then iI (ks,ps,es) L else []
theorem df.Bt {lo:Nat} {w:World} {x y z:Value} {b:Bk} (h:df lo w x y z b.1 b.2.1 b.2.2):∃ a1 a2 a3 a4 a5 a6,x=.slice a1 b.1.length a2∧y=.slice a3 b.2.1.length a4∧z=.slice a5 b.2.2.length a6:=by
 obtain ⟨a1,c1,a2,c2,a3,c3,h1,h2,h3⟩:=h.slices;exact ⟨a1,c1,a2,c2,a3,c3,h1,h2,h3⟩
theorem vQ (vk vp ve vl:Value) (ks ps:List dx) (es:List dU) (L:List dP) (w:World) (hB:dI w vk vp ve ks ps es) (hL:iC w vl L) (hS:vX (ks,ps,es)) (hLs:∀ c∈L,c.f.size≤1048576∧c.v.size≤1048576) (hLl:L.length≤1048576) :
  Calls Tryz.prog 111 #[.agg #[vk,vp,ve],vl] w fun e w'=>∃ x y z v,e=.returned (.tuple #[.agg #[x,y,z],v])∧df w.heap.size w' x y z (CF ks ps es L).1 (CF ks ps es L).2.1 (CF ks ps es L).2.2∧iJ w' w.heap.size v (ME ks ps es L)∧Below w.heap.size w w':=by
 obtain ⟨i0,hi0,hz0,hz1,hz2⟩:=info_parts Iz;have HB:Hid (dI w vk vp ve ks ps es):=hB;have SM:Hid (vX (ks,ps,es)):=hS;obtain ⟨⟨ak,ck,rfl,-,-,-⟩,⟨ap,cp,rfl,-,-,-⟩,⟨ae,ce,rfl,-,-,-⟩⟩:=hB;obtain ⟨al,cl,rfl,hlc,hlm,hl3⟩:=hL;unfold maxLen at hlm;have HLA:Hid (∀ i c,L[i]?=some c→∃ b off,al=some ⟨b,off,none⟩∧zi w b (off+i*4) c):=hl3;have HLS:Hid (∀ c∈L,c.f.size≤1048576∧c.v.size≤1048576):=hLs;clear hS hl3 hLs;have L0:Hid (tY w _ [(w.heap.size,#[.slice ak ks.length ck,.slice ap ps.length cp,.slice ae es.length ce],30),(w.heap.size+1,#[.slice none 0 0,.slice none 0 0,.slice none 0 0],30)]):=tY.start2 w #[.slice ak ks.length ck,.slice ap ps.length cp,.slice ae es.length ce] #[.slice none 0 0,.slice none 0 0,.slice none 0 0] 30 30;have hal0:Below ((w.alloc (.cells #[.slice ak ks.length ck,.slice ap ps.length cp,.slice ae es.length ce] 30)).alloc (.cells #[.slice none 0 0,.slice none 0 0,.slice none 0 0] 30)).heap.size ((w.alloc (.cells #[.slice ak ks.length ck,.slice ap ps.length cp,.slice ae es.length ce] 30)).alloc (.cells #[.slice none 0 0,.slice none 0 0,.slice none 0 0] 30)) (((w.alloc (.cells #[.slice ak ks.length ck,.slice ap ps.length cp,.slice ae es.length ce] 30)).alloc (.cells #[.slice none 0 0,.slice none 0 0,.slice none 0 0] 30)).alloc (.cells #[] 3)):=(aM);have L1:Hid (tY w (((w.alloc (.cells #[.slice ak ks.length ck,.slice ap ps.length cp,.slice ae es.length ce] 30)).alloc (.cells #[.slice none 0 0,.slice none 0 0,.slice none 0 0] 30)).alloc (.cells #[] 3)) [(w.heap.size,#[.slice ak ks.length ck,.slice ap ps.length cp,.slice ae es.length ce],30),(w.heap.size+1,#[.slice none 0 0,.slice none 0 0,.slice none 0 0],30)]):=L0.out.call hal0;have hn1:=am ((w.alloc (.cells #[.slice ak ks.length ck,.slice ap ps.length cp,.slice ae es.length ce] 30)).alloc (.cells #[.slice none 0 0,.slice none 0 0,.slice none 0 0] 30)) (.cells #[] 3)
 have hs1:((w.alloc (.cells #[.slice ak ks.length ck,.slice ap ps.length cp,.slice ae es.length ce] 30)).alloc (.cells #[.slice none 0 0,.slice none 0 0,.slice none 0 0] 30)).heap.size=w.heap.size+1+1:=by simp
 rw [hs1] at hn1
 have I1:Hid (iJ (((w.alloc (.cells #[.slice ak ks.length ck,.slice ap ps.length cp,.slice ae es.length ce] 30)).alloc (.cells #[.slice none 0 0,.slice none 0 0,.slice none 0 0] 30)).alloc (.cells #[] 3)) (w.heap.size+2) (.slice (some ⟨w.heap.size+1+1,0,none⟩) 0 0) []):=be hn1 (by omega) 1
 clear hal0 hn1 hs1 L0
 go_enter Tryz.func111,Tryz.ntmps111
 go_wp2_with fail;refine (lg _ _ _ ks ps es _ (HB.out.keep L1.out.below) SM.out.n SM.out.s).mono ?_;rintro e w1 ⟨rfl,hb1⟩;have L2:Hid (tY w w1 [(w.heap.size,#[.slice ak ks.length ck,.slice ap ps.length cp,.slice ae es.length ce],30),(w.heap.size+1,#[.slice none 0 0,.slice none 0 0,.slice none 0 0],30)]):=L1.out.call hb1;have I2:Hid (iJ w1 (w.heap.size+2) (.slice (some ⟨w.heap.size+1+1,0,none⟩) 0 0) []):=ah I1.out hb1;clear L1 I1 hb1
 have hr1:=L2.out.has (w.heap.size+1,#[.slice none 0 0,.slice none 0 0,.slice none 0 0],30) (by simp)
 dsimp only at hr1
 have hz1':w.heap.size+1<w1.heap.size:=L2.out.lt (p:=(w.heap.size+1,#[.slice none 0 0,.slice none 0 0,.slice none 0 0],30)) (by simp)
 obtain ⟨y0,y1,y2⟩:w1.cell? ⟨w.heap.size,0,none⟩=some (.slice ak ks.length ck)∧w1.cell? ⟨w.heap.size,1,none⟩=some (.slice ap ps.length cp)∧w1.cell? ⟨w.heap.size,2,none⟩=some (.slice ae es.length ce):=⟨L2.out.cell 0 rfl 0,L2.out.cell 0 rfl 1,L2.out.cell 0 rfl 2⟩
 cases hbb:dJ ks ps es
 ·have HE:Hid (CF ks ps es L=([],[],[])∧ME ks ps es L=[]):=by
   show _∧_
   unfold CF ME;rw [hbb];exact ⟨rfl,rfl⟩
  clear hbb
  go_wp2_with (refine wpList_store_row rfl 30 _ _ rfl (w.heap.size+1) #[.slice none 0 0,.slice none 0 0,.slice none 0 0] rfl rfl 30 _ hr1 (by kernel_rfl) rfl (by simp [Value.oneCell']) ?_)
  exact bodyPost_ret (v:=.tuple #[.agg #[.slice none 0 0,.slice none 0 0,.slice none 0 0],.slice (some ⟨w.heap.size+1+1,0,none⟩) 0 0]) (by simp [results,Tryz.results111,go_sem,cell_setRow_same _ _ _ _ _ _ _ hr1]) rfl ⟨_,_,_,_,rfl,by rw [HE.out.1];exact df.none _ _,by rw [HE.out.2];exact aJ (ar I2.out (aD _ _ _) (fun k hk e=>by have:=aw I2.out k hk;injection e;omega)) (by omega),below_setRow L2.out.below (by omega) _⟩
 have A7:Hid (dJ ks ps es=true):=hbb
 have HE:Hid (CF ks ps es L=dQ (ks,ps,es) L∧ME ks ps es L=iI (ks,ps,es) L):=by
  show _∧_
  unfold CF ME;rw [hbb];exact ⟨rfl,rfl⟩
 clear hbb hr1;go_wp2_with fail;refine (cq _ _ _ ks ps es _ (HB.out.keep L2.out.below) SM.out.s.k SM.out.s.p SM.out.s.e SM.out.s.f).mono ?_;rintro e w2 ⟨x,y,z,rfl,hN2,hb2⟩;obtain ⟨a1,a2,a3,a4,a5,a6,rfl,rfl,rfl⟩:=hN2.slices;have hs12:=hb2.size;have hal:Below w2.heap.size w2 (w2.alloc (.cells #[.slice a1 ks.length a2,.slice a3 ps.length a4,.slice a5 es.length a6] 30)):=(aM)
 have HI0:Hid (tY w (w2.alloc (.cells #[.slice a1 ks.length a2,.slice a3 ps.length a4,.slice a5 es.length a6] 30)) [(w2.heap.size,#[.slice a1 ks.length a2,.slice a3 ps.length a4,.slice a5 es.length a6],30),(w.heap.size,#[.slice ak ks.length ck,.slice ap ps.length cp,.slice ae es.length ce],30),(w.heap.size+1,#[.slice none 0 0,.slice none 0 0,.slice none 0 0],30)]∧df (w.heap.size+2) (w2.alloc (.cells #[.slice a1 ks.length a2,.slice a3 ps.length a4,.slice a5 es.length a6] 30)) (.slice a1 ks.length a2) (.slice a3 ps.length a4) (.slice a5 es.length a6) ks ps es∧iJ (w2.alloc (.cells #[.slice a1 ks.length a2,.slice a3 ps.length a4,.slice a5 es.length a6] 30)) (w.heap.size+2) (.slice (some ⟨w.heap.size+1+1,0,none⟩) 0 0) []∧w.heap.size+2≤w2.heap.size):=⟨((L2.out.call hb2).call hal).push (am w2 _),(hN2.keep hal).mono (by omega),ah (ah I2.out hb2) hal,by omega⟩
 clear hN2 hb2 hal L2 I2 y0 y1 y2;go_wp2;generalize w2.alloc (.cells #[.slice a1 ks.length a2,.slice a3 ps.length a4,.slice a5 es.length a6] 30)=wa at *;generalize w2.heap.size=X at *
 go_loopw [8,6] (fun s8 s6 wr=>∃ (k:Nat) (a1 a3 a5:Option Addr) (a2 a4 a6:Nat),k≤L.length∧s8=.int .i64 k∧(∃ a c,s6=.slice a k c)∧Hid (tY w wr [(X,#[.slice a1 (dQ (ks,ps,es) (L.take k)).1.length a2,.slice a3 (dQ (ks,ps,es) (L.take k)).2.1.length a4,.slice a5 (dQ (ks,ps,es) (L.take k)).2.2.length a6],30),(w.heap.size,#[.slice ak ks.length ck,.slice ap ps.length cp,.slice ae es.length ce],30),(w.heap.size+1,#[.slice none 0 0,.slice none 0 0,.slice none 0 0],30)]∧df (w.heap.size+2) wr (.slice a1 (dQ (ks,ps,es) (L.take k)).1.length a2) (.slice a3 (dQ (ks,ps,es) (L.take k)).2.1.length a4) (.slice a5 (dQ (ks,ps,es) (L.take k)).2.2.length a6) (dQ (ks,ps,es) (L.take k)).1 (dQ (ks,ps,es) (L.take k)).2.1 (dQ (ks,ps,es) (L.take k)).2.2∧iJ wr (w.heap.size+2) s6 (iI (ks,ps,es) (L.take k))∧w.heap.size+2≤X)) (fun s8 _ _=>L.length-(intOf s8).toNat)
 case atStart=>exact ⟨0,a1,a3,a5,a2,a4,a6,Nat.zero_le _,rfl,⟨_,_,rfl⟩,HI0.out⟩
 case round =>
  clear HI0;obtain ⟨k,a1,a3,a5,a2,a4,a6,hk,rfl,⟨va,vc,rfl⟩,HI⟩:=hrel
  by_cases hlt:k<L.length
  ·obtain ⟨b,off,rfl,hc⟩:=HLA.out k _ (pM hlt)
   have HC:Hid (zi w b (off+k*4) (j6 L k)):=hc
   have Hf:Hid (dQ (ks,ps,es) (L.take (k+1))=dB (dQ (ks,ps,es) (L.take k)) (j6 L k)∧iI (ks,ps,es) (L.take (k+1))=(iI (ks,ps,es) (L.take k))++[nJ (dQ (ks,ps,es) (L.take k)) (j6 L k)]):=by
    show _∧_
    rw [FZ hlt,Bl,sV];exact ⟨rfl,rfl⟩
   have HSK:Hid (vX (dQ (ks,ps,es) (L.take k))):=SM.out.steps (fun c hc=>HLS.out c (List.mem_of_mem_take hc));have hcs:=HLS.out _ (List.mem_of_getElem? (pM hlt))
   have hcl:(iI (ks,ps,es) (L.take k)).length=k:=by rw [vM,List.length_take];omega
   have FC:=aq hcl;clear hc hcl;generalize (dQ (ks,ps,es) (L.take k))=Bq at *;generalize (iI (ks,ps,es) (L.take k))=Cq at *;generalize j6 L k=c at *
   have hk0:(0:Int)≤(k:Int):=by omega
   have hk1:(k:Int)<(L.length:Int):=by omega
   go_wp2
   go_cut [9,10] (fun s9 s10 wc=>∃ (Xq:Nat) (xv yv zv:Value),s9=.pointer (some ⟨Xq,0,none⟩)∧s10=.int .i64 (nJ Bq c)∧Hid (Below wr.heap.size wr wc∧wc.heap[Xq]?=some (.cells #[xv,yv,zv] 30 (0,0))∧df wr.heap.size wc xv yv zv (dB Bq c).1 (dB Bq c).2.1 (dB Bq c).2.2∧wr.heap.size≤Xq))
   case first =>
    have dK:Hid (∀ w':World,Below wr.heap.size wr w'→((w'.cell? ⟨X,0,none⟩=some (.slice a1 Bq.1.length a2)∧w'.cell? ⟨X,1,none⟩=some (.slice a3 Bq.2.1.length a4)∧w'.cell? ⟨X,2,none⟩=some (.slice a5 Bq.2.2.length a6))∧(w'.cell? ⟨b,off+k*4,none⟩=some (.string c.f)∧w'.cell? ⟨b,off+k*4+1,none⟩=some (.int .i64 c.what)∧w'.cell? ⟨b,off+k*4+2,none⟩=some (.int .i64 c.num)∧w'.cell? ⟨b,off+k*4+3,none⟩=some (.string c.v)))):=fun w' hx=>by
     have hl:=HI.out.1.call hx;have hc:=HC.out.keep hl.below aG;exact ⟨⟨hl.cell 0 rfl 0,hl.cell 0 rfl 1,hl.cell 0 rfl 2⟩,hc⟩
    refine wp_region_noPanic ?_
    refine wp_region_held_drew (S:=fun w'=>(w'.cell? ⟨X,0,none⟩=some (.slice a1 Bq.1.length a2)∧w'.cell? ⟨X,1,none⟩=some (.slice a3 Bq.2.1.length a4)∧w'.cell? ⟨X,2,none⟩=some (.slice a5 Bq.2.2.length a6))∧(w'.cell? ⟨b,off+k*4,none⟩=some (.string c.f)∧w'.cell? ⟨b,off+k*4+1,none⟩=some (.int .i64 c.what)∧w'.cell? ⟨b,off+k*4+2,none⟩=some (.int .i64 c.num)∧w'.cell? ⟨b,off+k*4+3,none⟩=some (.string c.v))) (by kernel_rfl) ?_ (fun hHeld=>?_)
    ·exact dK.out _ (Below.refl _ _).drew
    have bY:Hid (Below wr.heap.size wr wr.drew):=(Below.refl _ _).drew;generalize wr.drew=W0 at *;refine aO 0 ?_ rfl ?_ (aO 1 ?_ rfl ?_ (aO 2 ?_ rfl ?_ (aO 3 ?_ rfl ?_ (aO 4 ?_ rfl ?_ ?_))))
    iterate 5 (rotate_left;focus (intro w hSw;(try dsimp only at hSw);simp only [Act.put,aU];go_simp;try with_reducible rfl))
    simp only [Act.put,aU]
    clear hHeld;refine lZ 5 9 rfl rfl (fun K hK=>?_) (fun K hK=>?_)
    ·go_simp
     refine (kH _ _ _ Bq.1 Bq.2.1 Bq.2.2 c _ (HI.out.2.1.at.keep bY.out) HSK.out.n HSK.out.s hcs.1 hcs.2).mono ?_;rintro e W1 ⟨xq,yq,zq,rfl,hNq,hbb⟩;have HB2:Hid (Below wr.heap.size wr W1):=aa bY.out hbb;have HN:Hid (df wr.heap.size W1 xq yq zq (dB Bq c).1 (dB Bq c).2.1 (dB Bq c).2.2):=df.mono hNq bY.out.size;obtain ⟨b1,b2,b3,b4,b5,b6,rfl,rfl,rfl⟩:=HN.out.Bt;have hHeld:=dK.out _ HB2.out;refine hK.out _ _ hHeld (fun _=>?_);clear hbb hNq;clear hK K bY;have bY:=HB2;clear HB2;refine aO 6 ?_ rfl ?_ (aO 7 ?_ rfl ?_ (aO 8 ?_ rfl ?_ ?_))
     iterate 3 (rotate_left;focus (intro w hSw;(try dsimp only at hSw);simp only [Act.put,aU];go_simp;try with_reducible rfl))
     simp only [Act.put,aU]
     clear hHeld;refine bE 9 rfl (fun K hK=>?_);go_simp;have hbb:Below W1.heap.size W1 (W1.alloc (.cells #[.slice none 0 0,.slice none 0 0,.slice none 0 0] 30)):=(aM);have HB2:Hid (Below wr.heap.size wr (W1.alloc (.cells #[.slice none 0 0,.slice none 0 0,.slice none 0 0] 30))):=aa bY.out hbb;have nT:=aq (HN.out.keep hbb);have HXB:Hid ((W1.alloc (.cells #[.slice none 0 0,.slice none 0 0,.slice none 0 0] 30)).heap[W1.heap.size]?=some (.cells #[.slice none 0 0,.slice none 0 0,.slice none 0 0] 30 (0,0))):=am W1 _;have MK:Hid (wr.heap.size≤W1.heap.size):=bY.out.size;refine hK.out _ _ (dK.out _ HB2.out) (fun _=>?_);clear hbb;clear hK K bY HN;have bY:=HB2;clear HB2;have HN:=nT;clear nT;generalize (W1.alloc (.cells #[.slice none 0 0,.slice none 0 0,.slice none 0 0] 30))=W2 at *;refine bE 10 rfl (fun K hK=>?_)
     refine aF rfl 30 _ _ rfl (W1.heap.size) #[.slice b1 (dB Bq c).1.length b2,.slice b3 (dB Bq c).2.1.length b4,.slice b5 (dB Bq c).2.2.length b6] rfl rfl 30 _ HXB.out (by kernel_rfl) rfl (by simp [Value.oneCell']) ?_
     have HB2:Hid (Below wr.heap.size wr (W2.setRow (W1.heap.size) #[.slice b1 (dB Bq c).1.length b2,.slice b3 (dB Bq c).2.1.length b4,.slice b5 (dB Bq c).2.2.length b6])):=below_setRow bY.out MK.out _;have HNF:=aq (HN.out.box HXB.out (aD W2 (W1.heap.size) #[.slice b1 (dB Bq c).1.length b2,.slice b3 (dB Bq c).2.1.length b4,.slice b5 (dB Bq c).2.2.length b6]));have HXF:Hid ((W2.setRow (W1.heap.size) #[.slice b1 (dB Bq c).1.length b2,.slice b3 (dB Bq c).2.1.length b4,.slice b5 (dB Bq c).2.2.length b6]).heap[W1.heap.size]?=some (.cells #[.slice b1 (dB Bq c).1.length b2,.slice b3 (dB Bq c).2.1.length b4,.slice b5 (dB Bq c).2.2.length b6] 30 (0,0))):=setRow_heap _ _ _ _ _ _ HXB.out;have hHeld:=dK.out _ HB2.out;refine hK.out _ _ hHeld (fun _=>?_);clear hK K;refine aO 11 ?_ rfl ?_ ?_;rotate_left
     ·intro w hSw;(try dsimp only at hSw);go_simp;try with_reducible rfl
     simp only [Act.put,aU]
     clear hHeld
     refine wpAnyH_done (by kernel_rfl) ?_ _
     refine NoPanic.normal ?_;go_wp2_with fail
     go_meet
     exact ⟨W1.heap.size,_,_,_,rfl,rfl,HB2.out,HXF.out,HNF.out,MK.out⟩
    ·go_simp
     have hbb:Below W0.heap.size W0 (W0.alloc (.cells #[.slice none 0 0,.slice none 0 0,.slice none 0 0] 30)):=(aM);have HB2:Hid (Below wr.heap.size wr (W0.alloc (.cells #[.slice none 0 0,.slice none 0 0,.slice none 0 0] 30))):=aa bY.out hbb;have HXB:Hid ((W0.alloc (.cells #[.slice none 0 0,.slice none 0 0,.slice none 0 0] 30)).heap[W0.heap.size]?=some (.cells #[.slice none 0 0,.slice none 0 0,.slice none 0 0] 30 (0,0))):=am W0 _;have MK:Hid (wr.heap.size≤W0.heap.size):=bY.out.size;refine hK.out _ _ (dK.out _ HB2.out) (fun _=>?_);clear hbb;clear hK K bY;have bY:=HB2;clear HB2;generalize (W0.alloc (.cells #[.slice none 0 0,.slice none 0 0,.slice none 0 0] 30))=W1 at *;refine bE 5 rfl (fun K hK=>?_);go_simp;refine (kH _ _ _ Bq.1 Bq.2.1 Bq.2.2 c _ (HI.out.2.1.at.keep bY.out) HSK.out.n HSK.out.s hcs.1 hcs.2).mono ?_;rintro e W2 ⟨xq,yq,zq,rfl,hNq,hbb⟩;have HB2:Hid (Below wr.heap.size wr W2):=aa bY.out hbb;have HXB2:=aq ((hbb.block _ (Array.getElem?_eq_some_iff.1 HXB.out).1).trans HXB.out);have HN:Hid (df wr.heap.size W2 xq yq zq (dB Bq c).1 (dB Bq c).2.1 (dB Bq c).2.2):=df.mono hNq bY.out.size;obtain ⟨b1,b2,b3,b4,b5,b6,rfl,rfl,rfl⟩:=HN.out.Bt;have hHeld:=dK.out _ HB2.out;refine hK.out _ _ hHeld (fun _=>?_);clear hbb hNq;clear hK K bY HXB;have bY:=HB2;clear HB2;have HXB:=HXB2;clear HXB2;refine aO 6 ?_ rfl ?_ (aO 7 ?_ rfl ?_ (aO 8 ?_ rfl ?_ ?_))
     iterate 3 (rotate_left;focus (intro w hSw;(try dsimp only at hSw);simp only [Act.put,aU];go_simp;try with_reducible rfl))
     simp only [Act.put,aU]
     clear hHeld;refine bE 10 rfl (fun K hK=>?_)
     refine aF rfl 30 _ _ rfl (W0.heap.size) #[.slice b1 (dB Bq c).1.length b2,.slice b3 (dB Bq c).2.1.length b4,.slice b5 (dB Bq c).2.2.length b6] rfl rfl 30 _ HXB.out (by kernel_rfl) rfl (by simp [Value.oneCell']) ?_
     have HB2:Hid (Below wr.heap.size wr (W2.setRow (W0.heap.size) #[.slice b1 (dB Bq c).1.length b2,.slice b3 (dB Bq c).2.1.length b4,.slice b5 (dB Bq c).2.2.length b6])):=below_setRow bY.out MK.out _;have HNF:=aq (HN.out.box HXB.out (aD W2 (W0.heap.size) #[.slice b1 (dB Bq c).1.length b2,.slice b3 (dB Bq c).2.1.length b4,.slice b5 (dB Bq c).2.2.length b6]));have HXF:Hid ((W2.setRow (W0.heap.size) #[.slice b1 (dB Bq c).1.length b2,.slice b3 (dB Bq c).2.1.length b4,.slice b5 (dB Bq c).2.2.length b6]).heap[W0.heap.size]?=some (.cells #[.slice b1 (dB Bq c).1.length b2,.slice b3 (dB Bq c).2.1.length b4,.slice b5 (dB Bq c).2.2.length b6] 30 (0,0))):=setRow_heap _ _ _ _ _ _ HXB.out;have hHeld:=dK.out _ HB2.out;refine hK.out _ _ hHeld (fun _=>?_);clear hK K;refine aO 11 ?_ rfl ?_ ?_;rotate_left
     ·intro w hSw;(try dsimp only at hSw);go_simp;try with_reducible rfl
     simp only [Act.put,aU]
     clear hHeld
     refine wpAnyH_done (by kernel_rfl) ?_ _
     refine NoPanic.normal ?_;go_wp2_with fail
     go_meet
     exact ⟨W0.heap.size,_,_,_,rfl,rfl,HB2.out,HXF.out,HNF.out,MK.out⟩
   case rest =>
    obtain ⟨Y,xv,yv,zv,rfl,rfl,hq⟩:=hcut;obtain ⟨b1,b2,b3,b4,b5,b6,rfl,rfl,rfl⟩:=hq.out.2.2.1.Bt;have LC:Hid (tY w wc [(Y,#[.slice b1 (dB Bq c).1.length b2,.slice b3 (dB Bq c).2.1.length b4,.slice b5 (dB Bq c).2.2.length b6],30),(X,#[.slice a1 Bq.1.length a2,.slice a3 Bq.2.1.length a4,.slice a5 Bq.2.2.length a6],30),(w.heap.size,#[.slice ak ks.length ck,.slice ap ps.length cp,.slice ae es.length ce],30),(w.heap.size+1,#[.slice none 0 0,.slice none 0 0,.slice none 0 0],30)]):=(HI.out.1.call hq.out.1).push hq.out.2.1
    have NC:Hid (df (w.heap.size+2) wc (.slice b1 (dB Bq c).1.length b2) (.slice b3 (dB Bq c).2.1.length b4) (.slice b5 (dB Bq c).2.2.length b6) (dB Bq c).1 (dB Bq c).2.1 (dB Bq c).2.2):=hq.out.2.2.1.mono (by have h1:=HI.out.1.lt (p:=(w.heap.size+1,#[.slice none 0 0,.slice none 0 0,.slice none 0 0],30)) (by simp);have h2:w.heap.size+1<wr.heap.size:=h1;omega)
    have IC:Hid (iJ wc (w.heap.size+2) (.slice va k vc) Cq):=ah HI.out.2.2.1 hq.out.1;have hXl:w.heap.size+2≤X:=HI.out.2.2.2
    have hXY:X<Y:=by have h1:=HI.out.1.lt (p:=(X,#[.slice a1 Bq.1.length a2,.slice a3 Bq.2.1.length a4,.slice a5 Bq.2.2.length a6],30)) (by simp);have h2:X<wr.heap.size:=h1;have:=hq.out.2.2.2;omega
    clear hq HI;obtain ⟨t0,t1,t2⟩:wc.cell? ⟨Y,0,none⟩=some (.slice b1 (dB Bq c).1.length b2)∧wc.cell? ⟨Y,1,none⟩=some (.slice b3 (dB Bq c).2.1.length b4)∧wc.cell? ⟨Y,2,none⟩=some (.slice b5 (dB Bq c).2.2.length b6):=⟨LC.out.cell 0 rfl 0,LC.out.cell 0 rfl 1,LC.out.cell 0 rfl 2⟩
    have hrX:=LC.out.has (X,#[.slice a1 Bq.1.length a2,.slice a3 Bq.2.1.length a4,.slice a5 Bq.2.2.length a6],30) (by simp)
    dsimp only at hrX
    have hYz:Y<wc.heap.size:=LC.out.lt (p:=(Y,#[.slice b1 (dB Bq c).1.length b2,.slice b3 (dB Bq c).2.1.length b4,.slice b5 (dB Bq c).2.2.length b6],30)) (by simp)
    have LD:Hid (tY w (wc.setRow X #[.slice b1 (dB Bq c).1.length b2,.slice b3 (dB Bq c).2.1.length b4,.slice b5 (dB Bq c).2.2.length b6]) [(X,#[.slice b1 (dB Bq c).1.length b2,.slice b3 (dB Bq c).2.1.length b4,.slice b5 (dB Bq c).2.2.length b6],30),(w.heap.size,#[.slice ak ks.length ck,.slice ap ps.length cp,.slice ae es.length ce],30),(w.heap.size+1,#[.slice none 0 0,.slice none 0 0,.slice none 0 0],30)]):=by
     refine ⟨below_setRow LC.out.below (by omega) _,fun p hp=>?_⟩
     have hz0:=LC.out.lt (p:=(w.heap.size+1,#[.slice none 0 0,.slice none 0 0,.slice none 0 0],30)) (by simp)
     simp only [List.mem_cons,List.not_mem_nil,or_false] at hp
     rcases hp with rfl | rfl | rfl
     ·exact setRow_heap _ _ _ _ _ _ hrX
     ·exact (setRow_other _ _ _ _ (by show w.heap.size≠X;omega)).trans (LC.out.has (w.heap.size,#[.slice ak ks.length ck,.slice ap ps.length cp,.slice ae es.length ce],30) (by simp))
     ·exact (setRow_other _ _ _ _ (by show w.heap.size+1≠X;omega)).trans (LC.out.has (w.heap.size+1,#[.slice none 0 0,.slice none 0 0,.slice none 0 0],30) (by simp))
    have ND:Hid (df (w.heap.size+2) (wc.setRow X #[.slice b1 (dB Bq c).1.length b2,.slice b3 (dB Bq c).2.1.length b4,.slice b5 (dB Bq c).2.2.length b6]) (.slice b1 (dB Bq c).1.length b2) (.slice b3 (dB Bq c).2.1.length b4) (.slice b5 (dB Bq c).2.2.length b6) (dB Bq c).1 (dB Bq c).2.1 (dB Bq c).2.2):=NC.out.box hrX (aD wc X _)
    have ID:Hid (iJ (wc.setRow X #[.slice b1 (dB Bq c).1.length b2,.slice b3 (dB Bq c).2.1.length b4,.slice b5 (dB Bq c).2.2.length b6]) (w.heap.size+2) (.slice va k vc) Cq):=ar IC.out (aD wc X _) (fun q hq e=>bd IC.out hrX (by decide) (by rw [← e];exact hq.symm))
    clear NC IC
    go_upto_region 10 with (refine wpList_store_row rfl 30 _ _ rfl X #[.slice b1 (dB Bq c).1.length b2,.slice b3 (dB Bq c).2.1.length b4,.slice b5 (dB Bq c).2.2.length b6] rfl rfl 30 _ hrX (by kernel_rfl) rfl (by simp [Value.oneCell']) ?_)
    generalize wc.setRow X #[.slice b1 (dB Bq c).1.length b2,.slice b3 (dB Bq c).2.1.length b4,.slice b5 (dB Bq c).2.2.length b6]=wd at *;clear t0 t1 t2 hrX LC hYz hXY
    have hzd:w.heap.size+1<wd.heap.size:=LD.out.lt (p:=(w.heap.size+1,#[.slice none 0 0,.slice none 0 0,.slice none 0 0],30)) (by simp)
    have hid:=ID.out;unfold iJ at hid;rw [FC.out] at hid
    go_wp2_with (at_builtin;refine aZ _ rfl _ _ 153 rfl (w.heap.size+2) 3 i0 _ 1 8 Tryz.underlying153 hi0 hz0 hz1 hz2 rfl (by decide) _ k _ rfl (ah hid (aM)) _ 1 1 [.int .i64 (nJ Bq c)] rfl (.inr ⟨_,rfl,World.news_of_block (am wd (.cells #[.int .i64 (nJ Bq c)] 3))⟩) rfl (fun u hu=>by simp at hu;subst hu;rfl) (by unfold maxLen;omega) (by omega) (by simp;omega) ?_;intro vq wx hown hgrow hat)
    have hke:Below wd.heap.size wd (wd.alloc (.cells #[.int .i64 (nJ Bq c)] 3)):=(aM);have hok:=ah hid hke
    have LF:Hid (tY w wx [(X,#[.slice b1 (dB Bq c).1.length b2,.slice b3 (dB Bq c).2.1.length b4,.slice b5 (dB Bq c).2.2.length b6],30),(w.heap.size,#[.slice ak ks.length ck,.slice ap ps.length cp,.slice ae es.length ce],30),(w.heap.size+1,#[.slice none 0 0,.slice none 0 0,.slice none 0 0],30)]):=(LD.out.call hke).grownI hok (by omega) hgrow (fun p hp=>by simp only [List.mem_cons,List.not_mem_nil,or_false] at hp;rcases hp with rfl | rfl | rfl <;> (show 3≠30;decide))
    have NF:Hid (df (w.heap.size+2) wx (.slice b1 (dB Bq c).1.length b2) (.slice b3 (dB Bq c).2.1.length b4) (.slice b5 (dB Bq c).2.2.length b6) (dB Bq c).1 (dB Bq c).2.1 (dB Bq c).2.2):=(ND.out.keep hke).ints hok hgrow
    have IF:Hid (iJ wx (w.heap.size+2) vq (Cq++[nJ Bq c])):=iJ.snoc (by rw [FC.out];exact hown)
    obtain ⟨qa,qc,rfl⟩:=cZ hown
    have HF:Hid (tY w wx [(X,#[.slice b1 (dQ (ks,ps,es) (L.take (k+1))).1.length b2,.slice b3 (dQ (ks,ps,es) (L.take (k+1))).2.1.length b4,.slice b5 (dQ (ks,ps,es) (L.take (k+1))).2.2.length b6],30),(w.heap.size,#[.slice ak ks.length ck,.slice ap ps.length cp,.slice ae es.length ce],30),(w.heap.size+1,#[.slice none 0 0,.slice none 0 0,.slice none 0 0],30)]∧df (w.heap.size+2) wx (.slice b1 (dQ (ks,ps,es) (L.take (k+1))).1.length b2) (.slice b3 (dQ (ks,ps,es) (L.take (k+1))).2.1.length b4) (.slice b5 (dQ (ks,ps,es) (L.take (k+1))).2.2.length b6) (dQ (ks,ps,es) (L.take (k+1))).1 (dQ (ks,ps,es) (L.take (k+1))).2.1 (dQ (ks,ps,es) (L.take (k+1))).2.2∧iJ wx (w.heap.size+2) (.slice qa (k+1) qc) (iI (ks,ps,es) (L.take (k+1)))∧w.heap.size+2≤X):=by
     rw [Hf.out.1,Hf.out.2];exact ⟨LF.out,NF.out,IF.out,hXl⟩
    exact ⟨⟨k+1,b1,b3,b5,b2,b4,b6,by omega,by go_num,⟨_,_,rfl⟩,HF⟩,by simp [intOf];omega⟩
  ·have HF:Hid (tY w wr [(X,#[.slice a1 (dQ (ks,ps,es) L).1.length a2,.slice a3 (dQ (ks,ps,es) L).2.1.length a4,.slice a5 (dQ (ks,ps,es) L).2.2.length a6],30),(w.heap.size,#[.slice ak ks.length ck,.slice ap ps.length cp,.slice ae es.length ce],30),(w.heap.size+1,#[.slice none 0 0,.slice none 0 0,.slice none 0 0],30)]∧df (w.heap.size+2) wr (.slice a1 (dQ (ks,ps,es) L).1.length a2) (.slice a3 (dQ (ks,ps,es) L).2.1.length a4) (.slice a5 (dQ (ks,ps,es) L).2.2.length a6) (dQ (ks,ps,es) L).1 (dQ (ks,ps,es) L).2.1 (dQ (ks,ps,es) L).2.2∧iJ wr (w.heap.size+2) (.slice va k vc) (iI (ks,ps,es) L)∧w.heap.size+2≤X):=by
    have h:=HI.out
    rw [List.take_of_length_le (show L.length≤k by omega)] at h
    exact h
   clear HI;obtain ⟨t0,t1,t2⟩:wr.cell? ⟨X,0,none⟩=some (.slice a1 (dQ (ks,ps,es) L).1.length a2)∧wr.cell? ⟨X,1,none⟩=some (.slice a3 (dQ (ks,ps,es) L).2.1.length a4)∧wr.cell? ⟨X,2,none⟩=some (.slice a5 (dQ (ks,ps,es) L).2.2.length a6):=⟨HF.out.1.cell 0 rfl 0,HF.out.1.cell 0 rfl 1,HF.out.1.cell 0 rfl 2⟩
   have hr:=HF.out.1.has (w.heap.size+1,#[.slice none 0 0,.slice none 0 0,.slice none 0 0],30) (by simp)
   dsimp only at hr;generalize dQ (ks,ps,es) L=Bq at *
   go_wp2_with (refine wpList_store_row rfl 30 _ _ rfl (w.heap.size+1) #[.slice a1 Bq.1.length a2,.slice a3 Bq.2.1.length a4,.slice a5 Bq.2.2.length a6] rfl rfl 30 _ hr (by kernel_rfl) rfl (by simp [Value.oneCell']) ?_)
   exact bodyPost_ret (v:=.tuple #[.agg #[.slice a1 Bq.1.length a2,.slice a3 Bq.2.1.length a4,.slice a5 Bq.2.2.length a6],.slice va k vc]) (by simp [results,Tryz.results111,go_sem,cell_setRow_same _ _ _ _ _ _ _ hr]) rfl ⟨_,_,_,_,rfl,by rw [HE.out.1];exact (HF.out.2.1.far (aD wr (w.heap.size+1) _) (by omega)).mono (by omega),by rw [HE.out.2];exact aJ (ar HF.out.2.2.1 (aD wr (w.heap.size+1) _) (fun q hq e=>by have:=aw HF.out.2.2.1 q hq;injection e;omega)) (by omega),below_setRow HF.out.1.below (by omega) _⟩
open Go.RowKit
theorem IQ {ks ps:List dx} {es:List dU} (hb:eF ks ps=true) (hl:es.length≤12) (hnm:∀ e∈es,dD e.name=true) (hp:es.Pairwise fun a b=>iU a.name b.name=true) (hf:∀ e∈es,fieldsB ks ps e.name e.fs=true):dJ ks ps es=true:=by
 unfold dJ jP;have eE:∀ i,i<es.length→eZ es i∈es:=fun i hi=>List.mem_of_getElem? (bp hi);rw [hb,decide_eq_true hl,Bool.true_and,Bool.true_and,Bool.and_eq_true];refine ⟨aX fun i hi=>?_,aX fun i hi=>hf _ (eE i hi)⟩;rw [hnm _ (eE i hi),Bool.true_and];unfold lD
 cases i with
 | zero=>rfl
 | succ i =>
  have h:=List.pairwise_iff_getElem.1 hp i (i+1) (by omega) hi (by omega)
  have e0:eZ es i=es[i]:=by simp [eZ,show i<es.length by omega]
  have e1:eZ es (i+1)=es[i+1]:=by simp [eZ,hi]
  rw [Nat.add_sub_cancel,e0,e1]
  simp only [kz]
  unfold iU at h;rw [h]
  simp
theorem fields_of {ks ps:List dx} {n:ByteArray} {l:List fI} (hne:l≠[]) (hs:l.Pairwise fun a b=>a.what<b.what) (hf:∀ f∈l,gy ks ps (dO n f)=true):fieldsB ks ps n l=true:=by
 unfold fieldsB;rw [Bool.and_eq_true];refine ⟨aX fun i hi=>?_,decide_eq_true (List.length_pos_iff.2 hne)⟩;rw [hf _ (List.mem_of_getElem? (b7 hi)),Bool.and_true];unfold jE
 cases i with
 | zero=>rfl
 | succ i =>
  have h:=List.pairwise_iff_getElem.1 hs i (i+1) (by omega) hi (by omega)
  have e0:fH l i=l[i]:=by simp [fH,show i<l.length by omega]
  have e1:fH l (i+1)=l[i+1]:=by simp [fH,hi]
  rw [Nat.add_sub_cancel,e0,e1]
  simp
  omega
theorem Dx {l:List fI} (f:fI) (h:l.Pairwise fun a b=>a.what<b.what):(gP l f).Pairwise fun a b=>a.what<b.what:=by
 induction l with
 | nil=>simp [gP]
 | cons g l ih =>
  have h':=List.pairwise_cons.1 h;rw [gP]
  split
  ·rename_i hlt
   refine List.pairwise_cons.2 ⟨fun x hx=>?_,ih h'.2⟩
   rcases xu hx with rfl | hx
   ·exact hlt
   ·exact h'.1 x hx
  ·split
   ·rename_i he
    split
    ·exact List.pairwise_cons.2 ⟨fun x hx=>by rw [← he];exact h'.1 x hx,h'.2⟩
    ·exact h
   ·rename_i h1 h2
    refine List.pairwise_cons.2 ⟨fun x hx=>?_,h⟩
    rcases List.mem_cons.1 hx with rfl | hx
    ·omega
    ·have:=h'.1 x hx
     omega
theorem zY {es:List dU} (n:ByteArray) (f:fI):∀ e∈dS es n f,e∈es∨e=⟨n,[f]⟩ ∨ ∃ e'∈es,e'.name=n∧e=⟨n,gP e'.fs f⟩:=by
 induction es with
 | nil=>intro e he;simp [dS] at he;exact .inr (.inl he)
 | cons y es ih =>
  intro e he;rw [dS] at he
  split at he
  ·rename_i hy
   rcases List.mem_cons.1 he with rfl | he
   ·exact .inr (.inr ⟨y,by simp,hy,by rw [hy]⟩)
   ·exact .inl (by simp [he])
  ·split at he
   ·rcases List.mem_cons.1 he with rfl | he
    ·exact .inl (by simp)
    ·rcases ih e he with h | h | ⟨e',h1,h2,h3⟩
     ·exact .inl (by simp [h])
     ·exact .inr (.inl h)
     ·exact .inr (.inr ⟨e',by simp [h1],h2,h3⟩)
   ·rcases List.mem_cons.1 he with rfl | he
    ·exact .inr (.inl rfl)
    ·exact .inl he
theorem book_nm {ks ps:List dx} {es:List dU} (h:dJ ks ps es=true) {e:dU} (he:e∈es):dD e.name=true:=by
 simp only [dJ,jP,Bool.and_eq_true] at h
 obtain ⟨i,hi,rfl⟩:=List.getElem_of_mem he;have h1:=bH h.2.1.2 i hi
 simp only [Bool.and_eq_true] at h1
 have e0:eZ es i=es[i]:=by simp [eZ,hi]
 rw [e0] at h1;exact h1.1
theorem Fh {ks ps:List dx} {es:List dU} {c:dP} (h:dJ ks ps es=true) (hc:gy ks ps c=true) (hl:(dS es c.f (dZ c)).length≤12):dJ ks ps (dS es c.f (dZ c))=true:=by
 have hcn:dD c.f=true:=by
  simp only [gy,Bool.and_eq_true] at hc
  exact hc.1
 refine IQ (mQ h) hl (fun e he=>?_) (u6 _ _ (bJ h)) (fun e he=>?_)
 ·rcases zY _ _ e he with h1 | rfl | ⟨e',h1,h2,rfl⟩
  ·exact book_nm h h1
  ·exact hcn
  ·exact hcn
 ·rcases zY _ _ e he with h1 | rfl | ⟨e',h1,h2,rfl⟩
  ·exact cJ h h1
  ·exact fields_of (by simp) (by simp) (fun f hf=>by simp at hf;subst hf;exact hc)
  ·have h3:=cJ h h1
   refine fields_of (Ig _ _) (Dx _ (l8 h3)) (fun f hf=>?_)
   rcases xu hf with rfl | hf
   ·exact hc
   ·rw [← h2];exact q8 h3 hf
theorem uj {ks ps:List dx} {es:List dU} (c:dP) (h:dJ ks ps es=true):dJ ks ps (eT ks ps es c)=true:=by
 unfold eT;rw [h]
 simp only [cond_true]
 cases hf:gy ks ps c
 ·exact h
 ·simp only [cond_true]
  by_cases hl:12<(dS es c.f (dZ c)).length
  ·simp only [decide_eq_true hl,cond_true];exact h
  ·simp only [decide_eq_false hl,cond_false];exact Fh h hf (by omega)
theorem jX {ks ps:List dx} {es:List dU} (h:dJ ks ps es=true) (l:List dx):dN ks ps es l=l:=by
 unfold dN;rw [h]
 rfl
theorem Dj {ks ps:List dx}:∀ (L:List dP) {es:List dU},dJ ks ps es=true→∃ es',dQ (ks,ps,es) L=(ks,ps,es')∧dJ ks ps es'=true
 | [],es,h=>⟨es,rfl,h⟩
 | c::L,es,h=>by
  obtain ⟨es',h1,h2⟩:=Dj L (uj c h);refine ⟨es',?_,h2⟩
  show dQ (dB (ks,ps,es) c) L=_
  rw [show dB (ks,ps,es) c=(ks,ps,eT ks ps es c) by simp only [dB,jX h]]
  exact h1
end Go.Proofs.YtcmgddnckohdaaaGreatDoor
