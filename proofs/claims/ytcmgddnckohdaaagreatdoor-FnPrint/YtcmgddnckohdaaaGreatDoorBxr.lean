import Derived.Test.YtcmgddnckohdaaaGreatDoorPut3
import Derived.Test.YtcmgddnckohdaaaGreatDoorNm1
set_option maxRecDepth 100000
set_option maxHeartbeats 12800000
set_option linter.unusedSimpArgs false
set_option linter.unusedVariables false
namespace Go.Proofs.YtcmgddnckohdaaaGreatDoor
open Go.RowKit
theorem Blk3.low {w wr wy:World} {X Y Z:Obj} {lo:Nat} (h:Blk3 w wr X Y Z) (hb:Below lo wr wy) (hl:w.heap.size+3≤lo):Blk3 w wy X Y Z:=by
 have hz:=h.z
 exact ⟨h.below.trans (hb.mono (by omega)),(hb.block _ (by omega)).trans h.b0,(hb.block _ (by omega)).trans h.b1,(hb.block _ (by omega)).trans h.b2⟩
theorem book_len {ks ps:List Tri} {es:List Ent} (h:bookB ks ps es=true):es.length≤12:=by
 rw [book_eq] at h
 simp only [Bool.and_eq_true,decide_eq_true_eq] at h
 exact h.2.1
theorem book_base {ks ps:List Tri} {es:List Ent} (h:bookB ks ps es=true):baseB ks ps=true:=by
 rw [book_eq] at h
 simp only [Bool.and_eq_true] at h
 exact h.1
theorem putE_small {es:List Ent} (n:ByteArray) (f:Fld) (h:∀ e∈es,e.fs.length≤1048575):∀ e∈putE es n f,e.fs.length≤1048576:=by
 induction es with
 | nil=>intro e he;simp [putE] at he;subst he;simp
 | cons x es ih =>
  intro e he;rw [putE] at he
  split at he
  ·rcases List.mem_cons.1 he with rfl | he
   ·have:=putF_len x.fs f
    have:=h x (by simp)
    show (putF x.fs f).length≤_
    omega
   ·have:=h e (by simp [he]);omega
  ·split at he
   ·rcases List.mem_cons.1 he with rfl | he
    ·have:=h e (by simp);omega
    ·exact ih (fun e he=>h e (by simp [he])) e he
   ·rcases List.mem_cons.1 he with rfl | he
    ·simp
    ·have:=h e he;omega
theorem book_fs5 {ks ps:List Tri} {es:List Ent} (h:bookB ks ps es=true):∀ e∈es,e.fs.length≤5:=fun e he=>by
 have hf:=cC h he;have hs:=fields_sorted hf;have hw:∀ f∈e.fs,1≤f.what∧f.what≤5:=fun f hf'=>fit_what (fields_fit hf hf');clear hf;generalize e.fs=l at *
 have key:∀ (l:List Fld) (m:Int),1≤m→l.Pairwise (fun a b=>a.what<b.what)→(∀ f∈l,m≤f.what∧f.what≤5)→(l.length:Int)≤6-m∨l.length=0:=by
  intro l
  induction l with
  | nil=>intro m _ _ _;exact .inr rfl
  | cons a l ih =>
   intro m hm hp hb;have hp':=List.pairwise_cons.1 hp
   have ha:=hb a (by simp)
   left
   rcases ih (a.what+1) (by omega) hp'.2 (fun f hf=>⟨by have:=hp'.1 f hf;omega,(hb f (by simp [hf])).2⟩) with h1 | h1
   ·simp only [List.length_cons];omega
   ·simp only [List.length_cons,h1];omega
 rcases key l 1 (by omega) hs hw with h1 | h1 <;> omega
theorem specTake_any (vk vp ve:Value) (ks ps:List Tri) (es:List Ent) (c:Chg) (w:World) (hB:BookAt w vk vp ve ks ps es) (nB:BNames ks ps es) (sB:BSmall ks ps es) (hcf:c.f.size≤1048576) (hcv:c.v.size≤1048576) :
  Calls Tryz.prog 109 #[.agg #[vk,vp,ve],.agg #[.string c.f,.int .i64 c.what,.int .i64 c.num,.string c.v]] w fun e w'=>∃ x y z,e=.returned (.tuple #[.agg #[x,y,z],.int .i64 (takeC ks ps es c)])∧BookNew w.heap.size w' x y z (takeT ks ps es ks) (takeT ks ps es ps) (takeE ks ps es c)∧Below w.heap.size w w':=by
 have HB:Hid (BookAt w vk vp ve ks ps es):=hB;have NB:Hid (BNames ks ps es):=nB;have SB:Hid (BSmall ks ps es):=sB;obtain ⟨⟨ak,ck,rfl,-,-,-⟩,⟨ap,cp,rfl,-,-,-⟩,⟨ae,ce,rfl,-,-,-⟩⟩:=hB;have HFT:Hid (∀ wx:World,Below w.heap.size w wx→Calls Tryz.prog 89 #[.agg #[.slice ak ks.length ck,.slice ap ps.length cp],.agg #[.string c.f,.int .i64 c.what,.int .i64 c.num,.string c.v]] wx fun e w'=>e=.returned (.bool (baseB ks ps&&fitB ks ps c))∧Below wx.heap.size wx w'):=fun wx hx=>specChangeOk_any _ _ ks ps c wx (HB.out.k.keep hx) (HB.out.p.keep hx) NB.out.k NB.out.p hcf hcv;clear nB sB
 go_enter Tryz.func109,Tryz.ntmps109
 have HX0:Hid (Blk3 w _ _ _ _):=Blk3.start w (.cells #[.slice ak ks.length ck,.slice ap ps.length cp,.slice ae es.length ce] 30) (.cells #[.string c.f,.int .i64 c.what,.int .i64 c.num,.string c.v] 76) (.cells #[.slice none 0 0,.slice none 0 0,.slice none 0 0] 30);go_wp2_with fail;refine (cG _ _ _ ks ps es _ (HB.out.keep HX0.out.below) NB.out SB.out).mono ?_;rintro e w1 ⟨rfl,hb1⟩;have HX1:Hid (Blk3 w w1 (.cells #[.slice ak ks.length ck,.slice ap ps.length cp,.slice ae es.length ce] 30) (.cells #[.string c.f,.int .i64 c.what,.int .i64 c.num,.string c.v] 76) (.cells #[.slice none 0 0,.slice none 0 0,.slice none 0 0] 30)):=HX0.out.call hb1;clear HX0 hb1
 obtain ⟨y0,y1,y2⟩:w1.cell? ⟨w.heap.size,0,none⟩=some (.slice ak ks.length ck)∧w1.cell? ⟨w.heap.size,1,none⟩=some (.slice ap ps.length cp)∧w1.cell? ⟨w.heap.size,2,none⟩=some (.slice ae es.length ce):=by simp [World.cell?,HX1.out.b0]
 have hr1:=HX1.out.b2;have hz1:=HX1.out.z
 cases hbb:bookB ks ps es
 ·have HE:Hid (takeC ks ps es c=1∧takeT ks ps es ks=[]∧takeT ks ps es ps=[]∧takeE ks ps es c=[]):=by
   show _∧_∧_∧_
   unfold takeC takeT takeE;rw [hbb];exact ⟨rfl,rfl,rfl,rfl⟩
  clear hbb
  go_wp2_with (refine wpList_store_row rfl 30 _ _ rfl (w.heap.size+1+1) #[.slice none 0 0,.slice none 0 0,.slice none 0 0] rfl rfl 30 _ hr1 (by kernel_rfl) rfl (by simp [Value.oneCell']) ?_)
  exact bodyPost_ret (v:=.tuple #[.agg #[.slice none 0 0,.slice none 0 0,.slice none 0 0],.int .i64 1]) (by simp [results,Tryz.results109,go_sem,cell_setRow_same _ _ _ _ _ _ _ hr1]) rfl ⟨_,_,_,by rw [HE.out.1],by rw [HE.out.2.1,HE.out.2.2.1,HE.out.2.2.2];exact BookNew.none _ _,below_setRow HX1.out.below (by omega) _⟩
 have HBB:Hid (bookB ks ps es=true):=hbb
 have HTK:Hid (takeT ks ps es ks=ks∧takeT ks ps es ps=ps):=by
  show _∧_
  unfold takeT;rw [hbb];exact ⟨rfl,rfl⟩
 clear hbb hr1;have hl12:=book_len HBB.out;have HF5:Hid (∀ e∈es,e.fs.length≤5):=book_fs5 HBB.out;go_wp2_with fail;refine (cg _ _ _ ks ps es _ (HB.out.keep HX1.out.below) SB.out.k SB.out.p SB.out.e SB.out.f).mono ?_;rintro e w2 ⟨x,y,z,rfl,hN2,hb2⟩;obtain ⟨a1,c1,a2,c2,a3,c3,rfl,rfl,rfl⟩:=hN2.slices;have hal:Below w2.heap.size w2 (w2.alloc (.cells #[.slice a1 ks.length c1,.slice a2 ps.length c2,.slice a3 es.length c3] 30)):=(aO);have HX3:Hid (Blk3 w (w2.alloc (.cells #[.slice a1 ks.length c1,.slice a2 ps.length c2,.slice a3 es.length c3] 30)) (.cells #[.slice ak ks.length ck,.slice ap ps.length cp,.slice ae es.length ce] 30) (.cells #[.string c.f,.int .i64 c.what,.int .i64 c.num,.string c.v] 76) (.cells #[.slice none 0 0,.slice none 0 0,.slice none 0 0] 30)):=(HX1.out.call hb2).call hal;have HN3:Hid (BookNew (w1.heap.size+2) (w2.alloc (.cells #[.slice a1 ks.length c1,.slice a2 ps.length c2,.slice a3 es.length c3] 30)) (.slice a1 ks.length c1) (.slice a2 ps.length c2) (.slice a3 es.length c3) ks ps es):=hN2.keep hal;have HT3:Hid ((w2.alloc (.cells #[.slice a1 ks.length c1,.slice a2 ps.length c2,.slice a3 es.length c3] 30)).heap[w2.heap.size]?=some (.cells #[.slice a1 ks.length c1,.slice a2 ps.length c2,.slice a3 es.length c3] 30 (0,0))):=aj w2 _;have hs12:w1.heap.size≤w2.heap.size:=hb2.size
 obtain ⟨x0,x1,x2,x3⟩:(w2.alloc (.cells #[.slice a1 ks.length c1,.slice a2 ps.length c2,.slice a3 es.length c3] 30)).cell? ⟨w.heap.size+1,0,none⟩=some (.string c.f)∧(w2.alloc (.cells #[.slice a1 ks.length c1,.slice a2 ps.length c2,.slice a3 es.length c3] 30)).cell? ⟨w.heap.size+1,1,none⟩=some (.int .i64 c.what)∧(w2.alloc (.cells #[.slice a1 ks.length c1,.slice a2 ps.length c2,.slice a3 es.length c3] 30)).cell? ⟨w.heap.size+1,2,none⟩=some (.int .i64 c.num)∧(w2.alloc (.cells #[.slice a1 ks.length c1,.slice a2 ps.length c2,.slice a3 es.length c3] 30)).cell? ⟨w.heap.size+1,3,none⟩=some (.string c.v):=by simp only [World.cell?,HX3.out.b1];simp
 obtain ⟨q0,q1,q2⟩:(w2.alloc (.cells #[.slice a1 ks.length c1,.slice a2 ps.length c2,.slice a3 es.length c3] 30)).cell? ⟨w.heap.size,0,none⟩=some (.slice ak ks.length ck)∧(w2.alloc (.cells #[.slice a1 ks.length c1,.slice a2 ps.length c2,.slice a3 es.length c3] 30)).cell? ⟨w.heap.size,1,none⟩=some (.slice ap ps.length cp)∧(w2.alloc (.cells #[.slice a1 ks.length c1,.slice a2 ps.length c2,.slice a3 es.length c3] 30)).cell? ⟨w.heap.size,2,none⟩=some (.slice ae es.length ce):=by simp only [World.cell?,HX3.out.b0];simp
 clear hN2 hb2 hal HX1 y0 y1 y2;go_wp2_with fail;refine (HFT.out _ HX3.out.below).mono ?_;rintro e w4 ⟨rfl,hb4⟩;have HX4:Hid (Blk3 w w4 (.cells #[.slice ak ks.length ck,.slice ap ps.length cp,.slice ae es.length ce] 30) (.cells #[.string c.f,.int .i64 c.what,.int .i64 c.num,.string c.v] 76) (.cells #[.slice none 0 0,.slice none 0 0,.slice none 0 0] 30)):=HX3.out.call hb4;have HN4:Hid (BookNew (w1.heap.size+2) w4 (.slice a1 ks.length c1) (.slice a2 ps.length c2) (.slice a3 es.length c3) ks ps es):=HN3.out.keep hb4
 have HT4:Hid (w4.heap[w2.heap.size]?=some (.cells #[.slice a1 ks.length c1,.slice a2 ps.length c2,.slice a3 es.length c3] 30 (0,0))):=(hb4.block _ (by simp)).trans HT3.out
 have HBF:Hid ((baseB ks ps&&fitB ks ps c)=fitB ks ps c):=by
  show _=_
  rw [book_base HBB.out,Bool.true_and]
 rw [HBF.out];clear hb4 HX3 HN3 HT3 x0 x1 x2 x3 q0 q1 q2 HBF
 obtain ⟨x0,x1,x2,x3⟩:w4.cell? ⟨w.heap.size+1,0,none⟩=some (.string c.f)∧w4.cell? ⟨w.heap.size+1,1,none⟩=some (.int .i64 c.what)∧w4.cell? ⟨w.heap.size+1,2,none⟩=some (.int .i64 c.num)∧w4.cell? ⟨w.heap.size+1,3,none⟩=some (.string c.v):=by simp [World.cell?,HX4.out.b1]
 obtain ⟨q0,q1,q2⟩:w4.cell? ⟨w.heap.size,0,none⟩=some (.slice ak ks.length ck)∧w4.cell? ⟨w.heap.size,1,none⟩=some (.slice ap ps.length cp)∧w4.cell? ⟨w.heap.size,2,none⟩=some (.slice ae es.length ce):=by simp [World.cell?,HX4.out.b0]
 obtain ⟨t0,t1,t2⟩:=bi HT4.out;have hr4:=HX4.out.b2
 have hz4:w.heap.size<w4.heap.size:=by have:=HX4.out.z;omega
 cases hff:fitB ks ps c
 ·have HE:Hid (takeC ks ps es c=2∧takeE ks ps es c=es):=by
   show _∧_
   unfold takeC takeE;rw [HBB.out,hff];exact ⟨rfl,rfl⟩
  clear hff
  go_wp2_with (refine wpList_store_row rfl 30 _ _ rfl (w.heap.size+1+1) #[.slice a1 ks.length c1,.slice a2 ps.length c2,.slice a3 es.length c3] rfl rfl 30 _ hr4 (by kernel_rfl) rfl (by simp [Value.oneCell']) ?_)
  exact bodyPost_ret (v:=.tuple #[.agg #[.slice a1 ks.length c1,.slice a2 ps.length c2,.slice a3 es.length c3],.int .i64 2]) (by simp [results,Tryz.results109,go_sem,cell_setRow_same _ _ _ _ _ _ _ hr4]) rfl ⟨_,_,_,by rw [HE.out.1],by rw [HTK.out.1,HTK.out.2,HE.out.2];exact (HN4.out.far (aD w4 (w.heap.size+1+1) _) (by omega)).mono (by omega),below_setRow HX4.out.below (by omega) _⟩
 ·have HFF:Hid (fitB ks ps c=true):=hff
  have HC:Hid (takeC ks ps es c=(bif decide (12<(putE es c.f (fldC c)).length) then 3 else 0)∧takeE ks ps es c=(bif decide (12<(putE es c.f (fldC c)).length) then es else putE es c.f (fldC c))):=by
   show _∧_
   unfold takeC takeE;rw [HBB.out,hff];exact ⟨rfl,rfl⟩
  have HPL:Hid ((putE es c.f (fldC c)).length=if es.any (fun e=>decide (e.name=c.f)) then es.length else es.length+1):=putE_len c.f (fldC c) (bH HBB.out)
  clear hff;go_wp2_with fail;refine (l3At_any _ _ _ es c.f _ (HB.out.keep HX4.out.below).e).mono ?_;rintro e w5 ⟨r,rfl,hr,hb5⟩;have HX5:Hid (Blk3 w w5 (.cells #[.slice ak ks.length ck,.slice ap ps.length cp,.slice ae es.length ce] 30) (.cells #[.string c.f,.int .i64 c.what,.int .i64 c.num,.string c.v] 76) (.cells #[.slice none 0 0,.slice none 0 0,.slice none 0 0] 30)):=HX4.out.call hb5;have HN5:Hid (BookNew (w1.heap.size+2) w5 (.slice a1 ks.length c1) (.slice a2 ps.length c2) (.slice a3 es.length c3) ks ps es):=HN4.out.keep hb5;have HT5:Hid (w5.heap[w2.heap.size]?=some (.cells #[.slice a1 ks.length c1,.slice a2 ps.length c2,.slice a3 es.length c3] 30 (0,0))):=(hb5.block _ (Array.getElem?_eq_some_iff.1 HT4.out).1).trans HT4.out
  have HAN:Hid ((r=-1∧(es.any fun e=>decide (e.name=c.f))=false)∨(0≤r∧(es.any fun e=>decide (e.name=c.f))=true)):=by
   rcases hr with ⟨h1,h2⟩ | ⟨k,h1,h2,h3⟩
   ·refine .inl ⟨h1,?_⟩
    rw [List.any_eq_false];intro e he;have:=List.find?_eq_none.1 h2 e he
    simpa using this
   ·refine .inr ⟨by omega,?_⟩
    rw [List.any_eq_true];have h4:=List.find?_some h3;exact ⟨_,List.mem_of_getElem? (bo h1),h4⟩
  clear hb5 HX4 HN4 HT4 x0 x1 x2 x3 q0 q1 q2 t0 t1 t2 hr4 hz4 hr
  obtain ⟨x0,x1,x2,x3⟩:w5.cell? ⟨w.heap.size+1,0,none⟩=some (.string c.f)∧w5.cell? ⟨w.heap.size+1,1,none⟩=some (.int .i64 c.what)∧w5.cell? ⟨w.heap.size+1,2,none⟩=some (.int .i64 c.num)∧w5.cell? ⟨w.heap.size+1,3,none⟩=some (.string c.v):=by simp [World.cell?,HX5.out.b1]
  obtain ⟨q0,q1,q2⟩:w5.cell? ⟨w.heap.size,0,none⟩=some (.slice ak ks.length ck)∧w5.cell? ⟨w.heap.size,1,none⟩=some (.slice ap ps.length cp)∧w5.cell? ⟨w.heap.size,2,none⟩=some (.slice ae es.length ce):=by simp [World.cell?,HX5.out.b0]
  obtain ⟨t0,t1,t2⟩:=bi HT5.out;have hr5:=HX5.out.b2;have hz5:w.heap.size+2<w5.heap.size:=HX5.out.z
  have hs15:w1.heap.size+2≤w5.heap.size∨w1.heap.size+2 > w5.heap.size:=by omega
  have HGO:Hid (∀ wq:World,Blk3 w wq (.cells #[.slice ak ks.length ck,.slice ap ps.length cp,.slice ae es.length ce] 30) (.cells #[.string c.f,.int .i64 c.what,.int .i64 c.num,.string c.v] 76) (.cells #[.slice none 0 0,.slice none 0 0,.slice none 0 0] 30)→BookNew (w1.heap.size+1) wq (.slice a1 ks.length c1) (.slice a2 ps.length c2) (.slice a3 es.length c3) ks ps es→w1.heap.size+1≤wq.heap.size→Calls Tryz.prog 152 #[.agg #[.slice a1 ks.length c1,.slice a2 ps.length c2,.slice a3 es.length c3],.string c.f,.agg #[.int .i64 c.what,.int .i64 c.num,.string c.v]] wq fun e w'=>∃ z',e=.returned (.agg #[.slice a1 ks.length c1,.slice a2 ps.length c2,z'])∧BookNew (w1.heap.size+1) w' (.slice a1 ks.length c1) (.slice a2 ps.length c2) z' ks ps (putE es c.f (fldC c))∧Blk3 w w' (.cells #[.slice ak ks.length ck,.slice ap ps.length cp,.slice ae es.length ce] 30) (.cells #[.string c.f,.int .i64 c.what,.int .i64 c.num,.string c.v] 76) (.cells #[.slice none 0 0,.slice none 0 0,.slice none 0 0] 30)):=fun wq hX hN hle=>by
   refine (l3Put_any _ _ _ ks ps es c.f (fldC c) (w1.heap.size+1) wq hN hle (bH HBB.out) SB.out.e SB.out.f).mono ?_;rintro e w' ⟨z',rfl,h1,h2,-⟩
   exact ⟨z',rfl,h1,hX.low h2 (by omega)⟩
  have HPS:Hid ((putE es c.f (fldC c)).length≤13∧∀ e∈putE es c.f (fldC c),e.fs.length≤1048576):=by
   refine ⟨?_,putE_small _ _ (fun e he=>by have:=HF5.out e he;omega)⟩
   rw [HPL.out];split <;> omega
  have HNL:Hid (BookNew (w1.heap.size+1) w5 (.slice a1 ks.length c1) (.slice a2 ps.length c2) (.slice a3 es.length c3) ks ps es):=HN5.out.mono (by omega)
  have hle5:w1.heap.size+1≤w5.heap.size:=by have:=(Array.getElem?_eq_some_iff.1 HT5.out).1;omega
  clear hs15
  rcases HAN.out with ⟨hr1,ha⟩ | ⟨hr1,ha⟩
  ·subst hr1
   have HPL2:Hid ((putE es c.f (fldC c)).length=es.length+1):=by show _=_;rw [HPL.out,ha];rfl
   clear ha HAN HPL
   by_cases h12:12≤es.length
   ·have h12':(12:Int)≤(es.length:Int):=by omega
    have HE:Hid (takeC ks ps es c=3∧takeE ks ps es c=es):=by
     have h0:decide (12<(putE es c.f (fldC c)).length)=true:=by rw [HPL2.out];simp;omega
     show _∧_
     rw [HC.out.1,HC.out.2,h0];exact ⟨rfl,rfl⟩
    go_wp2_with (refine wpList_store_row rfl 30 _ _ rfl (w.heap.size+1+1) #[.slice a1 ks.length c1,.slice a2 ps.length c2,.slice a3 es.length c3] rfl rfl 30 _ hr5 (by kernel_rfl) rfl (by simp [Value.oneCell']) ?_)
    exact bodyPost_ret (v:=.tuple #[.agg #[.slice a1 ks.length c1,.slice a2 ps.length c2,.slice a3 es.length c3],.int .i64 3]) (by simp [results,Tryz.results109,go_sem,cell_setRow_same _ _ _ _ _ _ _ hr5]) rfl ⟨_,_,_,by rw [HE.out.1],by rw [HTK.out.1,HTK.out.2,HE.out.2];exact (HN5.out.far (aD w5 (w.heap.size+1+1) _) (by omega)).mono (by omega),below_setRow HX5.out.below (by omega) _⟩
   ·have h12':¬ (12:Int)≤(es.length:Int):=by omega
    have HE:Hid (takeC ks ps es c=0∧takeE ks ps es c=putE es c.f (fldC c)):=by
     have h0:decide (12<(putE es c.f (fldC c)).length)=false:=by rw [HPL2.out];simp;omega
     show _∧_
     rw [HC.out.1,HC.out.2,h0];exact ⟨rfl,rfl⟩
    go_wp2_with fail;refine (HGO.out _ HX5.out HNL.out hle5).mono ?_;rintro e w6 ⟨z',rfl,hN6,hX6⟩;have HX6:Hid (Blk3 w w6 (.cells #[.slice ak ks.length ck,.slice ap ps.length cp,.slice ae es.length ce] 30) (.cells #[.string c.f,.int .i64 c.what,.int .i64 c.num,.string c.v] 76) (.cells #[.slice none 0 0,.slice none 0 0,.slice none 0 0] 30)):=hX6;have HN6:Hid (BookAt w6 (.slice a1 ks.length c1) (.slice a2 ps.length c2) z' ks ps (putE es c.f (fldC c))):=hN6.at;obtain ⟨-,-,-,-,a4,c4,-,-,rfl⟩:=hN6.slices;clear hX6 hN6;go_wp2_with fail
    refine (cg _ _ _ ks ps (putE es c.f (fldC c)) _ HN6.out SB.out.k SB.out.p (by have:=HPS.out.1;omega) HPS.out.2).mono ?_
    rintro e w7 ⟨x,y,z,rfl,hN7,hb7⟩;obtain ⟨b1,d1,b2,d2,b3,d3,rfl,rfl,rfl⟩:=hN7.slices;have HX7:Hid (Blk3 w w7 (.cells #[.slice ak ks.length ck,.slice ap ps.length cp,.slice ae es.length ce] 30) (.cells #[.string c.f,.int .i64 c.what,.int .i64 c.num,.string c.v] 76) (.cells #[.slice none 0 0,.slice none 0 0,.slice none 0 0] 30)):=HX6.out.call hb7;have hz6:=HX6.out.z;have HN7:=au hN7;have hr7:=HX7.out.b2;clear hN7 hb7 HX6 HN6 hr5 HX5 HN5 HT5 HNL;generalize putE es c.f (fldC c)=es' at *
    go_wp2_with (refine wpList_store_row rfl 30 _ _ rfl (w.heap.size+1+1) #[.slice b1 ks.length d1,.slice b2 ps.length d2,.slice b3 es'.length d3] rfl rfl 30 _ hr7 (by kernel_rfl) rfl (by simp [Value.oneCell']) ?_)
    exact bodyPost_ret (v:=.tuple #[.agg #[.slice b1 ks.length d1,.slice b2 ps.length d2,.slice b3 es'.length d3],.int .i64 0]) (by simp [results,Tryz.results109,go_sem,cell_setRow_same _ _ _ _ _ _ _ hr7]) rfl ⟨_,_,_,by rw [HE.out.1],by rw [HTK.out.1,HTK.out.2,HE.out.2];exact (HN7.out.far (aD w7 (w.heap.size+1+1) _) (by omega)).mono (by omega),below_setRow HX7.out.below (by omega) _⟩
  ·have HPL2:Hid ((putE es c.f (fldC c)).length=es.length):=by show _=_;rw [HPL.out,ha];rfl
   have hrn:¬ r<0:=by omega
   clear ha HAN HPL
   have HE:Hid (takeC ks ps es c=0∧takeE ks ps es c=putE es c.f (fldC c)):=by
    have h0:decide (12<(putE es c.f (fldC c)).length)=false:=by rw [HPL2.out];simp;omega
    show _∧_
    rw [HC.out.1,HC.out.2,h0];exact ⟨rfl,rfl⟩
   go_wp2_with fail;refine (HGO.out _ HX5.out HNL.out hle5).mono ?_;rintro e w6 ⟨z',rfl,hN6,hX6⟩;have HX6:Hid (Blk3 w w6 (.cells #[.slice ak ks.length ck,.slice ap ps.length cp,.slice ae es.length ce] 30) (.cells #[.string c.f,.int .i64 c.what,.int .i64 c.num,.string c.v] 76) (.cells #[.slice none 0 0,.slice none 0 0,.slice none 0 0] 30)):=hX6;have HN6:Hid (BookAt w6 (.slice a1 ks.length c1) (.slice a2 ps.length c2) z' ks ps (putE es c.f (fldC c))):=hN6.at;obtain ⟨-,-,-,-,a4,c4,-,-,rfl⟩:=hN6.slices;clear hX6 hN6;go_wp2_with fail
   refine (cg _ _ _ ks ps (putE es c.f (fldC c)) _ HN6.out SB.out.k SB.out.p (by have:=HPS.out.1;omega) HPS.out.2).mono ?_
   rintro e w7 ⟨x,y,z,rfl,hN7,hb7⟩;obtain ⟨b1,d1,b2,d2,b3,d3,rfl,rfl,rfl⟩:=hN7.slices;have HX7:Hid (Blk3 w w7 (.cells #[.slice ak ks.length ck,.slice ap ps.length cp,.slice ae es.length ce] 30) (.cells #[.string c.f,.int .i64 c.what,.int .i64 c.num,.string c.v] 76) (.cells #[.slice none 0 0,.slice none 0 0,.slice none 0 0] 30)):=HX6.out.call hb7;have hz6:=HX6.out.z;have HN7:=au hN7;have hr7:=HX7.out.b2;clear hN7 hb7 HX6 HN6 hr5 HX5 HN5 HT5 HNL;generalize putE es c.f (fldC c)=es' at *
   go_wp2_with (refine wpList_store_row rfl 30 _ _ rfl (w.heap.size+1+1) #[.slice b1 ks.length d1,.slice b2 ps.length d2,.slice b3 es'.length d3] rfl rfl 30 _ hr7 (by kernel_rfl) rfl (by simp [Value.oneCell']) ?_)
   exact bodyPost_ret (v:=.tuple #[.agg #[.slice b1 ks.length d1,.slice b2 ps.length d2,.slice b3 es'.length d3],.int .i64 0]) (by simp [results,Tryz.results109,go_sem,cell_setRow_same _ _ _ _ _ _ _ hr7]) rfl ⟨_,_,_,by rw [HE.out.1],by rw [HTK.out.1,HTK.out.2,HE.out.2];exact (HN7.out.far (aD w7 (w.heap.size+1+1) _) (by omega)).mono (by omega),below_setRow HX7.out.below (by omega) _⟩
open Go.RowKit
theorem putF_lenM (fs:List Fld) (f:Fld):(putF fs f).length≤fs.length+1:=by
 induction fs with
 | nil=>simp [putF]
 | cons g l ih =>
  rw [putF]
  split
  ·simp;omega
  ·split
   ·split <;> simp
   ·simp
theorem putE_fsM {es:List Ent} (n:ByteArray) (f:Fld) (M:Nat) (h:∀ e∈es,e.fs.length≤M):∀ e∈putE es n f,e.fs.length≤M+1:=by
 induction es with
 | nil=>intro e he;simp [putE] at he;subst he;simp
 | cons x es ih =>
  intro e he;rw [putE] at he
  split at he
  ·rcases List.mem_cons.1 he with rfl | he
   ·have:=putF_lenM x.fs f
    have:=h x (by simp)
    show (putF x.fs f).length≤_
    omega
   ·have:=h e (by simp [he]);omega
  ·split at he
   ·rcases List.mem_cons.1 he with rfl | he
    ·have:=h e (by simp);omega
    ·exact ih (fun e he=>h e (by simp [he])) e he
   ·rcases List.mem_cons.1 he with rfl | he
    ·simp
    ·have:=h e he;omega
open Go.RowKit
abbrev Bk:=List Tri×List Tri×List Ent
def stepBk (b:Bk) (c:Chg):Bk:=(takeT b.1 b.2.1 b.2.2 b.1,takeT b.1 b.2.1 b.2.2 b.2.1,takeE b.1 b.2.1 b.2.2 c)
def codeBk (b:Bk) (c:Chg):Int:=takeC b.1 b.2.1 b.2.2 c
def stepsBk (b:Bk) (L:List Chg):Bk:=L.foldl stepBk b
def codesBk:Bk→List Chg→List Int
 | _,[]=>[]
 | b,c::L=>codeBk b c::codesBk (stepBk b c) L
theorem stepsBk_snoc (b:Bk) (L:List Chg) (c:Chg):stepsBk b (L++[c])=stepBk (stepsBk b L) c:=by simp [stepsBk]
theorem codesBk_snoc:∀ (L:List Chg) (b:Bk) (c:Chg),codesBk b (L++[c])=codesBk b L++[codeBk (stepsBk b L) c]
 | [],b,c=>rfl
 | d::L,b,c=>by
  show codeBk b d::codesBk (stepBk b d) (L++[c])=_
  rw [codesBk_snoc L (stepBk b d) c]
  rfl
theorem codesBk_len:∀ (L:List Chg) (b:Bk),(codesBk b L).length=L.length
 | [],b=>rfl
 | c::L,b=>by show (codesBk (stepBk b c) L).length+1=_;rw [codesBk_len L];rfl
theorem take_snocC {L:List Chg} {k:Nat} (h:k<L.length):L.take (k+1)=L.take k++[cat' L k]:=by
 rw [List.take_succ_eq_append_getElem h]
 simp [cat',h]
structure SmB (b:Bk):Prop where
 n:BNames b.1 b.2.1 b.2.2
 s:BSmall b.1 b.2.1 b.2.2
 u:sumN (fun e=>e.fs.length) b.2.2≤1048576
theorem putF_mem {fs:List Fld} {f x:Fld} (h:x∈putF fs f):x=f∨x∈fs:=by
 induction fs with
 | nil=>simp [putF] at h;exact .inl h
 | cons g l ih =>
  rw [putF] at h
  split at h
  ·rcases List.mem_cons.1 h with rfl | h
   ·exact .inr (by simp)
   ·rcases ih h with h | h
    ·exact .inl h
    ·exact .inr (by simp [h])
  ·split at h
   ·split at h
    ·rcases List.mem_cons.1 h with rfl | h
     ·exact .inl rfl
     ·exact .inr (by simp [h])
    ·exact .inr h
   ·rcases List.mem_cons.1 h with rfl | h
    ·exact .inl rfl
    ·exact .inr h
theorem putE_all {es:List Ent} (n:ByteArray) (f:Fld) {P:ByteArray→Prop} {Q:Fld→Prop} (h:∀ e∈es,P e.name∧∀ x∈e.fs,Q x) (hn:P n) (hf:Q f):∀ e∈putE es n f,P e.name∧∀ x∈e.fs,Q x:=by
 induction es with
 | nil=>intro e he;simp [putE] at he;subst he;exact ⟨hn,fun x hx=>by simp at hx;subst hx;exact hf⟩
 | cons y es ih =>
  intro e he;rw [putE] at he
  split at he
  ·rcases List.mem_cons.1 he with rfl | he
   ·refine ⟨(h y (by simp)).1,fun x hx=>?_⟩
    rcases putF_mem hx with rfl | hx
    ·exact hf
    ·exact (h y (by simp)).2 x hx
   ·exact h e (by simp [he])
  ·split at he
   ·rcases List.mem_cons.1 he with rfl | he
    ·exact h e (by simp)
    ·exact ih (fun e he=>h e (by simp [he])) e he
   ·rcases List.mem_cons.1 he with rfl | he
    ·exact ⟨hn,fun x hx=>by simp at hx;subst hx;exact hf⟩
    ·exact h e he
theorem takeE_all (ks ps:List Tri) (es:List Ent) (c:Chg) {P:ByteArray→Prop} {Q:Fld→Prop} (h:∀ e∈es,P e.name∧∀ x∈e.fs,Q x) (hn:P c.f) (hf:Q (fldC c)):∀ e∈takeE ks ps es c,P e.name∧∀ x∈e.fs,Q x:=by
 unfold takeE
 cases bookB ks ps es
 ·intro e he;cases he
 ·cases fitB ks ps c
  ·exact h
  ·cases decide (12<(putE es c.f (fldC c)).length)
   ·exact putE_all c.f (fldC c) h hn hf
   ·exact h
theorem takeT_mem {ks ps:List Tri} {es:List Ent} {l:List Tri} {t:Tri} (h:t∈takeT ks ps es l):t∈l:=by
 unfold takeT at h
 cases hb:bookB ks ps es
 ·rw [hb] at h;cases h
 ·rw [hb] at h;exact h
theorem takeE_fs (ks ps:List Tri) (es:List Ent) (c:Chg) (h:∀ e∈es,e.fs.length≤1048576):∀ e∈takeE ks ps es c,e.fs.length≤1048576:=by
 unfold takeE
 cases hb:bookB ks ps es
 ·intro e he;cases he
 ·cases fitB ks ps c
  ·exact h
  ·cases decide (12<(putE es c.f (fldC c)).length)
   ·intro e he
    have:=putE_fsM c.f (fldC c) 5 (book_fs5 hb) e he
    omega
   ·exact h
theorem takeE_len13 (ks ps:List Tri) (es:List Ent) (c:Chg):(takeE ks ps es c).length≤13∧sumN (fun e=>e.fs.length) (takeE ks ps es c)≤1048576:=by
 have go:∀ l:List Ent,l.length≤13→(∀ e∈l,e.fs.length≤6)→l.length≤13∧sumN (fun e=>e.fs.length) l≤1048576:=fun l h1 h2=>by
  have:=sumN_le_mul (fun e:Ent=>e.fs.length) 6 l h2;have:=Nat.mul_le_mul_right 6 h1
  exact ⟨h1,by omega⟩
 unfold takeE
 cases hb:bookB ks ps es
 ·exact go [] (by simp) (fun e he=>by cases he)
 ·have h12:=book_len hb
  have h5:=book_fs5 hb
  have hes:=go es (by omega) (fun e he=>by have:=h5 e he;omega)
  have hput:=go (putE es c.f (fldC c)) (by rw [putE_len c.f (fldC c) (bH hb)];split <;> omega) (fun e he=>putE_fsM c.f (fldC c) 5 h5 e he)
  cases fitB ks ps c
  ·exact hes
  ·cases decide (12<(putE es c.f (fldC c)).length)
   ·exact hput
   ·exact hes
theorem takeT_len (ks ps:List Tri) (es:List Ent) (l:List Tri):(takeT ks ps es l).length≤l.length:=by
 unfold takeT
 cases bookB ks ps es
 ·simp
 ·exact Nat.le_refl _
theorem SmB.step {b:Bk} {c:Chg} (h:SmB b) (hf:c.f.size≤1048576) (hv:c.v.size≤1048576):SmB (stepBk b c):=by
 obtain ⟨ks,ps,es⟩:=b;have h13:=takeE_len13 ks ps es c;have hall:=takeE_all ks ps es c (P:=fun n=>n.size≤1048576) (Q:=fun f=>f.v.size≤1048576) (fun e he=>⟨h.s.n e he,h.s.v e he⟩) hf hv
 have hall2:=takeE_all ks ps es c (P:=fun n=>n.size≤maxLen) (Q:=fun f=>f.v.size≤maxLen) (fun e he=>⟨(h.n.e e he).1,(h.n.e e he).2⟩) (by unfold maxLen;omega) (by show c.v.size≤_;unfold maxLen;omega)
 refine ⟨⟨fun t ht=>h.n.k t (takeT_mem ht),fun t ht=>h.n.p t (takeT_mem ht),fun e he=>⟨(hall2 e he).1,(hall2 e he).2⟩⟩,⟨Nat.le_trans (takeT_len _ _ _ _) h.s.k,Nat.le_trans (takeT_len _ _ _ _) h.s.p,?_,takeE_fs ks ps es c h.s.f,fun e he=>(hall e he).1,fun e he=>(hall e he).2⟩,h13.2⟩
 show (takeE ks ps es c).length≤1048576
 omega
theorem SmB.steps {L:List Chg}:∀ {b:Bk},SmB b→(∀ c∈L,c.f.size≤1048576∧c.v.size≤1048576)→SmB (stepsBk b L):=by
 induction L with
 | nil=>intro b h _;exact h
 | cons c L ih=>intro b h hc;exact ih (h.step (hc c (by simp)).1 (hc c (by simp)).2) (fun d hd=>hc d (by simp [hd]))
open Go.RowKit
theorem book_of {ks ps:List Tri} {es:List Ent} (hb:baseB ks ps=true) (hl:es.length≤12) (hnm:∀ e∈es,nameB e.name=true) (hp:es.Pairwise fun a b=>blS a.name b.name=true) (hf:∀ e∈es,fieldsB ks ps e.name e.fs=true):bookB ks ps es=true:=by
 unfold bookB namesE;have eE:∀ i,i<es.length→eat es i∈es:=fun i hi=>List.mem_of_getElem? (bo hi);rw [hb,decide_eq_true hl,Bool.true_and,Bool.true_and,Bool.and_eq_true];refine ⟨aY fun i hi=>?_,aY fun i hi=>hf _ (eE i hi)⟩;rw [hnm _ (eE i hi),Bool.true_and];unfold ascE
 cases i with
 | zero=>rfl
 | succ i =>
  have h:=List.pairwise_iff_getElem.1 hp i (i+1) (by omega) hi (by omega)
  have e0:eat es i=es[i]:=by simp [eat,show i<es.length by omega]
  have e1:eat es (i+1)=es[i+1]:=by simp [eat,hi]
  rw [Nat.add_sub_cancel,e0,e1]
  simp only [geB]
  unfold blS at h;rw [h]
  simp
theorem fields_of {ks ps:List Tri} {n:ByteArray} {l:List Fld} (hne:l≠[]) (hs:l.Pairwise fun a b=>a.what<b.what) (hf:∀ f∈l,fitB ks ps (chgOf n f)=true):fieldsB ks ps n l=true:=by
 unfold fieldsB;rw [Bool.and_eq_true];refine ⟨aY fun i hi=>?_,decide_eq_true (List.length_pos_iff.2 hne)⟩;rw [hf _ (List.mem_of_getElem? (bE hi)),Bool.and_true];unfold ascF
 cases i with
 | zero=>rfl
 | succ i =>
  have h:=List.pairwise_iff_getElem.1 hs i (i+1) (by omega) hi (by omega)
  have e0:fat l i=l[i]:=by simp [fat,show i<l.length by omega]
  have e1:fat l (i+1)=l[i+1]:=by simp [fat,hi]
  rw [Nat.add_sub_cancel,e0,e1]
  simp
  omega
theorem putF_sorted {l:List Fld} (f:Fld) (h:l.Pairwise fun a b=>a.what<b.what):(putF l f).Pairwise fun a b=>a.what<b.what:=by
 induction l with
 | nil=>simp [putF]
 | cons g l ih =>
  have h':=List.pairwise_cons.1 h;rw [putF]
  split
  ·rename_i hlt
   refine List.pairwise_cons.2 ⟨fun x hx=>?_,ih h'.2⟩
   rcases putF_mem hx with rfl | hx
   ·exact hlt
   ·exact h'.1 x hx
  ·split
   ·rename_i he
    split
    ·exact List.pairwise_cons.2 ⟨fun x hx=>by rw [← he];exact h'.1 x hx,h'.2⟩
    ·exact h
   ·rename_i h1 h2
    refine List.pairwise_cons.2 ⟨fun x hx=>?_,h⟩
    rcases List.mem_cons.1 hx with rfl | hx
    ·omega
    ·have:=h'.1 x hx
     omega
theorem putE_each {es:List Ent} (n:ByteArray) (f:Fld):∀ e∈putE es n f,e∈es∨e=⟨n,[f]⟩ ∨ ∃ e'∈es,e'.name=n∧e=⟨n,putF e'.fs f⟩:=by
 induction es with
 | nil=>intro e he;simp [putE] at he;exact .inr (.inl he)
 | cons y es ih =>
  intro e he;rw [putE] at he
  split at he
  ·rename_i hy
   rcases List.mem_cons.1 he with rfl | he
   ·exact .inr (.inr ⟨y,by simp,hy,by rw [hy]⟩)
   ·exact .inl (by simp [he])
  ·split at he
   ·rcases List.mem_cons.1 he with rfl | he
    ·exact .inl (by simp)
    ·rcases ih e he with h | h | ⟨e',h1,h2,h3⟩
     ·exact .inl (by simp [h])
     ·exact .inr (.inl h)
     ·exact .inr (.inr ⟨e',by simp [h1],h2,h3⟩)
   ·rcases List.mem_cons.1 he with rfl | he
    ·exact .inr (.inl rfl)
    ·exact .inl he
theorem book_nm {ks ps:List Tri} {es:List Ent} (h:bookB ks ps es=true) {e:Ent} (he:e∈es):nameB e.name=true:=by
 simp only [bookB,namesE,Bool.and_eq_true] at h
 obtain ⟨i,hi,rfl⟩:=List.getElem_of_mem he;have h1:=bF h.2.1.2 i hi
 simp only [Bool.and_eq_true] at h1
 have e0:eat es i=es[i]:=by simp [eat,hi]
 rw [e0] at h1;exact h1.1
theorem book_put {ks ps:List Tri} {es:List Ent} {c:Chg} (h:bookB ks ps es=true) (hc:fitB ks ps c=true) (hl:(putE es c.f (fldC c)).length≤12):bookB ks ps (putE es c.f (fldC c))=true:=by
 have hcn:nameB c.f=true:=by
  simp only [fitB,Bool.and_eq_true] at hc
  exact hc.1
 refine book_of (book_base h) hl (fun e he=>?_) (putE_sorted _ _ (bH h)) (fun e he=>?_)
 ·rcases putE_each _ _ e he with h1 | rfl | ⟨e',h1,h2,rfl⟩
  ·exact book_nm h h1
  ·exact hcn
  ·exact hcn
 ·rcases putE_each _ _ e he with h1 | rfl | ⟨e',h1,h2,rfl⟩
  ·exact cC h h1
  ·exact fields_of (by simp) (by simp) (fun f hf=>by simp at hf;subst hf;exact hc)
  ·have h3:=cC h h1
   refine fields_of (putF_ne _ _) (putF_sorted _ (fields_sorted h3)) (fun f hf=>?_)
   rcases putF_mem hf with rfl | hf
   ·exact hc
   ·rw [← h2];exact fields_fit h3 hf
theorem take_book {ks ps:List Tri} {es:List Ent} (c:Chg) (h:bookB ks ps es=true):bookB ks ps (takeE ks ps es c)=true:=by
 unfold takeE;rw [h]
 simp only [cond_true]
 cases hf:fitB ks ps c
 ·exact h
 ·simp only [cond_true]
  by_cases hl:12<(putE es c.f (fldC c)).length
  ·simp only [decide_eq_true hl,cond_true];exact h
  ·simp only [decide_eq_false hl,cond_false];exact book_put h hf (by omega)
theorem takeT_ok {ks ps:List Tri} {es:List Ent} (h:bookB ks ps es=true) (l:List Tri):takeT ks ps es l=l:=by
 unfold takeT;rw [h]
 rfl
theorem steps_ok {ks ps:List Tri}:∀ (L:List Chg) {es:List Ent},bookB ks ps es=true→∃ es',stepsBk (ks,ps,es) L=(ks,ps,es')∧bookB ks ps es'=true
 | [],es,h=>⟨es,rfl,h⟩
 | c::L,es,h=>by
  obtain ⟨es',h1,h2⟩:=steps_ok L (take_book c h);refine ⟨es',?_,h2⟩
  show stepsBk (stepBk (ks,ps,es) c) L=_
  rw [show stepBk (ks,ps,es) c=(ks,ps,takeE ks ps es c) by simp only [stepBk,takeT_ok h]]
  exact h1
open Go.RowKit
def numW (s:ByteArray):Int:=bif decB s then (numTo s s.size:Int) else -1
def triW (ws:List ByteArray):Tri:=⟨wat ws 1,numW (wat ws 2),numW (wat ws 3)⟩
def insT (l:List Tri) (i:Nat) (t:Tri):List Tri:=l.take i++t::l.drop i
def kindC (ks:List Tri) (ws:List ByteArray):Int :=
 bif decide (ws.length=4)&&(nameB (triW ws).s&&paceB (triW ws)) then
  (bif hasB ks (triW ws).s then 4 else bif decide (6≤ks.length) then 6 else 0)
 else 3
def anyCell (ps:List Tri) (t:Tri):Bool:=ps.any fun p=>decide (p.x=t.x)&&decide (p.y=t.y)
def pointC (ps:List Tri) (ws:List ByteArray):Int :=
 bif decide (ws.length=4)&&(nameB (triW ws).s&&insideB (triW ws)) then
  (bif hasB ps (triW ws).s then 4 else bif anyCell ps (triW ws) then 5 else bif decide (16≤ps.length) then 6 else 0)
 else 3
def setC (b:Bk) (r:Chg×Bool):Int :=
 bif r.2 then (if takeC b.1 b.2.1 b.2.2 r.1=2 then 7 else if takeC b.1 b.2.1 b.2.2 r.1=3 then 6 else 0) else 3
def kindS:ByteArray:=⟨#[107,105,110,100]⟩
def pointS:ByteArray:=⟨#[112,111,105,110,116]⟩
def setS:ByteArray:=⟨#[115,101,116]⟩
def lineC (rd:ByteArray→Chg×Bool) (b:Bk) (l:ByteArray):Int :=
 if wat (cutW l) 0=kindS then kindC b.1 (cutW l) else if wat (cutW l) 0=pointS then pointC b.2.1 (cutW l) else if wat (cutW l) 0=setS then setC b (rd l) else 2
def lineB (rd:ByteArray→Chg×Bool) (b:Bk) (l:ByteArray):Bk :=
 if wat (cutW l) 0=kindS then (insT b.1 (plc b.1 (triW (cutW l)).s) (triW (cutW l)),b.2.1,b.2.2)
 else if wat (cutW l) 0=pointS then (b.1,insT b.2.1 (plc b.2.1 (triW (cutW l)).s) (triW (cutW l)),b.2.2)
 else (takeT b.1 b.2.1 b.2.2 b.1,takeT b.1 b.2.1 b.2.2 b.2.1,takeE b.1 b.2.1 b.2.2 (rd l).1)
def parseL (rd:ByteArray→Chg×Bool):Bk→Nat→List ByteArray→Bk×Nat×Int
 | b,_,[]=>(b,0,0)
 | b,i,l::r=>if lineC rd b l=0 then parseL rd (lineB rd b l) (i+1) r else (([],[],[]),i+1,lineC rd b l)
theorem parseL_hit {rd:ByteArray→Chg×Bool} {b:Bk} {i:Nat} {l:ByteArray} {r:List ByteArray} (h:lineC rd b l=0):parseL rd b i (l::r)=parseL rd (lineB rd b l) (i+1) r:=by
 rw [parseL,if_pos h]
theorem parseL_bad {rd:ByteArray→Chg×Bool} {b:Bk} {i:Nat} {l:ByteArray} {r:List ByteArray} (h:lineC rd b l≠0):parseL rd b i (l::r)=(([],[],[]),i+1,lineC rd b l):=by
 rw [parseL,if_neg h]
open Go.RowKit
theorem bT {l:List Tri} {i:Nat} (h:i<l.length):at' l i=l[i]:=by simp [at',h]
theorem names_iff (l:List Tri) (m:Nat):namesB l m=true ↔ l.length≤m∧(∀ t∈l,nameB t.s=true)∧l.Pairwise fun a b=>blS a.s b.s=true:=by
 constructor
 ·intro h
  have ha:=names_asc h;unfold namesB at h
  simp only [Bool.and_eq_true,decide_eq_true_eq,allB,List.all_eq_true,List.mem_range] at h
  refine ⟨h.1,fun t ht=>?_,?_⟩
  ·obtain ⟨i,hi,rfl⟩:=List.getElem_of_mem ht
   have:=(h.2 i hi).1
   rwa [bT hi] at this
  ·rw [List.pairwise_iff_getElem]
   intro i j hi hj hij;have:=asc_lt ha i j hij hj
   rwa [bT hi,bT hj] at this
 ·rintro ⟨h1,h2,h3⟩
  unfold namesB
  simp only [Bool.and_eq_true,decide_eq_true_eq,allB,List.all_eq_true,List.mem_range]
  refine ⟨h1,fun i hi=>⟨by rw [bT hi];exact h2 _ (List.getElem_mem hi),?_⟩⟩
  unfold ascB
  by_cases h0:0<i
  ·have:=List.pairwise_iff_getElem.1 h3 (i-1) i (by omega) hi (by omega)
   rw [bT hi,bT (by omega),geB_bl,this]
   simp
  ·simp [h0]
theorem kinds_iff (l:List Tri):kindsB l=true ↔ l.length≤6∧(∀ t∈l,nameB t.s=true∧paceB t=true)∧l.Pairwise fun a b=>blS a.s b.s=true:=by
 unfold kindsB;rw [Bool.and_eq_true,names_iff]
 simp only [allB,List.all_eq_true,List.mem_range]
 constructor
 ·rintro ⟨⟨h1,h2,h3⟩,h4⟩
  refine ⟨h1,fun t ht=>⟨h2 t ht,?_⟩,h3⟩;obtain ⟨i,hi,rfl⟩:=List.getElem_of_mem ht;have:=h4 i hi
  rwa [bT hi] at this
 ·rintro ⟨h1,h2,h3⟩
  exact ⟨⟨h1,fun t ht=>(h2 t ht).1,h3⟩,fun i hi=>by rw [bT hi];exact (h2 _ (List.getElem_mem hi)).2⟩
theorem sameB_comm (a b:Tri):sameB a b=sameB b a:=by unfold sameB;rw [Bool.eq_iff_iff];simp;constructor <;> (rintro ⟨h,k⟩;exact ⟨h.symm,k.symm⟩)
theorem cv (l:List Tri):pointsB l=true ↔ l.length≤16∧(∀ t∈l,nameB t.s=true∧insideB t=true)∧(l.Pairwise fun a b=>blS a.s b.s=true)∧l.Pairwise fun a b=>sameB a b=false:=by
 unfold pointsB;rw [Bool.and_eq_true,names_iff]
 simp only [takenB,allB,List.all_eq_true,List.mem_range,Bool.and_eq_true,Bool.not_not]
 constructor
 ·rintro ⟨⟨h1,h2,h3⟩,h4⟩
  refine ⟨h1,fun t ht=>⟨h2 t ht,?_⟩,h3,?_⟩
  ·obtain ⟨i,hi,rfl⟩:=List.getElem_of_mem ht
   have:=(h4 i hi).1
   rwa [bT hi] at this
  ·rw [List.pairwise_iff_getElem]
   intro i j hi hj hij;have:=(h4 j hj).2 i hij;rw [bT hi,bT hj] at this
   simpa using this
 ·rintro ⟨h1,h2,h3,h5⟩
  refine ⟨⟨h1,fun t ht=>(h2 t ht).1,h3⟩,fun i hi=>⟨by rw [bT hi];exact (h2 _ (List.getElem_mem hi)).2,fun j hj=>?_⟩⟩
  have:=List.pairwise_iff_getElem.1 h5 j i (by omega) hi hj
  rw [bT hi,bT (by omega),this]
  rfl
theorem mem_ins {l:List Tri} {i:Nat} {t y:Tri}:y∈insT l i t ↔ y=t∨y∈l:=by
 have:y∈l ↔ y∈l.take i∨y∈l.drop i:=by rw [← List.mem_append,List.take_append_drop]
 unfold insT;rw [this]
 simp only [List.mem_append,List.mem_cons]
 constructor
 ·rintro (h | h | h) <;> simp [h]
 ·rintro (h | h | h) <;> simp [h]
theorem ins_perm (l:List Tri) (i:Nat) (t:Tri):(insT l i t).Perm (t::l):=by
 unfold insT;refine List.perm_middle.trans ?_;rw [List.take_append_drop]
theorem ins_len (l:List Tri) (i:Nat) (t:Tri):(insT l i t).length=l.length+1:=(ins_perm l i t).length_eq
theorem plc_le (l:List Tri) (v:ByteArray):plc l v≤l.length:=List.findIdx_le_length
theorem ins_cons (x t:Tri) (r:List Tri) (v:ByteArray):insT (x::r) (plc (x::r) v) t=if geB x.s v=true then t::x::r else x::insT r (plc r v) t:=by
 unfold insT plc;rw [List.findIdx_cons]
 cases geB x.s v <;> simp
theorem mem_names {l:List Tri} {v:ByteArray}:memB l v=true ↔ ∃ t∈l,t.s=v:=by
 constructor
 ·intro h
  unfold memB at h
  simp only [allB,Bool.not_eq_true',List.all_eq_false,List.mem_range] at h
  obtain ⟨i,hi,h⟩:=h;rw [bT hi] at h
  exact ⟨_,List.getElem_mem hi,by simpa using h⟩
 ·rintro ⟨t,ht,rfl⟩
  obtain ⟨i,hi,rfl⟩:=List.getElem_of_mem ht
  exact memB_true hi (by rw [bT hi])
theorem sorted_asc {l:List Tri} (h:l.Pairwise fun a b=>blS a.s b.s=true):∀ i,i<l.length→ascB l i=true:=fun i hi=>by
 unfold ascB
 by_cases h0:0<i
 ·have:=List.pairwise_iff_getElem.1 h (i-1) i (by omega) hi (by omega)
  rw [bT hi,bT (by omega),geB_bl,this]
  simp
 ·simp [h0]
theorem has_iff {l:List Tri} (h:l.Pairwise fun a b=>blS a.s b.s=true) (v:ByteArray):hasB l v=true ↔ ∃ t∈l,t.s=v:=by
 rw [has_mem (sorted_asc h),mem_names]
theorem ins_sorted:∀ {l:List Tri} {t:Tri},(l.Pairwise fun a b=>blS a.s b.s=true)→(∀ x∈l,x.s≠t.s)→(insT l (plc l t.s) t).Pairwise fun a b=>blS a.s b.s=true
 | [],t,_,_=>by simp [insT,plc]
 | x::r,t,h,hn=>by
  rw [ins_cons];have hx:=List.pairwise_cons.1 h
  split
  ·rename_i hg
   have h1:blS t.s x.s=true:=by
    rw [geB_bl] at hg
    cases h2:blS t.s x.s
    ·exact absurd (blS_total (by simpa using hg) h2) (hn x (by simp))
    ·rfl
   refine List.pairwise_cons.2 ⟨fun y hy=>?_,h⟩
   rcases List.mem_cons.1 hy with rfl | hy
   ·exact h1
   ·exact blS_trans h1 (hx.1 y hy)
  ·rename_i hg
   refine List.pairwise_cons.2 ⟨fun y hy=>?_,ins_sorted hx.2 (fun y hy=>hn y (by simp [hy]))⟩
   rcases mem_ins.1 hy with rfl | hy
   ·rw [geB_bl] at hg
    simpa using hg
   ·exact hx.1 y hy
theorem any_taken (l:List Tri) (t:Tri):takenB l l.length t=anyCell l t:=by
 rw [Bool.eq_iff_iff];unfold takenB anyCell
 simp only [allB,Bool.not_eq_true',List.all_eq_false,List.mem_range,List.any_eq_true]
 constructor
 ·rintro ⟨i,hi,h⟩
  rw [bT hi] at h;refine ⟨_,List.getElem_mem hi,?_⟩
  simpa [sameB] using h
 ·rintro ⟨p,hp,h⟩
  obtain ⟨i,hi,rfl⟩:=List.getElem_of_mem hp;refine ⟨i,hi,?_⟩;rw [bT hi]
  simpa [sameB] using h
theorem kindC_zero {ks:List Tri} {ws:List ByteArray} (h:kindC ks ws=0):ws.length=4∧nameB (triW ws).s=true∧paceB (triW ws)=true∧hasB ks (triW ws).s=false∧ks.length<6:=by
 unfold kindC at h
 cases h1:(decide (ws.length=4)&&(nameB (triW ws).s&&paceB (triW ws)))
 ·rw [h1] at h;simp at h
 ·rw [h1] at h
  simp only [Bool.and_eq_true,decide_eq_true_eq] at h1
  cases h2:hasB ks (triW ws).s
  ·rw [h2] at h
   cases h3:decide (6≤ks.length)
   ·exact ⟨h1.1,h1.2.1,h1.2.2,rfl,by simpa using h3⟩
   ·rw [h3] at h;simp at h
  ·rw [h2] at h;simp at h
theorem pointC_zero {ps:List Tri} {ws:List ByteArray} (h:pointC ps ws=0):ws.length=4∧nameB (triW ws).s=true∧insideB (triW ws)=true∧hasB ps (triW ws).s=false∧anyCell ps (triW ws)=false∧ps.length<16:=by
 unfold pointC at h
 cases h1:(decide (ws.length=4)&&(nameB (triW ws).s&&insideB (triW ws)))
 ·rw [h1] at h;simp at h
 ·rw [h1] at h
  simp only [Bool.and_eq_true,decide_eq_true_eq] at h1
  cases h2:hasB ps (triW ws).s
  ·rw [h2] at h
   cases h4:anyCell ps (triW ws)
   ·rw [h4] at h
    cases h3:decide (16≤ps.length)
    ·exact ⟨h1.1,h1.2.1,h1.2.2,rfl,rfl,by simpa using h3⟩
    ·rw [h3] at h;simp at h
   ·rw [h4] at h;simp at h
  ·rw [h2] at h;simp at h
theorem kinds_ins {ks:List Tri} {t:Tri} (hk:kindsB ks=true) (hl:ks.length<6) (hn:nameB t.s=true) (hp:paceB t=true) (hh:hasB ks t.s=false):kindsB (insT ks (plc ks t.s) t)=true:=by
 obtain ⟨h1,h2,h3⟩:=(kinds_iff ks).1 hk
 have hno:∀ x∈ks,x.s≠t.s:=fun x hx e=>by
  rw [(has_iff h3 _).2 ⟨x,hx,e⟩] at hh
  cases hh
 refine (kinds_iff _).2 ⟨by rw [ins_len];omega,fun y hy=>?_,ins_sorted h3 hno⟩
 rcases mem_ins.1 hy with rfl | hy
 ·exact ⟨hn,hp⟩
 ·exact h2 y hy
theorem points_ins {ps:List Tri} {t:Tri} (hk:pointsB ps=true) (hl:ps.length<16) (hn:nameB t.s=true) (hp:insideB t=true) (hh:hasB ps t.s=false) (ht:anyCell ps t=false):pointsB (insT ps (plc ps t.s) t)=true:=by
 obtain ⟨h1,h2,h3,h4⟩:=(cv ps).1 hk
 have hno:∀ x∈ps,x.s≠t.s:=fun x hx e=>by
  rw [(has_iff h3 _).2 ⟨x,hx,e⟩] at hh
  cases hh
 refine (cv _).2 ⟨by rw [ins_len];omega,fun y hy=>?_,ins_sorted h3 hno,?_⟩
 ·rcases mem_ins.1 hy with rfl | hy
  ·exact ⟨hn,hp⟩
  ·exact h2 y hy
 ·refine ((ins_perm ps _ t).pairwise_iff (fun {a b} h=>by rw [sameB_comm];exact h)).2 (List.pairwise_cons.2 ⟨fun y hy=>?_,h4⟩)
  have:=List.any_eq_false.1 ht y hy;rw [sameB_comm]
  simpa [sameB] using this
theorem named_kind (ws:List ByteArray) (n:ByteArray→Int) (hn:∀ x,n x=bif decB x then (numTo x x.size:Int) else 0) (M:Nat) (hM:∀ i,i<ws.length→(wat ws i).size≤M):∃ (t:Tri) (ok:Bool),(bif decide (ws.length=4) then Value.tuple #[.string (wat ws 1),.int .i64 (n (wat ws 2)),.int .i64 (n (wat ws 3)),.bool (decB (wat ws 2)&&decB (wat ws 3))] else .tuple #[.string ⟨#[]⟩,.int .i64 0,.int .i64 0,.bool false])=.tuple #[.string t.s,.int .i64 t.x,.int .i64 t.y,.bool ok]∧t.s.size≤M ∧
  (ok&&kindsB [t])=(decide (ws.length=4)&&(nameB (triW ws).s&&paceB (triW ws)))∧(ok&&pointsB [t])=(decide (ws.length=4)&&(nameB (triW ws).s&&insideB (triW ws)))∧(ok=true→t=triW ws):=by
 by_cases h4:ws.length=4
 ·refine ⟨⟨wat ws 1,n (wat ws 2),n (wat ws 3)⟩,(decB (wat ws 2)&&decB (wat ws 3)),by rw [decide_eq_true h4];rfl,hM 1 (by omega),?_,?_,?_⟩
  all_goals
   have e2:=hn (wat ws 2);have e3:=hn (wat ws 3)
  ·rw [decide_eq_true h4,Bool.true_and]
   have hk1:kindsB [(⟨wat ws 1,n (wat ws 2),n (wat ws 3)⟩:Tri)]=(nameB (wat ws 1)&&paceB ⟨wat ws 1,n (wat ws 2),n (wat ws 3)⟩):=by
    rw [Bool.eq_iff_iff,kinds_iff]
    simp
   rw [hk1];unfold triW numW paceB
   cases h2:decB (wat ws 2) <;> cases h3:decB (wat ws 3) <;> rw [h2] at e2 <;> rw [h3] at e3 <;> simp only [e2,e3,cond_true,cond_false,Bool.true_and,Bool.false_and,Bool.and_false]
   ·rw [eq_comm,Bool.and_eq_false_iff];right;simp
   ·rw [eq_comm,Bool.and_eq_false_iff];right;simp
   ·rw [eq_comm,Bool.and_eq_false_iff];right;simp;omega
  ·rw [decide_eq_true h4,Bool.true_and]
   have hk1:pointsB [(⟨wat ws 1,n (wat ws 2),n (wat ws 3)⟩:Tri)]=(nameB (wat ws 1)&&insideB ⟨wat ws 1,n (wat ws 2),n (wat ws 3)⟩):=by
    rw [Bool.eq_iff_iff,cv]
    simp
   rw [hk1];unfold triW numW insideB inB
   cases h2:decB (wat ws 2) <;> cases h3:decB (wat ws 3) <;> rw [h2] at e2 <;> rw [h3] at e3 <;> simp only [e2,e3,cond_true,cond_false,Bool.true_and,Bool.false_and,Bool.and_false]
   ·rw [eq_comm,Bool.and_eq_false_iff];right;simp
   ·rw [eq_comm,Bool.and_eq_false_iff];right;simp
   ·rw [eq_comm,Bool.and_eq_false_iff];right;simp
  ·intro h
   rw [Bool.and_eq_true] at h;unfold triW numW;rw [h.1,h.2,cond_true,cond_true];rw [h.1,cond_true] at e2;rw [h.2,cond_true] at e3;rw [e2,e3]
 ·refine ⟨⟨⟨#[]⟩,0,0⟩,false,by rw [decide_eq_false h4];rfl,Nat.zero_le _,?_,?_,?_⟩
  ·rw [decide_eq_false h4];rfl
  ·rw [decide_eq_false h4];rfl
  ·intro h;cases h
open Go.RowKit
structure Gd (b:Bk):Prop where
 sm:SmB b
 k:kindsB b.1=true
 p:pointsB b.2.1=true
theorem Gd.none:Gd ([],[],[]) :=
 ⟨⟨⟨(fun t h=>by cases h),(fun t h=>by cases h),(fun e h=>by cases h)⟩,⟨by simp,by simp,by simp,(fun e h=>by cases h),(fun e h=>by cases h),(fun e h=>by cases h)⟩,by simp [sumN]⟩,(kinds_iff []).2 ⟨by simp,(fun t h=>by cases h),List.Pairwise.nil⟩,(cv []).2 ⟨by simp,(fun t h=>by cases h),List.Pairwise.nil,List.Pairwise.nil⟩⟩
theorem Gd.klen {b:Bk} (h:Gd b):b.1.length≤6:=((kinds_iff _).1 h.k).1
theorem Gd.plen {b:Bk} (h:Gd b):b.2.1.length≤16:=((cv _).1 h.p).1
theorem Gd.insK {ks ps:List Tri} {es:List Ent} {t:Tri} (h:Gd (ks,ps,es)) (hl:ks.length<6) (hn:nameB t.s=true) (hp:paceB t=true) (hh:hasB ks t.s=false) (hs:t.s.size≤1048576):Gd (insT ks (plc ks t.s) t,ps,es):=by
 obtain ⟨⟨⟨n1,n2,n3⟩,⟨s1,s2,s3,s4,s5,s6⟩,u⟩,k,p⟩:=h;refine ⟨⟨⟨fun x hx=>?_,n2,n3⟩,⟨?_,s2,s3,s4,s5,s6⟩,u⟩,kinds_ins k hl hn hp hh,p⟩
 ·rcases mem_ins.1 hx with rfl | hx
  ·unfold maxLen;omega
  ·exact n1 x hx
 ·show (insT ks (plc ks t.s) t).length≤1048576
  rw [ins_len];omega
theorem Gd.insP {ks ps:List Tri} {es:List Ent} {t:Tri} (h:Gd (ks,ps,es)) (hl:ps.length<16) (hn:nameB t.s=true) (hp:insideB t=true) (hh:hasB ps t.s=false) (ht:anyCell ps t=false) (hs:t.s.size≤1048576):Gd (ks,insT ps (plc ps t.s) t,es):=by
 obtain ⟨⟨⟨n1,n2,n3⟩,⟨s1,s2,s3,s4,s5,s6⟩,u⟩,k,p⟩:=h;refine ⟨⟨⟨n1,fun x hx=>?_,n3⟩,⟨s1,?_,s3,s4,s5,s6⟩,u⟩,k,points_ins p hl hn hp hh ht⟩
 ·rcases mem_ins.1 hx with rfl | hx
  ·unfold maxLen;omega
  ·exact n2 x hx
 ·show (insT ps (plc ps t.s) t).length≤1048576
  rw [ins_len];omega
theorem Gd.take {ks ps:List Tri} {es:List Ent} {c:Chg} (h:Gd (ks,ps,es)) (hf:c.f.size≤1048576) (hv:c.v.size≤1048576):Gd (takeT ks ps es ks,takeT ks ps es ps,takeE ks ps es c):=by
 refine ⟨h.sm.step hf hv,?_,?_⟩
 ·show kindsB (takeT ks ps es ks)=true
  unfold takeT
  cases bookB ks ps es
  ·exact Gd.none.k
  ·exact h.k
 ·show pointsB (takeT ks ps es ps)=true
  unfold takeT
  cases bookB ks ps es
  ·exact Gd.none.p
  ·exact h.p
theorem Gd.line {rd:ByteArray→Chg×Bool} {b:Bk} {l:ByteArray} (h:Gd b) (hl:l.size≤1048576) (hr:(rd l).1.f.size≤l.size∧(rd l).1.v.size≤l.size) (h0:lineC rd b l=0):Gd (lineB rd b l):=by
 obtain ⟨ks,ps,es⟩:=b;unfold lineC at h0;unfold lineB;have hz:∀ i,i<(cutW l).length→(wat (cutW l) i).size≤1048576:=fun i hi=>Nat.le_trans (wat_size hi) hl
 by_cases h1:wat (cutW l) 0=kindS
 ·rw [if_pos h1] at h0 ⊢
  obtain ⟨e1,e2,e3,e4,e5⟩:=kindC_zero h0
  exact h.insK e5 e2 e3 e4 (hz 1 (by omega))
 ·rw [if_neg h1] at h0 ⊢
  by_cases h2:wat (cutW l) 0=pointS
  ·rw [if_pos h2] at h0 ⊢
   obtain ⟨e1,e2,e3,e4,e5,e6⟩:=pointC_zero h0
   exact h.insP e6 e2 e3 e4 e5 (hz 1 (by omega))
  ·rw [if_neg h2] at h0 ⊢
   exact h.take (by omega) (by omega)
theorem BookNew.kinds {lo n:Nat} {w w':World} {x y z u:Value} {ks ps l:List Tri} {es:List Ent} (h:BookNew lo w x y z ks ps es) (hlo:lo≤w.heap.size) (hb:Below w.heap.size w w') (hu:w'.ownsRow w.heap.size 69 3 u n (triRows l)) (hn:n=l.length):BookNew lo w' u y z l ps es:=by
 obtain ⟨-,h2,h3⟩:=h.keep hb;subst hn;exact ⟨aN hu hlo,h2,h3⟩
theorem BookNew.points {lo n:Nat} {w w':World} {x y z u:Value} {ks ps l:List Tri} {es:List Ent} (h:BookNew lo w x y z ks ps es) (hlo:lo≤w.heap.size) (hb:Below w.heap.size w w') (hu:w'.ownsRow w.heap.size 72 3 u n (triRows l)) (hn:n=l.length):BookNew lo w' x u z ks l es:=by
 obtain ⟨h1,-,h3⟩:=h.keep hb;subst hn;exact ⟨h1,aN hu hlo,h3⟩
end Go.Proofs.YtcmgddnckohdaaaGreatDoor
namespace Go.Proofs.YtcmgddnckohdaaaGreatDoor.Tx
open Go.RowKit Sd
theorem cut_word (s:ByteArray):(⟨(Lib.cut s.data.toList spS.data.toList).1.toArray⟩:ByteArray)=wat (cutW s) 0:=by
 have hi:Lib.index s.data.toList spS.data.toList=Lib.indexByte (bytes s) 32:=Lib.index_one _ _;unfold Lib.cut;rw [hi]
 rcases first_sp (bytes s) with h | ⟨a,r,hs,h⟩
 ·rw [idx_none _ h,if_neg (by decide)]
  unfold cutW;rw [cut_none _ _ h]
  simp [wat]
  rfl
 ·rw [hs,idx_some _ _ h,if_pos (by omega)]
  unfold cutW;rw [hs,bu _ _ _ h];have e:s.data.toList=a++32::r:=hs
  simp [wat,e]
def fK:Value:=.func (.func 155) #[] #[]
def fP:Value:=.func (.func 156) #[] #[]
def fS:Value:=.func (.func 157) #[] #[]
open Classical in
noncomputable def elF (v:Value):Option (DataW Nat×List MemPlace) :=
 if v=fK then some (.lit (.int .i64 1),[]) else if v=fP then some (.lit (.int .i64 2),[]) else if v=fS then some (.lit (.int .i64 3),[]) else some (.lit (.int .i64 0),[])
theorem elF_inv {v:Value} {n:Int} {ps:List MemPlace} (h:elF v=some (.lit (.int .i64 n),ps)):(n=1∧v=fK)∨(n=2∧v=fP)∨(n=3∧v=fS)∨n=0:=by
 unfold elF at h
 split at h
 ·rename_i e;simp at h;exact .inl ⟨h.1.symm,e⟩
 ·split at h
  ·rename_i e;simp at h;exact .inr (.inl ⟨h.1.symm,e⟩)
  ·split at h
   ·rename_i e;simp at h;exact .inr (.inr (.inl ⟨h.1.symm,e⟩))
   ·simp at h;exact .inr (.inr (.inr h.1.symm))
end Go.Proofs.YtcmgddnckohdaaaGreatDoor.Tx
namespace Go.Proofs.YtcmgddnckohdaaaGreatDoor
open Go.RowKit
theorem nilKind (n c:Nat) (w:World):(binOp .eql 24 (.slice none n c) (.slice none 0 0)).run Tryz.prog w=.ok (.bool true) w:=by kernel_rfl
theorem someKind (ad:Addr) (n c:Nat) (w:World):(binOp .eql 24 (.slice (some ad) n c) (.slice none 0 0)).run Tryz.prog w=.ok (.bool false) w:=by kernel_rfl
theorem cloneKind_any (v:Value) (l:List Tri) (w:World) (h:TrisAt w v l) (hl:l.length≤1048576) :
  Calls Tryz.prog 182 #[v] w fun e w'=>∃ u,e=.returned u∧w'.ownsRow w.heap.size 69 3 u l.length (triRows l)∧Below w.heap.size w w':=by
 obtain ⟨i0,hi,hz0,hz1,hz2⟩:=info_parts infoKindC;have HT:=au h;obtain ⟨a,c,rfl,h1,h2,h3⟩:=h;have HS:=au (tris_src HT.out);clear h3
 cases a with
 | none =>
  have hl0:l.length=0:=by
   rcases HS.out with h0 | ⟨ad,h0,_⟩
   ·exact h0
   ·cases h0
  have hl1:l=[]:=List.length_eq_zero_iff.1 hl0;subst hl1;have q1:=nilKind
  go_enter Tryz.func182,Tryz.ntmps182
  go_wp2_with fail;go_ret;exact ⟨_,rfl,⟨rfl,.inl ⟨rfl,rfl⟩⟩,Below.refl _ _⟩
 | some ad =>
  have R0:Hid ((w.alloc (.cells #[] 69)).ownsRow w.heap.size 69 3 (.slice (some ⟨w.heap.size,0,none⟩) 0 0) 0 []):=bt (aj w _) aH 3;have B0:Hid (Below w.heap.size w (w.alloc (.cells #[] 69))):=(aO);have hsrc:=src_keep HS.out B0.out;have q1:=someKind
  go_enter Tryz.func182,Tryz.ntmps182
  go_wp2_with (at_builtin;refine bB _ rfl _ _ 24 rfl w.heap.size 69 i0 _ 3 32 Tryz.underlying24 hi hz0 hz1 hz2 rfl (by decide) _ 0 [] rfl R0.out (some ad) l.length c (triRows l) rfl hsrc (aI _) cD (by unfold maxLen;omega) (by omega) (by simp) ?_;intro vq wx hown hgrow hat)
  rw [Nat.zero_add,List.nil_append] at hown;have HN:Hid (Below w.heap.size w wx):=B0.out.grown hgrow B0.out.size (fun q e=>ax R0.out q e);have HO:=au hown;clear hown hgrow hat hsrc;go_ret;exact ⟨_,rfl,HO.out,HN.out⟩
theorem nilPoint (n c:Nat) (w:World):(binOp .eql 25 (.slice none n c) (.slice none 0 0)).run Tryz.prog w=.ok (.bool true) w:=by kernel_rfl
theorem somePoint (ad:Addr) (n c:Nat) (w:World):(binOp .eql 25 (.slice (some ad) n c) (.slice none 0 0)).run Tryz.prog w=.ok (.bool false) w:=by kernel_rfl
theorem clonePoint_any (v:Value) (l:List Tri) (w:World) (h:TrisAt w v l) (hl:l.length≤1048576) :
  Calls Tryz.prog 185 #[v] w fun e w'=>∃ u,e=.returned u∧w'.ownsRow w.heap.size 72 3 u l.length (triRows l)∧Below w.heap.size w w':=by
 obtain ⟨i0,hi,hz0,hz1,hz2⟩:=info_parts infoPointC;have HT:=au h;obtain ⟨a,c,rfl,h1,h2,h3⟩:=h;have HS:=au (tris_src HT.out);clear h3
 cases a with
 | none =>
  have hl0:l.length=0:=by
   rcases HS.out with h0 | ⟨ad,h0,_⟩
   ·exact h0
   ·cases h0
  have hl1:l=[]:=List.length_eq_zero_iff.1 hl0;subst hl1;have q1:=nilPoint
  go_enter Tryz.func185,Tryz.ntmps185
  go_wp2_with fail;go_ret;exact ⟨_,rfl,⟨rfl,.inl ⟨rfl,rfl⟩⟩,Below.refl _ _⟩
 | some ad =>
  have R0:Hid ((w.alloc (.cells #[] 72)).ownsRow w.heap.size 72 3 (.slice (some ⟨w.heap.size,0,none⟩) 0 0) 0 []):=bt (aj w _) aH 3;have B0:Hid (Below w.heap.size w (w.alloc (.cells #[] 72))):=(aO);have hsrc:=src_keep HS.out B0.out;have q1:=somePoint
  go_enter Tryz.func185,Tryz.ntmps185
  go_wp2_with (at_builtin;refine bB _ rfl _ _ 25 rfl w.heap.size 72 i0 _ 3 32 Tryz.underlying25 hi hz0 hz1 hz2 rfl (by decide) _ 0 [] rfl R0.out (some ad) l.length c (triRows l) rfl hsrc (aI _) cD (by unfold maxLen;omega) (by omega) (by simp) ?_;intro vq wx hown hgrow hat)
  rw [Nat.zero_add,List.nil_append] at hown;have HN:Hid (Below w.heap.size w wx):=B0.out.grown hgrow B0.out.size (fun q e=>ax R0.out q e);have HO:=au hown;clear hown hgrow hat hsrc;go_ret;exact ⟨_,rfl,HO.out,HN.out⟩
end Go.Proofs.YtcmgddnckohdaaaGreatDoor
namespace Go.Proofs.YtcmgddnckohdaaaGreatDoor.Tx
open Go.RowKit
theorem cell_row3 {w:World} {X:Nat} {T:TypeId} {u1 u2 u3:Value} {a1 a2 a3:Option Addr} {n1 n2 n3 c1 c2 c3:Nat} (hX:w.heap[X]?=some (.cells #[.slice a1 n1 c1,.slice a2 n2 c2,.slice a3 n3 c3] T (0,0))) (C:Array Value) {b o:Nat} {s:ByteArray} (hc:w.cell? ⟨b,o,none⟩=some (.string s)):(w.setRow X C).heap[b]?=w.heap[b]?:=by
 refine setRow_other _ _ _ _ (fun e=>?_);subst e
 simp only [World.cell?,hX] at hc
 rcases o with - | - | - | o <;> simp at hc
theorem bz {w w':World} {b o:Nat} {u:Value} (hb:w'.heap[b]?=w.heap[b]?) (hc:w.cell? ⟨b,o,none⟩=some u):w'.cell? ⟨b,o,none⟩=some u:=by
 rw [World.cell?_of_block (w:=w) hb];exact hc
theorem TrisAt_str {w w':World} {v:Value} {l:List Tri} (h:TrisAt w v l) (hs:∀ b o s,w.cell? ⟨b,o,none⟩=some (.string s)→w'.heap[b]?=w.heap[b]?):TrisAt w' v l:=by
 obtain ⟨a,cap,rfl,h1,h2,h3⟩:=h;refine ⟨a,cap,rfl,h1,h2,fun i t ht=>?_⟩;obtain ⟨b,off,e,d0,d1,d2⟩:=h3 i t ht;have hb:=hs _ _ _ d0;exact ⟨b,off,e,bz hb d0,bz hb d1,bz hb d2⟩
theorem FldsAt_str {w w':World} {v:Value} {l:List Fld} (h:FldsAt w v l) (hs:∀ b o s,w.cell? ⟨b,o,none⟩=some (.string s)→w'.heap[b]?=w.heap[b]?):FldsAt w' v l:=by
 obtain ⟨a,cap,rfl,h1,h2,h3⟩:=h;refine ⟨a,cap,rfl,h1,h2,fun i t ht=>?_⟩;obtain ⟨b,off,e,d0,d1,d2⟩:=h3 i t ht;have hb:=hs _ _ _ d2;exact ⟨b,off,e,bz hb d0,bz hb d1,bz hb d2⟩
theorem EntsAt_str {w w':World} {v:Value} {l:List Ent} (h:EntsAt w v l) (hs:∀ b o s,w.cell? ⟨b,o,none⟩=some (.string s)→w'.heap[b]?=w.heap[b]?):EntsAt w' v l:=by
 obtain ⟨a,cap,rfl,h1,h2,h3⟩:=h;refine ⟨a,cap,rfl,h1,h2,fun i t ht=>?_⟩;obtain ⟨b,off,e,fv,d0,d1,hf⟩:=h3 i t ht;have hb:=hs _ _ _ d0;exact ⟨b,off,e,fv,bz hb d0,bz hb d1,FldsAt_str hf hs⟩
theorem BookAt_str {w w':World} {vk vp ve:Value} {ks ps:List Tri} {es:List Ent} (h:BookAt w vk vp ve ks ps es) (hs:∀ b o s,w.cell? ⟨b,o,none⟩=some (.string s)→w'.heap[b]?=w.heap[b]?):BookAt w' vk vp ve ks ps es :=
 ⟨TrisAt_str h.k hs,TrisAt_str h.p hs,EntsAt_str h.e hs⟩
theorem BookAt_row3 {w:World} {X:Nat} {T:TypeId} {a1 a2 a3:Option Addr} {n1 n2 n3 c1 c2 c3:Nat} {vk vp ve:Value} {ks ps:List Tri} {es:List Ent} (h:BookAt w vk vp ve ks ps es) (hX:w.heap[X]?=some (.cells #[.slice a1 n1 c1,.slice a2 n2 c2,.slice a3 n3 c3] T (0,0))) (C:Array Value):BookAt (w.setRow X C) vk vp ve ks ps es :=
 BookAt_str h (fun b o s hc=>cell_row3 (u1:=.slice none 0 0) (u2:=.slice none 0 0) (u3:=.slice none 0 0) hX C hc)
end Go.Proofs.YtcmgddnckohdaaaGreatDoor.Tx
