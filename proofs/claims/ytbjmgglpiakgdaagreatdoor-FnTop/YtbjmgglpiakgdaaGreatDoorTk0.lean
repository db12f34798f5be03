import Derived.Test.YtbjmgglpiakgdaaGreatDoorPut3
import Derived.Test.YtbjmgglpiakgdaaGreatDoorCpy2
set_option maxRecDepth 100000
set_option maxHeartbeats 12800000
set_option linter.unusedSimpArgs false
set_option linter.unusedVariables false
namespace Go.Proofs.YtbjmgglpiakgdaaGreatDoor
open Go.RowKit
theorem Blk3.low {w wr wy:World} {X Y Z:Obj} {lo:Nat} (h:Blk3 w wr X Y Z) (hb:Below lo wr wy) (hl:w.heap.size+3≤lo):Blk3 w wy X Y Z:=by
 have hz:=h.z
 exact ⟨h.below.trans (hb.mono (by omega)),(hb.block _ (by omega)).trans h.b0,(hb.block _ (by omega)).trans h.b1,(hb.block _ (by omega)).trans h.b2⟩
theorem book_len {ks ps:List Tri} {es:List Ent} (h:bookB ks ps es=true):es.length≤12:=by
 rw [book_eq] at h
 simp only [Bool.and_eq_true,decide_eq_true_eq] at h
 exact h.2.1
theorem book_base {ks ps:List Tri} {es:List Ent} (h:bookB ks ps es=true):baseB ks ps=true:=by
 rw [book_eq] at h
 simp only [Bool.and_eq_true] at h
 exact h.1
theorem putE_small {es:List Ent} (n:ByteArray) (f:Fld) (h:∀ e∈es,e.fs.length≤1048575):∀ e∈putE es n f,e.fs.length≤1048576:=by
 induction es with
 | nil=>intro e he;simp [putE] at he;subst he;simp
 | cons x es ih =>
  intro e he;rw [putE] at he
  split at he
  ·rcases List.mem_cons.1 he with rfl | he
   ·have:=putF_len x.fs f
    have:=h x (by simp)
    show (putF x.fs f).length≤_
    omega
   ·have:=h e (by simp [he]);omega
  ·split at he
   ·rcases List.mem_cons.1 he with rfl | he
    ·have:=h e (by simp);omega
    ·exact ih (fun e he=>h e (by simp [he])) e he
   ·rcases List.mem_cons.1 he with rfl | he
    ·simp
    ·have:=h e he;omega
theorem book_fs5 {ks ps:List Tri} {es:List Ent} (h:bookB ks ps es=true):∀ e∈es,e.fs.length≤5:=fun e he=>by
 have hf:=book_fields h he;have hs:=fields_sorted hf;have hw:∀ f∈e.fs,1≤f.what∧f.what≤5:=fun f hf'=>fit_what (fields_fit hf hf');clear hf;generalize e.fs=l at *
 have key:∀ (l:List Fld) (m:Int),1≤m→l.Pairwise (fun a b=>a.what<b.what)→(∀ f∈l,m≤f.what∧f.what≤5)→(l.length:Int)≤6-m∨l.length=0:=by
  intro l
  induction l with
  | nil=>intro m _ _ _;exact .inr rfl
  | cons a l ih =>
   intro m hm hp hb;have hp':=List.pairwise_cons.1 hp
   have ha:=hb a (by simp)
   left
   rcases ih (a.what+1) (by omega) hp'.2 (fun f hf=>⟨by have:=hp'.1 f hf;omega,(hb f (by simp [hf])).2⟩) with h1 | h1
   ·simp only [List.length_cons];omega
   ·simp only [List.length_cons,h1];omega
 rcases key l 1 (by omega) hs hw with h1 | h1 <;> omega
theorem specTake_any (vk vp ve:Value) (ks ps:List Tri) (es:List Ent) (c:Chg) (w:World) (hB:BookAt w vk vp ve ks ps es) (nB:BNames ks ps es) (sB:BSmall ks ps es) (hcf:c.f.size≤1048576) (hcv:c.v.size≤1048576) :
  Calls Tryz.prog 40 #[.agg #[vk,vp,ve],.agg #[.string c.f,.int .i64 c.what,.int .i64 c.num,.string c.v]] w fun e w'=>∃ x y z,e=.returned (.tuple #[.agg #[x,y,z],.int .i64 (takeC ks ps es c)])∧BookNew w.heap.size w' x y z (takeT ks ps es ks) (takeT ks ps es ps) (takeE ks ps es c)∧Below w.heap.size w w':=by
 have HB:Hid (BookAt w vk vp ve ks ps es):=hB;have NB:Hid (BNames ks ps es):=nB;have SB:Hid (BSmall ks ps es):=sB;obtain ⟨⟨ak,ck,rfl,-,-,-⟩,⟨ap,cp,rfl,-,-,-⟩,⟨ae,ce,rfl,-,-,-⟩⟩:=hB;have HFT:Hid (∀ wx:World,Below w.heap.size w wx→Calls Tryz.prog 85 #[.agg #[.slice ak ks.length ck,.slice ap ps.length cp],.agg #[.string c.f,.int .i64 c.what,.int .i64 c.num,.string c.v]] wx fun e w'=>e=.returned (.bool (baseB ks ps&&fitB ks ps c))∧Below wx.heap.size wx w'):=fun wx hx=>specChangeOk_any _ _ ks ps c wx (HB.out.k.keep hx) (HB.out.p.keep hx) NB.out.k NB.out.p hcf hcv;clear nB sB
 go_enter Tryz.func40,Tryz.ntmps40
 have HX0:Hid (Blk3 w _ _ _ _):=Blk3.start w (.cells #[.slice ak ks.length ck,.slice ap ps.length cp,.slice ae es.length ce] 29) (.cells #[.string c.f,.int .i64 c.what,.int .i64 c.num,.string c.v] 40) (.cells #[.slice none 0 0,.slice none 0 0,.slice none 0 0] 29);go_wp2_with fail;refine (specBookOk_any _ _ _ ks ps es _ (HB.out.keep HX0.out.below) NB.out SB.out).mono ?_;rintro e w1 ⟨rfl,hb1⟩;have HX1:Hid (Blk3 w w1 (.cells #[.slice ak ks.length ck,.slice ap ps.length cp,.slice ae es.length ce] 29) (.cells #[.string c.f,.int .i64 c.what,.int .i64 c.num,.string c.v] 40) (.cells #[.slice none 0 0,.slice none 0 0,.slice none 0 0] 29)):=HX0.out.call hb1;clear HX0 hb1
 obtain ⟨y0,y1,y2⟩:w1.cell? ⟨w.heap.size,0,none⟩=some (.slice ak ks.length ck)∧w1.cell? ⟨w.heap.size,1,none⟩=some (.slice ap ps.length cp)∧w1.cell? ⟨w.heap.size,2,none⟩=some (.slice ae es.length ce):=by simp [World.cell?,HX1.out.b0]
 have hr1:=HX1.out.b2;have hz1:=HX1.out.z
 cases hbb:bookB ks ps es
 ·have HE:Hid (takeC ks ps es c=1∧takeT ks ps es ks=[]∧takeT ks ps es ps=[]∧takeE ks ps es c=[]):=by
   show _∧_∧_∧_
   unfold takeC takeT takeE;rw [hbb];exact ⟨rfl,rfl,rfl,rfl⟩
  clear hbb
  go_wp2_with (refine wpList_store_row rfl 29 _ _ rfl (w.heap.size+1+1) #[.slice none 0 0,.slice none 0 0,.slice none 0 0] rfl rfl 29 _ hr1 (by kernel_rfl) rfl (by simp [Value.oneCell']) ?_)
  exact bodyPost_ret (v:=.tuple #[.agg #[.slice none 0 0,.slice none 0 0,.slice none 0 0],.int .i64 1]) (by simp [results,Tryz.results40,go_sem,cell_setRow_same _ _ _ _ _ _ _ hr1]) rfl ⟨_,_,_,by rw [HE.out.1],by rw [HE.out.2.1,HE.out.2.2.1,HE.out.2.2.2];exact BookNew.none _ _,below_setRow HX1.out.below (by omega) _⟩
 have HBB:Hid (bookB ks ps es=true):=hbb
 have HTK:Hid (takeT ks ps es ks=ks∧takeT ks ps es ps=ps):=by
  show _∧_
  unfold takeT;rw [hbb];exact ⟨rfl,rfl⟩
 clear hbb hr1;have hl12:=book_len HBB.out;have HF5:Hid (∀ e∈es,e.fs.length≤5):=book_fs5 HBB.out;go_wp2_with fail;refine (specL3Copy_any _ _ _ ks ps es _ (HB.out.keep HX1.out.below) SB.out.k SB.out.p SB.out.e SB.out.f).mono ?_;rintro e w2 ⟨x,y,z,rfl,hN2,hb2⟩;obtain ⟨a1,c1,a2,c2,a3,c3,rfl,rfl,rfl⟩:=hN2.slices;have hal:Below w2.heap.size w2 (w2.alloc (.cells #[.slice a1 ks.length c1,.slice a2 ps.length c2,.slice a3 es.length c3] 29)):=(bal);have HX3:Hid (Blk3 w (w2.alloc (.cells #[.slice a1 ks.length c1,.slice a2 ps.length c2,.slice a3 es.length c3] 29)) (.cells #[.slice ak ks.length ck,.slice ap ps.length cp,.slice ae es.length ce] 29) (.cells #[.string c.f,.int .i64 c.what,.int .i64 c.num,.string c.v] 40) (.cells #[.slice none 0 0,.slice none 0 0,.slice none 0 0] 29)):=(HX1.out.call hb2).call hal;have HN3:Hid (BookNew (w1.heap.size+2) (w2.alloc (.cells #[.slice a1 ks.length c1,.slice a2 ps.length c2,.slice a3 es.length c3] 29)) (.slice a1 ks.length c1) (.slice a2 ps.length c2) (.slice a3 es.length c3) ks ps es):=hN2.keep hal;have HT3:Hid ((w2.alloc (.cells #[.slice a1 ks.length c1,.slice a2 ps.length c2,.slice a3 es.length c3] 29)).heap[w2.heap.size]?=some (.cells #[.slice a1 ks.length c1,.slice a2 ps.length c2,.slice a3 es.length c3] 29 (0,0))):=heap_newF w2 _;have hs12:w1.heap.size≤w2.heap.size:=hb2.size
 obtain ⟨x0,x1,x2,x3⟩:(w2.alloc (.cells #[.slice a1 ks.length c1,.slice a2 ps.length c2,.slice a3 es.length c3] 29)).cell? ⟨w.heap.size+1,0,none⟩=some (.string c.f)∧(w2.alloc (.cells #[.slice a1 ks.length c1,.slice a2 ps.length c2,.slice a3 es.length c3] 29)).cell? ⟨w.heap.size+1,1,none⟩=some (.int .i64 c.what)∧(w2.alloc (.cells #[.slice a1 ks.length c1,.slice a2 ps.length c2,.slice a3 es.length c3] 29)).cell? ⟨w.heap.size+1,2,none⟩=some (.int .i64 c.num)∧(w2.alloc (.cells #[.slice a1 ks.length c1,.slice a2 ps.length c2,.slice a3 es.length c3] 29)).cell? ⟨w.heap.size+1,3,none⟩=some (.string c.v):=by simp only [World.cell?,HX3.out.b1];simp
 obtain ⟨q0,q1,q2⟩:(w2.alloc (.cells #[.slice a1 ks.length c1,.slice a2 ps.length c2,.slice a3 es.length c3] 29)).cell? ⟨w.heap.size,0,none⟩=some (.slice ak ks.length ck)∧(w2.alloc (.cells #[.slice a1 ks.length c1,.slice a2 ps.length c2,.slice a3 es.length c3] 29)).cell? ⟨w.heap.size,1,none⟩=some (.slice ap ps.length cp)∧(w2.alloc (.cells #[.slice a1 ks.length c1,.slice a2 ps.length c2,.slice a3 es.length c3] 29)).cell? ⟨w.heap.size,2,none⟩=some (.slice ae es.length ce):=by simp only [World.cell?,HX3.out.b0];simp
 clear hN2 hb2 hal HX1 y0 y1 y2;go_wp2_with fail;refine (HFT.out _ HX3.out.below).mono ?_;rintro e w4 ⟨rfl,hb4⟩;have HX4:Hid (Blk3 w w4 (.cells #[.slice ak ks.length ck,.slice ap ps.length cp,.slice ae es.length ce] 29) (.cells #[.string c.f,.int .i64 c.what,.int .i64 c.num,.string c.v] 40) (.cells #[.slice none 0 0,.slice none 0 0,.slice none 0 0] 29)):=HX3.out.call hb4;have HN4:Hid (BookNew (w1.heap.size+2) w4 (.slice a1 ks.length c1) (.slice a2 ps.length c2) (.slice a3 es.length c3) ks ps es):=HN3.out.keep hb4
 have HT4:Hid (w4.heap[w2.heap.size]?=some (.cells #[.slice a1 ks.length c1,.slice a2 ps.length c2,.slice a3 es.length c3] 29 (0,0))):=(hb4.block _ (by simp)).trans HT3.out
 have HBF:Hid ((baseB ks ps&&fitB ks ps c)=fitB ks ps c):=by
  show _=_
  rw [book_base HBB.out,Bool.true_and]
 rw [HBF.out];clear hb4 HX3 HN3 HT3 x0 x1 x2 x3 q0 q1 q2 HBF
 obtain ⟨x0,x1,x2,x3⟩:w4.cell? ⟨w.heap.size+1,0,none⟩=some (.string c.f)∧w4.cell? ⟨w.heap.size+1,1,none⟩=some (.int .i64 c.what)∧w4.cell? ⟨w.heap.size+1,2,none⟩=some (.int .i64 c.num)∧w4.cell? ⟨w.heap.size+1,3,none⟩=some (.string c.v):=by simp [World.cell?,HX4.out.b1]
 obtain ⟨q0,q1,q2⟩:w4.cell? ⟨w.heap.size,0,none⟩=some (.slice ak ks.length ck)∧w4.cell? ⟨w.heap.size,1,none⟩=some (.slice ap ps.length cp)∧w4.cell? ⟨w.heap.size,2,none⟩=some (.slice ae es.length ce):=by simp [World.cell?,HX4.out.b0]
 obtain ⟨t0,t1,t2⟩:=three_cellsF HT4.out;have hr4:=HX4.out.b2
 have hz4:w.heap.size<w4.heap.size:=by have:=HX4.out.z;omega
 cases hff:fitB ks ps c
 ·have HE:Hid (takeC ks ps es c=2∧takeE ks ps es c=es):=by
   show _∧_
   unfold takeC takeE;rw [HBB.out,hff];exact ⟨rfl,rfl⟩
  clear hff
  go_wp2_with (refine wpList_store_row rfl 29 _ _ rfl (w.heap.size+1+1) #[.slice a1 ks.length c1,.slice a2 ps.length c2,.slice a3 es.length c3] rfl rfl 29 _ hr4 (by kernel_rfl) rfl (by simp [Value.oneCell']) ?_)
  exact bodyPost_ret (v:=.tuple #[.agg #[.slice a1 ks.length c1,.slice a2 ps.length c2,.slice a3 es.length c3],.int .i64 2]) (by simp [results,Tryz.results40,go_sem,cell_setRow_same _ _ _ _ _ _ _ hr4]) rfl ⟨_,_,_,by rw [HE.out.1],by rw [HTK.out.1,HTK.out.2,HE.out.2];exact (HN4.out.far (grown_rowF w4 (w.heap.size+1+1) _) (by omega)).mono (by omega),below_setRow HX4.out.below (by omega) _⟩
 ·have HFF:Hid (fitB ks ps c=true):=hff
  have HC:Hid (takeC ks ps es c=(bif decide (12<(putE es c.f (fldC c)).length) then 3 else 0)∧takeE ks ps es c=(bif decide (12<(putE es c.f (fldC c)).length) then es else putE es c.f (fldC c))):=by
   show _∧_
   unfold takeC takeE;rw [HBB.out,hff];exact ⟨rfl,rfl⟩
  have HPL:Hid ((putE es c.f (fldC c)).length=if es.any (fun e=>decide (e.name=c.f)) then es.length else es.length+1):=putE_len c.f (fldC c) (book_names HBB.out)
  clear hff;go_wp2_with fail;refine (l3At_any _ _ _ es c.f _ (HB.out.keep HX4.out.below).e).mono ?_;rintro e w5 ⟨r,rfl,hr,hb5⟩;have HX5:Hid (Blk3 w w5 (.cells #[.slice ak ks.length ck,.slice ap ps.length cp,.slice ae es.length ce] 29) (.cells #[.string c.f,.int .i64 c.what,.int .i64 c.num,.string c.v] 40) (.cells #[.slice none 0 0,.slice none 0 0,.slice none 0 0] 29)):=HX4.out.call hb5;have HN5:Hid (BookNew (w1.heap.size+2) w5 (.slice a1 ks.length c1) (.slice a2 ps.length c2) (.slice a3 es.length c3) ks ps es):=HN4.out.keep hb5;have HT5:Hid (w5.heap[w2.heap.size]?=some (.cells #[.slice a1 ks.length c1,.slice a2 ps.length c2,.slice a3 es.length c3] 29 (0,0))):=(hb5.block _ (Array.getElem?_eq_some_iff.1 HT4.out).1).trans HT4.out
  have HAN:Hid ((r=-1∧(es.any fun e=>decide (e.name=c.f))=false)∨(0≤r∧(es.any fun e=>decide (e.name=c.f))=true)):=by
   rcases hr with ⟨h1,h2⟩ | ⟨k,h1,h2,h3⟩
   ·refine .inl ⟨h1,?_⟩
    rw [List.any_eq_false];intro e he;have:=List.find?_eq_none.1 h2 e he
    simpa using this
   ·refine .inr ⟨by omega,?_⟩
    rw [List.any_eq_true];have h4:=List.find?_some h3;exact ⟨_,List.mem_of_getElem? (eat_get h1),h4⟩
  clear hb5 HX4 HN4 HT4 x0 x1 x2 x3 q0 q1 q2 t0 t1 t2 hr4 hz4 hr
  obtain ⟨x0,x1,x2,x3⟩:w5.cell? ⟨w.heap.size+1,0,none⟩=some (.string c.f)∧w5.cell? ⟨w.heap.size+1,1,none⟩=some (.int .i64 c.what)∧w5.cell? ⟨w.heap.size+1,2,none⟩=some (.int .i64 c.num)∧w5.cell? ⟨w.heap.size+1,3,none⟩=some (.string c.v):=by simp [World.cell?,HX5.out.b1]
  obtain ⟨q0,q1,q2⟩:w5.cell? ⟨w.heap.size,0,none⟩=some (.slice ak ks.length ck)∧w5.cell? ⟨w.heap.size,1,none⟩=some (.slice ap ps.length cp)∧w5.cell? ⟨w.heap.size,2,none⟩=some (.slice ae es.length ce):=by simp [World.cell?,HX5.out.b0]
  obtain ⟨t0,t1,t2⟩:=three_cellsF HT5.out;have hr5:=HX5.out.b2;have hz5:w.heap.size+2<w5.heap.size:=HX5.out.z
  have hs15:w1.heap.size+2≤w5.heap.size∨w1.heap.size+2 > w5.heap.size:=by omega
  have HGO:Hid (∀ wq:World,Blk3 w wq (.cells #[.slice ak ks.length ck,.slice ap ps.length cp,.slice ae es.length ce] 29) (.cells #[.string c.f,.int .i64 c.what,.int .i64 c.num,.string c.v] 40) (.cells #[.slice none 0 0,.slice none 0 0,.slice none 0 0] 29)→BookNew (w1.heap.size+1) wq (.slice a1 ks.length c1) (.slice a2 ps.length c2) (.slice a3 es.length c3) ks ps es→w1.heap.size+1≤wq.heap.size→Calls Tryz.prog 86 #[.agg #[.slice a1 ks.length c1,.slice a2 ps.length c2,.slice a3 es.length c3],.string c.f,.agg #[.int .i64 c.what,.int .i64 c.num,.string c.v]] wq fun e w'=>∃ z',e=.returned (.agg #[.slice a1 ks.length c1,.slice a2 ps.length c2,z'])∧BookNew (w1.heap.size+1) w' (.slice a1 ks.length c1) (.slice a2 ps.length c2) z' ks ps (putE es c.f (fldC c))∧Blk3 w w' (.cells #[.slice ak ks.length ck,.slice ap ps.length cp,.slice ae es.length ce] 29) (.cells #[.string c.f,.int .i64 c.what,.int .i64 c.num,.string c.v] 40) (.cells #[.slice none 0 0,.slice none 0 0,.slice none 0 0] 29)):=fun wq hX hN hle=>by
   refine (l3Put_any _ _ _ ks ps es c.f (fldC c) (w1.heap.size+1) wq hN hle (book_names HBB.out) SB.out.e SB.out.f).mono ?_;rintro e w' ⟨z',rfl,h1,h2,-⟩
   exact ⟨z',rfl,h1,hX.low h2 (by omega)⟩
  have HPS:Hid ((putE es c.f (fldC c)).length≤13∧∀ e∈putE es c.f (fldC c),e.fs.length≤1048576):=by
   refine ⟨?_,putE_small _ _ (fun e he=>by have:=HF5.out e he;omega)⟩
   rw [HPL.out];split <;> omega
  have HNL:Hid (BookNew (w1.heap.size+1) w5 (.slice a1 ks.length c1) (.slice a2 ps.length c2) (.slice a3 es.length c3) ks ps es):=HN5.out.mono (by omega)
  have hle5:w1.heap.size+1≤w5.heap.size:=by have:=(Array.getElem?_eq_some_iff.1 HT5.out).1;omega
  clear hs15
  rcases HAN.out with ⟨hr1,ha⟩ | ⟨hr1,ha⟩
  ·subst hr1
   have HPL2:Hid ((putE es c.f (fldC c)).length=es.length+1):=by show _=_;rw [HPL.out,ha];rfl
   clear ha HAN HPL
   by_cases h12:12≤es.length
   ·have h12':(12:Int)≤(es.length:Int):=by omega
    have HE:Hid (takeC ks ps es c=3∧takeE ks ps es c=es):=by
     have h0:decide (12<(putE es c.f (fldC c)).length)=true:=by rw [HPL2.out];simp;omega
     show _∧_
     rw [HC.out.1,HC.out.2,h0];exact ⟨rfl,rfl⟩
    go_wp2_with (refine wpList_store_row rfl 29 _ _ rfl (w.heap.size+1+1) #[.slice a1 ks.length c1,.slice a2 ps.length c2,.slice a3 es.length c3] rfl rfl 29 _ hr5 (by kernel_rfl) rfl (by simp [Value.oneCell']) ?_)
    exact bodyPost_ret (v:=.tuple #[.agg #[.slice a1 ks.length c1,.slice a2 ps.length c2,.slice a3 es.length c3],.int .i64 3]) (by simp [results,Tryz.results40,go_sem,cell_setRow_same _ _ _ _ _ _ _ hr5]) rfl ⟨_,_,_,by rw [HE.out.1],by rw [HTK.out.1,HTK.out.2,HE.out.2];exact (HN5.out.far (grown_rowF w5 (w.heap.size+1+1) _) (by omega)).mono (by omega),below_setRow HX5.out.below (by omega) _⟩
   ·have h12':¬ (12:Int)≤(es.length:Int):=by omega
    have HE:Hid (takeC ks ps es c=0∧takeE ks ps es c=putE es c.f (fldC c)):=by
     have h0:decide (12<(putE es c.f (fldC c)).length)=false:=by rw [HPL2.out];simp;omega
     show _∧_
     rw [HC.out.1,HC.out.2,h0];exact ⟨rfl,rfl⟩
    go_wp2_with fail;refine (HGO.out _ HX5.out HNL.out hle5).mono ?_;rintro e w6 ⟨z',rfl,hN6,hX6⟩;have HX6:Hid (Blk3 w w6 (.cells #[.slice ak ks.length ck,.slice ap ps.length cp,.slice ae es.length ce] 29) (.cells #[.string c.f,.int .i64 c.what,.int .i64 c.num,.string c.v] 40) (.cells #[.slice none 0 0,.slice none 0 0,.slice none 0 0] 29)):=hX6;have HN6:Hid (BookAt w6 (.slice a1 ks.length c1) (.slice a2 ps.length c2) z' ks ps (putE es c.f (fldC c))):=hN6.at;obtain ⟨-,-,-,-,a4,c4,-,-,rfl⟩:=hN6.slices;clear hX6 hN6;go_wp2_with fail
    refine (specL3Copy_any _ _ _ ks ps (putE es c.f (fldC c)) _ HN6.out SB.out.k SB.out.p (by have:=HPS.out.1;omega) HPS.out.2).mono ?_
    rintro e w7 ⟨x,y,z,rfl,hN7,hb7⟩;obtain ⟨b1,d1,b2,d2,b3,d3,rfl,rfl,rfl⟩:=hN7.slices;have HX7:Hid (Blk3 w w7 (.cells #[.slice ak ks.length ck,.slice ap ps.length cp,.slice ae es.length ce] 29) (.cells #[.string c.f,.int .i64 c.what,.int .i64 c.num,.string c.v] 40) (.cells #[.slice none 0 0,.slice none 0 0,.slice none 0 0] 29)):=HX6.out.call hb7;have hz6:=HX6.out.z;have HN7:=toHidC hN7;have hr7:=HX7.out.b2;clear hN7 hb7 HX6 HN6 hr5 HX5 HN5 HT5 HNL;generalize putE es c.f (fldC c)=es' at *
    go_wp2_with (refine wpList_store_row rfl 29 _ _ rfl (w.heap.size+1+1) #[.slice b1 ks.length d1,.slice b2 ps.length d2,.slice b3 es'.length d3] rfl rfl 29 _ hr7 (by kernel_rfl) rfl (by simp [Value.oneCell']) ?_)
    exact bodyPost_ret (v:=.tuple #[.agg #[.slice b1 ks.length d1,.slice b2 ps.length d2,.slice b3 es'.length d3],.int .i64 0]) (by simp [results,Tryz.results40,go_sem,cell_setRow_same _ _ _ _ _ _ _ hr7]) rfl ⟨_,_,_,by rw [HE.out.1],by rw [HTK.out.1,HTK.out.2,HE.out.2];exact (HN7.out.far (grown_rowF w7 (w.heap.size+1+1) _) (by omega)).mono (by omega),below_setRow HX7.out.below (by omega) _⟩
  ·have HPL2:Hid ((putE es c.f (fldC c)).length=es.length):=by show _=_;rw [HPL.out,ha];rfl
   have hrn:¬ r<0:=by omega
   clear ha HAN HPL
   have HE:Hid (takeC ks ps es c=0∧takeE ks ps es c=putE es c.f (fldC c)):=by
    have h0:decide (12<(putE es c.f (fldC c)).length)=false:=by rw [HPL2.out];simp;omega
    show _∧_
    rw [HC.out.1,HC.out.2,h0];exact ⟨rfl,rfl⟩
   go_wp2_with fail;refine (HGO.out _ HX5.out HNL.out hle5).mono ?_;rintro e w6 ⟨z',rfl,hN6,hX6⟩;have HX6:Hid (Blk3 w w6 (.cells #[.slice ak ks.length ck,.slice ap ps.length cp,.slice ae es.length ce] 29) (.cells #[.string c.f,.int .i64 c.what,.int .i64 c.num,.string c.v] 40) (.cells #[.slice none 0 0,.slice none 0 0,.slice none 0 0] 29)):=hX6;have HN6:Hid (BookAt w6 (.slice a1 ks.length c1) (.slice a2 ps.length c2) z' ks ps (putE es c.f (fldC c))):=hN6.at;obtain ⟨-,-,-,-,a4,c4,-,-,rfl⟩:=hN6.slices;clear hX6 hN6;go_wp2_with fail
   refine (specL3Copy_any _ _ _ ks ps (putE es c.f (fldC c)) _ HN6.out SB.out.k SB.out.p (by have:=HPS.out.1;omega) HPS.out.2).mono ?_
   rintro e w7 ⟨x,y,z,rfl,hN7,hb7⟩;obtain ⟨b1,d1,b2,d2,b3,d3,rfl,rfl,rfl⟩:=hN7.slices;have HX7:Hid (Blk3 w w7 (.cells #[.slice ak ks.length ck,.slice ap ps.length cp,.slice ae es.length ce] 29) (.cells #[.string c.f,.int .i64 c.what,.int .i64 c.num,.string c.v] 40) (.cells #[.slice none 0 0,.slice none 0 0,.slice none 0 0] 29)):=HX6.out.call hb7;have hz6:=HX6.out.z;have HN7:=toHidC hN7;have hr7:=HX7.out.b2;clear hN7 hb7 HX6 HN6 hr5 HX5 HN5 HT5 HNL;generalize putE es c.f (fldC c)=es' at *
   go_wp2_with (refine wpList_store_row rfl 29 _ _ rfl (w.heap.size+1+1) #[.slice b1 ks.length d1,.slice b2 ps.length d2,.slice b3 es'.length d3] rfl rfl 29 _ hr7 (by kernel_rfl) rfl (by simp [Value.oneCell']) ?_)
   exact bodyPost_ret (v:=.tuple #[.agg #[.slice b1 ks.length d1,.slice b2 ps.length d2,.slice b3 es'.length d3],.int .i64 0]) (by simp [results,Tryz.results40,go_sem,cell_setRow_same _ _ _ _ _ _ _ hr7]) rfl ⟨_,_,_,by rw [HE.out.1],by rw [HTK.out.1,HTK.out.2,HE.out.2];exact (HN7.out.far (grown_rowF w7 (w.heap.size+1+1) _) (by omega)).mono (by omega),below_setRow HX7.out.below (by omega) _⟩
open Go.RowKit
def putEs (es:List Ent) (cs:List Chg):List Ent:=cs.foldl (fun E c=>putE E c.f (fldC c)) es
theorem putEs_sorted:∀ (cs:List Chg) (es:List Ent),(es.Pairwise fun a b=>blS a.name b.name=true)→(putEs es cs).Pairwise fun a b=>blS a.name b.name=true
 | [],es,h=>h
 | c::cs,es,h=>putEs_sorted cs _ (putE_sorted c.f (fldC c) h)
theorem putEs_ne:∀ (cs:List Chg) (es:List Ent),(∀ e∈es,e.fs≠[])→∀ e∈putEs es cs,e.fs≠[]
 | [],es,h=>h
 | c::cs,es,h=>putEs_ne cs _ (putE_ne c.f (fldC c) h)
theorem putEs_chgs:∀ (cs:List Chg) (es:List Ent),(es.Pairwise fun a b=>blS a.name b.name=true)→chgsOf (putEs es cs)=cs.foldl putC (chgsOf es)
 | [],es,h=>rfl
 | c::cs,es,h=>by
  have h1:=putEs_chgs cs _ (putE_sorted c.f (fldC c) h)
  show chgsOf (putEs (putE es c.f (fldC c)) cs)=cs.foldl putC (putC (chgsOf es) c)
  rw [h1,chgs_putE c.f (fldC c) h]
  rfl
theorem putF_lenM (fs:List Fld) (f:Fld):(putF fs f).length≤fs.length+1:=by
 induction fs with
 | nil=>simp [putF]
 | cons g l ih =>
  rw [putF]
  split
  ·simp;omega
  ·split
   ·split <;> simp
   ·simp
theorem putE_fsM {es:List Ent} (n:ByteArray) (f:Fld) (M:Nat) (h:∀ e∈es,e.fs.length≤M):∀ e∈putE es n f,e.fs.length≤M+1:=by
 induction es with
 | nil=>intro e he;simp [putE] at he;subst he;simp
 | cons x es ih =>
  intro e he;rw [putE] at he
  split at he
  ·rcases List.mem_cons.1 he with rfl | he
   ·have:=putF_lenM x.fs f
    have:=h x (by simp)
    show (putF x.fs f).length≤_
    omega
   ·have:=h e (by simp [he]);omega
  ·split at he
   ·rcases List.mem_cons.1 he with rfl | he
    ·have:=h e (by simp);omega
    ·exact ih (fun e he=>h e (by simp [he])) e he
   ·rcases List.mem_cons.1 he with rfl | he
    ·simp
    ·have:=h e he;omega
open Go.RowKit
abbrev Bx:=Nat×Array Value×TypeId
structure Bxs (w wr:World) (bs:List Bx):Prop where
 below:Below w.heap.size w wr
 has:∀ p∈bs,wr.heap[p.1]?=some (.cells p.2.1 p.2.2 (0,0))
theorem Bxs.lt {w wr:World} {bs:List Bx} (h:Bxs w wr bs) {p:Bx} (hp:p∈bs):p.1<wr.heap.size:=(Array.getElem?_eq_some_iff.1 (h.has p hp)).1
theorem Bxs.call {w wr wy:World} {bs:List Bx} (h:Bxs w wr bs) (hb:Below wr.heap.size wr wy):Bxs w wy bs:=⟨below_step h.below hb,fun p hp=>(hb.block _ (h.lt hp)).trans (h.has p hp)⟩
theorem Bxs.drew {w wr:World} {bs:List Bx} (h:Bxs w wr bs):Bxs w wr.drew bs:=⟨h.below.drew,h.has⟩
theorem Bxs.push {w wr:World} {bs:List Bx} (h:Bxs w wr bs) {X:Nat} {C:Array Value} {T:TypeId} (hX:wr.heap[X]?=some (.cells C T (0,0))):Bxs w wr ((X,C,T)::bs) :=
 ⟨h.below,fun p hp=>by
  rcases List.mem_cons.1 hp with rfl | hp
  ·exact hX
  ·exact h.has p hp⟩
theorem Bxs.cell {w wr:World} {bs:List Bx} (h:Bxs w wr bs) (i:Nat) {X:Nat} {C:Array Value} {T:TypeId} (hi:bs[i]?=some (X,C,T)) (j:Nat):wr.cell? ⟨X,j,none⟩=C[j]?:=by
 have:=h.has _ (List.mem_of_getElem? hi);dsimp only at this
 simp [World.cell?,this]
theorem Bxs.same {w wr wy:World} {bs:List Bx} (h:Bxs w wr bs) (hb:Below w.heap.size w wy) (hs:∀ p∈bs,wy.heap[p.1]?=wr.heap[p.1]?):Bxs w wy bs:=⟨hb,fun p hp=>(hs p hp).trans (h.has p hp)⟩
theorem Bxs.start2 (w:World) (A C:Array Value) (T U:TypeId):Bxs w ((w.alloc (.cells A T)).alloc (.cells C U)) [(w.heap.size,A,T),(w.heap.size+1,C,U)]:=by
 have s1:(w.alloc (.cells A T)).heap.size=w.heap.size+1:=by simp
 have h1:=heap_newF w (.cells A T);have h2:=heap_newF (w.alloc (.cells A T)) (.cells C U);rw [s1] at h2
 refine ⟨(bal).alloc (by simp) _,fun p hp=>?_⟩
 simp only [List.mem_cons,List.not_mem_nil,or_false] at hp
 rcases hp with rfl | rfl
 ·exact (Below.heap_alloc _ _ _ (by omega)).trans h1
 ·exact h2
theorem BookNew.lt {lo:Nat} {w:World} {x y z:Value} {ks ps:List Tri} {es:List Ent} (h:BookNew lo w x y z ks ps es) {w':World} (hs:∀ k,lo≤k→k<w.heap.size→w'.heap[k]?=w.heap[k]?):BookNew lo w' x y z ks ps es:=by
 obtain ⟨h1,h2,l,h3,h4⟩:=h;have go:∀ {e:TypeId} {c:Nat} {v:Value} {n:Nat} {xs:List Value},w.ownsRow lo e c v n xs→w'.ownsRow lo e c v n xs:=fun h=>ownsRow_sameM h (fun k hk hl=>hs k (own_ge h k hk) hl);exact ⟨go h1,go h2,l,h3,go h4.row,fun p hp=>go (h4.flds p hp),h4.apart⟩
theorem sumN_le_mul {α:Type} (g:α→Nat) (M:Nat):∀ l:List α,(∀ a∈l,g a≤M)→sumN g l≤l.length*M
 | [],_=>by simp [sumN]
 | a::l,h=>by
  have h1:=h a (by simp)
  have h2:=sumN_le_mul g M l (fun b hb=>h b (by simp [hb]))
  simp only [sumN,List.length_cons,Nat.succ_mul]
  omega
open Go.RowKit
abbrev Bk:=List Tri×List Tri×List Ent
def stepBk (b:Bk) (c:Chg):Bk:=(takeT b.1 b.2.1 b.2.2 b.1,takeT b.1 b.2.1 b.2.2 b.2.1,takeE b.1 b.2.1 b.2.2 c)
def codeBk (b:Bk) (c:Chg):Int:=takeC b.1 b.2.1 b.2.2 c
def stepsBk (b:Bk) (L:List Chg):Bk:=L.foldl stepBk b
def codesBk:Bk→List Chg→List Int
 | _,[]=>[]
 | b,c::L=>codeBk b c::codesBk (stepBk b c) L
theorem stepsBk_snoc (b:Bk) (L:List Chg) (c:Chg):stepsBk b (L++[c])=stepBk (stepsBk b L) c:=by simp [stepsBk]
theorem codesBk_snoc:∀ (L:List Chg) (b:Bk) (c:Chg),codesBk b (L++[c])=codesBk b L++[codeBk (stepsBk b L) c]
 | [],b,c=>rfl
 | d::L,b,c=>by
  show codeBk b d::codesBk (stepBk b d) (L++[c])=_
  rw [codesBk_snoc L (stepBk b d) c]
  rfl
theorem codesBk_len:∀ (L:List Chg) (b:Bk),(codesBk b L).length=L.length
 | [],b=>rfl
 | c::L,b=>by show (codesBk (stepBk b c) L).length+1=_;rw [codesBk_len L];rfl
theorem take_snocC {L:List Chg} {k:Nat} (h:k<L.length):L.take (k+1)=L.take k++[cat' L k]:=by
 rw [List.take_succ_eq_append_getElem h]
 simp [cat',h]
structure SmB (b:Bk):Prop where
 n:BNames b.1 b.2.1 b.2.2
 s:BSmall b.1 b.2.1 b.2.2
 u:sumN (fun e=>e.fs.length) b.2.2≤1048576
theorem putF_mem {fs:List Fld} {f x:Fld} (h:x∈putF fs f):x=f∨x∈fs:=by
 induction fs with
 | nil=>simp [putF] at h;exact .inl h
 | cons g l ih =>
  rw [putF] at h
  split at h
  ·rcases List.mem_cons.1 h with rfl | h
   ·exact .inr (by simp)
   ·rcases ih h with h | h
    ·exact .inl h
    ·exact .inr (by simp [h])
  ·split at h
   ·split at h
    ·rcases List.mem_cons.1 h with rfl | h
     ·exact .inl rfl
     ·exact .inr (by simp [h])
    ·exact .inr h
   ·rcases List.mem_cons.1 h with rfl | h
    ·exact .inl rfl
    ·exact .inr h
theorem putE_all {es:List Ent} (n:ByteArray) (f:Fld) {P:ByteArray→Prop} {Q:Fld→Prop} (h:∀ e∈es,P e.name∧∀ x∈e.fs,Q x) (hn:P n) (hf:Q f):∀ e∈putE es n f,P e.name∧∀ x∈e.fs,Q x:=by
 induction es with
 | nil=>intro e he;simp [putE] at he;subst he;exact ⟨hn,fun x hx=>by simp at hx;subst hx;exact hf⟩
 | cons y es ih =>
  intro e he;rw [putE] at he
  split at he
  ·rcases List.mem_cons.1 he with rfl | he
   ·refine ⟨(h y (by simp)).1,fun x hx=>?_⟩
    rcases putF_mem hx with rfl | hx
    ·exact hf
    ·exact (h y (by simp)).2 x hx
   ·exact h e (by simp [he])
  ·split at he
   ·rcases List.mem_cons.1 he with rfl | he
    ·exact h e (by simp)
    ·exact ih (fun e he=>h e (by simp [he])) e he
   ·rcases List.mem_cons.1 he with rfl | he
    ·exact ⟨hn,fun x hx=>by simp at hx;subst hx;exact hf⟩
    ·exact h e he
theorem takeE_all (ks ps:List Tri) (es:List Ent) (c:Chg) {P:ByteArray→Prop} {Q:Fld→Prop} (h:∀ e∈es,P e.name∧∀ x∈e.fs,Q x) (hn:P c.f) (hf:Q (fldC c)):∀ e∈takeE ks ps es c,P e.name∧∀ x∈e.fs,Q x:=by
 unfold takeE
 cases bookB ks ps es
 ·intro e he;cases he
 ·cases fitB ks ps c
  ·exact h
  ·cases decide (12<(putE es c.f (fldC c)).length)
   ·exact putE_all c.f (fldC c) h hn hf
   ·exact h
theorem takeT_mem {ks ps:List Tri} {es:List Ent} {l:List Tri} {t:Tri} (h:t∈takeT ks ps es l):t∈l:=by
 unfold takeT at h
 cases hb:bookB ks ps es
 ·rw [hb] at h;cases h
 ·rw [hb] at h;exact h
theorem takeE_fs (ks ps:List Tri) (es:List Ent) (c:Chg) (h:∀ e∈es,e.fs.length≤1048576):∀ e∈takeE ks ps es c,e.fs.length≤1048576:=by
 unfold takeE
 cases hb:bookB ks ps es
 ·intro e he;cases he
 ·cases fitB ks ps c
  ·exact h
  ·cases decide (12<(putE es c.f (fldC c)).length)
   ·intro e he
    have:=putE_fsM c.f (fldC c) 5 (book_fs5 hb) e he
    omega
   ·exact h
theorem takeE_len13 (ks ps:List Tri) (es:List Ent) (c:Chg):(takeE ks ps es c).length≤13∧sumN (fun e=>e.fs.length) (takeE ks ps es c)≤1048576:=by
 have go:∀ l:List Ent,l.length≤13→(∀ e∈l,e.fs.length≤6)→l.length≤13∧sumN (fun e=>e.fs.length) l≤1048576:=fun l h1 h2=>by
  have:=sumN_le_mul (fun e:Ent=>e.fs.length) 6 l h2;have:=Nat.mul_le_mul_right 6 h1
  exact ⟨h1,by omega⟩
 unfold takeE
 cases hb:bookB ks ps es
 ·exact go [] (by simp) (fun e he=>by cases he)
 ·have h12:=book_len hb
  have h5:=book_fs5 hb
  have hes:=go es (by omega) (fun e he=>by have:=h5 e he;omega)
  have hput:=go (putE es c.f (fldC c)) (by rw [putE_len c.f (fldC c) (book_names hb)];split <;> omega) (fun e he=>putE_fsM c.f (fldC c) 5 h5 e he)
  cases fitB ks ps c
  ·exact hes
  ·cases decide (12<(putE es c.f (fldC c)).length)
   ·exact hput
   ·exact hes
theorem takeT_len (ks ps:List Tri) (es:List Ent) (l:List Tri):(takeT ks ps es l).length≤l.length:=by
 unfold takeT
 cases bookB ks ps es
 ·simp
 ·exact Nat.le_refl _
theorem SmB.step {b:Bk} {c:Chg} (h:SmB b) (hf:c.f.size≤1048576) (hv:c.v.size≤1048576):SmB (stepBk b c):=by
 obtain ⟨ks,ps,es⟩:=b;have h13:=takeE_len13 ks ps es c;have hall:=takeE_all ks ps es c (P:=fun n=>n.size≤1048576) (Q:=fun f=>f.v.size≤1048576) (fun e he=>⟨h.s.n e he,h.s.v e he⟩) hf hv
 have hall2:=takeE_all ks ps es c (P:=fun n=>n.size≤maxLen) (Q:=fun f=>f.v.size≤maxLen) (fun e he=>⟨(h.n.e e he).1,(h.n.e e he).2⟩) (by unfold maxLen;omega) (by show c.v.size≤_;unfold maxLen;omega)
 refine ⟨⟨fun t ht=>h.n.k t (takeT_mem ht),fun t ht=>h.n.p t (takeT_mem ht),fun e he=>⟨(hall2 e he).1,(hall2 e he).2⟩⟩,⟨Nat.le_trans (takeT_len _ _ _ _) h.s.k,Nat.le_trans (takeT_len _ _ _ _) h.s.p,?_,takeE_fs ks ps es c h.s.f,fun e he=>(hall e he).1,fun e he=>(hall e he).2⟩,h13.2⟩
 show (takeE ks ps es c).length≤1048576
 omega
theorem SmB.steps {L:List Chg}:∀ {b:Bk},SmB b→(∀ c∈L,c.f.size≤1048576∧c.v.size≤1048576)→SmB (stepsBk b L):=by
 induction L with
 | nil=>intro b h _;exact h
 | cons c L ih=>intro b h hc;exact ih (h.step (hc c (by simp)).1 (hc c (by simp)).2) (fun d hd=>hc d (by simp [hd]))
open Go.RowKit
theorem book_of {ks ps:List Tri} {es:List Ent} (hb:baseB ks ps=true) (hl:es.length≤12) (hnm:∀ e∈es,nameB e.name=true) (hp:es.Pairwise fun a b=>blS a.name b.name=true) (hf:∀ e∈es,fieldsB ks ps e.name e.fs=true):bookB ks ps es=true:=by
 unfold bookB namesE;have eE:∀ i,i<es.length→eat es i∈es:=fun i hi=>List.mem_of_getElem? (eat_get hi);rw [hb,decide_eq_true hl,Bool.true_and,Bool.true_and,Bool.and_eq_true];refine ⟨allB_true fun i hi=>?_,allB_true fun i hi=>hf _ (eE i hi)⟩;rw [hnm _ (eE i hi),Bool.true_and];unfold ascE
 cases i with
 | zero=>rfl
 | succ i =>
  have h:=List.pairwise_iff_getElem.1 hp i (i+1) (by omega) hi (by omega)
  have e0:eat es i=es[i]:=by simp [eat,show i<es.length by omega]
  have e1:eat es (i+1)=es[i+1]:=by simp [eat,hi]
  rw [Nat.add_sub_cancel,e0,e1]
  simp only [geB]
  unfold blS at h;rw [h]
  simp
theorem fields_of {ks ps:List Tri} {n:ByteArray} {l:List Fld} (hne:l≠[]) (hs:l.Pairwise fun a b=>a.what<b.what) (hf:∀ f∈l,fitB ks ps (chgOf n f)=true):fieldsB ks ps n l=true:=by
 unfold fieldsB;rw [Bool.and_eq_true];refine ⟨allB_true fun i hi=>?_,decide_eq_true (List.length_pos_iff.2 hne)⟩;rw [hf _ (List.mem_of_getElem? (fat_get hi)),Bool.and_true];unfold ascF
 cases i with
 | zero=>rfl
 | succ i =>
  have h:=List.pairwise_iff_getElem.1 hs i (i+1) (by omega) hi (by omega)
  have e0:fat l i=l[i]:=by simp [fat,show i<l.length by omega]
  have e1:fat l (i+1)=l[i+1]:=by simp [fat,hi]
  rw [Nat.add_sub_cancel,e0,e1]
  simp
  omega
theorem putF_sorted {l:List Fld} (f:Fld) (h:l.Pairwise fun a b=>a.what<b.what):(putF l f).Pairwise fun a b=>a.what<b.what:=by
 induction l with
 | nil=>simp [putF]
 | cons g l ih =>
  have h':=List.pairwise_cons.1 h;rw [putF]
  split
  ·rename_i hlt
   refine List.pairwise_cons.2 ⟨fun x hx=>?_,ih h'.2⟩
   rcases putF_mem hx with rfl | hx
   ·exact hlt
   ·exact h'.1 x hx
  ·split
   ·rename_i he
    split
    ·exact List.pairwise_cons.2 ⟨fun x hx=>by rw [← he];exact h'.1 x hx,h'.2⟩
    ·exact h
   ·rename_i h1 h2
    refine List.pairwise_cons.2 ⟨fun x hx=>?_,h⟩
    rcases List.mem_cons.1 hx with rfl | hx
    ·omega
    ·have:=h'.1 x hx
     omega
theorem putE_each {es:List Ent} (n:ByteArray) (f:Fld):∀ e∈putE es n f,e∈es∨e=⟨n,[f]⟩ ∨ ∃ e'∈es,e'.name=n∧e=⟨n,putF e'.fs f⟩:=by
 induction es with
 | nil=>intro e he;simp [putE] at he;exact .inr (.inl he)
 | cons y es ih =>
  intro e he;rw [putE] at he
  split at he
  ·rename_i hy
   rcases List.mem_cons.1 he with rfl | he
   ·exact .inr (.inr ⟨y,by simp,hy,by rw [hy]⟩)
   ·exact .inl (by simp [he])
  ·split at he
   ·rcases List.mem_cons.1 he with rfl | he
    ·exact .inl (by simp)
    ·rcases ih e he with h | h | ⟨e',h1,h2,h3⟩
     ·exact .inl (by simp [h])
     ·exact .inr (.inl h)
     ·exact .inr (.inr ⟨e',by simp [h1],h2,h3⟩)
   ·rcases List.mem_cons.1 he with rfl | he
    ·exact .inr (.inl rfl)
    ·exact .inl he
theorem book_nm {ks ps:List Tri} {es:List Ent} (h:bookB ks ps es=true) {e:Ent} (he:e∈es):nameB e.name=true:=by
 simp only [bookB,namesE,Bool.and_eq_true] at h
 obtain ⟨i,hi,rfl⟩:=List.getElem_of_mem he;have h1:=allB_get h.2.1.2 i hi
 simp only [Bool.and_eq_true] at h1
 have e0:eat es i=es[i]:=by simp [eat,hi]
 rw [e0] at h1;exact h1.1
theorem book_put {ks ps:List Tri} {es:List Ent} {c:Chg} (h:bookB ks ps es=true) (hc:fitB ks ps c=true) (hl:(putE es c.f (fldC c)).length≤12):bookB ks ps (putE es c.f (fldC c))=true:=by
 have hcn:nameB c.f=true:=by
  simp only [fitB,Bool.and_eq_true] at hc
  exact hc.1
 refine book_of (book_base h) hl (fun e he=>?_) (putE_sorted _ _ (book_names h)) (fun e he=>?_)
 ·rcases putE_each _ _ e he with h1 | rfl | ⟨e',h1,h2,rfl⟩
  ·exact book_nm h h1
  ·exact hcn
  ·exact hcn
 ·rcases putE_each _ _ e he with h1 | rfl | ⟨e',h1,h2,rfl⟩
  ·exact book_fields h h1
  ·exact fields_of (by simp) (by simp) (fun f hf=>by simp at hf;subst hf;exact hc)
  ·have h3:=book_fields h h1
   refine fields_of (putF_ne _ _) (putF_sorted _ (fields_sorted h3)) (fun f hf=>?_)
   rcases putF_mem hf with rfl | hf
   ·exact hc
   ·rw [← h2];exact fields_fit h3 hf
theorem take_book {ks ps:List Tri} {es:List Ent} (c:Chg) (h:bookB ks ps es=true):bookB ks ps (takeE ks ps es c)=true:=by
 unfold takeE;rw [h]
 simp only [cond_true]
 cases hf:fitB ks ps c
 ·exact h
 ·simp only [cond_true]
  by_cases hl:12<(putE es c.f (fldC c)).length
  ·simp only [decide_eq_true hl,cond_true];exact h
  ·simp only [decide_eq_false hl,cond_false];exact book_put h hf (by omega)
theorem takeT_ok {ks ps:List Tri} {es:List Ent} (h:bookB ks ps es=true) (l:List Tri):takeT ks ps es l=l:=by
 unfold takeT;rw [h]
 rfl
theorem steps_ok {ks ps:List Tri}:∀ (L:List Chg) {es:List Ent},bookB ks ps es=true→∃ es',stepsBk (ks,ps,es) L=(ks,ps,es')∧bookB ks ps es'=true
 | [],es,h=>⟨es,rfl,h⟩
 | c::L,es,h=>by
  obtain ⟨es',h1,h2⟩:=steps_ok L (take_book c h);refine ⟨es',?_,h2⟩
  show stepsBk (stepBk (ks,ps,es) c) L=_
  rw [show stepBk (ks,ps,es) c=(ks,ps,takeE ks ps es c) by simp only [stepBk,takeT_ok h]]
  exact h1
theorem latC_irrefl (c:Chg):latC c c=false:=by
 unfold latC;rw [if_pos rfl];exact blS_irrefl _
theorem keyLt_irrefl (c:Chg):keyLt c c=false:=by simp [keyLt,blS_irrefl]
theorem putC_again (l:List Chg) (c:Chg):putC (putC l c) c=putC l c:=by
 induction l with
 | nil=>simp [putC,keyLt_irrefl,keyEq_self,latC_irrefl]
 | cons a l ih =>
  by_cases h1:keyLt a c=true
  ·simp only [putC,h1,if_true,ih]
  ·by_cases h2:keyEq a c=true
   ·by_cases h3:latC c a=true
    ·simp [putC,h1,h2,h3,keyLt_irrefl,keyEq_self,latC_irrefl]
    ·simp [putC,h1,h2,h3]
   ·simp [putC,h1,h2,keyLt_irrefl,keyEq_self,latC_irrefl]
theorem find_sorted {l:List Chg} (h:SortedC l) {c:Chg} (hc:c∈l) (n:Int) (v:ByteArray):l.find? (fun a=>keyEq a ⟨c.f,c.what,n,v⟩)=some c:=by
 induction l with
 | nil=>cases hc
 | cons a l ih =>
  have h':=List.pairwise_cons.1 h
  rcases List.mem_cons.1 hc with rfl | hc'
  ·rw [List.find?_cons_of_pos]
   exact keyEq_iff.2 ⟨rfl,rfl⟩
  ·rw [List.find?_cons_of_neg]
   ·exact ih h'.2 hc'
   ·have h1:=keyLt_ne (h'.1 c hc')
    intro h2;have h3:=keyEq_iff.1 h2
    rw [show keyEq a c=true from keyEq_iff.2 ⟨h3.1,h3.2⟩] at h1
    cases h1
end Go.Proofs.YtbjmgglpiakgdaaGreatDoor
