import Derived.Test.YtbjmgglpiakgdaaGreatDoorTk0
set_option maxRecDepth 100000
set_option maxHeartbeats 12800000
set_option linter.unusedSimpArgs false
set_option linter.unusedVariables false
namespace Go.Proofs.YtbjmgglpiakgdaaGreatDoor
open Go.RowKit
def IntsNew (w:World) (base:Nat) (v:Value) (l:List Int):Prop:=w.ownsRow base 3 1 v l.length (l.map (Value.int .i64))
theorem infoInt:(Tryz.prog.info? 3).map (fun i=>(i.zero,i.size,i.bytes))=some (some (.int .i64 0),1,8):=by kernel_rfl
theorem BookNew.ints {lo B n:Nat} {w w':World} {x y z v:Value} {xs:List Value} {ks ps:List Tri} {es:List Ent} (h:BookNew lo w x y z ks ps es) (hv:w.ownsRow B 3 1 v n xs) (hg:w.grownBy w' v.ownBlock):BookNew lo w' x y z ks ps es:=by
 obtain ⟨h1,h2,l,h3,h4⟩:=h
 exact ⟨ownsRow_farF h1 hg (own_apart hv h1 (by decide)),ownsRow_farF h2 hg (own_apart hv h2 (by decide)),l,h3,ownsRow_farF h4.row hg (own_apart hv h4.row (by decide)),fun p hp=>ownsRow_farF (h4.flds p hp) hg (own_apart hv (h4.flds p hp) (by decide)),h4.apart⟩
theorem Bxs.grownI {w wr wy:World} {bs:List Bx} {B n:Nat} {v:Value} {xs:List Value} (h:Bxs w wr bs) (hv:wr.ownsRow B 3 1 v n xs) (hB:w.heap.size≤B) (hg:wr.grownBy wy v.ownBlock) (hT:∀ p∈bs,3≠p.2.2):Bxs w wy bs :=
 ⟨h.below.grown hg h.below.size (fun k e=>Nat.le_trans hB (own_ge hv k e)),fun p hp=>(hg.block _ (h.lt hp) (own_other hv (h.has p hp) (hT p hp))).trans (h.has p hp)⟩
theorem IntsNew.snoc {w:World} {B:Nat} {v:Value} {l:List Int} {x:Int} (h:w.ownsRow B 3 1 v (l.length+1) (l.map (Value.int .i64)++[.int .i64 x])):IntsNew w B v (l++[x]):=by
 unfold IntsNew;rw [List.length_append,List.map_append];exact h
def allR (ks ps:List Tri) (es:List Ent) (L:List Chg):Bk:=bif bookB ks ps es then stepsBk (ks,ps,es) L else ([],[],[])
def allC (ks ps:List Tri) (es:List Ent) (L:List Chg):List Int:=bif bookB ks ps es then codesBk (ks,ps,es) L else []
theorem BookNew.slicesB {lo:Nat} {w:World} {x y z:Value} {b:Bk} (h:BookNew lo w x y z b.1 b.2.1 b.2.2):∃ a1 a2 a3 a4 a5 a6,x=.slice a1 b.1.length a2∧y=.slice a3 b.2.1.length a4∧z=.slice a5 b.2.2.length a6:=by
 obtain ⟨a1,c1,a2,c2,a3,c3,h1,h2,h3⟩:=h.slices;exact ⟨a1,c1,a2,c2,a3,c3,h1,h2,h3⟩
theorem specTakeAll_any (vk vp ve vl:Value) (ks ps:List Tri) (es:List Ent) (L:List Chg) (w:World) (hB:BookAt w vk vp ve ks ps es) (hL:ChgsAt w vl L) (hS:SmB (ks,ps,es)) (hLs:∀ c∈L,c.f.size≤1048576∧c.v.size≤1048576) (hLl:L.length≤1048576) :
  Calls Tryz.prog 8 #[.agg #[vk,vp,ve],vl] w fun e w'=>∃ x y z v,e=.returned (.tuple #[.agg #[x,y,z],v])∧BookNew w.heap.size w' x y z (allR ks ps es L).1 (allR ks ps es L).2.1 (allR ks ps es L).2.2∧IntsNew w' w.heap.size v (allC ks ps es L)∧Below w.heap.size w w':=by
 obtain ⟨i0,hi0,hz0,hz1,hz2⟩:=info_parts infoInt;have HB:Hid (BookAt w vk vp ve ks ps es):=hB;have SM:Hid (SmB (ks,ps,es)):=hS;obtain ⟨⟨ak,ck,rfl,-,-,-⟩,⟨ap,cp,rfl,-,-,-⟩,⟨ae,ce,rfl,-,-,-⟩⟩:=hB;obtain ⟨al,cl,rfl,hlc,hlm,hl3⟩:=hL;unfold maxLen at hlm;have HLA:Hid (∀ i c,L[i]?=some c→∃ b off,al=some ⟨b,off,none⟩∧ChgAt w b (off+i*4) c):=hl3;have HLS:Hid (∀ c∈L,c.f.size≤1048576∧c.v.size≤1048576):=hLs;clear hS hl3 hLs;have L0:Hid (Bxs w _ [(w.heap.size,#[.slice ak ks.length ck,.slice ap ps.length cp,.slice ae es.length ce],29),(w.heap.size+1,#[.slice none 0 0,.slice none 0 0,.slice none 0 0],29)]):=Bxs.start2 w #[.slice ak ks.length ck,.slice ap ps.length cp,.slice ae es.length ce] #[.slice none 0 0,.slice none 0 0,.slice none 0 0] 29 29;have hal0:Below ((w.alloc (.cells #[.slice ak ks.length ck,.slice ap ps.length cp,.slice ae es.length ce] 29)).alloc (.cells #[.slice none 0 0,.slice none 0 0,.slice none 0 0] 29)).heap.size ((w.alloc (.cells #[.slice ak ks.length ck,.slice ap ps.length cp,.slice ae es.length ce] 29)).alloc (.cells #[.slice none 0 0,.slice none 0 0,.slice none 0 0] 29)) (((w.alloc (.cells #[.slice ak ks.length ck,.slice ap ps.length cp,.slice ae es.length ce] 29)).alloc (.cells #[.slice none 0 0,.slice none 0 0,.slice none 0 0] 29)).alloc (.cells #[] 3)):=(bal);have L1:Hid (Bxs w (((w.alloc (.cells #[.slice ak ks.length ck,.slice ap ps.length cp,.slice ae es.length ce] 29)).alloc (.cells #[.slice none 0 0,.slice none 0 0,.slice none 0 0] 29)).alloc (.cells #[] 3)) [(w.heap.size,#[.slice ak ks.length ck,.slice ap ps.length cp,.slice ae es.length ce],29),(w.heap.size+1,#[.slice none 0 0,.slice none 0 0,.slice none 0 0],29)]):=L0.out.call hal0;have hn1:=heap_newF ((w.alloc (.cells #[.slice ak ks.length ck,.slice ap ps.length cp,.slice ae es.length ce] 29)).alloc (.cells #[.slice none 0 0,.slice none 0 0,.slice none 0 0] 29)) (.cells #[] 3)
 have hs1:((w.alloc (.cells #[.slice ak ks.length ck,.slice ap ps.length cp,.slice ae es.length ce] 29)).alloc (.cells #[.slice none 0 0,.slice none 0 0,.slice none 0 0] 29)).heap.size=w.heap.size+1+1:=by simp
 rw [hs1] at hn1
 have I1:Hid (IntsNew (((w.alloc (.cells #[.slice ak ks.length ck,.slice ap ps.length cp,.slice ae es.length ce] 29)).alloc (.cells #[.slice none 0 0,.slice none 0 0,.slice none 0 0] 29)).alloc (.cells #[] 3)) (w.heap.size+2) (.slice (some ⟨w.heap.size+1+1,0,none⟩) 0 0) []):=own_new0 hn1 (by omega) 1
 clear hal0 hn1 hs1 L0
 go_enter Tryz.func8,Tryz.ntmps8
 go_wp2_with fail;refine (specBookOk_any _ _ _ ks ps es _ (HB.out.keep L1.out.below) SM.out.n SM.out.s).mono ?_;rintro e w1 ⟨rfl,hb1⟩;have L2:Hid (Bxs w w1 [(w.heap.size,#[.slice ak ks.length ck,.slice ap ps.length cp,.slice ae es.length ce],29),(w.heap.size+1,#[.slice none 0 0,.slice none 0 0,.slice none 0 0],29)]):=L1.out.call hb1;have I2:Hid (IntsNew w1 (w.heap.size+2) (.slice (some ⟨w.heap.size+1+1,0,none⟩) 0 0) []):=ownsRow_keep I1.out hb1;clear L1 I1 hb1
 have hr1:=L2.out.has (w.heap.size+1,#[.slice none 0 0,.slice none 0 0,.slice none 0 0],29) (by simp)
 dsimp only at hr1
 have hz1':w.heap.size+1<w1.heap.size:=L2.out.lt (p:=(w.heap.size+1,#[.slice none 0 0,.slice none 0 0,.slice none 0 0],29)) (by simp)
 obtain ⟨y0,y1,y2⟩:w1.cell? ⟨w.heap.size,0,none⟩=some (.slice ak ks.length ck)∧w1.cell? ⟨w.heap.size,1,none⟩=some (.slice ap ps.length cp)∧w1.cell? ⟨w.heap.size,2,none⟩=some (.slice ae es.length ce):=⟨L2.out.cell 0 rfl 0,L2.out.cell 0 rfl 1,L2.out.cell 0 rfl 2⟩
 cases hbb:bookB ks ps es
 ·have HE:Hid (allR ks ps es L=([],[],[])∧allC ks ps es L=[]):=by
   show _∧_
   unfold allR allC;rw [hbb];exact ⟨rfl,rfl⟩
  clear hbb
  go_wp2_with (refine wpList_store_row rfl 29 _ _ rfl (w.heap.size+1) #[.slice none 0 0,.slice none 0 0,.slice none 0 0] rfl rfl 29 _ hr1 (by kernel_rfl) rfl (by simp [Value.oneCell']) ?_)
  exact bodyPost_ret (v:=.tuple #[.agg #[.slice none 0 0,.slice none 0 0,.slice none 0 0],.slice (some ⟨w.heap.size+1+1,0,none⟩) 0 0]) (by simp [results,Tryz.results8,go_sem,cell_setRow_same _ _ _ _ _ _ _ hr1]) rfl ⟨_,_,_,_,rfl,by rw [HE.out.1];exact BookNew.none _ _,by rw [HE.out.2];exact own_mono (ownsRow_farF I2.out (grown_rowF _ _ _) (fun k hk e=>by have:=own_ge I2.out k hk;injection e;omega)) (by omega),below_setRow L2.out.below (by omega) _⟩
 have HBB:Hid (bookB ks ps es=true):=hbb
 have HE:Hid (allR ks ps es L=stepsBk (ks,ps,es) L∧allC ks ps es L=codesBk (ks,ps,es) L):=by
  show _∧_
  unfold allR allC;rw [hbb];exact ⟨rfl,rfl⟩
 clear hbb hr1;go_wp2_with fail;refine (specL3Copy_any _ _ _ ks ps es _ (HB.out.keep L2.out.below) SM.out.s.k SM.out.s.p SM.out.s.e SM.out.s.f).mono ?_;rintro e w2 ⟨x,y,z,rfl,hN2,hb2⟩;obtain ⟨a1,a2,a3,a4,a5,a6,rfl,rfl,rfl⟩:=hN2.slices;have hs12:=hb2.size;have hal:Below w2.heap.size w2 (w2.alloc (.cells #[.slice a1 ks.length a2,.slice a3 ps.length a4,.slice a5 es.length a6] 29)):=(bal)
 have HI0:Hid (Bxs w (w2.alloc (.cells #[.slice a1 ks.length a2,.slice a3 ps.length a4,.slice a5 es.length a6] 29)) [(w2.heap.size,#[.slice a1 ks.length a2,.slice a3 ps.length a4,.slice a5 es.length a6],29),(w.heap.size,#[.slice ak ks.length ck,.slice ap ps.length cp,.slice ae es.length ce],29),(w.heap.size+1,#[.slice none 0 0,.slice none 0 0,.slice none 0 0],29)]∧BookNew (w.heap.size+2) (w2.alloc (.cells #[.slice a1 ks.length a2,.slice a3 ps.length a4,.slice a5 es.length a6] 29)) (.slice a1 ks.length a2) (.slice a3 ps.length a4) (.slice a5 es.length a6) ks ps es∧IntsNew (w2.alloc (.cells #[.slice a1 ks.length a2,.slice a3 ps.length a4,.slice a5 es.length a6] 29)) (w.heap.size+2) (.slice (some ⟨w.heap.size+1+1,0,none⟩) 0 0) []∧w.heap.size+2≤w2.heap.size):=⟨((L2.out.call hb2).call hal).push (heap_newF w2 _),(hN2.keep hal).mono (by omega),ownsRow_keep (ownsRow_keep I2.out hb2) hal,by omega⟩
 clear hN2 hb2 hal L2 I2 y0 y1 y2;go_wp2;generalize w2.alloc (.cells #[.slice a1 ks.length a2,.slice a3 ps.length a4,.slice a5 es.length a6] 29)=wa at *;generalize w2.heap.size=X at *
 go_loopw [8,6] (fun s8 s6 wr=>∃ (k:Nat) (a1 a3 a5:Option Addr) (a2 a4 a6:Nat),k≤L.length∧s8=.int .i64 k∧(∃ a c,s6=.slice a k c)∧Hid (Bxs w wr [(X,#[.slice a1 (stepsBk (ks,ps,es) (L.take k)).1.length a2,.slice a3 (stepsBk (ks,ps,es) (L.take k)).2.1.length a4,.slice a5 (stepsBk (ks,ps,es) (L.take k)).2.2.length a6],29),(w.heap.size,#[.slice ak ks.length ck,.slice ap ps.length cp,.slice ae es.length ce],29),(w.heap.size+1,#[.slice none 0 0,.slice none 0 0,.slice none 0 0],29)]∧BookNew (w.heap.size+2) wr (.slice a1 (stepsBk (ks,ps,es) (L.take k)).1.length a2) (.slice a3 (stepsBk (ks,ps,es) (L.take k)).2.1.length a4) (.slice a5 (stepsBk (ks,ps,es) (L.take k)).2.2.length a6) (stepsBk (ks,ps,es) (L.take k)).1 (stepsBk (ks,ps,es) (L.take k)).2.1 (stepsBk (ks,ps,es) (L.take k)).2.2∧IntsNew wr (w.heap.size+2) s6 (codesBk (ks,ps,es) (L.take k))∧w.heap.size+2≤X)) (fun s8 _ _=>L.length-(intOf s8).toNat)
 case atStart=>exact ⟨0,a1,a3,a5,a2,a4,a6,Nat.zero_le _,rfl,⟨_,_,rfl⟩,HI0.out⟩
 case round =>
  clear HI0;obtain ⟨k,a1,a3,a5,a2,a4,a6,hk,rfl,⟨va,vc,rfl⟩,HI⟩:=hrel
  by_cases hlt:k<L.length
  ·obtain ⟨b,off,rfl,hc⟩:=HLA.out k _ (cat_get hlt)
   have HC:Hid (ChgAt w b (off+k*4) (cat' L k)):=hc
   have HTS:Hid (stepsBk (ks,ps,es) (L.take (k+1))=stepBk (stepsBk (ks,ps,es) (L.take k)) (cat' L k)∧codesBk (ks,ps,es) (L.take (k+1))=(codesBk (ks,ps,es) (L.take k))++[codeBk (stepsBk (ks,ps,es) (L.take k)) (cat' L k)]):=by
    show _∧_
    rw [take_snocC hlt,stepsBk_snoc,codesBk_snoc];exact ⟨rfl,rfl⟩
   have HSK:Hid (SmB (stepsBk (ks,ps,es) (L.take k))):=SM.out.steps (fun c hc=>HLS.out c (List.mem_of_mem_take hc));have hcs:=HLS.out _ (List.mem_of_getElem? (cat_get hlt))
   have hcl:(codesBk (ks,ps,es) (L.take k)).length=k:=by rw [codesBk_len,List.length_take];omega
   have HCL:=toHidC hcl;clear hc hcl;generalize (stepsBk (ks,ps,es) (L.take k))=Bq at *;generalize (codesBk (ks,ps,es) (L.take k))=Cq at *;generalize cat' L k=c at *
   have hk0:(0:Int)≤(k:Int):=by omega
   have hk1:(k:Int)<(L.length:Int):=by omega
   go_wp2
   go_cut [9,10] (fun s9 s10 wc=>∃ (Xq:Nat) (xv yv zv:Value),s9=.pointer (some ⟨Xq,0,none⟩)∧s10=.int .i64 (codeBk Bq c)∧Hid (Below wr.heap.size wr wc∧wc.heap[Xq]?=some (.cells #[xv,yv,zv] 29 (0,0))∧BookNew wr.heap.size wc xv yv zv (stepBk Bq c).1 (stepBk Bq c).2.1 (stepBk Bq c).2.2∧wr.heap.size≤Xq))
   case first =>
    have HSS:Hid (∀ w':World,Below wr.heap.size wr w'→((w'.cell? ⟨X,0,none⟩=some (.slice a1 Bq.1.length a2)∧w'.cell? ⟨X,1,none⟩=some (.slice a3 Bq.2.1.length a4)∧w'.cell? ⟨X,2,none⟩=some (.slice a5 Bq.2.2.length a6))∧(w'.cell? ⟨b,off+k*4,none⟩=some (.string c.f)∧w'.cell? ⟨b,off+k*4+1,none⟩=some (.int .i64 c.what)∧w'.cell? ⟨b,off+k*4+2,none⟩=some (.int .i64 c.num)∧w'.cell? ⟨b,off+k*4+3,none⟩=some (.string c.v)))):=fun w' hx=>by
     have hl:=HI.out.1.call hx;have hc:=HC.out.keep hl.below nlr;exact ⟨⟨hl.cell 0 rfl 0,hl.cell 0 rfl 1,hl.cell 0 rfl 2⟩,hc⟩
    refine wp_region_noPanic ?_
    refine wp_region_held_drew (S:=fun w'=>(w'.cell? ⟨X,0,none⟩=some (.slice a1 Bq.1.length a2)∧w'.cell? ⟨X,1,none⟩=some (.slice a3 Bq.2.1.length a4)∧w'.cell? ⟨X,2,none⟩=some (.slice a5 Bq.2.2.length a6))∧(w'.cell? ⟨b,off+k*4,none⟩=some (.string c.f)∧w'.cell? ⟨b,off+k*4+1,none⟩=some (.int .i64 c.what)∧w'.cell? ⟨b,off+k*4+2,none⟩=some (.int .i64 c.num)∧w'.cell? ⟨b,off+k*4+3,none⟩=some (.string c.v))) (by kernel_rfl) ?_ (fun hHeld=>?_)
    ·exact HSS.out _ (Below.refl _ _).drew
    have HBW:Hid (Below wr.heap.size wr wr.drew):=(Below.refl _ _).drew;generalize wr.drew=W0 at *;refine tkH 0 ?_ rfl ?_ (tkH 1 ?_ rfl ?_ (tkH 2 ?_ rfl ?_ (tkH 3 ?_ rfl ?_ (tkH 4 ?_ rfl ?_ ?_))))
    iterate 5 (rotate_left;focus (intro w hSw;(try dsimp only at hSw);simp only [Act.put,tkS];go_simp;try with_reducible rfl))
    simp only [Act.put,tkS]
    clear hHeld;refine rdH2 5 9 rfl rfl (fun K hK=>?_) (fun K hK=>?_)
    ·go_simp
     refine (specTake_any _ _ _ Bq.1 Bq.2.1 Bq.2.2 c _ (HI.out.2.1.at.keep HBW.out) HSK.out.n HSK.out.s hcs.1 hcs.2).mono ?_;rintro e W1 ⟨xq,yq,zq,rfl,hNq,hbb⟩;have HB2:Hid (Below wr.heap.size wr W1):=below_step HBW.out hbb;have HN:Hid (BookNew wr.heap.size W1 xq yq zq (stepBk Bq c).1 (stepBk Bq c).2.1 (stepBk Bq c).2.2):=BookNew.mono hNq HBW.out.size;obtain ⟨b1,b2,b3,b4,b5,b6,rfl,rfl,rfl⟩:=HN.out.slicesB;have hHeld:=HSS.out _ HB2.out;refine hK.out _ _ hHeld (fun _=>?_);clear hbb hNq;clear hK K HBW;have HBW:=HB2;clear HB2;refine tkH 6 ?_ rfl ?_ (tkH 7 ?_ rfl ?_ (tkH 8 ?_ rfl ?_ ?_))
     iterate 3 (rotate_left;focus (intro w hSw;(try dsimp only at hSw);simp only [Act.put,tkS];go_simp;try with_reducible rfl))
     simp only [Act.put,tkS]
     clear hHeld;refine rdH 9 rfl (fun K hK=>?_);go_simp;have hbb:Below W1.heap.size W1 (W1.alloc (.cells #[.slice none 0 0,.slice none 0 0,.slice none 0 0] 29)):=(bal);have HB2:Hid (Below wr.heap.size wr (W1.alloc (.cells #[.slice none 0 0,.slice none 0 0,.slice none 0 0] 29))):=below_step HBW.out hbb;have HN2:=toHidC (HN.out.keep hbb);have HXB:Hid ((W1.alloc (.cells #[.slice none 0 0,.slice none 0 0,.slice none 0 0] 29)).heap[W1.heap.size]?=some (.cells #[.slice none 0 0,.slice none 0 0,.slice none 0 0] 29 (0,0))):=heap_newF W1 _;have HXL:Hid (wr.heap.size≤W1.heap.size):=HBW.out.size;refine hK.out _ _ (HSS.out _ HB2.out) (fun _=>?_);clear hbb;clear hK K HBW HN;have HBW:=HB2;clear HB2;have HN:=HN2;clear HN2;generalize (W1.alloc (.cells #[.slice none 0 0,.slice none 0 0,.slice none 0 0] 29))=W2 at *;refine rdH 10 rfl (fun K hK=>?_)
     refine step_store_rowC rfl 29 _ _ rfl (W1.heap.size) #[.slice b1 (stepBk Bq c).1.length b2,.slice b3 (stepBk Bq c).2.1.length b4,.slice b5 (stepBk Bq c).2.2.length b6] rfl rfl 29 _ HXB.out (by kernel_rfl) rfl (by simp [Value.oneCell']) ?_
     have HB2:Hid (Below wr.heap.size wr (W2.setRow (W1.heap.size) #[.slice b1 (stepBk Bq c).1.length b2,.slice b3 (stepBk Bq c).2.1.length b4,.slice b5 (stepBk Bq c).2.2.length b6])):=below_setRow HBW.out HXL.out _;have HNF:=toHidC (HN.out.box HXB.out (grown_rowF W2 (W1.heap.size) #[.slice b1 (stepBk Bq c).1.length b2,.slice b3 (stepBk Bq c).2.1.length b4,.slice b5 (stepBk Bq c).2.2.length b6]));have HXF:Hid ((W2.setRow (W1.heap.size) #[.slice b1 (stepBk Bq c).1.length b2,.slice b3 (stepBk Bq c).2.1.length b4,.slice b5 (stepBk Bq c).2.2.length b6]).heap[W1.heap.size]?=some (.cells #[.slice b1 (stepBk Bq c).1.length b2,.slice b3 (stepBk Bq c).2.1.length b4,.slice b5 (stepBk Bq c).2.2.length b6] 29 (0,0))):=setRow_heap _ _ _ _ _ _ HXB.out;have hHeld:=HSS.out _ HB2.out;refine hK.out _ _ hHeld (fun _=>?_);clear hK K;refine tkH 11 ?_ rfl ?_ ?_;rotate_left
     ·intro w hSw;(try dsimp only at hSw);go_simp;try with_reducible rfl
     simp only [Act.put,tkS]
     clear hHeld
     refine wpAnyH_done (by kernel_rfl) ?_ _
     refine NoPanic.normal ?_;go_wp2_with fail
     go_meet
     exact ⟨W1.heap.size,_,_,_,rfl,rfl,HB2.out,HXF.out,HNF.out,HXL.out⟩
    ·go_simp
     have hbb:Below W0.heap.size W0 (W0.alloc (.cells #[.slice none 0 0,.slice none 0 0,.slice none 0 0] 29)):=(bal);have HB2:Hid (Below wr.heap.size wr (W0.alloc (.cells #[.slice none 0 0,.slice none 0 0,.slice none 0 0] 29))):=below_step HBW.out hbb;have HXB:Hid ((W0.alloc (.cells #[.slice none 0 0,.slice none 0 0,.slice none 0 0] 29)).heap[W0.heap.size]?=some (.cells #[.slice none 0 0,.slice none 0 0,.slice none 0 0] 29 (0,0))):=heap_newF W0 _;have HXL:Hid (wr.heap.size≤W0.heap.size):=HBW.out.size;refine hK.out _ _ (HSS.out _ HB2.out) (fun _=>?_);clear hbb;clear hK K HBW;have HBW:=HB2;clear HB2;generalize (W0.alloc (.cells #[.slice none 0 0,.slice none 0 0,.slice none 0 0] 29))=W1 at *;refine rdH 5 rfl (fun K hK=>?_);go_simp;refine (specTake_any _ _ _ Bq.1 Bq.2.1 Bq.2.2 c _ (HI.out.2.1.at.keep HBW.out) HSK.out.n HSK.out.s hcs.1 hcs.2).mono ?_;rintro e W2 ⟨xq,yq,zq,rfl,hNq,hbb⟩;have HB2:Hid (Below wr.heap.size wr W2):=below_step HBW.out hbb;have HXB2:=toHidC ((hbb.block _ (Array.getElem?_eq_some_iff.1 HXB.out).1).trans HXB.out);have HN:Hid (BookNew wr.heap.size W2 xq yq zq (stepBk Bq c).1 (stepBk Bq c).2.1 (stepBk Bq c).2.2):=BookNew.mono hNq HBW.out.size;obtain ⟨b1,b2,b3,b4,b5,b6,rfl,rfl,rfl⟩:=HN.out.slicesB;have hHeld:=HSS.out _ HB2.out;refine hK.out _ _ hHeld (fun _=>?_);clear hbb hNq;clear hK K HBW HXB;have HBW:=HB2;clear HB2;have HXB:=HXB2;clear HXB2;refine tkH 6 ?_ rfl ?_ (tkH 7 ?_ rfl ?_ (tkH 8 ?_ rfl ?_ ?_))
     iterate 3 (rotate_left;focus (intro w hSw;(try dsimp only at hSw);simp only [Act.put,tkS];go_simp;try with_reducible rfl))
     simp only [Act.put,tkS]
     clear hHeld;refine rdH 10 rfl (fun K hK=>?_)
     refine step_store_rowC rfl 29 _ _ rfl (W0.heap.size) #[.slice b1 (stepBk Bq c).1.length b2,.slice b3 (stepBk Bq c).2.1.length b4,.slice b5 (stepBk Bq c).2.2.length b6] rfl rfl 29 _ HXB.out (by kernel_rfl) rfl (by simp [Value.oneCell']) ?_
     have HB2:Hid (Below wr.heap.size wr (W2.setRow (W0.heap.size) #[.slice b1 (stepBk Bq c).1.length b2,.slice b3 (stepBk Bq c).2.1.length b4,.slice b5 (stepBk Bq c).2.2.length b6])):=below_setRow HBW.out HXL.out _;have HNF:=toHidC (HN.out.box HXB.out (grown_rowF W2 (W0.heap.size) #[.slice b1 (stepBk Bq c).1.length b2,.slice b3 (stepBk Bq c).2.1.length b4,.slice b5 (stepBk Bq c).2.2.length b6]));have HXF:Hid ((W2.setRow (W0.heap.size) #[.slice b1 (stepBk Bq c).1.length b2,.slice b3 (stepBk Bq c).2.1.length b4,.slice b5 (stepBk Bq c).2.2.length b6]).heap[W0.heap.size]?=some (.cells #[.slice b1 (stepBk Bq c).1.length b2,.slice b3 (stepBk Bq c).2.1.length b4,.slice b5 (stepBk Bq c).2.2.length b6] 29 (0,0))):=setRow_heap _ _ _ _ _ _ HXB.out;have hHeld:=HSS.out _ HB2.out;refine hK.out _ _ hHeld (fun _=>?_);clear hK K;refine tkH 11 ?_ rfl ?_ ?_;rotate_left
     ·intro w hSw;(try dsimp only at hSw);go_simp;try with_reducible rfl
     simp only [Act.put,tkS]
     clear hHeld
     refine wpAnyH_done (by kernel_rfl) ?_ _
     refine NoPanic.normal ?_;go_wp2_with fail
     go_meet
     exact ⟨W0.heap.size,_,_,_,rfl,rfl,HB2.out,HXF.out,HNF.out,HXL.out⟩
   case rest =>
    obtain ⟨Y,xv,yv,zv,rfl,rfl,hq⟩:=hcut;obtain ⟨b1,b2,b3,b4,b5,b6,rfl,rfl,rfl⟩:=hq.out.2.2.1.slicesB;have LC:Hid (Bxs w wc [(Y,#[.slice b1 (stepBk Bq c).1.length b2,.slice b3 (stepBk Bq c).2.1.length b4,.slice b5 (stepBk Bq c).2.2.length b6],29),(X,#[.slice a1 Bq.1.length a2,.slice a3 Bq.2.1.length a4,.slice a5 Bq.2.2.length a6],29),(w.heap.size,#[.slice ak ks.length ck,.slice ap ps.length cp,.slice ae es.length ce],29),(w.heap.size+1,#[.slice none 0 0,.slice none 0 0,.slice none 0 0],29)]):=(HI.out.1.call hq.out.1).push hq.out.2.1
    have NC:Hid (BookNew (w.heap.size+2) wc (.slice b1 (stepBk Bq c).1.length b2) (.slice b3 (stepBk Bq c).2.1.length b4) (.slice b5 (stepBk Bq c).2.2.length b6) (stepBk Bq c).1 (stepBk Bq c).2.1 (stepBk Bq c).2.2):=hq.out.2.2.1.mono (by have h1:=HI.out.1.lt (p:=(w.heap.size+1,#[.slice none 0 0,.slice none 0 0,.slice none 0 0],29)) (by simp);have h2:w.heap.size+1<wr.heap.size:=h1;omega)
    have IC:Hid (IntsNew wc (w.heap.size+2) (.slice va k vc) Cq):=ownsRow_keep HI.out.2.2.1 hq.out.1;have hXl:w.heap.size+2≤X:=HI.out.2.2.2
    have hXY:X<Y:=by have h1:=HI.out.1.lt (p:=(X,#[.slice a1 Bq.1.length a2,.slice a3 Bq.2.1.length a4,.slice a5 Bq.2.2.length a6],29)) (by simp);have h2:X<wr.heap.size:=h1;have:=hq.out.2.2.2;omega
    clear hq HI;obtain ⟨t0,t1,t2⟩:wc.cell? ⟨Y,0,none⟩=some (.slice b1 (stepBk Bq c).1.length b2)∧wc.cell? ⟨Y,1,none⟩=some (.slice b3 (stepBk Bq c).2.1.length b4)∧wc.cell? ⟨Y,2,none⟩=some (.slice b5 (stepBk Bq c).2.2.length b6):=⟨LC.out.cell 0 rfl 0,LC.out.cell 0 rfl 1,LC.out.cell 0 rfl 2⟩
    have hrX:=LC.out.has (X,#[.slice a1 Bq.1.length a2,.slice a3 Bq.2.1.length a4,.slice a5 Bq.2.2.length a6],29) (by simp)
    dsimp only at hrX
    have hYz:Y<wc.heap.size:=LC.out.lt (p:=(Y,#[.slice b1 (stepBk Bq c).1.length b2,.slice b3 (stepBk Bq c).2.1.length b4,.slice b5 (stepBk Bq c).2.2.length b6],29)) (by simp)
    have LD:Hid (Bxs w (wc.setRow X #[.slice b1 (stepBk Bq c).1.length b2,.slice b3 (stepBk Bq c).2.1.length b4,.slice b5 (stepBk Bq c).2.2.length b6]) [(X,#[.slice b1 (stepBk Bq c).1.length b2,.slice b3 (stepBk Bq c).2.1.length b4,.slice b5 (stepBk Bq c).2.2.length b6],29),(w.heap.size,#[.slice ak ks.length ck,.slice ap ps.length cp,.slice ae es.length ce],29),(w.heap.size+1,#[.slice none 0 0,.slice none 0 0,.slice none 0 0],29)]):=by
     refine ⟨below_setRow LC.out.below (by omega) _,fun p hp=>?_⟩
     have hz0:=LC.out.lt (p:=(w.heap.size+1,#[.slice none 0 0,.slice none 0 0,.slice none 0 0],29)) (by simp)
     simp only [List.mem_cons,List.not_mem_nil,or_false] at hp
     rcases hp with rfl | rfl | rfl
     ·exact setRow_heap _ _ _ _ _ _ hrX
     ·exact (setRow_other _ _ _ _ (by show w.heap.size≠X;omega)).trans (LC.out.has (w.heap.size,#[.slice ak ks.length ck,.slice ap ps.length cp,.slice ae es.length ce],29) (by simp))
     ·exact (setRow_other _ _ _ _ (by show w.heap.size+1≠X;omega)).trans (LC.out.has (w.heap.size+1,#[.slice none 0 0,.slice none 0 0,.slice none 0 0],29) (by simp))
    have ND:Hid (BookNew (w.heap.size+2) (wc.setRow X #[.slice b1 (stepBk Bq c).1.length b2,.slice b3 (stepBk Bq c).2.1.length b4,.slice b5 (stepBk Bq c).2.2.length b6]) (.slice b1 (stepBk Bq c).1.length b2) (.slice b3 (stepBk Bq c).2.1.length b4) (.slice b5 (stepBk Bq c).2.2.length b6) (stepBk Bq c).1 (stepBk Bq c).2.1 (stepBk Bq c).2.2):=NC.out.box hrX (grown_rowF wc X _)
    have ID:Hid (IntsNew (wc.setRow X #[.slice b1 (stepBk Bq c).1.length b2,.slice b3 (stepBk Bq c).2.1.length b4,.slice b5 (stepBk Bq c).2.2.length b6]) (w.heap.size+2) (.slice va k vc) Cq):=ownsRow_farF IC.out (grown_rowF wc X _) (fun q hq e=>own_other IC.out hrX (by decide) (by rw [← e];exact hq.symm))
    clear NC IC
    go_upto_region 10 with (refine wpList_store_row rfl 29 _ _ rfl X #[.slice b1 (stepBk Bq c).1.length b2,.slice b3 (stepBk Bq c).2.1.length b4,.slice b5 (stepBk Bq c).2.2.length b6] rfl rfl 29 _ hrX (by kernel_rfl) rfl (by simp [Value.oneCell']) ?_)
    generalize wc.setRow X #[.slice b1 (stepBk Bq c).1.length b2,.slice b3 (stepBk Bq c).2.1.length b4,.slice b5 (stepBk Bq c).2.2.length b6]=wd at *;clear t0 t1 t2 hrX LC hYz hXY
    have hzd:w.heap.size+1<wd.heap.size:=LD.out.lt (p:=(w.heap.size+1,#[.slice none 0 0,.slice none 0 0,.slice none 0 0],29)) (by simp)
    have hid:=ID.out;unfold IntsNew at hid;rw [HCL.out] at hid
    go_wp2_with (at_builtin;refine wpList_append_any _ rfl _ _ 33 rfl (w.heap.size+2) 3 i0 _ 1 8 Tryz.underlying33 hi0 hz0 hz1 hz2 rfl (by decide) _ k _ rfl (ownsRow_keep hid (bal)) _ 1 1 [.int .i64 (codeBk Bq c)] rfl (.inr ⟨_,rfl,World.news_of_block (heap_newF wd (.cells #[.int .i64 (codeBk Bq c)] 3))⟩) rfl (fun u hu=>by simp at hu;subst hu;rfl) (by unfold maxLen;omega) (by omega) (by simp;omega) ?_;intro vq wx hown hgrow hat)
    have hke:Below wd.heap.size wd (wd.alloc (.cells #[.int .i64 (codeBk Bq c)] 3)):=(bal);have hok:=ownsRow_keep hid hke
    have LF:Hid (Bxs w wx [(X,#[.slice b1 (stepBk Bq c).1.length b2,.slice b3 (stepBk Bq c).2.1.length b4,.slice b5 (stepBk Bq c).2.2.length b6],29),(w.heap.size,#[.slice ak ks.length ck,.slice ap ps.length cp,.slice ae es.length ce],29),(w.heap.size+1,#[.slice none 0 0,.slice none 0 0,.slice none 0 0],29)]):=(LD.out.call hke).grownI hok (by omega) hgrow (fun p hp=>by simp only [List.mem_cons,List.not_mem_nil,or_false] at hp;rcases hp with rfl | rfl | rfl <;> (show 3≠29;decide))
    have NF:Hid (BookNew (w.heap.size+2) wx (.slice b1 (stepBk Bq c).1.length b2) (.slice b3 (stepBk Bq c).2.1.length b4) (.slice b5 (stepBk Bq c).2.2.length b6) (stepBk Bq c).1 (stepBk Bq c).2.1 (stepBk Bq c).2.2):=(ND.out.keep hke).ints hok hgrow
    have IF:Hid (IntsNew wx (w.heap.size+2) vq (Cq++[codeBk Bq c])):=IntsNew.snoc (by rw [HCL.out];exact hown)
    obtain ⟨qa,qc,rfl⟩:=own_slice hown
    have HF:Hid (Bxs w wx [(X,#[.slice b1 (stepsBk (ks,ps,es) (L.take (k+1))).1.length b2,.slice b3 (stepsBk (ks,ps,es) (L.take (k+1))).2.1.length b4,.slice b5 (stepsBk (ks,ps,es) (L.take (k+1))).2.2.length b6],29),(w.heap.size,#[.slice ak ks.length ck,.slice ap ps.length cp,.slice ae es.length ce],29),(w.heap.size+1,#[.slice none 0 0,.slice none 0 0,.slice none 0 0],29)]∧BookNew (w.heap.size+2) wx (.slice b1 (stepsBk (ks,ps,es) (L.take (k+1))).1.length b2) (.slice b3 (stepsBk (ks,ps,es) (L.take (k+1))).2.1.length b4) (.slice b5 (stepsBk (ks,ps,es) (L.take (k+1))).2.2.length b6) (stepsBk (ks,ps,es) (L.take (k+1))).1 (stepsBk (ks,ps,es) (L.take (k+1))).2.1 (stepsBk (ks,ps,es) (L.take (k+1))).2.2∧IntsNew wx (w.heap.size+2) (.slice qa (k+1) qc) (codesBk (ks,ps,es) (L.take (k+1)))∧w.heap.size+2≤X):=by
     rw [HTS.out.1,HTS.out.2];exact ⟨LF.out,NF.out,IF.out,hXl⟩
    exact ⟨⟨k+1,b1,b3,b5,b2,b4,b6,by omega,by go_num,⟨_,_,rfl⟩,HF⟩,by simp [intOf];omega⟩
  ·have HF:Hid (Bxs w wr [(X,#[.slice a1 (stepsBk (ks,ps,es) L).1.length a2,.slice a3 (stepsBk (ks,ps,es) L).2.1.length a4,.slice a5 (stepsBk (ks,ps,es) L).2.2.length a6],29),(w.heap.size,#[.slice ak ks.length ck,.slice ap ps.length cp,.slice ae es.length ce],29),(w.heap.size+1,#[.slice none 0 0,.slice none 0 0,.slice none 0 0],29)]∧BookNew (w.heap.size+2) wr (.slice a1 (stepsBk (ks,ps,es) L).1.length a2) (.slice a3 (stepsBk (ks,ps,es) L).2.1.length a4) (.slice a5 (stepsBk (ks,ps,es) L).2.2.length a6) (stepsBk (ks,ps,es) L).1 (stepsBk (ks,ps,es) L).2.1 (stepsBk (ks,ps,es) L).2.2∧IntsNew wr (w.heap.size+2) (.slice va k vc) (codesBk (ks,ps,es) L)∧w.heap.size+2≤X):=by
    have h:=HI.out
    rw [List.take_of_length_le (show L.length≤k by omega)] at h
    exact h
   clear HI;obtain ⟨t0,t1,t2⟩:wr.cell? ⟨X,0,none⟩=some (.slice a1 (stepsBk (ks,ps,es) L).1.length a2)∧wr.cell? ⟨X,1,none⟩=some (.slice a3 (stepsBk (ks,ps,es) L).2.1.length a4)∧wr.cell? ⟨X,2,none⟩=some (.slice a5 (stepsBk (ks,ps,es) L).2.2.length a6):=⟨HF.out.1.cell 0 rfl 0,HF.out.1.cell 0 rfl 1,HF.out.1.cell 0 rfl 2⟩
   have hr:=HF.out.1.has (w.heap.size+1,#[.slice none 0 0,.slice none 0 0,.slice none 0 0],29) (by simp)
   dsimp only at hr;generalize stepsBk (ks,ps,es) L=Bq at *
   go_wp2_with (refine wpList_store_row rfl 29 _ _ rfl (w.heap.size+1) #[.slice a1 Bq.1.length a2,.slice a3 Bq.2.1.length a4,.slice a5 Bq.2.2.length a6] rfl rfl 29 _ hr (by kernel_rfl) rfl (by simp [Value.oneCell']) ?_)
   exact bodyPost_ret (v:=.tuple #[.agg #[.slice a1 Bq.1.length a2,.slice a3 Bq.2.1.length a4,.slice a5 Bq.2.2.length a6],.slice va k vc]) (by simp [results,Tryz.results8,go_sem,cell_setRow_same _ _ _ _ _ _ _ hr]) rfl ⟨_,_,_,_,rfl,by rw [HE.out.1];exact (HF.out.2.1.far (grown_rowF wr (w.heap.size+1) _) (by omega)).mono (by omega),by rw [HE.out.2];exact own_mono (ownsRow_farF HF.out.2.2.1 (grown_rowF wr (w.heap.size+1) _) (fun q hq e=>by have:=own_ge HF.out.2.2.1 q hq;injection e;omega)) (by omega),below_setRow HF.out.1.below (by omega) _⟩
open Go.RowKit
def fnd (l:List Chg) (k:Chg):Option Chg:=l.find? fun a=>keyEq a k
def btr (o:Option Chg) (c:Chg):Option Chg:=match o with
 | none=>some c
 | some a=>if latC c a then some c else some a
theorem keyEq_fun {c k:Chg} (h:keyEq c k=true):(fun a=>keyEq a c)=fun a=>keyEq a k:=by
 obtain ⟨h1,h2⟩:=keyEq_iff.1 h
 funext a
 simp [keyEq,h1,h2]
theorem fnd_put {l:List Chg} (c k:Chg) (h:SortedC l):fnd (putC l c) k=if keyEq c k then btr (fnd l k) c else fnd l k:=by
 unfold fnd;rw [putC_find c k h]
 cases hk:keyEq c k
 ·rfl
 ·have hf:=keyEq_fun hk
  simp only [if_true]
  unfold newB;rw [hf]
  cases l.find? fun a=>keyEq a k with
  | none=>rfl
  | some a=>rfl
theorem fnd_some {l:List Chg} {k a:Chg} (h:fnd l k=some a):a∈l∧keyEq a k=true:=⟨List.mem_of_find?_eq_some h,by simpa using List.find?_some h⟩
theorem fnd_self {l:List Chg} {a:Chg} (h:SortedC l) (ha:a∈l):fnd l a=some a:=find_sorted h ha a.num a.v
theorem keyLt_self (a:Chg):keyLt a a=false:=keyLt_irrefl a
theorem sorted_ext:∀ {l m:List Chg},SortedC l→SortedC m→(∀ k,fnd l k=fnd m k)→l=m
 | [],[],_,_,_=>rfl
 | [],b::m,_,hm,h=>by
  have h1:=fnd_self hm (a:=b) (by simp)
  rw [← h b] at h1
  cases h1
 | a::l,[],hl,_,h=>by
  have h1:=fnd_self hl (a:=a) (by simp)
  rw [h a] at h1
  cases h1
 | a::l,b::m,hl,hm,h=>by
  have hl':=List.pairwise_cons.1 hl;have hm':=List.pairwise_cons.1 hm
  have h1:=fnd_self hl (a:=a) (by simp)
  rw [h a] at h1
  have h2:=fnd_self hm (a:=b) (by simp)
  rw [← h b] at h2
  have e:a=b:=by
   rcases List.mem_cons.1 (fnd_some h1).1 with e | e
   ·exact e
   ·rcases List.mem_cons.1 (fnd_some h2).1 with e2 | e2
    ·exact e2.symm
    ·have h3:=keyLt_trans (hm'.1 a e) (hl'.1 b e2)
     rw [keyLt_self] at h3
     cases h3
  subst e
  have ht:∀ k,fnd l k=fnd m k:=fun k=>by
   cases hk:keyEq a k
   ·have h3:=h k
    unfold fnd at h3 ⊢
    rw [List.find?_cons_of_neg (by simp [hk]),List.find?_cons_of_neg (by simp [hk])] at h3
    exact h3
   ·have no:∀ {x:List Chg},(∀ y∈x,keyLt a y=true)→fnd x k=none:=fun {x} hx=>by
     unfold fnd;refine List.find?_eq_none.2 fun y hy=>?_;have h4:=keyLt_ne (hx y hy);intro h5;obtain ⟨q1,q2⟩:=keyEq_iff.1 hk
     obtain ⟨r1,r2⟩:=keyEq_iff.1 (by simpa using h5)
     rw [keyEq_iff.2 ⟨q1.trans r1.symm,q2.trans r2.symm⟩] at h4
     cases h4
    rw [no hl'.1,no hm'.1]
  rw [sorted_ext hl'.2 hm'.2 ht]
theorem latC_trans {a b c:Chg} (h:latC a b=true) (k:latC b c=true):latC a c=true:=by
 unfold latC at *
 split at h
 ·rename_i e1
  split at k
  ·rename_i e2
   rw [if_pos (e1.trans e2)];exact blS_trans k h
  ·rename_i e2
   rw [if_neg (by rw [e1];exact e2),e1]
   exact k
 ·rename_i e1
  have h1:b.num<a.num:=of_decide_eq_true h
  split at k
  ·rename_i e2
   rw [if_neg (by omega)]
   exact decide_eq_true (by omega)
  ·have h2:c.num<b.num:=of_decide_eq_true k
   rw [if_neg (by omega)]
   exact decide_eq_true (by omega)
theorem latC_asymm {a b:Chg} (h:latC a b=true):latC b a=false:=by
 cases k:latC b a
 ·rfl
 ·have:=latC_trans h k
  rw [latC_irrefl] at this
  cases this
theorem latC_total {a b:Chg} (hk:keyEq a b=true) (h:latC a b=false) (k:latC b a=false):a=b:=by
 obtain ⟨h1,h2⟩:=keyEq_iff.1 hk;obtain ⟨f,wh,n,v⟩:=a;obtain ⟨f',wh',n',v'⟩:=b;dsimp only at h1 h2;subst h1;subst h2;unfold latC at h k;dsimp only at h k
 by_cases e:n=n'
 ·subst e
  rw [if_pos rfl] at h k;rw [blS_total h k]
 ·rw [if_neg e] at h
  rw [if_neg (fun q=>e q.symm)] at k;have:=of_decide_eq_false h;have:=of_decide_eq_false k
  omega
theorem btr_comm (o:Option Chg) {a b:Chg} (hk:keyEq a b=true):btr (btr o a) b=btr (btr o b) a:=by
 have two:(if latC b a=true then some b else some a)=if latC a b=true then some a else some b:=by
  cases h1:latC a b
  ·cases h2:latC b a
   ·rw [latC_total hk h1 h2]
   ·rfl
  ·rw [latC_asymm h1];rfl
 cases o with
 | none=>exact two
 | some x =>
  unfold btr
  cases h1:latC a x
  ·cases h2:latC b x
   ·simp [h1,h2]
   ·have h3:latC a b=false:=by
     cases h3:latC a b
     ·rfl
     ·rw [latC_trans h3 h2] at h1;cases h1
    simp [h1,h2,h3]
  ·cases h2:latC b x
   ·have h3:latC b a=false:=by
     cases h3:latC b a
     ·rfl
     ·rw [latC_trans h3 h1] at h2;cases h2
    simp [h1,h2,h3]
   ·simpa [h1,h2] using two
theorem putC_comm {l:List Chg} (h:SortedC l) (a b:Chg):putC (putC l a) b=putC (putC l b) a:=by
 refine sorted_ext (putC_sorted _ (putC_sorted _ h)) (putC_sorted _ (putC_sorted _ h)) fun k=>?_;rw [fnd_put b k (putC_sorted _ h),fnd_put a k h,fnd_put a k (putC_sorted _ h),fnd_put b k h]
 cases ha:keyEq a k
 ·cases hb:keyEq b k <;> simp
 ·cases hb:keyEq b k
  ·simp
  ·have hab:keyEq a b=true:=by
    obtain ⟨q1,q2⟩:=keyEq_iff.1 ha;obtain ⟨r1,r2⟩:=keyEq_iff.1 hb;exact keyEq_iff.2 ⟨q1.trans r1.symm,q2.trans r2.symm⟩
   simpa using btr_comm _ hab
theorem fold_perm {L M:List Chg} (hp:L.Perm M):∀ {l:List Chg},SortedC l→L.foldl putC l=M.foldl putC l:=by
 induction hp with
 | nil=>intro l _;rfl
 | cons x _ ih=>intro l h;exact ih (putC_sorted x h)
 | swap x y L=>intro l h;show L.foldl putC (putC (putC l y) x)=L.foldl putC (putC (putC l x) y);rw [putC_comm h]
 | trans _ _ i1 i2=>intro l h;exact (i1 h).trans (i2 h)
theorem fold_twice:∀ (L:List Chg) {l:List Chg},(L.flatMap fun c=>[c,c]).foldl putC l=L.foldl putC l
 | [],l=>rfl
 | c::L,l=>by
  show (L.flatMap fun c=>[c,c]).foldl putC (putC (putC l c) c)=L.foldl putC (putC l c)
  rw [putC_again];exact fold_twice L
theorem ents_eq {es es':List Ent} (h1:es.Pairwise fun a b=>blS a.name b.name=true) (n1:∀ e∈es,e.fs≠[]) (h2:es'.Pairwise fun a b=>blS a.name b.name=true) (n2:∀ e∈es',e.fs≠[]) (h:chgsOf es=chgsOf es'):es=es':=by
 rw [← grp_self n1 (putE_apart h1),← grp_self n2 (putE_apart h2),h]
theorem putEs_eq {es es':List Ent} {L M:List Chg} (h1:es.Pairwise fun a b=>blS a.name b.name=true) (n1:∀ e∈es,e.fs≠[]) (h2:es'.Pairwise fun a b=>blS a.name b.name=true) (n2:∀ e∈es',e.fs≠[]) (h:L.foldl putC (chgsOf es)=M.foldl putC (chgsOf es')):putEs es L=putEs es' M :=
 ents_eq (putEs_sorted _ _ h1) (putEs_ne _ _ n1) (putEs_sorted _ _ h2) (putEs_ne _ _ n2) (by rw [putEs_chgs _ _ h1,putEs_chgs _ _ h2,h])
theorem putE_grow (es:List Ent) (n:ByteArray) (f:Fld):es.length≤(putE es n f).length:=by
 induction es with
 | nil=>exact Nat.zero_le _
 | cons e es ih =>
  rw [putE]
  split
  ·simp
  ·split
   ·simp only [List.length_cons];omega
   ·simp
theorem putEs_grow:∀ (cs:List Chg) (es:List Ent),es.length≤(putEs es cs).length
 | [],es=>Nat.le_refl _
 | c::cs,es=>Nat.le_trans (putE_grow es c.f (fldC c)) (putEs_grow cs _)
theorem steps_put {ks ps:List Tri}:∀ (L:List Chg) {es:List Ent},bookB ks ps es=true→(putEs es (L.filter (fitB ks ps))).length≤12→stepsBk (ks,ps,es) L=(ks,ps,putEs es (L.filter (fitB ks ps)))∧bookB ks ps (putEs es (L.filter (fitB ks ps)))=true
 | [],es,h,_=>⟨rfl,h⟩
 | c::L,es,h,hl=>by
  have hs:stepBk (ks,ps,es) c=(ks,ps,takeE ks ps es c):=by simp only [stepBk,takeT_ok h]
  show stepsBk (stepBk (ks,ps,es) c) L=_∧_
  rw [hs];rw [List.filter_cons] at hl ⊢
  cases hf:fitB ks ps c
  ·have e:takeE ks ps es c=es:=by unfold takeE;rw [h,hf];rfl
   simp only [hf,Bool.false_eq_true,if_false] at hl ⊢
   rw [e];exact steps_put L h hl
  ·simp only [hf,if_true] at hl ⊢
   have hl2:(putE es c.f (fldC c)).length≤12:=Nat.le_trans (putEs_grow _ _) hl
   have e:takeE ks ps es c=putE es c.f (fldC c):=by
    unfold takeE;rw [h,hf]
    simp only [cond_true,decide_eq_false (show ¬ 12<(putE es c.f (fldC c)).length by omega),cond_false]
   rw [e];exact steps_put L (book_put h hf hl2) hl
theorem steps_no3 {ks ps:List Tri}:∀ (L:List Chg) {es:List Ent},bookB ks ps es=true→(∀ k∈codesBk (ks,ps,es) L,k≠3)→stepsBk (ks,ps,es) L=(ks,ps,putEs es (L.filter (fitB ks ps)))
 | [],es,h,_=>rfl
 | c::L,es,h,hn=>by
  have hs:stepBk (ks,ps,es) c=(ks,ps,takeE ks ps es c):=by simp only [stepBk,takeT_ok h]
  have h0:takeC ks ps es c≠3:=hn _ (by show takeC ks ps es c∈codeBk (ks,ps,es) c::_;exact List.mem_cons_self ..)
  have h1:∀ k∈codesBk (ks,ps,takeE ks ps es c) L,k≠3:=fun k hk=>hn k (by show k∈_::codesBk (stepBk (ks,ps,es) c) L;rw [hs];exact List.mem_cons_of_mem _ hk)
  show stepsBk (stepBk (ks,ps,es) c) L=_
  rw [hs,steps_no3 L (take_book c h) h1,List.filter_cons]
  cases hf:fitB ks ps c
  ·have e:takeE ks ps es c=es:=by unfold takeE;rw [h,hf];rfl
   rw [e]
   simp
  ·have e:takeE ks ps es c=putE es c.f (fldC c):=by
    unfold takeE;unfold takeC at h0;rw [h,hf] at h0 ⊢
    cases hd:decide (12<(putE es c.f (fldC c)).length)
    ·rfl
    ·rw [hd] at h0;exact absurd rfl h0
   rw [e]
   rfl
theorem round_one {ks ps:List Tri} {es:List Ent} {L:List Chg} (h:bookB ks ps es=true) (hn:∀ k∈codesBk (ks,ps,es) L,k≠3):stepsBk (ks,ps,es) (L.reverse.flatMap fun c=>[c,c])=stepsBk (ks,ps,es) L:=by
 have e0:=steps_no3 L h hn
 have hlen:(putEs es (L.filter (fitB ks ps))).length≤12:=by
  obtain ⟨es',h1,h2⟩:=steps_ok L h;rw [h1] at e0
  injection e0 with _ e0
  injection e0 with _ e0
  rw [← e0];exact book_len h2
 have ef:(L.reverse.flatMap fun c=>[c,c]).filter (fitB ks ps)=(L.filter (fitB ks ps)).reverse.flatMap fun c=>[c,c]:=by
  rw [List.filter_flatMap,← List.filter_reverse]
  induction L.reverse with
  | nil=>rfl
  | cons c M ih =>
   rw [List.flatMap_cons,ih]
   cases hf:fitB ks ps c
   ·rw [List.filter_cons_of_neg (by simp [hf]),List.filter_cons_of_neg (by simp [hf]),List.filter_cons_of_neg (by simp [hf])]
    rfl
   ·rw [List.filter_cons_of_pos hf,List.filter_cons_of_pos hf,List.filter_cons_of_pos hf]
    rfl
 have ep:putEs es ((L.reverse.flatMap fun c=>[c,c]).filter (fitB ks ps))=putEs es (L.filter (fitB ks ps)):=by
  refine putEs_eq (book_names h) (book_ne h) (book_names h) (book_ne h) ?_;rw [ef,fold_twice];exact fold_perm (List.reverse_perm _) (book_sorted h)
 rw [(steps_put _ h (by rw [ep];exact hlen)).1,ep,e0]
open Go.RowKit
attribute [local go_sem] Later.cell Later.frozen
def IntsA (w:World) (v:Value) (l:List Int):Prop:=∃ a cap,v=.slice a l.length cap∧l.length≤cap∧cap≤maxLen∧∀ i t,l[i]?=some t→∃ g,a=some ⟨g,0,none⟩∧w.cell? ⟨g,i,none⟩=some (.int .i64 t)
theorem IntsNew.a {w:World} {B:Nat} {v:Value} {l:List Int} (h:IntsNew w B v l):IntsA w v l:=by
  rcases h.2 with ⟨hv,h0⟩ | ⟨g,cap,cur,hv,_,hg,hn,hc,hs,ht⟩
  · have:l=[]:=List.length_eq_zero_iff.1 h0
    subst this
    exact ⟨none,0,hv,Nat.le_refl _,Nat.zero_le _,fun i t ht=>by simp at ht⟩
  · refine ⟨some ⟨g,0,none⟩,cap,hv,hn,hc,fun i t hi=>⟨g,rfl,?_⟩⟩
    have hil:i<l.length:=(List.getElem?_eq_some_iff.1 hi).1
    have e:(cur.toList.take (l.length*1))[i]?=some (.int .i64 t):=by rw [ht];simp [hi]
    rw [List.getElem?_take,if_pos (by omega)] at e
    simp only [World.cell?,hg]
    simpa using e
theorem IntsA.keep {w w':World} {v:Value} {l:List Int} (h:IntsA w v l) (hb:Below w.heap.size w w'):IntsA w' v l:=by
  obtain ⟨a,cap,h1,h2,h3,h4⟩:=h;refine ⟨a,cap,h1,h2,h3,fun i t ht=>?_⟩;obtain ⟨g,ha,hc⟩:=h4 i t ht;exact ⟨g,ha,cell_keep hb nlr hc⟩
def iat' (l:List Int) (i:Nat):Int:=l.getD i 0
theorem iat_get {l:List Int} {i:Nat} (h:i<l.length):l[i]?=some (iat' l i):=by simp [iat',h]
theorem wInts_same (u v : Value) (L : List Int) (w : World) (hu : IntsA w u L) (hv : IntsA w v L) (hL : L.length ≤ 1048576) :
    Calls Tryz.prog 10 #[u,v] w fun e w'=>e=.returned (.bool true)∧Below w.heap.size w w':=by
  obtain ⟨a,c,rfl,-,m1,h1⟩:=hu;obtain ⟨a',c',rfl,-,m2,h2⟩:=hv;unfold maxLen at m1 m2;have H1:Hid (∀ i t,L[i]?=some t→∃ g,a=some ⟨g,0,none⟩∧w.cell? ⟨g,i,none⟩=some (.int .i64 t)):=h1;have H2:Hid (∀ i t,L[i]?=some t→∃ g,a'=some ⟨g,0,none⟩∧w.cell? ⟨g,i,none⟩=some (.int .i64 t)):=h2;clear h1 h2
  go_enter Tryz.func10,Tryz.ntmps10
  go_wp2
  go_loopw [5] (fun i wr=>∃ k:Nat,k≤L.length∧i=.int .i64 k∧Hid (Below w.heap.size w wr)) (fun i _=>L.length-(intOf i).toNat)
  case atStart=>exact ⟨0,Nat.zero_le _,rfl,Below.refl _ _⟩
  case round =>
    obtain ⟨k,hk,rfl,HX⟩:=hrel
    by_cases hlt:k<L.length
    · obtain ⟨b,rfl,d0⟩:=H1.out k _ (iat_get hlt)
      obtain ⟨b',rfl,e0⟩:=H2.out k _ (iat_get hlt);generalize iat' L k=cc at *;have s0:=cell_keep HX.out nlr d0;have r0:=cell_keep HX.out nlr e0;have z3:=lt_of_cell s0;have z4:=lt_of_cell r0;clear d0 e0
      have hj0:(0:Int)≤(k:Int):=by omega
      have hj1:(k:Int)<(L.length:Int):=by omega
      have hne:=Later.some wr;go_wp2
      first
        | (refine wp_region_later (by kernel_rfl) (by kernel_rfl) ?_
           repeat (go_big_quiet_step (fail))
           refine wpQuiet_nil ?_;rintro _ ⟨x,rfl⟩;have HB2:Hid (Below w.heap.size w x.val):=below_step HX.out x.below;go_wp2
           exact ⟨⟨k+1,by omega,by go_num,HB2⟩,by simp [intOf];omega⟩)
        | exact ⟨⟨k+1,by omega,by go_num,HX⟩,by simp [intOf];omega⟩
    · have hke:k=L.length:=by omega
      subst hke;go_wp2;go_ret;exact ⟨rfl,HX.out⟩
end Go.Proofs.YtbjmgglpiakgdaaGreatDoor
