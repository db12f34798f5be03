import Derived.Test.YtcmgddnckohdaaaGreatDoorBxr
set_option maxRecDepth 100000
set_option maxHeartbeats 12800000
namespace Go.Proofs.YtcmgddnckohdaaaGreatDoor
open Go.RowKit
set_option linter.unusedSimpArgs false
set_option linter.unusedVariables false
def IntsNew (w:World) (base:Nat) (v:Value) (l:List Int):Prop:=w.ownsRow base 3 1 v l.length (l.map (Value.int .i64))
theorem infoInt:(Tryz.prog.info? 3).map (fun i=>(i.zero,i.size,i.bytes))=some (some (.int .i64 0),1,8):=by kernel_rfl
theorem BookNew.ints {lo B n:Nat} {w w':World} {x y z v:Value} {xs:List Value} {ks ps:List Tri} {es:List Ent} (h:BookNew lo w x y z ks ps es) (hv:w.ownsRow B 3 1 v n xs) (hg:w.grownBy w' v.ownBlock):BookNew lo w' x y z ks ps es:=by
 obtain ⟨h1,h2,l,h3,h4⟩:=h
 exact ⟨an h1 hg (aM hv h1 (by decide)),an h2 hg (aM hv h2 (by decide)),l,h3,an h4.row hg (aM hv h4.row (by decide)),fun p hp=>an (h4.flds p hp) hg (aM hv (h4.flds p hp) (by decide)),h4.apart⟩
theorem Bxs.grownI {w wr wy:World} {bs:List Bx} {B n:Nat} {v:Value} {xs:List Value} (h:Bxs w wr bs) (hv:wr.ownsRow B 3 1 v n xs) (hB:w.heap.size≤B) (hg:wr.grownBy wy v.ownBlock) (hT:∀ p∈bs,3≠p.2.2):Bxs w wy bs :=
 ⟨h.below.grown hg h.below.size (fun k e=>Nat.le_trans hB (ax hv k e)),fun p hp=>(hg.block _ (h.lt hp) (bc hv (h.has p hp) (hT p hp))).trans (h.has p hp)⟩
theorem IntsNew.snoc {w:World} {B:Nat} {v:Value} {l:List Int} {x:Int} (h:w.ownsRow B 3 1 v (l.length+1) (l.map (Value.int .i64)++[.int .i64 x])):IntsNew w B v (l++[x]):=by
 unfold IntsNew;rw [List.length_append,List.map_append];exact h
def allR (ks ps:List Tri) (es:List Ent) (L:List Chg):Bk:=bif bookB ks ps es then stepsBk (ks,ps,es) L else ([],[],[])
def allC (ks ps:List Tri) (es:List Ent) (L:List Chg):List Int:=bif bookB ks ps es then codesBk (ks,ps,es) L else []
theorem BookNew.slicesB {lo:Nat} {w:World} {x y z:Value} {b:Bk} (h:BookNew lo w x y z b.1 b.2.1 b.2.2):∃ a1 a2 a3 a4 a5 a6,x=.slice a1 b.1.length a2∧y=.slice a3 b.2.1.length a4∧z=.slice a5 b.2.2.length a6:=by
 obtain ⟨a1,c1,a2,c2,a3,c3,h1,h2,h3⟩:=h.slices;exact ⟨a1,c1,a2,c2,a3,c3,h1,h2,h3⟩
theorem specTakeAll_any (vk vp ve vl:Value) (ks ps:List Tri) (es:List Ent) (L:List Chg) (w:World) (hB:BookAt w vk vp ve ks ps es) (hL:ChgsAt w vl L) (hS:SmB (ks,ps,es)) (hLs:∀ c∈L,c.f.size≤1048576∧c.v.size≤1048576) (hLl:L.length≤1048576) :
  Calls Tryz.prog 111 #[.agg #[vk,vp,ve],vl] w fun e w'=>∃ x y z v,e=.returned (.tuple #[.agg #[x,y,z],v])∧BookNew w.heap.size w' x y z (allR ks ps es L).1 (allR ks ps es L).2.1 (allR ks ps es L).2.2∧IntsNew w' w.heap.size v (allC ks ps es L)∧Below w.heap.size w w':=by
 obtain ⟨i0,hi0,hz0,hz1,hz2⟩:=info_parts infoInt;have HB:Hid (BookAt w vk vp ve ks ps es):=hB;have SM:Hid (SmB (ks,ps,es)):=hS;obtain ⟨⟨ak,ck,rfl,-,-,-⟩,⟨ap,cp,rfl,-,-,-⟩,⟨ae,ce,rfl,-,-,-⟩⟩:=hB;obtain ⟨al,cl,rfl,hlc,hlm,hl3⟩:=hL;unfold maxLen at hlm;have HLA:Hid (∀ i c,L[i]?=some c→∃ b off,al=some ⟨b,off,none⟩∧ChgAt w b (off+i*4) c):=hl3;have HLS:Hid (∀ c∈L,c.f.size≤1048576∧c.v.size≤1048576):=hLs;clear hS hl3 hLs;have L0:Hid (Bxs w _ [(w.heap.size,#[.slice ak ks.length ck,.slice ap ps.length cp,.slice ae es.length ce],30),(w.heap.size+1,#[.slice none 0 0,.slice none 0 0,.slice none 0 0],30)]):=Bxs.start2 w #[.slice ak ks.length ck,.slice ap ps.length cp,.slice ae es.length ce] #[.slice none 0 0,.slice none 0 0,.slice none 0 0] 30 30;have hal0:Below ((w.alloc (.cells #[.slice ak ks.length ck,.slice ap ps.length cp,.slice ae es.length ce] 30)).alloc (.cells #[.slice none 0 0,.slice none 0 0,.slice none 0 0] 30)).heap.size ((w.alloc (.cells #[.slice ak ks.length ck,.slice ap ps.length cp,.slice ae es.length ce] 30)).alloc (.cells #[.slice none 0 0,.slice none 0 0,.slice none 0 0] 30)) (((w.alloc (.cells #[.slice ak ks.length ck,.slice ap ps.length cp,.slice ae es.length ce] 30)).alloc (.cells #[.slice none 0 0,.slice none 0 0,.slice none 0 0] 30)).alloc (.cells #[] 3)):=(aO);have L1:Hid (Bxs w (((w.alloc (.cells #[.slice ak ks.length ck,.slice ap ps.length cp,.slice ae es.length ce] 30)).alloc (.cells #[.slice none 0 0,.slice none 0 0,.slice none 0 0] 30)).alloc (.cells #[] 3)) [(w.heap.size,#[.slice ak ks.length ck,.slice ap ps.length cp,.slice ae es.length ce],30),(w.heap.size+1,#[.slice none 0 0,.slice none 0 0,.slice none 0 0],30)]):=L0.out.call hal0;have hn1:=aj ((w.alloc (.cells #[.slice ak ks.length ck,.slice ap ps.length cp,.slice ae es.length ce] 30)).alloc (.cells #[.slice none 0 0,.slice none 0 0,.slice none 0 0] 30)) (.cells #[] 3)
 have hs1:((w.alloc (.cells #[.slice ak ks.length ck,.slice ap ps.length cp,.slice ae es.length ce] 30)).alloc (.cells #[.slice none 0 0,.slice none 0 0,.slice none 0 0] 30)).heap.size=w.heap.size+1+1:=by simp
 rw [hs1] at hn1
 have I1:Hid (IntsNew (((w.alloc (.cells #[.slice ak ks.length ck,.slice ap ps.length cp,.slice ae es.length ce] 30)).alloc (.cells #[.slice none 0 0,.slice none 0 0,.slice none 0 0] 30)).alloc (.cells #[] 3)) (w.heap.size+2) (.slice (some ⟨w.heap.size+1+1,0,none⟩) 0 0) []):=bt hn1 (by omega) 1
 clear hal0 hn1 hs1 L0
 go_enter Tryz.func111,Tryz.ntmps111
 go_wp2_with fail;refine (cG _ _ _ ks ps es _ (HB.out.keep L1.out.below) SM.out.n SM.out.s).mono ?_;rintro e w1 ⟨rfl,hb1⟩;have L2:Hid (Bxs w w1 [(w.heap.size,#[.slice ak ks.length ck,.slice ap ps.length cp,.slice ae es.length ce],30),(w.heap.size+1,#[.slice none 0 0,.slice none 0 0,.slice none 0 0],30)]):=L1.out.call hb1;have I2:Hid (IntsNew w1 (w.heap.size+2) (.slice (some ⟨w.heap.size+1+1,0,none⟩) 0 0) []):=ah I1.out hb1;clear L1 I1 hb1
 have hr1:=L2.out.has (w.heap.size+1,#[.slice none 0 0,.slice none 0 0,.slice none 0 0],30) (by simp)
 dsimp only at hr1
 have hz1':w.heap.size+1<w1.heap.size:=L2.out.lt (p:=(w.heap.size+1,#[.slice none 0 0,.slice none 0 0,.slice none 0 0],30)) (by simp)
 obtain ⟨y0,y1,y2⟩:w1.cell? ⟨w.heap.size,0,none⟩=some (.slice ak ks.length ck)∧w1.cell? ⟨w.heap.size,1,none⟩=some (.slice ap ps.length cp)∧w1.cell? ⟨w.heap.size,2,none⟩=some (.slice ae es.length ce):=⟨L2.out.cell 0 rfl 0,L2.out.cell 0 rfl 1,L2.out.cell 0 rfl 2⟩
 cases hbb:bookB ks ps es
 ·have HE:Hid (allR ks ps es L=([],[],[])∧allC ks ps es L=[]):=by
   show _∧_
   unfold allR allC;rw [hbb];exact ⟨rfl,rfl⟩
  clear hbb
  go_wp2_with (refine wpList_store_row rfl 30 _ _ rfl (w.heap.size+1) #[.slice none 0 0,.slice none 0 0,.slice none 0 0] rfl rfl 30 _ hr1 (by kernel_rfl) rfl (by simp [Value.oneCell']) ?_)
  exact bodyPost_ret (v:=.tuple #[.agg #[.slice none 0 0,.slice none 0 0,.slice none 0 0],.slice (some ⟨w.heap.size+1+1,0,none⟩) 0 0]) (by simp [results,Tryz.results111,go_sem,cell_setRow_same _ _ _ _ _ _ _ hr1]) rfl ⟨_,_,_,_,rfl,by rw [HE.out.1];exact BookNew.none _ _,by rw [HE.out.2];exact aN (an I2.out (aD _ _ _) (fun k hk e=>by have:=ax I2.out k hk;injection e;omega)) (by omega),below_setRow L2.out.below (by omega) _⟩
 have HBB:Hid (bookB ks ps es=true):=hbb
 have HE:Hid (allR ks ps es L=stepsBk (ks,ps,es) L∧allC ks ps es L=codesBk (ks,ps,es) L):=by
  show _∧_
  unfold allR allC;rw [hbb];exact ⟨rfl,rfl⟩
 clear hbb hr1;go_wp2_with fail;refine (cg _ _ _ ks ps es _ (HB.out.keep L2.out.below) SM.out.s.k SM.out.s.p SM.out.s.e SM.out.s.f).mono ?_;rintro e w2 ⟨x,y,z,rfl,hN2,hb2⟩;obtain ⟨a1,a2,a3,a4,a5,a6,rfl,rfl,rfl⟩:=hN2.slices;have hs12:=hb2.size;have hal:Below w2.heap.size w2 (w2.alloc (.cells #[.slice a1 ks.length a2,.slice a3 ps.length a4,.slice a5 es.length a6] 30)):=(aO)
 have HI0:Hid (Bxs w (w2.alloc (.cells #[.slice a1 ks.length a2,.slice a3 ps.length a4,.slice a5 es.length a6] 30)) [(w2.heap.size,#[.slice a1 ks.length a2,.slice a3 ps.length a4,.slice a5 es.length a6],30),(w.heap.size,#[.slice ak ks.length ck,.slice ap ps.length cp,.slice ae es.length ce],30),(w.heap.size+1,#[.slice none 0 0,.slice none 0 0,.slice none 0 0],30)]∧BookNew (w.heap.size+2) (w2.alloc (.cells #[.slice a1 ks.length a2,.slice a3 ps.length a4,.slice a5 es.length a6] 30)) (.slice a1 ks.length a2) (.slice a3 ps.length a4) (.slice a5 es.length a6) ks ps es∧IntsNew (w2.alloc (.cells #[.slice a1 ks.length a2,.slice a3 ps.length a4,.slice a5 es.length a6] 30)) (w.heap.size+2) (.slice (some ⟨w.heap.size+1+1,0,none⟩) 0 0) []∧w.heap.size+2≤w2.heap.size):=⟨((L2.out.call hb2).call hal).push (aj w2 _),(hN2.keep hal).mono (by omega),ah (ah I2.out hb2) hal,by omega⟩
 clear hN2 hb2 hal L2 I2 y0 y1 y2;go_wp2;generalize w2.alloc (.cells #[.slice a1 ks.length a2,.slice a3 ps.length a4,.slice a5 es.length a6] 30)=wa at *;generalize w2.heap.size=X at *
 go_loopw [8,6] (fun s8 s6 wr=>∃ (k:Nat) (a1 a3 a5:Option Addr) (a2 a4 a6:Nat),k≤L.length∧s8=.int .i64 k∧(∃ a c,s6=.slice a k c)∧Hid (Bxs w wr [(X,#[.slice a1 (stepsBk (ks,ps,es) (L.take k)).1.length a2,.slice a3 (stepsBk (ks,ps,es) (L.take k)).2.1.length a4,.slice a5 (stepsBk (ks,ps,es) (L.take k)).2.2.length a6],30),(w.heap.size,#[.slice ak ks.length ck,.slice ap ps.length cp,.slice ae es.length ce],30),(w.heap.size+1,#[.slice none 0 0,.slice none 0 0,.slice none 0 0],30)]∧BookNew (w.heap.size+2) wr (.slice a1 (stepsBk (ks,ps,es) (L.take k)).1.length a2) (.slice a3 (stepsBk (ks,ps,es) (L.take k)).2.1.length a4) (.slice a5 (stepsBk (ks,ps,es) (L.take k)).2.2.length a6) (stepsBk (ks,ps,es) (L.take k)).1 (stepsBk (ks,ps,es) (L.take k)).2.1 (stepsBk (ks,ps,es) (L.take k)).2.2∧IntsNew wr (w.heap.size+2) s6 (codesBk (ks,ps,es) (L.take k))∧w.heap.size+2≤X)) (fun s8 _ _=>L.length-(intOf s8).toNat)
 case atStart=>exact ⟨0,a1,a3,a5,a2,a4,a6,Nat.zero_le _,rfl,⟨_,_,rfl⟩,HI0.out⟩
 case round =>
  clear HI0;obtain ⟨k,a1,a3,a5,a2,a4,a6,hk,rfl,⟨va,vc,rfl⟩,HI⟩:=hrel
  by_cases hlt:k<L.length
  ·obtain ⟨b,off,rfl,hc⟩:=HLA.out k _ (cat_get hlt)
   have HC:Hid (ChgAt w b (off+k*4) (cat' L k)):=hc
   have HTS:Hid (stepsBk (ks,ps,es) (L.take (k+1))=stepBk (stepsBk (ks,ps,es) (L.take k)) (cat' L k)∧codesBk (ks,ps,es) (L.take (k+1))=(codesBk (ks,ps,es) (L.take k))++[codeBk (stepsBk (ks,ps,es) (L.take k)) (cat' L k)]):=by
    show _∧_
    rw [take_snocC hlt,stepsBk_snoc,codesBk_snoc];exact ⟨rfl,rfl⟩
   have HSK:Hid (SmB (stepsBk (ks,ps,es) (L.take k))):=SM.out.steps (fun c hc=>HLS.out c (List.mem_of_mem_take hc));have hcs:=HLS.out _ (List.mem_of_getElem? (cat_get hlt))
   have hcl:(codesBk (ks,ps,es) (L.take k)).length=k:=by rw [codesBk_len,List.length_take];omega
   have HCL:=au hcl;clear hc hcl;generalize (stepsBk (ks,ps,es) (L.take k))=Bq at *;generalize (codesBk (ks,ps,es) (L.take k))=Cq at *;generalize cat' L k=c at *
   have hk0:(0:Int)≤(k:Int):=by omega
   have hk1:(k:Int)<(L.length:Int):=by omega
   go_wp2
   go_cut [9,10] (fun s9 s10 wc=>∃ (Xq:Nat) (xv yv zv:Value),s9=.pointer (some ⟨Xq,0,none⟩)∧s10=.int .i64 (codeBk Bq c)∧Hid (Below wr.heap.size wr wc∧wc.heap[Xq]?=some (.cells #[xv,yv,zv] 30 (0,0))∧BookNew wr.heap.size wc xv yv zv (stepBk Bq c).1 (stepBk Bq c).2.1 (stepBk Bq c).2.2∧wr.heap.size≤Xq))
   case first =>
    have HSS:Hid (∀ w':World,Below wr.heap.size wr w'→((w'.cell? ⟨X,0,none⟩=some (.slice a1 Bq.1.length a2)∧w'.cell? ⟨X,1,none⟩=some (.slice a3 Bq.2.1.length a4)∧w'.cell? ⟨X,2,none⟩=some (.slice a5 Bq.2.2.length a6))∧(w'.cell? ⟨b,off+k*4,none⟩=some (.string c.f)∧w'.cell? ⟨b,off+k*4+1,none⟩=some (.int .i64 c.what)∧w'.cell? ⟨b,off+k*4+2,none⟩=some (.int .i64 c.num)∧w'.cell? ⟨b,off+k*4+3,none⟩=some (.string c.v)))):=fun w' hx=>by
     have hl:=HI.out.1.call hx;have hc:=HC.out.keep hl.below aH;exact ⟨⟨hl.cell 0 rfl 0,hl.cell 0 rfl 1,hl.cell 0 rfl 2⟩,hc⟩
    refine wp_region_noPanic ?_
    refine wp_region_held_drew (S:=fun w'=>(w'.cell? ⟨X,0,none⟩=some (.slice a1 Bq.1.length a2)∧w'.cell? ⟨X,1,none⟩=some (.slice a3 Bq.2.1.length a4)∧w'.cell? ⟨X,2,none⟩=some (.slice a5 Bq.2.2.length a6))∧(w'.cell? ⟨b,off+k*4,none⟩=some (.string c.f)∧w'.cell? ⟨b,off+k*4+1,none⟩=some (.int .i64 c.what)∧w'.cell? ⟨b,off+k*4+2,none⟩=some (.int .i64 c.num)∧w'.cell? ⟨b,off+k*4+3,none⟩=some (.string c.v))) (by kernel_rfl) ?_ (fun hHeld=>?_)
    ·exact HSS.out _ (Below.refl _ _).drew
    have HBW:Hid (Below wr.heap.size wr wr.drew):=(Below.refl _ _).drew;generalize wr.drew=W0 at *;refine aJ 0 ?_ rfl ?_ (aJ 1 ?_ rfl ?_ (aJ 2 ?_ rfl ?_ (aJ 3 ?_ rfl ?_ (aJ 4 ?_ rfl ?_ ?_))))
    iterate 5 (rotate_left;focus (intro w hSw;(try dsimp only at hSw);simp only [Act.put,aR];go_simp;try with_reducible rfl))
    simp only [Act.put,aR]
    clear hHeld;refine rdH2 5 9 rfl rfl (fun K hK=>?_) (fun K hK=>?_)
    ·go_simp
     refine (specTake_any _ _ _ Bq.1 Bq.2.1 Bq.2.2 c _ (HI.out.2.1.at.keep HBW.out) HSK.out.n HSK.out.s hcs.1 hcs.2).mono ?_;rintro e W1 ⟨xq,yq,zq,rfl,hNq,hbb⟩;have HB2:Hid (Below wr.heap.size wr W1):=aa HBW.out hbb;have HN:Hid (BookNew wr.heap.size W1 xq yq zq (stepBk Bq c).1 (stepBk Bq c).2.1 (stepBk Bq c).2.2):=BookNew.mono hNq HBW.out.size;obtain ⟨b1,b2,b3,b4,b5,b6,rfl,rfl,rfl⟩:=HN.out.slicesB;have hHeld:=HSS.out _ HB2.out;refine hK.out _ _ hHeld (fun _=>?_);clear hbb hNq;clear hK K HBW;have HBW:=HB2;clear HB2;refine aJ 6 ?_ rfl ?_ (aJ 7 ?_ rfl ?_ (aJ 8 ?_ rfl ?_ ?_))
     iterate 3 (rotate_left;focus (intro w hSw;(try dsimp only at hSw);simp only [Act.put,aR];go_simp;try with_reducible rfl))
     simp only [Act.put,aR]
     clear hHeld;refine bh 9 rfl (fun K hK=>?_);go_simp;have hbb:Below W1.heap.size W1 (W1.alloc (.cells #[.slice none 0 0,.slice none 0 0,.slice none 0 0] 30)):=(aO);have HB2:Hid (Below wr.heap.size wr (W1.alloc (.cells #[.slice none 0 0,.slice none 0 0,.slice none 0 0] 30))):=aa HBW.out hbb;have HN2:=au (HN.out.keep hbb);have HXB:Hid ((W1.alloc (.cells #[.slice none 0 0,.slice none 0 0,.slice none 0 0] 30)).heap[W1.heap.size]?=some (.cells #[.slice none 0 0,.slice none 0 0,.slice none 0 0] 30 (0,0))):=aj W1 _;have HXL:Hid (wr.heap.size≤W1.heap.size):=HBW.out.size;refine hK.out _ _ (HSS.out _ HB2.out) (fun _=>?_);clear hbb;clear hK K HBW HN;have HBW:=HB2;clear HB2;have HN:=HN2;clear HN2;generalize (W1.alloc (.cells #[.slice none 0 0,.slice none 0 0,.slice none 0 0] 30))=W2 at *;refine bh 10 rfl (fun K hK=>?_)
     refine aQ rfl 30 _ _ rfl (W1.heap.size) #[.slice b1 (stepBk Bq c).1.length b2,.slice b3 (stepBk Bq c).2.1.length b4,.slice b5 (stepBk Bq c).2.2.length b6] rfl rfl 30 _ HXB.out (by kernel_rfl) rfl (by simp [Value.oneCell']) ?_
     have HB2:Hid (Below wr.heap.size wr (W2.setRow (W1.heap.size) #[.slice b1 (stepBk Bq c).1.length b2,.slice b3 (stepBk Bq c).2.1.length b4,.slice b5 (stepBk Bq c).2.2.length b6])):=below_setRow HBW.out HXL.out _;have HNF:=au (HN.out.box HXB.out (aD W2 (W1.heap.size) #[.slice b1 (stepBk Bq c).1.length b2,.slice b3 (stepBk Bq c).2.1.length b4,.slice b5 (stepBk Bq c).2.2.length b6]));have HXF:Hid ((W2.setRow (W1.heap.size) #[.slice b1 (stepBk Bq c).1.length b2,.slice b3 (stepBk Bq c).2.1.length b4,.slice b5 (stepBk Bq c).2.2.length b6]).heap[W1.heap.size]?=some (.cells #[.slice b1 (stepBk Bq c).1.length b2,.slice b3 (stepBk Bq c).2.1.length b4,.slice b5 (stepBk Bq c).2.2.length b6] 30 (0,0))):=setRow_heap _ _ _ _ _ _ HXB.out;have hHeld:=HSS.out _ HB2.out;refine hK.out _ _ hHeld (fun _=>?_);clear hK K;refine aJ 11 ?_ rfl ?_ ?_;rotate_left
     ·intro w hSw;(try dsimp only at hSw);go_simp;try with_reducible rfl
     simp only [Act.put,aR]
     clear hHeld
     refine wpAnyH_done (by kernel_rfl) ?_ _
     refine NoPanic.normal ?_;go_wp2_with fail
     go_meet
     exact ⟨W1.heap.size,_,_,_,rfl,rfl,HB2.out,HXF.out,HNF.out,HXL.out⟩
    ·go_simp
     have hbb:Below W0.heap.size W0 (W0.alloc (.cells #[.slice none 0 0,.slice none 0 0,.slice none 0 0] 30)):=(aO);have HB2:Hid (Below wr.heap.size wr (W0.alloc (.cells #[.slice none 0 0,.slice none 0 0,.slice none 0 0] 30))):=aa HBW.out hbb;have HXB:Hid ((W0.alloc (.cells #[.slice none 0 0,.slice none 0 0,.slice none 0 0] 30)).heap[W0.heap.size]?=some (.cells #[.slice none 0 0,.slice none 0 0,.slice none 0 0] 30 (0,0))):=aj W0 _;have HXL:Hid (wr.heap.size≤W0.heap.size):=HBW.out.size;refine hK.out _ _ (HSS.out _ HB2.out) (fun _=>?_);clear hbb;clear hK K HBW;have HBW:=HB2;clear HB2;generalize (W0.alloc (.cells #[.slice none 0 0,.slice none 0 0,.slice none 0 0] 30))=W1 at *;refine bh 5 rfl (fun K hK=>?_);go_simp;refine (specTake_any _ _ _ Bq.1 Bq.2.1 Bq.2.2 c _ (HI.out.2.1.at.keep HBW.out) HSK.out.n HSK.out.s hcs.1 hcs.2).mono ?_;rintro e W2 ⟨xq,yq,zq,rfl,hNq,hbb⟩;have HB2:Hid (Below wr.heap.size wr W2):=aa HBW.out hbb;have HXB2:=au ((hbb.block _ (Array.getElem?_eq_some_iff.1 HXB.out).1).trans HXB.out);have HN:Hid (BookNew wr.heap.size W2 xq yq zq (stepBk Bq c).1 (stepBk Bq c).2.1 (stepBk Bq c).2.2):=BookNew.mono hNq HBW.out.size;obtain ⟨b1,b2,b3,b4,b5,b6,rfl,rfl,rfl⟩:=HN.out.slicesB;have hHeld:=HSS.out _ HB2.out;refine hK.out _ _ hHeld (fun _=>?_);clear hbb hNq;clear hK K HBW HXB;have HBW:=HB2;clear HB2;have HXB:=HXB2;clear HXB2;refine aJ 6 ?_ rfl ?_ (aJ 7 ?_ rfl ?_ (aJ 8 ?_ rfl ?_ ?_))
     iterate 3 (rotate_left;focus (intro w hSw;(try dsimp only at hSw);simp only [Act.put,aR];go_simp;try with_reducible rfl))
     simp only [Act.put,aR]
     clear hHeld;refine bh 10 rfl (fun K hK=>?_)
     refine aQ rfl 30 _ _ rfl (W0.heap.size) #[.slice b1 (stepBk Bq c).1.length b2,.slice b3 (stepBk Bq c).2.1.length b4,.slice b5 (stepBk Bq c).2.2.length b6] rfl rfl 30 _ HXB.out (by kernel_rfl) rfl (by simp [Value.oneCell']) ?_
     have HB2:Hid (Below wr.heap.size wr (W2.setRow (W0.heap.size) #[.slice b1 (stepBk Bq c).1.length b2,.slice b3 (stepBk Bq c).2.1.length b4,.slice b5 (stepBk Bq c).2.2.length b6])):=below_setRow HBW.out HXL.out _;have HNF:=au (HN.out.box HXB.out (aD W2 (W0.heap.size) #[.slice b1 (stepBk Bq c).1.length b2,.slice b3 (stepBk Bq c).2.1.length b4,.slice b5 (stepBk Bq c).2.2.length b6]));have HXF:Hid ((W2.setRow (W0.heap.size) #[.slice b1 (stepBk Bq c).1.length b2,.slice b3 (stepBk Bq c).2.1.length b4,.slice b5 (stepBk Bq c).2.2.length b6]).heap[W0.heap.size]?=some (.cells #[.slice b1 (stepBk Bq c).1.length b2,.slice b3 (stepBk Bq c).2.1.length b4,.slice b5 (stepBk Bq c).2.2.length b6] 30 (0,0))):=setRow_heap _ _ _ _ _ _ HXB.out;have hHeld:=HSS.out _ HB2.out;refine hK.out _ _ hHeld (fun _=>?_);clear hK K;refine aJ 11 ?_ rfl ?_ ?_;rotate_left
     ·intro w hSw;(try dsimp only at hSw);go_simp;try with_reducible rfl
     simp only [Act.put,aR]
     clear hHeld
     refine wpAnyH_done (by kernel_rfl) ?_ _
     refine NoPanic.normal ?_;go_wp2_with fail
     go_meet
     exact ⟨W0.heap.size,_,_,_,rfl,rfl,HB2.out,HXF.out,HNF.out,HXL.out⟩
   case rest =>
    obtain ⟨Y,xv,yv,zv,rfl,rfl,hq⟩:=hcut;obtain ⟨b1,b2,b3,b4,b5,b6,rfl,rfl,rfl⟩:=hq.out.2.2.1.slicesB;have LC:Hid (Bxs w wc [(Y,#[.slice b1 (stepBk Bq c).1.length b2,.slice b3 (stepBk Bq c).2.1.length b4,.slice b5 (stepBk Bq c).2.2.length b6],30),(X,#[.slice a1 Bq.1.length a2,.slice a3 Bq.2.1.length a4,.slice a5 Bq.2.2.length a6],30),(w.heap.size,#[.slice ak ks.length ck,.slice ap ps.length cp,.slice ae es.length ce],30),(w.heap.size+1,#[.slice none 0 0,.slice none 0 0,.slice none 0 0],30)]):=(HI.out.1.call hq.out.1).push hq.out.2.1
    have NC:Hid (BookNew (w.heap.size+2) wc (.slice b1 (stepBk Bq c).1.length b2) (.slice b3 (stepBk Bq c).2.1.length b4) (.slice b5 (stepBk Bq c).2.2.length b6) (stepBk Bq c).1 (stepBk Bq c).2.1 (stepBk Bq c).2.2):=hq.out.2.2.1.mono (by have h1:=HI.out.1.lt (p:=(w.heap.size+1,#[.slice none 0 0,.slice none 0 0,.slice none 0 0],30)) (by simp);have h2:w.heap.size+1<wr.heap.size:=h1;omega)
    have IC:Hid (IntsNew wc (w.heap.size+2) (.slice va k vc) Cq):=ah HI.out.2.2.1 hq.out.1;have hXl:w.heap.size+2≤X:=HI.out.2.2.2
    have hXY:X<Y:=by have h1:=HI.out.1.lt (p:=(X,#[.slice a1 Bq.1.length a2,.slice a3 Bq.2.1.length a4,.slice a5 Bq.2.2.length a6],30)) (by simp);have h2:X<wr.heap.size:=h1;have:=hq.out.2.2.2;omega
    clear hq HI;obtain ⟨t0,t1,t2⟩:wc.cell? ⟨Y,0,none⟩=some (.slice b1 (stepBk Bq c).1.length b2)∧wc.cell? ⟨Y,1,none⟩=some (.slice b3 (stepBk Bq c).2.1.length b4)∧wc.cell? ⟨Y,2,none⟩=some (.slice b5 (stepBk Bq c).2.2.length b6):=⟨LC.out.cell 0 rfl 0,LC.out.cell 0 rfl 1,LC.out.cell 0 rfl 2⟩
    have hrX:=LC.out.has (X,#[.slice a1 Bq.1.length a2,.slice a3 Bq.2.1.length a4,.slice a5 Bq.2.2.length a6],30) (by simp)
    dsimp only at hrX
    have hYz:Y<wc.heap.size:=LC.out.lt (p:=(Y,#[.slice b1 (stepBk Bq c).1.length b2,.slice b3 (stepBk Bq c).2.1.length b4,.slice b5 (stepBk Bq c).2.2.length b6],30)) (by simp)
    have LD:Hid (Bxs w (wc.setRow X #[.slice b1 (stepBk Bq c).1.length b2,.slice b3 (stepBk Bq c).2.1.length b4,.slice b5 (stepBk Bq c).2.2.length b6]) [(X,#[.slice b1 (stepBk Bq c).1.length b2,.slice b3 (stepBk Bq c).2.1.length b4,.slice b5 (stepBk Bq c).2.2.length b6],30),(w.heap.size,#[.slice ak ks.length ck,.slice ap ps.length cp,.slice ae es.length ce],30),(w.heap.size+1,#[.slice none 0 0,.slice none 0 0,.slice none 0 0],30)]):=by
     refine ⟨below_setRow LC.out.below (by omega) _,fun p hp=>?_⟩
     have hz0:=LC.out.lt (p:=(w.heap.size+1,#[.slice none 0 0,.slice none 0 0,.slice none 0 0],30)) (by simp)
     simp only [List.mem_cons,List.not_mem_nil,or_false] at hp
     rcases hp with rfl | rfl | rfl
     ·exact setRow_heap _ _ _ _ _ _ hrX
     ·exact (setRow_other _ _ _ _ (by show w.heap.size≠X;omega)).trans (LC.out.has (w.heap.size,#[.slice ak ks.length ck,.slice ap ps.length cp,.slice ae es.length ce],30) (by simp))
     ·exact (setRow_other _ _ _ _ (by show w.heap.size+1≠X;omega)).trans (LC.out.has (w.heap.size+1,#[.slice none 0 0,.slice none 0 0,.slice none 0 0],30) (by simp))
    have ND:Hid (BookNew (w.heap.size+2) (wc.setRow X #[.slice b1 (stepBk Bq c).1.length b2,.slice b3 (stepBk Bq c).2.1.length b4,.slice b5 (stepBk Bq c).2.2.length b6]) (.slice b1 (stepBk Bq c).1.length b2) (.slice b3 (stepBk Bq c).2.1.length b4) (.slice b5 (stepBk Bq c).2.2.length b6) (stepBk Bq c).1 (stepBk Bq c).2.1 (stepBk Bq c).2.2):=NC.out.box hrX (aD wc X _)
    have ID:Hid (IntsNew (wc.setRow X #[.slice b1 (stepBk Bq c).1.length b2,.slice b3 (stepBk Bq c).2.1.length b4,.slice b5 (stepBk Bq c).2.2.length b6]) (w.heap.size+2) (.slice va k vc) Cq):=an IC.out (aD wc X _) (fun q hq e=>bc IC.out hrX (by decide) (by rw [← e];exact hq.symm))
    clear NC IC
    go_upto_region 10 with (refine wpList_store_row rfl 30 _ _ rfl X #[.slice b1 (stepBk Bq c).1.length b2,.slice b3 (stepBk Bq c).2.1.length b4,.slice b5 (stepBk Bq c).2.2.length b6] rfl rfl 30 _ hrX (by kernel_rfl) rfl (by simp [Value.oneCell']) ?_)
    generalize wc.setRow X #[.slice b1 (stepBk Bq c).1.length b2,.slice b3 (stepBk Bq c).2.1.length b4,.slice b5 (stepBk Bq c).2.2.length b6]=wd at *;clear t0 t1 t2 hrX LC hYz hXY
    have hzd:w.heap.size+1<wd.heap.size:=LD.out.lt (p:=(w.heap.size+1,#[.slice none 0 0,.slice none 0 0,.slice none 0 0],30)) (by simp)
    have hid:=ID.out;unfold IntsNew at hid;rw [HCL.out] at hid
    go_wp2_with (at_builtin;refine bB _ rfl _ _ 153 rfl (w.heap.size+2) 3 i0 _ 1 8 Tryz.underlying153 hi0 hz0 hz1 hz2 rfl (by decide) _ k _ rfl (ah hid (aO)) _ 1 1 [.int .i64 (codeBk Bq c)] rfl (.inr ⟨_,rfl,World.news_of_block (aj wd (.cells #[.int .i64 (codeBk Bq c)] 3))⟩) rfl (fun u hu=>by simp at hu;subst hu;rfl) (by unfold maxLen;omega) (by omega) (by simp;omega) ?_;intro vq wx hown hgrow hat)
    have hke:Below wd.heap.size wd (wd.alloc (.cells #[.int .i64 (codeBk Bq c)] 3)):=(aO);have hok:=ah hid hke
    have LF:Hid (Bxs w wx [(X,#[.slice b1 (stepBk Bq c).1.length b2,.slice b3 (stepBk Bq c).2.1.length b4,.slice b5 (stepBk Bq c).2.2.length b6],30),(w.heap.size,#[.slice ak ks.length ck,.slice ap ps.length cp,.slice ae es.length ce],30),(w.heap.size+1,#[.slice none 0 0,.slice none 0 0,.slice none 0 0],30)]):=(LD.out.call hke).grownI hok (by omega) hgrow (fun p hp=>by simp only [List.mem_cons,List.not_mem_nil,or_false] at hp;rcases hp with rfl | rfl | rfl <;> (show 3≠30;decide))
    have NF:Hid (BookNew (w.heap.size+2) wx (.slice b1 (stepBk Bq c).1.length b2) (.slice b3 (stepBk Bq c).2.1.length b4) (.slice b5 (stepBk Bq c).2.2.length b6) (stepBk Bq c).1 (stepBk Bq c).2.1 (stepBk Bq c).2.2):=(ND.out.keep hke).ints hok hgrow
    have IF:Hid (IntsNew wx (w.heap.size+2) vq (Cq++[codeBk Bq c])):=IntsNew.snoc (by rw [HCL.out];exact hown)
    obtain ⟨qa,qc,rfl⟩:=own_slice hown
    have HF:Hid (Bxs w wx [(X,#[.slice b1 (stepsBk (ks,ps,es) (L.take (k+1))).1.length b2,.slice b3 (stepsBk (ks,ps,es) (L.take (k+1))).2.1.length b4,.slice b5 (stepsBk (ks,ps,es) (L.take (k+1))).2.2.length b6],30),(w.heap.size,#[.slice ak ks.length ck,.slice ap ps.length cp,.slice ae es.length ce],30),(w.heap.size+1,#[.slice none 0 0,.slice none 0 0,.slice none 0 0],30)]∧BookNew (w.heap.size+2) wx (.slice b1 (stepsBk (ks,ps,es) (L.take (k+1))).1.length b2) (.slice b3 (stepsBk (ks,ps,es) (L.take (k+1))).2.1.length b4) (.slice b5 (stepsBk (ks,ps,es) (L.take (k+1))).2.2.length b6) (stepsBk (ks,ps,es) (L.take (k+1))).1 (stepsBk (ks,ps,es) (L.take (k+1))).2.1 (stepsBk (ks,ps,es) (L.take (k+1))).2.2∧IntsNew wx (w.heap.size+2) (.slice qa (k+1) qc) (codesBk (ks,ps,es) (L.take (k+1)))∧w.heap.size+2≤X):=by
     rw [HTS.out.1,HTS.out.2];exact ⟨LF.out,NF.out,IF.out,hXl⟩
    exact ⟨⟨k+1,b1,b3,b5,b2,b4,b6,by omega,by go_num,⟨_,_,rfl⟩,HF⟩,by simp [intOf];omega⟩
  ·have HF:Hid (Bxs w wr [(X,#[.slice a1 (stepsBk (ks,ps,es) L).1.length a2,.slice a3 (stepsBk (ks,ps,es) L).2.1.length a4,.slice a5 (stepsBk (ks,ps,es) L).2.2.length a6],30),(w.heap.size,#[.slice ak ks.length ck,.slice ap ps.length cp,.slice ae es.length ce],30),(w.heap.size+1,#[.slice none 0 0,.slice none 0 0,.slice none 0 0],30)]∧BookNew (w.heap.size+2) wr (.slice a1 (stepsBk (ks,ps,es) L).1.length a2) (.slice a3 (stepsBk (ks,ps,es) L).2.1.length a4) (.slice a5 (stepsBk (ks,ps,es) L).2.2.length a6) (stepsBk (ks,ps,es) L).1 (stepsBk (ks,ps,es) L).2.1 (stepsBk (ks,ps,es) L).2.2∧IntsNew wr (w.heap.size+2) (.slice va k vc) (codesBk (ks,ps,es) L)∧w.heap.size+2≤X):=by
    have h:=HI.out
    rw [List.take_of_length_le (show L.length≤k by omega)] at h
    exact h
   clear HI;obtain ⟨t0,t1,t2⟩:wr.cell? ⟨X,0,none⟩=some (.slice a1 (stepsBk (ks,ps,es) L).1.length a2)∧wr.cell? ⟨X,1,none⟩=some (.slice a3 (stepsBk (ks,ps,es) L).2.1.length a4)∧wr.cell? ⟨X,2,none⟩=some (.slice a5 (stepsBk (ks,ps,es) L).2.2.length a6):=⟨HF.out.1.cell 0 rfl 0,HF.out.1.cell 0 rfl 1,HF.out.1.cell 0 rfl 2⟩
   have hr:=HF.out.1.has (w.heap.size+1,#[.slice none 0 0,.slice none 0 0,.slice none 0 0],30) (by simp)
   dsimp only at hr;generalize stepsBk (ks,ps,es) L=Bq at *
   go_wp2_with (refine wpList_store_row rfl 30 _ _ rfl (w.heap.size+1) #[.slice a1 Bq.1.length a2,.slice a3 Bq.2.1.length a4,.slice a5 Bq.2.2.length a6] rfl rfl 30 _ hr (by kernel_rfl) rfl (by simp [Value.oneCell']) ?_)
   exact bodyPost_ret (v:=.tuple #[.agg #[.slice a1 Bq.1.length a2,.slice a3 Bq.2.1.length a4,.slice a5 Bq.2.2.length a6],.slice va k vc]) (by simp [results,Tryz.results111,go_sem,cell_setRow_same _ _ _ _ _ _ _ hr]) rfl ⟨_,_,_,_,rfl,by rw [HE.out.1];exact (HF.out.2.1.far (aD wr (w.heap.size+1) _) (by omega)).mono (by omega),by rw [HE.out.2];exact aN (an HF.out.2.2.1 (aD wr (w.heap.size+1) _) (fun q hq e=>by have:=ax HF.out.2.2.1 q hq;injection e;omega)) (by omega),below_setRow HF.out.1.below (by omega) _⟩
end Go.Proofs.YtcmgddnckohdaaaGreatDoor
