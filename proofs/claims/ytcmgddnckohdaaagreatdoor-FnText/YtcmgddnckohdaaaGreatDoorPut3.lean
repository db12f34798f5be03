import Derived.Test.YtcmgddnckohdaaaGreatDoorBxs
import Derived.Test.YtcmgddnckohdaaaGreatDoorFld1
set_option maxRecDepth 100000
set_option maxHeartbeats 12800000
namespace Go.Proofs.YtcmgddnckohdaaaGreatDoor
open Go.RowKit
attribute [local go_sem] Later.cell Later.frozen
set_option linter.unusedSimpArgs false
set_option linter.unusedVariables false
structure P3 (w wr:World) (C:Array Value) (f:fI):Prop where
 size:w.heap.size+2<wr.heap.size
 a:wr.heap[w.heap.size]?=some (.cells C 30 (0,0))
 b:wr.heap[w.heap.size+1]?=some (.cells #[.int .i64 f.what,.int .i64 f.num,.string f.v] 67 (0,0))
 c:wr.heap[w.heap.size+1+1]?=some (.cells #[.slice none 0 0,.slice none 0 0,.slice none 0 0] 30 (0,0))
theorem P3.call {w wr wy:World} {C:Array Value} {f:fI} (h:P3 w wr C f) (hb:Below wr.heap.size wr wy):P3 w wy C f:=by
 have hz:=h.size
 exact ⟨Nat.lt_of_lt_of_le hz hb.size,(hb.block _ (by omega)).trans h.a,(hb.block _ (by omega)).trans h.b,(hb.block _ (by omega)).trans h.c⟩
theorem P3.grown {w wr wy:World} {C:Array Value} {f:fI} {r:Option Nat} (h:P3 w wr C f) (hg:wr.grownBy wy r) (hr:∀ k,r=some k→k<w.heap.size∨w.heap.size+2<k):P3 w wy C f:=by
 have hz:=h.size
 have hne:∀ q,w.heap.size≤q→q≤w.heap.size+2→some q≠r:=fun q h1 h2 e=>by have:=hr q e.symm;omega
 exact ⟨Nat.lt_of_lt_of_le hz hg.size,(hg.block _ (by omega) (hne _ (by omega) (by omega))).trans h.a,(hg.block _ (by omega) (hne _ (by omega) (by omega))).trans h.b,(hg.block _ (by omega) (hne _ (by omega) (by omega))).trans h.c⟩
theorem P3.start (w:World) (C:Array Value) (f:fI):P3 w (((w.alloc (.cells C 30)).alloc (.cells #[.int .i64 f.what,.int .i64 f.num,.string f.v] 67)).alloc (.cells #[.slice none 0 0,.slice none 0 0,.slice none 0 0] 30)) C f:=by
 have s1:(w.alloc (.cells C 30)).heap.size=w.heap.size+1:=by simp
 have s2:((w.alloc (.cells C 30)).alloc (.cells #[.int .i64 f.what,.int .i64 f.num,.string f.v] 67)).heap.size=w.heap.size+1+1:=by simp
 have h1:=am w (.cells C 30);have h2:=am (w.alloc (.cells C 30)) (.cells #[.int .i64 f.what,.int .i64 f.num,.string f.v] 67);have h3:=am ((w.alloc (.cells C 30)).alloc (.cells #[.int .i64 f.what,.int .i64 f.num,.string f.v] 67)) (.cells #[.slice none 0 0,.slice none 0 0,.slice none 0 0] 30);rw [s1] at h2;rw [s2] at h3
 refine ⟨by simp,?_,?_,h3⟩
 ·exact (Below.heap_alloc _ _ _ (by omega)).trans ((Below.heap_alloc _ _ _ (by omega)).trans h1)
 ·exact (Below.heap_alloc _ _ _ (by omega)).trans h2
theorem P3.fE {w wr:World} {C:Array Value} {f:fI} (h:P3 w wr C f) (j:Nat):wr.cell? ⟨w.heap.size,j,none⟩=C[j]?:=by simp [World.cell?,h.a]
theorem P3.AB {w wr:World} {C:Array Value} {f:fI} (h:P3 w wr C f) (j:Nat):wr.frozen? ⟨w.heap.size,j,none⟩=false:=by simp [World.frozen?,h.a]
theorem P3.IP {w wr:World} {C:Array Value} {f:fI} (h:P3 w wr C f):wr.cell? ⟨w.heap.size+1,0,none⟩=some (.int .i64 f.what)∧wr.cell? ⟨w.heap.size+1,1,none⟩=some (.int .i64 f.num)∧wr.cell? ⟨w.heap.size+1,2,none⟩=some (.string f.v):=bg h.b
theorem P3.drew {w wr:World} {C:Array Value} {f:fI} (h:P3 w wr C f):P3 w wr.drew C f:=⟨h.size,h.a,h.b,h.c⟩
theorem P3.set {w wr:World} {x y z:Value} {f:fI} (h:P3 w wr #[x,y,z] f) (v:Value):P3 w (wr.setCell ⟨w.heap.size,2,none⟩ v) #[x,y,v] f:=by
 have hz:=h.size
 refine ⟨by simpa using hz,?_,?_,?_⟩
 ·rw [setCell_eq_setRow _ _ _ _ _ _ _ h.a];exact setRow_heap _ _ _ _ _ _ h.a
 ·rw [Below.heap_setCell wr ⟨w.heap.size,2,none⟩ v (w.heap.size+1) (by show w.heap.size+1≠w.heap.size;omega)];exact h.b
 ·rw [Below.heap_setCell wr ⟨w.heap.size,2,none⟩ v (w.heap.size+1+1) (by show w.heap.size+1+1≠w.heap.size;omega)];exact h.c
theorem mH {W:World} {B base:Nat} {f:fI} (h:W.heap[B]?=some (.cells #[.int .i64 f.what,.int .i64 f.num,.string f.v] 67 (0,0))) (hb:base≤B):W.ownsRow base 67 3 (.slice (some ⟨B,0,none⟩) 1 1) ([f]:List fI).length (di [f]) :=
 ⟨rfl,.inr ⟨B,1,#[.int .i64 f.what,.int .i64 f.num,.string f.v],rfl,hb,h,Nat.le_refl _,by unfold maxLen;omega,rfl,rfl⟩⟩
theorem rV {w:World} {B g n cap:Nat} {l:List eD} (h:dG w B (.slice (some ⟨g,0,none⟩) n cap) l):∀ q u,(dw l)[q]?=some u→w.cell? ⟨g,q,none⟩=some u:=fun q u hu=>by
 have:=h.row.cells (g:=g) rfl q u hu;rw [bm,Nat.zero_add] at this;exact this
theorem uq {w:World} {g:Nat} {l:List eD} (j:Nat) (h:∀ q u,(dw l)[q]?=some u→w.cell? ⟨g,q,none⟩=some u):∀ q u,(dw (l.take j))[q]?=some u→w.cell? ((⟨g,0,none⟩:Addr).add q)=some u:=fun q u hu=>by
 rw [bm,Nat.zero_add];refine h q u ?_
 have e:dw l=dw (l.take j)++dw (l.drop j):=by rw [← cw,List.take_append_drop]
 rw [e,List.getElem?_append_left (List.getElem?_eq_some_iff.1 hu).1];exact hu
theorem Aa {w:World} {g:Nat} {l:List eD} {j:Nat} (hj:j≤l.length) (h:∀ q u,(dw l)[q]?=some u→w.cell? ⟨g,q,none⟩=some u):∀ q u,(dw (l.drop j))[q]?=some u→w.cell? ((⟨g,j*2,none⟩:Addr).add q)=some u:=fun q u hu=>by
 rw [bm];refine h _ u ?_
 have e:dw l=dw (l.take j)++dw (l.drop j):=by rw [← cw,List.take_append_drop]
 have hl:(dw (l.take j)).length=j*2:=by rw [aW,List.length_take,Nat.min_eq_left hj]
 rw [e,List.getElem?_append_right (by rw [hl];omega),hl,Nat.add_sub_cancel_left]
 exact hu
theorem pair_cells {w:World} {B g n cap j:Nat} {l:List eD} {p:eD} (h:dG w B (.slice (some ⟨g,0,none⟩) n cap) l) (hp:l[j]?=some p):w.cell? ⟨g,j*2,none⟩=some (.string p.1.name)∧w.cell? ⟨g,j*2+1,none⟩=some p.2:=by
 have e:∀ r,r<2→(dw l)[j*2+r]?=(gu p)[r]?:=fun r hr=>by
  unfold dw;rw [oo gu 2 jZ l j r hr,hp]
  rfl
 exact ⟨rV h (j*2) _ (by simpa [gu] using e 0 (by omega)),rV h (j*2+1) _ (by simpa [gu] using e 1 (by omega))⟩
theorem Ik {w:World} {B:Nat} {e:TypeId} {c m n cap:Nat} {a:Option Addr} {xs:List Value} (h:w.ownsRow B e c (.slice a m cap) n xs):n≤cap∧cap≤maxLen:=by
 rcases h.2 with ⟨hv,h0⟩ | ⟨g,cap',cur,hv,_,_,h1,h2,_⟩
 ·injection hv with _ _ h3
  rw [h0,h3];exact ⟨Nat.le_refl _,Nat.zero_le _⟩
 ·injection hv with _ _ h3
  rw [h3];exact ⟨h1,h2⟩
theorem DV {w:World} {B:Nat} {e:TypeId} {c m n cap g:Nat} {xs:List Value} (h:w.ownsRow B e c (.slice (some ⟨g,0,none⟩) m cap) n xs) (q:Nat):w.frozen? ⟨g,q,none⟩=false:=by
 rcases h.2 with ⟨hv,_⟩ | ⟨g',cap',cur,hv,_,hb,_⟩
 ·cases hv
 ·cases hv;exact Lib.frozen_of_heap hb q
theorem dG.one {w:World} {B:Nat} {o:Value} {l:List eD} (h:dG w B o l):∀ m:List eD,(∀ p∈m,p∈l)→∀ u∈dw m,u.oneCell'=true:=fun m hm u hu=>by
 obtain ⟨p,hp,hu⟩:=List.mem_flatMap.1 hu
 simp only [gu,List.mem_cons,List.not_mem_nil,or_false] at hu
 rcases hu with rfl | rfl
 ·rfl
 ·obtain ⟨a,c,e⟩:=cZ (h.iL p (hm p hp))
  rw [e];rfl
theorem Jw (x y z:Value) (ks ps:List dx) (es:List dU) (n:ByteArray) (f:fI) (lo:Nat) (w:World) (hB:df lo w x y z ks ps es) (hlo:lo≤w.heap.size) (hs:es.Pairwise fun a b=>iU a.name b.name=true) (le:es.length≤1048576) (lf:∀ e∈es,e.fs.length≤1048576) :
  Calls Tryz.prog 152 #[.agg #[x,y,z],.string n,.agg #[.int .i64 f.what,.int .i64 f.num,.string f.v]] w fun e w'=>∃ z',e=.returned (.agg #[x,y,z'])∧df lo w' x y z' ks ps (dS es n f)∧Below lo w w'∧∀ (X:Nat) (D:Array Value),w.heap[X]?=some (.cells D 30 (0,0))→w'.heap[X]?=some (.cells D 30 (0,0)):=by
 obtain ⟨i0,hi,hz0,hz1,hz2⟩:=info_parts Cc;have HEA:Hid (je w z es):=EY hB.e;obtain ⟨hx,hy,l,hl,hE⟩:=hB;obtain ⟨xa,xc,rfl⟩:=cZ hx;obtain ⟨ya,yc,rfl⟩:=cZ hy;obtain ⟨za,zc,rfl⟩:=cZ hE.row;have CQ:Hid (w.ownsRow lo 69 3 (.slice xa ks.length xc) ks.length (aS ks)∧w.ownsRow lo 72 3 (.slice ya ps.length yc) ps.length (aS ps)):=⟨hx,hy⟩;have HE:Hid (dG w lo (.slice za l.length zc) l):=hE;have HL:Hid (l.map (·.1)=es):=hl;have HS:Hid (es.Pairwise fun a b=>iU a.name b.name=true):=hs
 have hll1:l.length≤es.length:=by rw [← hl,List.length_map];exact Nat.le_refl _
 have hll2:es.length≤l.length:=by rw [← hl,List.length_map];exact Nat.le_refl _
 have hlm:l.length≤1048576:=by omega
 have HLF:Hid (∀ e∈es,e.fs.length≤1048576):=lf
 have HB0:Hid (Below w.heap.size w (((w.alloc (.cells #[.slice xa ks.length xc,.slice ya ps.length yc,.slice za l.length zc] 30)).alloc (.cells #[.int .i64 f.what,.int .i64 f.num,.string f.v] 67)).alloc (.cells #[.slice none 0 0,.slice none 0 0,.slice none 0 0] 30))):=((aM).alloc (by simp) _).alloc (by simp;omega) _
 have CR:Hid (P3 w (((w.alloc (.cells #[.slice xa ks.length xc,.slice ya ps.length yc,.slice za l.length zc] 30)).alloc (.cells #[.int .i64 f.what,.int .i64 f.num,.string f.v] 67)).alloc (.cells #[.slice none 0 0,.slice none 0 0,.slice none 0 0] 30)) #[.slice xa ks.length xc,.slice ya ps.length yc,.slice za l.length zc] f):=P3.start w _ f;clear hx hy hE hl hs lf
 go_enter Tryz.func152,Tryz.ntmps152
 go_wp2_with fail;refine (xZ _ _ _ es n _ (HEA.out.keep HB0.out)).mono ?_;rintro e w1 ⟨r,rfl,hr,hb1⟩;have uW:Hid (P3 w w1 #[.slice xa ks.length xc,.slice ya ps.length yc,.slice za l.length zc] f):=CR.out.call hb1;have HB1:Hid (Below w.heap.size w w1):=aa HB0.out hb1;clear hb1 HB0 CR
 rcases hr with ⟨rfl,hno⟩ | ⟨k,hk,rfl,hfd⟩
 ·have HNO:Hid (∀ e∈es,¬ e.name=n):=fun e he hn=>by
   have:=List.find?_eq_none.1 hno e he
   simp [hn] at this
  clear hno;obtain ⟨q0,q1,q2⟩:w1.cell? ⟨w.heap.size,0,none⟩=some (.slice xa ks.length xc)∧w1.cell? ⟨w.heap.size,1,none⟩=some (.slice ya ps.length yc)∧w1.cell? ⟨w.heap.size,2,none⟩=some (.slice za l.length zc):=⟨uW.out.fE 0,uW.out.fE 1,uW.out.fE 2⟩;go_wp2;clear q0 q1 q2
  go_loopw [8] (fun i wr=>wr=w1∧∃ j:Nat,j≤l.length∧i=.int .i64 j∧Hid (∀ i,i<j→iU (eZ es i).name n=true)) (fun i _=>l.length-(intOf i).toNat)
  case atStart=>exact ⟨rfl,0,Nat.zero_le _,rfl,fun i hi=>absurd hi (Nat.not_lt_zero _)⟩
  case round =>
   obtain ⟨rfl,j,hj,rfl,Fy⟩:=hrel;obtain ⟨q0,q1,q2⟩:wr.cell? ⟨w.heap.size,0,none⟩=some (.slice xa ks.length xc)∧wr.cell? ⟨w.heap.size,1,none⟩=some (.slice ya ps.length yc)∧wr.cell? ⟨w.heap.size,2,none⟩=some (.slice za l.length zc):=⟨uW.out.fE 0,uW.out.fE 1,uW.out.fE 2⟩;obtain ⟨b0,b1,b2⟩:=uW.out.IP
   have hj0:(0:Int)≤(j:Int):=by omega
   have hjl:(j:Int)≤(l.length:Int):=by omega
   by_cases hlt:j<l.length
   ·have hj1:(j:Int)<(l.length:Int):=by omega
    obtain ⟨fv,hfv⟩:=IM hlt;rw [HL.out] at hfv;have Hq:Hid (w.ownsRow lo 67 3 fv (eZ es j).fs.length (di (eZ es j).fs)):=HE.out.iL _ (List.mem_of_getElem? hfv);obtain ⟨fa,fc,rfl⟩:=cZ Hq.out
    obtain ⟨g,cap,hv,hgl,hgz⟩:=HE.out.row.form (by omega)
    cases hv
    obtain ⟨hnc,hcm⟩:=Ik HE.out.row;unfold maxLen at hcm;obtain ⟨d0,d1⟩:=pair_cells (HE.out.keep HB1.out) hfv;dsimp only at d0 d1;clear hfv Hq
    cases hbl:iU (eZ es j).name n
    ·have hbd:Op.bytesLess (eZ es j).name.toList n.toList=false:=hbl
     have HP:Hid (dS es n f=es.take j++⟨n,[f]⟩::es.drop j):=Bz es n f j (by omega) HNO.out Fy.out (fun _=>hbl)
     clear hbl
     have hcc:(l.length:Int)≤(zc:Int):=by omega
     have hjc:j≤zc:=by omega
     have hjn:¬ zc=j:=by omega
     have nD:Below wr.heap.size wr (wr.alloc (.cells #[.int .i64 f.what,.int .i64 f.num,.string f.v] 67)):=(aM);have lJ:Below wr.heap.size wr ((wr.alloc (.cells #[.int .i64 f.what,.int .i64 f.num,.string f.v] 67)).alloc (.cells #[.string n,.slice (some ⟨wr.heap.size,0,none⟩) 1 1] 65)):=nD.alloc nD.size _;have zo:Hid (P3 w ((wr.alloc (.cells #[.int .i64 f.what,.int .i64 f.num,.string f.v] 67)).alloc (.cells #[.string n,.slice (some ⟨wr.heap.size,0,none⟩) 1 1] 65)) #[.slice xa ks.length xc,.slice ya ps.length yc,.slice (some ⟨g,0,none⟩) l.length zc] f):=uW.out.call lJ;have HB2:Hid (Below w.heap.size w ((wr.alloc (.cells #[.int .i64 f.what,.int .i64 f.num,.string f.v] 67)).alloc (.cells #[.string n,.slice (some ⟨wr.heap.size,0,none⟩) 1 1] 65))):=aa HB1.out lJ
     have jA:Hid (((wr.alloc (.cells #[.int .i64 f.what,.int .i64 f.num,.string f.v] 67)).alloc (.cells #[.string n,.slice (some ⟨wr.heap.size,0,none⟩) 1 1] 65)).heap[wr.heap.size]?=some (.cells #[.int .i64 f.what,.int .i64 f.num,.string f.v] 67 (0,0))):=(Below.heap_alloc _ _ _ (by simp)).trans (am wr _)
     have he2:=am (wr.alloc (.cells #[.int .i64 f.what,.int .i64 f.num,.string f.v] 67)) (.cells #[.string n,.slice (some ⟨wr.heap.size,0,none⟩) 1 1] 65);rw [World.size_alloc] at he2;have HE2:=aq he2;have hwz:w.heap.size+2<wr.heap.size:=uW.out.size;clear nD lJ he2;go_wp2;clear q0 q1 q2 b0 b1 b2;generalize ((wr.alloc (.cells #[.int .i64 f.what,.int .i64 f.num,.string f.v] 67)).alloc (.cells #[.string n,.slice (some ⟨wr.heap.size,0,none⟩) 1 1] 65))=wq at *;refine wp_region_noPanic ?_;have Cf:wq.drew.heap[wr.heap.size+1]?=some (.cells #[.string n,.slice (some ⟨wr.heap.size,0,none⟩) 1 1] 65 (0,0)):=HE2.out
     refine bj (S:=fun w'=>w'.cell? ⟨w.heap.size,2,none⟩=some (.slice (some ⟨g,0,none⟩) l.length zc)∧w'.cell? ⟨wr.heap.size+1,0,none⟩=some (.string n)∧w'.cell? ⟨wr.heap.size+1,1,none⟩=some (.slice (some ⟨wr.heap.size,0,none⟩) 1 1)) 15 (by kernel_rfl) ?_ (fun hHeld=>?_)
     ·exact ⟨zo.out.drew.fE 2,by simp [World.cell?,Cf],by simp [World.cell?,Cf]⟩
     clear Cf;have nM:Hid (P3 w wq.drew #[.slice xa ks.length xc,.slice ya ps.length yc,.slice (some ⟨g,0,none⟩) l.length zc] f):=zo.out.drew;have kQ:Hid (Below w.heap.size w wq.drew):=HB2.out.drew;have MZ:Hid (wq.drew.heap[wr.heap.size+1]?=some (.cells #[.string n,.slice (some ⟨wr.heap.size,0,none⟩) 1 1] 65 (0,0))):=HE2.out;have HFD:Hid (wq.drew.heap[wr.heap.size]?=some (.cells #[.int .i64 f.what,.int .i64 f.num,.string f.v] 67 (0,0))):=jA.out;generalize wq.drew=W0 at *;clear zo HB2 HE2 jA;refine bG 1 ?_ rfl ?_ (bG 2 ?_ rfl ?_ (bG 3 ?_ rfl ?_ (bG 4 ?_ rfl ?_ (bG 6 ?_ rfl ?_ (bG 9 ?_ rfl ?_ (bG 10 ?_ rfl ?_ (bG 11 ?_ rfl ?_ (bG 12 ?_ rfl ?_ ?_))))))))
     iterate 9 (rotate_left;focus (intro w hSw;(try dsimp only at hSw);simp only [Act.put,aU];go_simp;try with_reducible rfl))
     simp only [Act.put,aU]
     clear hHeld;have hw0:wr.heap.size+1<W0.heap.size:=(Array.getElem?_eq_some_iff.1 MZ.out).1
     have hlo0:lo≤W0.heap.size:=by omega
     have bY:Hid (Below W0.heap.size W0 W0):=Below.refl _ _
     have dK:Hid (∀ wx:World,Below W0.heap.size W0 wx→wx.cell? ⟨w.heap.size,2,none⟩=some (.slice (some ⟨g,0,none⟩) l.length zc)∧wx.cell? ⟨wr.heap.size+1,0,none⟩=some (.string n)∧wx.cell? ⟨wr.heap.size+1,1,none⟩=some (.slice (some ⟨wr.heap.size,0,none⟩) 1 1)):=fun wx hx=>by
      have h1:=(nM.out.call hx).fE 2;have h2:=(hx.block _ hw0).trans MZ.out
      exact ⟨h1,by simp [World.cell?,h2],by simp [World.cell?,h2]⟩
     have zn:Hid (∀ wx:World,Below W0.heap.size W0 wx→∀ q u,(dw l)[q]?=some u→wx.cell? ⟨g,q,none⟩=some u):=fun wx hx=>rV ((HE.out.keep kQ.out).keep hx);have MP:Hid (∀ m:List eD,(∀ p∈m,p∈l)→∀ u∈dw m,u.oneCell'=true):=HE.out.one
     refine bn (rs:=[0,7]) (by kernel_rfl) (by simp) ?_
     refine dF.cons rfl (fun K hK=>?_) (dF.cons rfl (fun K hK=>?_) dF.nil)
     ·go_simp
      have HB2:Hid (Below W0.heap.size W0 (W0.alloc (.cells #[] 65))):=bY.out.alloc bY.out.size _;have RD:Hid ((W0.alloc (.cells #[] 65)).ownsRow W0.heap.size 65 2 (.slice (some ⟨W0.heap.size,0,none⟩) 0 0) 0 []):=be (am W0 _) bY.out.size 2;refine hK.out _ _ (.inr (dK.out _ HB2.out)) ?_;clear hK K bY;have bY:=HB2;clear HB2;generalize W0.alloc (.cells #[] 65)=W1 at *
      refine bn (rs:=[5,7]) (by kernel_rfl) (by simp) ?_
      refine dF.cons rfl (fun K hK=>?_) (dF.cons rfl (fun K hK=>?_) dF.nil)
      focus
       refine aj _ rfl _ _ 28 rfl W0.heap.size 65 i0 _ 2 40 Tryz.underlying28 hi hz0 hz1 hz2 rfl (by decide) _ 0 [] rfl RD.out _ j _ (dw (l.take j)) rfl (.inr ⟨_,rfl,uq j (zn.out _ bY.out)⟩) (by rw [aW,List.length_take,Nat.min_eq_left hj]) (MP.out _ (fun p hp=>List.mem_of_mem_take hp)) (by unfold maxLen;omega) (by omega) bY.out.size ?_
       intro va W2 hown hgrow hat
       simp only [Nat.zero_add,List.nil_append] at hown
       have HB2:Hid (Below W0.heap.size W0 W2):=bY.out.grown hgrow bY.out.size (fun q e=>aw RD.out q e);refine hK.out _ _ (.inr (dK.out _ HB2.out)) ?_;clear hat hgrow RD;clear hK K bY;have bY:=HB2;clear HB2;have RD:=aq hown;obtain ⟨pa,qa,rfl⟩:=cZ hown;clear hown;refine bL 7 rfl (fun K hK=>?_);go_simp;have HB2:Hid (Below W0.heap.size W0 (W2.alloc (.cells #[.string n,.slice (some ⟨wr.heap.size,0,none⟩) 1 1] 65))):=bY.out.alloc bY.out.size _;have BX:Hid ((W2.alloc (.cells #[.string n,.slice (some ⟨wr.heap.size,0,none⟩) 1 1] 65)).heap[W2.heap.size]?=some (.cells #[.string n,.slice (some ⟨wr.heap.size,0,none⟩) 1 1] 65 (0,0))):=am W2 _;have oZ:=aq (ah RD.out ((Below.refl _ W2).alloc aG (.cells #[.string n,.slice (some ⟨wr.heap.size,0,none⟩) 1 1] 65)))
       have iD:Hid (∀ q,Value.ownBlock _=some q→some (W2.heap.size)≠some q):=fun q hq e=>by have:=bD RD.out q hq;injection e with e;omega
       refine hK.out _ _ (.inr (dK.out _ HB2.out)) ?_;clear hK K bY;have bY:=HB2;clear HB2
       have iB:W2.heap.size<(W2.alloc (.cells #[.string n,.slice (some ⟨wr.heap.size,0,none⟩) 1 1] 65)).heap.size:=by rw [World.size_alloc];omega
       clear RD;have RD:=oZ;clear oZ;generalize W2.alloc (.cells #[.string n,.slice (some ⟨wr.heap.size,0,none⟩) 1 1] 65)=W3 at *
      rotate_left
      focus
       go_simp;have HB2:Hid (Below W0.heap.size W0 (W1.alloc (.cells #[.string n,.slice (some ⟨wr.heap.size,0,none⟩) 1 1] 65))):=bY.out.alloc bY.out.size _;have BX:Hid ((W1.alloc (.cells #[.string n,.slice (some ⟨wr.heap.size,0,none⟩) 1 1] 65)).heap[W1.heap.size]?=some (.cells #[.string n,.slice (some ⟨wr.heap.size,0,none⟩) 1 1] 65 (0,0))):=am W1 _;have oZ:=aq (ah RD.out ((Below.refl _ W1).alloc aG (.cells #[.string n,.slice (some ⟨wr.heap.size,0,none⟩) 1 1] 65)))
       have iD:Hid (∀ q,Value.ownBlock _=some q→some (W1.heap.size)≠some q):=fun q hq e=>by have:=bD RD.out q hq;injection e with e;omega
       refine hK.out _ _ (.inr (dK.out _ HB2.out)) ?_;clear hK K bY;have bY:=HB2;clear HB2
       have iB:W1.heap.size<(W1.alloc (.cells #[.string n,.slice (some ⟨wr.heap.size,0,none⟩) 1 1] 65)).heap.size:=by rw [World.size_alloc];omega
       clear RD;have RD:=oZ;clear oZ;generalize W1.alloc (.cells #[.string n,.slice (some ⟨wr.heap.size,0,none⟩) 1 1] 65)=W2 at *;refine bL 5 rfl (fun K hK=>?_)
       refine aj _ rfl _ _ 28 rfl W0.heap.size 65 i0 _ 2 40 Tryz.underlying28 hi hz0 hz1 hz2 rfl (by decide) _ 0 [] rfl RD.out _ j _ (dw (l.take j)) rfl (.inr ⟨_,rfl,uq j (zn.out _ bY.out)⟩) (by rw [aW,List.length_take,Nat.min_eq_left hj]) (MP.out _ (fun p hp=>List.mem_of_mem_take hp)) (by unfold maxLen;omega) (by omega) bY.out.size ?_
       intro va W3 hown hgrow hat
       simp only [Nat.zero_add,List.nil_append] at hown
       have HB2:Hid (Below W0.heap.size W0 W3):=bY.out.grown hgrow bY.out.size (fun q e=>aw RD.out q e);have ky:=aq ((hgrow.block _ iB (fun e=>iD.out _ e.symm rfl)).trans BX.out);have gH:=Nat.lt_of_lt_of_le iB hgrow.size;refine hK.out _ _ (.inr (dK.out _ HB2.out)) ?_;clear hat hgrow RD;clear BX iD iB;have BX:=ky;have iB:=gH;clear ky gH;clear hK K bY;have bY:=HB2;clear HB2;have RD:=aq hown;obtain ⟨pa,qa,rfl⟩:=cZ hown;clear hown
      rotate_left
      all_goals
       refine bL 8 rfl (fun K hK=>?_)
       refine aj _ rfl _ _ 28 rfl W0.heap.size 65 i0 _ 2 40 Tryz.underlying28 hi hz0 hz1 hz2 rfl (by decide) _ j (dw (l.take j)) rfl RD.out _ 1 _ [.string n,.slice (some ⟨wr.heap.size,0,none⟩) 1 1] rfl (.inr ⟨_,rfl,World.news_of_block BX.out⟩) rfl (fun u hu=>by simp only [List.mem_cons,List.not_mem_nil,or_false] at hu;rcases hu with rfl | rfl <;> rfl) (by unfold maxLen;omega) (by omega) bY.out.size ?_
       intro vb W4 hown hgrow hat;have HB2:Hid (Below W0.heap.size W0 W4):=bY.out.grown hgrow bY.out.size (fun q e=>aw RD.out q e);refine hK.out _ _ (.inr (dK.out _ HB2.out)) ?_;clear hat hgrow RD;clear hK K bY;have bY:=HB2;clear HB2;have RD:=aq hown;obtain ⟨pb,qb,rfl⟩:=cZ hown;clear hown;refine bL 13 rfl (fun K hK=>?_)
       refine aj _ rfl _ _ 28 rfl W0.heap.size 65 i0 _ 2 40 Tryz.underlying28 hi hz0 hz1 hz2 rfl (by decide) _ (j+1) (dw (l.take j)++[Value.string n,Value.slice (some ⟨wr.heap.size,0,none⟩) 1 1]) rfl RD.out _ (l.length-j) _ (dw (l.drop j)) rfl (.inr ⟨_,rfl,Aa hj (zn.out _ bY.out)⟩) (by rw [aW,List.length_drop]) (MP.out _ (fun p hp=>List.mem_of_mem_drop hp)) (by unfold maxLen;omega) (by omega) bY.out.size ?_
       intro vc W5 hown hgrow hat;have HB2:Hid (Below W0.heap.size W0 W5):=bY.out.grown hgrow bY.out.size (fun q e=>aw RD.out q e);refine hK.out _ _ (.inr (dK.out _ HB2.out)) ?_;clear hat hgrow RD;clear hK K bY;have bY:=HB2;clear HB2;have RD:=aq hown;obtain ⟨pc,qc,rfl⟩:=cZ hown;clear hown;have hHeld:=dK.out _ bY.out;refine bG 14 ?_ rfl ?_ ?_;rotate_left
       ·intro w hSw;(try dsimp only at hSw);go_simp;try with_reducible rfl
       simp only [Act.put,aU]
       clear hHeld;have lz:=(nM.out.call bY.out).fE 2;have Eh:=(nM.out.call bY.out).AB 2
       simp only [List.getElem?_toArray,List.getElem?_cons_succ,List.getElem?_cons_zero] at lz
       have yD:w.heap.size<W5.heap.size:=by have:=(nM.out.call bY.out).size;omega
       refine bL 15 rfl (fun K hK=>?_);go_simp;refine hK.out _ _ (.inl rfl) ?_;clear hK K
       refine aY (by kernel_rfl) ?_ _
       refine NoPanic.normal ?_;have tQ:=aq ((nM.out.call bY.out).set (.slice pc (j+1+(l.length-j)) qc));have ku:Hid (Below w.heap.size w W5):=aa kQ.out bY.out
       have iM:Hid (df lo (W5.setCell ⟨w.heap.size,2,none⟩ (.slice pc (j+1+(l.length-j)) qc)) (.slice xa ks.length xc) (.slice ya ps.length yc) (.slice pc (j+1+(l.length-j)) qc) ks ps (dS es n f)∧Below w.heap.size w (W5.setCell ⟨w.heap.size,2,none⟩ (.slice pc (j+1+(l.length-j)) qc))):=by
        have hins:dG W5 lo (.slice pc (j+1+(l.length-j)) qc) (l.take j++(⟨n,[f]⟩,.slice (some ⟨wr.heap.size,0,none⟩) 1 1)::l.drop j):=by
         refine HE.out.ins ku.out (mH ((bY.out.block _ (by omega)).trans HFD.out) (by omega)) (fun q hq=>by have hq2:wr.heap.size=q:=Option.some.inj hq;omega) ?_
         have h:=aJ RD.out hlo0;rw [cw,qm,List.length_append,List.length_cons,List.length_take,List.length_drop,Nat.min_eq_left hj]
         have e2:j+(l.length-j+1)=j+1+(l.length-j):=by omega
         rw [e2,← List.append_assoc];exact h
        have hbn:df lo W5 (.slice xa ks.length xc) (.slice ya ps.length yc) (.slice pc (j+1+(l.length-j)) qc) ks ps (dS es n f):=by
         refine ⟨ah CQ.out.1 ku.out,ah CQ.out.2 ku.out,_,?_,hins⟩;rw [HP.out,List.map_append,List.map_cons,List.map_take,List.map_drop,HL.out]
        exact ⟨hbn.box (nM.out.call bY.out).a (aQ W5 w.heap.size 2 _),ku.out.setCell (p:=⟨w.heap.size,2,none⟩) aG _⟩
       generalize W5.setCell ⟨w.heap.size,2,none⟩ (.slice pc (j+1+(l.length-j)) qc)=W9 at *;clear lz Eh yD;obtain ⟨q0,q1,q2⟩:W9.cell? ⟨w.heap.size,0,none⟩=some (.slice xa ks.length xc)∧W9.cell? ⟨w.heap.size,1,none⟩=some (.slice ya ps.length yc)∧W9.cell? ⟨w.heap.size,2,none⟩=some (.slice pc (j+1+(l.length-j)) qc):=⟨tQ.out.fE 0,tQ.out.fE 1,tQ.out.fE 2⟩;have hrow:=tQ.out.c
       go_wp2_with (refine wpList_store_row rfl 30 _ _ rfl (w.heap.size+1+1) #[.slice xa ks.length xc,.slice ya ps.length yc,.slice pc (j+1+(l.length-j)) qc] rfl rfl 30 _ hrow (by kernel_rfl) rfl (by simp [Value.oneCell']) ?_)
       exact bodyPost_ret (v:=.agg #[.slice xa ks.length xc,.slice ya ps.length yc,.slice pc (j+1+(l.length-j)) qc]) (by simp [results,Tryz.results152,go_sem,cell_setRow_same _ _ _ _ _ _ _ hrow]) rfl ⟨_,rfl,iM.out.1.box hrow (aD W9 (w.heap.size+1+1) _),below_setRow (iM.out.2.mono hlo) (by omega) _,fun X D hX=>((below_setRow iM.out.2 (by omega) _).block X (Array.getElem?_eq_some_iff.1 hX).1).trans hX⟩
     ·go_simp
      have HB2:Hid (Below W0.heap.size W0 (W0.alloc (.cells #[.string n,.slice (some ⟨wr.heap.size,0,none⟩) 1 1] 65))):=bY.out.alloc bY.out.size _;have BX:Hid ((W0.alloc (.cells #[.string n,.slice (some ⟨wr.heap.size,0,none⟩) 1 1] 65)).heap[W0.heap.size]?=some (.cells #[.string n,.slice (some ⟨wr.heap.size,0,none⟩) 1 1] 65 (0,0))):=am W0 _;refine hK.out _ _ (.inr (dK.out _ HB2.out)) ?_;clear hK K bY;have bY:=HB2;clear HB2
      have iB:W0.heap.size<(W0.alloc (.cells #[.string n,.slice (some ⟨wr.heap.size,0,none⟩) 1 1] 65)).heap.size:=by rw [World.size_alloc];omega
      generalize W0.alloc (.cells #[.string n,.slice (some ⟨wr.heap.size,0,none⟩) 1 1] 65)=W1 at *;refine bL 0 rfl (fun K hK=>?_);go_simp;have HB2:Hid (Below W0.heap.size W0 (W1.alloc (.cells #[] 65))):=bY.out.alloc bY.out.size _;have RD:Hid ((W1.alloc (.cells #[] 65)).ownsRow W0.heap.size 65 2 (.slice (some ⟨W1.heap.size,0,none⟩) 0 0) 0 []):=be (am W1 _) bY.out.size 2
      have iD:Hid (∀ q,(Value.slice (some ⟨W1.heap.size,0,none⟩) 0 0).ownBlock=some q→some (W0.heap.size)≠some q):=fun q hq e=>by have hq2:W1.heap.size=q:=Option.some.inj hq;injection e with e;omega
      have ky:=aq ((Below.heap_alloc W1 (.cells #[] 65) _ iB).trans BX.out)
      have gH:W0.heap.size<(W1.alloc (.cells #[] 65)).heap.size:=by rw [World.size_alloc];omega
      refine hK.out _ _ (.inr (dK.out _ HB2.out)) ?_;clear hK K bY;have bY:=HB2;clear HB2;clear BX iB;have BX:=ky;have iB:=gH;clear ky gH;generalize W1.alloc (.cells #[] 65)=W2 at *;refine bL 5 rfl (fun K hK=>?_)
      refine aj _ rfl _ _ 28 rfl W0.heap.size 65 i0 _ 2 40 Tryz.underlying28 hi hz0 hz1 hz2 rfl (by decide) _ 0 [] rfl RD.out _ j _ (dw (l.take j)) rfl (.inr ⟨_,rfl,uq j (zn.out _ bY.out)⟩) (by rw [aW,List.length_take,Nat.min_eq_left hj]) (MP.out _ (fun p hp=>List.mem_of_mem_take hp)) (by unfold maxLen;omega) (by omega) bY.out.size ?_
      intro va W3 hown hgrow hat
      simp only [Nat.zero_add,List.nil_append] at hown
      have HB2:Hid (Below W0.heap.size W0 W3):=bY.out.grown hgrow bY.out.size (fun q e=>aw RD.out q e);have ky:=aq ((hgrow.block _ iB (fun e=>iD.out _ e.symm rfl)).trans BX.out);have gH:=Nat.lt_of_lt_of_le iB hgrow.size;refine hK.out _ _ (.inr (dK.out _ HB2.out)) ?_;clear hat hgrow RD;clear BX iD iB;have BX:=ky;have iB:=gH;clear ky gH;clear hK K bY;have bY:=HB2;clear HB2;have RD:=aq hown;obtain ⟨pa,qa,rfl⟩:=cZ hown;clear hown;refine bL 8 rfl (fun K hK=>?_)
      refine aj _ rfl _ _ 28 rfl W0.heap.size 65 i0 _ 2 40 Tryz.underlying28 hi hz0 hz1 hz2 rfl (by decide) _ j (dw (l.take j)) rfl RD.out _ 1 _ [.string n,.slice (some ⟨wr.heap.size,0,none⟩) 1 1] rfl (.inr ⟨_,rfl,World.news_of_block BX.out⟩) rfl (fun u hu=>by simp only [List.mem_cons,List.not_mem_nil,or_false] at hu;rcases hu with rfl | rfl <;> rfl) (by unfold maxLen;omega) (by omega) bY.out.size ?_
      intro vb W4 hown hgrow hat;have HB2:Hid (Below W0.heap.size W0 W4):=bY.out.grown hgrow bY.out.size (fun q e=>aw RD.out q e);refine hK.out _ _ (.inr (dK.out _ HB2.out)) ?_;clear hat hgrow RD;clear hK K bY;have bY:=HB2;clear HB2;have RD:=aq hown;obtain ⟨pb,qb,rfl⟩:=cZ hown;clear hown;refine bL 13 rfl (fun K hK=>?_)
      refine aj _ rfl _ _ 28 rfl W0.heap.size 65 i0 _ 2 40 Tryz.underlying28 hi hz0 hz1 hz2 rfl (by decide) _ (j+1) (dw (l.take j)++[Value.string n,Value.slice (some ⟨wr.heap.size,0,none⟩) 1 1]) rfl RD.out _ (l.length-j) _ (dw (l.drop j)) rfl (.inr ⟨_,rfl,Aa hj (zn.out _ bY.out)⟩) (by rw [aW,List.length_drop]) (MP.out _ (fun p hp=>List.mem_of_mem_drop hp)) (by unfold maxLen;omega) (by omega) bY.out.size ?_
      intro vc W5 hown hgrow hat;have HB2:Hid (Below W0.heap.size W0 W5):=bY.out.grown hgrow bY.out.size (fun q e=>aw RD.out q e);refine hK.out _ _ (.inr (dK.out _ HB2.out)) ?_;clear hat hgrow RD;clear hK K bY;have bY:=HB2;clear HB2;have RD:=aq hown;obtain ⟨pc,qc,rfl⟩:=cZ hown;clear hown;have hHeld:=dK.out _ bY.out;refine bG 14 ?_ rfl ?_ ?_;rotate_left
      ·intro w hSw;(try dsimp only at hSw);go_simp;try with_reducible rfl
      simp only [Act.put,aU]
      clear hHeld;have lz:=(nM.out.call bY.out).fE 2;have Eh:=(nM.out.call bY.out).AB 2
      simp only [List.getElem?_toArray,List.getElem?_cons_succ,List.getElem?_cons_zero] at lz
      have yD:w.heap.size<W5.heap.size:=by have:=(nM.out.call bY.out).size;omega
      refine bL 15 rfl (fun K hK=>?_);go_simp;refine hK.out _ _ (.inl rfl) ?_;clear hK K
      refine aY (by kernel_rfl) ?_ _
      refine NoPanic.normal ?_;have tQ:=aq ((nM.out.call bY.out).set (.slice pc (j+1+(l.length-j)) qc));have ku:Hid (Below w.heap.size w W5):=aa kQ.out bY.out
      have iM:Hid (df lo (W5.setCell ⟨w.heap.size,2,none⟩ (.slice pc (j+1+(l.length-j)) qc)) (.slice xa ks.length xc) (.slice ya ps.length yc) (.slice pc (j+1+(l.length-j)) qc) ks ps (dS es n f)∧Below w.heap.size w (W5.setCell ⟨w.heap.size,2,none⟩ (.slice pc (j+1+(l.length-j)) qc))):=by
       have hins:dG W5 lo (.slice pc (j+1+(l.length-j)) qc) (l.take j++(⟨n,[f]⟩,.slice (some ⟨wr.heap.size,0,none⟩) 1 1)::l.drop j):=by
        refine HE.out.ins ku.out (mH ((bY.out.block _ (by omega)).trans HFD.out) (by omega)) (fun q hq=>by have hq2:wr.heap.size=q:=Option.some.inj hq;omega) ?_
        have h:=aJ RD.out hlo0;rw [cw,qm,List.length_append,List.length_cons,List.length_take,List.length_drop,Nat.min_eq_left hj]
        have e2:j+(l.length-j+1)=j+1+(l.length-j):=by omega
        rw [e2,← List.append_assoc];exact h
       have hbn:df lo W5 (.slice xa ks.length xc) (.slice ya ps.length yc) (.slice pc (j+1+(l.length-j)) qc) ks ps (dS es n f):=by
        refine ⟨ah CQ.out.1 ku.out,ah CQ.out.2 ku.out,_,?_,hins⟩;rw [HP.out,List.map_append,List.map_cons,List.map_take,List.map_drop,HL.out]
       exact ⟨hbn.box (nM.out.call bY.out).a (aQ W5 w.heap.size 2 _),ku.out.setCell (p:=⟨w.heap.size,2,none⟩) aG _⟩
      generalize W5.setCell ⟨w.heap.size,2,none⟩ (.slice pc (j+1+(l.length-j)) qc)=W9 at *;clear lz Eh yD;obtain ⟨q0,q1,q2⟩:W9.cell? ⟨w.heap.size,0,none⟩=some (.slice xa ks.length xc)∧W9.cell? ⟨w.heap.size,1,none⟩=some (.slice ya ps.length yc)∧W9.cell? ⟨w.heap.size,2,none⟩=some (.slice pc (j+1+(l.length-j)) qc):=⟨tQ.out.fE 0,tQ.out.fE 1,tQ.out.fE 2⟩;have hrow:=tQ.out.c
      go_wp2_with (refine wpList_store_row rfl 30 _ _ rfl (w.heap.size+1+1) #[.slice xa ks.length xc,.slice ya ps.length yc,.slice pc (j+1+(l.length-j)) qc] rfl rfl 30 _ hrow (by kernel_rfl) rfl (by simp [Value.oneCell']) ?_)
      exact bodyPost_ret (v:=.agg #[.slice xa ks.length xc,.slice ya ps.length yc,.slice pc (j+1+(l.length-j)) qc]) (by simp [results,Tryz.results152,go_sem,cell_setRow_same _ _ _ _ _ _ _ hrow]) rfl ⟨_,rfl,iM.out.1.box hrow (aD W9 (w.heap.size+1+1) _),below_setRow (iM.out.2.mono hlo) (by omega) _,fun X D hX=>((below_setRow iM.out.2 (by omega) _).block X (Array.getElem?_eq_some_iff.1 hX).1).trans hX⟩
    ·have hbd:Op.bytesLess (eZ es j).name.toList n.toList=true:=hbl
     have nT:Hid (∀ i,i<j+1→iU (eZ es i).name n=true):=fun i hi=>by
      by_cases e:i=j
      ·subst e;exact hbl
      ·exact Fy.out i (by omega)
     clear hbl;go_wp2
     exact ⟨⟨by trivial,j+1,by omega,by go_num,nT⟩,by simp [intOf];omega⟩
   ·have HP:Hid (dS es n f=es.take j++⟨n,[f]⟩::es.drop j):=Bz es n f j (by omega) HNO.out Fy.out (fun h=>absurd h (by omega))
    have hcase:=HE.out.row.2
    rcases hcase with ⟨hv,h0⟩ | ⟨g,cap,cur,hv,hgl,-,hnc,hcm,-,-⟩
    ·injection hv with e1 e2 e3
     subst e1;subst e3
     have hj00:j=0:=by omega
     subst hj00;clear hj0 hjl e2;have nD:Below wr.heap.size wr (wr.alloc (.cells #[.int .i64 f.what,.int .i64 f.num,.string f.v] 67)):=(aM);have lJ:Below wr.heap.size wr ((wr.alloc (.cells #[.int .i64 f.what,.int .i64 f.num,.string f.v] 67)).alloc (.cells #[.string n,.slice (some ⟨wr.heap.size,0,none⟩) 1 1] 65)):=nD.alloc nD.size _;have zo:Hid (P3 w ((wr.alloc (.cells #[.int .i64 f.what,.int .i64 f.num,.string f.v] 67)).alloc (.cells #[.string n,.slice (some ⟨wr.heap.size,0,none⟩) 1 1] 65)) #[.slice xa ks.length xc,.slice ya ps.length yc,.slice none l.length 0] f):=uW.out.call lJ;have HB2:Hid (Below w.heap.size w ((wr.alloc (.cells #[.int .i64 f.what,.int .i64 f.num,.string f.v] 67)).alloc (.cells #[.string n,.slice (some ⟨wr.heap.size,0,none⟩) 1 1] 65))):=aa HB1.out lJ
     have jA:Hid (((wr.alloc (.cells #[.int .i64 f.what,.int .i64 f.num,.string f.v] 67)).alloc (.cells #[.string n,.slice (some ⟨wr.heap.size,0,none⟩) 1 1] 65)).heap[wr.heap.size]?=some (.cells #[.int .i64 f.what,.int .i64 f.num,.string f.v] 67 (0,0))):=(Below.heap_alloc _ _ _ (by simp)).trans (am wr _)
     have he2:=am (wr.alloc (.cells #[.int .i64 f.what,.int .i64 f.num,.string f.v] 67)) (.cells #[.string n,.slice (some ⟨wr.heap.size,0,none⟩) 1 1] 65);rw [World.size_alloc] at he2;have HE2:=aq he2;have hwz:w.heap.size+2<wr.heap.size:=uW.out.size;clear nD lJ he2;go_wp2;clear q0 q1 q2 b0 b1 b2;generalize ((wr.alloc (.cells #[.int .i64 f.what,.int .i64 f.num,.string f.v] 67)).alloc (.cells #[.string n,.slice (some ⟨wr.heap.size,0,none⟩) 1 1] 65))=wq at *;refine wp_region_noPanic ?_;have Cf:wq.drew.heap[wr.heap.size+1]?=some (.cells #[.string n,.slice (some ⟨wr.heap.size,0,none⟩) 1 1] 65 (0,0)):=HE2.out
     refine bj (S:=fun w'=>w'.cell? ⟨w.heap.size,2,none⟩=some (.slice none l.length 0)∧w'.cell? ⟨wr.heap.size+1,0,none⟩=some (.string n)∧w'.cell? ⟨wr.heap.size+1,1,none⟩=some (.slice (some ⟨wr.heap.size,0,none⟩) 1 1)) 15 (by kernel_rfl) ?_ (fun hHeld=>?_)
     ·exact ⟨zo.out.drew.fE 2,by simp [World.cell?,Cf],by simp [World.cell?,Cf]⟩
     clear Cf;have nM:Hid (P3 w wq.drew #[.slice xa ks.length xc,.slice ya ps.length yc,.slice none l.length 0] f):=zo.out.drew;have kQ:Hid (Below w.heap.size w wq.drew):=HB2.out.drew;have MZ:Hid (wq.drew.heap[wr.heap.size+1]?=some (.cells #[.string n,.slice (some ⟨wr.heap.size,0,none⟩) 1 1] 65 (0,0))):=HE2.out;have HFD:Hid (wq.drew.heap[wr.heap.size]?=some (.cells #[.int .i64 f.what,.int .i64 f.num,.string f.v] 67 (0,0))):=jA.out;generalize wq.drew=W0 at *;clear zo HB2 HE2 jA;refine bG 1 ?_ rfl ?_ (bG 2 ?_ rfl ?_ (bG 3 ?_ rfl ?_ (bG 4 ?_ rfl ?_ (bG 6 ?_ rfl ?_ (bG 9 ?_ rfl ?_ (bG 10 ?_ rfl ?_ (bG 11 ?_ rfl ?_ (bG 12 ?_ rfl ?_ ?_))))))))
     iterate 9 (rotate_left;focus (intro w hSw;(try dsimp only at hSw);simp only [Act.put,aU];go_simp;try with_reducible rfl))
     simp only [Act.put,aU]
     clear hHeld;have hw0:wr.heap.size+1<W0.heap.size:=(Array.getElem?_eq_some_iff.1 MZ.out).1
     have hlo0:lo≤W0.heap.size:=by omega
     have bY:Hid (Below W0.heap.size W0 W0):=Below.refl _ _
     have dK:Hid (∀ wx:World,Below W0.heap.size W0 wx→wx.cell? ⟨w.heap.size,2,none⟩=some (.slice none l.length 0)∧wx.cell? ⟨wr.heap.size+1,0,none⟩=some (.string n)∧wx.cell? ⟨wr.heap.size+1,1,none⟩=some (.slice (some ⟨wr.heap.size,0,none⟩) 1 1)):=fun wx hx=>by
      have h1:=(nM.out.call hx).fE 2;have h2:=(hx.block _ hw0).trans MZ.out
      exact ⟨h1,by simp [World.cell?,h2],by simp [World.cell?,h2]⟩
     refine bn (rs:=[0,7]) (by kernel_rfl) (by simp) ?_
     refine dF.cons rfl (fun K hK=>?_) (dF.cons rfl (fun K hK=>?_) dF.nil)
     ·go_simp
      have HB2:Hid (Below W0.heap.size W0 (W0.alloc (.cells #[] 65))):=bY.out.alloc bY.out.size _;have RD:Hid ((W0.alloc (.cells #[] 65)).ownsRow W0.heap.size 65 2 (.slice (some ⟨W0.heap.size,0,none⟩) 0 0) 0 []):=be (am W0 _) bY.out.size 2;refine hK.out _ _ (.inr (dK.out _ HB2.out)) ?_;clear hK K bY;have bY:=HB2;clear HB2;generalize W0.alloc (.cells #[] 65)=W1 at *
      refine bn (rs:=[5,7]) (by kernel_rfl) (by simp) ?_
      refine dF.cons rfl (fun K hK=>?_) (dF.cons rfl (fun K hK=>?_) dF.nil)
      focus
       refine aj _ rfl _ _ 28 rfl W0.heap.size 65 i0 _ 2 40 Tryz.underlying28 hi hz0 hz1 hz2 rfl (by decide) _ 0 [] rfl RD.out _ 0 _ [] rfl (.inl rfl) rfl (fun u hu=>by cases hu) (by unfold maxLen;omega) (by omega) bY.out.size ?_
       intro va W2 hown hgrow hat
       simp only [Nat.zero_add,List.nil_append] at hown
       have HB2:Hid (Below W0.heap.size W0 W2):=bY.out.grown hgrow bY.out.size (fun q e=>aw RD.out q e);refine hK.out _ _ (.inr (dK.out _ HB2.out)) ?_;clear hat hgrow RD;clear hK K bY;have bY:=HB2;clear HB2;have RD:=aq hown;obtain ⟨pa,qa,rfl⟩:=cZ hown;clear hown;refine bL 7 rfl (fun K hK=>?_);go_simp;have HB2:Hid (Below W0.heap.size W0 (W2.alloc (.cells #[.string n,.slice (some ⟨wr.heap.size,0,none⟩) 1 1] 65))):=bY.out.alloc bY.out.size _;have BX:Hid ((W2.alloc (.cells #[.string n,.slice (some ⟨wr.heap.size,0,none⟩) 1 1] 65)).heap[W2.heap.size]?=some (.cells #[.string n,.slice (some ⟨wr.heap.size,0,none⟩) 1 1] 65 (0,0))):=am W2 _;have oZ:=aq (ah RD.out ((Below.refl _ W2).alloc aG (.cells #[.string n,.slice (some ⟨wr.heap.size,0,none⟩) 1 1] 65)))
       have iD:Hid (∀ q,Value.ownBlock _=some q→some (W2.heap.size)≠some q):=fun q hq e=>by have:=bD RD.out q hq;injection e with e;omega
       refine hK.out _ _ (.inr (dK.out _ HB2.out)) ?_;clear hK K bY;have bY:=HB2;clear HB2
       have iB:W2.heap.size<(W2.alloc (.cells #[.string n,.slice (some ⟨wr.heap.size,0,none⟩) 1 1] 65)).heap.size:=by rw [World.size_alloc];omega
       clear RD;have RD:=oZ;clear oZ;generalize W2.alloc (.cells #[.string n,.slice (some ⟨wr.heap.size,0,none⟩) 1 1] 65)=W3 at *
      rotate_left
      focus
       go_simp;have HB2:Hid (Below W0.heap.size W0 (W1.alloc (.cells #[.string n,.slice (some ⟨wr.heap.size,0,none⟩) 1 1] 65))):=bY.out.alloc bY.out.size _;have BX:Hid ((W1.alloc (.cells #[.string n,.slice (some ⟨wr.heap.size,0,none⟩) 1 1] 65)).heap[W1.heap.size]?=some (.cells #[.string n,.slice (some ⟨wr.heap.size,0,none⟩) 1 1] 65 (0,0))):=am W1 _;have oZ:=aq (ah RD.out ((Below.refl _ W1).alloc aG (.cells #[.string n,.slice (some ⟨wr.heap.size,0,none⟩) 1 1] 65)))
       have iD:Hid (∀ q,Value.ownBlock _=some q→some (W1.heap.size)≠some q):=fun q hq e=>by have:=bD RD.out q hq;injection e with e;omega
       refine hK.out _ _ (.inr (dK.out _ HB2.out)) ?_;clear hK K bY;have bY:=HB2;clear HB2
       have iB:W1.heap.size<(W1.alloc (.cells #[.string n,.slice (some ⟨wr.heap.size,0,none⟩) 1 1] 65)).heap.size:=by rw [World.size_alloc];omega
       clear RD;have RD:=oZ;clear oZ;generalize W1.alloc (.cells #[.string n,.slice (some ⟨wr.heap.size,0,none⟩) 1 1] 65)=W2 at *;refine bL 5 rfl (fun K hK=>?_)
       refine aj _ rfl _ _ 28 rfl W0.heap.size 65 i0 _ 2 40 Tryz.underlying28 hi hz0 hz1 hz2 rfl (by decide) _ 0 [] rfl RD.out _ 0 _ [] rfl (.inl rfl) rfl (fun u hu=>by cases hu) (by unfold maxLen;omega) (by omega) bY.out.size ?_
       intro va W3 hown hgrow hat
       simp only [Nat.zero_add,List.nil_append] at hown
       have HB2:Hid (Below W0.heap.size W0 W3):=bY.out.grown hgrow bY.out.size (fun q e=>aw RD.out q e);have ky:=aq ((hgrow.block _ iB (fun e=>iD.out _ e.symm rfl)).trans BX.out);have gH:=Nat.lt_of_lt_of_le iB hgrow.size;refine hK.out _ _ (.inr (dK.out _ HB2.out)) ?_;clear hat hgrow RD;clear BX iD iB;have BX:=ky;have iB:=gH;clear ky gH;clear hK K bY;have bY:=HB2;clear HB2;have RD:=aq hown;obtain ⟨pa,qa,rfl⟩:=cZ hown;clear hown
      rotate_left
      all_goals
       refine bL 8 rfl (fun K hK=>?_)
       refine aj _ rfl _ _ 28 rfl W0.heap.size 65 i0 _ 2 40 Tryz.underlying28 hi hz0 hz1 hz2 rfl (by decide) _ 0 [] rfl RD.out _ 1 _ [.string n,.slice (some ⟨wr.heap.size,0,none⟩) 1 1] rfl (.inr ⟨_,rfl,World.news_of_block BX.out⟩) rfl (fun u hu=>by simp only [List.mem_cons,List.not_mem_nil,or_false] at hu;rcases hu with rfl | rfl <;> rfl) (by unfold maxLen;omega) (by omega) bY.out.size ?_
       intro vb W4 hown hgrow hat
       simp only [Nat.zero_add,List.nil_append] at hown
       have HB2:Hid (Below W0.heap.size W0 W4):=bY.out.grown hgrow bY.out.size (fun q e=>aw RD.out q e);refine hK.out _ _ (.inr (dK.out _ HB2.out)) ?_;clear hat hgrow RD;clear hK K bY;have bY:=HB2;clear HB2;have RD:=aq hown;obtain ⟨pb,qb,rfl⟩:=cZ hown;clear hown;refine bL 13 rfl (fun K hK=>?_)
       refine aj _ rfl _ _ 28 rfl W0.heap.size 65 i0 _ 2 40 Tryz.underlying28 hi hz0 hz1 hz2 rfl (by decide) _ 1 [.string n,.slice (some ⟨wr.heap.size,0,none⟩) 1 1] rfl RD.out _ 0 _ [] rfl (.inl rfl) rfl (fun u hu=>by cases hu) (by unfold maxLen;omega) (by omega) bY.out.size ?_
       intro vc W5 hown hgrow hat
       simp only [Nat.add_zero,List.append_nil] at hown
       have HB2:Hid (Below W0.heap.size W0 W5):=bY.out.grown hgrow bY.out.size (fun q e=>aw RD.out q e);refine hK.out _ _ (.inr (dK.out _ HB2.out)) ?_;clear hat hgrow RD;clear hK K bY;have bY:=HB2;clear HB2;have RD:=aq hown;obtain ⟨pc,qc,rfl⟩:=cZ hown;clear hown;have hHeld:=dK.out _ bY.out;refine bG 14 ?_ rfl ?_ ?_;rotate_left
       ·intro w hSw;(try dsimp only at hSw);go_simp;try with_reducible rfl
       simp only [Act.put,aU]
       clear hHeld;have lz:=(nM.out.call bY.out).fE 2;have Eh:=(nM.out.call bY.out).AB 2
       simp only [List.getElem?_toArray,List.getElem?_cons_succ,List.getElem?_cons_zero] at lz
       have yD:w.heap.size<W5.heap.size:=by have:=(nM.out.call bY.out).size;omega
       refine bL 15 rfl (fun K hK=>?_);go_simp;refine hK.out _ _ (.inl rfl) ?_;clear hK K
       refine aY (by kernel_rfl) ?_ _
       refine NoPanic.normal ?_;have tQ:=aq ((nM.out.call bY.out).set (.slice pc 1 qc));have ku:Hid (Below w.heap.size w W5):=aa kQ.out bY.out
       have iM:Hid (df lo (W5.setCell ⟨w.heap.size,2,none⟩ (.slice pc 1 qc)) (.slice xa ks.length xc) (.slice ya ps.length yc) (.slice pc 1 qc) ks ps (dS es n f)∧Below w.heap.size w (W5.setCell ⟨w.heap.size,2,none⟩ (.slice pc 1 qc))):=by
        have hins:dG W5 lo (.slice pc 1 qc) (l.take 0++(⟨n,[f]⟩,.slice (some ⟨wr.heap.size,0,none⟩) 1 1)::l.drop 0):=by
         refine HE.out.ins ku.out (mH ((bY.out.block _ (by omega)).trans HFD.out) (by omega)) (fun q hq=>by have hq2:wr.heap.size=q:=Option.some.inj hq;omega) ?_
         have hl0:l=[]:=List.eq_nil_of_length_eq_zero h0;rw [hl0];exact aJ RD.out hlo0
        have hbn:df lo W5 (.slice xa ks.length xc) (.slice ya ps.length yc) (.slice pc 1 qc) ks ps (dS es n f):=by
         refine ⟨ah CQ.out.1 ku.out,ah CQ.out.2 ku.out,_,?_,hins⟩;rw [HP.out,List.map_append,List.map_cons,List.map_take,List.map_drop,HL.out]
        exact ⟨hbn.box (nM.out.call bY.out).a (aQ W5 w.heap.size 2 _),ku.out.setCell (p:=⟨w.heap.size,2,none⟩) aG _⟩
       generalize W5.setCell ⟨w.heap.size,2,none⟩ (.slice pc 1 qc)=W9 at *;clear lz Eh yD;obtain ⟨q0,q1,q2⟩:W9.cell? ⟨w.heap.size,0,none⟩=some (.slice xa ks.length xc)∧W9.cell? ⟨w.heap.size,1,none⟩=some (.slice ya ps.length yc)∧W9.cell? ⟨w.heap.size,2,none⟩=some (.slice pc 1 qc):=⟨tQ.out.fE 0,tQ.out.fE 1,tQ.out.fE 2⟩;have hrow:=tQ.out.c
       go_wp2_with (refine wpList_store_row rfl 30 _ _ rfl (w.heap.size+1+1) #[.slice xa ks.length xc,.slice ya ps.length yc,.slice pc 1 qc] rfl rfl 30 _ hrow (by kernel_rfl) rfl (by simp [Value.oneCell']) ?_)
       exact bodyPost_ret (v:=.agg #[.slice xa ks.length xc,.slice ya ps.length yc,.slice pc 1 qc]) (by simp [results,Tryz.results152,go_sem,cell_setRow_same _ _ _ _ _ _ _ hrow]) rfl ⟨_,rfl,iM.out.1.box hrow (aD W9 (w.heap.size+1+1) _),below_setRow (iM.out.2.mono hlo) (by omega) _,fun X D hX=>((below_setRow iM.out.2 (by omega) _).block X (Array.getElem?_eq_some_iff.1 hX).1).trans hX⟩
     ·go_simp
      have HB2:Hid (Below W0.heap.size W0 (W0.alloc (.cells #[.string n,.slice (some ⟨wr.heap.size,0,none⟩) 1 1] 65))):=bY.out.alloc bY.out.size _;have BX:Hid ((W0.alloc (.cells #[.string n,.slice (some ⟨wr.heap.size,0,none⟩) 1 1] 65)).heap[W0.heap.size]?=some (.cells #[.string n,.slice (some ⟨wr.heap.size,0,none⟩) 1 1] 65 (0,0))):=am W0 _;refine hK.out _ _ (.inr (dK.out _ HB2.out)) ?_;clear hK K bY;have bY:=HB2;clear HB2
      have iB:W0.heap.size<(W0.alloc (.cells #[.string n,.slice (some ⟨wr.heap.size,0,none⟩) 1 1] 65)).heap.size:=by rw [World.size_alloc];omega
      generalize W0.alloc (.cells #[.string n,.slice (some ⟨wr.heap.size,0,none⟩) 1 1] 65)=W1 at *;refine bL 0 rfl (fun K hK=>?_);go_simp;have HB2:Hid (Below W0.heap.size W0 (W1.alloc (.cells #[] 65))):=bY.out.alloc bY.out.size _;have RD:Hid ((W1.alloc (.cells #[] 65)).ownsRow W0.heap.size 65 2 (.slice (some ⟨W1.heap.size,0,none⟩) 0 0) 0 []):=be (am W1 _) bY.out.size 2
      have iD:Hid (∀ q,(Value.slice (some ⟨W1.heap.size,0,none⟩) 0 0).ownBlock=some q→some (W0.heap.size)≠some q):=fun q hq e=>by have hq2:W1.heap.size=q:=Option.some.inj hq;injection e with e;omega
      have ky:=aq ((Below.heap_alloc W1 (.cells #[] 65) _ iB).trans BX.out)
      have gH:W0.heap.size<(W1.alloc (.cells #[] 65)).heap.size:=by rw [World.size_alloc];omega
      refine hK.out _ _ (.inr (dK.out _ HB2.out)) ?_;clear hK K bY;have bY:=HB2;clear HB2;clear BX iB;have BX:=ky;have iB:=gH;clear ky gH;generalize W1.alloc (.cells #[] 65)=W2 at *;refine bL 5 rfl (fun K hK=>?_)
      refine aj _ rfl _ _ 28 rfl W0.heap.size 65 i0 _ 2 40 Tryz.underlying28 hi hz0 hz1 hz2 rfl (by decide) _ 0 [] rfl RD.out _ 0 _ [] rfl (.inl rfl) rfl (fun u hu=>by cases hu) (by unfold maxLen;omega) (by omega) bY.out.size ?_
      intro va W3 hown hgrow hat
      simp only [Nat.zero_add,List.nil_append] at hown
      have HB2:Hid (Below W0.heap.size W0 W3):=bY.out.grown hgrow bY.out.size (fun q e=>aw RD.out q e);have ky:=aq ((hgrow.block _ iB (fun e=>iD.out _ e.symm rfl)).trans BX.out);have gH:=Nat.lt_of_lt_of_le iB hgrow.size;refine hK.out _ _ (.inr (dK.out _ HB2.out)) ?_;clear hat hgrow RD;clear BX iD iB;have BX:=ky;have iB:=gH;clear ky gH;clear hK K bY;have bY:=HB2;clear HB2;have RD:=aq hown;obtain ⟨pa,qa,rfl⟩:=cZ hown;clear hown;refine bL 8 rfl (fun K hK=>?_)
      refine aj _ rfl _ _ 28 rfl W0.heap.size 65 i0 _ 2 40 Tryz.underlying28 hi hz0 hz1 hz2 rfl (by decide) _ 0 [] rfl RD.out _ 1 _ [.string n,.slice (some ⟨wr.heap.size,0,none⟩) 1 1] rfl (.inr ⟨_,rfl,World.news_of_block BX.out⟩) rfl (fun u hu=>by simp only [List.mem_cons,List.not_mem_nil,or_false] at hu;rcases hu with rfl | rfl <;> rfl) (by unfold maxLen;omega) (by omega) bY.out.size ?_
      intro vb W4 hown hgrow hat
      simp only [Nat.zero_add,List.nil_append] at hown
      have HB2:Hid (Below W0.heap.size W0 W4):=bY.out.grown hgrow bY.out.size (fun q e=>aw RD.out q e);refine hK.out _ _ (.inr (dK.out _ HB2.out)) ?_;clear hat hgrow RD;clear hK K bY;have bY:=HB2;clear HB2;have RD:=aq hown;obtain ⟨pb,qb,rfl⟩:=cZ hown;clear hown;refine bL 13 rfl (fun K hK=>?_)
      refine aj _ rfl _ _ 28 rfl W0.heap.size 65 i0 _ 2 40 Tryz.underlying28 hi hz0 hz1 hz2 rfl (by decide) _ 1 [.string n,.slice (some ⟨wr.heap.size,0,none⟩) 1 1] rfl RD.out _ 0 _ [] rfl (.inl rfl) rfl (fun u hu=>by cases hu) (by unfold maxLen;omega) (by omega) bY.out.size ?_
      intro vc W5 hown hgrow hat
      simp only [Nat.add_zero,List.append_nil] at hown
      have HB2:Hid (Below W0.heap.size W0 W5):=bY.out.grown hgrow bY.out.size (fun q e=>aw RD.out q e);refine hK.out _ _ (.inr (dK.out _ HB2.out)) ?_;clear hat hgrow RD;clear hK K bY;have bY:=HB2;clear HB2;have RD:=aq hown;obtain ⟨pc,qc,rfl⟩:=cZ hown;clear hown;have hHeld:=dK.out _ bY.out;refine bG 14 ?_ rfl ?_ ?_;rotate_left
      ·intro w hSw;(try dsimp only at hSw);go_simp;try with_reducible rfl
      simp only [Act.put,aU]
      clear hHeld;have lz:=(nM.out.call bY.out).fE 2;have Eh:=(nM.out.call bY.out).AB 2
      simp only [List.getElem?_toArray,List.getElem?_cons_succ,List.getElem?_cons_zero] at lz
      have yD:w.heap.size<W5.heap.size:=by have:=(nM.out.call bY.out).size;omega
      refine bL 15 rfl (fun K hK=>?_);go_simp;refine hK.out _ _ (.inl rfl) ?_;clear hK K
      refine aY (by kernel_rfl) ?_ _
      refine NoPanic.normal ?_;have tQ:=aq ((nM.out.call bY.out).set (.slice pc 1 qc));have ku:Hid (Below w.heap.size w W5):=aa kQ.out bY.out
      have iM:Hid (df lo (W5.setCell ⟨w.heap.size,2,none⟩ (.slice pc 1 qc)) (.slice xa ks.length xc) (.slice ya ps.length yc) (.slice pc 1 qc) ks ps (dS es n f)∧Below w.heap.size w (W5.setCell ⟨w.heap.size,2,none⟩ (.slice pc 1 qc))):=by
       have hins:dG W5 lo (.slice pc 1 qc) (l.take 0++(⟨n,[f]⟩,.slice (some ⟨wr.heap.size,0,none⟩) 1 1)::l.drop 0):=by
        refine HE.out.ins ku.out (mH ((bY.out.block _ (by omega)).trans HFD.out) (by omega)) (fun q hq=>by have hq2:wr.heap.size=q:=Option.some.inj hq;omega) ?_
        have hl0:l=[]:=List.eq_nil_of_length_eq_zero h0;rw [hl0];exact aJ RD.out hlo0
       have hbn:df lo W5 (.slice xa ks.length xc) (.slice ya ps.length yc) (.slice pc 1 qc) ks ps (dS es n f):=by
        refine ⟨ah CQ.out.1 ku.out,ah CQ.out.2 ku.out,_,?_,hins⟩;rw [HP.out,List.map_append,List.map_cons,List.map_take,List.map_drop,HL.out]
       exact ⟨hbn.box (nM.out.call bY.out).a (aQ W5 w.heap.size 2 _),ku.out.setCell (p:=⟨w.heap.size,2,none⟩) aG _⟩
      generalize W5.setCell ⟨w.heap.size,2,none⟩ (.slice pc 1 qc)=W9 at *;clear lz Eh yD;obtain ⟨q0,q1,q2⟩:W9.cell? ⟨w.heap.size,0,none⟩=some (.slice xa ks.length xc)∧W9.cell? ⟨w.heap.size,1,none⟩=some (.slice ya ps.length yc)∧W9.cell? ⟨w.heap.size,2,none⟩=some (.slice pc 1 qc):=⟨tQ.out.fE 0,tQ.out.fE 1,tQ.out.fE 2⟩;have hrow:=tQ.out.c
      go_wp2_with (refine wpList_store_row rfl 30 _ _ rfl (w.heap.size+1+1) #[.slice xa ks.length xc,.slice ya ps.length yc,.slice pc 1 qc] rfl rfl 30 _ hrow (by kernel_rfl) rfl (by simp [Value.oneCell']) ?_)
      exact bodyPost_ret (v:=.agg #[.slice xa ks.length xc,.slice ya ps.length yc,.slice pc 1 qc]) (by simp [results,Tryz.results152,go_sem,cell_setRow_same _ _ _ _ _ _ _ hrow]) rfl ⟨_,rfl,iM.out.1.box hrow (aD W9 (w.heap.size+1+1) _),below_setRow (iM.out.2.mono hlo) (by omega) _,fun X D hX=>((below_setRow iM.out.2 (by omega) _).block X (Array.getElem?_eq_some_iff.1 hX).1).trans hX⟩
    ·cases hv
     unfold maxLen at hcm
     have hje:j=l.length:=by omega
     subst hje
     have hcc:(l.length:Int)≤(zc:Int):=by omega
     rw [List.take_of_length_le (by omega),List.drop_of_length_le (by omega)] at HP
     by_cases hjn:zc=l.length
     focus
      subst hjn;clear hj0 hjl;have nD:Below wr.heap.size wr (wr.alloc (.cells #[.int .i64 f.what,.int .i64 f.num,.string f.v] 67)):=(aM);have lJ:Below wr.heap.size wr ((wr.alloc (.cells #[.int .i64 f.what,.int .i64 f.num,.string f.v] 67)).alloc (.cells #[.string n,.slice (some ⟨wr.heap.size,0,none⟩) 1 1] 65)):=nD.alloc nD.size _;have zo:Hid (P3 w ((wr.alloc (.cells #[.int .i64 f.what,.int .i64 f.num,.string f.v] 67)).alloc (.cells #[.string n,.slice (some ⟨wr.heap.size,0,none⟩) 1 1] 65)) #[.slice xa ks.length xc,.slice ya ps.length yc,.slice (some ⟨g,0,none⟩) l.length l.length] f):=uW.out.call lJ;have HB2:Hid (Below w.heap.size w ((wr.alloc (.cells #[.int .i64 f.what,.int .i64 f.num,.string f.v] 67)).alloc (.cells #[.string n,.slice (some ⟨wr.heap.size,0,none⟩) 1 1] 65))):=aa HB1.out lJ
      have jA:Hid (((wr.alloc (.cells #[.int .i64 f.what,.int .i64 f.num,.string f.v] 67)).alloc (.cells #[.string n,.slice (some ⟨wr.heap.size,0,none⟩) 1 1] 65)).heap[wr.heap.size]?=some (.cells #[.int .i64 f.what,.int .i64 f.num,.string f.v] 67 (0,0))):=(Below.heap_alloc _ _ _ (by simp)).trans (am wr _)
      have he2:=am (wr.alloc (.cells #[.int .i64 f.what,.int .i64 f.num,.string f.v] 67)) (.cells #[.string n,.slice (some ⟨wr.heap.size,0,none⟩) 1 1] 65);rw [World.size_alloc] at he2;have HE2:=aq he2;have hwz:w.heap.size+2<wr.heap.size:=uW.out.size;clear nD lJ he2;go_wp2;clear q0 q1 q2 b0 b1 b2;generalize ((wr.alloc (.cells #[.int .i64 f.what,.int .i64 f.num,.string f.v] 67)).alloc (.cells #[.string n,.slice (some ⟨wr.heap.size,0,none⟩) 1 1] 65))=wq at *;refine wp_region_noPanic ?_;have Cf:wq.drew.heap[wr.heap.size+1]?=some (.cells #[.string n,.slice (some ⟨wr.heap.size,0,none⟩) 1 1] 65 (0,0)):=HE2.out
      refine bj (S:=fun w'=>w'.cell? ⟨w.heap.size,2,none⟩=some (.slice (some ⟨g,0,none⟩) l.length l.length)∧w'.cell? ⟨wr.heap.size+1,0,none⟩=some (.string n)∧w'.cell? ⟨wr.heap.size+1,1,none⟩=some (.slice (some ⟨wr.heap.size,0,none⟩) 1 1)) 15 (by kernel_rfl) ?_ (fun hHeld=>?_)
      ·exact ⟨zo.out.drew.fE 2,by simp [World.cell?,Cf],by simp [World.cell?,Cf]⟩
      clear Cf;have nM:Hid (P3 w wq.drew #[.slice xa ks.length xc,.slice ya ps.length yc,.slice (some ⟨g,0,none⟩) l.length l.length] f):=zo.out.drew;have kQ:Hid (Below w.heap.size w wq.drew):=HB2.out.drew;have MZ:Hid (wq.drew.heap[wr.heap.size+1]?=some (.cells #[.string n,.slice (some ⟨wr.heap.size,0,none⟩) 1 1] 65 (0,0))):=HE2.out;have HFD:Hid (wq.drew.heap[wr.heap.size]?=some (.cells #[.int .i64 f.what,.int .i64 f.num,.string f.v] 67 (0,0))):=jA.out;generalize wq.drew=W0 at *;clear zo HB2 HE2 jA;refine bG 1 ?_ rfl ?_ (bG 2 ?_ rfl ?_ (bG 3 ?_ rfl ?_ (bG 4 ?_ rfl ?_ (bG 6 ?_ rfl ?_ (bG 9 ?_ rfl ?_ (bG 10 ?_ rfl ?_ (bG 11 ?_ rfl ?_ (bG 12 ?_ rfl ?_ ?_))))))))
      iterate 9 (rotate_left;focus (intro w hSw;(try dsimp only at hSw);simp only [Act.put,aU];go_simp;try with_reducible rfl))
      simp only [Act.put,aU]
      clear hHeld;have hw0:wr.heap.size+1<W0.heap.size:=(Array.getElem?_eq_some_iff.1 MZ.out).1
      have hlo0:lo≤W0.heap.size:=by omega
      have bY:Hid (Below W0.heap.size W0 W0):=Below.refl _ _
      have dK:Hid (∀ wx:World,Below W0.heap.size W0 wx→wx.cell? ⟨w.heap.size,2,none⟩=some (.slice (some ⟨g,0,none⟩) l.length l.length)∧wx.cell? ⟨wr.heap.size+1,0,none⟩=some (.string n)∧wx.cell? ⟨wr.heap.size+1,1,none⟩=some (.slice (some ⟨wr.heap.size,0,none⟩) 1 1)):=fun wx hx=>by
       have h1:=(nM.out.call hx).fE 2;have h2:=(hx.block _ hw0).trans MZ.out
       exact ⟨h1,by simp [World.cell?,h2],by simp [World.cell?,h2]⟩
     rotate_left
     focus
      clear hj0 hjl;have nD:Below wr.heap.size wr (wr.alloc (.cells #[.int .i64 f.what,.int .i64 f.num,.string f.v] 67)):=(aM);have lJ:Below wr.heap.size wr ((wr.alloc (.cells #[.int .i64 f.what,.int .i64 f.num,.string f.v] 67)).alloc (.cells #[.string n,.slice (some ⟨wr.heap.size,0,none⟩) 1 1] 65)):=nD.alloc nD.size _;have zo:Hid (P3 w ((wr.alloc (.cells #[.int .i64 f.what,.int .i64 f.num,.string f.v] 67)).alloc (.cells #[.string n,.slice (some ⟨wr.heap.size,0,none⟩) 1 1] 65)) #[.slice xa ks.length xc,.slice ya ps.length yc,.slice (some ⟨g,0,none⟩) l.length zc] f):=uW.out.call lJ;have HB2:Hid (Below w.heap.size w ((wr.alloc (.cells #[.int .i64 f.what,.int .i64 f.num,.string f.v] 67)).alloc (.cells #[.string n,.slice (some ⟨wr.heap.size,0,none⟩) 1 1] 65))):=aa HB1.out lJ
      have jA:Hid (((wr.alloc (.cells #[.int .i64 f.what,.int .i64 f.num,.string f.v] 67)).alloc (.cells #[.string n,.slice (some ⟨wr.heap.size,0,none⟩) 1 1] 65)).heap[wr.heap.size]?=some (.cells #[.int .i64 f.what,.int .i64 f.num,.string f.v] 67 (0,0))):=(Below.heap_alloc _ _ _ (by simp)).trans (am wr _)
      have he2:=am (wr.alloc (.cells #[.int .i64 f.what,.int .i64 f.num,.string f.v] 67)) (.cells #[.string n,.slice (some ⟨wr.heap.size,0,none⟩) 1 1] 65);rw [World.size_alloc] at he2;have HE2:=aq he2;have hwz:w.heap.size+2<wr.heap.size:=uW.out.size;clear nD lJ he2;go_wp2;clear q0 q1 q2 b0 b1 b2;generalize ((wr.alloc (.cells #[.int .i64 f.what,.int .i64 f.num,.string f.v] 67)).alloc (.cells #[.string n,.slice (some ⟨wr.heap.size,0,none⟩) 1 1] 65))=wq at *;refine wp_region_noPanic ?_;have Cf:wq.drew.heap[wr.heap.size+1]?=some (.cells #[.string n,.slice (some ⟨wr.heap.size,0,none⟩) 1 1] 65 (0,0)):=HE2.out
      refine bj (S:=fun w'=>w'.cell? ⟨w.heap.size,2,none⟩=some (.slice (some ⟨g,0,none⟩) l.length zc)∧w'.cell? ⟨wr.heap.size+1,0,none⟩=some (.string n)∧w'.cell? ⟨wr.heap.size+1,1,none⟩=some (.slice (some ⟨wr.heap.size,0,none⟩) 1 1)) 15 (by kernel_rfl) ?_ (fun hHeld=>?_)
      ·exact ⟨zo.out.drew.fE 2,by simp [World.cell?,Cf],by simp [World.cell?,Cf]⟩
      clear Cf;have nM:Hid (P3 w wq.drew #[.slice xa ks.length xc,.slice ya ps.length yc,.slice (some ⟨g,0,none⟩) l.length zc] f):=zo.out.drew;have kQ:Hid (Below w.heap.size w wq.drew):=HB2.out.drew;have MZ:Hid (wq.drew.heap[wr.heap.size+1]?=some (.cells #[.string n,.slice (some ⟨wr.heap.size,0,none⟩) 1 1] 65 (0,0))):=HE2.out;have HFD:Hid (wq.drew.heap[wr.heap.size]?=some (.cells #[.int .i64 f.what,.int .i64 f.num,.string f.v] 67 (0,0))):=jA.out;generalize wq.drew=W0 at *;clear zo HB2 HE2 jA;refine bG 1 ?_ rfl ?_ (bG 2 ?_ rfl ?_ (bG 3 ?_ rfl ?_ (bG 4 ?_ rfl ?_ (bG 6 ?_ rfl ?_ (bG 9 ?_ rfl ?_ (bG 10 ?_ rfl ?_ (bG 11 ?_ rfl ?_ (bG 12 ?_ rfl ?_ ?_))))))))
      iterate 9 (rotate_left;focus (intro w hSw;(try dsimp only at hSw);simp only [Act.put,aU];go_simp;try with_reducible rfl))
      simp only [Act.put,aU]
      clear hHeld;have hw0:wr.heap.size+1<W0.heap.size:=(Array.getElem?_eq_some_iff.1 MZ.out).1
      have hlo0:lo≤W0.heap.size:=by omega
      have bY:Hid (Below W0.heap.size W0 W0):=Below.refl _ _
      have dK:Hid (∀ wx:World,Below W0.heap.size W0 wx→wx.cell? ⟨w.heap.size,2,none⟩=some (.slice (some ⟨g,0,none⟩) l.length zc)∧wx.cell? ⟨wr.heap.size+1,0,none⟩=some (.string n)∧wx.cell? ⟨wr.heap.size+1,1,none⟩=some (.slice (some ⟨wr.heap.size,0,none⟩) 1 1)):=fun wx hx=>by
       have h1:=(nM.out.call hx).fE 2;have h2:=(hx.block _ hw0).trans MZ.out
       exact ⟨h1,by simp [World.cell?,h2],by simp [World.cell?,h2]⟩
     rotate_left
     all_goals
      have zn:Hid (∀ wx:World,Below W0.heap.size W0 wx→∀ q u,(dw l)[q]?=some u→wx.cell? ⟨g,q,none⟩=some u):=fun wx hx=>rV ((HE.out.keep kQ.out).keep hx);have MP:Hid (∀ m:List eD,(∀ p∈m,p∈l)→∀ u∈dw m,u.oneCell'=true):=HE.out.one
      refine bn (rs:=[0,7]) (by kernel_rfl) (by simp) ?_
      refine dF.cons rfl (fun K hK=>?_) (dF.cons rfl (fun K hK=>?_) dF.nil)
      ·go_simp
       have HB2:Hid (Below W0.heap.size W0 (W0.alloc (.cells #[] 65))):=bY.out.alloc bY.out.size _;have RD:Hid ((W0.alloc (.cells #[] 65)).ownsRow W0.heap.size 65 2 (.slice (some ⟨W0.heap.size,0,none⟩) 0 0) 0 []):=be (am W0 _) bY.out.size 2;refine hK.out _ _ (.inr (dK.out _ HB2.out)) ?_;clear hK K bY;have bY:=HB2;clear HB2;generalize W0.alloc (.cells #[] 65)=W1 at *
       refine bn (rs:=[5,7]) (by kernel_rfl) (by simp) ?_
       refine dF.cons rfl (fun K hK=>?_) (dF.cons rfl (fun K hK=>?_) dF.nil)
       focus
        refine aj _ rfl _ _ 28 rfl W0.heap.size 65 i0 _ 2 40 Tryz.underlying28 hi hz0 hz1 hz2 rfl (by decide) _ 0 [] rfl RD.out _ l.length _ (dw l) rfl (.inr ⟨_,rfl,fun q u hu=>by rw [bm,Nat.zero_add];exact zn.out _ bY.out q u hu⟩) (aW _) (MP.out _ (fun p hp=>hp)) (by unfold maxLen;omega) (by omega) bY.out.size ?_
        intro va W2 hown hgrow hat
        simp only [Nat.zero_add,List.nil_append] at hown
        have HB2:Hid (Below W0.heap.size W0 W2):=bY.out.grown hgrow bY.out.size (fun q e=>aw RD.out q e);refine hK.out _ _ (.inr (dK.out _ HB2.out)) ?_;clear hat hgrow RD;clear hK K bY;have bY:=HB2;clear HB2;have RD:=aq hown;obtain ⟨pa,qa,rfl⟩:=cZ hown;clear hown;refine bL 7 rfl (fun K hK=>?_);go_simp;have HB2:Hid (Below W0.heap.size W0 (W2.alloc (.cells #[.string n,.slice (some ⟨wr.heap.size,0,none⟩) 1 1] 65))):=bY.out.alloc bY.out.size _;have BX:Hid ((W2.alloc (.cells #[.string n,.slice (some ⟨wr.heap.size,0,none⟩) 1 1] 65)).heap[W2.heap.size]?=some (.cells #[.string n,.slice (some ⟨wr.heap.size,0,none⟩) 1 1] 65 (0,0))):=am W2 _;have oZ:=aq (ah RD.out ((Below.refl _ W2).alloc aG (.cells #[.string n,.slice (some ⟨wr.heap.size,0,none⟩) 1 1] 65)))
        have iD:Hid (∀ q,Value.ownBlock _=some q→some (W2.heap.size)≠some q):=fun q hq e=>by have:=bD RD.out q hq;injection e with e;omega
        refine hK.out _ _ (.inr (dK.out _ HB2.out)) ?_;clear hK K bY;have bY:=HB2;clear HB2
        have iB:W2.heap.size<(W2.alloc (.cells #[.string n,.slice (some ⟨wr.heap.size,0,none⟩) 1 1] 65)).heap.size:=by rw [World.size_alloc];omega
        clear RD;have RD:=oZ;clear oZ;generalize W2.alloc (.cells #[.string n,.slice (some ⟨wr.heap.size,0,none⟩) 1 1] 65)=W3 at *
       rotate_left
       focus
        go_simp;have HB2:Hid (Below W0.heap.size W0 (W1.alloc (.cells #[.string n,.slice (some ⟨wr.heap.size,0,none⟩) 1 1] 65))):=bY.out.alloc bY.out.size _;have BX:Hid ((W1.alloc (.cells #[.string n,.slice (some ⟨wr.heap.size,0,none⟩) 1 1] 65)).heap[W1.heap.size]?=some (.cells #[.string n,.slice (some ⟨wr.heap.size,0,none⟩) 1 1] 65 (0,0))):=am W1 _;have oZ:=aq (ah RD.out ((Below.refl _ W1).alloc aG (.cells #[.string n,.slice (some ⟨wr.heap.size,0,none⟩) 1 1] 65)))
        have iD:Hid (∀ q,Value.ownBlock _=some q→some (W1.heap.size)≠some q):=fun q hq e=>by have:=bD RD.out q hq;injection e with e;omega
        refine hK.out _ _ (.inr (dK.out _ HB2.out)) ?_;clear hK K bY;have bY:=HB2;clear HB2
        have iB:W1.heap.size<(W1.alloc (.cells #[.string n,.slice (some ⟨wr.heap.size,0,none⟩) 1 1] 65)).heap.size:=by rw [World.size_alloc];omega
        clear RD;have RD:=oZ;clear oZ;generalize W1.alloc (.cells #[.string n,.slice (some ⟨wr.heap.size,0,none⟩) 1 1] 65)=W2 at *;refine bL 5 rfl (fun K hK=>?_)
        refine aj _ rfl _ _ 28 rfl W0.heap.size 65 i0 _ 2 40 Tryz.underlying28 hi hz0 hz1 hz2 rfl (by decide) _ 0 [] rfl RD.out _ l.length _ (dw l) rfl (.inr ⟨_,rfl,fun q u hu=>by rw [bm,Nat.zero_add];exact zn.out _ bY.out q u hu⟩) (aW _) (MP.out _ (fun p hp=>hp)) (by unfold maxLen;omega) (by omega) bY.out.size ?_
        intro va W3 hown hgrow hat
        simp only [Nat.zero_add,List.nil_append] at hown
        have HB2:Hid (Below W0.heap.size W0 W3):=bY.out.grown hgrow bY.out.size (fun q e=>aw RD.out q e);have ky:=aq ((hgrow.block _ iB (fun e=>iD.out _ e.symm rfl)).trans BX.out);have gH:=Nat.lt_of_lt_of_le iB hgrow.size;refine hK.out _ _ (.inr (dK.out _ HB2.out)) ?_;clear hat hgrow RD;clear BX iD iB;have BX:=ky;have iB:=gH;clear ky gH;clear hK K bY;have bY:=HB2;clear HB2;have RD:=aq hown;obtain ⟨pa,qa,rfl⟩:=cZ hown;clear hown
       rotate_left
       all_goals
        refine bL 8 rfl (fun K hK=>?_)
        refine aj _ rfl _ _ 28 rfl W0.heap.size 65 i0 _ 2 40 Tryz.underlying28 hi hz0 hz1 hz2 rfl (by decide) _ l.length (dw l) rfl RD.out _ 1 _ [.string n,.slice (some ⟨wr.heap.size,0,none⟩) 1 1] rfl (.inr ⟨_,rfl,World.news_of_block BX.out⟩) rfl (fun u hu=>by simp only [List.mem_cons,List.not_mem_nil,or_false] at hu;rcases hu with rfl | rfl <;> rfl) (by unfold maxLen;omega) (by omega) bY.out.size ?_
        intro vb W4 hown hgrow hat;have HB2:Hid (Below W0.heap.size W0 W4):=bY.out.grown hgrow bY.out.size (fun q e=>aw RD.out q e);refine hK.out _ _ (.inr (dK.out _ HB2.out)) ?_;clear hat hgrow RD;clear hK K bY;have bY:=HB2;clear HB2;have RD:=aq hown;obtain ⟨pb,qb,rfl⟩:=cZ hown;clear hown;refine bL 13 rfl (fun K hK=>?_)
        refine aj _ rfl _ _ 28 rfl W0.heap.size 65 i0 _ 2 40 Tryz.underlying28 hi hz0 hz1 hz2 rfl (by decide) _ (l.length+1) (dw l++[Value.string n,Value.slice (some ⟨wr.heap.size,0,none⟩) 1 1]) rfl RD.out _ 0 _ [] rfl (.inl rfl) rfl (fun u hu=>by cases hu) (by unfold maxLen;omega) (by omega) bY.out.size ?_
        intro vc W5 hown hgrow hat
        simp only [Nat.add_zero,List.append_nil] at hown
        have HB2:Hid (Below W0.heap.size W0 W5):=bY.out.grown hgrow bY.out.size (fun q e=>aw RD.out q e);refine hK.out _ _ (.inr (dK.out _ HB2.out)) ?_;clear hat hgrow RD;clear hK K bY;have bY:=HB2;clear HB2;have RD:=aq hown;obtain ⟨pc,qc,rfl⟩:=cZ hown;clear hown;have hHeld:=dK.out _ bY.out;refine bG 14 ?_ rfl ?_ ?_;rotate_left
        ·intro w hSw;(try dsimp only at hSw);go_simp;try with_reducible rfl
        simp only [Act.put,aU]
        clear hHeld;have lz:=(nM.out.call bY.out).fE 2;have Eh:=(nM.out.call bY.out).AB 2
        simp only [List.getElem?_toArray,List.getElem?_cons_succ,List.getElem?_cons_zero] at lz
        have yD:w.heap.size<W5.heap.size:=by have:=(nM.out.call bY.out).size;omega
        refine bL 15 rfl (fun K hK=>?_);go_simp;refine hK.out _ _ (.inl rfl) ?_;clear hK K
        refine aY (by kernel_rfl) ?_ _
        refine NoPanic.normal ?_;have tQ:=aq ((nM.out.call bY.out).set (.slice pc (l.length+1) qc));have ku:Hid (Below w.heap.size w W5):=aa kQ.out bY.out
        have iM:Hid (df lo (W5.setCell ⟨w.heap.size,2,none⟩ (.slice pc (l.length+1) qc)) (.slice xa ks.length xc) (.slice ya ps.length yc) (.slice pc (l.length+1) qc) ks ps (dS es n f)∧Below w.heap.size w (W5.setCell ⟨w.heap.size,2,none⟩ (.slice pc (l.length+1) qc))):=by
         have hins:dG W5 lo (.slice pc (l.length+1) qc) (l.take l.length++(⟨n,[f]⟩,.slice (some ⟨wr.heap.size,0,none⟩) 1 1)::l.drop l.length):=by
          refine HE.out.ins ku.out (mH ((bY.out.block _ (by omega)).trans HFD.out) (by omega)) (fun q hq=>by have hq2:wr.heap.size=q:=Option.some.inj hq;omega) ?_
          have h:=aJ RD.out hlo0;rw [List.take_length,List.drop_length,cw,List.length_append];exact h
         have hbn:df lo W5 (.slice xa ks.length xc) (.slice ya ps.length yc) (.slice pc (l.length+1) qc) ks ps (dS es n f):=by
          refine ⟨ah CQ.out.1 ku.out,ah CQ.out.2 ku.out,_,?_,hins⟩;rw [HP.out,List.take_length,List.drop_length,List.map_append,HL.out];rfl
         exact ⟨hbn.box (nM.out.call bY.out).a (aQ W5 w.heap.size 2 _),ku.out.setCell (p:=⟨w.heap.size,2,none⟩) aG _⟩
        generalize W5.setCell ⟨w.heap.size,2,none⟩ (.slice pc (l.length+1) qc)=W9 at *;clear lz Eh yD;obtain ⟨q0,q1,q2⟩:W9.cell? ⟨w.heap.size,0,none⟩=some (.slice xa ks.length xc)∧W9.cell? ⟨w.heap.size,1,none⟩=some (.slice ya ps.length yc)∧W9.cell? ⟨w.heap.size,2,none⟩=some (.slice pc (l.length+1) qc):=⟨tQ.out.fE 0,tQ.out.fE 1,tQ.out.fE 2⟩;have hrow:=tQ.out.c
        go_wp2_with (refine wpList_store_row rfl 30 _ _ rfl (w.heap.size+1+1) #[.slice xa ks.length xc,.slice ya ps.length yc,.slice pc (l.length+1) qc] rfl rfl 30 _ hrow (by kernel_rfl) rfl (by simp [Value.oneCell']) ?_)
        exact bodyPost_ret (v:=.agg #[.slice xa ks.length xc,.slice ya ps.length yc,.slice pc (l.length+1) qc]) (by simp [results,Tryz.results152,go_sem,cell_setRow_same _ _ _ _ _ _ _ hrow]) rfl ⟨_,rfl,iM.out.1.box hrow (aD W9 (w.heap.size+1+1) _),below_setRow (iM.out.2.mono hlo) (by omega) _,fun X D hX=>((below_setRow iM.out.2 (by omega) _).block X (Array.getElem?_eq_some_iff.1 hX).1).trans hX⟩
      ·go_simp
       have HB2:Hid (Below W0.heap.size W0 (W0.alloc (.cells #[.string n,.slice (some ⟨wr.heap.size,0,none⟩) 1 1] 65))):=bY.out.alloc bY.out.size _;have BX:Hid ((W0.alloc (.cells #[.string n,.slice (some ⟨wr.heap.size,0,none⟩) 1 1] 65)).heap[W0.heap.size]?=some (.cells #[.string n,.slice (some ⟨wr.heap.size,0,none⟩) 1 1] 65 (0,0))):=am W0 _;refine hK.out _ _ (.inr (dK.out _ HB2.out)) ?_;clear hK K bY;have bY:=HB2;clear HB2
       have iB:W0.heap.size<(W0.alloc (.cells #[.string n,.slice (some ⟨wr.heap.size,0,none⟩) 1 1] 65)).heap.size:=by rw [World.size_alloc];omega
       generalize W0.alloc (.cells #[.string n,.slice (some ⟨wr.heap.size,0,none⟩) 1 1] 65)=W1 at *;refine bL 0 rfl (fun K hK=>?_);go_simp;have HB2:Hid (Below W0.heap.size W0 (W1.alloc (.cells #[] 65))):=bY.out.alloc bY.out.size _;have RD:Hid ((W1.alloc (.cells #[] 65)).ownsRow W0.heap.size 65 2 (.slice (some ⟨W1.heap.size,0,none⟩) 0 0) 0 []):=be (am W1 _) bY.out.size 2
       have iD:Hid (∀ q,(Value.slice (some ⟨W1.heap.size,0,none⟩) 0 0).ownBlock=some q→some (W0.heap.size)≠some q):=fun q hq e=>by have hq2:W1.heap.size=q:=Option.some.inj hq;injection e with e;omega
       have ky:=aq ((Below.heap_alloc W1 (.cells #[] 65) _ iB).trans BX.out)
       have gH:W0.heap.size<(W1.alloc (.cells #[] 65)).heap.size:=by rw [World.size_alloc];omega
       refine hK.out _ _ (.inr (dK.out _ HB2.out)) ?_;clear hK K bY;have bY:=HB2;clear HB2;clear BX iB;have BX:=ky;have iB:=gH;clear ky gH;generalize W1.alloc (.cells #[] 65)=W2 at *;refine bL 5 rfl (fun K hK=>?_)
       refine aj _ rfl _ _ 28 rfl W0.heap.size 65 i0 _ 2 40 Tryz.underlying28 hi hz0 hz1 hz2 rfl (by decide) _ 0 [] rfl RD.out _ l.length _ (dw l) rfl (.inr ⟨_,rfl,fun q u hu=>by rw [bm,Nat.zero_add];exact zn.out _ bY.out q u hu⟩) (aW _) (MP.out _ (fun p hp=>hp)) (by unfold maxLen;omega) (by omega) bY.out.size ?_
       intro va W3 hown hgrow hat
       simp only [Nat.zero_add,List.nil_append] at hown
       have HB2:Hid (Below W0.heap.size W0 W3):=bY.out.grown hgrow bY.out.size (fun q e=>aw RD.out q e);have ky:=aq ((hgrow.block _ iB (fun e=>iD.out _ e.symm rfl)).trans BX.out);have gH:=Nat.lt_of_lt_of_le iB hgrow.size;refine hK.out _ _ (.inr (dK.out _ HB2.out)) ?_;clear hat hgrow RD;clear BX iD iB;have BX:=ky;have iB:=gH;clear ky gH;clear hK K bY;have bY:=HB2;clear HB2;have RD:=aq hown;obtain ⟨pa,qa,rfl⟩:=cZ hown;clear hown;refine bL 8 rfl (fun K hK=>?_)
       refine aj _ rfl _ _ 28 rfl W0.heap.size 65 i0 _ 2 40 Tryz.underlying28 hi hz0 hz1 hz2 rfl (by decide) _ l.length (dw l) rfl RD.out _ 1 _ [.string n,.slice (some ⟨wr.heap.size,0,none⟩) 1 1] rfl (.inr ⟨_,rfl,World.news_of_block BX.out⟩) rfl (fun u hu=>by simp only [List.mem_cons,List.not_mem_nil,or_false] at hu;rcases hu with rfl | rfl <;> rfl) (by unfold maxLen;omega) (by omega) bY.out.size ?_
       intro vb W4 hown hgrow hat;have HB2:Hid (Below W0.heap.size W0 W4):=bY.out.grown hgrow bY.out.size (fun q e=>aw RD.out q e);refine hK.out _ _ (.inr (dK.out _ HB2.out)) ?_;clear hat hgrow RD;clear hK K bY;have bY:=HB2;clear HB2;have RD:=aq hown;obtain ⟨pb,qb,rfl⟩:=cZ hown;clear hown;refine bL 13 rfl (fun K hK=>?_)
       refine aj _ rfl _ _ 28 rfl W0.heap.size 65 i0 _ 2 40 Tryz.underlying28 hi hz0 hz1 hz2 rfl (by decide) _ (l.length+1) (dw l++[Value.string n,Value.slice (some ⟨wr.heap.size,0,none⟩) 1 1]) rfl RD.out _ 0 _ [] rfl (.inl rfl) rfl (fun u hu=>by cases hu) (by unfold maxLen;omega) (by omega) bY.out.size ?_
       intro vc W5 hown hgrow hat
       simp only [Nat.add_zero,List.append_nil] at hown
       have HB2:Hid (Below W0.heap.size W0 W5):=bY.out.grown hgrow bY.out.size (fun q e=>aw RD.out q e);refine hK.out _ _ (.inr (dK.out _ HB2.out)) ?_;clear hat hgrow RD;clear hK K bY;have bY:=HB2;clear HB2;have RD:=aq hown;obtain ⟨pc,qc,rfl⟩:=cZ hown;clear hown;have hHeld:=dK.out _ bY.out;refine bG 14 ?_ rfl ?_ ?_;rotate_left
       ·intro w hSw;(try dsimp only at hSw);go_simp;try with_reducible rfl
       simp only [Act.put,aU]
       clear hHeld;have lz:=(nM.out.call bY.out).fE 2;have Eh:=(nM.out.call bY.out).AB 2
       simp only [List.getElem?_toArray,List.getElem?_cons_succ,List.getElem?_cons_zero] at lz
       have yD:w.heap.size<W5.heap.size:=by have:=(nM.out.call bY.out).size;omega
       refine bL 15 rfl (fun K hK=>?_);go_simp;refine hK.out _ _ (.inl rfl) ?_;clear hK K
       refine aY (by kernel_rfl) ?_ _
       refine NoPanic.normal ?_;have tQ:=aq ((nM.out.call bY.out).set (.slice pc (l.length+1) qc));have ku:Hid (Below w.heap.size w W5):=aa kQ.out bY.out
       have iM:Hid (df lo (W5.setCell ⟨w.heap.size,2,none⟩ (.slice pc (l.length+1) qc)) (.slice xa ks.length xc) (.slice ya ps.length yc) (.slice pc (l.length+1) qc) ks ps (dS es n f)∧Below w.heap.size w (W5.setCell ⟨w.heap.size,2,none⟩ (.slice pc (l.length+1) qc))):=by
        have hins:dG W5 lo (.slice pc (l.length+1) qc) (l.take l.length++(⟨n,[f]⟩,.slice (some ⟨wr.heap.size,0,none⟩) 1 1)::l.drop l.length):=by
         refine HE.out.ins ku.out (mH ((bY.out.block _ (by omega)).trans HFD.out) (by omega)) (fun q hq=>by have hq2:wr.heap.size=q:=Option.some.inj hq;omega) ?_
         have h:=aJ RD.out hlo0;rw [List.take_length,List.drop_length,cw,List.length_append];exact h
        have hbn:df lo W5 (.slice xa ks.length xc) (.slice ya ps.length yc) (.slice pc (l.length+1) qc) ks ps (dS es n f):=by
         refine ⟨ah CQ.out.1 ku.out,ah CQ.out.2 ku.out,_,?_,hins⟩;rw [HP.out,List.take_length,List.drop_length,List.map_append,HL.out];rfl
        exact ⟨hbn.box (nM.out.call bY.out).a (aQ W5 w.heap.size 2 _),ku.out.setCell (p:=⟨w.heap.size,2,none⟩) aG _⟩
       generalize W5.setCell ⟨w.heap.size,2,none⟩ (.slice pc (l.length+1) qc)=W9 at *;clear lz Eh yD;obtain ⟨q0,q1,q2⟩:W9.cell? ⟨w.heap.size,0,none⟩=some (.slice xa ks.length xc)∧W9.cell? ⟨w.heap.size,1,none⟩=some (.slice ya ps.length yc)∧W9.cell? ⟨w.heap.size,2,none⟩=some (.slice pc (l.length+1) qc):=⟨tQ.out.fE 0,tQ.out.fE 1,tQ.out.fE 2⟩;have hrow:=tQ.out.c
       go_wp2_with (refine wpList_store_row rfl 30 _ _ rfl (w.heap.size+1+1) #[.slice xa ks.length xc,.slice ya ps.length yc,.slice pc (l.length+1) qc] rfl rfl 30 _ hrow (by kernel_rfl) rfl (by simp [Value.oneCell']) ?_)
       exact bodyPost_ret (v:=.agg #[.slice xa ks.length xc,.slice ya ps.length yc,.slice pc (l.length+1) qc]) (by simp [results,Tryz.results152,go_sem,cell_setRow_same _ _ _ _ _ _ _ hrow]) rfl ⟨_,rfl,iM.out.1.box hrow (aD W9 (w.heap.size+1+1) _),below_setRow (iM.out.2.mono hlo) (by omega) _,fun X D hX=>((below_setRow iM.out.2 (by omega) _).block X (Array.getElem?_eq_some_iff.1 hX).1).trans hX⟩
 ·have MS:Hid ((eZ es k).name=n):=by have:=List.find?_some hfd;show _=_;simpa using this
  have HP:Hid (dS es n f=es.set k ⟨(eZ es k).name,gP (eZ es k).fs f⟩):=DD es n f k HS.out hk MS.out
  have hkl:k<l.length:=by omega
  clear hfd;obtain ⟨fv,hfv⟩:=IM hkl;rw [HL.out] at hfv;have HFV:Hid (l[k]?=some (eZ es k,fv)):=hfv;have Hq:Hid (w.ownsRow lo 67 3 fv (eZ es k).fs.length (di (eZ es k).fs)):=HE.out.iL _ (List.mem_of_getElem? hfv);obtain ⟨fa,fc,rfl⟩:=cZ Hq.out;have hfn:=HLF.out _ (List.mem_of_getElem? (bp hk))
  obtain ⟨g,cap,hv,hgl,hgz⟩:=HE.out.row.form (by omega)
  cases hv
  obtain ⟨hcap1,hcap2⟩:=Ik HE.out.row;unfold maxLen at hcap2
  have HD:Hid (w.cell? ⟨g,k*2+1,none⟩=some (.slice fa (eZ es k).fs.length fc)):=by
   exact (pair_cells HE.out hfv).2
  have HDF:Hid (∀ q,w.frozen? ⟨g,q,none⟩=false):=DV HE.out.row
  have hk0:(0:Int)≤(k:Int):=by omega
  have hk1:(k:Int)<(l.length:Int):=by omega
  have hkb:decide ((k:Int)<0)=false:=by simp
  clear hfv;generalize eZ es k=t at *;go_wp2;refine wp_region_noPanic ?_;have dK:Hid (∀ wx:World,P3 w wx #[.slice xa ks.length xc,.slice ya ps.length yc,.slice (some ⟨g,0,none⟩) l.length zc] f→wx.heap[g]?=w.heap[g]?→(wx.cell? ⟨w.heap.size,2,none⟩=some (.slice (some ⟨g,0,none⟩) l.length zc)∧wx.cell? ⟨w.heap.size+1,0,none⟩=some (.int .i64 f.what)∧wx.cell? ⟨w.heap.size+1,1,none⟩=some (.int .i64 f.num)∧wx.cell? ⟨w.heap.size+1,2,none⟩=some (.string f.v)∧wx.cell? ⟨g,k*2+1,none⟩=some (.slice fa t.fs.length fc))):=fun wx hx hg=>⟨hx.fE 2,hx.IP.1,hx.IP.2.1,hx.IP.2.2,(World.cell?_of_block (w:=w) hg).trans HD.out⟩
  refine bj (S:=fun w'=>w'.cell? ⟨w.heap.size,2,none⟩=some (.slice (some ⟨g,0,none⟩) l.length zc)∧w'.cell? ⟨w.heap.size+1,0,none⟩=some (.int .i64 f.what)∧w'.cell? ⟨w.heap.size+1,1,none⟩=some (.int .i64 f.num)∧w'.cell? ⟨w.heap.size+1,2,none⟩=some (.string f.v)∧w'.cell? ⟨g,k*2+1,none⟩=some (.slice fa t.fs.length fc)) 13 (by kernel_rfl) ?_ (fun hHeld=>?_)
  ·exact dK.out _ uW.out.drew (HB1.out.block g hgz)
  have nM:Hid (P3 w w1.drew #[.slice xa ks.length xc,.slice ya ps.length yc,.slice (some ⟨g,0,none⟩) l.length zc] f):=uW.out.drew;have kQ:Hid (Below w.heap.size w w1.drew):=HB1.out.drew;generalize w1.drew=W0 at *;clear uW HB1;refine bG 0 ?_ rfl ?_ (bG 1 ?_ rfl ?_ (bG 2 ?_ rfl ?_ (bG 3 ?_ rfl ?_ (bG 4 ?_ rfl ?_ (bG 5 ?_ rfl ?_ (bG 6 ?_ rfl ?_ (bG 7 ?_ rfl ?_ (bG 8 ?_ rfl ?_ (bG 9 ?_ rfl ?_ ?_)))))))))
  iterate 10 (rotate_left;focus (intro w hSw;(try dsimp only at hSw);simp only [Act.put,aU];go_simp;try with_reducible rfl))
  simp only [Act.put,aU]
  clear hHeld;refine bL 10 rfl (fun K hK=>?_);go_simp;have hw0:=kQ.out.size
  refine (Ex _ t.fs f lo _ (ah Hq.out kQ.out) (by omega) hfn).mono ?_
  rintro e W1 ⟨v',rfl,hown,hgrow,hat⟩;have hfb:∀ q,(Value.slice fa t.fs.length fc).ownBlock=some q→q<w.heap.size:=bD Hq.out
  have hgf:some g≠(Value.slice fa t.fs.length fc).ownBlock:=fun e=>aN Hq.out HE.out.row (by decide) g rfl e
  have hgb:W1.heap[g]?=w.heap[g]?:=(hgrow.block g (by omega) hgf).trans (kQ.out.block g hgz)
  have zo:Hid (P3 w W1 #[.slice xa ks.length xc,.slice ya ps.length yc,.slice (some ⟨g,0,none⟩) l.length zc] f):=nM.out.grown hgrow (fun q e=>.inl (hfb q e));obtain ⟨va,vc,rfl⟩:=cZ hown;refine hK.out _ _ (.inr (dK.out _ zo.out hgb)) ?_
  have HBL:Hid (Below lo w W1):=(kQ.out.mono hlo).trans ⟨hgrow.os,hgrow.tape,hgrow.output,hgrow.size,fun q hq=>hgrow.block q (by omega) (fun e=>by have:=aw Hq.out q e.symm;omega)⟩
  have HTU:Hid (dG (W1.setCell ⟨g,k*2+1,none⟩ (.slice va (gP t.fs f).length vc)) lo (.slice (some ⟨g,0,none⟩) l.length zc) (l.set k (⟨t.name,gP t.fs f⟩,.slice va (gP t.fs f).length vc))):=(HE.out.keep kQ.out).turn HFV.out hown hgrow hat
  have HK2:Hid (W1.ownsRow lo 69 3 (.slice xa ks.length xc) ks.length (aS ks)∧W1.ownsRow lo 72 3 (.slice ya ps.length yc) ps.length (aS ps)):=⟨ar (ah CQ.out.1 kQ.out) hgrow (aN Hq.out CQ.out.1 (by decide)),ar (ah CQ.out.2 kQ.out) hgrow (aN Hq.out CQ.out.2 (by decide))⟩
  have hgd:W1.cell? ⟨g,k*2+1,none⟩=some (.slice fa t.fs.length fc):=(World.cell?_of_block (w:=w) hgb).trans HD.out;have hgx:W1.frozen? ⟨g,k*2+1,none⟩=false:=(World.frozen?_of_block (w:=w) hgb).trans (HDF.out _);have hz1:=zo.out.size
  have HX1B:Hid (∀ (X:Nat) (D:Array Value),w.heap[X]?=some (.cells D 30 (0,0))→W1.heap[X]?=some (.cells D 30 (0,0))):=fun X D hX=>by
   have hlt:=(Array.getElem?_eq_some_iff.1 hX).1
   exact (hgrow.block X (by omega) (bd Hq.out hX (by decide))).trans ((kQ.out.block X hlt).trans hX)
  clear hK K hgrow hat hown hfb hgf;have hHeld:=dK.out _ zo.out hgb;refine bL 11 rfl (fun K hK=>?_);go_simp;refine hK.out _ _ (.inr (dK.out _ zo.out hgb)) ?_;clear hK K;refine bG 12 ?_ rfl ?_ ?_;rotate_left
  ·intro w hSw;(try dsimp only at hSw);go_simp;try with_reducible rfl
  simp only [Act.put,aU]
  clear hHeld hgb;refine bL 13 rfl (fun K hK=>?_);go_simp;refine hK.out _ _ (.inl rfl) ?_;clear hK K
  refine aY (by kernel_rfl) ?_ _
  refine NoPanic.normal ?_;have gs:=aQ W1 g (k*2+1) (.slice va (gP t.fs f).length vc)
  have HP3:Hid (P3 w (W1.setCell ⟨g,k*2+1,none⟩ (.slice va (gP t.fs f).length vc)) #[.slice xa ks.length xc,.slice ya ps.length yc,.slice (some ⟨g,0,none⟩) l.length zc] f):=zo.out.grown gs (fun q e=>by cases e;exact .inl hgz)
  have iM:Hid (df lo (W1.setCell ⟨g,k*2+1,none⟩ (.slice va (gP t.fs f).length vc)) (.slice xa ks.length xc) (.slice ya ps.length yc) (.slice (some ⟨g,0,none⟩) l.length zc) ks ps (dS es n f)∧Below lo w (W1.setCell ⟨g,k*2+1,none⟩ (.slice va (gP t.fs f).length vc))):=by
   have hxg:∀ q,(Value.slice xa ks.length xc).ownBlock=some q→some q≠some g:=aN HE.out.row CQ.out.1 (by decide)
   have hyg:∀ q,(Value.slice ya ps.length yc).ownBlock=some q→some q≠some g:=aN HE.out.row CQ.out.2 (by decide)
   refine ⟨⟨ar HK2.out.1 gs hxg,ar HK2.out.2 gs hyg,_,?_,HTU.out⟩,HBL.out.setCell (p:=⟨g,k*2+1,none⟩) hgl _⟩;rw [HP.out,List.map_set,HL.out]
  have HXB0:∀ (X:Nat) (D:Array Value),w.heap[X]?=some (.cells D 30 (0,0))→(W1.setCell ⟨g,k*2+1,none⟩ (.slice va (gP t.fs f).length vc)).heap[X]?=some (.cells D 30 (0,0)):=fun X D hX=>by
   have h1:=HX1B.out X D hX
   have hne:X≠g:=fun e=>bd HE.out.row hX (by decide) (by rw [e];rfl)
   exact (Below.heap_setCell W1 ⟨g,k*2+1,none⟩ _ X hne).trans h1
  generalize W1.setCell ⟨g,k*2+1,none⟩ (.slice va (gP t.fs f).length vc)=W2 at *;have HXB:Hid (∀ (X:Nat) (D:Array Value),w.heap[X]?=some (.cells D 30 (0,0))→W2.heap[X]?=some (.cells D 30 (0,0))):=HXB0;clear gs zo HTU HK2 hgd hgx hz1 HBL HXB0;obtain ⟨q0,q1,q2⟩:W2.cell? ⟨w.heap.size,0,none⟩=some (.slice xa ks.length xc)∧W2.cell? ⟨w.heap.size,1,none⟩=some (.slice ya ps.length yc)∧W2.cell? ⟨w.heap.size,2,none⟩=some (.slice (some ⟨g,0,none⟩) l.length zc):=⟨HP3.out.fE 0,HP3.out.fE 1,HP3.out.fE 2⟩;have hrow:=HP3.out.c
  go_wp2_with (refine wpList_store_row rfl 30 _ _ rfl (w.heap.size+1+1) #[.slice xa ks.length xc,.slice ya ps.length yc,.slice (some ⟨g,0,none⟩) l.length zc] rfl rfl 30 _ hrow (by kernel_rfl) rfl (by simp [Value.oneCell']) ?_)
  exact bodyPost_ret (v:=.agg #[.slice xa ks.length xc,.slice ya ps.length yc,.slice (some ⟨g,0,none⟩) l.length zc]) (by simp [results,Tryz.results152,go_sem,cell_setRow_same _ _ _ _ _ _ _ hrow]) rfl ⟨_,rfl,iM.out.1.box hrow (aD W2 (w.heap.size+1+1) _),below_setRow iM.out.2 (by omega) _,fun X D hX=>by
   have hlt:=(Array.getElem?_eq_some_iff.1 hX).1
   exact (setRow_other _ _ _ _ (by omega)).trans (HXB.out X D hX)⟩
end Go.Proofs.YtcmgddnckohdaaaGreatDoor
