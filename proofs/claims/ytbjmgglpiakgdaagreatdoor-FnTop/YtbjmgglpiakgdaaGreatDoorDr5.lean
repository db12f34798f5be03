import Derived.Test.YtbjmgglpiakgdaaGreatDoorDr7
set_option maxRecDepth 100000
set_option maxHeartbeats 6400000
set_option linter.unusedSimpArgs false
set_option linter.unusedVariables false
namespace Go.Proofs.YtbjmgglpiakgdaaGreatDoor.Dr
open Go.RowKit
def flL:List ByteArray:=[⟨#[107,108,49]⟩,⟨#[107,108,49]⟩,⟨#[107,108,49]⟩,⟨#[98,97,45,50]⟩,⟨#[98,97,45,50]⟩,⟨#[108,104,51]⟩,⟨#[120]⟩]
theorem fl_size:∀ s∈flL,s.size≤100:=by decide
theorem row_setD {w:World} {b o:Nat} {cs:Array Value} {x:Value} {t:TypeId} (h:w.heap[b]?=some (.cells cs t (0,0))):(w.setCell ⟨b,o,none⟩ x).heap[b]?=some (.cells (cs.setIfInBounds o x) t (0,0)):=by
 have hlt:=lt_blk h
 have h':w.heap[b]=.cells cs t (0,0):=by simpa [Array.getElem?_eq_getElem hlt] using h
 show (w.heap.modify b _)[b]?=_
 rw [Array.getElem?_eq_getElem (by simpa using hlt),Array.getElem_modify_self,h']
 rfl
theorem l2Change_any (R p:Nat) (vk vp:Value) (ps:List Tri) (w:World) (h:Rd w R p) (hp:p≤800000) (hv:TrisAt w vp ps) (hps:1≤ps.length∧ps.length≤1000) (hn:∀ t∈ps,t.s.size≤100) :
  Calls Tryz.prog 75 #[.pointer (some ⟨R,0,none⟩),.agg #[vk,vp]] w fun e w'=>∃ (f:ByteArray) (wh num:Int) (s:ByteArray),e=.returned (.agg #[.string f,.int .i64 wh,.int .i64 num,.string s])∧f.size≤100∧s.size≤2000∧(1≤wh∧wh≤5)∧(1≤num∧num≤12)∧Out w R p 40 w':=by
 have hRlt:=h.lt;have HNN:Hid (∀ t∈ps,t.s.size≤100):=hn;have HV0:Hid (TrisAt w vp ps):=hv;obtain ⟨va,vc,rfl,hvl,hvm,-⟩:=hv;unfold maxLen at hvm;obtain ⟨hps1,hps2⟩:=hps
 have HB:Hid (Below w.heap.size w ((w.alloc (.cells #[vk,.slice va ps.length vc] 26)).alloc (.cells #[.string ⟨#[]⟩,.int .i64 0,.int .i64 0,.string ⟨#[]⟩] 40))):=(bal).alloc (by simp) _
 have HR1:Hid (Rd ((w.alloc (.cells #[vk,.slice va ps.length vc] 26)).alloc (.cells #[.string ⟨#[]⟩,.int .i64 0,.int .i64 0,.string ⟨#[]⟩] 40)) R p):=h.far HB.out
 have HX1:Hid (((w.alloc (.cells #[vk,.slice va ps.length vc] 26)).alloc (.cells #[.string ⟨#[]⟩,.int .i64 0,.int .i64 0,.string ⟨#[]⟩] 40)).heap[w.heap.size]?=some (.cells #[vk,.slice va ps.length vc] 26 (0,0))):=by
  show _=_
  rw [(((bal):Below (w.alloc (.cells #[vk,.slice va ps.length vc] 26)).heap.size (w.alloc (.cells #[vk,.slice va ps.length vc] 26)) ((w.alloc (.cells #[vk,.slice va ps.length vc] 26)).alloc (.cells #[.string ⟨#[]⟩,.int .i64 0,.int .i64 0,.string ⟨#[]⟩] 40)))).block _ (by simp)]
  exact heap_newD w _
 have HX2:Hid (((w.alloc (.cells #[vk,.slice va ps.length vc] 26)).alloc (.cells #[.string ⟨#[]⟩,.int .i64 0,.int .i64 0,.string ⟨#[]⟩] 40)).heap[w.heap.size+1]?=some (.cells #[.string ⟨#[]⟩,.int .i64 0,.int .i64 0,.string ⟨#[]⟩] 40 (0,0))):=by
  have h:=heap_newD (w.alloc (.cells #[vk,.slice va ps.length vc] 26)) (.cells #[.string ⟨#[]⟩,.int .i64 0,.int .i64 0,.string ⟨#[]⟩] 40)
  rw [show (w.alloc (.cells #[vk,.slice va ps.length vc] 26)).heap.size=w.heap.size+1 by simp] at h
  exact h
 have HZ1:Hid (((w.alloc (.cells #[vk,.slice va ps.length vc] 26)).alloc (.cells #[.string ⟨#[]⟩,.int .i64 0,.int .i64 0,.string ⟨#[]⟩] 40)).heap.size=w.heap.size+2):=by show _=_;simp
 have HV1:Hid (TrisAt ((w.alloc (.cells #[vk,.slice va ps.length vc] 26)).alloc (.cells #[.string ⟨#[]⟩,.int .i64 0,.int .i64 0,.string ⟨#[]⟩] 40)) (.slice va ps.length vc) ps):=HV0.out.keep HB.out;clear h hn
 go_enter Tryz.func75,Tryz.ntmps75
 go_wp2_with fail;generalize ((w.alloc (.cells #[vk,.slice va ps.length vc] 26)).alloc (.cells #[.string ⟨#[]⟩,.int .i64 0,.int .i64 0,.string ⟨#[]⟩] 40))=w1 at *
 have HBX:Hid (∀ wx:World,w1.grownBy wx (some R)→wx.cell? ⟨w.heap.size,0,none⟩=some vk∧wx.cell? ⟨w.heap.size,1,none⟩=some (.slice va ps.length vc)):=fun wx hg=>⟨cell_blkD (box_keep hg (by omega) HX1.out) rfl,cell_blkD (box_keep hg (by omega) HX1.out) rfl⟩
 have HRX:Hid (∀ wx:World,w1.grownBy wx (some R)→wx.heap[w.heap.size+1]?=some (.cells #[.string ⟨#[]⟩,.int .i64 0,.int .i64 0,.string ⟨#[]⟩] 40 (0,0))):=fun wx hg=>box_keep hg (by omega) HX2.out
 have HVX:Hid (∀ wx:World,w1.grownBy wx (some R)→TrisAt wx (.slice va ps.length vc) ps):=fun wx hg=>TrisAt_box HV1.out HR1.out hg
 have HZX:Hid (∀ wx:World,w1.grownBy wx (some R)→w.heap.size+2≤wx.heap.size):=fun wx hg=>by have:=hg.size;have:=HZ1.out;omega
 refine (pick_any R p 5 _ HR1.out (by omega) (by omega)).mono ?_
 rintro e w2 ⟨x,rfl,hx0,hx1,-,hr2,hg2⟩
 have hx1:=hx1 (by omega)
 have R2:Hid (Rd w2 R (p+1)∧w1.grownBy w2 (some R)):=⟨hr2,hg2⟩;clear hr2 hg2
 by_cases h5:x=4
 ·subst h5
  go_wp2_with fail
  refine (pick_any R (p+1) 2 _ R2.out.1 (by omega) (by omega)).mono ?_
  rintro e w3 ⟨y,rfl,hy0,hy1,-,hr3,hg3⟩;have R3:Hid (Rd w3 R (p+1+1)∧w1.grownBy w3 (some R)):=⟨hr3,grown_on R2.out.2 hg3⟩;clear hr3 hg3 R2 hy1
  by_cases hy:y=0
  ·have hyb:(y==0)=true:=by simp [hy]
   clear hy;have HK:Hid (Below w3.heap.size w3 (w3.alloc (.cells #[.string ⟨#[107,108,49]⟩,.string ⟨#[107,108,49]⟩,.string ⟨#[107,108,49]⟩,.string ⟨#[98,97,45,50]⟩,.string ⟨#[98,97,45,50]⟩,.string ⟨#[108,104,51]⟩,.string ⟨#[120]⟩] 9))):=(bal)
   have HS:Hid (StrsAt (w3.alloc (.cells #[.string ⟨#[107,108,49]⟩,.string ⟨#[107,108,49]⟩,.string ⟨#[107,108,49]⟩,.string ⟨#[98,97,45,50]⟩,.string ⟨#[98,97,45,50]⟩,.string ⟨#[108,104,51]⟩,.string ⟨#[120]⟩] 9)) (.slice (some ⟨w3.heap.size,0,none⟩) 7 7) flL):=strs_of flL (heap_newD w3 _) rfl (by decide)
   have HO:=toHid (of_any R (p+1+1) _ flL _ (R3.out.1.far HK.out) (by omega) HS.out (by decide))
   go_wp2_with fail;refine HO.out.mono ?_;rintro e w4 ⟨f,rfl,hf,hr4,hg4⟩;have hfs:=fl_size f hf;have R4:Hid (Rd w4 R ((p+1+1)+1)∧w1.grownBy w4 (some R)):=⟨hr4,grown_on R3.out.2 (grown_on (grown_of HK.out _) hg4)⟩;clear hf hr4 hg4 HO HS HK R3;go_wp2_with fail
   refine (pick_any R ((p+1+1)+1) 12 _ R4.out.1 (by omega) (by omega)).mono ?_
   rintro e w5 ⟨z,rfl,hz0,hz1,-,hr5,hg5⟩
   have hz1:=hz1 (by omega)
   have R5:Hid (Rd w5 R ((p+1+1)+1+1)∧w1.grownBy w5 (some R)):=⟨hr5,grown_on R4.out.2 hg5⟩;clear hr5 hg5 R4;have B6:Hid (Below w5.heap.size w5 (w5.alloc (.cells #[.string f,.int .i64 4,.int .i64 (1+z),.string ⟨#[]⟩] 40))):=(bal);have X6:Hid ((w5.alloc (.cells #[.string f,.int .i64 4,.int .i64 (1+z),.string ⟨#[]⟩] 40)).heap[w5.heap.size]?=some (.cells #[.string f,.int .i64 4,.int .i64 (1+z),.string ⟨#[]⟩] 40 (0,0))):=heap_newD w5 _;have R6:Hid (Rd (w5.alloc (.cells #[.string f,.int .i64 4,.int .i64 (1+z),.string ⟨#[]⟩] 40)) R ((p+1+1)+1+1)∧w1.grownBy (w5.alloc (.cells #[.string f,.int .i64 4,.int .i64 (1+z),.string ⟨#[]⟩] 40)) (some R)):=⟨R5.out.1.far B6.out,grown_on R5.out.2 (grown_of B6.out _)⟩;have hRw5:=R5.out.1.lt;have HZ5:=toHid (HZX.out _ R5.out.2);have b0:=(HBX.out _ R6.out.2).1;have b1:=(HBX.out _ R6.out.2).2;have b0':=(HBX.out _ R5.out.2).1;have b1':=(HBX.out _ R5.out.2).2;have zb:=lt_of_cell b0';go_wp2_with fail;generalize (w5.alloc (.cells #[.string f,.int .i64 4,.int .i64 (1+z),.string ⟨#[]⟩] 40))=w6 at *;clear b0 b1 b0' b1' R5
   refine (l2Value_any R ((p+1+1)+1+1) vk _ ps 4 _ R6.out.1 (by omega) (HVX.out _ R6.out.2) ⟨hps1,hps2⟩ HNN.out).mono ?_
   rintro e w7 ⟨s,rfl,hs,p7,hp71,hp72,hr7,hg7⟩
   have X7:Hid (w7.heap[w5.heap.size]?=some (.cells #[.string f,.int .i64 4,.int .i64 (1+z),.string ⟨#[]⟩] 40 (0,0))):=box_keep hg7 (by omega) X6.out
   have R7:Hid (Rd w7 R p7∧w1.grownBy w7 (some R)):=⟨hr7,grown_on R6.out.2 hg7⟩;clear hr7 hg7 R6 X6;have hx7:=X7.out;have lz:=cell_blkD hx7 (i:=3) rfl
   have lfz:w7.frozen? ⟨w5.heap.size,3,none⟩=false:=by simp [World.frozen?,hx7]
   have X8:Hid ((w7.setCell ⟨w5.heap.size,3,none⟩ (.string s)).heap[w5.heap.size]?=some (.cells #[.string f,.int .i64 4,.int .i64 (1+z),.string s] 40 (0,0))):=row_setD hx7;have HO8:Hid (∀ b,b≠w5.heap.size→(w7.setCell ⟨w5.heap.size,3,none⟩ (.string s)).heap[b]?=w7.heap[b]?):=fun b hb=>Below.heap_setCell w7 ⟨w5.heap.size,3,none⟩ (.string s) b hb
   have HZ8:Hid (w7.heap.size≤(w7.setCell ⟨w5.heap.size,3,none⟩ (.string s)).heap.size):=by show _≤_;simp
   have G8:Hid (w7.grownBy (w7.setCell ⟨w5.heap.size,3,none⟩ (.string s)) (some w5.heap.size)):=grown_box w7 _ 3 _;clear hx7 X7;have hx8:=X8.out;have e0:=cell_blkD hx8 (i:=0) rfl;have e1:=cell_blkD hx8 (i:=1) rfl;have e2:=cell_blkD hx8 (i:=2) rfl;have e3:=cell_blkD hx8 (i:=3) rfl;clear hx8;have hw15:=HZ5.out
   have hR8:(w7.setCell ⟨w5.heap.size,3,none⟩ (.string s)).heap[w.heap.size+1]?=some (.cells #[.string ⟨#[]⟩,.int .i64 0,.int .i64 0,.string ⟨#[]⟩] 40 (0,0)):=(HO8.out _ (by omega)).trans (HRX.out _ R7.out.2)
   have HFI:Hid (Out w R p 40 ((w7.setCell ⟨w5.heap.size,3,none⟩ (.string s)).setRow (w.heap.size+1) #[.string f,.int .i64 4,.int .i64 (1+z),.string s])):=by
    refine ⟨p7,by omega,by omega,(R7.out.1.late (fun j hj=>HO8.out j (by omega))).late (fun j hj=>setRow_other _ _ _ _ (by omega)),grown_row (grown_cell (grown_on (grown_of HB.out _) R7.out.2) 3 _ (by omega)) _ (by omega)⟩
   go_wp2_with (refine wpList_store_row rfl 40 _ _ rfl (w.heap.size+1) #[.string f,.int .i64 4,.int .i64 (1+z),.string s] rfl rfl 40 _ hR8 (by kernel_rfl) rfl (by simp [Value.oneCell']) ?_)
   exact bodyPost_ret (v:=.agg #[.string f,.int .i64 4,.int .i64 (1+z),.string s]) (by simp [results,Tryz.results75,go_sem,cell_setRow_same _ _ _ _ _ _ _ hR8]) rfl ⟨f,4,1+z,s,rfl,by omega,by omega,by omega,by omega,HFI.out⟩
  ·have hyb:(y==0)=false:=by simp [hy]
   clear hy;have HK:Hid (Below w3.heap.size w3 (w3.alloc (.cells #[.string ⟨#[107,108,49]⟩,.string ⟨#[107,108,49]⟩,.string ⟨#[107,108,49]⟩,.string ⟨#[98,97,45,50]⟩,.string ⟨#[98,97,45,50]⟩,.string ⟨#[108,104,51]⟩,.string ⟨#[120]⟩] 9))):=(bal)
   have HS:Hid (StrsAt (w3.alloc (.cells #[.string ⟨#[107,108,49]⟩,.string ⟨#[107,108,49]⟩,.string ⟨#[107,108,49]⟩,.string ⟨#[98,97,45,50]⟩,.string ⟨#[98,97,45,50]⟩,.string ⟨#[108,104,51]⟩,.string ⟨#[120]⟩] 9)) (.slice (some ⟨w3.heap.size,0,none⟩) 7 7) flL):=strs_of flL (heap_newD w3 _) rfl (by decide)
   have HO:=toHid (of_any R (p+1+1) _ flL _ (R3.out.1.far HK.out) (by omega) HS.out (by decide))
   go_wp2_with fail;refine HO.out.mono ?_;rintro e w4 ⟨f,rfl,hf,hr4,hg4⟩;have hfs:=fl_size f hf;have R4:Hid (Rd w4 R ((p+1+1)+1)∧w1.grownBy w4 (some R)):=⟨hr4,grown_on R3.out.2 (grown_on (grown_of HK.out _) hg4)⟩;clear hf hr4 hg4 HO HS HK R3;go_wp2_with fail
   refine (pick_any R ((p+1+1)+1) 12 _ R4.out.1 (by omega) (by omega)).mono ?_
   rintro e w5 ⟨z,rfl,hz0,hz1,-,hr5,hg5⟩
   have hz1:=hz1 (by omega)
   have R5:Hid (Rd w5 R ((p+1+1)+1+1)∧w1.grownBy w5 (some R)):=⟨hr5,grown_on R4.out.2 hg5⟩;clear hr5 hg5 R4;have B6:Hid (Below w5.heap.size w5 (w5.alloc (.cells #[.string f,.int .i64 5,.int .i64 (1+z),.string ⟨#[]⟩] 40))):=(bal);have X6:Hid ((w5.alloc (.cells #[.string f,.int .i64 5,.int .i64 (1+z),.string ⟨#[]⟩] 40)).heap[w5.heap.size]?=some (.cells #[.string f,.int .i64 5,.int .i64 (1+z),.string ⟨#[]⟩] 40 (0,0))):=heap_newD w5 _;have R6:Hid (Rd (w5.alloc (.cells #[.string f,.int .i64 5,.int .i64 (1+z),.string ⟨#[]⟩] 40)) R ((p+1+1)+1+1)∧w1.grownBy (w5.alloc (.cells #[.string f,.int .i64 5,.int .i64 (1+z),.string ⟨#[]⟩] 40)) (some R)):=⟨R5.out.1.far B6.out,grown_on R5.out.2 (grown_of B6.out _)⟩;have hRw5:=R5.out.1.lt;have HZ5:=toHid (HZX.out _ R5.out.2);have b0:=(HBX.out _ R6.out.2).1;have b1:=(HBX.out _ R6.out.2).2;have b0':=(HBX.out _ R5.out.2).1;have b1':=(HBX.out _ R5.out.2).2;have zb:=lt_of_cell b0';go_wp2_with fail;generalize (w5.alloc (.cells #[.string f,.int .i64 5,.int .i64 (1+z),.string ⟨#[]⟩] 40))=w6 at *;clear b0 b1 b0' b1' R5
   refine (l2Value_any R ((p+1+1)+1+1) vk _ ps 5 _ R6.out.1 (by omega) (HVX.out _ R6.out.2) ⟨hps1,hps2⟩ HNN.out).mono ?_
   rintro e w7 ⟨s,rfl,hs,p7,hp71,hp72,hr7,hg7⟩
   have X7:Hid (w7.heap[w5.heap.size]?=some (.cells #[.string f,.int .i64 5,.int .i64 (1+z),.string ⟨#[]⟩] 40 (0,0))):=box_keep hg7 (by omega) X6.out
   have R7:Hid (Rd w7 R p7∧w1.grownBy w7 (some R)):=⟨hr7,grown_on R6.out.2 hg7⟩;clear hr7 hg7 R6 X6;have hx7:=X7.out;have lz:=cell_blkD hx7 (i:=3) rfl
   have lfz:w7.frozen? ⟨w5.heap.size,3,none⟩=false:=by simp [World.frozen?,hx7]
   have X8:Hid ((w7.setCell ⟨w5.heap.size,3,none⟩ (.string s)).heap[w5.heap.size]?=some (.cells #[.string f,.int .i64 5,.int .i64 (1+z),.string s] 40 (0,0))):=row_setD hx7;have HO8:Hid (∀ b,b≠w5.heap.size→(w7.setCell ⟨w5.heap.size,3,none⟩ (.string s)).heap[b]?=w7.heap[b]?):=fun b hb=>Below.heap_setCell w7 ⟨w5.heap.size,3,none⟩ (.string s) b hb
   have HZ8:Hid (w7.heap.size≤(w7.setCell ⟨w5.heap.size,3,none⟩ (.string s)).heap.size):=by show _≤_;simp
   have G8:Hid (w7.grownBy (w7.setCell ⟨w5.heap.size,3,none⟩ (.string s)) (some w5.heap.size)):=grown_box w7 _ 3 _;clear hx7 X7;have hx8:=X8.out;have e0:=cell_blkD hx8 (i:=0) rfl;have e1:=cell_blkD hx8 (i:=1) rfl;have e2:=cell_blkD hx8 (i:=2) rfl;have e3:=cell_blkD hx8 (i:=3) rfl;clear hx8;have hw15:=HZ5.out
   have hR8:(w7.setCell ⟨w5.heap.size,3,none⟩ (.string s)).heap[w.heap.size+1]?=some (.cells #[.string ⟨#[]⟩,.int .i64 0,.int .i64 0,.string ⟨#[]⟩] 40 (0,0)):=(HO8.out _ (by omega)).trans (HRX.out _ R7.out.2)
   have HFI:Hid (Out w R p 40 ((w7.setCell ⟨w5.heap.size,3,none⟩ (.string s)).setRow (w.heap.size+1) #[.string f,.int .i64 5,.int .i64 (1+z),.string s])):=by
    refine ⟨p7,by omega,by omega,(R7.out.1.late (fun j hj=>HO8.out j (by omega))).late (fun j hj=>setRow_other _ _ _ _ (by omega)),grown_row (grown_cell (grown_on (grown_of HB.out _) R7.out.2) 3 _ (by omega)) _ (by omega)⟩
   go_wp2_with (refine wpList_store_row rfl 40 _ _ rfl (w.heap.size+1) #[.string f,.int .i64 5,.int .i64 (1+z),.string s] rfl rfl 40 _ hR8 (by kernel_rfl) rfl (by simp [Value.oneCell']) ?_)
   exact bodyPost_ret (v:=.agg #[.string f,.int .i64 5,.int .i64 (1+z),.string s]) (by simp [results,Tryz.results75,go_sem,cell_setRow_same _ _ _ _ _ _ _ hR8]) rfl ⟨f,5,1+z,s,rfl,by omega,by omega,by omega,by omega,HFI.out⟩
 ·have h5b:((1+x)==5)=false:=by simp;omega
  have h5c:¬ 1+x=5:=by omega
  clear h5;have HK:Hid (Below w2.heap.size w2 (w2.alloc (.cells #[.string ⟨#[107,108,49]⟩,.string ⟨#[107,108,49]⟩,.string ⟨#[107,108,49]⟩,.string ⟨#[98,97,45,50]⟩,.string ⟨#[98,97,45,50]⟩,.string ⟨#[108,104,51]⟩,.string ⟨#[120]⟩] 9))):=(bal)
  have HS:Hid (StrsAt (w2.alloc (.cells #[.string ⟨#[107,108,49]⟩,.string ⟨#[107,108,49]⟩,.string ⟨#[107,108,49]⟩,.string ⟨#[98,97,45,50]⟩,.string ⟨#[98,97,45,50]⟩,.string ⟨#[108,104,51]⟩,.string ⟨#[120]⟩] 9)) (.slice (some ⟨w2.heap.size,0,none⟩) 7 7) flL):=strs_of flL (heap_newD w2 _) rfl (by decide)
  have HO:=toHid (of_any R (p+1) _ flL _ (R2.out.1.far HK.out) (by omega) HS.out (by decide))
  go_wp2_with fail;refine HO.out.mono ?_;rintro e w4 ⟨f,rfl,hf,hr4,hg4⟩;have hfs:=fl_size f hf;have R4:Hid (Rd w4 R ((p+1)+1)∧w1.grownBy w4 (some R)):=⟨hr4,grown_on R2.out.2 (grown_on (grown_of HK.out _) hg4)⟩;clear hf hr4 hg4 HO HS HK R2;go_wp2_with fail
  refine (pick_any R ((p+1)+1) 12 _ R4.out.1 (by omega) (by omega)).mono ?_
  rintro e w5 ⟨z,rfl,hz0,hz1,-,hr5,hg5⟩
  have hz1:=hz1 (by omega)
  have R5:Hid (Rd w5 R ((p+1)+1+1)∧w1.grownBy w5 (some R)):=⟨hr5,grown_on R4.out.2 hg5⟩;clear hr5 hg5 R4;have B6:Hid (Below w5.heap.size w5 (w5.alloc (.cells #[.string f,.int .i64 (1+x),.int .i64 (1+z),.string ⟨#[]⟩] 40))):=(bal);have X6:Hid ((w5.alloc (.cells #[.string f,.int .i64 (1+x),.int .i64 (1+z),.string ⟨#[]⟩] 40)).heap[w5.heap.size]?=some (.cells #[.string f,.int .i64 (1+x),.int .i64 (1+z),.string ⟨#[]⟩] 40 (0,0))):=heap_newD w5 _;have R6:Hid (Rd (w5.alloc (.cells #[.string f,.int .i64 (1+x),.int .i64 (1+z),.string ⟨#[]⟩] 40)) R ((p+1)+1+1)∧w1.grownBy (w5.alloc (.cells #[.string f,.int .i64 (1+x),.int .i64 (1+z),.string ⟨#[]⟩] 40)) (some R)):=⟨R5.out.1.far B6.out,grown_on R5.out.2 (grown_of B6.out _)⟩;have hRw5:=R5.out.1.lt;have HZ5:=toHid (HZX.out _ R5.out.2);have b0:=(HBX.out _ R6.out.2).1;have b1:=(HBX.out _ R6.out.2).2;have b0':=(HBX.out _ R5.out.2).1;have b1':=(HBX.out _ R5.out.2).2;have zb:=lt_of_cell b0';go_wp2_with fail;generalize (w5.alloc (.cells #[.string f,.int .i64 (1+x),.int .i64 (1+z),.string ⟨#[]⟩] 40))=w6 at *;clear b0 b1 b0' b1' R5
  refine (l2Value_any R ((p+1)+1+1) vk _ ps (1+x) _ R6.out.1 (by omega) (HVX.out _ R6.out.2) ⟨hps1,hps2⟩ HNN.out).mono ?_
  rintro e w7 ⟨s,rfl,hs,p7,hp71,hp72,hr7,hg7⟩
  have X7:Hid (w7.heap[w5.heap.size]?=some (.cells #[.string f,.int .i64 (1+x),.int .i64 (1+z),.string ⟨#[]⟩] 40 (0,0))):=box_keep hg7 (by omega) X6.out
  have R7:Hid (Rd w7 R p7∧w1.grownBy w7 (some R)):=⟨hr7,grown_on R6.out.2 hg7⟩;clear hr7 hg7 R6 X6;have hx7:=X7.out;have lz:=cell_blkD hx7 (i:=3) rfl
  have lfz:w7.frozen? ⟨w5.heap.size,3,none⟩=false:=by simp [World.frozen?,hx7]
  have X8:Hid ((w7.setCell ⟨w5.heap.size,3,none⟩ (.string s)).heap[w5.heap.size]?=some (.cells #[.string f,.int .i64 (1+x),.int .i64 (1+z),.string s] 40 (0,0))):=row_setD hx7;have HO8:Hid (∀ b,b≠w5.heap.size→(w7.setCell ⟨w5.heap.size,3,none⟩ (.string s)).heap[b]?=w7.heap[b]?):=fun b hb=>Below.heap_setCell w7 ⟨w5.heap.size,3,none⟩ (.string s) b hb
  have HZ8:Hid (w7.heap.size≤(w7.setCell ⟨w5.heap.size,3,none⟩ (.string s)).heap.size):=by show _≤_;simp
  have G8:Hid (w7.grownBy (w7.setCell ⟨w5.heap.size,3,none⟩ (.string s)) (some w5.heap.size)):=grown_box w7 _ 3 _;clear hx7 X7;have hx8:=X8.out;have e0:=cell_blkD hx8 (i:=0) rfl;have e1:=cell_blkD hx8 (i:=1) rfl;have e2:=cell_blkD hx8 (i:=2) rfl;have e3:=cell_blkD hx8 (i:=3) rfl;clear hx8;have hw15:=HZ5.out
  have hR8:(w7.setCell ⟨w5.heap.size,3,none⟩ (.string s)).heap[w.heap.size+1]?=some (.cells #[.string ⟨#[]⟩,.int .i64 0,.int .i64 0,.string ⟨#[]⟩] 40 (0,0)):=(HO8.out _ (by omega)).trans (HRX.out _ R7.out.2)
  have HFI:Hid (Out w R p 40 ((w7.setCell ⟨w5.heap.size,3,none⟩ (.string s)).setRow (w.heap.size+1) #[.string f,.int .i64 (1+x),.int .i64 (1+z),.string s])):=by
   refine ⟨p7,by omega,by omega,(R7.out.1.late (fun j hj=>HO8.out j (by omega))).late (fun j hj=>setRow_other _ _ _ _ (by omega)),grown_row (grown_cell (grown_on (grown_of HB.out _) R7.out.2) 3 _ (by omega)) _ (by omega)⟩
  go_wp2_with (refine wpList_store_row rfl 40 _ _ rfl (w.heap.size+1) #[.string f,.int .i64 (1+x),.int .i64 (1+z),.string s] rfl rfl 40 _ hR8 (by kernel_rfl) rfl (by simp [Value.oneCell']) ?_)
  exact bodyPost_ret (v:=.agg #[.string f,.int .i64 (1+x),.int .i64 (1+z),.string s]) (by simp [results,Tryz.results75,go_sem,cell_setRow_same _ _ _ _ _ _ _ hR8]) rfl ⟨f,(1+x),1+z,s,rfl,by omega,by omega,by omega,by omega,HFI.out⟩
open Go.RowKit
theorem l2SpoilChange_any (R p:Nat) (f:ByteArray) (wh num:Int) (s:ByteArray) (w:World) (h:Rd w R p) (hp:p≤800000) (hf:f.size≤2000) (hs:s.size≤2000) :
  Calls Tryz.prog 34 #[.pointer (some ⟨R,0,none⟩),.agg #[.string f,.int .i64 wh,.int .i64 num,.string s]] w fun e w'=>∃ (f':ByteArray) (wh' num':Int) (s':ByteArray),e=.returned (.agg #[.string f',.int .i64 wh',.int .i64 num',.string s'])∧f'.size≤2000∧s'.size≤2000∧Out w R p 10 w':=by
 have hRlt:=h.lt
 have HB:Hid (Below w.heap.size w ((w.alloc (.cells #[.string f,.int .i64 wh,.int .i64 num,.string s] 40)).alloc (.cells #[.string ⟨#[]⟩,.int .i64 0,.int .i64 0,.string ⟨#[]⟩] 40))):=(bal).alloc (by simp) _
 have HR1:Hid (Rd ((w.alloc (.cells #[.string f,.int .i64 wh,.int .i64 num,.string s] 40)).alloc (.cells #[.string ⟨#[]⟩,.int .i64 0,.int .i64 0,.string ⟨#[]⟩] 40)) R p):=h.far HB.out
 have HX1:Hid (((w.alloc (.cells #[.string f,.int .i64 wh,.int .i64 num,.string s] 40)).alloc (.cells #[.string ⟨#[]⟩,.int .i64 0,.int .i64 0,.string ⟨#[]⟩] 40)).heap[w.heap.size]?=some (.cells #[.string f,.int .i64 wh,.int .i64 num,.string s] 40 (0,0))):=by
  show _=_
  rw [(((bal):Below (w.alloc (.cells #[.string f,.int .i64 wh,.int .i64 num,.string s] 40)).heap.size (w.alloc (.cells #[.string f,.int .i64 wh,.int .i64 num,.string s] 40)) ((w.alloc (.cells #[.string f,.int .i64 wh,.int .i64 num,.string s] 40)).alloc (.cells #[.string ⟨#[]⟩,.int .i64 0,.int .i64 0,.string ⟨#[]⟩] 40)))).block _ (by simp)]
  exact heap_newD w _
 have HX2:Hid (((w.alloc (.cells #[.string f,.int .i64 wh,.int .i64 num,.string s] 40)).alloc (.cells #[.string ⟨#[]⟩,.int .i64 0,.int .i64 0,.string ⟨#[]⟩] 40)).heap[w.heap.size+1]?=some (.cells #[.string ⟨#[]⟩,.int .i64 0,.int .i64 0,.string ⟨#[]⟩] 40 (0,0))):=by
  have h:=heap_newD (w.alloc (.cells #[.string f,.int .i64 wh,.int .i64 num,.string s] 40)) (.cells #[.string ⟨#[]⟩,.int .i64 0,.int .i64 0,.string ⟨#[]⟩] 40)
  rw [show (w.alloc (.cells #[.string f,.int .i64 wh,.int .i64 num,.string s] 40)).heap.size=w.heap.size+1 by simp] at h
  exact h
 have HZ1:Hid (((w.alloc (.cells #[.string f,.int .i64 wh,.int .i64 num,.string s] 40)).alloc (.cells #[.string ⟨#[]⟩,.int .i64 0,.int .i64 0,.string ⟨#[]⟩] 40)).heap.size=w.heap.size+2):=by show _=_;simp
 clear h
 go_enter Tryz.func34,Tryz.ntmps34
 go_wp2_with fail;generalize ((w.alloc (.cells #[.string f,.int .i64 wh,.int .i64 num,.string s] 40)).alloc (.cells #[.string ⟨#[]⟩,.int .i64 0,.int .i64 0,.string ⟨#[]⟩] 40))=w1 at *
 have HX:Hid (∀ wx:World,w1.grownBy wx (some R)→wx.heap[w.heap.size]?=some (.cells #[.string f,.int .i64 wh,.int .i64 num,.string s] 40 (0,0))):=fun wx hg=>box_keep hg (by omega) HX1.out
 have HRX:Hid (∀ wx:World,w1.grownBy wx (some R)→wx.heap[w.heap.size+1]?=some (.cells #[.string ⟨#[]⟩,.int .i64 0,.int .i64 0,.string ⟨#[]⟩] 40 (0,0))):=fun wx hg=>box_keep hg (by omega) HX2.out
 refine (pick_any R p 5 _ HR1.out (by omega) (by omega)).mono ?_
 rintro e w2 ⟨x,rfl,hx0,hx1,-,hr2,hg2⟩;have R2:Hid (Rd w2 R (p+1)∧w1.grownBy w2 (some R)):=⟨hr2,hg2⟩;clear hr2 hg2 hx1
 by_cases h0:x=0
 ·have h0b:(x==0)=true:=by simp [h0]
  clear h0;go_wp2_with fail
  refine (pick_any R (p+1) 2 _ R2.out.1 (by omega) (by omega)).mono ?_
  rintro e w3 ⟨y,rfl,hy0,hy1,-,hr3,hg3⟩
  have hy1:=hy1 (by omega)
  obtain ⟨yn,rfl⟩:∃ n:Nat,y=n:=⟨y.toNat,by omega⟩
  have R3:Hid (Rd w3 R (p+1+1)∧w1.grownBy w3 (some R)):=⟨hr3,grown_on R2.out.2 hg3⟩;clear hr3 hg3 R2
  have HM:Hid (∀ wx:World,Calls Tryz.prog 76 #[.string ⟨#[102]⟩,.int .i64 (8+(yn:Int))] wx fun e w'=>∃ t:ByteArray,e=.returned (.string t)∧t.size≤9∧w'=wx):=fun wx=>by
   have h:=l1Many_any ⟨#[102]⟩ (8+yn) wx (by show 1*(8+yn)≤1000;omega) (by omega) (by decide)
   rw [show ((8+yn:Nat):Int)=8+(yn:Int) by omega] at h
   exact h.mono fun e w' ⟨t,h1,h2,h3⟩=>⟨t,h1,by have h2':t.size≤1*(8+yn):=h2;omega,h3⟩
  go_wp2_with fail;refine (HM.out _).mono ?_;rintro e w4 ⟨t,rfl,ht,rfl⟩;have HK:Hid (Below w4.heap.size w4 (w4.alloc (.cells #[.string ⟨#[]⟩,.string ⟨#[75]⟩,.string t] 9))):=(bal)
  have HS:Hid (StrsAt (w4.alloc (.cells #[.string ⟨#[]⟩,.string ⟨#[75]⟩,.string t] 9)) (.slice (some ⟨w4.heap.size,0,none⟩) 3 3) [⟨#[]⟩,⟨#[75]⟩,t]):=strs_of [⟨#[]⟩,⟨#[75]⟩,t] (heap_newD w4 _) rfl (by simp)
  have HO:=toHid (of_any R (p+1+1) _ [⟨#[]⟩,⟨#[75]⟩,t] _ (R3.out.1.far HK.out) (by omega) HS.out (by simp))
  go_wp2_with fail;refine HO.out.mono ?_;rintro e w5 ⟨g,rfl,hg,hr5,hg5⟩
  have hgs:g.size≤9:=by
   simp at hg
   rcases hg with rfl | rfl | rfl
   ·show 0≤9;omega
   ·show 1≤9;omega
   ·exact ht
  have R5:Hid (Rd w5 R (p+1+1+1)∧w1.grownBy w5 (some R)):=⟨hr5,grown_on R3.out.2 (grown_on (grown_of HK.out _) hg5)⟩;clear hg hr5 hg5 HO HS HK R3;have hx:=HX.out _ R5.out.2;have lz:=cell_blkD hx (i:=0) rfl
  have lfz:w5.frozen? ⟨w.heap.size,0,none⟩=false:=by simp [World.frozen?,hx]
  have X8:Hid ((w5.setCell ⟨w.heap.size,0,none⟩ (.string g)).heap[w.heap.size]?=some (.cells #[.string g,.int .i64 wh,.int .i64 num,.string s] 40 (0,0))):=row_setD hx;have HO8:Hid (∀ b,b≠w.heap.size→(w5.setCell ⟨w.heap.size,0,none⟩ (.string g)).heap[b]?=w5.heap[b]?):=fun b hb=>Below.heap_setCell w5 ⟨w.heap.size,0,none⟩ (.string g) b hb;clear hx;have hx8:=X8.out;have e0:=cell_blkD hx8 (i:=0) rfl;have e1:=cell_blkD hx8 (i:=1) rfl;have e2:=cell_blkD hx8 (i:=2) rfl;have e3:=cell_blkD hx8 (i:=3) rfl;clear hx8
  have hR8:(w5.setCell ⟨w.heap.size,0,none⟩ (.string g)).heap[w.heap.size+1]?=some (.cells #[.string ⟨#[]⟩,.int .i64 0,.int .i64 0,.string ⟨#[]⟩] 40 (0,0)):=(HO8.out _ (by omega)).trans (HRX.out _ R5.out.2)
  have HFI:Hid (Out w R p 10 ((w5.setCell ⟨w.heap.size,0,none⟩ (.string g)).setRow (w.heap.size+1) #[.string g,.int .i64 wh,.int .i64 num,.string s])):=by
   refine ⟨p+1+1+1,by omega,by omega,(R5.out.1.late (fun j hj=>HO8.out j (by omega))).late (fun j hj=>setRow_other _ _ _ _ (by omega)),grown_row (grown_cell (grown_on (grown_of HB.out _) R5.out.2) 0 _ (by omega)) _ (by omega)⟩
  go_wp2_with (refine wpList_store_row rfl 40 _ _ rfl (w.heap.size+1) #[.string g,.int .i64 wh,.int .i64 num,.string s] rfl rfl 40 _ hR8 (by kernel_rfl) rfl (by simp [Value.oneCell']) ?_)
  exact bodyPost_ret (v:=.agg #[.string g,.int .i64 wh,.int .i64 num,.string s]) (by simp [results,Tryz.results34,go_sem,cell_setRow_same _ _ _ _ _ _ _ hR8]) rfl ⟨g,wh,num,s,rfl,by omega,by omega,HFI.out⟩
 have h0b:(x==0)=false:=by simp [h0]
 clear h0
 by_cases h1:x=1
 ·have h1b:(x==1)=true:=by simp [h1]
  clear h1;go_wp2_with fail
  refine (pick_any R (p+1) 8 _ R2.out.1 (by omega) (by omega)).mono ?_
  rintro e w3 ⟨y,rfl,hy0,hy1,-,hr3,hg3⟩
  have hy1:=hy1 (by omega)
  have R3:Hid (Rd w3 R (p+1+1)∧w1.grownBy w3 (some R)):=⟨hr3,grown_on R2.out.2 hg3⟩;clear hr3 hg3 R2;have hx:=HX.out _ R3.out.2;have lz:=cell_blkD hx (i:=1) rfl
  have lfz:w3.frozen? ⟨w.heap.size,1,none⟩=false:=by simp [World.frozen?,hx]
  have X8:Hid ((w3.setCell ⟨w.heap.size,1,none⟩ (.int .i64 (y-1))).heap[w.heap.size]?=some (.cells #[.string f,.int .i64 (y-1),.int .i64 num,.string s] 40 (0,0))):=row_setD hx;have HO8:Hid (∀ b,b≠w.heap.size→(w3.setCell ⟨w.heap.size,1,none⟩ (.int .i64 (y-1))).heap[b]?=w3.heap[b]?):=fun b hb=>Below.heap_setCell w3 ⟨w.heap.size,1,none⟩ (.int .i64 (y-1)) b hb;clear hx;have hx8:=X8.out;have e0:=cell_blkD hx8 (i:=0) rfl;have e1:=cell_blkD hx8 (i:=1) rfl;have e2:=cell_blkD hx8 (i:=2) rfl;have e3:=cell_blkD hx8 (i:=3) rfl;clear hx8
  have hR8:(w3.setCell ⟨w.heap.size,1,none⟩ (.int .i64 (y-1))).heap[w.heap.size+1]?=some (.cells #[.string ⟨#[]⟩,.int .i64 0,.int .i64 0,.string ⟨#[]⟩] 40 (0,0)):=(HO8.out _ (by omega)).trans (HRX.out _ R3.out.2)
  have HFI:Hid (Out w R p 10 ((w3.setCell ⟨w.heap.size,1,none⟩ (.int .i64 (y-1))).setRow (w.heap.size+1) #[.string f,.int .i64 (y-1),.int .i64 num,.string s])):=by
   refine ⟨p+1+1,by omega,by omega,(R3.out.1.late (fun j hj=>HO8.out j (by omega))).late (fun j hj=>setRow_other _ _ _ _ (by omega)),grown_row (grown_cell (grown_on (grown_of HB.out _) R3.out.2) 1 _ (by omega)) _ (by omega)⟩
  go_wp2_with (refine wpList_store_row rfl 40 _ _ rfl (w.heap.size+1) #[.string f,.int .i64 (y-1),.int .i64 num,.string s] rfl rfl 40 _ hR8 (by kernel_rfl) rfl (by simp [Value.oneCell']) ?_)
  exact bodyPost_ret (v:=.agg #[.string f,.int .i64 (y-1),.int .i64 num,.string s]) (by simp [results,Tryz.results34,go_sem,cell_setRow_same _ _ _ _ _ _ _ hR8]) rfl ⟨f,y-1,num,s,rfl,by omega,by omega,HFI.out⟩
 have h1b:(x==1)=false:=by simp [h1]
 clear h1
 by_cases h2:x=2
 ·have h2b:(x==2)=true:=by simp [h2]
  clear h2;have HK:Hid (Below w2.heap.size w2 (w2.alloc (.cells #[.int .i64 0,.int .i64 (-1),.int .i64 1000000,.int .i64 1000001] 3))):=(bal);have HI:Hid ((w2.alloc (.cells #[.int .i64 0,.int .i64 (-1),.int .i64 1000000,.int .i64 1000001] 3)).heap[w2.heap.size]?=some (.cells #[.int .i64 0,.int .i64 (-1),.int .i64 1000000,.int .i64 1000001] 3 (0,0))):=heap_newD w2 _;have R2':Hid (Rd (w2.alloc (.cells #[.int .i64 0,.int .i64 (-1),.int .i64 1000000,.int .i64 1000001] 3)) R (p+1)∧w1.grownBy (w2.alloc (.cells #[.int .i64 0,.int .i64 (-1),.int .i64 1000000,.int .i64 1000001] 3)) (some R)):=⟨R2.out.1.far HK.out,grown_on R2.out.2 (grown_of HK.out _)⟩;have hR2:=R2.out.1.lt;go_wp2_with fail;generalize (w2.alloc (.cells #[.int .i64 0,.int .i64 (-1),.int .i64 1000000,.int .i64 1000001] 3))=w3 at *
  refine (pick_any R (p+1) 4 _ R2'.out.1 (by omega) (by omega)).mono ?_
  rintro e w4 ⟨y,rfl,hy0,hy1,-,hr4,hg4⟩
  have hy1:=hy1 (by omega)
  obtain ⟨yn,rfl⟩:∃ n:Nat,y=n:=⟨y.toNat,by omega⟩
  have hI4:=box_keep hg4 (show w2.heap.size≠R by omega) HI.out
  obtain ⟨u,hu⟩:∃ u:Int,(#[Value.int .i64 0,.int .i64 (-1),.int .i64 1000000,.int .i64 1000001]:Array Value)[yn]?=some (.int .i64 u):=by
   rcases (show yn=0∨yn=1∨yn=2∨yn=3 by omega) with rfl | rfl | rfl | rfl <;> exact ⟨_,rfl⟩
  have c0:=cell_blkD hI4 hu;have R4:Hid (Rd w4 R (p+1+1)∧w1.grownBy w4 (some R)):=⟨hr4,grown_on R2'.out.2 hg4⟩;clear hr4 hg4 R2 R2' hI4 hu;have hx:=HX.out _ R4.out.2;have lz:=cell_blkD hx (i:=2) rfl
  have lfz:w4.frozen? ⟨w.heap.size,2,none⟩=false:=by simp [World.frozen?,hx]
  have X8:Hid ((w4.setCell ⟨w.heap.size,2,none⟩ (.int .i64 u)).heap[w.heap.size]?=some (.cells #[.string f,.int .i64 wh,.int .i64 u,.string s] 40 (0,0))):=row_setD hx;have HO8:Hid (∀ b,b≠w.heap.size→(w4.setCell ⟨w.heap.size,2,none⟩ (.int .i64 u)).heap[b]?=w4.heap[b]?):=fun b hb=>Below.heap_setCell w4 ⟨w.heap.size,2,none⟩ (.int .i64 u) b hb;clear hx;have hx8:=X8.out;have e0:=cell_blkD hx8 (i:=0) rfl;have e1:=cell_blkD hx8 (i:=1) rfl;have e2:=cell_blkD hx8 (i:=2) rfl;have e3:=cell_blkD hx8 (i:=3) rfl;clear hx8
  have hR8:(w4.setCell ⟨w.heap.size,2,none⟩ (.int .i64 u)).heap[w.heap.size+1]?=some (.cells #[.string ⟨#[]⟩,.int .i64 0,.int .i64 0,.string ⟨#[]⟩] 40 (0,0)):=(HO8.out _ (by omega)).trans (HRX.out _ R4.out.2)
  have HFI:Hid (Out w R p 10 ((w4.setCell ⟨w.heap.size,2,none⟩ (.int .i64 u)).setRow (w.heap.size+1) #[.string f,.int .i64 wh,.int .i64 u,.string s])):=by
   refine ⟨p+1+1,by omega,by omega,(R4.out.1.late (fun j hj=>HO8.out j (by omega))).late (fun j hj=>setRow_other _ _ _ _ (by omega)),grown_row (grown_cell (grown_on (grown_of HB.out _) R4.out.2) 2 _ (by omega)) _ (by omega)⟩
  go_wp2_with (refine wpList_store_row rfl 40 _ _ rfl (w.heap.size+1) #[.string f,.int .i64 wh,.int .i64 u,.string s] rfl rfl 40 _ hR8 (by kernel_rfl) rfl (by simp [Value.oneCell']) ?_)
  exact bodyPost_ret (v:=.agg #[.string f,.int .i64 wh,.int .i64 u,.string s]) (by simp [results,Tryz.results34,go_sem,cell_setRow_same _ _ _ _ _ _ _ hR8]) rfl ⟨f,wh,u,s,rfl,by omega,by omega,HFI.out⟩
 have h2b:(x==2)=false:=by simp [h2]
 clear h2;go_wp2_with fail
 refine (l2BadValue_any R (p+1) _ R2.out.1 (by omega)).mono ?_
 rintro e w3 ⟨g,rfl,hgs,hr3,hg3⟩;have R3:Hid (Rd w3 R (p+1+1)∧w1.grownBy w3 (some R)):=⟨hr3,grown_on R2.out.2 hg3⟩;clear hr3 hg3 R2;have hx:=HX.out _ R3.out.2;have lz:=cell_blkD hx (i:=3) rfl
 have lfz:w3.frozen? ⟨w.heap.size,3,none⟩=false:=by simp [World.frozen?,hx]
 have X8:Hid ((w3.setCell ⟨w.heap.size,3,none⟩ (.string g)).heap[w.heap.size]?=some (.cells #[.string f,.int .i64 wh,.int .i64 num,.string g] 40 (0,0))):=row_setD hx;have HO8:Hid (∀ b,b≠w.heap.size→(w3.setCell ⟨w.heap.size,3,none⟩ (.string g)).heap[b]?=w3.heap[b]?):=fun b hb=>Below.heap_setCell w3 ⟨w.heap.size,3,none⟩ (.string g) b hb;clear hx;have hx8:=X8.out;have e0:=cell_blkD hx8 (i:=0) rfl;have e1:=cell_blkD hx8 (i:=1) rfl;have e2:=cell_blkD hx8 (i:=2) rfl;have e3:=cell_blkD hx8 (i:=3) rfl;clear hx8
 have hR8:(w3.setCell ⟨w.heap.size,3,none⟩ (.string g)).heap[w.heap.size+1]?=some (.cells #[.string ⟨#[]⟩,.int .i64 0,.int .i64 0,.string ⟨#[]⟩] 40 (0,0)):=(HO8.out _ (by omega)).trans (HRX.out _ R3.out.2)
 have HFI:Hid (Out w R p 10 ((w3.setCell ⟨w.heap.size,3,none⟩ (.string g)).setRow (w.heap.size+1) #[.string f,.int .i64 wh,.int .i64 num,.string g])):=by
  refine ⟨p+1+1,by omega,by omega,(R3.out.1.late (fun j hj=>HO8.out j (by omega))).late (fun j hj=>setRow_other _ _ _ _ (by omega)),grown_row (grown_cell (grown_on (grown_of HB.out _) R3.out.2) 3 _ (by omega)) _ (by omega)⟩
 go_wp2_with (refine wpList_store_row rfl 40 _ _ rfl (w.heap.size+1) #[.string f,.int .i64 wh,.int .i64 num,.string g] rfl rfl 40 _ hR8 (by kernel_rfl) rfl (by simp [Value.oneCell']) ?_)
 exact bodyPost_ret (v:=.agg #[.string f,.int .i64 wh,.int .i64 num,.string g]) (by simp [results,Tryz.results34,go_sem,cell_setRow_same _ _ _ _ _ _ _ hR8]) rfl ⟨f,wh,num,g,rfl,by omega,by omega,HFI.out⟩
end Go.Proofs.YtbjmgglpiakgdaaGreatDoor.Dr
