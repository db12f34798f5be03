import Derived.Test.YtbjmgglpiakgdaaGreatDoorWFl
set_option maxRecDepth 100000
set_option maxHeartbeats 6400000
namespace Go.Proofs.YtbjmgglpiakgdaaGreatDoor.Pa
open Go.RowKit Sd
set_option linter.unusedSimpArgs false
set_option linter.unusedVariables false
theorem onward_any (x y:Int) (t:Tri) (w:World) (hx:0≤x∧x≤1000000) (hy:0≤y∧y≤1000000) (hq:0≤t.x∧t.x≤50) (hs:0≤t.y∧t.y≤50) :
  Calls Tryz.prog 98 #[.agg #[.int .i64 x,.int .i64 y],.agg #[.string t.s,.int .i64 t.x,.int .i64 t.y]] w fun e w'=>e=.returned (.agg #[.int .i64 (x+t.x),.int .i64 (y+t.y)])∧Below w.heap.size w w':=by
 have HB:Hid (Below w.heap.size w (((w.alloc (.cells #[.int .i64 x,.int .i64 y] 157)).alloc (.cells #[.string t.s,.int .i64 t.x,.int .i64 t.y] 44)).alloc (.cells #[.int .i64 0,.int .i64 0] 157))):=((bal).alloc (by simp) _).alloc (by simp;omega) _
 have hr:(((w.alloc (.cells #[.int .i64 x,.int .i64 y] 157)).alloc (.cells #[.string t.s,.int .i64 t.x,.int .i64 t.y] 44)).alloc (.cells #[.int .i64 0,.int .i64 0] 157)).heap[w.heap.size+2]?=some (.cells #[.int .i64 0,.int .i64 0] 157 (0,0)):=by
  have h:=Lv.heap_newF ((w.alloc (.cells #[.int .i64 x,.int .i64 y] 157)).alloc (.cells #[.string t.s,.int .i64 t.x,.int .i64 t.y] 44)) (.cells #[.int .i64 0,.int .i64 0] 157)
  rw [show ((w.alloc (.cells #[.int .i64 x,.int .i64 y] 157)).alloc (.cells #[.string t.s,.int .i64 t.x,.int .i64 t.y] 44)).heap.size=w.heap.size+2 by simp] at h
  exact h
 obtain ⟨hx0,hx1⟩:=hx;obtain ⟨hy0,hy1⟩:=hy;obtain ⟨hq0,hq1⟩:=hq;obtain ⟨hs0,hs1⟩:=hs
 go_enter Tryz.func98,Tryz.ntmps98
 go_wp2_with (refine wpList_store_row rfl 157 _ _ rfl (w.heap.size+2) #[.int .i64 (x+t.x),.int .i64 (y+t.y)] rfl rfl 157 _ hr (by kernel_rfl) rfl (by simp [Value.oneCell']) ?_)
 exact bodyPost_ret (v:=.agg #[.int .i64 (x+t.x),.int .i64 (y+t.y)]) (by simp [results,Tryz.results98,go_sem,cell_setRow_same _ _ _ _ _ _ _ hr]) rfl ⟨rfl,below_setRow HB.out (by omega) _⟩
theorem grownP_trans {w w1 w2:World} {r:Option Nat} (h:w.grownBy w1 r) (k:w1.grownBy w2 r):w.grownBy w2 r :=
 ⟨k.1.trans h.1,k.2.trans h.2,k.3.trans h.3,Nat.le_trans h.4 k.4,fun j hj hr=>(k.5 j (Nat.lt_of_lt_of_le hj h.4) hr).trans (h.5 j hj hr)⟩
theorem minI_eq (a b:Int):minI a b=min a b:=by unfold minI;split <;> omega
theorem maxI_eq (a b:Int):maxI a b=max a b:=by unfold maxI;split <;> omega
structure PL (w w3 wr:World) (E P:Nat) (x y:Int) (sv:Value) (l:List Stp):Prop where
 below:Below w.heap.size w wr
 size:w3.heap.size≤wr.heap.size
 keep:∀ b,b<w3.heap.size→b≠E→b≠P→wr.heap[b]?=w3.heap[b]?
 e:wr.heap[E]?=some (.cells #[.int .i64 x,.int .i64 y] 157 (0,0))
 p:wr.heap[P]?=some (.cells #[sv,.int .i64 0,.int .i64 0] 55 (0,0))
 s:StNew wr w3.heap.size sv l
theorem PL.call {w w3 wr wx:World} {E P:Nat} {x y:Int} {sv:Value} {l:List Stp} (h:PL w w3 wr E P x y sv l) (hb:Below wr.heap.size wr wx):PL w w3 wx E P x y sv l :=
 ⟨below_step h.below hb,Nat.le_trans h.size hb.size,fun b hl h1 h2=>(hb.block b (Nat.lt_of_lt_of_le hl h.size)).trans (h.keep b hl h1 h2),below_block hb h.e,below_block hb h.p,ownC_keep h.s hb⟩
theorem PL.drew {w w3 wr:World} {E P:Nat} {x y:Int} {sv:Value} {l:List Stp} (h:PL w w3 wr E P x y sv l):PL w w3 wr.drew E P x y sv l :=
 ⟨h.below.drew,h.size,h.keep,h.e,h.p,h.s⟩
theorem PL.cell {w w3 wr:World} {E P:Nat} {x y:Int} {sv:Value} {l:List Stp} (h:PL w w3 wr E P x y sv l) {b o:Nat} {u:Value} (hb:b<w3.heap.size) (h1:b≠E) (h2:b≠P) (hc:w3.cell? ⟨b,o,none⟩=some u):wr.cell? ⟨b,o,none⟩=some u:=by
 rw [World.cell?_of_block (w:=w3) (h.keep b hb h1 h2)];exact hc
theorem PL.win {w w3 wr:World} {E P:Nat} {x y:Int} {sv:Value} {l:List Stp} (h:PL w w3 wr E P x y sv l) (hE:w.heap.size≤E) (hEP:E≠P) (hEl:E<w3.heap.size) (x' y':Int):PL w w3 (wr.setRow E #[.int .i64 x',.int .i64 y']) E P x' y' sv l:=by
 have ho:∀ b,b≠E→(wr.setRow E #[.int .i64 x',.int .i64 y']).heap[b]?=wr.heap[b]?:=fun b hb=>setRow_other _ _ _ _ hb
 refine ⟨below_setRow h.below hE _,by simpa using h.size,fun b hl h1 h2=>(ho b h1).trans (h.keep b hl h1 h2),setRow_heap _ _ _ _ _ _ h.e,(ho P (Ne.symm hEP)).trans h.p,ownC_far h.s (grown_rowS wr E _) (fun k hk e=>?_)⟩
 have h3:=ownC_ge h.s k hk
 injection e with e
 omega
theorem PL.add {w w3 wr wx:World} {E P:Nat} {x y:Int} {sv sv':Value} {l l':List Stp} (h:PL w w3 wr E P x y sv l) (hw:w.heap.size≤w3.heap.size) (hE:E<w3.heap.size) (hP:P<w3.heap.size) (hPw:w.heap.size≤P) (hEP:E≠P) (hg:wr.grownBy wx sv.ownBlock) (hs:StNew wx w3.heap.size sv' l'):PL w w3 (wx.setCell ⟨P,0,none⟩ sv') E P x y sv' l':=by
 have hsz:=h.size;have hge:∀ k,sv.ownBlock=some k→w3.heap.size≤k:=fun k hk=>ownC_ge h.s k hk
 have h1:∀ b,b<w3.heap.size→wx.heap[b]?=wr.heap[b]?:=fun b hb=>hg.block b (by omega) (fun e=>by have:=hge b e.symm;omega)
 have h2:∀ b,b≠P→(wx.setCell ⟨P,0,none⟩ sv').heap[b]?=wx.heap[b]?:=fun b hb=>Below.heap_setCell wx ⟨P,0,none⟩ sv' b hb;have hp:=(h1 P hP).trans h.p
 refine ⟨(h.below.grown hg h.below.size (fun k e=>by have:=hge k e;omega)).setCell (p:=⟨P,0,none⟩) hPw _,by simpa using Nat.le_trans hsz hg.size,fun b hb e1 e2=>((h2 b e2).trans (h1 b hb)).trans (h.keep b hb e1 e2),((h2 E hEP).trans (h1 E hE)).trans h.e,row_setCell hp,ownC_far hs (grown_setI wx P 0 sv') (fun k hk e=>?_)⟩
 have h3:=ownC_ge hs k hk
 injection e with e
 omega
theorem PL.inE {w w3 wr:World} {E P:Nat} {x y:Int} {sv:Value} {l:List Stp} (h:PL w w3 wr E P x y sv l):wr.cell? ⟨E,0,none⟩=some (.int .i64 x)∧wr.cell? ⟨E,1,none⟩=some (.int .i64 y):=by simp [World.cell?,h.e]
theorem PL.inP {w w3 wr:World} {E P:Nat} {x y:Int} {sv:Value} {l:List Stp} (h:PL w w3 wr E P x y sv l):wr.cell? ⟨P,0,none⟩=some sv∧wr.cell? ⟨P,1,none⟩=some (.int .i64 0)∧wr.cell? ⟨P,2,none⟩=some (.int .i64 0):=by simp [World.cell?,h.p]
theorem pathAlong_any (v:Value) (cs:List Cel) (q:ByteArray) (t:Tri) (x y z:Int) (ra:Option Addr) (rn rc:Nat) (w:World) (hv:CAt w v cs) (hN:1≤cs.length∧cs.length≤40) (hf:FlOk t x y z) :
  Calls Tryz.prog 50 #[v,.agg #[.string q,.string t.s,.int .i64 t.x,.int .i64 t.y,.int .i64 x,.int .i64 y,.int .i64 z,.slice ra rn rc]] w fun e w'=>∃ u,e=.returned (.agg #[u,.int .i64 (x+(cs.length:Int)*t.x),.int .i64 (y+(cs.length:Int)*t.y)])∧StNew w' w.heap.size u (stpTo cs z x y t.x t.y cs.length)∧Below w.heap.size w w':=by
 obtain ⟨i0,hi0,hz0,hzs,hz2⟩:=info_parts infoStep;obtain ⟨f1,f2,f3,f4,f5,f6,f7,f8⟩:=hf;have HV:Hid (CAt w v cs):=hv;obtain ⟨ca,cc,rfl,hcl,hcm,-⟩:=hv;unfold maxLen at hcm
 have A1:Hid (Below w.heap.size w ((w.alloc (.cells #[.string q,.string t.s,.int .i64 t.x,.int .i64 t.y,.int .i64 x,.int .i64 y,.int .i64 z,.slice ra rn rc] 47)).alloc (.cells #[.slice none 0 0,.int .i64 0,.int .i64 0] 55))):=(bal).alloc (by simp) _
 have F1:Hid (((w.alloc (.cells #[.string q,.string t.s,.int .i64 t.x,.int .i64 t.y,.int .i64 x,.int .i64 y,.int .i64 z,.slice ra rn rc] 47)).alloc (.cells #[.slice none 0 0,.int .i64 0,.int .i64 0] 55)).heap[w.heap.size]?=some (.cells #[.string q,.string t.s,.int .i64 t.x,.int .i64 t.y,.int .i64 x,.int .i64 y,.int .i64 z,.slice ra rn rc] 47 (0,0))):=by
  show _=_
  rw [(((bal):Below (w.alloc (.cells #[.string q,.string t.s,.int .i64 t.x,.int .i64 t.y,.int .i64 x,.int .i64 y,.int .i64 z,.slice ra rn rc] 47)).heap.size (w.alloc (.cells #[.string q,.string t.s,.int .i64 t.x,.int .i64 t.y,.int .i64 x,.int .i64 y,.int .i64 z,.slice ra rn rc] 47)) ((w.alloc (.cells #[.string q,.string t.s,.int .i64 t.x,.int .i64 t.y,.int .i64 x,.int .i64 y,.int .i64 z,.slice ra rn rc] 47)).alloc (.cells #[.slice none 0 0,.int .i64 0,.int .i64 0] 55)))).block _ (by simp)]
  exact Lv.heap_newF w _
 have R1:Hid (((w.alloc (.cells #[.string q,.string t.s,.int .i64 t.x,.int .i64 t.y,.int .i64 x,.int .i64 y,.int .i64 z,.slice ra rn rc] 47)).alloc (.cells #[.slice none 0 0,.int .i64 0,.int .i64 0] 55)).heap[w.heap.size+1]?=some (.cells #[.slice none 0 0,.int .i64 0,.int .i64 0] 55 (0,0))):=by
  have h:=Lv.heap_newF (w.alloc (.cells #[.string q,.string t.s,.int .i64 t.x,.int .i64 t.y,.int .i64 x,.int .i64 y,.int .i64 z,.slice ra rn rc] 47)) (.cells #[.slice none 0 0,.int .i64 0,.int .i64 0] 55)
  rw [show (w.alloc (.cells #[.string q,.string t.s,.int .i64 t.x,.int .i64 t.y,.int .i64 x,.int .i64 y,.int .i64 z,.slice ra rn rc] 47)).heap.size=w.heap.size+1 by simp] at h
  exact h
 have Z1:Hid (((w.alloc (.cells #[.string q,.string t.s,.int .i64 t.x,.int .i64 t.y,.int .i64 x,.int .i64 y,.int .i64 z,.slice ra rn rc] 47)).alloc (.cells #[.slice none 0 0,.int .i64 0,.int .i64 0] 55)).heap.size=w.heap.size+2):=by show _=_;simp
 have GL:Hid (∀ wx:World,Calls Tryz.prog 97 #[.int .i64 (cs.length:Int),.int .i64 z] wx fun e w'=>∃ v,e=.returned v∧Lv.INew w' wx.heap.size v (levelsL (cs.length:Int) z)∧Below wx.heap.size wx w'):=fun wx=>Lv.planLevels_any _ _ wx;have HLL:Hid ((levelsL (cs.length:Int) z).length=cs.length):=levels_len hN ⟨f7,f8⟩;have HLG:Hid (∀ k,k<cs.length→(levelsL (cs.length:Int) z)[k]?=some (lvA cs.length z k)):=fun k hk=>levels_get hN ⟨f7,f8⟩ k hk;obtain ⟨hN1,hN2⟩:=hN
 go_enter Tryz.func50,Tryz.ntmps50
 go_wp2_with fail;generalize ((w.alloc (.cells #[.string q,.string t.s,.int .i64 t.x,.int .i64 t.y,.int .i64 x,.int .i64 y,.int .i64 z,.slice ra rn rc] 47)).alloc (.cells #[.slice none 0 0,.int .i64 0,.int .i64 0] 55))=w1 at *;refine (GL.out _).mono ?_;rintro e w2 ⟨lv,rfl,hl,hb2⟩;obtain ⟨la,lc,rfl⟩:=Lv.own_slice hl;have L2:Hid (Lv.IAt w2 (.slice la (levelsL (cs.length:Int) z).length lc) (levelsL (cs.length:Int) z)):=Lv.INew.at hl;rw [HLL.out] at L2 ⊢;have B2:Hid (Below w1.heap.size w1 w2):=hb2;have F2:Hid (w2.heap[w.heap.size]?=some (.cells #[.string q,.string t.s,.int .i64 t.x,.int .i64 t.y,.int .i64 x,.int .i64 y,.int .i64 z,.slice ra rn rc] 47 (0,0))∧w2.heap[w.heap.size+1]?=some (.cells #[.slice none 0 0,.int .i64 0,.int .i64 0] 55 (0,0))):=⟨below_block hb2 F1.out,below_block hb2 R1.out⟩
 have hz2':w.heap.size+2≤w2.heap.size:=by have:=hb2.size;have:=Z1.out;omega
 have c4:w2.cell? ⟨w.heap.size,4,none⟩=some (.int .i64 x):=by simp [World.cell?,F2.out.1]
 have c5:w2.cell? ⟨w.heap.size,5,none⟩=some (.int .i64 y):=by simp [World.cell?,F2.out.1]
 clear hl hb2
 have B3:Hid (Below w2.heap.size w2 ((w2.alloc (.cells #[.int .i64 x,.int .i64 y] 157)).alloc (.cells #[.slice none 0 0,.int .i64 0,.int .i64 0] 55))):=(bal).alloc (by simp) _
 have Z3':Hid (((w2.alloc (.cells #[.int .i64 x,.int .i64 y] 157)).alloc (.cells #[.slice none 0 0,.int .i64 0,.int .i64 0] 55)).heap.size=w2.heap.size+2):=by show _=_;simp
 have PL0:Hid (PL w ((w2.alloc (.cells #[.int .i64 x,.int .i64 y] 157)).alloc (.cells #[.slice none 0 0,.int .i64 0,.int .i64 0] 55)) ((w2.alloc (.cells #[.int .i64 x,.int .i64 y] 157)).alloc (.cells #[.slice none 0 0,.int .i64 0,.int .i64 0] 55)) w2.heap.size (w2.heap.size+1) x y (.slice none 0 0) (stpTo cs z x y t.x t.y 0)):=by
  refine ⟨below_step (below_step A1.out B2.out) B3.out,Nat.le_refl _,fun _ _ _ _=>rfl,?_,?_,StNew.nil _ _⟩
  ·rw [(((bal):Below (w2.alloc (.cells #[.int .i64 x,.int .i64 y] 157)).heap.size (w2.alloc (.cells #[.int .i64 x,.int .i64 y] 157)) ((w2.alloc (.cells #[.int .i64 x,.int .i64 y] 157)).alloc (.cells #[.slice none 0 0,.int .i64 0,.int .i64 0] 55)))).block _ (by simp)]
   exact Lv.heap_newF w2 _
  ·have h:=Lv.heap_newF (w2.alloc (.cells #[.int .i64 x,.int .i64 y] 157)) (.cells #[.slice none 0 0,.int .i64 0,.int .i64 0] 55)
   rw [show (w2.alloc (.cells #[.int .i64 x,.int .i64 y] 157)).heap.size=w2.heap.size+1 by simp] at h
   exact h
 go_wp2_with fail;generalize ((w2.alloc (.cells #[.int .i64 x,.int .i64 y] 157)).alloc (.cells #[.slice none 0 0,.int .i64 0,.int .i64 0] 55))=w3 at *;clear c4 c5;obtain ⟨ca',cc',hce,-,-,hcc⟩:=HV.out
 obtain ⟨cg,hcg,-⟩:=hcc 0 _ (tat_get (by omega))
 cases hce
 subst hcg
 have HCC:Hid (∀ wx:World,Below w.heap.size w wx→∀ k,k<cs.length→wx.cell? ⟨cg,k*2,none⟩=some (.int .i64 (tat cs k).x)∧wx.cell? ⟨cg,k*2+1,none⟩=some (.int .i64 (tat cs k).y)):=fun wx hx k hk=>by
  obtain ⟨g,hg,d0,d1⟩:=hcc k _ (tat_get hk)
  cases hg
  exact ⟨cell_keep hx nlr d0,cell_keep hx nlr d1⟩
 clear hcc HV;obtain ⟨la',lc',hle,hll1,hll2,hlc⟩:=L2.out
 obtain ⟨lg,hlg,hlg0⟩:=hlc 0 _ (HLG.out 0 (by omega))
 rw [HLL.out] at hle hll1
 cases hle
 subst hlg;have hlgz:=lt_of_cell hlg0;unfold maxLen at hll2
 have HLV:Hid (∀ (wx:World) (x' y':Int) (sv:Value) (l:List Stp),PL w w3 wx w2.heap.size (w2.heap.size+1) x' y' sv l→∀ k,k<cs.length→wx.cell? ⟨lg,k,none⟩=some (.int .i64 (lvA cs.length z k))):=fun wx x' y' sv l hp k hk=>by
  obtain ⟨g,hg,d0⟩:=hlc k _ (HLG.out k hk)
  cases hg
  have hz3:=Z3'.out
  exact hp.cell (by omega) (by omega) (by omega) (cell_keep B3.out nlr d0)
 clear hlc hlg0 L2
 have HFV:Hid (∀ (wx:World) (x' y':Int) (sv:Value) (l:List Stp),PL w w3 wx w2.heap.size (w2.heap.size+1) x' y' sv l→wx.heap[w.heap.size]?=some (.cells #[.string q,.string t.s,.int .i64 t.x,.int .i64 t.y,.int .i64 x,.int .i64 y,.int .i64 z,.slice ra rn rc] 47 (0,0))∧wx.heap[w.heap.size+1]?=some (.cells #[.slice none 0 0,.int .i64 0,.int .i64 0] 55 (0,0))):=fun wx x' y' sv l hp=>by
  have hz3:=Z3'.out
  exact ⟨(hp.keep _ (by omega) (by omega) (by omega)).trans (below_block B3.out F2.out.1),(hp.keep _ (by omega) (by omega) (by omega)).trans (below_block B3.out F2.out.2)⟩
 clear GL HLL HLG F1 R1 F2
 go_loopw [23] (fun i wr=>∃ k:Nat,k≤cs.length∧i=.int .i64 k∧∃ a c,Hid (PL w w3 wr w2.heap.size (w2.heap.size+1) (x+(k:Int)*t.x) (y+(k:Int)*t.y) (.slice a k c) (stpTo cs z x y t.x t.y k))) (fun i _=>cs.length-(intOf i).toNat)
 case atStart=>exact ⟨0,Nat.zero_le _,rfl,none,0,by simpa using PL0⟩
 case round =>
  obtain ⟨k,hk,rfl,a,c,HI⟩:=hrel
  by_cases hlt:k<cs.length
  ·obtain ⟨c0,c1⟩:=HCC.out _ HI.out.below k hlt
   have zc:=lt_of_cell c0
   have hk0:(0:Int)≤(k:Int):=by omega
   have hk1:(k:Int)<(cs.length:Int):=by omega
   have HSTP:Hid (stpA cs z x y t.x t.y k=⟨(tat cs k).x,(tat cs k).y,minI (lvA cs.length z (k-1)) (lvA cs.length z k),maxI (lvA cs.length z (k-1)) (lvA cs.length z k),x+(k:Int)*t.x,y+(k:Int)*t.y⟩):=rfl;have BA:Hid (Below wr.heap.size wr (wr.alloc (.cells #[.int .i64 (tat cs k).x,.int .i64 (tat cs k).y] 77))):=(bal);have PA:Hid ((wr.alloc (.cells #[.int .i64 (tat cs k).x,.int .i64 (tat cs k).y] 77)).heap[wr.heap.size]?=some (.cells #[.int .i64 (tat cs k).x,.int .i64 (tat cs k).y] 77 (0,0))):=Lv.heap_newF wr _;have IA:=Lv.toHid (HI.out.call BA.out);have l0:=HLV.out _ _ _ _ _ IA.out k hlt
   have l1:=HLV.out _ _ _ _ _ IA.out (k-1) (by omega)
   generalize lvA cs.length z k=LB at *;generalize lvA cs.length z (k-1)=LA at *;generalize (tat cs k).x=cx at *;generalize (tat cs k).y=cy at *;clear HI;obtain ⟨j,hj⟩:∃ j,k-1=j:=⟨_,rfl⟩
   have hmx:max ((k:Int)-1) 0=(j:Int):=by omega
   have hj0:(0:Int)≤(j:Int):=by omega
   have hj1:(j:Int)<(cs.length:Int):=by omega
   rw [hj] at l1;clear hj;go_wp2;generalize (wr.alloc (.cells #[.int .i64 cx,.int .i64 cy] 77))=wq at *
   have hxk:0≤(k:Int)*t.x∧(k:Int)*t.x≤2000:=⟨Int.mul_nonneg (by omega) (by omega),by
    have h1:=Int.mul_le_mul (show (k:Int)≤40 by omega) (show t.x≤50 by omega) (by omega) (by omega)
    omega⟩
   have hyk:0≤(k:Int)*t.y∧(k:Int)*t.y≤2000:=⟨Int.mul_nonneg (by omega) (by omega),by
    have h1:=Int.mul_le_mul (show (k:Int)≤40 by omega) (show t.y≤50 by omega) (by omega) (by omega)
    omega⟩
   generalize hex:x+(k:Int)*t.x=ex at *;generalize hey:y+(k:Int)*t.y=ey at *
   have hxb:0≤ex∧ex≤1000000:=by omega
   have hyb:0≤ey∧ey≤1000000:=by omega
   have HEE:Hid (x+(k:Int)*t.x=ex∧y+(k:Int)*t.y=ey):=⟨hex,hey⟩;clear hex hey hxk hyk;refine wp_region_noPanic ?_
   refine wp_region_till (S:=fun w'=>(w'.cell? ⟨w2.heap.size+1,0,none⟩=some (.slice a k c)∧w'.cell? ⟨wr.heap.size,0,none⟩=some (.int .i64 cx)∧w'.cell? ⟨wr.heap.size,1,none⟩=some (.int .i64 cy))∧w'.cell? ⟨lg,k,none⟩=some (.int .i64 LB)∧w'.cell? ⟨w2.heap.size,0,none⟩=some (.int .i64 ex)∧w'.cell? ⟨w2.heap.size,1,none⟩=some (.int .i64 ey)) 26 (by kernel_rfl) ?_ (fun hHeld=>?_)
   ·have hp:wq.drew.heap[wr.heap.size]?=some (.cells #[.int .i64 cx,.int .i64 cy] 77 (0,0)):=PA.out
    exact ⟨⟨IA.out.drew.inP.1,by simp [World.cell?,hp],by simp [World.cell?,hp]⟩,l0,IA.out.drew.inE.1,IA.out.drew.inE.2⟩
   have ID:=Lv.toHid IA.out.drew;have PD:Hid (wq.drew.heap[wr.heap.size]?=some (.cells #[.int .i64 cx,.int .i64 cy] 77 (0,0))):=PA.out;have L0:Hid (wq.drew.cell? ⟨lg,k,none⟩=some (.int .i64 LB)):=l0;generalize wq.drew=W0 at *;clear IA PA l0 l1;refine tkT 0 ?_ rfl ?_ (tkT 1 ?_ rfl ?_ (tkT 2 ?_ rfl ?_ (tkT 3 ?_ rfl ?_ (tkT 4 ?_ rfl ?_ (tkT 5 ?_ rfl ?_ (tkT 6 ?_ rfl ?_ (tkT 7 ?_ rfl ?_ (tkT 8 ?_ rfl ?_ (tkT 9 ?_ rfl ?_ (tkT 10 ?_ rfl ?_ (tkT 11 ?_ rfl ?_ (tkT 12 ?_ rfl ?_ (tkT 13 ?_ rfl ?_ (tkT 14 ?_ rfl ?_ (tkT 15 ?_ rfl ?_ (tkT 16 ?_ rfl ?_ (tkT 17 ?_ rfl ?_ (tkT 18 ?_ rfl ?_ (tkT 19 ?_ rfl ?_ (tkT 20 ?_ rfl ?_ (tkT 21 ?_ rfl ?_ (tkT 22 ?_ rfl ?_ ?_))))))))))))))))))))))
   iterate 23 (rotate_left;focus (intro w hSw;(try dsimp only at hSw);simp only [Act.put,tkS];go_simp;try with_reducible rfl))
   simp only [Act.put,tkS]
   clear hHeld;have hz3:=Z3'.out;have hzr:=ID.out.size
   have HSS:Hid (∀ wx:World,W0.grownBy wx (Value.slice a k c).ownBlock→(wx.cell? ⟨w2.heap.size+1,0,none⟩=some (.slice a k c)∧wx.cell? ⟨wr.heap.size,0,none⟩=some (.int .i64 cx)∧wx.cell? ⟨wr.heap.size,1,none⟩=some (.int .i64 cy))∧wx.cell? ⟨lg,k,none⟩=some (.int .i64 LB)∧wx.cell? ⟨w2.heap.size,0,none⟩=some (.int .i64 ex)∧wx.cell? ⟨w2.heap.size,1,none⟩=some (.int .i64 ey)):=fun wx hg=>by
    have hge:∀ b,b<w3.heap.size→wx.heap[b]?=W0.heap[b]?:=fun b hb=>hg.block b (by omega) (fun e=>by have:=ownC_ge ID.out.s b e.symm;omega)
    have h1:=(hge _ (by omega)).trans ID.out.p
    have h2:=(hge _ (by omega)).trans ID.out.e
    have h3:=(hg.block _ (lt_of_block PD.out) (fun e=>Sd.own_type ID.out.s PD.out (by decide) e)).trans PD.out
    refine ⟨⟨by simp [World.cell?,h1],by simp [World.cell?,h3],by simp [World.cell?,h3]⟩,?_,by simp [World.cell?,h2],by simp [World.cell?,h2]⟩
    rw [World.cell?_of_block (w:=W0) (hge lg (by omega))]
    exact L0.out
   have GR0:Hid (W0.grownBy (W0.alloc (.cells #[.int .i64 cx,.int .i64 cy,.int .i64 (min LA LB),.int .i64 (max LA LB),.int .i64 ex,.int .i64 ey] 65)) (Value.slice a k c).ownBlock):=⟨rfl,rfl,rfl,by simp,fun b hb _=>((Below.refl W0.heap.size W0).alloc nlr _).block b hb⟩
   have ID1:=Lv.toHid (ID.out.call ((Below.refl W0.heap.size W0).alloc nlr (.cells #[.int .i64 cx,.int .i64 cy,.int .i64 (min LA LB),.int .i64 (max LA LB),.int .i64 ex,.int .i64 ey] 65)));have SRC:Hid ((W0.alloc (.cells #[.int .i64 cx,.int .i64 cy,.int .i64 (min LA LB),.int .i64 (max LA LB),.int .i64 ex,.int .i64 ey] 65)).heap[W0.heap.size]?=some (.cells #[.int .i64 cx,.int .i64 cy,.int .i64 (min LA LB),.int .i64 (max LA LB),.int .i64 ex,.int .i64 ey] 65 (0,0))):=Lv.heap_newF W0 _;refine rdT 23 rfl (fun K hK=>?_);go_simp;refine hK.out _ _ (.inr (HSS.out _ GR0.out)) ?_;clear hK K;generalize (W0.alloc (.cells #[.int .i64 cx,.int .i64 cy,.int .i64 (min LA LB),.int .i64 (max LA LB),.int .i64 ex,.int .i64 ey] 65))=W1 at *;refine rdT 24 rfl (fun K hK=>?_)
   have hown0:W1.ownsRow w3.heap.size 65 6 (.slice a k c) k (stpRows (stpTo cs z x y t.x t.y k)):=by
    have h:W1.ownsRow w3.heap.size 65 6 (.slice a k c) (stpTo cs z x y t.x t.y k).length (stpRows (stpTo cs z x y t.x t.y k)):=ID1.out.s;rw [stpTo_len] at h;exact h
   have hz1:=ID1.out.size
   refine step_append_any _ rfl _ _ 53 rfl w3.heap.size 65 i0 _ 6 48 Tryz.underlying53 hi0 hz0 hzs hz2 rfl (by decide) _ k _ rfl hown0 _ 1 1 [.int .i64 cx,.int .i64 cy,.int .i64 (min LA LB),.int .i64 (max LA LB),.int .i64 ex,.int .i64 ey] rfl (.inr ⟨_,rfl,World.news_of_block SRC.out⟩) rfl (fun u hu=>by simp at hu;rcases hu with rfl | rfl | rfl | rfl | rfl | rfl <;> rfl) (by unfold maxLen;omega) (by omega) (by omega) ?_
   intro va W2 hown hgrow hat;have GR2:Hid (W0.grownBy W2 (Value.slice a k c).ownBlock):=grownP_trans GR0.out hgrow;refine hK.out _ _ (.inr (HSS.out _ GR2.out)) ?_;clear hK K hat hown0
   have S2:Hid (StNew W2 w3.heap.size va (stpTo cs z x y t.x t.y (k+1))):=by
    show StNew _ _ _ _
    rw [stpTo_succ];refine StNew.snoc (stpTo_len _ _ _ _ _ _ _) ?_;rw [HSTP.out,minI_eq,maxI_eq];exact hown
   obtain ⟨pa,pc,rfl⟩:=ownC_slice hown
   have PLN:=Lv.toHid (ID1.out.add (below_step (below_step A1.out B2.out) B3.out).size (show w2.heap.size<w3.heap.size by omega) (show w2.heap.size+1<w3.heap.size by omega) (by omega) (by omega) hgrow S2.out)
   have hP2:W2.heap[w2.heap.size+1]?=some (.cells #[.slice a k c,.int .i64 0,.int .i64 0] 55 (0,0)):=(hgrow.block _ (by omega) (fun e=>by have:=ownC_ge ID1.out.s _ e.symm;omega)).trans ID1.out.p
   have lz:W2.cell? ⟨w2.heap.size+1,0,none⟩=some (.slice a k c):=by simp [World.cell?,hP2]
   have lfz:W2.frozen? ⟨w2.heap.size+1,0,none⟩=false:=by simp [World.frozen?,hP2]
   have hHeld:=HSS.out _ GR2.out;refine tkT 25 ?_ rfl ?_ ?_;rotate_left
   ·intro w hSw;(try dsimp only at hSw);go_simp;try with_reducible rfl
   simp only [Act.put,tkS]
   clear hHeld HSS hP2 hown hgrow;refine rdT 26 rfl (fun K hK=>?_);go_simp;refine hK.out _ _ (.inl rfl) ?_;clear hK K
   refine wpTill_done (by kernel_rfl) ?_ _
   refine NoPanic.normal ?_;generalize W2.setCell ⟨w2.heap.size+1,0,none⟩ (.slice pa (k+1) pc)=W3 at *;clear lz lfz GR0 GR2 ID ID1 SRC S2 PD L0;obtain ⟨e0,e1⟩:=PLN.out.inE;obtain ⟨hF,-⟩:=HFV.out _ _ _ _ _ PLN.out
   have g1:W3.cell? ⟨w.heap.size,1,none⟩=some (.string t.s):=by simp [World.cell?,hF]
   have g2:W3.cell? ⟨w.heap.size,2,none⟩=some (.int .i64 t.x):=by simp [World.cell?,hF]
   have g3:W3.cell? ⟨w.heap.size,3,none⟩=some (.int .i64 t.y):=by simp [World.cell?,hF]
   clear hF
   have HEX:Hid (x+((k+1:Nat):Int)*t.x=ex+t.x∧y+((k+1:Nat):Int)*t.y=ey+t.y):=by
    refine ⟨?_,?_⟩
    ·rw [← HEE.out.1];push_cast;rw [Int.add_mul];omega
    ·rw [← HEE.out.2];push_cast;rw [Int.add_mul];omega
   go_wp2_with fail
   refine (onward_any ex ey t _ hxb hyb (by omega) (by omega)).mono ?_
   rintro e w5 ⟨rfl,hb5⟩;have PL5:=Lv.toHid (PLN.out.call hb5);clear PLN hb5 e0 e1 g1 g2 g3;have hE5:=PL5.out.e
   have PL6:=Lv.toHid (PL5.out.win (show w.heap.size≤w2.heap.size by omega) (by omega) (by omega) (ex+t.x) (ey+t.y))
   go_wp2_with (refine wpList_store_row rfl 157 _ _ rfl w2.heap.size #[.int .i64 (ex+t.x),.int .i64 (ey+t.y)] rfl rfl 157 _ hE5 (by kernel_rfl) rfl (by simp [Value.oneCell']) ?_)
   exact ⟨⟨k+1,by omega,by go_num,pa,pc,by rw [HEX.out.1,HEX.out.2];exact PL6⟩,by simp [intOf];omega⟩
  ·have HF:Hid (k=cs.length):=by show k=cs.length;omega
   obtain ⟨e0,e1⟩:=HI.out.inE;obtain ⟨-,hR0⟩:=HFV.out _ _ _ _ _ HI.out;have HR0:=Lv.toHid hR0;have hz3:=Z3'.out;clear hR0;go_wp2;refine wp_region_noPanic ?_;generalize hex:x+(k:Int)*t.x=ex at *;generalize hey:y+(k:Int)*t.y=ey at *;have HEE:Hid (x+(k:Int)*t.x=ex∧y+(k:Int)*t.y=ey):=⟨hex,hey⟩;clear hex hey
   refine wp_region_held_drew (S:=fun w'=>w'.cell? ⟨w2.heap.size,0,none⟩=some (.int .i64 ex)∧w'.cell? ⟨w2.heap.size,1,none⟩=some (.int .i64 ey)) (by kernel_rfl) ?_ (fun hHeld=>?_)
   ·exact ⟨HI.out.drew.inE.1,HI.out.drew.inE.2⟩
   have ID:=Lv.toHid HI.out.drew;have HRD:Hid (wr.drew.heap[w.heap.size+1]?=some (.cells #[.slice none 0 0,.int .i64 0,.int .i64 0] 55 (0,0))):=HR0.out;generalize wr.drew=W0 at *;clear HI HR0 e0 e1;refine tkH 0 ?_ rfl ?_ (tkH 1 ?_ rfl ?_ (tkH 2 ?_ rfl ?_ (tkH 3 ?_ rfl ?_ (tkH 4 ?_ rfl ?_ ?_))))
   iterate 5 (rotate_left;focus (intro w hSw;(try dsimp only at hSw);simp only [Act.put,tkS];go_simp;try with_reducible rfl))
   simp only [Act.put,tkS]
   clear hHeld;have hP0:=ID.out.p
   have lz:W0.cell? ⟨w2.heap.size+1,1,none⟩=some (.int .i64 0):=by simp [World.cell?,hP0]
   have lfz:W0.frozen? ⟨w2.heap.size+1,1,none⟩=false:=by simp [World.frozen?,hP0]
   have hP1:(W0.setCell ⟨w2.heap.size+1,1,none⟩ (.int .i64 ex)).heap[w2.heap.size+1]?=some (.cells #[.slice a k c,.int .i64 ex,.int .i64 0] 55 (0,0)):=row_setCell hP0;have ho1:∀ b,b≠w2.heap.size+1→(W0.setCell ⟨w2.heap.size+1,1,none⟩ (.int .i64 ex)).heap[b]?=W0.heap[b]?:=fun b hb=>Below.heap_setCell W0 ⟨w2.heap.size+1,1,none⟩ (.int .i64 ex) b hb
   have S1:Hid ((W0.setCell ⟨w2.heap.size+1,1,none⟩ (.int .i64 ex)).cell? ⟨w2.heap.size,0,none⟩=some (.int .i64 ex)∧(W0.setCell ⟨w2.heap.size+1,1,none⟩ (.int .i64 ex)).cell? ⟨w2.heap.size,1,none⟩=some (.int .i64 ey)):=by
    have h:=(ho1 w2.heap.size (by omega)).trans ID.out.e
    exact ⟨by simp [World.cell?,h],by simp [World.cell?,h]⟩
   have R1:Hid ((W0.setCell ⟨w2.heap.size+1,1,none⟩ (.int .i64 ex)).heap[w.heap.size+1]?=some (.cells #[.slice none 0 0,.int .i64 0,.int .i64 0] 55 (0,0))):=(ho1 _ (by omega)).trans HRD.out
   have B1:Hid (Below w.heap.size w (W0.setCell ⟨w2.heap.size+1,1,none⟩ (.int .i64 ex))):=ID.out.below.setCell (p:=⟨w2.heap.size+1,1,none⟩) (by show w.heap.size≤w2.heap.size+1;omega) _
   have SN1:Hid (StNew (W0.setCell ⟨w2.heap.size+1,1,none⟩ (.int .i64 ex)) w3.heap.size (.slice a k c) (stpTo cs z x y t.x t.y k)):=ownC_far ID.out.s (grown_setI W0 _ 1 _) (fun q hq e=>by have:=ownC_ge ID.out.s q hq;injection e with e;omega)
   have HP1:=Lv.toHid hP1;clear ho1 hP0 hP1;refine rdH 5 rfl (fun K hK=>?_);go_simp;refine hK.out _ _ S1.out (fun _=>?_);clear hK K lz lfz ID HRD;generalize (W0.setCell ⟨w2.heap.size+1,1,none⟩ (.int .i64 ex))=W1 at *;have hHeld:=S1.out;refine tkH 6 ?_ rfl ?_ ?_;rotate_left
   ·intro w hSw;(try dsimp only at hSw);go_simp;try with_reducible rfl
   simp only [Act.put,tkS]
   clear hHeld;have hP1:=HP1.out
   have lz:W1.cell? ⟨w2.heap.size+1,2,none⟩=some (.int .i64 0):=by simp [World.cell?,hP1]
   have lfz:W1.frozen? ⟨w2.heap.size+1,2,none⟩=false:=by simp [World.frozen?,hP1]
   have hP2:(W1.setCell ⟨w2.heap.size+1,2,none⟩ (.int .i64 ey)).heap[w2.heap.size+1]?=some (.cells #[.slice a k c,.int .i64 ex,.int .i64 ey] 55 (0,0)):=row_setCell hP1;have ho2:∀ b,b≠w2.heap.size+1→(W1.setCell ⟨w2.heap.size+1,2,none⟩ (.int .i64 ey)).heap[b]?=W1.heap[b]?:=fun b hb=>Below.heap_setCell W1 ⟨w2.heap.size+1,2,none⟩ (.int .i64 ey) b hb
   have S2:Hid ((W1.setCell ⟨w2.heap.size+1,2,none⟩ (.int .i64 ey)).cell? ⟨w2.heap.size,0,none⟩=some (.int .i64 ex)∧(W1.setCell ⟨w2.heap.size+1,2,none⟩ (.int .i64 ey)).cell? ⟨w2.heap.size,1,none⟩=some (.int .i64 ey)):=by
    have h:=ho2 w2.heap.size (by omega)
    refine ⟨?_,?_⟩
    ·rw [World.cell?_of_block (w:=W1) h];exact S1.out.1
    ·rw [World.cell?_of_block (w:=W1) h];exact S1.out.2
   have R2:Hid ((W1.setCell ⟨w2.heap.size+1,2,none⟩ (.int .i64 ey)).heap[w.heap.size+1]?=some (.cells #[.slice none 0 0,.int .i64 0,.int .i64 0] 55 (0,0))):=(ho2 _ (by omega)).trans R1.out
   have B2':Hid (Below w.heap.size w (W1.setCell ⟨w2.heap.size+1,2,none⟩ (.int .i64 ey))):=B1.out.setCell (p:=⟨w2.heap.size+1,2,none⟩) (by show w.heap.size≤w2.heap.size+1;omega) _
   have SN2:Hid (StNew (W1.setCell ⟨w2.heap.size+1,2,none⟩ (.int .i64 ey)) w3.heap.size (.slice a k c) (stpTo cs z x y t.x t.y k)):=ownC_far SN1.out (grown_setI W1 _ 2 _) (fun q hq e=>by have:=ownC_ge SN1.out q hq;injection e with e;omega)
   have HP2:=Lv.toHid hP2;clear ho2 hP1 hP2 SN1 R1 B1;refine rdH 7 rfl (fun K hK=>?_);go_simp;refine hK.out _ _ S2.out (fun _=>?_);clear hK K lz lfz S1;generalize (W1.setCell ⟨w2.heap.size+1,2,none⟩ (.int .i64 ey))=W2 at *
   refine wpAnyH_done (by kernel_rfl) ?_ _
   refine NoPanic.normal ?_;have hP2:=HP2.out
   have p0:W2.cell? ⟨w2.heap.size+1,0,none⟩=some (.slice a k c):=by simp [World.cell?,hP2]
   have p1:W2.cell? ⟨w2.heap.size+1,1,none⟩=some (.int .i64 ex):=by simp [World.cell?,hP2]
   have p2:W2.cell? ⟨w2.heap.size+1,2,none⟩=some (.int .i64 ey):=by simp [World.cell?,hP2]
   have hR:=R2.out;clear hP2
   go_wp2_with (refine wpList_store_row rfl 55 _ _ rfl (w.heap.size+1) #[.slice a k c,.int .i64 ex,.int .i64 ey] rfl rfl 55 _ hR (by kernel_rfl) rfl (by simp [Value.oneCell']) ?_)
   exact bodyPost_ret (v:=.agg #[.slice a k c,.int .i64 ex,.int .i64 ey]) (by simp [results,Tryz.results50,go_sem,cell_setRow_same _ _ _ _ _ _ _ hR]) rfl ⟨.slice a k c,by rw [← HEE.out.1,← HEE.out.2,HF.out],by rw [← HF.out];exact ownC_mono (ownC_far SN2.out (grown_rowS _ _ _) (fun q hq e=>by have:=ownC_ge SN2.out q hq;injection e with e;omega)) (by omega),below_setRow B2'.out (by omega) _⟩
end Go.Proofs.YtbjmgglpiakgdaaGreatDoor.Pa
