import Derived.Test.YtcmgddnckohdaaaGreatDoorBxr
import Derived.Test.YtcmgddnckohdaaaGreatDoorCp3
import Derived.Lib.Overlaps
set_option maxRecDepth 100000
set_option maxHeartbeats 6400000
set_option linter.unusedSimpArgs false
set_option linter.unusedVariables false
namespace Go.Proofs.YtcmgddnckohdaaaGreatDoor
open Go.RowKit
theorem bN (a b:List dx):aS (a++b)=aS a++aS b:=by simp [aS]
theorem kG (l:List dx) (i:Nat) (hi:i≤l.length):(aS l).take (i*3)=aS (l.take i):=by
 have e:aS l=aS (l.take i)++aS (l.drop i):=by rw [← bN,List.take_append_drop]
 rw [e,List.take_append_of_le_length (by rw [aE,List.length_take];omega),List.take_of_length_le (by rw [aE,List.length_take];omega)]
theorem cM (l:List dx) (i:Nat) (hi:i≤l.length):(aS l).drop (i*3)=aS (l.drop i):=by
 have e:aS l=aS (l.take i)++aS (l.drop i):=by rw [← bN,List.take_append_drop]
 rw [e,List.drop_append_of_le_length (by rw [aE,List.length_take];omega),List.drop_of_length_le (by rw [aE,List.length_take];omega),List.nil_append]
theorem wU {C X tc:List Value} {i n:Nat} (hX:X.length=(n-i)*3) (ht:tc.length=3) (hi:i≤n) (hC:(n+1)*3≤C.length) :
  (splice (splice C ((i+1)*3) X) (i*3) tc).take ((n+1)*3)=C.take (i*3)++(tc++X)∧(splice (splice C ((i+1)*3) X) (i*3) tc).length=C.length:=by
 have e1:(splice C ((i+1)*3) X).take (i*3)=C.take (i*3):=by
  unfold splice
  rw [List.take_append_of_le_length (by rw [List.length_take];omega),List.take_take]
  congr 1
  omega
 have e2:(splice C ((i+1)*3) X).drop (i*3+tc.length)=X++C.drop ((i+1)*3+X.length):=by
  unfold splice
  rw [ht,show i*3+3=(i+1)*3 by omega,List.drop_append_of_le_length (by rw [List.length_take];omega),List.drop_of_length_le (by rw [List.length_take];omega),List.nil_append]
 have e3:splice (splice C ((i+1)*3) X) (i*3) tc=(C.take (i*3)++(tc++X))++C.drop ((i+1)*3+X.length):=by
  conv=>lhs;unfold splice
  have e1':=e1;have e2':=e2;unfold splice at e1' e2';rw [e1',e2']
  simp
 have hlen:(C.take (i*3)++(tc++X)).length=(n+1)*3:=by
  rw [List.length_append,List.length_append,List.length_take,ht,hX]
  omega
 constructor
 ·rw [e3,← hlen,List.take_left]
 ·rw [e3,List.length_append,hlen,List.length_drop,hX]
  omega
theorem KV (w:World):(Go.sizeOf 69).run Tryz.prog w=.ok 3 w:=by kernel_rfl
theorem vS (B g cap vb i:Nat) (l:List dx) (t:dx) (cur:Array Value) (w:World) (hi:i<l.length) (hr:l.length+1≤cap) (hcm:cap≤maxLen) (hl:l.length≤1000) (hBg:B≤g)
  (hg:w.heap[g]?=some (.cells cur 69 (0,0))) (hcs:cur.size=cap*3) (htk:cur.toList.take (l.length*3)=aS l)
  (hv:w.heap[vb]?=some (.cells #[.string t.s,.int .i64 t.x,.int .i64 t.y] 69 (0,0))) (hvg:vb≠g) :
  Calls Tryz.prog 181 #[.slice (some ⟨g,0,none⟩) l.length cap,.int .i64 i,.slice (some ⟨vb,0,none⟩) 1 1] w fun e w'=>∃ u,e=.returned u∧w'.ownsRow B 69 3 u (l.length+1) (aS (fD l i t))∧Below B w w':=by
 have hov:∀ lb cb,(callFunc 210 #[.slice (some ⟨vb,0,none⟩) 1 1,.slice (some ⟨g,(i+1)*3,none⟩) lb cb]).run Tryz.prog w=.ok (.value (.bool false)) w:=fun lb cb=>by
  rw [run_callFunc_extern Tryz.func210 (by kernel_rfl) (by kernel_rfl) (by kernel_rfl) (e:=Extern.SlicesOverlaps.overlaps #[24,24] #[4]) (by kernel_rfl),
   Lib.run_overlaps_apart w 24 4 69 Tryz.underlying24 3 KV ⟨vb,0,none⟩ ⟨g,(i+1)*3,none⟩ 1 1 lb cb hvg 69 69 3 (cap*3) (by simp [World.shape?,hv]) (by simp [World.shape?,hg,hcs]) (by omega) (by simp [World.frozen?,hv]) (by simp [World.frozen?,hv])]
  rfl
 unfold maxLen at hcm
 have hi0:(0:Int)≤(i:Int):=by omega
 have hi1:(i:Int)≤(l.length:Int):=by omega
 have hne:((i:Int)==(l.length:Int))=false:=by rw [beq_eq_false_iff_ne];omega
 have hw1:IntKind.i64.wrap ((l.length:Int)+1)=(l.length:Int)+1:=by rw [IntKind.wrap_i64];omega
 have hd:decide ((cap:Int)<(l.length:Int)+1)=false:=by simp;omega
 go_enter Tryz.func181,Tryz.ntmps181
 go_wp2_with fail
 have hX:(aS (l.drop i)).length=(l.length-i)*3:=by rw [aE,List.length_drop]
 have JO:cur.toList.length=cap*3:=by rw [Array.length_toList];exact hcs
 have hdr:∀ j v,(aS (l.drop i))[j]?=some v→cur.toList[i*3+j]?=some v:=fun j v hj=>by
  rw [← cM l i (by omega),List.getElem?_drop,← htk,List.getElem?_take] at hj
  split at hj
  ·exact hj
  ·cases hj
 have hw3:IntKind.i64.wrap ((i:Int)+1)=(i:Int)+1:=by rw [IntKind.wrap_i64];omega
 have hi2:(0:Int)≤(i:Int)+1∧(i:Int)+1≤(l.length:Int)+1:=by omega
 have hi3:(i:Int)≤(l.length:Int)+1:=by omega
 have htn:((i:Int)+1).toNat=i+1:=by omega
 have hc1:¬ cap=i+1:=by omega
 have hc0:¬ cap=i:=by omega
 refine wp_region_noPanic ?_
 refine wp_region_held_drew (S:=fun _=>True) (by kernel_rfl) trivial (fun hHeld=>?_)
 have hg0:w.drew.heap[g]?=some (.cells cur.toList.toArray 69 (0,0)):=by rw [Array.toArray_toList];exact hg
 have hv0:w.drew.heap[vb]?=some (.cells #[.string t.s,.int .i64 t.x,.int .i64 t.y] 69 (0,0)):=hv;have B0:Hid (Below B w w.drew):=(Below.refl _ _).drew;generalize w.drew=W0 at *;refine aO 0 ?_ rfl ?_ (aO 1 ?_ rfl ?_ (aO 2 ?_ rfl ?_ (aO 3 ?_ rfl ?_ (aO 4 ?_ rfl ?_ (aO 5 ?_ rfl ?_ (aO 6 ?_ rfl ?_ (aO 7 ?_ rfl ?_ ?_)))))))
 iterate 8 (rotate_left;focus (intro w hSw;(try dsimp only at hSw);simp only [Act.put,aU];go_simp;try with_reducible rfl))
 simp only [Act.put,aU]
 clear hHeld;refine bE 8 rfl (fun K hK=>?_)
 have hmn:(aS (l.drop i)).length=Nat.min (l.length+1-i) (l.length-i)*3:=by
  rw [hX]
  congr 1
  exact (Nat.min_eq_right (by omega)).symm
 refine mX rfl _ _ 24 24 rfl 69 3 Tryz.underlying24 (by kernel_rfl) g ((i+1)*3) _ _ ⟨g,i*3,none⟩ _ _ rfl rfl cur.toList 69 hg0 (aS (l.drop i)) hmn (fun j v hj=>?_) (by rw [hX,JO];omega) bB ?_
 ·have h1:=hdr j v hj
  rw [bm]
  simp only [World.cell?]
  rw [hg0]
  simpa using h1
 refine hK.out _ _ trivial (fun _=>?_);clear hK K;have g1:=setRow_heap W0 g _ (splice cur.toList ((i+1)*3) (aS (l.drop i))).toArray _ _ hg0;have v1:(W0.setRow g (splice cur.toList ((i+1)*3) (aS (l.drop i))).toArray).heap[vb]?=some (.cells #[.string t.s,.int .i64 t.x,.int .i64 t.y] 69 (0,0)):=(setRow_other _ _ _ _ hvg).trans hv0;have B1:Hid (Below B w (W0.setRow g (splice cur.toList ((i+1)*3) (aS (l.drop i))).toArray)):=below_setRow B0.out hBg _
 have hS1:(splice cur.toList ((i+1)*3) (aS (l.drop i))).length=cap*3:=by rw [length_splice _ _ _ (by rw [hX,JO];omega),JO]
 have qZ:=wU (C:=cur.toList) (X:=aS (l.drop i)) (tc:=[.string t.s,.int .i64 t.x,.int .i64 t.y]) (i:=i) (n:=l.length) hX rfl (by omega) (by rw [JO];omega)
 have hpre:cur.toList.take (i*3)=aS (l.take i):=by
  rw [← kG l i (by omega),← htk,List.take_take]
  congr 1
  omega
 have iM:Hid ((splice (splice cur.toList ((i+1)*3) (aS (l.drop i))) (i*3) [.string t.s,.int .i64 t.x,.int .i64 t.y]).take ((l.length+1)*3)=aS (fD l i t)∧(splice (splice cur.toList ((i+1)*3) (aS (l.drop i))) (i*3) [.string t.s,.int .i64 t.x,.int .i64 t.y]).length=cap*3):=by
  refine ⟨?_,qZ.2.trans JO⟩;rw [qZ.1,hpre];unfold fD;rw [bN]
  rfl
 clear qZ hpre hX hdr hmn hg0 hv0 htk hov hw1 hd hne;generalize (splice cur.toList ((i+1)*3) (aS (l.drop i)))=S1 at *;generalize (W0.setRow g S1.toArray)=W1 at *
 refine wpAnyH_done (by kernel_rfl) ?_ _
 refine NoPanic.normal ?_
 have hm1:([.string t.s,.int .i64 t.x,.int .i64 t.y]:List Value).length=Nat.min 1 (l.length+1-i)*3:=by
  have h1:Nat.min 1 (l.length+1-i)=1:=Nat.min_eq_left (by omega)
  rw [h1]
  rfl
 have hmin:Nat.min 1 (l.length+1-i)=1:=Nat.min_eq_left (by omega)
 have hcp:(Builtin.copy_ #[24,24] 3 #[.slice (some ⟨g,i*3,none⟩) (l.length+1-i) (cap-i),.slice (some ⟨vb,0,none⟩) 1 1]).run Tryz.prog W1=.ok (goInt 1) (W1.setRow g (splice S1 (i*3) [.string t.s,.int .i64 t.x,.int .i64 t.y]).toArray):=by
  have h:=mq (P:=Tryz.prog) W1 24 24 3 69 3 g (i*3) (l.length+1-i) (cap-i) ⟨vb,0,none⟩ 1 1 S1.toArray 69 [.string t.s,.int .i64 t.x,.int .i64 t.y] Tryz.underlying24 (by kernel_rfl) g1 hm1 (fun j v hj=>by rw [bm,Nat.zero_add];simp only [World.cell?];rw [v1];simpa using hj) (by rw [List.size_toArray,hS1];simp;omega) (fun v hv=>by simp only [List.mem_cons,List.not_mem_nil,or_false] at hv;rcases hv with rfl | rfl | rfl <;> rfl)
  rw [hmin] at h;rw [h]
  simp [splice]
 clear hm1 hmin;go_wp2_with fail;have g2:=setRow_heap W1 g _ (splice S1 (i*3) [.string t.s,.int .i64 t.x,.int .i64 t.y]).toArray _ _ g1;have B2:Hid (Below B w (W1.setRow g (splice S1 (i*3) [.string t.s,.int .i64 t.x,.int .i64 t.y]).toArray)):=below_setRow B1.out hBg _
 have OW:Hid ((W1.setRow g (splice S1 (i*3) [.string t.s,.int .i64 t.x,.int .i64 t.y]).toArray).ownsRow B 69 3 (.slice (some ⟨g,0,none⟩) (l.length+1) cap) (l.length+1) (aS (fD l i t))):=by
  refine ⟨?_,.inr ⟨g,cap,_,rfl,hBg,g2,hr,by unfold maxLen;omega,?_,?_⟩⟩
  ·rw [aE]
   unfold fD
   simp
   omega
  ·rw [List.size_toArray]
   exact iM.out.2
  ·rw [List.toList_toArray]
   exact iM.out.1
 go_ret;exact ⟨_,rfl,OW.out,B2.out⟩
theorem I8 (w:World):(Go.sizeOf 72).run Tryz.prog w=.ok 3 w:=by kernel_rfl
theorem uJ (B g cap vb i:Nat) (l:List dx) (t:dx) (cur:Array Value) (w:World) (hi:i<l.length) (hr:l.length+1≤cap) (hcm:cap≤maxLen) (hl:l.length≤1000) (hBg:B≤g)
  (hg:w.heap[g]?=some (.cells cur 72 (0,0))) (hcs:cur.size=cap*3) (htk:cur.toList.take (l.length*3)=aS l)
  (hv:w.heap[vb]?=some (.cells #[.string t.s,.int .i64 t.x,.int .i64 t.y] 72 (0,0))) (hvg:vb≠g) :
  Calls Tryz.prog 184 #[.slice (some ⟨g,0,none⟩) l.length cap,.int .i64 i,.slice (some ⟨vb,0,none⟩) 1 1] w fun e w'=>∃ u,e=.returned u∧w'.ownsRow B 72 3 u (l.length+1) (aS (fD l i t))∧Below B w w':=by
 have hov:∀ lb cb,(callFunc 212 #[.slice (some ⟨vb,0,none⟩) 1 1,.slice (some ⟨g,(i+1)*3,none⟩) lb cb]).run Tryz.prog w=.ok (.value (.bool false)) w:=fun lb cb=>by
  rw [run_callFunc_extern Tryz.func212 (by kernel_rfl) (by kernel_rfl) (by kernel_rfl) (e:=Extern.SlicesOverlaps.overlaps #[25,25] #[4]) (by kernel_rfl),
   Lib.run_overlaps_apart w 25 4 72 Tryz.underlying25 3 I8 ⟨vb,0,none⟩ ⟨g,(i+1)*3,none⟩ 1 1 lb cb hvg 72 72 3 (cap*3) (by simp [World.shape?,hv]) (by simp [World.shape?,hg,hcs]) (by omega) (by simp [World.frozen?,hv]) (by simp [World.frozen?,hv])]
  rfl
 unfold maxLen at hcm
 have hi0:(0:Int)≤(i:Int):=by omega
 have hi1:(i:Int)≤(l.length:Int):=by omega
 have hne:((i:Int)==(l.length:Int))=false:=by rw [beq_eq_false_iff_ne];omega
 have hw1:IntKind.i64.wrap ((l.length:Int)+1)=(l.length:Int)+1:=by rw [IntKind.wrap_i64];omega
 have hd:decide ((cap:Int)<(l.length:Int)+1)=false:=by simp;omega
 go_enter Tryz.func184,Tryz.ntmps184
 go_wp2_with fail
 have hX:(aS (l.drop i)).length=(l.length-i)*3:=by rw [aE,List.length_drop]
 have JO:cur.toList.length=cap*3:=by rw [Array.length_toList];exact hcs
 have hdr:∀ j v,(aS (l.drop i))[j]?=some v→cur.toList[i*3+j]?=some v:=fun j v hj=>by
  rw [← cM l i (by omega),List.getElem?_drop,← htk,List.getElem?_take] at hj
  split at hj
  ·exact hj
  ·cases hj
 have hw3:IntKind.i64.wrap ((i:Int)+1)=(i:Int)+1:=by rw [IntKind.wrap_i64];omega
 have hi2:(0:Int)≤(i:Int)+1∧(i:Int)+1≤(l.length:Int)+1:=by omega
 have hi3:(i:Int)≤(l.length:Int)+1:=by omega
 have htn:((i:Int)+1).toNat=i+1:=by omega
 have hc1:¬ cap=i+1:=by omega
 have hc0:¬ cap=i:=by omega
 refine wp_region_noPanic ?_
 refine wp_region_held_drew (S:=fun _=>True) (by kernel_rfl) trivial (fun hHeld=>?_)
 have hg0:w.drew.heap[g]?=some (.cells cur.toList.toArray 72 (0,0)):=by rw [Array.toArray_toList];exact hg
 have hv0:w.drew.heap[vb]?=some (.cells #[.string t.s,.int .i64 t.x,.int .i64 t.y] 72 (0,0)):=hv;have B0:Hid (Below B w w.drew):=(Below.refl _ _).drew;generalize w.drew=W0 at *;refine aO 0 ?_ rfl ?_ (aO 1 ?_ rfl ?_ (aO 2 ?_ rfl ?_ (aO 3 ?_ rfl ?_ (aO 4 ?_ rfl ?_ (aO 5 ?_ rfl ?_ (aO 6 ?_ rfl ?_ (aO 7 ?_ rfl ?_ ?_)))))))
 iterate 8 (rotate_left;focus (intro w hSw;(try dsimp only at hSw);simp only [Act.put,aU];go_simp;try with_reducible rfl))
 simp only [Act.put,aU]
 clear hHeld;refine bE 8 rfl (fun K hK=>?_)
 have hmn:(aS (l.drop i)).length=Nat.min (l.length+1-i) (l.length-i)*3:=by
  rw [hX]
  congr 1
  exact (Nat.min_eq_right (by omega)).symm
 refine mX rfl _ _ 25 25 rfl 72 3 Tryz.underlying25 (by kernel_rfl) g ((i+1)*3) _ _ ⟨g,i*3,none⟩ _ _ rfl rfl cur.toList 72 hg0 (aS (l.drop i)) hmn (fun j v hj=>?_) (by rw [hX,JO];omega) bB ?_
 ·have h1:=hdr j v hj
  rw [bm]
  simp only [World.cell?]
  rw [hg0]
  simpa using h1
 refine hK.out _ _ trivial (fun _=>?_);clear hK K;have g1:=setRow_heap W0 g _ (splice cur.toList ((i+1)*3) (aS (l.drop i))).toArray _ _ hg0;have v1:(W0.setRow g (splice cur.toList ((i+1)*3) (aS (l.drop i))).toArray).heap[vb]?=some (.cells #[.string t.s,.int .i64 t.x,.int .i64 t.y] 72 (0,0)):=(setRow_other _ _ _ _ hvg).trans hv0;have B1:Hid (Below B w (W0.setRow g (splice cur.toList ((i+1)*3) (aS (l.drop i))).toArray)):=below_setRow B0.out hBg _
 have hS1:(splice cur.toList ((i+1)*3) (aS (l.drop i))).length=cap*3:=by rw [length_splice _ _ _ (by rw [hX,JO];omega),JO]
 have qZ:=wU (C:=cur.toList) (X:=aS (l.drop i)) (tc:=[.string t.s,.int .i64 t.x,.int .i64 t.y]) (i:=i) (n:=l.length) hX rfl (by omega) (by rw [JO];omega)
 have hpre:cur.toList.take (i*3)=aS (l.take i):=by
  rw [← kG l i (by omega),← htk,List.take_take]
  congr 1
  omega
 have iM:Hid ((splice (splice cur.toList ((i+1)*3) (aS (l.drop i))) (i*3) [.string t.s,.int .i64 t.x,.int .i64 t.y]).take ((l.length+1)*3)=aS (fD l i t)∧(splice (splice cur.toList ((i+1)*3) (aS (l.drop i))) (i*3) [.string t.s,.int .i64 t.x,.int .i64 t.y]).length=cap*3):=by
  refine ⟨?_,qZ.2.trans JO⟩;rw [qZ.1,hpre];unfold fD;rw [bN]
  rfl
 clear qZ hpre hX hdr hmn hg0 hv0 htk hov hw1 hd hne;generalize (splice cur.toList ((i+1)*3) (aS (l.drop i)))=S1 at *;generalize (W0.setRow g S1.toArray)=W1 at *
 refine wpAnyH_done (by kernel_rfl) ?_ _
 refine NoPanic.normal ?_
 have hm1:([.string t.s,.int .i64 t.x,.int .i64 t.y]:List Value).length=Nat.min 1 (l.length+1-i)*3:=by
  have h1:Nat.min 1 (l.length+1-i)=1:=Nat.min_eq_left (by omega)
  rw [h1]
  rfl
 have hmin:Nat.min 1 (l.length+1-i)=1:=Nat.min_eq_left (by omega)
 have hcp:(Builtin.copy_ #[25,25] 3 #[.slice (some ⟨g,i*3,none⟩) (l.length+1-i) (cap-i),.slice (some ⟨vb,0,none⟩) 1 1]).run Tryz.prog W1=.ok (goInt 1) (W1.setRow g (splice S1 (i*3) [.string t.s,.int .i64 t.x,.int .i64 t.y]).toArray):=by
  have h:=mq (P:=Tryz.prog) W1 25 25 3 72 3 g (i*3) (l.length+1-i) (cap-i) ⟨vb,0,none⟩ 1 1 S1.toArray 72 [.string t.s,.int .i64 t.x,.int .i64 t.y] Tryz.underlying25 (by kernel_rfl) g1 hm1 (fun j v hj=>by rw [bm,Nat.zero_add];simp only [World.cell?];rw [v1];simpa using hj) (by rw [List.size_toArray,hS1];simp;omega) (fun v hv=>by simp only [List.mem_cons,List.not_mem_nil,or_false] at hv;rcases hv with rfl | rfl | rfl <;> rfl)
  rw [hmin] at h;rw [h]
  simp [splice]
 clear hm1 hmin;go_wp2_with fail;have g2:=setRow_heap W1 g _ (splice S1 (i*3) [.string t.s,.int .i64 t.x,.int .i64 t.y]).toArray _ _ g1;have B2:Hid (Below B w (W1.setRow g (splice S1 (i*3) [.string t.s,.int .i64 t.x,.int .i64 t.y]).toArray)):=below_setRow B1.out hBg _
 have OW:Hid ((W1.setRow g (splice S1 (i*3) [.string t.s,.int .i64 t.x,.int .i64 t.y]).toArray).ownsRow B 72 3 (.slice (some ⟨g,0,none⟩) (l.length+1) cap) (l.length+1) (aS (fD l i t))):=by
  refine ⟨?_,.inr ⟨g,cap,_,rfl,hBg,g2,hr,by unfold maxLen;omega,?_,?_⟩⟩
  ·rw [aE]
   unfold fD
   simp
   omega
  ·rw [List.size_toArray]
   exact iM.out.2
  ·rw [List.toList_toArray]
   exact iM.out.1
 go_ret;exact ⟨_,rfl,OW.out,B2.out⟩
open Go.RowKit
theorem oJ (B vb:Nat) (a:Option Addr) (cap:Nat) (l:List dx) (t:dx) (w:World) (hl:l.length≤1000) (hBw:B≤w.heap.size) (hcm:cap≤maxLen)
  (hown:w.ownsRow B 69 3 (.slice a l.length cap) l.length (aS l))
  (hv:w.heap[vb]?=some (.cells #[.string t.s,.int .i64 t.x,.int .i64 t.y] 69 (0,0))) :
  Calls Tryz.prog 181 #[.slice a l.length cap,.int .i64 (l.length:Nat),.slice (some ⟨vb,0,none⟩) 1 1] w fun e w'=>∃ u,e=.returned u∧w'.ownsRow B 69 3 u (l.length+1) (aS (fD l l.length t))∧Below B w w':=by
 obtain ⟨i0,hi,hz0,hz1,hz2⟩:=info_parts kS;have HO:=aq hown
 have HE:Hid (aS (fD l l.length t)=aS l++[.string t.s,.int .i64 t.x,.int .i64 t.y]):=by
  show _=_
  unfold fD;rw [List.take_length,List.drop_length,bN]
  rfl
 unfold maxLen at hcm
 have hi0:(0:Int)≤(l.length:Int):=by omega
 go_enter Tryz.func181,Tryz.ntmps181
 go_wp2_with (at_builtin;refine aZ _ rfl _ _ 24 rfl B 69 i0 _ 3 32 Tryz.underlying24 hi hz0 hz1 hz2 rfl (by decide) _ l.length _ rfl hown _ 1 1 [.string t.s,.int .i64 t.x,.int .i64 t.y] rfl (.inr ⟨_,rfl,World.news_of_block hv⟩) rfl (fun u hu=>by simp only [List.mem_cons,List.not_mem_nil,or_false] at hu;rcases hu with rfl | rfl | rfl <;> rfl) (by unfold maxLen;omega) (by omega) hBw ?_;intro vq wx hown2 hgrow hat)
 all_goals
  have HB2:Hid (Below B w wx):=(Below.refl B w).grown hgrow hBw (fun q e=>aw HO.out q e);have y8:=aq hown2;clear hown2 hgrow hat;go_ret
  exact ⟨_,rfl,by rw [HE.out];exact y8.out,HB2.out⟩
theorem nR (B vb:Nat) (a:Option Addr) (cap:Nat) (l:List dx) (t:dx) (w:World) (hl:l.length≤1000) (hBw:B≤w.heap.size) (hcm:cap≤maxLen)
  (hown:w.ownsRow B 72 3 (.slice a l.length cap) l.length (aS l))
  (hv:w.heap[vb]?=some (.cells #[.string t.s,.int .i64 t.x,.int .i64 t.y] 72 (0,0))) :
  Calls Tryz.prog 184 #[.slice a l.length cap,.int .i64 (l.length:Nat),.slice (some ⟨vb,0,none⟩) 1 1] w fun e w'=>∃ u,e=.returned u∧w'.ownsRow B 72 3 u (l.length+1) (aS (fD l l.length t))∧Below B w w':=by
 obtain ⟨i0,hi,hz0,hz1,hz2⟩:=info_parts jS;have HO:=aq hown
 have HE:Hid (aS (fD l l.length t)=aS l++[.string t.s,.int .i64 t.x,.int .i64 t.y]):=by
  show _=_
  unfold fD;rw [List.take_length,List.drop_length,bN]
  rfl
 unfold maxLen at hcm
 have hi0:(0:Int)≤(l.length:Int):=by omega
 go_enter Tryz.func184,Tryz.ntmps184
 go_wp2_with (at_builtin;refine aZ _ rfl _ _ 25 rfl B 72 i0 _ 3 32 Tryz.underlying25 hi hz0 hz1 hz2 rfl (by decide) _ l.length _ rfl hown _ 1 1 [.string t.s,.int .i64 t.x,.int .i64 t.y] rfl (.inr ⟨_,rfl,World.news_of_block hv⟩) rfl (fun u hu=>by simp only [List.mem_cons,List.not_mem_nil,or_false] at hu;rcases hu with rfl | rfl | rfl <;> rfl) (by unfold maxLen;omega) (by omega) hBw ?_;intro vq wx hown2 hgrow hat)
 all_goals
  have HB2:Hid (Below B w wx):=(Below.refl B w).grown hgrow hBw (fun q e=>aw HO.out q e);have y8:=aq hown2;clear hown2 hgrow hat;go_ret
  exact ⟨_,rfl,by rw [HE.out];exact y8.out,HB2.out⟩
end Go.Proofs.YtcmgddnckohdaaaGreatDoor
