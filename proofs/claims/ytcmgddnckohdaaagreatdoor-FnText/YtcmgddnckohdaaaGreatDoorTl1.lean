import Derived.Test.YtcmgddnckohdaaaGreatDoorIn2
import Derived.Lib.AppendZerosOnto
set_option maxRecDepth 100000
set_option maxHeartbeats 6400000
set_option linter.unusedSimpArgs false
set_option linter.unusedVariables false
namespace Go.Proofs.YtcmgddnckohdaaaGreatDoor
open Go.RowKit
theorem wpList_append_run {P:Program} {w:World} {ops:Array Oper} {rest:List Oper} {o:Oper} {a:Act} {Q:Exit→Act→World→Prop} (hgd:o.guard=none) (s x:Operand) (t u:TypeId)
  (ho:o.op=.call { callee:=.builtin .append,args:=#[s,x],argTypes:=#[t,u] }) (v y:Value) (hs:a.eval s=v) (hx:a.eval x=y) {v':Value} {w':World}
  (hr:(Builtin.append_ #[t,u] o.type #[v,y]).run P w=.ok v' w') (h:wpList P ops Q rest (a.put o.dst v') w'):wpList P ops Q (o::rest) a w:=by
 refine wpList_plain hgd fun K hK=>?_;unfold Oper.wp
 simp only [execOp,ho,resolve,invoke,builtin,Sem.run_bind,Sem.run_pure,Result.andThen_ok,List.map_toArray,List.map_cons,List.map_nil,hs,hx,hr]
 exact hK _ _ h
theorem wT {C X tc:List Value} {i n:Nat} (hX:X.length=(n-i)*3) (ht:tc.length=3) (hi:i≤n) (hC:(n+1)*3≤C.length) :
  (splice (splice C (i*3) tc) ((i+1)*3) X).take ((n+1)*3)=C.take (i*3)++(tc++X)∧(splice (splice C (i*3) tc) ((i+1)*3) X).length=C.length:=by
 have e1:(splice C (i*3) tc).take ((i+1)*3)=C.take (i*3)++tc:=by
  unfold splice;rw [← List.append_assoc]
  exact List.take_left' (by rw [List.length_append,List.length_take,ht];omega)
 have e3:splice (splice C (i*3) tc) ((i+1)*3) X=(C.take (i*3)++(tc++X))++(splice C (i*3) tc).drop ((i+1)*3+X.length):=by
  conv=>lhs;unfold splice
  have e1':=e1;unfold splice at e1' ⊢;rw [e1']
  simp
 have hlen:(C.take (i*3)++(tc++X)).length=(n+1)*3:=by
  rw [List.length_append,List.length_append,List.length_take,ht,hX]
  omega
 constructor
 ·rw [e3,← hlen,List.take_left]
 ·rw [e3,List.length_append,hlen,List.length_drop,hX,length_splice _ _ _ (by rw [ht];omega)]
  omega
theorem vU (B g cap vb i:Nat) (l:List dx) (t:dx) (cur:Array Value) (w:World) (hi:i<l.length) (hc:l.length≤cap) (hr:cap<l.length+1) (hl:l.length≤1000) (hBw:B≤w.heap.size)
  (hg:w.heap[g]?=some (.cells cur 69 (0,0))) (hcs:cur.size=cap*3) (htk:cur.toList.take (l.length*3)=aS l)
  (hv:w.heap[vb]?=some (.cells #[.string t.s,.int .i64 t.x,.int .i64 t.y] 69 (0,0))) :
  Calls Tryz.prog 181 #[.slice (some ⟨g,0,none⟩) l.length cap,.int .i64 i,.slice (some ⟨vb,0,none⟩) 1 1] w fun e w'=>∃ u,e=.returned u∧w'.ownsRow B 69 3 u (l.length+1) (aS (fD l i t))∧Below B w w':=by
 obtain ⟨i0,hif,hz0,hz1,hz2⟩:=info_parts kS
 have JO:cur.toList.length=cap*3:=by rw [Array.length_toList];exact hcs
 have hpre:cur.toList.take (i*3)=aS (l.take i):=by
  rw [← kG l i (by omega),← htk,List.take_take]
  congr 1
  omega
 have hold:(Builtin.firstCells i0.size i (.slice (some ⟨g,0,none⟩) i cap)).run Tryz.prog w.drew=.ok (aS (l.take i)).toArray w.drew:=by
  have h:=run_loadCells_list (P:=Tryz.prog) w.drew ⟨g,0,none⟩ (aS (l.take i)) (fun j v hj=>by
   rw [bm,Nat.zero_add];have hg':w.drew.heap[g]?=some (.cells cur 69 (0,0)):=hg;rw [← hpre,List.getElem?_take] at hj
   split at hj
   ·simp only [World.cell?]
    rw [hg']
    simpa using hj
   ·cases hj)
  rw [aE,List.length_take,Nat.min_eq_left (by omega)] at h
  rw [hz1]
  simpa [Builtin.firstCells,Nat.mul_comm] using h
 have hap:=Lib.run_append_grow_zeros (P:=Tryz.prog) w 24 3 24 69 i0 _ .i64 .i64 Tryz.underlying24 Tryz.underlying3 hif hz0 (some ⟨g,0,none⟩) i cap (aS (l.take i)) hold (l.length+1-i) (by omega) (by omega) (by omega) (by omega) (by rw [hz2];omega) (by rw [hz2];exact growslice_fits (by omega) (by omega))
 have hk:((l.length+1-i:Nat):Int)=(l.length:Int)+1-(i:Int):=by omega
 have hk2:i+(l.length+1-i)=l.length+1:=by omega
 rw [hk,hk2] at hap;have hge:=grownCap_ge w (l.length+1) cap 69
 have hle:=grownCap_le_maxLen w (l.length+1) cap 69 (by unfold maxLen;omega)
 generalize grownCap w (l.length+1) cap 69=gc at *;obtain ⟨Z,hZ⟩:∃ Z:List Value,((aS (l.take i)).toArray++Builtin.zeroCells (Value.agg #[.string ByteArray.empty,.int .i64 0,.int .i64 0]).cells (l.length+1-i)++Builtin.zeroCells (Value.agg #[.string ByteArray.empty,.int .i64 0,.int .i64 0]).cells (gc-(l.length+1)))=Z.toArray:=⟨_,(Array.toArray_toList ..).symm⟩
 have JM:Z.length=gc*3:=by
  have h:=congrArg Array.size hZ
  simp only [Array.size_append,List.size_toArray,size_zeroCells,aE,List.length_take,Value.cells] at h
  simp at h
  omega
 have hZt:Z.take (i*3)=aS (l.take i):=by
  have h:=congrArg (fun A=>A.toList.take (i*3)) hZ
  simp only [Array.toList_append,List.append_assoc] at h
  rw [List.take_append_of_le_length (by rw [aE,List.length_take];omega),List.take_of_length_le (by rw [aE,List.length_take];omega)] at h
  exact h.symm
 rw [hZ] at hap;have b1:Below w.heap.size w (w.drew.alloc (.cells Z.toArray 69)):=((Below.refl _ _).drew).alloc aG _
 have n1:(w.drew.alloc (.cells Z.toArray 69)).heap[w.heap.size]?=some (.cells Z.toArray 69 (0,0)):=by show (w.heap.push _)[w.heap.size]?=_;simp
 generalize (w.drew.alloc (.cells Z.toArray 69))=W1 at *;have hgl:g<w.heap.size:=(Array.getElem?_eq_some_iff.1 hg).1;have hvl:vb<w.heap.size:=(Array.getElem?_eq_some_iff.1 hv).1;have g1:=(b1.block _ hgl).trans hg;have v1:=(b1.block _ hvl).trans hv
 have hc1:¬ gc=i:=by omega
 have hc2:¬ gc=i+1:=by omega
 have hc3:¬ cap=i:=by omega
 have hmin:Nat.min 1 (l.length+1-i)=1:=Nat.min_eq_left (by omega)
 have hcp:(Builtin.copy_ #[24,24] 3 #[.slice (some ⟨w.heap.size,i*3,none⟩) (l.length+1-i) (gc-i),.slice (some ⟨vb,0,none⟩) 1 1]).run Tryz.prog W1=.ok (goInt 1) (W1.setRow w.heap.size (splice Z (i*3) [.string t.s,.int .i64 t.x,.int .i64 t.y]).toArray):=by
  have h:=mq (P:=Tryz.prog) W1 24 24 3 69 3 w.heap.size (i*3) (l.length+1-i) (gc-i) ⟨vb,0,none⟩ 1 1 Z.toArray 69 [.string t.s,.int .i64 t.x,.int .i64 t.y] Tryz.underlying24 (by kernel_rfl) n1 (by rw [hmin];rfl) (fun j v hj=>by rw [bm,Nat.zero_add];simp only [World.cell?];rw [v1];simpa using hj) (by rw [List.size_toArray,JM];simp;omega) (fun v hv=>by simp only [List.mem_cons,List.not_mem_nil,or_false] at hv;rcases hv with rfl | rfl | rfl <;> rfl)
  rw [hmin] at h;rw [h]
  simp [splice]
 have hi0:(0:Int)≤(i:Int):=by omega
 have hi1:(i:Int)≤(l.length:Int):=by omega
 have hne:((i:Int)==(l.length:Int))=false:=by rw [beq_eq_false_iff_ne];omega
 have hw1:IntKind.i64.wrap ((l.length:Int)+1)=(l.length:Int)+1:=by rw [IntKind.wrap_i64];omega
 have hw2:IntKind.i64.wrap ((l.length:Int)+1-(i:Int))=(l.length:Int)+1-(i:Int):=by rw [IntKind.wrap_i64];omega
 have hd:decide ((cap:Int)<(l.length:Int)+1)=true:=by simp;omega
 go_enter Tryz.func181,Tryz.ntmps181
 go_wp2_with (at_builtin;refine wpList_append_run rfl _ _ 24 3 rfl _ _ rfl rfl hap ?_)
 have hX:(aS (l.drop i)).length=(l.length-i)*3:=by rw [aE,List.length_drop]
 have hdr:∀ j v,(aS (l.drop i))[j]?=some v→cur.toList[i*3+j]?=some v:=fun j v hj=>by
  rw [← cM l i (by omega),List.getElem?_drop,← htk,List.getElem?_take] at hj
  split at hj
  ·exact hj
  ·cases hj
 have hw3:IntKind.i64.wrap ((i:Int)+1)=(i:Int)+1:=by rw [IntKind.wrap_i64];omega
 have hi2:(0:Int)≤(i:Int)+1∧(i:Int)+1≤(l.length:Int)+1:=by omega
 have hi3:(i:Int)≤(l.length:Int)+1:=by omega
 have htn:((i:Int)+1).toNat=i+1:=by omega
 have n2:=setRow_heap W1 w.heap.size _ (splice Z (i*3) [.string t.s,.int .i64 t.x,.int .i64 t.y]).toArray _ _ n1
 have g2:(W1.setRow w.heap.size (splice Z (i*3) [.string t.s,.int .i64 t.x,.int .i64 t.y]).toArray).heap[g]?=some (.cells cur 69 (0,0)):=(setRow_other _ _ _ _ (by omega)).trans g1
 have B2:Hid (Below w.heap.size w (W1.setRow w.heap.size (splice Z (i*3) [.string t.s,.int .i64 t.x,.int .i64 t.y]).toArray)):=below_setRow b1 aG _
 have hS1:(splice Z (i*3) [.string t.s,.int .i64 t.x,.int .i64 t.y]).length=gc*3:=by rw [length_splice _ _ _ (by rw [JM];simp;omega),JM]
 have qZ:=wT (C:=Z) (X:=aS (l.drop i)) (tc:=[.string t.s,.int .i64 t.x,.int .i64 t.y]) (i:=i) (n:=l.length) hX rfl (by omega) (by rw [JM];omega)
 have iM:Hid ((splice (splice Z (i*3) [.string t.s,.int .i64 t.x,.int .i64 t.y]) ((i+1)*3) (aS (l.drop i))).take ((l.length+1)*3)=aS (fD l i t)∧(splice (splice Z (i*3) [.string t.s,.int .i64 t.x,.int .i64 t.y]) ((i+1)*3) (aS (l.drop i))).length=gc*3):=by
  refine ⟨?_,qZ.2.trans JM⟩;rw [qZ.1,hZt];unfold fD;rw [bN]
  rfl
 clear qZ hcp hap hold hZ n1 g1 v1 b1 hpre htk hne hw1 hw2 hd hZt JM hk hk2;generalize (splice Z (i*3) [.string t.s,.int .i64 t.x,.int .i64 t.y])=S1 at *;generalize (W1.setRow w.heap.size S1.toArray)=W2 at *;refine wp_region_noPanic ?_
 refine wp_region_held_drew (S:=fun _=>True) (by kernel_rfl) trivial (fun hHeld=>?_)
 have n3:W2.drew.heap[w.heap.size]?=some (.cells S1.toArray 69 (0,0)):=n2;have g3:W2.drew.heap[g]?=some (.cells cur 69 (0,0)):=g2;have B3:Hid (Below w.heap.size w W2.drew):=B2.out.drew;clear B2 n2 g2;generalize W2.drew=W3 at *;refine aO 0 ?_ rfl ?_ (aO 1 ?_ rfl ?_ (aO 2 ?_ rfl ?_ (aO 3 ?_ rfl ?_ (aO 4 ?_ rfl ?_ (aO 5 ?_ rfl ?_ (aO 6 ?_ rfl ?_ (aO 7 ?_ rfl ?_ ?_)))))))
 iterate 8 (rotate_left;focus (intro w hSw;(try dsimp only at hSw);simp only [Act.put,aU];go_simp;try with_reducible rfl))
 simp only [Act.put,aU]
 clear hHeld;refine bE 8 rfl (fun K hK=>?_)
 have hmn:(aS (l.drop i)).length=Nat.min (l.length-i) (l.length-i)*3:=by
  rw [hX]
  congr 1
  exact (Nat.min_self _).symm
 refine mX rfl _ _ 24 24 rfl 69 3 Tryz.underlying24 (by kernel_rfl) w.heap.size ((i+1)*3) _ _ ⟨g,i*3,none⟩ _ _ rfl rfl S1 69 n3 (aS (l.drop i)) hmn (fun j v hj=>?_) (by rw [hX,hS1];omega) bB ?_
 ·have h1:=hdr j v hj
  rw [bm]
  simp only [World.cell?]
  rw [g3]
  simpa using h1
 refine hK.out _ _ trivial (fun _=>?_);clear hK K;have n4:=setRow_heap W3 w.heap.size _ (splice S1 ((i+1)*3) (aS (l.drop i))).toArray _ _ n3;have B4:Hid (Below w.heap.size w (W3.setRow w.heap.size (splice S1 ((i+1)*3) (aS (l.drop i))).toArray)):=below_setRow B3.out aG _
 have OW:Hid ((W3.setRow w.heap.size (splice S1 ((i+1)*3) (aS (l.drop i))).toArray).ownsRow B 69 3 (.slice (some ⟨w.heap.size,0,none⟩) (l.length+1) gc) (l.length+1) (aS (fD l i t))):=by
  refine ⟨?_,.inr ⟨w.heap.size,gc,_,rfl,hBw,n4,by omega,hle,?_,?_⟩⟩
  ·rw [aE]
   unfold fD
   simp
   omega
  ·rw [List.size_toArray]
   exact iM.out.2
  ·rw [List.toList_toArray]
   exact iM.out.1
 refine wpAnyH_done (by kernel_rfl) ?_ _
 refine NoPanic.normal ?_;go_wp2_with fail;go_ret;exact ⟨_,rfl,OW.out,B4.out.mono hBw⟩
theorem uK (B g cap vb i:Nat) (l:List dx) (t:dx) (cur:Array Value) (w:World) (hi:i<l.length) (hc:l.length≤cap) (hr:cap<l.length+1) (hl:l.length≤1000) (hBw:B≤w.heap.size)
  (hg:w.heap[g]?=some (.cells cur 72 (0,0))) (hcs:cur.size=cap*3) (htk:cur.toList.take (l.length*3)=aS l)
  (hv:w.heap[vb]?=some (.cells #[.string t.s,.int .i64 t.x,.int .i64 t.y] 72 (0,0))) :
  Calls Tryz.prog 184 #[.slice (some ⟨g,0,none⟩) l.length cap,.int .i64 i,.slice (some ⟨vb,0,none⟩) 1 1] w fun e w'=>∃ u,e=.returned u∧w'.ownsRow B 72 3 u (l.length+1) (aS (fD l i t))∧Below B w w':=by
 obtain ⟨i0,hif,hz0,hz1,hz2⟩:=info_parts jS
 have JO:cur.toList.length=cap*3:=by rw [Array.length_toList];exact hcs
 have hpre:cur.toList.take (i*3)=aS (l.take i):=by
  rw [← kG l i (by omega),← htk,List.take_take]
  congr 1
  omega
 have hold:(Builtin.firstCells i0.size i (.slice (some ⟨g,0,none⟩) i cap)).run Tryz.prog w.drew=.ok (aS (l.take i)).toArray w.drew:=by
  have h:=run_loadCells_list (P:=Tryz.prog) w.drew ⟨g,0,none⟩ (aS (l.take i)) (fun j v hj=>by
   rw [bm,Nat.zero_add];have hg':w.drew.heap[g]?=some (.cells cur 72 (0,0)):=hg;rw [← hpre,List.getElem?_take] at hj
   split at hj
   ·simp only [World.cell?]
    rw [hg']
    simpa using hj
   ·cases hj)
  rw [aE,List.length_take,Nat.min_eq_left (by omega)] at h
  rw [hz1]
  simpa [Builtin.firstCells,Nat.mul_comm] using h
 have hap:=Lib.run_append_grow_zeros (P:=Tryz.prog) w 25 3 25 72 i0 _ .i64 .i64 Tryz.underlying25 Tryz.underlying3 hif hz0 (some ⟨g,0,none⟩) i cap (aS (l.take i)) hold (l.length+1-i) (by omega) (by omega) (by omega) (by omega) (by rw [hz2];omega) (by rw [hz2];exact growslice_fits (by omega) (by omega))
 have hk:((l.length+1-i:Nat):Int)=(l.length:Int)+1-(i:Int):=by omega
 have hk2:i+(l.length+1-i)=l.length+1:=by omega
 rw [hk,hk2] at hap;have hge:=grownCap_ge w (l.length+1) cap 72
 have hle:=grownCap_le_maxLen w (l.length+1) cap 72 (by unfold maxLen;omega)
 generalize grownCap w (l.length+1) cap 72=gc at *;obtain ⟨Z,hZ⟩:∃ Z:List Value,((aS (l.take i)).toArray++Builtin.zeroCells (Value.agg #[.string ByteArray.empty,.int .i64 0,.int .i64 0]).cells (l.length+1-i)++Builtin.zeroCells (Value.agg #[.string ByteArray.empty,.int .i64 0,.int .i64 0]).cells (gc-(l.length+1)))=Z.toArray:=⟨_,(Array.toArray_toList ..).symm⟩
 have JM:Z.length=gc*3:=by
  have h:=congrArg Array.size hZ
  simp only [Array.size_append,List.size_toArray,size_zeroCells,aE,List.length_take,Value.cells] at h
  simp at h
  omega
 have hZt:Z.take (i*3)=aS (l.take i):=by
  have h:=congrArg (fun A=>A.toList.take (i*3)) hZ
  simp only [Array.toList_append,List.append_assoc] at h
  rw [List.take_append_of_le_length (by rw [aE,List.length_take];omega),List.take_of_length_le (by rw [aE,List.length_take];omega)] at h
  exact h.symm
 rw [hZ] at hap;have b1:Below w.heap.size w (w.drew.alloc (.cells Z.toArray 72)):=((Below.refl _ _).drew).alloc aG _
 have n1:(w.drew.alloc (.cells Z.toArray 72)).heap[w.heap.size]?=some (.cells Z.toArray 72 (0,0)):=by show (w.heap.push _)[w.heap.size]?=_;simp
 generalize (w.drew.alloc (.cells Z.toArray 72))=W1 at *;have hgl:g<w.heap.size:=(Array.getElem?_eq_some_iff.1 hg).1;have hvl:vb<w.heap.size:=(Array.getElem?_eq_some_iff.1 hv).1;have g1:=(b1.block _ hgl).trans hg;have v1:=(b1.block _ hvl).trans hv
 have hc1:¬ gc=i:=by omega
 have hc2:¬ gc=i+1:=by omega
 have hc3:¬ cap=i:=by omega
 have hmin:Nat.min 1 (l.length+1-i)=1:=Nat.min_eq_left (by omega)
 have hcp:(Builtin.copy_ #[25,25] 3 #[.slice (some ⟨w.heap.size,i*3,none⟩) (l.length+1-i) (gc-i),.slice (some ⟨vb,0,none⟩) 1 1]).run Tryz.prog W1=.ok (goInt 1) (W1.setRow w.heap.size (splice Z (i*3) [.string t.s,.int .i64 t.x,.int .i64 t.y]).toArray):=by
  have h:=mq (P:=Tryz.prog) W1 25 25 3 72 3 w.heap.size (i*3) (l.length+1-i) (gc-i) ⟨vb,0,none⟩ 1 1 Z.toArray 72 [.string t.s,.int .i64 t.x,.int .i64 t.y] Tryz.underlying25 (by kernel_rfl) n1 (by rw [hmin];rfl) (fun j v hj=>by rw [bm,Nat.zero_add];simp only [World.cell?];rw [v1];simpa using hj) (by rw [List.size_toArray,JM];simp;omega) (fun v hv=>by simp only [List.mem_cons,List.not_mem_nil,or_false] at hv;rcases hv with rfl | rfl | rfl <;> rfl)
  rw [hmin] at h;rw [h]
  simp [splice]
 have hi0:(0:Int)≤(i:Int):=by omega
 have hi1:(i:Int)≤(l.length:Int):=by omega
 have hne:((i:Int)==(l.length:Int))=false:=by rw [beq_eq_false_iff_ne];omega
 have hw1:IntKind.i64.wrap ((l.length:Int)+1)=(l.length:Int)+1:=by rw [IntKind.wrap_i64];omega
 have hw2:IntKind.i64.wrap ((l.length:Int)+1-(i:Int))=(l.length:Int)+1-(i:Int):=by rw [IntKind.wrap_i64];omega
 have hd:decide ((cap:Int)<(l.length:Int)+1)=true:=by simp;omega
 go_enter Tryz.func184,Tryz.ntmps184
 go_wp2_with (at_builtin;refine wpList_append_run rfl _ _ 25 3 rfl _ _ rfl rfl hap ?_)
 have hX:(aS (l.drop i)).length=(l.length-i)*3:=by rw [aE,List.length_drop]
 have hdr:∀ j v,(aS (l.drop i))[j]?=some v→cur.toList[i*3+j]?=some v:=fun j v hj=>by
  rw [← cM l i (by omega),List.getElem?_drop,← htk,List.getElem?_take] at hj
  split at hj
  ·exact hj
  ·cases hj
 have hw3:IntKind.i64.wrap ((i:Int)+1)=(i:Int)+1:=by rw [IntKind.wrap_i64];omega
 have hi2:(0:Int)≤(i:Int)+1∧(i:Int)+1≤(l.length:Int)+1:=by omega
 have hi3:(i:Int)≤(l.length:Int)+1:=by omega
 have htn:((i:Int)+1).toNat=i+1:=by omega
 have n2:=setRow_heap W1 w.heap.size _ (splice Z (i*3) [.string t.s,.int .i64 t.x,.int .i64 t.y]).toArray _ _ n1
 have g2:(W1.setRow w.heap.size (splice Z (i*3) [.string t.s,.int .i64 t.x,.int .i64 t.y]).toArray).heap[g]?=some (.cells cur 72 (0,0)):=(setRow_other _ _ _ _ (by omega)).trans g1
 have B2:Hid (Below w.heap.size w (W1.setRow w.heap.size (splice Z (i*3) [.string t.s,.int .i64 t.x,.int .i64 t.y]).toArray)):=below_setRow b1 aG _
 have hS1:(splice Z (i*3) [.string t.s,.int .i64 t.x,.int .i64 t.y]).length=gc*3:=by rw [length_splice _ _ _ (by rw [JM];simp;omega),JM]
 have qZ:=wT (C:=Z) (X:=aS (l.drop i)) (tc:=[.string t.s,.int .i64 t.x,.int .i64 t.y]) (i:=i) (n:=l.length) hX rfl (by omega) (by rw [JM];omega)
 have iM:Hid ((splice (splice Z (i*3) [.string t.s,.int .i64 t.x,.int .i64 t.y]) ((i+1)*3) (aS (l.drop i))).take ((l.length+1)*3)=aS (fD l i t)∧(splice (splice Z (i*3) [.string t.s,.int .i64 t.x,.int .i64 t.y]) ((i+1)*3) (aS (l.drop i))).length=gc*3):=by
  refine ⟨?_,qZ.2.trans JM⟩;rw [qZ.1,hZt];unfold fD;rw [bN]
  rfl
 clear qZ hcp hap hold hZ n1 g1 v1 b1 hpre htk hne hw1 hw2 hd hZt JM hk hk2;generalize (splice Z (i*3) [.string t.s,.int .i64 t.x,.int .i64 t.y])=S1 at *;generalize (W1.setRow w.heap.size S1.toArray)=W2 at *;refine wp_region_noPanic ?_
 refine wp_region_held_drew (S:=fun _=>True) (by kernel_rfl) trivial (fun hHeld=>?_)
 have n3:W2.drew.heap[w.heap.size]?=some (.cells S1.toArray 72 (0,0)):=n2;have g3:W2.drew.heap[g]?=some (.cells cur 72 (0,0)):=g2;have B3:Hid (Below w.heap.size w W2.drew):=B2.out.drew;clear B2 n2 g2;generalize W2.drew=W3 at *;refine aO 0 ?_ rfl ?_ (aO 1 ?_ rfl ?_ (aO 2 ?_ rfl ?_ (aO 3 ?_ rfl ?_ (aO 4 ?_ rfl ?_ (aO 5 ?_ rfl ?_ (aO 6 ?_ rfl ?_ (aO 7 ?_ rfl ?_ ?_)))))))
 iterate 8 (rotate_left;focus (intro w hSw;(try dsimp only at hSw);simp only [Act.put,aU];go_simp;try with_reducible rfl))
 simp only [Act.put,aU]
 clear hHeld;refine bE 8 rfl (fun K hK=>?_)
 have hmn:(aS (l.drop i)).length=Nat.min (l.length-i) (l.length-i)*3:=by
  rw [hX]
  congr 1
  exact (Nat.min_self _).symm
 refine mX rfl _ _ 25 25 rfl 72 3 Tryz.underlying25 (by kernel_rfl) w.heap.size ((i+1)*3) _ _ ⟨g,i*3,none⟩ _ _ rfl rfl S1 72 n3 (aS (l.drop i)) hmn (fun j v hj=>?_) (by rw [hX,hS1];omega) bB ?_
 ·have h1:=hdr j v hj
  rw [bm]
  simp only [World.cell?]
  rw [g3]
  simpa using h1
 refine hK.out _ _ trivial (fun _=>?_);clear hK K;have n4:=setRow_heap W3 w.heap.size _ (splice S1 ((i+1)*3) (aS (l.drop i))).toArray _ _ n3;have B4:Hid (Below w.heap.size w (W3.setRow w.heap.size (splice S1 ((i+1)*3) (aS (l.drop i))).toArray)):=below_setRow B3.out aG _
 have OW:Hid ((W3.setRow w.heap.size (splice S1 ((i+1)*3) (aS (l.drop i))).toArray).ownsRow B 72 3 (.slice (some ⟨w.heap.size,0,none⟩) (l.length+1) gc) (l.length+1) (aS (fD l i t))):=by
  refine ⟨?_,.inr ⟨w.heap.size,gc,_,rfl,hBw,n4,by omega,hle,?_,?_⟩⟩
  ·rw [aE]
   unfold fD
   simp
   omega
  ·rw [List.size_toArray]
   exact iM.out.2
  ·rw [List.toList_toArray]
   exact iM.out.1
 refine wpAnyH_done (by kernel_rfl) ?_ _
 refine NoPanic.normal ?_;go_wp2_with fail;go_ret;exact ⟨_,rfl,OW.out,B4.out.mono hBw⟩
open Go.RowKit
theorem oK (B vb i:Nat) (v:Value) (l:List dx) (t:dx) (w:World) (hi:i≤l.length) (hl:l.length≤1000) (hBw:B≤w.heap.size)
  (hown:w.ownsRow B 69 3 v l.length (aS l)) (hvg:v.ownBlock≠some vb)
  (hv:w.heap[vb]?=some (.cells #[.string t.s,.int .i64 t.x,.int .i64 t.y] 69 (0,0))) :
  Calls Tryz.prog 181 #[v,.int .i64 i,.slice (some ⟨vb,0,none⟩) 1 1] w fun e w'=>∃ u,e=.returned u∧w'.ownsRow B 69 3 u (l.length+1) (aS (fD l i t))∧Below B w w':=by
 have hown0:=hown;obtain ⟨hlen,⟨rfl,h0⟩ | ⟨g,cap,cur,rfl,hBg,hg,hc,hcm,hcs,htk⟩⟩:=hown
 ·have hi0:i=0:=by omega
  subst hi0
  have h:=oJ B vb none 0 l t w hl hBw (by unfold maxLen;omega) (by rw [h0];rw [h0] at hown0;exact hown0) hv
  rw [h0] at h ⊢;exact h
 ·by_cases he:i=l.length
  ·rw [he]
   exact oJ B vb _ cap l t w hl hBw hcm hown0 hv
  ·by_cases hr:l.length+1≤cap
   ·exact vS B g cap vb i l t cur w (by omega) hr hcm hl hBg hg hcs htk hv (fun e=>hvg (by rw [e];rfl))
   ·exact vU B g cap vb i l t cur w (by omega) hc (by omega) hl hBw hg hcs htk hv
theorem nS (B vb i:Nat) (v:Value) (l:List dx) (t:dx) (w:World) (hi:i≤l.length) (hl:l.length≤1000) (hBw:B≤w.heap.size)
  (hown:w.ownsRow B 72 3 v l.length (aS l)) (hvg:v.ownBlock≠some vb)
  (hv:w.heap[vb]?=some (.cells #[.string t.s,.int .i64 t.x,.int .i64 t.y] 72 (0,0))) :
  Calls Tryz.prog 184 #[v,.int .i64 i,.slice (some ⟨vb,0,none⟩) 1 1] w fun e w'=>∃ u,e=.returned u∧w'.ownsRow B 72 3 u (l.length+1) (aS (fD l i t))∧Below B w w':=by
 have hown0:=hown;obtain ⟨hlen,⟨rfl,h0⟩ | ⟨g,cap,cur,rfl,hBg,hg,hc,hcm,hcs,htk⟩⟩:=hown
 ·have hi0:i=0:=by omega
  subst hi0
  have h:=nR B vb none 0 l t w hl hBw (by unfold maxLen;omega) (by rw [h0];rw [h0] at hown0;exact hown0) hv
  rw [h0] at h ⊢;exact h
 ·by_cases he:i=l.length
  ·rw [he]
   exact nR B vb _ cap l t w hl hBw hcm hown0 hv
  ·by_cases hr:l.length+1≤cap
   ·exact uJ B g cap vb i l t cur w (by omega) hr hcm hl hBg hg hcs htk hv (fun e=>hvg (by rw [e];rfl))
   ·exact uK B g cap vb i l t cur w (by omega) hc (by omega) hl hBw hg hcs htk hv
end Go.Proofs.YtcmgddnckohdaaaGreatDoor
namespace Go.Proofs.YtcmgddnckohdaaaGreatDoor.Tx
open Go.RowKit Sd
theorem bR (num c : Int) (s : ByteArray) (w : World) :
    Calls Tryz.prog 115 #[.agg #[.int .i64 num,.string s],.int .i64 c] w fun e w'=>e=.returned (.iface 102 (.agg #[.int .i64 num,.int .i64 c]))∧Below w.heap.size w w':=by
  have HB:Hid (Below w.heap.size w (w.alloc (.cells #[.int .i64 num,.string s] 89))):=(aM)
  go_enter Tryz.func115,Tryz.ntmps115
  go_wp2_with fail
  exact bodyPost_ret (v:=.iface 102 (.agg #[.int .i64 num,.int .i64 c])) (by simp [results,Tryz.results115,go_sem]) rfl ⟨rfl,HB.out⟩
theorem Da (w:World) (a b c:Obj) {w':World} (hb:Below (((w.alloc a).alloc b).alloc c).heap.size (((w.alloc a).alloc b).alloc c) w'):w'.heap[w.heap.size]?=some a∧w'.heap[w.heap.size+1]?=some b∧w'.heap[w.heap.size+2]?=some c:=by
  have h:∀ (z:World) (o:Obj),(z.alloc o).heap[z.heap.size]?=some o:=fun z o=>by show (z.heap.push o)[z.heap.size]?=some o;simp
  have b3:Below (w.alloc a).heap.size (w.alloc a) w':=aa ((aM).alloc (by simp) _) hb
  have b4:Below ((w.alloc a).alloc b).heap.size ((w.alloc a).alloc b) w':=aa (aM) hb
  have e1:=(b3.block w.heap.size (by simp)).trans (h w a)
  have e2:=(b4.block (w.alloc a).heap.size (by simp)).trans (h (w.alloc a) b)
  have e3:=(hb.block ((w.alloc a).alloc b).heap.size (by simp)).trans (h ((w.alloc a).alloc b) c)
  simp only [World.size_alloc] at e2 e3
  exact ⟨e1,e2,e3⟩
def eY (num c:Int):Value:=.tuple #[.agg #[.slice none 0 0,.slice none 0 0,.slice none 0 0],.iface 102 (.agg #[.int .i64 num,.int .i64 c])]
structure TB (w:World) (vk vp ve:Value) (num:Int) (s:ByteArray) (w1:World):Prop where
  c1:w1.heap[w.heap.size]?=some (.cells #[vk,vp,ve] 30 (0,0))
  c2:w1.heap[w.heap.size+1]?=some (.cells #[.int .i64 num,.string s] 89 (0,0))
  c3:w1.heap[w.heap.size+2]?=some (.cells #[.slice none 0 0,.slice none 0 0,.slice none 0 0] 30 (0,0))
  b:Below w.heap.size w w1
theorem TB.start {w w1:World} {vk vp ve:Value} {num:Int} {s:ByteArray} (hb:Below (((w.alloc (.cells #[vk,vp,ve] 30)).alloc (.cells #[.int .i64 num,.string s] 89)).alloc (.cells #[.slice none 0 0,.slice none 0 0,.slice none 0 0] 30)).heap.size (((w.alloc (.cells #[vk,vp,ve] 30)).alloc (.cells #[.int .i64 num,.string s] 89)).alloc (.cells #[.slice none 0 0,.slice none 0 0,.slice none 0 0] 30)) w1):TB w vk vp ve num s w1:=by
  obtain ⟨h1,h2,h3⟩:=Da w _ _ _ hb
  exact ⟨h1,h2,h3,aa (((aM).alloc (by simp) _).alloc (by simp;omega) _) hb⟩
theorem TB.keep {w w1 w2:World} {vk vp ve:Value} {num:Int} {s:ByteArray} (h:TB w vk vp ve num s w1) (hb:Below w1.heap.size w1 w2):TB w vk vp ve num s w2 :=
  ⟨(hb.block _ (Array.getElem?_eq_some_iff.1 h.c1).1).trans h.c1,(hb.block _ (Array.getElem?_eq_some_iff.1 h.c2).1).trans h.c2,(hb.block _ (Array.getElem?_eq_some_iff.1 h.c3).1).trans h.c3,aa h.b hb⟩
theorem TB.cells {w w1:World} {vk vp ve:Value} {num:Int} {s:ByteArray} (h:TB w vk vp ve num s w1):(w1.cell? ⟨w.heap.size,0,none⟩=some vk∧w1.cell? ⟨w.heap.size,1,none⟩=some vp∧w1.cell? ⟨w.heap.size,2,none⟩=some ve)∧(w1.cell? ⟨w.heap.size+1,0,none⟩=some (.int .i64 num)∧w1.cell? ⟨w.heap.size+1,1,none⟩=some (.string s))∧w.heap.size<w1.heap.size∧w.heap.size+1<w1.heap.size∧w.heap.size+2<w1.heap.size:=by
  obtain ⟨c1,c2,c3,-⟩:=h
  exact ⟨⟨by simp [World.cell?,c1],by simp [World.cell?,c1],by simp [World.cell?,c1]⟩,⟨by simp [World.cell?,c2],by simp [World.cell?,c2]⟩,(Array.getElem?_eq_some_iff.1 c1).1,(Array.getElem?_eq_some_iff.1 c2).1,(Array.getElem?_eq_some_iff.1 c3).1⟩
theorem Il {W:World} {t:dx} {vb:Nat} {T:TypeId} (h:W.heap[vb]?=some (.cells #[.string t.s,.int .i64 t.x,.int .i64 t.y] T (0,0))):dA W (.slice (some ⟨vb,0,none⟩) 1 1) [t]:=by
  refine ⟨some ⟨vb,0,none⟩,1,rfl,by simp,by unfold maxLen;omega,fun i x hx=>?_⟩
  have hi:i=0:=by
    have:=(List.getElem?_eq_some_iff.1 hx).1
    simp at this
    exact this
  subst hi
  simp at hx
  subst hx
  exact ⟨vb,0,rfl,⟨by simp [World.cell?,h],by simp [World.cell?,h],by simp [World.cell?,h]⟩⟩
theorem j4 (w:World) (a b:Obj):((w.alloc a).alloc b).heap[w.heap.size]?=some a:=by
  show ((w.heap.push a).push b)[w.heap.size]?=some a
  rw [Array.getElem?_push_lt (by simp)]
  simp
theorem TB.set0 {w w1:World} {vk vp ve:Value} {num:Int} {s:ByteArray} (h:TB w vk vp ve num s w1) (v:Value):TB w v vp ve num s (w1.setCell ⟨w.heap.size,0,none⟩ v):=by
  refine ⟨?_,?_,?_,h.b.setCell (p:=⟨w.heap.size,0,none⟩) aG v⟩
  · rw [setCell_eq_setRow _ _ _ _ _ _ _ h.c1];exact setRow_heap _ _ _ _ _ _ h.c1
  · rw [Below.heap_setCell w1 ⟨w.heap.size,0,none⟩ v (w.heap.size+1) (by show w.heap.size+1≠w.heap.size;omega)];exact h.c2
  · rw [Below.heap_setCell w1 ⟨w.heap.size,0,none⟩ v (w.heap.size+2) (by show w.heap.size+2≠w.heap.size;omega)];exact h.c3
theorem TB.set1 {w w1:World} {vk vp ve:Value} {num:Int} {s:ByteArray} (h:TB w vk vp ve num s w1) (v:Value):TB w vk v ve num s (w1.setCell ⟨w.heap.size,1,none⟩ v):=by
  refine ⟨?_,?_,?_,h.b.setCell (p:=⟨w.heap.size,1,none⟩) aG v⟩
  · rw [setCell_eq_setRow _ _ _ _ _ _ _ h.c1];exact setRow_heap _ _ _ _ _ _ h.c1
  · rw [Below.heap_setCell w1 ⟨w.heap.size,1,none⟩ v (w.heap.size+1) (by show w.heap.size+1≠w.heap.size;omega)];exact h.c2
  · rw [Below.heap_setCell w1 ⟨w.heap.size,1,none⟩ v (w.heap.size+2) (by show w.heap.size+2≠w.heap.size;omega)];exact h.c3
theorem Bg (num : Int) (s : ByteArray) (v : Value) (ap ae : Option Addr) (np cp ne ce : Nat) (ks : List dx) (w : World) (hk : dA w v ks) (hs : s.size ≤ 1048576) (hl : ks.length ≤ 1000) :
    Calls Tryz.prog 155 #[.agg #[v,.slice ap np cp,.slice ae ne ce],.agg #[.int .i64 num,.string s]] w fun e w'=>Below w.heap.size w w' ∧
      ((gV ks (dn s)≠0∧e=.returned (eY num (gV ks (dn s)))) ∨
       (gV ks (dn s)=0∧∃ u,e=.returned (.tuple #[.agg #[u,.slice ap np cp,.slice ae ne ce],.nilIface])∧w'.ownsRow w.heap.size 69 3 u (ks.length+1) (aS (fD ks (iH ks (fC (dn s)).s) (fC (dn s)))))):=by
  have hsz:∀ i,i<(dn s).length→(dE (dn s) i).size≤1048576:=fun i hi=>Nat.le_trans (kY hi) hs;obtain ⟨t,ok,hR,htz,hok,hokp,hti⟩:=xQ (dn s) r9 (fun x=>rfl) 1048576 hsz
  have MS:Hid (∀ wx:World,Calls Tryz.prog 179 #[.agg #[.int .i64 num,.string s]] wx fun e w'=>e=.returned (.tuple #[.string t.s,.int .i64 t.x,.int .i64 t.y,.bool ok])∧Below wx.heap.size wx w'):=fun wx=>by
    have h:=Ai num s wx hs;rw [hR] at h;exact h
  have HC:Hid (gV ks (dn s)=bif ok&&dM [t] then (bif hasB ks t.s then 4 else bif decide (6≤ks.length) then 6 else 0) else 3):=by
    show _=_
    unfold gV;rw [← hok]
    cases ok
    · rfl
    · rw [hti rfl]
  have HT:Hid (ok=true→fC (dn s)=t):=fun h=>(hti h).symm;generalize gV ks (dn s)=kc at *;generalize fC (dn s)=tt at *;clear hok hokp hti hR hsz;have HK:=aq hk;obtain ⟨ak,ck,rfl,hlc,hcm,-⟩:=hk;unfold maxLen at hcm
  have HKO:Hid (∀ (wx:World) (vb:Nat),wx.heap[vb]?=some (.cells #[.string t.s,.int .i64 t.x,.int .i64 t.y] 69 (0,0))→Calls Tryz.prog 79 #[.slice (some ⟨vb,0,none⟩) 1 1] wx fun e w'=>e=.returned (.bool (dM [t]))∧Below wx.heap.size wx w'):=fun wx vb hv=>oG _ [t] wx (Il hv) (fun x hx=>by simp at hx;subst hx;unfold maxLen;omega)
  have Ka:Hid (∀ wx:World,Below w.heap.size w wx→Calls Tryz.prog 180 #[.slice ak ks.length ck,.string t.s,.func (.func 129) #[] #[]] wx fun e w'=>e=.returned (.tuple #[.int .i64 (iH ks t.s:Nat),.bool (hasB ks t.s)])∧Below wx.heap.size wx w'):=fun wx hx=>qj _ ks t.s wx (HK.out.keep hx);generalize dM [t]=kb at *;generalize hhb:hasB ks t.s=hb at *;clear hhb;have hpl:=BG ks t.s
  go_enter Tryz.func155,Tryz.ntmps155
  go_wp2_with fail;refine (MS.out _).mono ?_;rintro e w1 ⟨rfl,hb1⟩;have H1:Hid (TB w (.slice ak ks.length ck) (.slice ap np cp) (.slice ae ne ce) num s w1):=TB.start hb1;clear hb1;obtain ⟨⟨d0,d1,d2⟩,⟨f0,f1⟩,z1,z2,z3⟩:=H1.out.cells;have g0:=H1.out.c1
  cases ok
  · go_wp2_with fail
    refine (bR num 3 s _).mono ?_;rintro e w2 ⟨rfl,hb2⟩;have H2:Hid (TB w (.slice ak ks.length ck) (.slice ap np cp) (.slice ae ne ce) num s w2):=(H1.out.keep (aM)).keep hb2;have g2:=H2.out.c3;have hkc:kc=3:=HC.out
    go_wp2_with (refine wpList_store_row rfl 30 _ _ rfl (w.heap.size+2) #[.slice none 0 0,.slice none 0 0,.slice none 0 0] rfl rfl 30 _ g2 (by kernel_rfl) rfl (by simp [Value.oneCell']) ?_)
    exact bodyPost_ret (v:=eY num 3) (by simp [results,Tryz.results155,go_sem,cell_setRow_same _ _ _ _ _ _ _ g2,eY]) rfl ⟨below_setRow H2.out.b (by omega) _,.inl ⟨by rw [hkc];decide,by rw [hkc]⟩⟩
  · have hT:t=tt:=(HT.out rfl).symm
    subst hT;go_wp2_with fail
    have HA:Hid (Below w1.heap.size w1 ((w1.alloc (.cells #[.string t.s,.int .i64 t.x,.int .i64 t.y] 69)).alloc (.cells #[.string t.s,.int .i64 t.x,.int .i64 t.y] 69))):=(aM).alloc (by simp) _
    have HKB:Hid (((w1.alloc (.cells #[.string t.s,.int .i64 t.x,.int .i64 t.y] 69)).alloc (.cells #[.string t.s,.int .i64 t.x,.int .i64 t.y] 69)).heap[w1.heap.size]?=some (.cells #[.string t.s,.int .i64 t.x,.int .i64 t.y] 69 (0,0))):=j4 w1 _ _
    have o5:Hid (((w1.alloc (.cells #[.string t.s,.int .i64 t.x,.int .i64 t.y] 69)).alloc (.cells #[.string t.s,.int .i64 t.x,.int .i64 t.y] 69)).heap[w1.heap.size+1]?=some (.cells #[.string t.s,.int .i64 t.x,.int .i64 t.y] 69 (0,0))):=by
      have h:=am (w1.alloc (.cells #[.string t.s,.int .i64 t.x,.int .i64 t.y] 69)) (.cells #[.string t.s,.int .i64 t.x,.int .i64 t.y] 69);rw [World.size_alloc] at h;exact h
    refine (HKO.out _ (w1.heap.size+1) o5.out).mono ?_;rintro e w2 ⟨rfl,hb2⟩;have H2:Hid (TB w (.slice ak ks.length ck) (.slice ap np cp) (.slice ae ne ce) num s w2):=(H1.out.keep HA.out).keep hb2;have HB2:Hid (w2.heap[w1.heap.size]?=some (.cells #[.string t.s,.int .i64 t.x,.int .i64 t.y] 69 (0,0))):=(hb2.block _ (Array.getElem?_eq_some_iff.1 HKB.out).1).trans HKB.out;clear hb2 HA HKB o5 H1;clear d0 d1 d2 f0 f1 z1 z2 z3 g0;obtain ⟨⟨d0,d1,d2⟩,⟨f0,f1⟩,z1,z2,z3⟩:=H2.out.cells;have g0:=H2.out.c1
    cases kb
    · go_wp2_with fail
      refine (bR num 3 s _).mono ?_;rintro e w3 ⟨rfl,hb3⟩;have H3:Hid (TB w (.slice ak ks.length ck) (.slice ap np cp) (.slice ae ne ce) num s w3):=(H2.out).keep hb3;have g2:=H3.out.c3;have hkc:kc=3:=HC.out
      go_wp2_with (refine wpList_store_row rfl 30 _ _ rfl (w.heap.size+2) #[.slice none 0 0,.slice none 0 0,.slice none 0 0] rfl rfl 30 _ g2 (by kernel_rfl) rfl (by simp [Value.oneCell']) ?_)
      exact bodyPost_ret (v:=eY num 3) (by simp [results,Tryz.results155,go_sem,cell_setRow_same _ _ _ _ _ _ _ g2,eY]) rfl ⟨below_setRow H3.out.b (by omega) _,.inl ⟨by rw [hkc];decide,by rw [hkc]⟩⟩
    · go_wp2_with fail
      refine (Ka.out _ H2.out.b).mono ?_;rintro e w3 ⟨rfl,hb3⟩;have H3:Hid (TB w (.slice ak ks.length ck) (.slice ap np cp) (.slice ae ne ce) num s w3):=H2.out.keep hb3;have HB3:Hid (w3.heap[w1.heap.size]?=some (.cells #[.string t.s,.int .i64 t.x,.int .i64 t.y] 69 (0,0))):=(hb3.block _ (Array.getElem?_eq_some_iff.1 HB2.out).1).trans HB2.out;clear hb3 HB2 H2;clear d0 d1 d2 f0 f1 z1 z2 z3 g0;obtain ⟨⟨d0,d1,d2⟩,⟨f0,f1⟩,z1,z2,z3⟩:=H3.out.cells;have g0:=H3.out.c1
      cases hb
      · have y0:w3.cell? ⟨w1.heap.size,0,none⟩=some (.string t.s):=by simp [World.cell?,HB3.out]
        have y1:w3.cell? ⟨w1.heap.size,1,none⟩=some (.int .i64 t.x):=by simp [World.cell?,HB3.out]
        have y2:w3.cell? ⟨w1.heap.size,2,none⟩=some (.int .i64 t.y):=by simp [World.cell?,HB3.out]
        have z4:w1.heap.size<w3.heap.size:=(Array.getElem?_eq_some_iff.1 HB3.out).1
        by_cases h6:6≤ks.length
        · have h6i:(6:Int)≤(ks.length:Int):=by omega
          go_wp2_with fail;refine (bR num 6 s _).mono ?_;rintro e w9 ⟨rfl,oL⟩;have H9:Hid (TB w (.slice ak ks.length ck) (.slice ap np cp) (.slice ae ne ce) num s w9):=(H3.out).keep oL;have g2:=H9.out.c3
          have hkc:kc=6:=HC.out.trans (by rw [decide_eq_true h6];rfl)
          go_wp2_with (refine wpList_store_row rfl 30 _ _ rfl (w.heap.size+2) #[.slice none 0 0,.slice none 0 0,.slice none 0 0] rfl rfl 30 _ g2 (by kernel_rfl) rfl (by simp [Value.oneCell']) ?_)
          exact bodyPost_ret (v:=eY num 6) (by simp [results,Tryz.results155,go_sem,cell_setRow_same _ _ _ _ _ _ _ g2,eY]) rfl ⟨below_setRow H9.out.b (by omega) _,.inl ⟨by rw [hkc];decide,by rw [hkc]⟩⟩
        · have h6i:¬ (6:Int)≤(ks.length:Int):=by omega
          have hkc:kc=0:=HC.out.trans (by rw [decide_eq_false h6];rfl)
          go_wp2_with fail
          have dK:Hid (∀ w':World,Below w3.heap.size w3 w'→w'.cell? ⟨w.heap.size,0,none⟩=some (.slice ak ks.length ck)∧w'.cell? ⟨w1.heap.size,0,none⟩=some (.string t.s)∧w'.cell? ⟨w1.heap.size,1,none⟩=some (.int .i64 t.x)∧w'.cell? ⟨w1.heap.size,2,none⟩=some (.int .i64 t.y)):=fun w' hx=>by
            have h1:=(H3.out.keep hx).c1;have h2:=(hx.block _ (Array.getElem?_eq_some_iff.1 HB3.out).1).trans HB3.out
            exact ⟨by simp [World.cell?,h1],by simp [World.cell?,h2],by simp [World.cell?,h2],by simp [World.cell?,h2]⟩
          have HW5:Hid (w.heap.size<w3.heap.size):=z1;have HW6:Hid (w.heap.size+2<w3.heap.size):=z3;clear d0 d1 d2 f0 f1 z1 z2 z3 g0;clear y0 y1 y2 z4;refine wp_region_noPanic ?_
          refine bj (S:=fun w'=>w'.cell? ⟨w.heap.size,0,none⟩=some (.slice ak ks.length ck)∧w'.cell? ⟨w1.heap.size,0,none⟩=some (.string t.s)∧w'.cell? ⟨w1.heap.size,1,none⟩=some (.int .i64 t.x)∧w'.cell? ⟨w1.heap.size,2,none⟩=some (.int .i64 t.y)) 10 (by kernel_rfl) ?_ (fun hHeld=>?_)
          · exact dK.out _ (Below.refl _ _).drew
          have bY:Hid (Below w3.heap.size w3 w3.drew):=(Below.refl _ _).drew;generalize w3.drew=W0 at *;refine bG 0 ?_ rfl ?_ ?_;rotate_left
          · intro w hSw;(try dsimp only at hSw);go_simp;try with_reducible rfl
          simp only [Act.put,aU]
          refine bG 1 ?_ rfl ?_ ?_;rotate_left
          · intro w hSw;(try dsimp only at hSw);go_simp;try with_reducible rfl
          simp only [Act.put,aU]
          refine bG 2 ?_ rfl ?_ ?_;rotate_left
          · intro w hSw;(try dsimp only at hSw);go_simp;try with_reducible rfl
          simp only [Act.put,aU]
          refine bG 4 ?_ rfl ?_ ?_;rotate_left
          · intro w hSw;(try dsimp only at hSw);go_simp;try with_reducible rfl
          simp only [Act.put,aU]
          refine bG 5 ?_ rfl ?_ ?_;rotate_left
          · intro w hSw;(try dsimp only at hSw);go_simp;try with_reducible rfl
          simp only [Act.put,aU]
          clear hHeld
          refine bn (rs:=[3,6]) (by kernel_rfl) (by simp) ?_
          refine dF.cons rfl (fun K hK=>?_) (dF.cons rfl (fun K hK=>?_) dF.nil)
          · go_simp
            refine (qC _ ks _ (HK.out.keep (aa H3.out.b bY.out)) (by omega)).mono ?_
            rintro e W1 ⟨u,rfl,hu,hbb⟩;obtain ⟨ua,uc,rfl⟩:=cZ hu;have HB2:Hid (Below w3.heap.size w3 W1):=aa bY.out hbb;have HU:Hid (W1.ownsRow w3.heap.size 69 3 (.slice ua ks.length uc) ks.length (aS ks)):=aJ hu bY.out.size;have Fy:Hid (∀ k,(Value.slice ua ks.length uc).ownBlock=some k→k<W1.heap.size):=bD hu;refine hK.out _ _ (.inr (dK.out _ HB2.out)) ?_;clear hK K hu hbb bY;have bY:=HB2;clear HB2;refine bL 6 rfl (fun K hK=>?_);go_simp;have hbb:Below W1.heap.size W1 (W1.alloc (.cells #[.string t.s,.int .i64 t.x,.int .i64 t.y] 69)):=(aM);have HB2:Hid (Below w3.heap.size w3 (W1.alloc (.cells #[.string t.s,.int .i64 t.x,.int .i64 t.y] 69))):=aa bY.out hbb;have HV:Hid ((W1.alloc (.cells #[.string t.s,.int .i64 t.x,.int .i64 t.y] 69)).heap[W1.heap.size]?=some (.cells #[.string t.s,.int .i64 t.x,.int .i64 t.y] 69 (0,0))):=am W1 _;have HU2:Hid ((W1.alloc (.cells #[.string t.s,.int .i64 t.x,.int .i64 t.y] 69)).ownsRow w3.heap.size 69 3 (.slice ua ks.length uc) ks.length (aS ks)):=ah HU.out hbb;have iD:Hid ((Value.slice ua ks.length uc).ownBlock≠some W1.heap.size):=fun e=>Nat.lt_irrefl _ (Fy.out _ e);refine hK.out _ _ (.inr (dK.out _ HB2.out)) ?_;clear hK K hbb bY HU Fy;have bY:=HB2;have HU:=HU2;clear HB2 HU2;generalize W1.alloc (.cells #[.string t.s,.int .i64 t.x,.int .i64 t.y] 69)=W2 at *;refine bL 7 rfl (fun K hK=>?_);go_simp;refine (oK w3.heap.size W1.heap.size (iH ks t.s) _ ks t _ hpl hl bY.out.size HU.out iD.out HV.out).mono ?_;rintro e W3 ⟨v6,rfl,yE,hb6⟩;obtain ⟨va,vc,rfl⟩:=cZ yE;have HB2:Hid (Below w3.heap.size w3 W3):=bY.out.trans hb6;refine hK.out _ _ (.inr (dK.out _ HB2.out)) ?_;clear hK K bY HU HV iD hb6;have bY:=HB2;clear HB2;refine bL 8 rfl (fun K hK=>?_);go_simp;refine hK.out _ _ (.inr (dK.out _ bY.out)) ?_;clear hK K;refine bL 9 rfl (fun K hK=>?_);go_simp;refine hK.out _ _ (.inr (dK.out _ bY.out)) ?_;clear hK K;refine bL 10 rfl (fun K hK=>?_);have H6:Hid (TB w (.slice ak ks.length ck) (.slice ap np cp) (.slice ae ne ce) num s W3):=H3.out.keep bY.out;have lz:W3.cell? ⟨w.heap.size,0,none⟩=some (.slice ak ks.length ck):=(dK.out _ bY.out).1
            have lf:W3.frozen? ⟨w.heap.size,0,none⟩=false:=by simp [World.frozen?,H6.out.c1]
            have H7:=aq (H6.out.set0 (.slice va (ks.length+1) vc))
            have CJ:=aq (aJ (ar yE (aQ W3 w.heap.size 0 (.slice va (ks.length+1) vc)) (fun q hq e=>by have:=aw yE q hq;have:=HW5.out;injection e;omega)) (Nat.le_of_lt HW5.out))
            have HQ:Hid (∀ k,(Value.slice va (ks.length+1) vc).ownBlock=some k→w.heap.size+2<k):=fun k hq=>by have:=aw yE k hq;have:=HW6.out;omega
            go_simp;refine hK.out _ _ (.inl rfl) ?_;clear hK K lz lf yE bY H6
            refine aY (by kernel_rfl) ?_ _
            refine NoPanic.normal ?_;generalize W3.setCell ⟨w.heap.size,0,none⟩ (.slice va (ks.length+1) vc)=W4 at *;obtain ⟨⟨d0,d1,d2⟩,⟨f0,f1⟩,z1,z2,z3⟩:=H7.out.cells;have g0:=H7.out.c1;have g2:=H7.out.c3
            go_wp2_with (refine wpList_store_row rfl 30 _ _ rfl (w.heap.size+2) #[.slice va (ks.length+1) vc,.slice ap np cp,.slice ae ne ce] rfl rfl 30 _ g2 (by kernel_rfl) rfl (by simp [Value.oneCell']) ?_)
            exact bodyPost_ret (v:=.tuple #[.agg #[.slice va (ks.length+1) vc,.slice ap np cp,.slice ae ne ce],.nilIface]) (by simp [results,Tryz.results155,go_sem,cell_setRow_same _ _ _ _ _ _ _ g2]) rfl ⟨below_setRow H7.out.b (by omega) _,.inr ⟨hkc,_,rfl,ar CJ.out (aD W4 (w.heap.size+2) _) (fun q hq e=>by have:=HQ.out q hq;injection e;omega)⟩⟩
          · go_simp
            have hbb:Below W0.heap.size W0 (W0.alloc (.cells #[.string t.s,.int .i64 t.x,.int .i64 t.y] 69)):=(aM);have HB2:Hid (Below w3.heap.size w3 (W0.alloc (.cells #[.string t.s,.int .i64 t.x,.int .i64 t.y] 69))):=aa bY.out hbb;have HV:Hid ((W0.alloc (.cells #[.string t.s,.int .i64 t.x,.int .i64 t.y] 69)).heap[W0.heap.size]?=some (.cells #[.string t.s,.int .i64 t.x,.int .i64 t.y] 69 (0,0))):=am W0 _
            have Fy:Hid (W0.heap.size<(W0.alloc (.cells #[.string t.s,.int .i64 t.x,.int .i64 t.y] 69)).heap.size):=by show _<_;rw [World.size_alloc];omega
            refine hK.out _ _ (.inr (dK.out _ HB2.out)) ?_;clear hK K hbb bY;have bY:=HB2;clear HB2;generalize W0.alloc (.cells #[.string t.s,.int .i64 t.x,.int .i64 t.y] 69)=W1 at *;refine bL 3 rfl (fun K hK=>?_);go_simp
            refine (qC _ ks _ (HK.out.keep (aa H3.out.b bY.out)) (by omega)).mono ?_
            rintro e W2 ⟨u,rfl,hu,hbb⟩;obtain ⟨ua,uc,rfl⟩:=cZ hu;have HB2:Hid (Below w3.heap.size w3 W2):=aa bY.out hbb;have HU:Hid (W2.ownsRow w3.heap.size 69 3 (.slice ua ks.length uc) ks.length (aS ks)):=aJ hu bY.out.size
            have iD:Hid ((Value.slice ua ks.length uc).ownBlock≠some W0.heap.size):=fun e=>by have:=aw hu _ e;have:=Fy.out;omega
            have o5:Hid (W2.heap[W0.heap.size]?=some (.cells #[.string t.s,.int .i64 t.x,.int .i64 t.y] 69 (0,0))):=(hbb.block _ Fy.out).trans HV.out;refine hK.out _ _ (.inr (dK.out _ HB2.out)) ?_;clear hK K hu hbb bY HV Fy;have bY:=HB2;have HV:=o5;clear HB2 o5;refine bL 7 rfl (fun K hK=>?_);go_simp;refine (oK w3.heap.size W0.heap.size (iH ks t.s) _ ks t _ hpl hl bY.out.size HU.out iD.out HV.out).mono ?_;rintro e W3 ⟨v6,rfl,yE,hb6⟩;obtain ⟨va,vc,rfl⟩:=cZ yE;have HB2:Hid (Below w3.heap.size w3 W3):=bY.out.trans hb6;refine hK.out _ _ (.inr (dK.out _ HB2.out)) ?_;clear hK K bY HU HV iD hb6;have bY:=HB2;clear HB2;refine bL 8 rfl (fun K hK=>?_);go_simp;refine hK.out _ _ (.inr (dK.out _ bY.out)) ?_;clear hK K;refine bL 9 rfl (fun K hK=>?_);go_simp;refine hK.out _ _ (.inr (dK.out _ bY.out)) ?_;clear hK K;refine bL 10 rfl (fun K hK=>?_);have H6:Hid (TB w (.slice ak ks.length ck) (.slice ap np cp) (.slice ae ne ce) num s W3):=H3.out.keep bY.out;have lz:W3.cell? ⟨w.heap.size,0,none⟩=some (.slice ak ks.length ck):=(dK.out _ bY.out).1
            have lf:W3.frozen? ⟨w.heap.size,0,none⟩=false:=by simp [World.frozen?,H6.out.c1]
            have H7:=aq (H6.out.set0 (.slice va (ks.length+1) vc))
            have CJ:=aq (aJ (ar yE (aQ W3 w.heap.size 0 (.slice va (ks.length+1) vc)) (fun q hq e=>by have:=aw yE q hq;have:=HW5.out;injection e;omega)) (Nat.le_of_lt HW5.out))
            have HQ:Hid (∀ k,(Value.slice va (ks.length+1) vc).ownBlock=some k→w.heap.size+2<k):=fun k hq=>by have:=aw yE k hq;have:=HW6.out;omega
            go_simp;refine hK.out _ _ (.inl rfl) ?_;clear hK K lz lf yE bY H6
            refine aY (by kernel_rfl) ?_ _
            refine NoPanic.normal ?_;generalize W3.setCell ⟨w.heap.size,0,none⟩ (.slice va (ks.length+1) vc)=W4 at *;obtain ⟨⟨d0,d1,d2⟩,⟨f0,f1⟩,z1,z2,z3⟩:=H7.out.cells;have g0:=H7.out.c1;have g2:=H7.out.c3
            go_wp2_with (refine wpList_store_row rfl 30 _ _ rfl (w.heap.size+2) #[.slice va (ks.length+1) vc,.slice ap np cp,.slice ae ne ce] rfl rfl 30 _ g2 (by kernel_rfl) rfl (by simp [Value.oneCell']) ?_)
            exact bodyPost_ret (v:=.tuple #[.agg #[.slice va (ks.length+1) vc,.slice ap np cp,.slice ae ne ce],.nilIface]) (by simp [results,Tryz.results155,go_sem,cell_setRow_same _ _ _ _ _ _ _ g2]) rfl ⟨below_setRow H7.out.b (by omega) _,.inr ⟨hkc,_,rfl,ar CJ.out (aD W4 (w.heap.size+2) _) (fun q hq e=>by have:=HQ.out q hq;injection e;omega)⟩⟩
      · go_wp2_with fail
        refine (bR num 4 s _).mono ?_;rintro e w4 ⟨rfl,hb4⟩;have H4:Hid (TB w (.slice ak ks.length ck) (.slice ap np cp) (.slice ae ne ce) num s w4):=(H3.out).keep hb4;have g2:=H4.out.c3;have hkc:kc=4:=HC.out
        go_wp2_with (refine wpList_store_row rfl 30 _ _ rfl (w.heap.size+2) #[.slice none 0 0,.slice none 0 0,.slice none 0 0] rfl rfl 30 _ g2 (by kernel_rfl) rfl (by simp [Value.oneCell']) ?_)
        exact bodyPost_ret (v:=eY num 4) (by simp [results,Tryz.results155,go_sem,cell_setRow_same _ _ _ _ _ _ _ g2,eY]) rfl ⟨below_setRow H4.out.b (by omega) _,.inl ⟨by rw [hkc];decide,by rw [hkc]⟩⟩
theorem zu (num : Int) (s : ByteArray) (v : Value) (ap ae : Option Addr) (np cp ne ce : Nat) (ks : List dx) (w : World) (hk : dA w v ks) (hs : s.size ≤ 1048576) (hl : ks.length ≤ 1000) :
    Calls Tryz.prog 156 #[.agg #[.slice ap np cp,v,.slice ae ne ce],.agg #[.int .i64 num,.string s]] w fun e w'=>Below w.heap.size w w' ∧
      ((fO ks (dn s)≠0∧e=.returned (eY num (fO ks (dn s)))) ∨
       (fO ks (dn s)=0∧∃ u,e=.returned (.tuple #[.agg #[.slice ap np cp,u,.slice ae ne ce],.nilIface])∧w'.ownsRow w.heap.size 72 3 u (ks.length+1) (aS (fD ks (iH ks (fC (dn s)).s) (fC (dn s)))))):=by
  have hsz:∀ i,i<(dn s).length→(dE (dn s) i).size≤1048576:=fun i hi=>Nat.le_trans (kY hi) hs;obtain ⟨t,ok,hR,htz,hok,hokp,hti⟩:=xQ (dn s) r9 (fun x=>rfl) 1048576 hsz
  have MS:Hid (∀ wx:World,Calls Tryz.prog 179 #[.agg #[.int .i64 num,.string s]] wx fun e w'=>e=.returned (.tuple #[.string t.s,.int .i64 t.x,.int .i64 t.y,.bool ok])∧Below wx.heap.size wx w'):=fun wx=>by
    have h:=Ai num s wx hs;rw [hR] at h;exact h
  have HC:Hid (fO ks (dn s)=bif ok&&dH [t] then (bif hasB ks t.s then 4 else bif gK ks t then 5 else bif decide (16≤ks.length) then 6 else 0) else 3):=by
    show _=_
    unfold fO;rw [← hokp]
    cases ok
    · rfl
    · rw [hti rfl]
  have HT:Hid (ok=true→fC (dn s)=t):=fun h=>(hti h).symm;generalize fO ks (dn s)=kc at *;generalize fC (dn s)=tt at *;clear hok hokp hti hR hsz;have HK:=aq hk;obtain ⟨ak,ck,rfl,hlc,hcm,-⟩:=hk;unfold maxLen at hcm
  have HKO:Hid (∀ (wx:World) (vb:Nat),wx.heap[vb]?=some (.cells #[.string t.s,.int .i64 t.x,.int .i64 t.y] 72 (0,0))→Calls Tryz.prog 80 #[.slice (some ⟨vb,0,none⟩) 1 1] wx fun e w'=>e=.returned (.bool (dH [t]))∧Below wx.heap.size wx w'):=fun wx vb hv=>rQ _ [t] wx (Il hv) (fun x hx=>by simp at hx;subst hx;unfold maxLen;omega)
  have Ka:Hid (∀ wx:World,Below w.heap.size w wx→Calls Tryz.prog 183 #[.slice ak ks.length ck,.string t.s,.func (.func 132) #[] #[]] wx fun e w'=>e=.returned (.tuple #[.int .i64 (iH ks t.s:Nat),.bool (hasB ks t.s)])∧Below wx.heap.size wx w'):=fun wx hx=>ou _ ks t.s wx (HK.out.keep hx)
  have HCT:Hid (∀ wx:World,Below w.heap.size w wx→Calls Tryz.prog 134 #[.slice ak ks.length ck,.agg #[.string t.s,.int .i64 t.x,.int .i64 t.y]] wx fun e w'=>e=.returned (.bool (gK ks t))∧Below wx.heap.size wx w'):=fun wx hx=>by
    rw [← J4];exact l9 _ ks t wx (HK.out.keep hx)
  generalize gK ks t=tb at *;generalize dH [t]=kb at *;generalize hhb:hasB ks t.s=hb at *;clear hhb;have hpl:=BG ks t.s
  go_enter Tryz.func156,Tryz.ntmps156
  go_wp2_with fail;refine (MS.out _).mono ?_;rintro e w1 ⟨rfl,hb1⟩;have H1:Hid (TB w (.slice ap np cp) (.slice ak ks.length ck) (.slice ae ne ce) num s w1):=TB.start hb1;clear hb1;obtain ⟨⟨d0,d1,d2⟩,⟨f0,f1⟩,z1,z2,z3⟩:=H1.out.cells;have g0:=H1.out.c1
  cases ok
  · go_wp2_with fail
    refine (bR num 3 s _).mono ?_;rintro e w2 ⟨rfl,hb2⟩;have H2:Hid (TB w (.slice ap np cp) (.slice ak ks.length ck) (.slice ae ne ce) num s w2):=(H1.out.keep (aM)).keep hb2;have g2:=H2.out.c3;have hkc:kc=3:=HC.out
    go_wp2_with (refine wpList_store_row rfl 30 _ _ rfl (w.heap.size+2) #[.slice none 0 0,.slice none 0 0,.slice none 0 0] rfl rfl 30 _ g2 (by kernel_rfl) rfl (by simp [Value.oneCell']) ?_)
    exact bodyPost_ret (v:=eY num 3) (by simp [results,Tryz.results156,go_sem,cell_setRow_same _ _ _ _ _ _ _ g2,eY]) rfl ⟨below_setRow H2.out.b (by omega) _,.inl ⟨by rw [hkc];decide,by rw [hkc]⟩⟩
  · have hT:t=tt:=(HT.out rfl).symm
    subst hT;go_wp2_with fail
    have HA:Hid (Below w1.heap.size w1 ((w1.alloc (.cells #[.string t.s,.int .i64 t.x,.int .i64 t.y] 72)).alloc (.cells #[.string t.s,.int .i64 t.x,.int .i64 t.y] 72))):=(aM).alloc (by simp) _
    have HKB:Hid (((w1.alloc (.cells #[.string t.s,.int .i64 t.x,.int .i64 t.y] 72)).alloc (.cells #[.string t.s,.int .i64 t.x,.int .i64 t.y] 72)).heap[w1.heap.size]?=some (.cells #[.string t.s,.int .i64 t.x,.int .i64 t.y] 72 (0,0))):=j4 w1 _ _
    have o5:Hid (((w1.alloc (.cells #[.string t.s,.int .i64 t.x,.int .i64 t.y] 72)).alloc (.cells #[.string t.s,.int .i64 t.x,.int .i64 t.y] 72)).heap[w1.heap.size+1]?=some (.cells #[.string t.s,.int .i64 t.x,.int .i64 t.y] 72 (0,0))):=by
      have h:=am (w1.alloc (.cells #[.string t.s,.int .i64 t.x,.int .i64 t.y] 72)) (.cells #[.string t.s,.int .i64 t.x,.int .i64 t.y] 72);rw [World.size_alloc] at h;exact h
    refine (HKO.out _ (w1.heap.size+1) o5.out).mono ?_;rintro e w2 ⟨rfl,hb2⟩;have H2:Hid (TB w (.slice ap np cp) (.slice ak ks.length ck) (.slice ae ne ce) num s w2):=(H1.out.keep HA.out).keep hb2;have HB2:Hid (w2.heap[w1.heap.size]?=some (.cells #[.string t.s,.int .i64 t.x,.int .i64 t.y] 72 (0,0))):=(hb2.block _ (Array.getElem?_eq_some_iff.1 HKB.out).1).trans HKB.out;clear hb2 HA HKB o5 H1;clear d0 d1 d2 f0 f1 z1 z2 z3 g0;obtain ⟨⟨d0,d1,d2⟩,⟨f0,f1⟩,z1,z2,z3⟩:=H2.out.cells;have g0:=H2.out.c1
    cases kb
    · go_wp2_with fail
      refine (bR num 3 s _).mono ?_;rintro e w3 ⟨rfl,hb3⟩;have H3:Hid (TB w (.slice ap np cp) (.slice ak ks.length ck) (.slice ae ne ce) num s w3):=(H2.out).keep hb3;have g2:=H3.out.c3;have hkc:kc=3:=HC.out
      go_wp2_with (refine wpList_store_row rfl 30 _ _ rfl (w.heap.size+2) #[.slice none 0 0,.slice none 0 0,.slice none 0 0] rfl rfl 30 _ g2 (by kernel_rfl) rfl (by simp [Value.oneCell']) ?_)
      exact bodyPost_ret (v:=eY num 3) (by simp [results,Tryz.results156,go_sem,cell_setRow_same _ _ _ _ _ _ _ g2,eY]) rfl ⟨below_setRow H3.out.b (by omega) _,.inl ⟨by rw [hkc];decide,by rw [hkc]⟩⟩
    · go_wp2_with fail
      refine (Ka.out _ H2.out.b).mono ?_;rintro e w3 ⟨rfl,hb3⟩;have H3:Hid (TB w (.slice ap np cp) (.slice ak ks.length ck) (.slice ae ne ce) num s w3):=H2.out.keep hb3;have HB3:Hid (w3.heap[w1.heap.size]?=some (.cells #[.string t.s,.int .i64 t.x,.int .i64 t.y] 72 (0,0))):=(hb3.block _ (Array.getElem?_eq_some_iff.1 HB2.out).1).trans HB2.out;clear hb3 HB2 H2;clear d0 d1 d2 f0 f1 z1 z2 z3 g0;obtain ⟨⟨d0,d1,d2⟩,⟨f0,f1⟩,z1,z2,z3⟩:=H3.out.cells;have g0:=H3.out.c1
      cases hb
      · have y0:w3.cell? ⟨w1.heap.size,0,none⟩=some (.string t.s):=by simp [World.cell?,HB3.out]
        have y1:w3.cell? ⟨w1.heap.size,1,none⟩=some (.int .i64 t.x):=by simp [World.cell?,HB3.out]
        have y2:w3.cell? ⟨w1.heap.size,2,none⟩=some (.int .i64 t.y):=by simp [World.cell?,HB3.out]
        have z4:w1.heap.size<w3.heap.size:=(Array.getElem?_eq_some_iff.1 HB3.out).1;go_wp2_with fail;refine (HCT.out _ H3.out.b).mono ?_;rintro e w4 ⟨rfl,hb4⟩;have H4:Hid (TB w (.slice ap np cp) (.slice ak ks.length ck) (.slice ae ne ce) num s w4):=H3.out.keep hb4;have HB4:Hid (w4.heap[w1.heap.size]?=some (.cells #[.string t.s,.int .i64 t.x,.int .i64 t.y] 72 (0,0))):=(hb4.block _ (Array.getElem?_eq_some_iff.1 HB3.out).1).trans HB3.out;clear hb4 HB3 H3 y0 y1 y2 z4;clear d0 d1 d2 f0 f1 z1 z2 z3 g0;obtain ⟨⟨d0,d1,d2⟩,⟨f0,f1⟩,z1,z2,z3⟩:=H4.out.cells;have g0:=H4.out.c1
        cases tb
        · skip
          by_cases h6:16≤ks.length
          · have h6i:(16:Int)≤(ks.length:Int):=by omega
            go_wp2_with fail;refine (bR num 6 s _).mono ?_;rintro e w9 ⟨rfl,oL⟩;have H9:Hid (TB w (.slice ap np cp) (.slice ak ks.length ck) (.slice ae ne ce) num s w9):=(H4.out).keep oL;have g2:=H9.out.c3
            have hkc:kc=6:=HC.out.trans (by rw [decide_eq_true h6];rfl)
            go_wp2_with (refine wpList_store_row rfl 30 _ _ rfl (w.heap.size+2) #[.slice none 0 0,.slice none 0 0,.slice none 0 0] rfl rfl 30 _ g2 (by kernel_rfl) rfl (by simp [Value.oneCell']) ?_)
            exact bodyPost_ret (v:=eY num 6) (by simp [results,Tryz.results156,go_sem,cell_setRow_same _ _ _ _ _ _ _ g2,eY]) rfl ⟨below_setRow H9.out.b (by omega) _,.inl ⟨by rw [hkc];decide,by rw [hkc]⟩⟩
          · have h6i:¬ (16:Int)≤(ks.length:Int):=by omega
            have hkc:kc=0:=HC.out.trans (by rw [decide_eq_false h6];rfl)
            go_wp2_with fail
            have dK:Hid (∀ w':World,Below w4.heap.size w4 w'→w'.cell? ⟨w.heap.size,1,none⟩=some (.slice ak ks.length ck)∧w'.cell? ⟨w1.heap.size,0,none⟩=some (.string t.s)∧w'.cell? ⟨w1.heap.size,1,none⟩=some (.int .i64 t.x)∧w'.cell? ⟨w1.heap.size,2,none⟩=some (.int .i64 t.y)):=fun w' hx=>by
              have h1:=(H4.out.keep hx).c1;have h2:=(hx.block _ (Array.getElem?_eq_some_iff.1 HB4.out).1).trans HB4.out
              exact ⟨by simp [World.cell?,h1],by simp [World.cell?,h2],by simp [World.cell?,h2],by simp [World.cell?,h2]⟩
            have HW5:Hid (w.heap.size<w4.heap.size):=z1;have HW6:Hid (w.heap.size+2<w4.heap.size):=z3;clear d0 d1 d2 f0 f1 z1 z2 z3 g0;refine wp_region_noPanic ?_
            refine bj (S:=fun w'=>w'.cell? ⟨w.heap.size,1,none⟩=some (.slice ak ks.length ck)∧w'.cell? ⟨w1.heap.size,0,none⟩=some (.string t.s)∧w'.cell? ⟨w1.heap.size,1,none⟩=some (.int .i64 t.x)∧w'.cell? ⟨w1.heap.size,2,none⟩=some (.int .i64 t.y)) 10 (by kernel_rfl) ?_ (fun hHeld=>?_)
            · exact dK.out _ (Below.refl _ _).drew
            have bY:Hid (Below w4.heap.size w4 w4.drew):=(Below.refl _ _).drew;generalize w4.drew=W0 at *;refine bG 0 ?_ rfl ?_ ?_;rotate_left
            · intro w hSw;(try dsimp only at hSw);go_simp;try with_reducible rfl
            simp only [Act.put,aU]
            refine bG 1 ?_ rfl ?_ ?_;rotate_left
            · intro w hSw;(try dsimp only at hSw);go_simp;try with_reducible rfl
            simp only [Act.put,aU]
            refine bG 2 ?_ rfl ?_ ?_;rotate_left
            · intro w hSw;(try dsimp only at hSw);go_simp;try with_reducible rfl
            simp only [Act.put,aU]
            refine bG 4 ?_ rfl ?_ ?_;rotate_left
            · intro w hSw;(try dsimp only at hSw);go_simp;try with_reducible rfl
            simp only [Act.put,aU]
            refine bG 5 ?_ rfl ?_ ?_;rotate_left
            · intro w hSw;(try dsimp only at hSw);go_simp;try with_reducible rfl
            simp only [Act.put,aU]
            clear hHeld
            refine bn (rs:=[3,6]) (by kernel_rfl) (by simp) ?_
            refine dF.cons rfl (fun K hK=>?_) (dF.cons rfl (fun K hK=>?_) dF.nil)
            · go_simp
              refine (oQ _ ks _ (HK.out.keep (aa H4.out.b bY.out)) (by omega)).mono ?_
              rintro e W1 ⟨u,rfl,hu,hbb⟩;obtain ⟨ua,uc,rfl⟩:=cZ hu;have HB2:Hid (Below w4.heap.size w4 W1):=aa bY.out hbb;have HU:Hid (W1.ownsRow w4.heap.size 72 3 (.slice ua ks.length uc) ks.length (aS ks)):=aJ hu bY.out.size;have Fy:Hid (∀ k,(Value.slice ua ks.length uc).ownBlock=some k→k<W1.heap.size):=bD hu;refine hK.out _ _ (.inr (dK.out _ HB2.out)) ?_;clear hK K hu hbb bY;have bY:=HB2;clear HB2;refine bL 6 rfl (fun K hK=>?_);go_simp;have hbb:Below W1.heap.size W1 (W1.alloc (.cells #[.string t.s,.int .i64 t.x,.int .i64 t.y] 72)):=(aM);have HB2:Hid (Below w4.heap.size w4 (W1.alloc (.cells #[.string t.s,.int .i64 t.x,.int .i64 t.y] 72))):=aa bY.out hbb;have HV:Hid ((W1.alloc (.cells #[.string t.s,.int .i64 t.x,.int .i64 t.y] 72)).heap[W1.heap.size]?=some (.cells #[.string t.s,.int .i64 t.x,.int .i64 t.y] 72 (0,0))):=am W1 _;have HU2:Hid ((W1.alloc (.cells #[.string t.s,.int .i64 t.x,.int .i64 t.y] 72)).ownsRow w4.heap.size 72 3 (.slice ua ks.length uc) ks.length (aS ks)):=ah HU.out hbb;have iD:Hid ((Value.slice ua ks.length uc).ownBlock≠some W1.heap.size):=fun e=>Nat.lt_irrefl _ (Fy.out _ e);refine hK.out _ _ (.inr (dK.out _ HB2.out)) ?_;clear hK K hbb bY HU Fy;have bY:=HB2;have HU:=HU2;clear HB2 HU2;generalize W1.alloc (.cells #[.string t.s,.int .i64 t.x,.int .i64 t.y] 72)=W2 at *;refine bL 7 rfl (fun K hK=>?_);go_simp;refine (nS w4.heap.size W1.heap.size (iH ks t.s) _ ks t _ hpl hl bY.out.size HU.out iD.out HV.out).mono ?_;rintro e W3 ⟨v6,rfl,yE,hb6⟩;obtain ⟨va,vc,rfl⟩:=cZ yE;have HB2:Hid (Below w4.heap.size w4 W3):=bY.out.trans hb6;refine hK.out _ _ (.inr (dK.out _ HB2.out)) ?_;clear hK K bY HU HV iD hb6;have bY:=HB2;clear HB2;refine bL 8 rfl (fun K hK=>?_);go_simp;refine hK.out _ _ (.inr (dK.out _ bY.out)) ?_;clear hK K;refine bL 9 rfl (fun K hK=>?_);go_simp;refine hK.out _ _ (.inr (dK.out _ bY.out)) ?_;clear hK K;refine bL 10 rfl (fun K hK=>?_);have H6:Hid (TB w (.slice ap np cp) (.slice ak ks.length ck) (.slice ae ne ce) num s W3):=H4.out.keep bY.out;have lz:W3.cell? ⟨w.heap.size,1,none⟩=some (.slice ak ks.length ck):=(dK.out _ bY.out).1
              have lf:W3.frozen? ⟨w.heap.size,1,none⟩=false:=by simp [World.frozen?,H6.out.c1]
              have H7:=aq (H6.out.set1 (.slice va (ks.length+1) vc))
              have CJ:=aq (aJ (ar yE (aQ W3 w.heap.size 1 (.slice va (ks.length+1) vc)) (fun q hq e=>by have:=aw yE q hq;have:=HW5.out;injection e;omega)) (Nat.le_of_lt HW5.out))
              have HQ:Hid (∀ k,(Value.slice va (ks.length+1) vc).ownBlock=some k→w.heap.size+2<k):=fun k hq=>by have:=aw yE k hq;have:=HW6.out;omega
              go_simp;refine hK.out _ _ (.inl rfl) ?_;clear hK K lz lf yE bY H6
              refine aY (by kernel_rfl) ?_ _
              refine NoPanic.normal ?_;generalize W3.setCell ⟨w.heap.size,1,none⟩ (.slice va (ks.length+1) vc)=W4 at *;obtain ⟨⟨d0,d1,d2⟩,⟨f0,f1⟩,z1,z2,z3⟩:=H7.out.cells;have g0:=H7.out.c1;have g2:=H7.out.c3
              go_wp2_with (refine wpList_store_row rfl 30 _ _ rfl (w.heap.size+2) #[.slice ap np cp,.slice va (ks.length+1) vc,.slice ae ne ce] rfl rfl 30 _ g2 (by kernel_rfl) rfl (by simp [Value.oneCell']) ?_)
              exact bodyPost_ret (v:=.tuple #[.agg #[.slice ap np cp,.slice va (ks.length+1) vc,.slice ae ne ce],.nilIface]) (by simp [results,Tryz.results156,go_sem,cell_setRow_same _ _ _ _ _ _ _ g2]) rfl ⟨below_setRow H7.out.b (by omega) _,.inr ⟨hkc,_,rfl,ar CJ.out (aD W4 (w.heap.size+2) _) (fun q hq e=>by have:=HQ.out q hq;injection e;omega)⟩⟩
            · go_simp
              have hbb:Below W0.heap.size W0 (W0.alloc (.cells #[.string t.s,.int .i64 t.x,.int .i64 t.y] 72)):=(aM);have HB2:Hid (Below w4.heap.size w4 (W0.alloc (.cells #[.string t.s,.int .i64 t.x,.int .i64 t.y] 72))):=aa bY.out hbb;have HV:Hid ((W0.alloc (.cells #[.string t.s,.int .i64 t.x,.int .i64 t.y] 72)).heap[W0.heap.size]?=some (.cells #[.string t.s,.int .i64 t.x,.int .i64 t.y] 72 (0,0))):=am W0 _
              have Fy:Hid (W0.heap.size<(W0.alloc (.cells #[.string t.s,.int .i64 t.x,.int .i64 t.y] 72)).heap.size):=by show _<_;rw [World.size_alloc];omega
              refine hK.out _ _ (.inr (dK.out _ HB2.out)) ?_;clear hK K hbb bY;have bY:=HB2;clear HB2;generalize W0.alloc (.cells #[.string t.s,.int .i64 t.x,.int .i64 t.y] 72)=W1 at *;refine bL 3 rfl (fun K hK=>?_);go_simp
              refine (oQ _ ks _ (HK.out.keep (aa H4.out.b bY.out)) (by omega)).mono ?_
              rintro e W2 ⟨u,rfl,hu,hbb⟩;obtain ⟨ua,uc,rfl⟩:=cZ hu;have HB2:Hid (Below w4.heap.size w4 W2):=aa bY.out hbb;have HU:Hid (W2.ownsRow w4.heap.size 72 3 (.slice ua ks.length uc) ks.length (aS ks)):=aJ hu bY.out.size
              have iD:Hid ((Value.slice ua ks.length uc).ownBlock≠some W0.heap.size):=fun e=>by have:=aw hu _ e;have:=Fy.out;omega
              have o5:Hid (W2.heap[W0.heap.size]?=some (.cells #[.string t.s,.int .i64 t.x,.int .i64 t.y] 72 (0,0))):=(hbb.block _ Fy.out).trans HV.out;refine hK.out _ _ (.inr (dK.out _ HB2.out)) ?_;clear hK K hu hbb bY HV Fy;have bY:=HB2;have HV:=o5;clear HB2 o5;refine bL 7 rfl (fun K hK=>?_);go_simp;refine (nS w4.heap.size W0.heap.size (iH ks t.s) _ ks t _ hpl hl bY.out.size HU.out iD.out HV.out).mono ?_;rintro e W3 ⟨v6,rfl,yE,hb6⟩;obtain ⟨va,vc,rfl⟩:=cZ yE;have HB2:Hid (Below w4.heap.size w4 W3):=bY.out.trans hb6;refine hK.out _ _ (.inr (dK.out _ HB2.out)) ?_;clear hK K bY HU HV iD hb6;have bY:=HB2;clear HB2;refine bL 8 rfl (fun K hK=>?_);go_simp;refine hK.out _ _ (.inr (dK.out _ bY.out)) ?_;clear hK K;refine bL 9 rfl (fun K hK=>?_);go_simp;refine hK.out _ _ (.inr (dK.out _ bY.out)) ?_;clear hK K;refine bL 10 rfl (fun K hK=>?_);have H6:Hid (TB w (.slice ap np cp) (.slice ak ks.length ck) (.slice ae ne ce) num s W3):=H4.out.keep bY.out;have lz:W3.cell? ⟨w.heap.size,1,none⟩=some (.slice ak ks.length ck):=(dK.out _ bY.out).1
              have lf:W3.frozen? ⟨w.heap.size,1,none⟩=false:=by simp [World.frozen?,H6.out.c1]
              have H7:=aq (H6.out.set1 (.slice va (ks.length+1) vc))
              have CJ:=aq (aJ (ar yE (aQ W3 w.heap.size 1 (.slice va (ks.length+1) vc)) (fun q hq e=>by have:=aw yE q hq;have:=HW5.out;injection e;omega)) (Nat.le_of_lt HW5.out))
              have HQ:Hid (∀ k,(Value.slice va (ks.length+1) vc).ownBlock=some k→w.heap.size+2<k):=fun k hq=>by have:=aw yE k hq;have:=HW6.out;omega
              go_simp;refine hK.out _ _ (.inl rfl) ?_;clear hK K lz lf yE bY H6
              refine aY (by kernel_rfl) ?_ _
              refine NoPanic.normal ?_;generalize W3.setCell ⟨w.heap.size,1,none⟩ (.slice va (ks.length+1) vc)=W4 at *;obtain ⟨⟨d0,d1,d2⟩,⟨f0,f1⟩,z1,z2,z3⟩:=H7.out.cells;have g0:=H7.out.c1;have g2:=H7.out.c3
              go_wp2_with (refine wpList_store_row rfl 30 _ _ rfl (w.heap.size+2) #[.slice ap np cp,.slice va (ks.length+1) vc,.slice ae ne ce] rfl rfl 30 _ g2 (by kernel_rfl) rfl (by simp [Value.oneCell']) ?_)
              exact bodyPost_ret (v:=.tuple #[.agg #[.slice ap np cp,.slice va (ks.length+1) vc,.slice ae ne ce],.nilIface]) (by simp [results,Tryz.results156,go_sem,cell_setRow_same _ _ _ _ _ _ _ g2]) rfl ⟨below_setRow H7.out.b (by omega) _,.inr ⟨hkc,_,rfl,ar CJ.out (aD W4 (w.heap.size+2) _) (fun q hq e=>by have:=HQ.out q hq;injection e;omega)⟩⟩
        · go_wp2_with fail
          refine (bR num 5 s _).mono ?_;rintro e w9 ⟨rfl,oL⟩;have H9:Hid (TB w (.slice ap np cp) (.slice ak ks.length ck) (.slice ae ne ce) num s w9):=(H4.out).keep oL;have g2:=H9.out.c3;have hkc:kc=5:=HC.out
          go_wp2_with (refine wpList_store_row rfl 30 _ _ rfl (w.heap.size+2) #[.slice none 0 0,.slice none 0 0,.slice none 0 0] rfl rfl 30 _ g2 (by kernel_rfl) rfl (by simp [Value.oneCell']) ?_)
          exact bodyPost_ret (v:=eY num 5) (by simp [results,Tryz.results156,go_sem,cell_setRow_same _ _ _ _ _ _ _ g2,eY]) rfl ⟨below_setRow H9.out.b (by omega) _,.inl ⟨by rw [hkc];decide,by rw [hkc]⟩⟩
      · go_wp2_with fail
        refine (bR num 4 s _).mono ?_;rintro e w4 ⟨rfl,hb4⟩;have H4:Hid (TB w (.slice ap np cp) (.slice ak ks.length ck) (.slice ae ne ce) num s w4):=(H3.out).keep hb4;have g2:=H4.out.c3;have hkc:kc=4:=HC.out
        go_wp2_with (refine wpList_store_row rfl 30 _ _ rfl (w.heap.size+2) #[.slice none 0 0,.slice none 0 0,.slice none 0 0] rfl rfl 30 _ g2 (by kernel_rfl) rfl (by simp [Value.oneCell']) ?_)
        exact bodyPost_ret (v:=eY num 4) (by simp [results,Tryz.results156,go_sem,cell_setRow_same _ _ _ _ _ _ _ g2,eY]) rfl ⟨below_setRow H4.out.b (by omega) _,.inl ⟨by rw [hkc];decide,by rw [hkc]⟩⟩
end Go.Proofs.YtcmgddnckohdaaaGreatDoor.Tx
