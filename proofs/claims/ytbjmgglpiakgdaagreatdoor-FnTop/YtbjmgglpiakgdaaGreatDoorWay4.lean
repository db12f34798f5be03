import Derived.Test.YtbjmgglpiakgdaaGreatDoorApp
import Derived.Test.YtbjmgglpiakgdaaGreatDoorWay0
import Derived.Laws.CopyOwn
import Derived.Test.YtbjmgglpiakgdaaGreatDoorFits2
set_option maxRecDepth 100000
set_option maxHeartbeats 3200000
set_option linter.unusedSimpArgs false
set_option linter.unusedVariables false
namespace Go.Proofs.YtbjmgglpiakgdaaGreatDoor
open Go.RowKit
def Cel.In (c:Cel):Prop:=(0≤c.x∧c.x≤15)∧0≤c.y∧c.y≤15
theorem legN_le {a b:Cel} (ha:a.In) (hb:b.In):legN a b≤15:=by
 obtain ⟨⟨h1,h2⟩,h3,h4⟩:=ha;obtain ⟨⟨k1,k2⟩,k3,k4⟩:=hb;unfold legN maxI absI
 split <;> split <;> split <;> omega
theorem apart_any (a b:Int) (w:World) (ha:-100≤a∧a≤100) (hb:-100≤b∧b≤100) :
  Calls Tryz.prog 138 #[.int .i64 a,.int .i64 b] w fun e w'=>e=.returned (.int .i64 (absI (a-b)))∧w'=w:=by
 obtain ⟨h1,h2⟩:=ha;obtain ⟨h3,h4⟩:=hb
 rcases (show a-b<b-a∨¬ a-b<b-a by omega) with h | h
 ·have e:absI (a-b)=b-a:=by unfold absI;split <;> omega
  rw [e];clear e
  have h5:¬ b-a<a-b:=by omega
  go_enter Tryz.func138,Tryz.ntmps138
  go_wp2;go_ret;exact ⟨rfl,rfl⟩
 ·have e:absI (a-b)=a-b:=by unfold absI;split <;> omega
  rw [e];clear e
  go_enter Tryz.func138,Tryz.ntmps138
  go_wp2
  all_goals (go_ret;exact ⟨ret_int (by omega),rfl⟩)
theorem partWay_any (f t k n:Int) (w:World) (hf:0≤f∧f≤15) (ht:0≤t∧t≤15) (hk:0≤k) (hkn:k≤n) (hn:1≤n) (hn':n≤15) :
  Calls Tryz.prog 139 #[.int .i64 f,.int .i64 t,.int .i64 k,.int .i64 n] w fun e w'=>e=.returned (.int .i64 (partW f t k n))∧w'=w:=by
 obtain ⟨h1,h2⟩:=hf;obtain ⟨h3,h4⟩:=ht;have hp:=partW_pos f t k n h1 h3 hk hkn;have HT:Hid ((2*(f*n+(t-f)*k)+n).tdiv (2*n)=partW f t k n):=partW_tdiv f t k n h1 h3 hk hkn
 have a1:0≤f*n:=Int.mul_nonneg h1 (by omega)
 have a2:f*n≤15*15:=Int.mul_le_mul h2 hn' (by omega) (by omega)
 have b1:(t-f)*k≤15*15:=by
  rcases (show 0≤t-f∨t-f≤0 by omega) with h | h
  ·exact Int.mul_le_mul (by omega) (by omega) hk (by omega)
  ·have:=Int.mul_nonneg (show 0≤f-t by omega) hk
   have e:(t-f)*k=- ((f-t)*k):=by rw [← Int.neg_mul];congr 1;omega
   omega
 have b2:- (15*15)≤(t-f)*k:=by
  rcases (show 0≤t-f∨t-f≤0 by omega) with h | h
  ·have:=Int.mul_nonneg h hk
   omega
  ·have h9:(f-t)*k≤15*15:=Int.mul_le_mul (by omega) (by omega) hk (by omega)
   have e:(t-f)*k=- ((f-t)*k):=by rw [← Int.neg_mul];congr 1;omega
   omega
 have hz:2*n≠0:=by omega
 have hz2:¬ n=0:=by omega
 go_enter Tryz.func139,Tryz.ntmps139
 go_wp2;go_ret;exact ⟨rfl,rfl⟩
theorem lesser_any (a b:Cel) (w:World) :
  Calls Tryz.prog 125 #[.agg #[.int .i64 a.x,.int .i64 a.y],.agg #[.int .i64 b.x,.int .i64 b.y]] w fun e w'=>e=.returned (.bool (lesser a b))∧Below w.heap.size w w':=by
 obtain ⟨ax,ay⟩:=a;obtain ⟨bx,bY⟩:=b
 have HB:Hid (Below w.heap.size w ((w.alloc (.cells #[.int .i64 ax,.int .i64 ay] 77)).alloc (.cells #[.int .i64 bx,.int .i64 bY] 77))):=(bal).alloc (by simp) _
 dsimp only
 by_cases h:ax=bx
 ·have HE:Hid (lesser ⟨ax,ay⟩ ⟨bx,bY⟩=decide (ay<bY)):=by show _=_;unfold lesser;rw [if_pos h]
  have hq:(ax != bx)=false:=by simp [h]
  clear h
  go_enter Tryz.func125,Tryz.ntmps125
  go_wp2;go_ret;exact ⟨ret_bool HE.out.symm,HB.out⟩
 ·have HE:Hid (lesser ⟨ax,ay⟩ ⟨bx,bY⟩=decide (ax<bx)):=by show _=_;unfold lesser;rw [if_neg h]
  have hq:(ax != bx)=true:=by simp [h]
  clear h
  go_enter Tryz.func125,Tryz.ntmps125
  go_wp2;go_ret;exact ⟨ret_bool HE.out.symm,HB.out⟩
open Go.RowKit
abbrev cv (c:Cel):Value:=.agg #[.int .i64 c.x,.int .i64 c.y]
theorem heap_newW (w:World) (o:Obj):(w.alloc o).heap[w.heap.size]?=some o:=by show (w.heap.push o)[w.heap.size]?=some o;simp
theorem max_apart (a b:Cel):legN a b=if absI (a.x-b.x)<absI (a.y-b.y) then absI (a.y-b.y) else absI (a.x-b.x):=by
 unfold legN maxI;split <;> split <;> omega
theorem stepsBetween_any (a b:Cel) (w:World) (ha:a.In) (hb:b.In) :
  Calls Tryz.prog 123 #[cv a,cv b] w fun e w'=>e=.returned (.int .i64 (legN a b))∧Below w.heap.size w w':=by
 obtain ⟨⟨a1,a2⟩,a3,a4⟩:=ha;obtain ⟨⟨b1,b2⟩,b3,b4⟩:=hb
 have HB:Hid (Below w.heap.size w ((w.alloc (.cells #[.int .i64 a.x,.int .i64 a.y] 77)).alloc (.cells #[.int .i64 b.x,.int .i64 b.y] 77))):=(bal).alloc (by simp) _
 have HS:Hid (((w.alloc (.cells #[.int .i64 a.x,.int .i64 a.y] 77)).alloc (.cells #[.int .i64 b.x,.int .i64 b.y] 77)).cell? ⟨w.heap.size,0,none⟩=some (.int .i64 a.x)∧((w.alloc (.cells #[.int .i64 a.x,.int .i64 a.y] 77)).alloc (.cells #[.int .i64 b.x,.int .i64 b.y] 77)).cell? ⟨w.heap.size,1,none⟩=some (.int .i64 a.y)∧((w.alloc (.cells #[.int .i64 a.x,.int .i64 a.y] 77)).alloc (.cells #[.int .i64 b.x,.int .i64 b.y] 77)).cell? ⟨w.heap.size+1,0,none⟩=some (.int .i64 b.x)∧((w.alloc (.cells #[.int .i64 a.x,.int .i64 a.y] 77)).alloc (.cells #[.int .i64 b.x,.int .i64 b.y] 77)).cell? ⟨w.heap.size+1,1,none⟩=some (.int .i64 b.y)):=⟨by simp [go_sem],by simp [go_sem],by simp [go_sem],by simp [go_sem]⟩
 have HX:Hid (∀ wx:World,Calls Tryz.prog 138 #[.int .i64 a.x,.int .i64 b.x] wx fun e w'=>e=.returned (.int .i64 (absI (a.x-b.x)))∧w'=wx):=fun wx=>apart_any _ _ wx ⟨by omega,by omega⟩ ⟨by omega,by omega⟩
 have HY:Hid (∀ wx:World,Calls Tryz.prog 138 #[.int .i64 a.y,.int .i64 b.y] wx fun e w'=>e=.returned (.int .i64 (absI (a.y-b.y)))∧w'=wx):=fun wx=>apart_any _ _ wx ⟨by omega,by omega⟩ ⟨by omega,by omega⟩
 have HM:Hid (legN a b=_):=max_apart a b
 go_enter Tryz.func123,Tryz.ntmps123
 go_wp2_with fail;generalize ((w.alloc (.cells #[.int .i64 a.x,.int .i64 a.y] 77)).alloc (.cells #[.int .i64 b.x,.int .i64 b.y] 77))=w1 at *;refine wp_region_noPanic ?_
 refine wp_region_held_drew (S:=fun w'=>w'.cell? ⟨w.heap.size,0,none⟩=some (.int .i64 a.x)∧w'.cell? ⟨w.heap.size,1,none⟩=some (.int .i64 a.y)∧w'.cell? ⟨w.heap.size+1,0,none⟩=some (.int .i64 b.x)∧w'.cell? ⟨w.heap.size+1,1,none⟩=some (.int .i64 b.y)) (by kernel_rfl) ?_ (fun hHeld=>?_)
 ·exact ⟨cell_keep (Below.refl _ _).drew nlr HS.out.1,cell_keep (Below.refl _ _).drew nlr HS.out.2.1,cell_keep (Below.refl _ _).drew nlr HS.out.2.2.1,cell_keep (Below.refl _ _).drew nlr HS.out.2.2.2⟩
 have HBW:Hid (Below w.heap.size w w1.drew):=below_step HB.out (Below.refl _ _).drew;generalize w1.drew=W at *;refine tkH 0 ?_ rfl ?_ (tkH 1 ?_ rfl ?_ (tkH 2 ?_ rfl ?_ (tkH 3 ?_ rfl ?_ (tkH 5 ?_ rfl ?_ (tkH 6 ?_ rfl ?_ (tkH 7 ?_ rfl ?_ (tkH 8 ?_ rfl ?_ ?_)))))))
 iterate 8 (rotate_left;focus (intro w hSw;(try dsimp only at hSw);simp only [Act.put,tkS];go_simp;try with_reducible rfl))
 simp only [Act.put,tkS]
 refine rdH 4 rfl (fun K hK=>?_);go_simp;refine (HX.out _).mono ?_;rintro e wz ⟨rfl,hz⟩;rw [hz];refine hK.out _ _ hHeld (fun _=>?_);clear hK K hz wz;refine rdH 9 rfl (fun K hK=>?_);go_simp;refine (HY.out _).mono ?_;rintro e wz ⟨rfl,hz⟩;rw [hz];refine hK.out _ _ hHeld (fun _=>?_);clear hK K hz wz;generalize absI (a.x-b.x)=p at *;generalize absI (a.y-b.y)=q at *;refine rdH 10 rfl (fun K hK=>?_)
 by_cases hpq:p<q
 ·have HR:Hid (legN a b=q):=by show _=_;rw [HM.out,if_pos hpq]
  go_simp;refine hK.out _ _ hHeld (fun _=>?_);clear hK K;refine tkH 11 ?_ rfl ?_ ?_;rotate_left
  ·intro w hSw;(try dsimp only at hSw);go_simp;try with_reducible rfl
  simp only [Act.put,tkS]
  refine wpAnyH_done (by kernel_rfl) ?_ _
  refine NoPanic.normal ?_;go_wp2;go_ret;exact ⟨ret_int HR.out.symm,HBW.out⟩
 ·have HR:Hid (legN a b=p):=by show _=_;rw [HM.out,if_neg hpq]
  go_simp;refine hK.out _ _ hHeld (fun _=>?_);clear hK K;refine tkH 11 ?_ rfl ?_ ?_;rotate_left
  ·intro w hSw;(try dsimp only at hSw);go_simp;try with_reducible rfl
  simp only [Act.put,tkS]
  refine wpAnyH_done (by kernel_rfl) ?_ _
  refine NoPanic.normal ?_;go_wp2;go_ret;exact ⟨ret_int HR.out.symm,HBW.out⟩
theorem cellBehind_any (a b:Cel) (k n:Int) (w:World) (ha:a.In) (hb:b.In) (hk:0≤k) (hkn:k≤n) (hn:1≤n) (hn':n≤15) :
  Calls Tryz.prog 126 #[cv a,cv b,.int .i64 k,.int .i64 n] w fun e w'=>e=.returned (.agg #[.int .i64 (partW a.x b.x k n),.int .i64 (partW a.y b.y k n)])∧Below w.heap.size w w':=by
 have HB:Hid (Below w.heap.size w (((w.alloc (.cells #[.int .i64 a.x,.int .i64 a.y] 77)).alloc (.cells #[.int .i64 b.x,.int .i64 b.y] 77)).alloc (.cells #[.int .i64 0,.int .i64 0] 77))):=((bal).alloc (by simp) _).alloc (by simp;omega) _
 have HS:Hid ((((w.alloc (.cells #[.int .i64 a.x,.int .i64 a.y] 77)).alloc (.cells #[.int .i64 b.x,.int .i64 b.y] 77)).alloc (.cells #[.int .i64 0,.int .i64 0] 77)).cell? ⟨w.heap.size,0,none⟩=some (.int .i64 a.x)∧(((w.alloc (.cells #[.int .i64 a.x,.int .i64 a.y] 77)).alloc (.cells #[.int .i64 b.x,.int .i64 b.y] 77)).alloc (.cells #[.int .i64 0,.int .i64 0] 77)).cell? ⟨w.heap.size,1,none⟩=some (.int .i64 a.y)∧(((w.alloc (.cells #[.int .i64 a.x,.int .i64 a.y] 77)).alloc (.cells #[.int .i64 b.x,.int .i64 b.y] 77)).alloc (.cells #[.int .i64 0,.int .i64 0] 77)).cell? ⟨w.heap.size+1,0,none⟩=some (.int .i64 b.x)∧(((w.alloc (.cells #[.int .i64 a.x,.int .i64 a.y] 77)).alloc (.cells #[.int .i64 b.x,.int .i64 b.y] 77)).alloc (.cells #[.int .i64 0,.int .i64 0] 77)).cell? ⟨w.heap.size+1,1,none⟩=some (.int .i64 b.y)):=⟨by simp [go_sem],by simp [go_sem],by simp [go_sem],by simp [go_sem]⟩
 have HR:Hid ((((w.alloc (.cells #[.int .i64 a.x,.int .i64 a.y] 77)).alloc (.cells #[.int .i64 b.x,.int .i64 b.y] 77)).alloc (.cells #[.int .i64 0,.int .i64 0] 77)).heap[w.heap.size+2]?=some (.cells #[.int .i64 0,.int .i64 0] 77 (0,0))):=by
  have h:=heap_newW ((w.alloc (.cells #[.int .i64 a.x,.int .i64 a.y] 77)).alloc (.cells #[.int .i64 b.x,.int .i64 b.y] 77)) (.cells #[.int .i64 0,.int .i64 0] 77)
  rw [show ((w.alloc (.cells #[.int .i64 a.x,.int .i64 a.y] 77)).alloc (.cells #[.int .i64 b.x,.int .i64 b.y] 77)).heap.size=w.heap.size+2 by simp] at h
  exact h
 have HX:Hid (∀ wx:World,Calls Tryz.prog 139 #[.int .i64 a.x,.int .i64 b.x,.int .i64 k,.int .i64 n] wx fun e w'=>e=.returned (.int .i64 (partW a.x b.x k n))∧w'=wx):=fun wx=>partWay_any _ _ _ _ wx ha.1 hb.1 hk hkn hn hn';have HY:Hid (∀ wx:World,Calls Tryz.prog 139 #[.int .i64 a.y,.int .i64 b.y,.int .i64 k,.int .i64 n] wx fun e w'=>e=.returned (.int .i64 (partW a.y b.y k n))∧w'=wx):=fun wx=>partWay_any _ _ _ _ wx ha.2 hb.2 hk hkn hn hn';generalize partW a.x b.x k n=px at *;generalize partW a.y b.y k n=py at *
 go_enter Tryz.func126,Tryz.ntmps126
 go_wp2_with fail;generalize (((w.alloc (.cells #[.int .i64 a.x,.int .i64 a.y] 77)).alloc (.cells #[.int .i64 b.x,.int .i64 b.y] 77)).alloc (.cells #[.int .i64 0,.int .i64 0] 77))=w1 at *;refine wp_region_noPanic ?_
 refine wp_region_held_drew (S:=fun w'=>w'.cell? ⟨w.heap.size,0,none⟩=some (.int .i64 a.x)∧w'.cell? ⟨w.heap.size,1,none⟩=some (.int .i64 a.y)∧w'.cell? ⟨w.heap.size+1,0,none⟩=some (.int .i64 b.x)∧w'.cell? ⟨w.heap.size+1,1,none⟩=some (.int .i64 b.y)) (by kernel_rfl) ?_ (fun hHeld=>?_)
 ·exact ⟨cell_keep (Below.refl _ _).drew nlr HS.out.1,cell_keep (Below.refl _ _).drew nlr HS.out.2.1,cell_keep (Below.refl _ _).drew nlr HS.out.2.2.1,cell_keep (Below.refl _ _).drew nlr HS.out.2.2.2⟩
 have HBW:Hid (Below w.heap.size w w1.drew):=below_step HB.out (Below.refl _ _).drew;have HRW:Hid (w1.drew.heap[w.heap.size+2]?=some (.cells #[.int .i64 0,.int .i64 0] 77 (0,0))):=HR.out;have HSW:Hid (w1.drew.cell? ⟨w.heap.size,0,none⟩=some (.int .i64 a.x)∧w1.drew.cell? ⟨w.heap.size,1,none⟩=some (.int .i64 a.y)∧w1.drew.cell? ⟨w.heap.size+1,0,none⟩=some (.int .i64 b.x)∧w1.drew.cell? ⟨w.heap.size+1,1,none⟩=some (.int .i64 b.y)):=hHeld;generalize w1.drew=W at *;refine tkH 0 ?_ rfl ?_ (tkH 1 ?_ rfl ?_ (tkH 2 ?_ rfl ?_ (tkH 3 ?_ rfl ?_ (tkH 4 ?_ rfl ?_ (tkH 5 ?_ rfl ?_ (tkH 7 ?_ rfl ?_ (tkH 8 ?_ rfl ?_ (tkH 9 ?_ rfl ?_ (tkH 10 ?_ rfl ?_ (tkH 11 ?_ rfl ?_ (tkH 12 ?_ rfl ?_ ?_)))))))))))
 iterate 12 (rotate_left;focus (intro w hSw;(try dsimp only at hSw);simp only [Act.put,tkS];go_simp;try with_reducible rfl))
 simp only [Act.put,tkS]
 refine rdH 6 rfl (fun K hK=>?_);go_simp;refine (HX.out _).mono ?_;rintro e wz ⟨rfl,hz⟩;rw [hz];refine hK.out _ _ hHeld (fun _=>?_);clear hK K hz wz;refine rdH 13 rfl (fun K hK=>?_);go_simp;refine (HY.out _).mono ?_;rintro e wz ⟨rfl,hz⟩;rw [hz];refine hK.out _ _ hHeld (fun _=>?_);clear hK K hz wz;refine tkH 14 ?_ rfl ?_ ?_;rotate_left
 ·intro w hSw;(try dsimp only at hSw);go_simp;try with_reducible rfl
 simp only [Act.put,tkS]
 have HF:Hid ((W.setRow (w.heap.size+2) #[.int .i64 px,.int .i64 py]).heap[w.heap.size+2]?=some (.cells #[.int .i64 px,.int .i64 py] 77 (0,0))):=setRow_heap _ _ _ _ _ _ HRW.out;have HG:Hid (∀ j:Nat,j≠w.heap.size+2→(W.setRow (w.heap.size+2) #[.int .i64 px,.int .i64 py]).heap[j]?=W.heap[j]?):=fun j hj=>setRow_other _ _ _ _ hj
 have HBF:Hid (Below w.heap.size w (W.setRow (w.heap.size+2) #[.int .i64 px,.int .i64 py])):=below_setRow HBW.out (by omega) _
 refine rdH 15 rfl (fun K hK=>?_)
 refine step_store_rowC rfl 77 _ _ rfl (w.heap.size+2) #[.int .i64 px,.int .i64 py] rfl rfl 77 _ HRW.out (by kernel_rfl) rfl (by simp [Value.oneCell']) ?_
 generalize (W.setRow (w.heap.size+2) #[.int .i64 px,.int .i64 py])=W2 at *
 refine hK.out _ _ ⟨(World.cell?_of_block (HG.out _ (by show w.heap.size≠_;omega))).trans hHeld.1,(World.cell?_of_block (HG.out _ (by show w.heap.size≠_;omega))).trans hHeld.2.1,(World.cell?_of_block (HG.out _ (by show w.heap.size+1≠_;omega))).trans hHeld.2.2.1,(World.cell?_of_block (HG.out _ (by show w.heap.size+1≠_;omega))).trans hHeld.2.2.2⟩ (fun _=>?_)
 clear hK K
 refine wpAnyH_done (by kernel_rfl) ?_ _
 refine NoPanic.normal ?_;go_wp2;have hf:=HF.out
 have c0:W2.cell? ⟨w.heap.size+2,0,none⟩=some (.int .i64 px):=by simp [World.cell?,hf]
 have c1:W2.cell? ⟨w.heap.size+2,1,none⟩=some (.int .i64 py):=by simp [World.cell?,hf]
 exact bodyPost_ret (v:=.agg #[.int .i64 px,.int .i64 py]) (by simp [results,Tryz.results126,go_sem,c0,c1]) rfl ⟨rfl,HBF.out⟩
open Go.RowKit
structure LegSt (w:World) (G S F T:Nat) (a b:Cel) (g:Int):Prop where
 ne:G≠S
 g:w.heap[G]?=some (.cells #[.int .i64 g] 3 (0,0))
 s:w.heap[S]?=some (.cells #[.int .i64 (legN a b)] 3 (0,0))
 f:w.heap[F]?=some (.cells #[.int .i64 a.x,.int .i64 a.y] 77 (0,0))
 t:w.heap[T]?=some (.cells #[.int .i64 b.x,.int .i64 b.y] 77 (0,0))
theorem cell_two {w:World} {b:Nat} {v u:Value} {t:TypeId} (h:w.heap[b]?=some (.cells #[v,u] t (0,0))):w.cell? ⟨b,0,none⟩=some v∧w.cell? ⟨b,1,none⟩=some u:=by simp [World.cell?,h]
theorem below_block {w w':World} {b:Nat} {o:Obj} (hb:Below w.heap.size w w') (h:w.heap[b]?=some o):w'.heap[b]?=some o:=(hb.block b (lt_of_block h)).trans h
theorem LegSt.keep {w w':World} {G S F T:Nat} {a b:Cel} {g:Int} (h:LegSt w G S F T a b g) (hb:Below w.heap.size w w'):LegSt w' G S F T a b g :=
 ⟨h.ne,below_block hb h.g,below_block hb h.s,below_block hb h.f,below_block hb h.t⟩
theorem leg_any (a b:Cel) (w:World) (ha:a.In) (hb:b.In) :
  Calls Tryz.prog 104 #[cv a,cv b] w fun e w'=>∃ G S F T,e=.returned (.func (.func 124) #[] #[.pointer (some ⟨G,0,none⟩),.pointer (some ⟨S,0,none⟩),.pointer (some ⟨F,0,none⟩),.pointer (some ⟨T,0,none⟩)])∧LegSt w' G S F T a b 0∧(w.heap.size≤G∧w.heap.size≤S∧w.heap.size≤F∧w.heap.size≤T)∧Below w.heap.size w w':=by
 have HB:Hid (Below w.heap.size w ((w.alloc (.cells #[.int .i64 a.x,.int .i64 a.y] 77)).alloc (.cells #[.int .i64 b.x,.int .i64 b.y] 77))):=(bal).alloc (by simp) _
 have HF:Hid (((w.alloc (.cells #[.int .i64 a.x,.int .i64 a.y] 77)).alloc (.cells #[.int .i64 b.x,.int .i64 b.y] 77)).heap[w.heap.size]?=some (.cells #[.int .i64 a.x,.int .i64 a.y] 77 (0,0))) :=
  below_block (bal) (heap_newW w (.cells #[.int .i64 a.x,.int .i64 a.y] 77))
 have HT:Hid (((w.alloc (.cells #[.int .i64 a.x,.int .i64 a.y] 77)).alloc (.cells #[.int .i64 b.x,.int .i64 b.y] 77)).heap[w.heap.size+1]?=some (.cells #[.int .i64 b.x,.int .i64 b.y] 77 (0,0))):=by
  have h:=heap_newW (w.alloc (.cells #[.int .i64 a.x,.int .i64 a.y] 77)) (.cells #[.int .i64 b.x,.int .i64 b.y] 77)
  rw [show (w.alloc (.cells #[.int .i64 a.x,.int .i64 a.y] 77)).heap.size=w.heap.size+1 by simp] at h
  exact h
 go_enter Tryz.func104,Tryz.ntmps104
 go_wp2_with fail;generalize ((w.alloc (.cells #[.int .i64 a.x,.int .i64 a.y] 77)).alloc (.cells #[.int .i64 b.x,.int .i64 b.y] 77))=w1 at *;refine (stepsBetween_any a b _ ha hb).mono ?_;rintro e w2 ⟨rfl,hb2⟩;have HB2:Hid (Below w.heap.size w w2):=below_step HB.out hb2;have HF2:Hid (w2.heap[w.heap.size]?=some (.cells #[.int .i64 a.x,.int .i64 a.y] 77 (0,0))):=below_block hb2 HF.out;have HT2:Hid (w2.heap[w.heap.size+1]?=some (.cells #[.int .i64 b.x,.int .i64 b.y] 77 (0,0))):=below_block hb2 HT.out;clear hb2
 have hmf:∀ (fn:Fn) (first cap:Array Value) (w:World),(Instr.makeFunc fn first cap).run Tryz.prog w=.ok (.func fn first cap) w:=fun _ _ _ _=>rfl
 go_wp2_with fail;have hs:=HB2.out.size;have hlt:=lt_of_block HT2.out
 have hal:Below w2.heap.size w2 ((w2.alloc (.cells #[.int .i64 (legN a b)] 3)).alloc (.cells #[.int .i64 0] 3)):=(bal).alloc (by simp) _
 have hS:((w2.alloc (.cells #[.int .i64 (legN a b)] 3)).alloc (.cells #[.int .i64 0] 3)).heap[w2.heap.size]?=some (.cells #[.int .i64 (legN a b)] 3 (0,0)) :=
  below_block (bal) (heap_newW w2 (.cells #[.int .i64 (legN a b)] 3))
 have hG:((w2.alloc (.cells #[.int .i64 (legN a b)] 3)).alloc (.cells #[.int .i64 0] 3)).heap[w2.heap.size+1]?=some (.cells #[.int .i64 0] 3 (0,0)):=by
  have h:=heap_newW (w2.alloc (.cells #[.int .i64 (legN a b)] 3)) (.cells #[.int .i64 0] 3)
  rw [show (w2.alloc (.cells #[.int .i64 (legN a b)] 3)).heap.size=w2.heap.size+1 by simp] at h
  exact h
 go_ret
 exact ⟨w2.heap.size+1,w2.heap.size,w.heap.size,w.heap.size+1,rfl,⟨by omega,hG,hS,below_block hal HF2.out,below_block hal HT2.out⟩,⟨by omega,by omega,Nat.le_refl _,by omega⟩,below_step HB2.out hal⟩
theorem grown_below_t {w w1 w2:World} {r:Option Nat} (h:w.grownBy w1 r) (hb:Below w1.heap.size w1 w2):w.grownBy w2 r :=
 ⟨hb.1.trans h.1,hb.2.trans h.2,hb.3.trans h.3,Nat.le_trans h.4 hb.4,fun j hj hr=>(hb.5 j (Nat.lt_of_lt_of_le hj h.4)).trans (h.5 j hj hr)⟩
theorem grown_row_t {w w1:World} {r:Option Nat} {X:Nat} (h:w.grownBy w1 r) (hX:w.heap.size≤X) (cs:Array Value):w.grownBy (w1.setRow X cs) r :=
 ⟨h.1,h.2,h.3,by simpa using h.4,fun j hj hr=>(setRow_other _ _ _ _ (by omega)).trans (h.5 j hj hr)⟩
theorem LegSt.row {w:World} {G S F T X:Nat} {a b:Cel} {g:Int} (h:LegSt w G S F T a b g) (h1:G≠X) (h2:S≠X) (h3:F≠X) (h4:T≠X) (cs:Array Value):LegSt (w.setRow X cs) G S F T a b g :=
 ⟨h.ne,(setRow_other _ _ _ _ h1).trans h.g,(setRow_other _ _ _ _ h2).trans h.s,(setRow_other _ _ _ _ h3).trans h.f,(setRow_other _ _ _ _ h4).trans h.t⟩
-- Behind the last cell it tells false.
theorem next_done (a b:Cel) (g:Int) (G S F T:Nat) (w:World) (hL:LegSt w G S F T a b g) (hg:legN a b≤g) :
  Calls Tryz.prog 124 #[.pointer (some ⟨G,0,none⟩),.pointer (some ⟨S,0,none⟩),.pointer (some ⟨F,0,none⟩),.pointer (some ⟨T,0,none⟩)] w fun e w'=>e=.returned (.tuple #[.agg #[.int .i64 0,.int .i64 0],.bool false])∧Below w.heap.size w w':=by
 have HB:Hid (Below w.heap.size w (w.alloc (.cells #[.int .i64 0,.int .i64 0] 77))):=(bal);have hr:(w.alloc (.cells #[.int .i64 0,.int .i64 0] 77)).heap[w.heap.size]?=some (.cells #[.int .i64 0,.int .i64 0] 77 (0,0)):=heap_newW w _;have c0:=cell_of_one (hL.keep HB.out).g;have c1:=cell_of_one (hL.keep HB.out).s;clear hL;generalize legN a b=n at *
 go_enter Tryz.func124,Tryz.ntmps124
 go_wp2_with (refine wpList_store_row rfl 77 _ _ rfl w.heap.size #[.int .i64 0,.int .i64 0] rfl rfl 77 _ hr (by kernel_rfl) rfl (by simp [Value.oneCell']) ?_)
 exact bodyPost_ret (v:=.tuple #[.agg #[.int .i64 0,.int .i64 0],.bool false]) (by simp [results,Tryz.results124,go_sem,cell_setRow_same _ _ _ _ _ _ _ hr]) rfl ⟨rfl,below_setRow HB.out nlr _⟩
theorem celI_yes {a b:Cel} {g:Nat} (h:lesser a b=true):celI a b g=⟨partW a.x b.x ((g:Int)+1) (legN a b),partW a.y b.y ((g:Int)+1) (legN a b)⟩:=by unfold celI;rw [h];rfl
theorem celI_no {a b:Cel} {g:Nat} (h:lesser a b=false):celI a b g=⟨partW b.x a.x (legN a b-((g:Int)+1)) (legN a b),partW b.y a.y (legN a b-((g:Int)+1)) (legN a b)⟩:=by unfold celI;rw [h];show celW b a _=_;unfold celW;rw [legN_comm b a]
-- Ahead of it it tells the next cell, and true.
theorem next_more (a b:Cel) (g:Nat) (G S F T:Nat) (w:World) (hL:LegSt w G S F T a b g) (hg:(g:Int)<legN a b) (ha:a.In) (hb:b.In) :
  Calls Tryz.prog 124 #[.pointer (some ⟨G,0,none⟩),.pointer (some ⟨S,0,none⟩),.pointer (some ⟨F,0,none⟩),.pointer (some ⟨T,0,none⟩)] w fun e w'=>e=.returned (.tuple #[cv (celI a b g),.bool true])∧LegSt w' G S F T a b ((g:Int)+1)∧w.grownBy w' (some G):=by
 have hle:=legN_le ha hb;have hK:=hL.keep ((Below.refl _ _).alloc nlr (.cells #[.int .i64 0,.int .i64 0] 77):Below w.heap.size w (w.alloc (.cells #[.int .i64 0,.int .i64 0] 77)));have HGl:Hid (G<w.heap.size):=lt_of_block hL.g;have HNX:Hid (G≠w.heap.size∧S≠w.heap.size∧F≠w.heap.size∧T≠w.heap.size):=⟨Nat.ne_of_lt (lt_of_block hL.g),Nat.ne_of_lt (lt_of_block hL.s),Nat.ne_of_lt (lt_of_block hL.f),Nat.ne_of_lt (lt_of_block hL.t)⟩;have hGS:=hL.ne;have hr:(w.alloc (.cells #[.int .i64 0,.int .i64 0] 77)).heap[w.heap.size]?=some (.cells #[.int .i64 0,.int .i64 0] 77 (0,0)):=heap_newW w _;have c0:=cell_of_one hK.g;have z0:=free_of_one hK.g;have c1:=cell_of_one hK.s
 have LS:Hid (LegSt ((w.alloc (.cells #[.int .i64 0,.int .i64 0] 77)).setCell ⟨G,0,none⟩ (.int .i64 ((g:Int)+1))) G S F T a b ((g:Int)+1)):=by
  refine ⟨hGS,one_setCell hK.g,?_,?_,?_⟩
  ·exact (Below.heap_setCell _ ⟨G,0,none⟩ _ S (by simp;exact fun e=>hGS e.symm)).trans hK.s
  ·exact (Below.heap_setCell _ ⟨G,0,none⟩ _ F (by rintro rfl;have h1:=hK.g;rw [hK.f] at h1;simp at h1)).trans hK.f
  ·exact (Below.heap_setCell _ ⟨G,0,none⟩ _ T (by rintro rfl;have h1:=hK.g;rw [hK.t] at h1;simp at h1)).trans hK.t
 have RS:Hid (((w.alloc (.cells #[.int .i64 0,.int .i64 0] 77)).setCell ⟨G,0,none⟩ (.int .i64 ((g:Int)+1))).heap[w.heap.size]?=some (.cells #[.int .i64 0,.int .i64 0] 77 (0,0))) :=
  (Below.heap_setCell _ ⟨G,0,none⟩ _ w.heap.size (by have:=HGl.out;simp;omega)).trans hr
 have GS:Hid (w.grownBy ((w.alloc (.cells #[.int .i64 0,.int .i64 0] 77)).setCell ⟨G,0,none⟩ (.int .i64 ((g:Int)+1))) (some G)):=by
  have hb1:Below w.heap.size w (w.alloc (.cells #[.int .i64 0,.int .i64 0] 77)):=(bal)
  refine ⟨hb1.1,hb1.2,hb1.3,by simp,fun j hj hr=>?_⟩
  exact (Below.heap_setCell _ ⟨G,0,none⟩ _ j (fun e=>hr (by rw [e]))).trans (hb1.5 j hj)
 have HLS:Hid (∀ wx:World,Calls Tryz.prog 125 #[cv a,cv b] wx fun e w'=>e=.returned (.bool (lesser a b))∧Below wx.heap.size wx w'):=fun wx=>lesser_any a b wx
 have HCY:Hid (∀ wx:World,Calls Tryz.prog 126 #[cv a,cv b,.int .i64 ((g:Int)+1),.int .i64 (legN a b)] wx fun e w'=>e=.returned (.agg #[.int .i64 (partW a.x b.x ((g:Int)+1) (legN a b)),.int .i64 (partW a.y b.y ((g:Int)+1) (legN a b))])∧Below wx.heap.size wx w'):=fun wx=>cellBehind_any a b _ _ wx ha hb (by omega) (by omega) (by omega) hle
 have HCN:Hid (∀ wx:World,Calls Tryz.prog 126 #[cv b,cv a,.int .i64 (legN a b-((g:Int)+1)),.int .i64 (legN a b)] wx fun e w'=>e=.returned (.agg #[.int .i64 (partW b.x a.x (legN a b-((g:Int)+1)) (legN a b)),.int .i64 (partW b.y a.y (legN a b-((g:Int)+1)) (legN a b))])∧Below wx.heap.size wx w'):=fun wx=>cellBehind_any b a _ _ wx hb ha (by omega) (by omega) (by omega) hle
 have f0:=cell_two LS.out.f;have t0:=cell_two LS.out.t;obtain ⟨f0,f1⟩:=f0;obtain ⟨t0,t1⟩:=t0;clear hK hL
 cases hl:lesser a b
 focus
  have HE:Hid (celI a b g=_):=celI_no hl;rw [hl] at HLS;clear hl HCY;generalize partW b.x a.x (legN a b-((g:Int)+1)) (legN a b)=px at *;generalize partW b.y a.y (legN a b-((g:Int)+1)) (legN a b)=py at *
  go_enter Tryz.func124,Tryz.ntmps124
  go_wp2_with fail;generalize ((w.alloc (.cells #[.int .i64 0,.int .i64 0] 77)).setCell ⟨G,0,none⟩ (.int .i64 ((g:Int)+1)))=w1 at *;refine (HLS.out w1).mono ?_;rintro e w2 ⟨rfl,hb2⟩;have L2:Hid (LegSt w2 G S F T a b ((g:Int)+1)):=LS.out.keep hb2;have R2:Hid (w2.heap[w.heap.size]?=some (.cells #[.int .i64 0,.int .i64 0] 77 (0,0))):=below_block hb2 RS.out;have G2:Hid (w.grownBy w2 (some G)):=grown_below_t GS.out hb2;clear f0 f1 t0 t1 LS RS GS hb2 HLS c0 z0 c1 hr;obtain ⟨f0,f1⟩:=cell_two L2.out.f;obtain ⟨t0,t1⟩:=cell_two L2.out.t;have c0:=cell_of_one L2.out.g;have c1:=cell_of_one L2.out.s;go_wp2_with fail;refine (HCN.out _).mono ?_
 rotate_left
 focus
  have HE:Hid (celI a b g=_):=celI_yes hl;rw [hl] at HLS;clear hl HCN;generalize partW a.x b.x ((g:Int)+1) (legN a b)=px at *;generalize partW a.y b.y ((g:Int)+1) (legN a b)=py at *
  go_enter Tryz.func124,Tryz.ntmps124
  go_wp2_with fail;generalize ((w.alloc (.cells #[.int .i64 0,.int .i64 0] 77)).setCell ⟨G,0,none⟩ (.int .i64 ((g:Int)+1)))=w1 at *;refine (HLS.out w1).mono ?_;rintro e w2 ⟨rfl,hb2⟩;have L2:Hid (LegSt w2 G S F T a b ((g:Int)+1)):=LS.out.keep hb2;have R2:Hid (w2.heap[w.heap.size]?=some (.cells #[.int .i64 0,.int .i64 0] 77 (0,0))):=below_block hb2 RS.out;have G2:Hid (w.grownBy w2 (some G)):=grown_below_t GS.out hb2;clear f0 f1 t0 t1 LS RS GS hb2 HLS c0 z0 c1 hr;obtain ⟨f0,f1⟩:=cell_two L2.out.f;obtain ⟨t0,t1⟩:=cell_two L2.out.t;have c0:=cell_of_one L2.out.g;have c1:=cell_of_one L2.out.s;go_wp2_with fail;refine (HCY.out _).mono ?_
 rotate_left
 all_goals
  rintro e w3 ⟨rfl,hb3⟩;have L3:Hid (LegSt w3 G S F T a b ((g:Int)+1)):=L2.out.keep hb3;have hr3:=below_block hb3 R2.out;have G3:Hid (w.grownBy w3 (some G)):=grown_below_t G2.out hb3;clear f0 f1 t0 t1 L2 R2 G2 hb3 c0 c1
  go_wp2_with (refine wpList_store_row rfl 77 _ _ rfl w.heap.size #[.int .i64 px,.int .i64 py] rfl rfl 77 _ hr3 (by kernel_rfl) rfl (by simp [Value.oneCell']) ?_)
  exact bodyPost_ret (v:=.tuple #[.agg #[.int .i64 px,.int .i64 py],.bool true]) (by simp [results,Tryz.results124,go_sem,cell_setRow_same _ _ _ _ _ _ _ hr3]) rfl ⟨by rw [HE.out],L3.out.row HNX.out.1 HNX.out.2.1 HNX.out.2.2.1 HNX.out.2.2.2 _,grown_row_t G3.out nlr _⟩
open Go.RowKit
def celRow (c:Cel):List Value:=[.int .i64 c.x,.int .i64 c.y]
def celRows (l:List Cel):List Value:=l.flatMap celRow
theorem celRows_get:∀ (l:List Cel) (i:Nat) (c:Cel),l[i]?=some c→(celRows l)[i*2]?=some (.int .i64 c.x)∧(celRows l)[i*2+1]?=some (.int .i64 c.y)
 | [],i,c,h=>by simp at h
 | a::l,0,c,h=>by simp at h;subst h;simp [celRows,celRow]
 | a::l,i+1,c,h=>by
  have:=celRows_get l i c (by simpa using h)
  rw [show (i+1)*2=i*2+2 by omega]
  simpa [celRows,celRow] using this
def CNew (w:World) (B:Nat) (v:Value) (l:List Cel):Prop:=w.ownsRow B 77 2 v l.length (celRows l)
def CAt (w:World) (v:Value) (l:List Cel):Prop:=∃ a cap,v=.slice a l.length cap∧l.length≤cap∧cap≤maxLen∧∀ i c,l[i]?=some c→∃ g,a=some ⟨g,0,none⟩∧w.cell? ⟨g,i*2,none⟩=some (.int .i64 c.x)∧w.cell? ⟨g,i*2+1,none⟩=some (.int .i64 c.y)
theorem CNew.at {w:World} {B:Nat} {v:Value} {l:List Cel} (h:CNew w B v l):CAt w v l:=by
 obtain ⟨h1,h2⟩:=h
 rcases h2 with ⟨rfl,h0⟩ | ⟨g,cap,cur,rfl,hB,hb,hn,hc,hs,ht⟩
 ·refine ⟨none,0,by rw [h0],by omega,Nat.zero_le _,fun i t hi=>?_⟩
  have:=(List.getElem?_eq_some_iff.1 hi).1
  omega
 ·refine ⟨_,cap,rfl,hn,hc,fun i t hi=>⟨g,rfl,?_⟩⟩
  have hil:=(List.getElem?_eq_some_iff.1 hi).1;obtain ⟨e1,e2⟩:=celRows_get l i t hi;rw [← ht] at e1 e2
  rw [List.getElem?_take,if_pos (by omega)] at e1 e2
  simp only [World.cell?,hb,Option.isSome_none,Bool.false_eq_true,if_false]
  exact ⟨by simpa using e1,by simpa using e2⟩
theorem CAt.keep {w w':World} {v:Value} {l:List Cel} (h:CAt w v l) (hb:Below w.heap.size w w'):CAt w' v l:=by
 obtain ⟨a,cap,h1,h2,h3,h4⟩:=h;refine ⟨a,cap,h1,h2,h3,fun i t ht=>?_⟩;obtain ⟨g,ha,c0,c1⟩:=h4 i t ht;exact ⟨g,ha,cell_keep hb nlr c0,cell_keep hb nlr c1⟩
theorem ownC_keep {w w':World} {base:Nat} {e:TypeId} {size:Nat} {v:Value} {n:Nat} {xs:List Value} (h:w.ownsRow base e size v n xs) (hb:Below w.heap.size w w'):w'.ownsRow base e size v n xs:=by
 obtain ⟨h1,h2⟩:=h;refine ⟨h1,?_⟩
 rcases h2 with h2 | ⟨g,cap,cur,hv,hg,hh,rest⟩
 ·exact .inl h2
 ·exact .inr ⟨g,cap,cur,hv,hg,(hb.block g (Array.getElem?_eq_some_iff.1 hh).1).trans hh,rest⟩
theorem ownC_ge {w:World} {base:Nat} {e:TypeId} {size:Nat} {v:Value} {n:Nat} {xs:List Value} (h:w.ownsRow base e size v n xs):∀ k,v.ownBlock=some k→base≤k:=by
 intro k hk
 rcases h.2 with ⟨rfl,_⟩ | ⟨g,cap,cur,rfl,hg,_⟩
 ·cases hk
 ·cases hk;exact hg
theorem ownC_lt {w:World} {base:Nat} {e:TypeId} {size:Nat} {v:Value} {n:Nat} {xs:List Value} (h:w.ownsRow base e size v n xs):∀ k,v.ownBlock=some k→k<w.heap.size:=by
 intro k hk
 rcases h.2 with ⟨rfl,_⟩ | ⟨g,cap,cur,rfl,hg,hc,_⟩
 ·cases hk
 ·cases hk;exact (Array.getElem?_eq_some_iff.1 hc).1
theorem ownC_slice {w:World} {base:Nat} {e:TypeId} {size:Nat} {v:Value} {n:Nat} {xs:List Value} (h:w.ownsRow base e size v n xs):∃ a c,v=.slice a n c:=by
 rcases h.2 with ⟨rfl,h0⟩ | ⟨g,cap,cur,rfl,_⟩
 ·exact ⟨none,0,by rw [h0]⟩
 ·exact ⟨_,cap,rfl⟩
theorem ownC_far {W W':World} {row:Option Nat} {base:Nat} {e:TypeId} {size:Nat} {v:Value} {n:Nat} {xs:List Value} (h:W.ownsRow base e size v n xs) (hg:W.grownBy W' row) (hr:∀ k,v.ownBlock=some k→some k≠row):W'.ownsRow base e size v n xs:=by
 refine ⟨h.1,?_⟩
 rcases h.2 with h2 | ⟨g,cap,cur,hv,hb,hc,rest⟩
 ·exact .inl h2
 ·refine .inr ⟨g,cap,cur,hv,hb,?_,rest⟩
  exact (hg.block g (Array.getElem?_eq_some_iff.1 hc).1 (hr g (by rw [hv];rfl))).trans hc
theorem ownC_mono {w:World} {base base':Nat} {e:TypeId} {size:Nat} {v:Value} {n:Nat} {xs:List Value} (h:w.ownsRow base e size v n xs) (hb:base'≤base):w.ownsRow base' e size v n xs:=by
 refine ⟨h.1,?_⟩
 rcases h.2 with h2 | ⟨g,cap,cur,hv,hg,rest⟩
 ·exact .inl h2
 ·exact .inr ⟨g,cap,cur,hv,by omega,rest⟩
theorem CNew.snoc {w:World} {B n:Nat} {v:Value} {l:List Cel} {c:Cel} (hn:l.length=n) (h:w.ownsRow B 77 2 v (n+1) (celRows l++[.int .i64 c.x,.int .i64 c.y])):CNew w B v (l++[c]):=by
 unfold CNew;rw [List.length_append]
 have e:celRows (l++[c])=celRows l++[.int .i64 c.x,.int .i64 c.y]:=by simp [celRows,celRow]
 rw [e];subst hn;exact h
theorem infoCell:(Tryz.prog.info? 77).map (fun i=>(i.zero,i.size,i.bytes))=some (some (.agg #[.int .i64 0,.int .i64 0]),2,16):=by kernel_rfl
def celOf (ps:List Tri) (x:ByteArray):Cel:=⟨(at' ps (plc ps x)).x,(at' ps (plc ps x)).y⟩
def turns (ps:List Tri) (ws:List ByteArray):List Cel:=ws.map (celOf ps)
theorem turns_take (ps:List Tri) (ws:List ByteArray) (k:Nat) (h:k<ws.length):(turns ps ws).take (k+1)=(turns ps ws).take k++[celOf ps (wat ws k)]:=by
 unfold turns
 rw [List.take_succ_eq_append_getElem (by simpa using h)]
 simp [wat,h]
theorem cellOf_any (s:ByteArray) (x y:Int) (w:World) :
  Calls Tryz.prog 60 #[.agg #[.string s,.int .i64 x,.int .i64 y]] w fun e w'=>e=.returned (.agg #[.int .i64 x,.int .i64 y])∧Below w.heap.size w w':=by
 have HB:Hid (Below w.heap.size w ((w.alloc (.cells #[.string s,.int .i64 x,.int .i64 y] 110)).alloc (.cells #[.int .i64 0,.int .i64 0] 77))):=(bal).alloc (by simp) _
 have hr:((w.alloc (.cells #[.string s,.int .i64 x,.int .i64 y] 110)).alloc (.cells #[.int .i64 0,.int .i64 0] 77)).heap[w.heap.size+1]?=some (.cells #[.int .i64 0,.int .i64 0] 77 (0,0)):=by
  have h:=heap_newW (w.alloc (.cells #[.string s,.int .i64 x,.int .i64 y] 110)) (.cells #[.int .i64 0,.int .i64 0] 77)
  rw [show (w.alloc (.cells #[.string s,.int .i64 x,.int .i64 y] 110)).heap.size=w.heap.size+1 by simp] at h
  exact h
 go_enter Tryz.func60,Tryz.ntmps60
 go_wp2_with (refine wpList_store_row rfl 77 _ _ rfl (w.heap.size+1) #[.int .i64 x,.int .i64 y] rfl rfl 77 _ hr (by kernel_rfl) rfl (by simp [Value.oneCell']) ?_)
 exact bodyPost_ret (v:=.agg #[.int .i64 x,.int .i64 y]) (by simp [results,Tryz.results60,go_sem,cell_setRow_same _ _ _ _ _ _ _ hr]) rfl ⟨rfl,below_setRow HB.out (by omega) _⟩
theorem cellsOfPoints_any (vk vp v:Value) (ps:List Tri) (ws:List ByteArray) (w:World) (hp:TrisAt w vp ps) (hst0:StrsAt w v ws) (hw8:ws.length≤8) (hall:∀ i,i<ws.length→hasB ps (wat ws i)=true) :
  Calls Tryz.prog 70 #[.agg #[vk,vp],v] w fun e w'=>∃ u,e=.returned u∧CNew w' w.heap.size u (turns ps ws)∧Below w.heap.size w w':=by
 obtain ⟨i0,hi0,hz0,hz1,hz2⟩:=info_parts infoCell;have HHP:Hid (∀ (x:ByteArray) (wx:World),Below w.heap.size w wx→Calls Tryz.prog 57 #[vp,.string x,.func (.func 58) #[] #[]] wx fun e w'=>e=.returned (.tuple #[.int .i64 (plc ps x:Nat),.bool (hasB ps x)])∧Below wx.heap.size wx w'):=fun x wx hx=>placePoint_any vp ps x wx (hp.keep hx);have HTP:Hid (TrisAt w vp ps):=hp;obtain ⟨ap,cp,rfl,hp1,hp2,-⟩:=hp;have HAL:Hid (∀ i,i<ws.length→hasB ps (wat ws i)=true):=hall;have HB1:Hid (Below w.heap.size w (w.alloc (.cells #[vk,.slice ap ps.length cp] 26))):=(bal);have hst:=hst0.keep HB1.out;have HST:Hid (StrsAt (w.alloc (.cells #[vk,.slice ap ps.length cp] 26)) v ws):=hst;clear hst0 hall;obtain ⟨g,off,cap,rfl,hlc,hcm,-⟩:=hst
 have Q0:Hid ((w.alloc (.cells #[vk,.slice ap ps.length cp] 26)).cell? ⟨w.heap.size,0,none⟩=some vk∧(w.alloc (.cells #[vk,.slice ap ps.length cp] 26)).cell? ⟨w.heap.size,1,none⟩=some (.slice ap ps.length cp)):=⟨by simp [go_sem],by simp [go_sem]⟩
 unfold maxLen at hcm hp2
 go_enter Tryz.func70,Tryz.ntmps70
 go_wp2_with fail;generalize (w.alloc (.cells #[vk,.slice ap ps.length cp] 26))=w1 at *
 go_loopw [5,12] (fun v i wr=>∃ k:Nat,k≤ws.length∧i=.int .i64 k∧(∃ a c,v=.slice a k c)∧Hid (CNew wr w1.heap.size v ((turns ps ws).take k)∧Below w1.heap.size w1 wr)) (fun _ i _=>ws.length-(intOf i).toNat)
 case atStart=>exact ⟨0,Nat.zero_le _,rfl,⟨_,_,rfl⟩,⟨rfl,.inl ⟨rfl,rfl⟩⟩,Below.refl _ _⟩
 case round =>
  obtain ⟨k,hk,rfl,⟨a,c,rfl⟩,HI⟩:=hrel
  by_cases hlt:k<ws.length
  ·have hh:=HAL.out k hlt
   have hpl:plc ps (wat ws k)<ps.length:=by
    unfold hasB at hh;rw [Bool.and_eq_true] at hh;exact of_decide_eq_true hh.1
   have HH:Hid (hasB ps (wat ws k)=true):=hh;clear hh;have c0:wr.cell? ⟨g,off+k,none⟩=some (.string (wat ws k)):=(HST.out.keep HI.out.2).cell k hlt;have p0:=cell_keep HI.out.2 nlr Q0.out.1;have p1:=cell_keep HI.out.2 nlr Q0.out.2
   have hk0:(0:Int)≤(k:Int):=by omega
   have hk1:(k:Int)<(ws.length:Int):=by omega
   go_wp2_with fail;refine (HHP.out (wat ws k) _ (below_step HB1.out HI.out.2)).mono ?_;rw [HH.out];rintro e w2 ⟨rfl,hb2⟩;have HI2:Hid (CNew w2 w1.heap.size (.slice a k c) ((turns ps ws).take k)∧Below w1.heap.size w1 w2):=⟨ownC_keep HI.out.1 hb2,below_step HI.out.2 hb2⟩;clear HI c0 p0 p1 hb2;have p0:=cell_keep HI2.out.2 nlr Q0.out.1;have p1:=cell_keep HI2.out.2 nlr Q0.out.2;obtain ⟨ap',cp',he,-,-,hpc⟩:=(HTP.out.keep (below_step HB1.out HI2.out.2));obtain ⟨bP,oP,hap,d0,d1,d2⟩:=hpc (plc ps (wat ws k)) _ (at_get hpl)
   cases he
   subst hap;clear hpc;have HC:Hid (celOf ps (wat ws k)=⟨(at' ps (plc ps (wat ws k))).x,(at' ps (plc ps (wat ws k))).y⟩):=rfl
   have hj0:(0:Int)≤((plc ps (wat ws k):Nat):Int):=by omega
   have hj1:((plc ps (wat ws k):Nat):Int)<(ps.length:Int):=by omega
   generalize at' ps (plc ps (wat ws k))=tr at *;generalize plc ps (wat ws k)=j at *;go_wp2_with fail;refine (cellOf_any _ _ _ _).mono ?_;rintro e w3 ⟨rfl,hb3⟩;have HI3:Hid (CNew w3 w1.heap.size (.slice a k c) ((turns ps ws).take k)∧Below w1.heap.size w1 w3):=⟨ownC_keep HI2.out.1 hb3,below_step HI2.out.2 hb3⟩;clear HI2 p0 p1 hb3 d0 d1 d2;have hid:=HI3.out.1
   have HTL:Hid (((turns ps ws).take k).length=k):=by show _=_;rw [List.length_take];unfold turns;rw [List.length_map];omega
   unfold CNew at hid;rw [HTL.out] at hid;have hsz:=HI3.out.2.size
   go_wp2_with (at_builtin;refine wpList_append_any _ rfl _ _ 73 rfl w1.heap.size 77 i0 _ 2 16 Tryz.underlying73 hi0 hz0 hz1 hz2 rfl (by decide) _ k _ rfl (ownC_keep hid (bal)) _ 1 1 [.int .i64 tr.x,.int .i64 tr.y] rfl (.inr ⟨_,rfl,World.news_of_block (heap_newW w3 (.cells #[.int .i64 tr.x,.int .i64 tr.y] 77))⟩) rfl (fun u hu=>by simp at hu;rcases hu with rfl | rfl <;> rfl) (by unfold maxLen;omega) (by omega) (by simp;omega) ?_;intro vq wx hown hgrow hat)
   have HN:Hid (CNew wx w1.heap.size vq ((turns ps ws).take (k+1))∧Below w1.heap.size w1 wx):=by
    refine ⟨?_,(below_step HI3.out.2 (bal)).grown hgrow ((below_step HI3.out.2 (bal)).size) (fun q hq=>ownC_ge hid q hq)⟩
    have e:(turns ps ws).take (k+1)=(turns ps ws).take k++[(⟨tr.x,tr.y⟩:Cel)]:=by
     rw [← HC.out];exact turns_take ps ws k hlt
    rw [e];exact CNew.snoc HTL.out hown
   obtain ⟨qa,qc,rfl⟩:=ownC_slice hown
   exact ⟨⟨k+1,by omega,by go_num,⟨_,_,rfl⟩,HN⟩,by simp [intOf];omega⟩
  ·have HF:Hid ((turns ps ws).take k=turns ps ws):=List.take_of_length_le (by unfold turns;rw [List.length_map];omega)
   go_wp2;go_ret
   exact ⟨.slice a k c,rfl,by have h:=HI.out.1;rw [HF.out] at h;exact ownC_mono h HB1.out.size,below_step HB1.out HI.out.2⟩
end Go.Proofs.YtbjmgglpiakgdaaGreatDoor
