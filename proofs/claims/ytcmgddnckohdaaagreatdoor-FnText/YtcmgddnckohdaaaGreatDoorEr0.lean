import Derived.Test.YtcmgddnckohdaaaGreatDoorProg
import Derived.WalkKit
import Derived.Stop.Asserts
import Derived.RowKitTokens
set_option maxRecDepth 100000
set_option maxHeartbeats 12800000
namespace Go.Proofs.YtcmgddnckohdaaaGreatDoor.Er
open Go.RowKit Go.Extern.Stop Go.Stop Go.Extern
set_option linter.unusedSimpArgs false
set_option linter.unusedVariables false
theorem as_nil (t:Value) (w:World) :
  Calls Tryz.prog 66 #[.nilIface,t] w fun e w'=>e=.returned (.bool false)∧w'=w:=by
 go_enter Tryz.func66,Tryz.ntmps66
 go_wp2;go_ret;exact ⟨rfl,rfl⟩
theorem Kv (t:Addr) (w:World):(ReflectliteValue.unpack (.iface 105 (.pointer (some t)))).run Tryz.prog w
  = .ok (.agg #[.pointer (some ⟨10,105,none⟩),.pointer (some ⟨w.heap.size,0,none⟩),.int .u64 150]) (w.alloc (.cells #[.pointer (some t)] 105)):=by kernel_rfl
theorem typeP (a:Addr) (w:World):(ReflectliteValue.methodAny (ReflectliteValue.valueError "reflectlite.Value.Type" 0) (fun t _ _ _=>ReflectliteType.toType t) #[.agg #[.pointer (some ⟨10,105,none⟩),.pointer (some a),.int .u64 150]]).run Tryz.prog w
  = .ok (.iface 217 (.agg #[.pointer (some ⟨10,105,none⟩)])) w:=by kernel_rfl
theorem Gq (h:Value) (w:World):(Go.method 502 217 (.agg #[h]) "Kind").run Tryz.prog w=.ok (311,h) w:=by kernel_rfl
theorem kindP (w:World):((ReflectliteType.abiMethod fun t=>(fun a:Nat=>Value.int IntKind.u8 (a:Int)) <$> Rtype.kind t) #[.pointer (some ⟨10,105,none⟩)]).run Tryz.prog w=.ok (.int .u8 22) w:=by kernel_rfl
theorem kindT (w:World):((ReflectliteType.abiMethod fun t=>(fun a:Nat=>Value.int IntKind.u8 (a:Int)) <$> Rtype.kind t) #[.pointer (some ⟨10,102,none⟩)]).run Tryz.prog w=.ok (.int .u8 25) w:=by kernel_rfl
theorem rl_method (z:Sem Value) (f:TypeId→Addr→Nat→Nat→Sem Value) (v:Value):∃ k:Option (TypeId×Addr×Nat)→Sem Value,ReflectliteValue.method z f #[v]=(ReflectliteValue.parts v >>= k)∧∀ t a fl,k (some (t,a,fl))=f t a fl (fl % 32):=⟨_,rfl,fun _ _ _=>rfl⟩
theorem K7 (a:Addr) (w:World):(ReflectliteValue.parts (.agg #[.pointer (some ⟨10,105,none⟩),.pointer (some a),.int .u64 150])).run Tryz.prog w=.ok (some (105,a,150)) w:=by kernel_rfl
theorem isNilP (a p:Addr) (W:World) (ha:W.cell? a=some (.pointer (some p))) :
  (ReflectliteValue.method (ReflectliteValue.valueError "reflectlite.Value.IsNil" 0) ReflectliteValue.isNil #[.agg #[.pointer (some ⟨10,105,none⟩),.pointer (some a),.int .u64 150]]).run Tryz.prog W=.ok (.bool false) W:=by
 obtain ⟨k,h1,h2⟩:=rl_method (ReflectliteValue.valueError "reflectlite.Value.IsNil" 0) ReflectliteValue.isNil (.agg #[.pointer (some ⟨10,105,none⟩),.pointer (some a),.int .u64 150]);rw [h1]
 simp only [Sem.run_bind,K7,Result.andThen,h2]
 simp [ReflectliteValue.isNil,loadVar,isAgg,underlying,Tryz.underlying105,ha,Result.andThen]
theorem Gr (h:Value) (w:World):(Go.method 502 217 (.agg #[h]) "Elem").run Tryz.prog w=.ok (322,.agg #[h]) w:=by kernel_rfl
theorem uD (h:Value) (w:World):(Go.method 502 217 (.agg #[h]) "Implements").run Tryz.prog w=.ok (323,.agg #[h]) w:=by kernel_rfl
theorem qP (h:Value) (w:World):(Go.method 502 217 (.agg #[h]) "AssignableTo").run Tryz.prog w=.ok (320,.agg #[h]) w:=by kernel_rfl
theorem elemP (w:World):(ReflectliteType.method ReflectliteType.elem #[.agg #[.pointer (some ⟨10,105,none⟩)]]).run Tryz.prog w=.ok (.iface 217 (.agg #[.pointer (some ⟨10,102,none⟩)])) w:=by kernel_rfl
theorem ED (w:World):(ReflectliteType.relation "Implements" ReflectliteType.implements_ #[.agg #[.pointer (some ⟨10,102,none⟩)],.iface 217 (.agg #[.pointer (some ⟨10,54,none⟩)])]).run Tryz.prog w=.ok (.bool true) w:=by kernel_rfl
theorem typeOfT (v:Value) (w:World):(ReflectliteType.typeOf #[.iface 102 v]).run Tryz.prog w=.ok (.iface 217 (.agg #[.pointer (some ⟨10,102,none⟩)])) w:=by kernel_rfl
theorem Fq (w:World):(ReflectliteType.relation "AssignableTo" ReflectliteType.assignableTo #[.agg #[.pointer (some ⟨10,102,none⟩)],.iface 217 (.agg #[.pointer (some ⟨10,102,none⟩)])]).run Tryz.prog w=.ok (.bool true) w:=by kernel_rfl
theorem Ku (l c:Int) (w:World):(ReflectliteValue.unpack (.iface 102 (.agg #[.int .i64 l,.int .i64 c]))).run Tryz.prog w
  = .ok (.agg #[.pointer (some ⟨10,102,none⟩),.pointer (some ⟨w.heap.size,0,none⟩),.int .u64 153]) (w.alloc (.cells #[.int .i64 l,.int .i64 c] 102)):=by kernel_rfl
theorem elemOfP (w:World):(Rtype.elem? 105).run Tryz.prog w=.ok (some 102) w:=by kernel_rfl
theorem mkT (p:Addr) (w:World):(ReflectliteValue.mk 102 p ReflectliteValue.flagAddr).run Tryz.prog w=.ok (.agg #[.pointer (some ⟨10,102,none⟩),.pointer (some p),.int .u64 409]) w:=by kernel_rfl
theorem elemVP (a p:Addr) (W:World) (ha:W.cell? a=some (.pointer (some p))) :
  (ReflectliteValue.method (ReflectliteValue.valueError "reflectlite.Value.Elem" 0) ReflectliteValue.elem #[.agg #[.pointer (some ⟨10,105,none⟩),.pointer (some a),.int .u64 150]]).run Tryz.prog W
   = .ok (.agg #[.pointer (some ⟨10,102,none⟩),.pointer (some p),.int .u64 409]) W:=by
 obtain ⟨k,h1,h2⟩:=rl_method (ReflectliteValue.valueError "reflectlite.Value.Elem" 0) ReflectliteValue.elem (.agg #[.pointer (some ⟨10,105,none⟩),.pointer (some a),.int .u64 150]);rw [h1]
 simp only [Sem.run_bind,K7,Result.andThen,h2]
 simp [ReflectliteValue.elem,loadVar,isAgg,underlying,Tryz.underlying105,ha,Result.andThen,elemOfP,mkT]
theorem partsTa (a:Addr) (w:World):(ReflectliteValue.parts (.agg #[.pointer (some ⟨10,102,none⟩),.pointer (some a),.int .u64 409])).run Tryz.prog w=.ok (some (102,a,409)) w:=by kernel_rfl
theorem partsT (a:Addr) (w:World):(ReflectliteValue.parts (.agg #[.pointer (some ⟨10,102,none⟩),.pointer (some a),.int .u64 153])).run Tryz.prog w=.ok (some (102,a,153)) w:=by kernel_rfl
theorem directT (w:World):(Rtype.directlyAssignable 102 102).run Tryz.prog w=.ok true w:=by kernel_rfl
theorem sizeT (w:World):(sizeOf 102).run Tryz.prog w=.ok 2 w:=by kernel_rfl
theorem aggT (w:World):(isAgg 102).run Tryz.prog w=.ok true w:=by kernel_rfl
theorem rl_set (v x:Value) (a b:Addr):∃ (k:Option (TypeId×Addr×Nat)→Option (TypeId×Addr×Nat)→Sem Value) (r:Value→Sem Value),ReflectliteValue.set #[v,x]=(do let p ← ReflectliteValue.parts v;let q ← ReflectliteValue.parts x;k p q)∧k (some (102,a,409)) (some (102,b,153))=(do let val ← loadVar 102 b;let d ← Rtype.directlyAssignable 102 102;if d=true then (do let _ ← storeVar 102 a val;pure (.tuple #[])) else r val):=⟨_,_,rfl,rfl⟩
theorem setT (tb bb:Nat) (l c:Int) (W:World) (hb0:W.cell? ⟨bb,0,none⟩=some (.int .i64 l)) (hb1:W.cell? ⟨bb,1,none⟩=some (.int .i64 c)) (ht:W.heap[tb]?=some (.cells #[.int .i64 0,.int .i64 0] 102 (0,0))) :
  (ReflectliteValue.set #[.agg #[.pointer (some ⟨10,102,none⟩),.pointer (some ⟨tb,0,none⟩),.int .u64 409],.agg #[.pointer (some ⟨10,102,none⟩),.pointer (some ⟨bb,0,none⟩),.int .u64 153]]).run Tryz.prog W
   = .ok (.tuple #[]) (W.setRow tb #[.int .i64 l,.int .i64 c]):=by
 obtain ⟨k,r,h1,h2⟩:=rl_set (.agg #[.pointer (some ⟨10,102,none⟩),.pointer (some ⟨tb,0,none⟩),.int .u64 409]) (.agg #[.pointer (some ⟨10,102,none⟩),.pointer (some ⟨bb,0,none⟩),.int .u64 153]) ⟨tb,0,none⟩ ⟨bb,0,none⟩
 have hld:(loadCells ⟨bb,0,none⟩ 2).run Tryz.prog W=.ok #[.int .i64 l,.int .i64 c] W:=run_loadCells_list W ⟨bb,0,none⟩ [.int .i64 l,.int .i64 c] (fun j v hj=>by
  rcases j with - | - | j
  ·simp at hj;subst hj;simpa [Addr.add] using hb0
  ·simp at hj;subst hj;simpa [Addr.add] using hb1
  ·simp at hj)
 have hst:(storeCells ⟨tb,0,none⟩ [.int .i64 l,.int .i64 c]).run Tryz.prog W=.ok () (W.setRow tb #[.int .i64 l,.int .i64 c]):=run_storeCells_from tb _ [.int .i64 l,.int .i64 c] 0 _ W ht rfl (fun v hv=>by simp at hv;rcases hv with rfl | rfl <;> rfl)
 rw [h1]
 simp only [Sem.run_bind,partsTa,partsT,Result.andThen,h2]
 simp [ReflectliteValue.flagAddr,loadVar,aggT,sizeT,Result.andThen,directT,storeVar,Value.cells,hld,hst]
theorem as_hit (tb:Nat) (l c:Int) (w:World) (hg:w.cell? ⟨1,0,none⟩=some (.iface 217 (.agg #[.pointer (some ⟨10,54,none⟩)]))) (ht:w.heap[tb]?=some (.cells #[.int .i64 0,.int .i64 0] 102 (0,0))) :
  Calls Tryz.prog 66 #[.iface 102 (.agg #[.int .i64 l,.int .i64 c]),.iface 105 (.pointer (some ⟨tb,0,none⟩))] w fun ev w'=>ev=.returned (.bool true)∧∃ w4,Below w.heap.size w w4∧w4.heap[tb]?=some (.cells #[.int .i64 0,.int .i64 0] 102 (0,0))∧w'=w4.setRow tb #[.int .i64 l,.int .i64 c]:=by
 have h6:=@run_callFunc_extern Tryz.prog 116 _ (fun args=>ReflectliteValue.unpack (args.getD 0 (.tuple #[]))) Tryz.func116 (by kernel_rfl) (by kernel_rfl) (by kernel_rfl) (by kernel_rfl)
 have h7:=@run_callFunc_extern Tryz.prog 117 _ (ReflectliteValue.methodAny (ReflectliteValue.valueError "reflectlite.Value.Type" 0) (fun t _ _ _=>ReflectliteType.toType t)) Tryz.func117 (by kernel_rfl) (by kernel_rfl) (by kernel_rfl) (by kernel_rfl)
 have h8:=@run_callFunc_extern Tryz.prog 118 _ (ReflectliteValue.method (ReflectliteValue.valueError "reflectlite.Value.IsNil" 0) ReflectliteValue.isNil) Tryz.func118 (by kernel_rfl) (by kernel_rfl) (by kernel_rfl) (by kernel_rfl)
 have h27:=@run_callFunc_extern Tryz.prog 311 _ (ReflectliteType.abiMethod fun t=>do pure (.int .u8 (← Rtype.kind t))) Tryz.func311 (by kernel_rfl) (by kernel_rfl) (by kernel_rfl) (by kernel_rfl)
 have h37:=@run_callFunc_extern Tryz.prog 322 _ (ReflectliteType.method ReflectliteType.elem) Tryz.func322 (by kernel_rfl) (by kernel_rfl) (by kernel_rfl) (by kernel_rfl)
 have h38:=@run_callFunc_extern Tryz.prog 323 _ (ReflectliteType.relation "Implements" ReflectliteType.implements_) Tryz.func323 (by kernel_rfl) (by kernel_rfl) (by kernel_rfl) (by kernel_rfl)
 have h10:=@run_callFunc_extern Tryz.prog 158 _ ReflectliteType.typeOf Tryz.func158 (by kernel_rfl) (by kernel_rfl) (by kernel_rfl) (by kernel_rfl)
 have h35:=@run_callFunc_extern Tryz.prog 320 _ (ReflectliteType.relation "AssignableTo" ReflectliteType.assignableTo) Tryz.func320 (by kernel_rfl) (by kernel_rfl) (by kernel_rfl) (by kernel_rfl)
 have h11:=@run_callFunc_extern Tryz.prog 159 _ (ReflectliteValue.method (ReflectliteValue.valueError "reflectlite.Value.Elem" 0) ReflectliteValue.elem) Tryz.func159 (by kernel_rfl) (by kernel_rfl) (by kernel_rfl) (by kernel_rfl)
 have h12:=@run_callFunc_extern Tryz.prog 160 _ ReflectliteValue.set Tryz.func160 (by kernel_rfl) (by kernel_rfl) (by kernel_rfl) (by kernel_rfl)
 have tO:=typeOfT;have mA:=qP;have aT:=Fq;have vT:=Ku;have f6:=Kv;have f7:=typeP;have mK:=Gq;have mE:=Gr;have mI:=uD;have kP:=kindP;have kT:=kindT;have eP:=elemP;have iT:=ED;have htl:tb<w.heap.size:=(Array.getElem?_eq_some_iff.1 ht).1
 have hgl:1<w.heap.size:=by
  rcases Nat.lt_or_ge 1 w.heap.size with h | h
  ·exact h
  ·simp [World.cell?,Array.getElem?_eq_none h] at hg
 have b1:Below w.heap.size w (w.alloc (.cells #[.pointer (some ⟨tb,0,none⟩)] 105)):=(Below.refl _ _).alloc (Nat.le_refl _) _
 have b2:Below w.heap.size w ((w.alloc (.cells #[.pointer (some ⟨tb,0,none⟩)] 105)).alloc (.cells #[.pointer (some ⟨10,105,none⟩),.pointer (some ⟨w.heap.size,0,none⟩),.int .u64 150] 166)):=b1.alloc (by simp) _
 have b3:Below w.heap.size w (((w.alloc (.cells #[.pointer (some ⟨tb,0,none⟩)] 105)).alloc (.cells #[.pointer (some ⟨10,105,none⟩),.pointer (some ⟨w.heap.size,0,none⟩),.int .u64 150] 166)).alloc (.cells #[.pointer (some ⟨10,105,none⟩),.pointer (some ⟨w.heap.size,0,none⟩),.int .u64 150] 166)):=b2.alloc (by simp;omega) _
 have b4:Below w.heap.size w ((((w.alloc (.cells #[.pointer (some ⟨tb,0,none⟩)] 105)).alloc (.cells #[.pointer (some ⟨10,105,none⟩),.pointer (some ⟨w.heap.size,0,none⟩),.int .u64 150] 166)).alloc (.cells #[.pointer (some ⟨10,105,none⟩),.pointer (some ⟨w.heap.size,0,none⟩),.int .u64 150] 166)).alloc (.cells #[.int .i64 l,.int .i64 c] 102)):=b3.alloc (by simp;omega) _
 have n8:=isNilP ⟨w.heap.size,0,none⟩ ⟨tb,0,none⟩ ((w.alloc (.cells #[.pointer (some ⟨tb,0,none⟩)] 105)).alloc (.cells #[.pointer (some ⟨10,105,none⟩),.pointer (some ⟨w.heap.size,0,none⟩),.int .u64 150] 166)) (by simp)
 have hg2:((w.alloc (.cells #[.pointer (some ⟨tb,0,none⟩)] 105)).alloc (.cells #[.pointer (some ⟨10,105,none⟩),.pointer (some ⟨w.heap.size,0,none⟩),.int .u64 150] 166)).cell? ⟨1,0,none⟩=some (.iface 217 (.agg #[.pointer (some ⟨10,54,none⟩)])):=by
  rw [World.cell?_of_block (w:=w) (b2.block _ hgl)];exact hg
 have el:=elemVP ⟨w.heap.size,0,none⟩ ⟨tb,0,none⟩ (((w.alloc (.cells #[.pointer (some ⟨tb,0,none⟩)] 105)).alloc (.cells #[.pointer (some ⟨10,105,none⟩),.pointer (some ⟨w.heap.size,0,none⟩),.int .u64 150] 166)).alloc (.cells #[.pointer (some ⟨10,105,none⟩),.pointer (some ⟨w.heap.size,0,none⟩),.int .u64 150] 166)) (by rw [World.cell?_alloc_lt _ _ ⟨w.heap.size,0,none⟩ (by simp;omega)];simp)
 have st:=setT tb (w.heap.size+1+1+1) l c ((((w.alloc (.cells #[.pointer (some ⟨tb,0,none⟩)] 105)).alloc (.cells #[.pointer (some ⟨10,105,none⟩),.pointer (some ⟨w.heap.size,0,none⟩),.int .u64 150] 166)).alloc (.cells #[.pointer (some ⟨10,105,none⟩),.pointer (some ⟨w.heap.size,0,none⟩),.int .u64 150] 166)).alloc (.cells #[.int .i64 l,.int .i64 c] 102)) (by rw [World.cell?_alloc_at _ _ _ _ (by simp)];rfl) (by rw [World.cell?_alloc_at _ _ _ _ (by simp)];rfl) ((b4.block _ htl).trans ht)
 have HR:((((w.alloc (.cells #[.pointer (some ⟨tb,0,none⟩)] 105)).alloc (.cells #[.pointer (some ⟨10,105,none⟩),.pointer (some ⟨w.heap.size,0,none⟩),.int .u64 150] 166)).alloc (.cells #[.pointer (some ⟨10,105,none⟩),.pointer (some ⟨w.heap.size,0,none⟩),.int .u64 150] 166)).alloc (.cells #[.int .i64 l,.int .i64 c] 102)).heap[tb]?=some (.cells #[.int .i64 0,.int .i64 0] 102 (0,0)):=(b4.block _ htl).trans ht;clear b1 b2 b3
 go_enter Tryz.func66,Tryz.ntmps66
 go_wp2;refine wp_loop_rounds 1 ?_;rw [rounds_succ];go_wp2;go_ret;exact ⟨rfl,_,b4,HR,rfl⟩
end Go.Proofs.YtcmgddnckohdaaaGreatDoor.Er
