import Derived.Test.YtolokangldmodaaGreatDoorProg
import Derived.WalkKit
import Derived.Stop.Asserts
import Derived.RowKitTokens
set_option maxRecDepth 100000
set_option maxHeartbeats 12800000
open Go.Value renaming int->o,pointer->J,agg->U
open Go.Obj renaming cells->AE
open Option renaming none->R,some->I
open Go.IntKind renaming i64->AD
open Go.Proofs.Tryz
namespace Go.Proofs.YtolokangldmodaaGreatDoor.Er
open Go.RowKit Go.Extern.Stop Go.Stop Go.Extern
set_option linter.unusedSimpArgs false
set_option linter.unusedVariables false
theorem RU(t:Addr)(w:World):(ReflectliteValue.unpack (.iface 160 (J (I t)))).run prog w
  = .ok (U #[J (I ⟨10,160,R⟩),J (I ⟨w.heap.size,0,R⟩),.int .u64 150]) (w.alloc (AE #[J (I t)] 160)):=by kernel_rfl
theorem typeP(a:Addr)(w:World):(ReflectliteValue.methodAny (ReflectliteValue.valueError "reflectlite.Value.Type" 0) (λt _ _ _=>ReflectliteType.toType t) #[U #[J (I ⟨10,160,R⟩),J (I a),.int .u64 150]]).run prog w
  = .ok (.iface 210 (U #[J (I ⟨10,160,R⟩)])) w:=by kernel_rfl
theorem Ng(h:Value)(w:World):(Go.method 477 210 (U #[h]) "Kind").run prog w=.ok (268,h) w:=by kernel_rfl
theorem kindP(w:World):((ReflectliteType.abiMethod λt=>(λa:Nat=>o IntKind.u8 (a:Int)) <$> Rtype.kind t) #[J (I ⟨10,160,R⟩)]).run prog w=.ok (.int .u8 22) w:=by kernel_rfl
theorem kindT(w:World):((ReflectliteType.abiMethod λt=>(λa:Nat=>o IntKind.u8 (a:Int)) <$> Rtype.kind t) #[J (I ⟨10,158,R⟩)]).run prog w=.ok (.int .u8 25) w:=by kernel_rfl
theorem rl_method(z:Sem Value)(f:TypeId->Addr->Nat->Nat->Sem Value)(v:Value):∃k:Option (TypeId×Addr×Nat)->Sem Value,ReflectliteValue.method z f #[v]=(ReflectliteValue.parts v >>= k)/\∀t a fl,k (I (t,a,fl))=f t a fl (fl % 32):=⟨_,rfl,λ_ _ _=>rfl⟩
theorem Tg(a:Addr)(w:World):(ReflectliteValue.parts (U #[J (I ⟨10,160,R⟩),J (I a),.int .u64 150])).run prog w=.ok (I (160,a,150)) w:=by kernel_rfl
theorem isNilP(a p:Addr)(W:World)(ha:W.cell? a=I (J (I p))) :
  (ReflectliteValue.method (ReflectliteValue.valueError "reflectlite.Value.IsNil" 0) ReflectliteValue.isNil #[U #[J (I ⟨10,160,R⟩),J (I a),.int .u64 150]]).run prog W=.ok (.bool false) W:=by
 obtain⟨k,h1,h2⟩:=rl_method (ReflectliteValue.valueError "reflectlite.Value.IsNil" 0) ReflectliteValue.isNil (U #[J (I ⟨10,160,R⟩),J (I a),.int .u64 150]);rw[h1]
 simp only[Sem.run_bind,Tg,Result.andThen,h2]
 simp[ReflectliteValue.isNil,loadVar,isAgg,underlying,underlying160,ha,Result.andThen]
theorem Nh(h:Value)(w:World):(Go.method 477 210 (U #[h]) "Elem").run prog w=.ok (279,U #[h]) w:=by kernel_rfl
theorem yB(h:Value)(w:World):(Go.method 477 210 (U #[h]) "Implements").run prog w=.ok (280,U #[h]) w:=by kernel_rfl
theorem uV(h:Value)(w:World):(Go.method 477 210 (U #[h]) "AssignableTo").run prog w=.ok (277,U #[h]) w:=by kernel_rfl
theorem elemP(w:World):(ReflectliteType.method ReflectliteType.elem #[U #[J (I ⟨10,160,R⟩)]]).run prog w=.ok (.iface 210 (U #[J (I ⟨10,158,R⟩)])) w:=by kernel_rfl
theorem KW(w:World):(ReflectliteType.relation "Implements" ReflectliteType.implements_ #[U #[J (I ⟨10,158,R⟩)],.iface 210 (U #[J (I ⟨10,64,R⟩)])]).run prog w=.ok (.bool true) w:=by kernel_rfl
theorem typeOfT(v:Value)(w:World):(ReflectliteType.typeOf #[.iface 158 v]).run prog w=.ok (.iface 210 (U #[J (I ⟨10,158,R⟩)])) w:=by kernel_rfl
theorem LJ(w:World):(ReflectliteType.relation "AssignableTo" ReflectliteType.assignableTo #[U #[J (I ⟨10,158,R⟩)],.iface 210 (U #[J (I ⟨10,158,R⟩)])]).run prog w=.ok (.bool true) w:=by kernel_rfl
theorem RQ(l c:Int)(w:World):(ReflectliteValue.unpack (.iface 158 (U #[o AD l,o AD c]))).run prog w
  = .ok (U #[J (I ⟨10,158,R⟩),J (I ⟨w.heap.size,0,R⟩),.int .u64 153]) (w.alloc (AE #[o AD l,o AD c] 158)):=by kernel_rfl
theorem elemOfP(w:World):(Rtype.elem? 160).run prog w=.ok (I 158) w:=by kernel_rfl
theorem mkT(p:Addr)(w:World):(ReflectliteValue.mk 158 p ReflectliteValue.flagAddr).run prog w=.ok (U #[J (I ⟨10,158,R⟩),J (I p),.int .u64 409]) w:=by kernel_rfl
theorem elemVP(a p:Addr)(W:World)(ha:W.cell? a=I (J (I p))) :
  (ReflectliteValue.method (ReflectliteValue.valueError "reflectlite.Value.Elem" 0) ReflectliteValue.elem #[U #[J (I ⟨10,160,R⟩),J (I a),.int .u64 150]]).run prog W
   = .ok (U #[J (I ⟨10,158,R⟩),J (I p),.int .u64 409]) W:=by
 obtain⟨k,h1,h2⟩:=rl_method (ReflectliteValue.valueError "reflectlite.Value.Elem" 0) ReflectliteValue.elem (U #[J (I ⟨10,160,R⟩),J (I a),.int .u64 150]);rw[h1]
 simp only[Sem.run_bind,Tg,Result.andThen,h2]
 simp[ReflectliteValue.elem,loadVar,isAgg,underlying,underlying160,ha,Result.andThen,elemOfP,mkT]
theorem partsTa(a:Addr)(w:World):(ReflectliteValue.parts (U #[J (I ⟨10,158,R⟩),J (I a),.int .u64 409])).run prog w=.ok (I (158,a,409)) w:=by kernel_rfl
theorem partsT(a:Addr)(w:World):(ReflectliteValue.parts (U #[J (I ⟨10,158,R⟩),J (I a),.int .u64 153])).run prog w=.ok (I (158,a,153)) w:=by kernel_rfl
theorem directT(w:World):(Rtype.directlyAssignable 158 158).run prog w=.ok true w:=by kernel_rfl
theorem sizeT(w:World):(sizeOf 158).run prog w=.ok 2 w:=by kernel_rfl
theorem aggT(w:World):(isAgg 158).run prog w=.ok true w:=by kernel_rfl
theorem rl_set(v x:Value)(a b:Addr):∃(k:Option (TypeId×Addr×Nat)->Option (TypeId×Addr×Nat)->Sem Value) (r:Value->Sem Value),ReflectliteValue.set #[v,x]=(do let p <-ReflectliteValue.parts v;let q <-ReflectliteValue.parts x;k p q)/\k (I (158,a,409)) (I (158,b,153))=(do let val <-loadVar 158 b;let d <-Rtype.directlyAssignable 158 158;if d=true then(do let _ <-storeVar 158 a val;pure (.tuple #[])) else r val):=⟨_,_,rfl,rfl⟩
theorem setT(tb bb:Nat)(l c:Int)(W:World)(hb0:W.cell? ⟨bb,0,R⟩=I (o AD l))(hb1:W.cell? ⟨bb,1,R⟩=I (o AD c))(ht:W.heap[tb]?=I (AE #[o AD 0,o AD 0] 158 (0,0))) :
  (ReflectliteValue.set #[U #[J (I ⟨10,158,R⟩),J (I ⟨tb,0,R⟩),.int .u64 409],U #[J (I ⟨10,158,R⟩),J (I ⟨bb,0,R⟩),.int .u64 153]]).run prog W
   = .ok (.tuple #[]) (W.setRow tb #[o AD l,o AD c]):=by
 obtain⟨k,r,h1,h2⟩:=rl_set (U #[J (I ⟨10,158,R⟩),J (I ⟨tb,0,R⟩),.int .u64 409]) (U #[J (I ⟨10,158,R⟩),J (I ⟨bb,0,R⟩),.int .u64 153]) ⟨tb,0,R⟩ ⟨bb,0,R⟩
 have ae:(loadCells ⟨bb,0,R⟩ 2).run prog W=.ok #[o AD l,o AD c] W:=run_loadCells_list W ⟨bb,0,R⟩ [o AD l,o AD c] (λj v hj=>by
  rcases j with - | - | j
  .simp at hj;subst hj;simpa[Addr.add] using hb0
  .simp at hj;subst hj;simpa[Addr.add] using hb1
  .simp at hj)
 have ad:(storeCells ⟨tb,0,R⟩ [o AD l,o AD c]).run prog W=.ok () (W.setRow tb #[o AD l,o AD c]):=run_storeCells_from tb _ [o AD l,o AD c] 0 _ W ht rfl (λv hv=>by simp at hv;rcases hv with rfl|rfl<;>rfl)
 rw[h1]
 simp only[Sem.run_bind,partsTa,partsT,Result.andThen,h2]
 simp[ReflectliteValue.flagAddr,loadVar,aggT,sizeT,Result.andThen,directT,storeVar,Value.cells,ae,ad]
theorem as_hit(tb:Nat)(l c:Int)(w:World)(hg:w.cell? ⟨1,0,R⟩=I (.iface 210 (U #[J (I ⟨10,64,R⟩)])))(ht:w.heap[tb]?=I (AE #[o AD 0,o AD 0] 158 (0,0))) :
  Calls prog 88 #[.iface 158 (U #[o AD l,o AD c]),.iface 160 (J (I ⟨tb,0,R⟩))] w λev w'=>ev=.returned (.bool true)/\∃w4,Below w.heap.size w w4/\w4.heap[tb]?=I (AE #[o AD 0,o AD 0] 158 (0,0))/\w'=w4.setRow tb #[o AD l,o AD c]:=by
 have h6:=@run_callFunc_extern prog 112 _ (λargs=>ReflectliteValue.unpack (args.getD 0 (.tuple #[]))) func112 (by kernel_rfl) (by kernel_rfl) (by kernel_rfl) (by kernel_rfl)
 have h7:=@run_callFunc_extern prog 113 _ (ReflectliteValue.methodAny (ReflectliteValue.valueError "reflectlite.Value.Type" 0) (λt _ _ _=>ReflectliteType.toType t)) func113 (by kernel_rfl) (by kernel_rfl) (by kernel_rfl) (by kernel_rfl)
 have h8:=@run_callFunc_extern prog 114 _ (ReflectliteValue.method (ReflectliteValue.valueError "reflectlite.Value.IsNil" 0) ReflectliteValue.isNil) func114 (by kernel_rfl) (by kernel_rfl) (by kernel_rfl) (by kernel_rfl)
 have h27:=@run_callFunc_extern prog 268 _ (ReflectliteType.abiMethod λt=>do pure (.int .u8 (<-Rtype.kind t))) func268 (by kernel_rfl) (by kernel_rfl) (by kernel_rfl) (by kernel_rfl)
 have h37:=@run_callFunc_extern prog 279 _ (ReflectliteType.method ReflectliteType.elem) func279 (by kernel_rfl) (by kernel_rfl) (by kernel_rfl) (by kernel_rfl)
 have h38:=@run_callFunc_extern prog 280 _ (ReflectliteType.relation "Implements" ReflectliteType.implements_) func280 (by kernel_rfl) (by kernel_rfl) (by kernel_rfl) (by kernel_rfl)
 have h10:=@run_callFunc_extern prog 149 _ ReflectliteType.typeOf func149 (by kernel_rfl) (by kernel_rfl) (by kernel_rfl) (by kernel_rfl)
 have h35:=@run_callFunc_extern prog 277 _ (ReflectliteType.relation "AssignableTo" ReflectliteType.assignableTo) func277 (by kernel_rfl) (by kernel_rfl) (by kernel_rfl) (by kernel_rfl)
 have h11:=@run_callFunc_extern prog 150 _ (ReflectliteValue.method (ReflectliteValue.valueError "reflectlite.Value.Elem" 0) ReflectliteValue.elem) func150 (by kernel_rfl) (by kernel_rfl) (by kernel_rfl) (by kernel_rfl)
 have h12:=@run_callFunc_extern prog 151 _ ReflectliteValue.set func151 (by kernel_rfl) (by kernel_rfl) (by kernel_rfl) (by kernel_rfl)
 have tO:=typeOfT;have mA:=uV;have aT:=LJ;have vT:=RQ;have f6:=RU;have f7:=typeP;have mK:=Ng;have mE:=Nh;have mI:=yB;have kP:=kindP;have kT:=kindT;have eP:=elemP;have iT:=KW;have ab:=(Array.getElem?_eq_some_iff.1 ht).1
 have af:1<w.heap.size:=by
  rcases Nat.lt_or_ge 1 w.heap.size with h|h
  .exact h
  .simp [World.cell?,Array.getElem?_eq_none h] at hg
 have b1:Below w.heap.size w (w.alloc (AE #[J (I ⟨tb,0,R⟩)] 160)):=(Below.refl _ _).alloc (Nat.le_refl _) _
 have b2:Below w.heap.size w ((w.alloc (AE #[J (I ⟨tb,0,R⟩)] 160)).alloc (AE #[J (I ⟨10,160,R⟩),J (I ⟨w.heap.size,0,R⟩),.int .u64 150] 176)):=b1.alloc (by simp) _
 have b3:Below w.heap.size w (((w.alloc (AE #[J (I ⟨tb,0,R⟩)] 160)).alloc (AE #[J (I ⟨10,160,R⟩),J (I ⟨w.heap.size,0,R⟩),.int .u64 150] 176)).alloc (AE #[J (I ⟨10,160,R⟩),J (I ⟨w.heap.size,0,R⟩),.int .u64 150] 176)):=b2.alloc (by simp;omega) _
 have b4:Below w.heap.size w ((((w.alloc (AE #[J (I ⟨tb,0,R⟩)] 160)).alloc (AE #[J (I ⟨10,160,R⟩),J (I ⟨w.heap.size,0,R⟩),.int .u64 150] 176)).alloc (AE #[J (I ⟨10,160,R⟩),J (I ⟨w.heap.size,0,R⟩),.int .u64 150] 176)).alloc (AE #[o AD l,o AD c] 158)):=b3.alloc (by simp;omega) _
 have n8:=isNilP ⟨w.heap.size,0,R⟩ ⟨tb,0,R⟩ ((w.alloc (AE #[J (I ⟨tb,0,R⟩)] 160)).alloc (AE #[J (I ⟨10,160,R⟩),J (I ⟨w.heap.size,0,R⟩),.int .u64 150] 176)) (by simp)
 have hg2:((w.alloc (AE #[J (I ⟨tb,0,R⟩)] 160)).alloc (AE #[J (I ⟨10,160,R⟩),J (I ⟨w.heap.size,0,R⟩),.int .u64 150] 176)).cell? ⟨1,0,R⟩=I (.iface 210 (U #[J (I ⟨10,64,R⟩)])):=by
  rw[World.cell?_of_block (w:=w) (b2.block _ af)];exact hg
 have el:=elemVP ⟨w.heap.size,0,R⟩ ⟨tb,0,R⟩ (((w.alloc (AE #[J (I ⟨tb,0,R⟩)] 160)).alloc (AE #[J (I ⟨10,160,R⟩),J (I ⟨w.heap.size,0,R⟩),.int .u64 150] 176)).alloc (AE #[J (I ⟨10,160,R⟩),J (I ⟨w.heap.size,0,R⟩),.int .u64 150] 176)) (by rw[World.cell?_alloc_lt _ _ ⟨w.heap.size,0,R⟩ (by simp;omega)];simp)
 have st:=setT tb (w.heap.size+1+1+1) l c ((((w.alloc (AE #[J (I ⟨tb,0,R⟩)] 160)).alloc (AE #[J (I ⟨10,160,R⟩),J (I ⟨w.heap.size,0,R⟩),.int .u64 150] 176)).alloc (AE #[J (I ⟨10,160,R⟩),J (I ⟨w.heap.size,0,R⟩),.int .u64 150] 176)).alloc (AE #[o AD l,o AD c] 158)) (by rw[World.cell?_alloc_at _ _ _ _ (by simp)];rfl) (by rw[World.cell?_alloc_at _ _ _ _ (by simp)];rfl) ((b4.block _ ab).trans ht)
 have HR:=(b4.block _ ab).trans ht
 go_enter func88,ntmps88
 go_wp2;refine wp_loop_rounds 1 ?_;rw[rounds_succ];go_wp2;go_ret;exact⟨rfl,_,b4,HR,rfl⟩
end Go.Proofs.YtolokangldmodaaGreatDoor.Er
