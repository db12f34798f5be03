
/-
 Proved: whatever list of bytes it is called with, the law FnTop returns true, and the argument reads afterwards as it read before; the package-level variables that it reads are as the program's text lays them (the card ties them).
-/
import Derived.Test.YtbjmgglpiakgdaaGreatDoorLawTop
import Derived.Lib.LaidU8
import Derived.Test.YtbjmgglpiakgdaaGreatDoorOpen2
import Derived.Test.YtbjmgglpiakgdaaGreatDoorCards
import Derived.Test.YtbjmgglpiakgdaaGreatDoorTie
import Derived.Deep.DeepHandedRow
set_option maxRecDepth 100000
namespace Go.Proofs.YtbjmgglpiakgdaaGreatDoor.top2
open Go.ChangeShapes Go.WideShapes Go.ChangeAt Go.RowKit Go.Deep Go.Joins
set_option linter.unusedVariables false
open Sd
theorem gNeed:Tryz.prog.globalNamed "loop.example/lapplan/impl.neededThings"=some 0:=by kernel_rfl
theorem tNeed:(Tryz.prog.globals[0]?).map (·.type)=some 183:=by kernel_rfl
theorem need_of {w:World} (h:Lib.VarReads Tryz.prog w "loop.example/lapplan/impl.neededThings" Rows.laid_loop_example_lapplan_impl_neededThings):NeedIn w:=by
 obtain ⟨g,t,cs,fuel,p,hg,ht,hvar,hd⟩:=h;obtain rfl:=Option.some.inj (gNeed.symm.trans hg);obtain rfl:=Option.some.inj (tNeed.symm.trans ht);have e:(Rows.laid_loop_example_lapplan_impl_neededThings:DataW Unit)=Lib.tabData .i64 [1,2,3,4]:=rfl;rw [e] at hd
 have hc:=Lib.cells_of_tab Tryz.underlying183 Tryz.underlying3 (by kernel_rfl) (by kernel_rfl) hd
 have hc2:cs=needC:=Array.toList_inj.1 (hc.trans rfl);subst hc2
 simp only [World.var?,gNeed,Option.bind_some] at hvar
 split at hvar
 ·rename_i c t fr hb
  cases hvar
  exact ⟨t,fr,hb⟩
 ·cases hvar
theorem open_bys {H:Type} {enc:TypeId×Value→H} {P:Program} {w:World} {base:Nat} {spare:Nat→Bool} {held:Bool} {fuel:Nat} {t e:TypeId} {v:Value} {x:DataW H×List MemPlace}
  (ht:P.underlying t=some (.slice e)) (he:P.underlying e=some (.int .u8)) (hC:P.cellsOf e=1) (h:DataW.trod enc P w base spare held fuel t [v]=some x):∃ n:Nat,Dr.BysArg w v n:=by
 obtain ⟨l,ad,cap,hv,h1,h2,h3⟩:=open_elems ht hC (by omega) (fun b o (x:Int)=>w.cell? ⟨b,o,none⟩=some (.int .u8 x)∧0≤x∧x<256) (fun n b off cs y hl hcell hy=>by
  obtain ⟨q,e0,_,hq⟩:=DataW.trod_int he hy;subst e0
  refine ⟨q,by simpa using hcell 0 _ rfl,?_⟩
  simp [Lit.wf,IntKind.min,IntKind.max,IntKind.signed,IntKind.bits] at hq
  omega) h
 refine ⟨l.length,ad,cap,hv,h1,h2,fun i hi=>?_⟩;obtain ⟨b,off,ha,hr⟩:=h3 i _ (List.getElem?_eq_getElem hi)
 exact ⟨b,off,_,ha,by simpa using hr.1,hr.2⟩
theorem cellsByte:Tryz.prog.cellsOf 5=1:=by kernel_rfl
theorem own:ownKnob Tryz.prog.godebug=none:=by kernel_rfl
theorem laidOut:laidOutB Tryz.prog=true:=by kernel_rfl
theorem contract (H:Type) (enc:TypeId×Value→H) (W:World) (base:Nat) (args:Array Value) (ds gs:List (DataW H)) (before:List MemPlace)
  (hval:∀ (j:Nat) t v,Tryz.f3.params[j]?=some t→args[j]?=some v→Value.okWide Tryz.prog W .any base t v)
  (hW:DataW.Whole enc Tryz.prog Tryz.f3.params.toList Rows.fnTopSpec.vars false W args.toList ds gs before) (hL:laidMetH Tryz.prog Rows.fnTopRow.laid W) :
  Calls Tryz.prog 3 args W fun e W'=>∃ v,e=.returned v∧Rows.fnTopSpec.post enc Tryz.prog Tryz.f3 false true false false W args v W':=by
 have hL':laidMet Tryz.prog Rows.fnTopRow.laid W:=hL
 have hneed:NeedIn W:=need_of (Lib.laidMet.reads hL' (by simp [Rows.fnTopRow]))
 clear hL hL';have hW':=hW;obtain ⟨p,q,hA0,hV0,rfl,hfz,hnd⟩:=hW;have hA:DataW.TrodAll enc Tryz.prog W 0 (fun _=>true) true Tryz.f3.params.toList args.toList ds p:=hA0;have hV:DataW.TrodVars enc Tryz.prog W (fun _=>true) ["loop.example/lapplan/impl.neededThings"] gs q:=hV0;rw [Tryz.params3] at hA hval;obtain ⟨v0,vs0,d0,ds0,p0,q0,hargs0,rfl,rfl,h0,r0⟩:=trodAll_cons hA;obtain ⟨rfl,rfl,rfl⟩:=trodAll_nil r0
 obtain rfl:args=#[v0]:=by cases args;simp_all
 obtain ⟨g,t,cs,fuel,dv,pv,rfl,hg,ht,hvar,hd,rfl⟩:=trodVars_one hV;obtain rfl:=Option.some.inj (gNeed.symm.trans hg);obtain rfl:=Option.some.inj (tNeed.symm.trans ht);have k0:=h0
 have lt0:∀ x∈p0,x.block<W.heap.size:=by obtain ⟨m,hm⟩:=k0;exact DataW.trod_lt m _ _ _ hm
 obtain ⟨ua0,un0,uc0,rfl⟩:=okWide_slice Tryz.underlying22 (hval 0 22 v0 rfl rfl);obtain ⟨fu0,hfu0⟩:=h0
 obtain ⟨n0,hn0⟩:=open_bys Tryz.underlying22 Tryz.underlying5 cellsByte (by simpa [Value.cells] using hfu0)
 have hltv:∀ x∈pv,x.block<W.heap.size:=fun x hx=>hW'.lt x (List.mem_append_right _ (List.mem_append_right _ hx));clear hA0 hV0 hA hV;refine (Dr.lawTop_walk _ n0 W hn0 hneed).mono fun e W' ⟨he,bel⟩=>?_;subst he
 obtain ⟨fuel',hd'⟩:=Below.trod laidOut (by kernel_rfl) (of_decide_eq_true (by kernel_rfl)) (v:=.agg cs) (⟨fuel,by simpa [Value.cells] using hd⟩:DataW.Trod enc Tryz.prog W 0 (fun _=>true) true 183 (.agg cs) dv pv) bel hltv
 have hv':=trodVars_mk1 (enc:=enc) (spare:=fun b=>decide (b<W.heap.size)) gNeed tNeed (var?_below bel gNeed hneed.lt hvar) (by simpa [Value.cells] using hd')
 exact ⟨_,rfl,_,_,_,[],_,_,hW',trodAll_mk1 (shut_bool Tryz.underlying4 _),(trodAll_cons_mk (Below.trod laidOut (by kernel_rfl) (of_decide_eq_true (by kernel_rfl)) k0 bel lt0) trodAll_mk0),hv',bel.frame _,fun h=>by cases h⟩
/-- The cells of a plain datum. -/
def dataCells:Nat→DataW Unit→List Value
 | 0,_=>[]
 | _+1,.lit (.int k n)=>[.int k n]
 | _+1,.lit (.string l)=>[.string ⟨l.toArray⟩]
 | n+1,.agg ps=>ps.flatMap (dataCells n)
 | _+1,_=>[]
/-- The world with a variable's block holding these cells. -/
def layVar (w:World) (g:Nat) (d:DataW Unit):World :=
 { w with heap:=w.heap.modify g fun
   | .cells _ t fr=>.cells (dataCells 4 d).toArray t fr
   | o=>o }
/-- The listed variables laid. -/
def layAll (w:World):World :=
 layVar w 0 Rows.laid_loop_example_lapplan_impl_neededThings
theorem laid_met (os:Os):laidMet Tryz.prog Rows.fnTopRow.laid ((layAll (World.holding Tryz.prog os ⟨#[],#[],[]⟩)).forCall (fun _ _=>0) ⟨#[],#[.slice none 0 0],[]⟩).memory :=
 laidMet_of_run' 8 (by kernel_rfl) (by kernel_rfl)
theorem reads (os:Os) {H:Type} (enc:TypeId×Value→H):∃ dv places,DataW.whole enc Tryz.prog ((layAll (World.holding Tryz.prog os ⟨#[],#[],[]⟩)).forCall (fun _ _=>0) ⟨#[],#[.slice none 0 0],[]⟩).memory Tryz.f3.params.toList Rows.fnTopSpec.vars false #[Value.slice none 0 0].toList 8=some ([.nil],[dv],places) :=
 ⟨Rows.laid_loop_example_lapplan_impl_neededThings,MemPlace.row ⟨0,0,none⟩ 4,by kernel_rfl⟩
theorem lifted (os:Os) (started:os.Started) (H:Type) (enc:TypeId×Value→H) (F:Stop.Interp) :
  ReturnsInHanded {} Tryz.checked os 3 .any ((OpenSpec.ofChange Rows.fnTopSpec).preRow enc Tryz.prog Tryz.f3 Rows.fnTopRow.domain false Rows.fnTopRow.laid) (((OpenSpec.ofChange Rows.fnTopSpec).at F).post enc Tryz.prog Tryz.f3 false true false false):=by
 obtain ⟨dv,places,hx⟩:=reads os enc
 refine returnsInHanded_of_row (C:=Tryz.checked) (s:=OpenSpec.ofChange Rows.fnTopSpec) own started (by kernel_rfl) Tryz.func3
  (witness_row_at (enc:=enc) (C:=Tryz.checked) false (layAll (World.holding Tryz.prog os ⟨#[],#[],[]⟩)) #[.slice none 0 0] rfl (by kernel_rfl) (by kernel_rfl) (by kernel_rfl)
   (OpenSpec.preRow_of_cond 8 hx rfl (fun k hk=>by cases hk) (by kernel_rfl) (laid_met os))) ?_
 intro W base args ds gs before hval hW _ _ _ hL _ _;exact contract H enc W base args ds gs before hval hW hL
theorem said:Rows.FnTopSaid :=
 OpenClaim.holds_of_cond 3 Tryz.f3 rfl rfl rfl rfl rfl rfl rfl ⟨rfl,rfl,rfl,rfl,rfl⟩ rfl rfl rfl rfl rfl (by kernel_rfl) Tryz.func3 (by kernel_rfl)
  (of_decide_eq_true (by kernel_rfl)) (by unfold Func.isWrapper;first | (rw [if_pos (by decide +kernel)];kernel_rfl) | (rw [if_neg (by decide +kernel)];exact ⟨rfl,rfl⟩))
  (fun os started H enc _ F=>by rw [OpenClaim.pre_eq_preRow];exact lifted os started H enc F)
theorem plain (f:FuncId) (fn:Func) (hf:Tryz.pinned.checked.prog.funcNamed "loop.example/lapplan/laws.FnTop"=some f) (hfn:Tryz.pinned.checked.prog.funcs[f]?=some fn) :
  true=Tryz.pinned.checked.prog.looks []∧∀ (j:Nat) t,fn.params[j]?=some t→Tryz.pinned.checked.prog.wantsStandIn t=false:=by
 obtain rfl:f=3:=Option.some.inj ((show Tryz.prog.funcNamed "loop.example/lapplan/laws.FnTop"=some 3 by kernel_rfl).symm.trans hf) |>.symm
 obtain rfl:fn=Tryz.f3:=(Option.some.inj (Tryz.func3.symm.trans hfn)).symm
 refine ⟨by kernel_rfl,fun j t ht=>?_⟩
 rw [Tryz.params3] at ht
 obtain rfl:t=22:=by simpa using Array.mem_of_getElem? ht
 exact (show Tryz.prog.wantsStandIn 22=false by kernel_rfl)
end Go.Proofs.YtbjmgglpiakgdaaGreatDoor.top2
namespace Go.Proofs.YtbjmgglpiakgdaaGreatDoor
/-- The given card. -/
theorem top2_card:Rows.FnTopCardSaid :=
 Claim7.holds_tied_plain_at .later [] _ _ _ _ top2.said (fun _ h=>by cases h) (by kernel_rfl) (fun _ h=>by cases h) fnTop_row_tie rfl ⟨rfl,rfl⟩ (by kernel_rfl) rfl top2.plain (by kernel_rfl)
#print axioms top2_card
end Go.Proofs.YtbjmgglpiakgdaaGreatDoor
