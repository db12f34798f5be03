
/-
 Proved: whatever list of bytes it is called with, the law FnText returns true, and the argument reads afterwards as it read before; the package-level variables that it reads are as the program's text lays them (the card ties them).
-/
import Derived.Test.YtcmgddnckohdaaaGreatDoorLawText
import Derived.Test.YtcmgddnckohdaaaGreatDoorOpen2
import Derived.Test.YtcmgddnckohdaaaGreatDoorShelf5
import Derived.Test.YtcmgddnckohdaaaGreatDoorRowTx1
set_option maxRecDepth 100000
namespace Go.Proofs.YtcmgddnckohdaaaGreatDoor.text2
open Go.ChangeShapes Go.WideShapes Go.ChangeAt Go.RowKit Go.Deep Go.Joins
set_option linter.unusedVariables false
theorem Lb {H:Type} {enc:TypeId×Value→H} {P:Program} {w:World} {base:Nat} {spare:Nat→Bool} {held:Bool} {fuel:Nat} {t e:TypeId} {v:Value} {x:DataW H×List MemPlace}
  (ht:P.underlying t=some (.slice e)) (he:P.underlying e=some (.int .u8)) (hC:P.cellsOf e=1) (h:DataW.trod enc P w base spare held fuel t [v]=some x):∃ n:Nat,Dr.nN w v n:=by
 obtain ⟨l,ad,cap,hv,h1,h2,h3⟩:=Gn ht hC (by omega) (fun b o (x:Int)=>w.cell? ⟨b,o,none⟩=some (.int .u8 x)∧0≤x∧x<256) (fun n b off cs y hl hcell hy=>by
  obtain ⟨q,e0,_,hq⟩:=DataW.trod_int he hy;subst e0
  refine ⟨q,by simpa using hcell 0 _ rfl,?_⟩
  simp [Lit.wf,IntKind.min,IntKind.max,IntKind.signed,IntKind.bits] at hq
  omega) h
 refine ⟨l.length,ad,cap,hv,h1,h2,fun i hi=>?_⟩;obtain ⟨b,off,ha,hr⟩:=h3 i _ (List.getElem?_eq_getElem hi)
 exact ⟨b,off,_,ha,by simpa using hr.1,hr.2⟩
theorem cellsByte:Tryz.prog.cellsOf 5=1:=by kernel_rfl
theorem own:ownKnob Tryz.prog.godebug=none:=by kernel_rfl
theorem laidOut:laidOutB Tryz.prog=true:=by kernel_rfl
theorem gErr:Tryz.prog.globalNamed "errors.errorType"=some 1:=by kernel_rfl
theorem gRt:(Tryz.prog.cutTypes.find? (·.1 == "internal/reflectlite.rtype")).map (·.2)=some 217:=by kernel_rfl
theorem oneErr:((List.range Tryz.prog.types.size).filter fun t=>Tryz.prog.rowNamed t [101,114,114,111,114])=[54]:=by kernel_rfl
/-- What the listed handle gives: the variable's one cell. -/
theorem err_of {W:World} (h:handlesMet Tryz.prog [("errors.errorType",Rows.laid_errors_errorType)] W):tT W:=by
 obtain ⟨name,u,ty,e1,e2,e3,e4,e5⟩:=h _ (List.mem_singleton.2 rfl);have en:name=[101,114,114,111,114]:=(Option.some.inj e1).symm;subst en;obtain rfl:=Option.some.inj (gRt.symm.trans e2);have hm:ty∈(List.range Tryz.prog.types.size).filter fun t=>Tryz.prog.rowNamed t [101,114,114,111,114]:=List.mem_filter.2 ⟨List.mem_range.2 e3,e4⟩;rw [oneErr] at hm;obtain rfl:=List.mem_singleton.1 hm
 have hh:typeHandle Tryz.prog 54=.pointer (some ⟨10,54,none⟩):=by kernel_rfl
 rw [hh] at e5;unfold tT
 simpa using World.var?_cell gErr e5 0
theorem contract (H:Type) (enc:TypeId×Value→H) (W:World) (base:Nat) (args:Array Value) (ds gs:List (DataW H)) (before:List MemPlace)
  (hval:∀ (j:Nat) t v,Tryz.f3.params[j]?=some t→args[j]?=some v→Value.okWide Tryz.prog W .any base t v)
  (hW:DataW.Whole enc Tryz.prog Tryz.f3.params.toList Rows.fnTextSpec.vars false W args.toList ds gs before) (hL:laidMetH Tryz.prog Rows.fnTextRow.laid W) (hsh:W.ShapedOpen Tryz.prog) :
  Calls Tryz.prog 3 args W fun e W'=>∃ v,e=.returned v∧Rows.fnTextSpec.post enc Tryz.prog Tryz.f3 false true false false W args v W':=by
 have hL':laidMet Tryz.prog [("math/bits.deBruijn32tab",Rows.laid_math_bits_deBruijn32tab), ("math/bits.deBruijn64tab",Rows.laid_math_bits_deBruijn64tab), ("internal/strconv.uint64pow10",Rows.laid_internal_strconv_uint64pow10), ("unicode/utf8.acceptRanges",Rows.laid_unicode_utf8_acceptRanges), ("loop.example/lapplan/impl.saidWords",Rows.laid_loop_example_lapplan_impl_saidWords), ("unicode/utf8.first",Rows.laid_unicode_utf8_first)] W∧handlesMet Tryz.prog [("errors.errorType",Rows.laid_errors_errorType)] W:=hL
 have hsaid:ib W:=said_of (Lib.laidMet.reads hL'.1 (by simp))
 have herr:tT W:=err_of hL'.2
 have hpow:=pow_of (Lib.laidMet.reads hL'.1 (n := "internal/strconv.uint64pow10") (d:=Rows.laid_internal_strconv_uint64pow10) (by simp))
 have hmax:jo W:=Tryz.Ll.s1_3 W hsh;clear hL hL';have hW':=hW;obtain ⟨p,q,hA0,hV0,rfl,hfz,hnd⟩:=hW;have hA:DataW.TrodAll enc Tryz.prog W 0 (fun _=>true) true Tryz.f3.params.toList args.toList ds p:=hA0;have hV:DataW.TrodVars enc Tryz.prog W (fun _=>true) ["loop.example/lapplan/impl.saidWords"] gs q:=hV0;rw [Tryz.params3] at hA hval;obtain ⟨v0,vs0,d0,ds0,p0,q0,hargs,rfl,rfl,h0,r0⟩:=trodAll_cons hA;obtain ⟨rfl,rfl,rfl⟩:=trodAll_nil r0
 obtain rfl:args=#[v0]:=by cases args;simp_all
 obtain ⟨g,t,cs,fuel,dv,pv,rfl,hg,ht,hvar,hd,rfl⟩:=trodVars_one hV;obtain rfl:=Option.some.inj (EJ.symm.trans hg);obtain rfl:=Option.some.inj (KG.symm.trans ht);have k0:=h0
 have lt0:∀ x∈p0,x.block<W.heap.size:=by obtain ⟨m,hm⟩:=k0;exact DataW.trod_lt m _ _ _ hm
 obtain ⟨ua0,un0,uc0,rfl⟩:=okWide_slice Tryz.underlying22 (hval 0 22 v0 rfl rfl);obtain ⟨fu0,hfu0⟩:=h0
 obtain ⟨n0,hn0⟩:=Lb Tryz.underlying22 Tryz.underlying5 cellsByte (by simpa [Value.cells] using hfu0)
 have hltv:∀ x∈pv,x.block<W.heap.size:=fun x hx=>hW'.lt x (List.mem_append_right _ (List.mem_append_right _ hx));clear hA0 hV0 hA hV;refine (Dr.BQ _ n0 W hn0 hsaid hmax herr hpow).mono fun e W' ⟨he,bel⟩=>?_;subst he
 obtain ⟨fuel',hd'⟩:=Below.trod laidOut (by kernel_rfl) (of_decide_eq_true (by kernel_rfl)) (v:=.agg cs) (⟨fuel,by simpa [Value.cells] using hd⟩:DataW.Trod enc Tryz.prog W 0 (fun _=>true) true 182 (.agg cs) dv pv) bel hltv
 have hv':=trodVars_mk1 (enc:=enc) (spare:=fun b=>decide (b<W.heap.size)) EJ KG (var?_below bel EJ hsaid.lt hvar) (by simpa [Value.cells] using hd')
 exact ⟨_,rfl,_,_,_,[],_,_,hW',trodAll_mk1 (shut_bool Tryz.underlying4 _),(trodAll_cons_mk (Below.trod laidOut (by kernel_rfl) (of_decide_eq_true (by kernel_rfl)) k0 bel lt0) trodAll_mk0),hv',bel.frame _,fun h=>by cases h⟩
theorem lifted (os:Os) (started:os.Started) (H:Type) (enc:TypeId×Value→H) (F:Stop.Interp) :
  ReturnsInHanded {} Tryz.checked os 3 .any ((OpenSpec.ofChange Rows.fnTextSpec).preRow enc Tryz.prog Tryz.f3 Rows.fnTextRow.domain false Rows.fnTextRow.laid) (((OpenSpec.ofChange Rows.fnTextSpec).at F).post enc Tryz.prog Tryz.f3 false true false false):=by
 obtain ⟨dv,places,hx⟩:=reads os enc
 refine returnsInHanded_of_row (C:=Tryz.checked) (s:=OpenSpec.ofChange Rows.fnTextSpec) own started (by kernel_rfl) Tryz.func3
  (witness_row_at (enc:=enc) (C:=Tryz.checked) false (layAll (World.holding Tryz.prog os ⟨#[],#[],[]⟩)) #[.slice none 0 0] rfl (by kernel_rfl) (by kernel_rfl) (by kernel_rfl)
   (OpenSpec.preRow_of_cond 8 hx rfl (fun k hk=>by cases hk) (by kernel_rfl) (Lr os))) ?_
 intro W base args ds gs before hval hW _ _ _ hL hsh _;exact contract H enc W base args ds gs before hval hW hL hsh
theorem said:Rows.FnTextSaid :=
 OpenClaim.holds_of_cond 3 Tryz.f3 rfl rfl rfl rfl rfl rfl rfl ⟨rfl,rfl,rfl,rfl,rfl⟩ rfl rfl rfl rfl rfl (by kernel_rfl) Tryz.func3 closed
  (of_decide_eq_true (by kernel_rfl)) (by unfold Func.isWrapper;first | (rw [if_pos (by decide +kernel)];kernel_rfl) | (rw [if_neg (by decide +kernel)];exact ⟨rfl,rfl⟩))
  (fun os started H enc _ F=>by rw [OpenClaim.pre_eq_preRow];exact lifted os started H enc F)
theorem plain (f:FuncId) (fn:Func) (hf:Tryz.pinned.checked.prog.funcNamed "loop.example/lapplan/laws.FnText"=some f) (hfn:Tryz.pinned.checked.prog.funcs[f]?=some fn) :
  true=Tryz.pinned.checked.prog.looks []∧∀ (j:Nat) t,fn.params[j]?=some t→Tryz.pinned.checked.prog.wantsStandIn t=false:=by
 obtain rfl:f=3:=Option.some.inj ((show Tryz.prog.funcNamed "loop.example/lapplan/laws.FnText"=some 3 by kernel_rfl).symm.trans hf) |>.symm
 obtain rfl:fn=Tryz.f3:=(Option.some.inj (Tryz.func3.symm.trans hfn)).symm
 refine ⟨by kernel_rfl,fun j t ht=>?_⟩
 rw [Tryz.params3] at ht
 obtain rfl:t=22:=by simpa using Array.mem_of_getElem? ht
 exact (show Tryz.prog.wantsStandIn 22=false by kernel_rfl)
end Go.Proofs.YtcmgddnckohdaaaGreatDoor.text2
namespace Go.Proofs.YtcmgddnckohdaaaGreatDoor
/-- The given card. -/
theorem text2_card:Rows.FnTextCardSaid :=
 Claim7.holds_tied_plain_at .later [] _ _ _ _ text2.said (fun _ h=>by cases h) (by kernel_rfl) (fun _ h=>by cases h) fnText_row_tie rfl ⟨rfl,rfl⟩ (by kernel_rfl) rfl text2.plain (by kernel_rfl)
#print axioms text2_card
end Go.Proofs.YtcmgddnckohdaaaGreatDoor
