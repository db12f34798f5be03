
/-
 Proved: whatever list of bytes it is called with, the law FnLines returns true, and the argument reads afterwards as it read before; the package-level variables that it reads are as the program's text lays them (the card ties them).
-/
import Derived.Test.YtolokangldmodaaGreatDoorLawLn
import Derived.Test.YtolokangldmodaaGreatDoorOpen2
import Derived.OpenVars
import Derived.Test.YtolokangldmodaaGreatDoorRowLn1
set_option maxRecDepth 100000
namespace Go.Proofs.YtolokangldmodaaGreatDoor.lines2
open Go.ChangeShapes Go.WideShapes Go.ChangeAt Go.RowKit Go.Deep Go.Joins
set_option linter.unusedVariables false
theorem Tt{H:Type}{enc:TypeId×Value->H}{P:Program}{w:World}{base:Nat}{spare:Nat->Bool}{held:Bool}{fuel:Nat}{t e:TypeId}{v:Value}{x:DataW H×List MemPlace}(ht:P.underlying t=some (.slice e))(he:P.underlying e=some (.int .u8))(hC:P.cellsOf e=1)(h:DataW.trod enc P w base spare held fuel t [v]=some x):∃n:Nat,Dr.zh w v n:=by
 obtain⟨l,ad,cap,hv,h1,h2,h3⟩:=Nb ht hC (by omega) (λb o (x:Int)=>w.cell? ⟨b,o,none⟩=some (.int .u8 x)/\0<=x/\x<256) (λn b off cs y hl hcell hy=>by
  obtain⟨q,e0,_,hq⟩:=DataW.trod_int he hy;subst e0
  refine⟨q,by simpa using hcell 0 _ rfl,?_⟩
  simp[Lit.wf,IntKind.min,IntKind.max,IntKind.signed,IntKind.bits] at hq
  omega) h
 refine⟨l.length,ad,cap,hv,h1,h2,λi hi=>?_⟩;obtain⟨b,off,ha,hr⟩:=h3 i _ (List.getElem?_eq_getElem hi)
 exact⟨b,off,_,ha,by simpa using hr.1,hr.2⟩
theorem cellsByte:Tryz.prog.cellsOf 5=1:=by kernel_rfl
theorem own:ownKnob Tryz.prog.godebug=none:=by kernel_rfl
theorem laidOut:laidOutB Tryz.prog=true:=by kernel_rfl
theorem gNeed:Tryz.prog.globalNamed "loop.example/lapplan/impl.neededThings"=some 5:=by kernel_rfl
theorem tNeed:(Tryz.prog.globals[5]?).map (·.type)=some 264:=by kernel_rfl
theorem need_of{w:World}(h:Lib.VarReads Tryz.prog w "loop.example/lapplan/impl.neededThings" Rows.laid_loop_example_lapplan_impl_neededThings):Sd.gM w:=by
 obtain⟨g,t,cs,fuel,p,hg,ht,hvar,hd⟩:=h;obtain rfl:=Option.some.inj (gNeed.symm.trans hg);obtain rfl:=Option.some.inj (tNeed.symm.trans ht);have e:(Rows.laid_loop_example_lapplan_impl_neededThings:DataW Unit)=Lib.tabData .i64 [1,2,3,4]:=rfl;rw[e] at hd
 have hc:=Lib.cells_of_tab Tryz.underlying264 Tryz.underlying3 (by kernel_rfl) (by kernel_rfl) hd
 have hc2:cs=Sd.Ty:=Array.toList_inj.1 (hc.trans rfl);subst hc2
 simp only[World.var?,gNeed,Option.bind_some] at hvar
 split at hvar
 .rename_i c t fr hb
  cases hvar
  exact⟨t,fr,hb⟩
 .cases hvar
theorem gFlt:Tryz.prog.globalNamed "loop.example/lapplan/impl.faultAnswers"=some 0:=by kernel_rfl
theorem tFlt:(Tryz.prog.globals[0]?).map (·.type)=some 34:=by kernel_rfl
theorem cFlt:Tryz.prog.cellsOf 34=8:=by kernel_rfl
theorem nV{H:Type}{enc:TypeId×Value->H}{w:World}{base:Nat}{sp:Nat->Bool}{held:Bool}{fuel:Nat}{cs:List Value}{l:List UInt8}{p:List MemPlace}(h:DataW.trod enc Tryz.prog w base sp held fuel 9 cs=some (.lit (.string l),p)):cs=[.string ⟨l.toArray⟩]:=by
 obtain⟨s,e2,e3,_⟩:=DataW.trod_string Tryz.underlying9 h
 simp only[Prod.mk.injEq,DataW.lit.injEq,Lit.string.injEq] at e3
 rw[e2,Sm e3.1.symm]
theorem flt_of{w:World}(h:Lib.VarReads Tryz.prog w "loop.example/lapplan/impl.faultAnswers" Rows.laid_loop_example_lapplan_impl_faultAnswers):Ss.pU w:=by
 obtain⟨g,t,cs,fuel,p,hg,ht,hvar,hd⟩:=h;obtain rfl:=Option.some.inj (gFlt.symm.trans hg);obtain rfl:=Option.some.inj (tFlt.symm.trans ht);obtain⟨xs,m,_,hx,hl,hxl,hall⟩:=DataW.trod_array Tryz.underlying34 hd;rw[cFlt] at hl;rw[cStr] at hall
 match xs,hxl with
 |[(d0,p0),(d1,p1),(d2,p2),(d3,p3),(d4,p4),(d5,p5),(d6,p6),(d7,p7)],_ =>
  have q0:=hall 0 (by omega);have q1:=hall 1 (by omega);have q2:=hall 2 (by omega);have q3:=hall 3 (by omega);have q4:=hall 4 (by omega);have q5:=hall 5 (by omega);have q6:=hall 6 (by omega);have q7:=hall 7 (by omega)
  simp only[Rows.laid_loop_example_lapplan_impl_faultAnswers,Prod.mk.injEq,DataW.agg.injEq,List.map_cons,List.map_nil,List.cons.injEq,and_true] at hx
  obtain⟨⟨rfl,rfl,rfl,rfl,rfl,rfl,rfl,rfl⟩,_⟩:=hx;have k0:=nV q0;have k1:=nV q1;have k2:=nV q2;have k3:=nV q3;have k4:=nV q4;have k5:=nV q5;have k6:=nV q6;have k7:=nV q7
  have hcs:cs.toList=Ss.fltC.toList:=by
   generalize cs.toList=l at *
   match l,hl with
   |[a0,a1,a2,a3,a4,a5,a6,a7],_ =>
    simp at k0 k1 k2 k3 k4 k5 k6 k7
    subst k0 k1 k2 k3 k4 k5 k6 k7
    rfl
  have hc:cs=Ss.fltC:=Array.toList_inj.1 hcs;subst hc
  simp only[World.var?,gFlt,Option.bind_some] at hvar
  split at hvar
  .rename_i c t fr hb
   cases hvar
   exact⟨t,fr,hb⟩
  .cases hvar
theorem gErr:Tryz.prog.globalNamed "errors.errorType"=some 1:=by kernel_rfl
theorem gRt:(Tryz.prog.cutTypes.find? (·.1 == "internal/reflectlite.rtype")).map (·.2)=some 210:=by kernel_rfl
theorem oneErr:((List.range Tryz.prog.types.size).filter λt=>Tryz.prog.rowNamed t [101,114,114,111,114])=[64]:=by kernel_rfl
/-- What the listed handle gives: the variable's one cell. -/
theorem err_of{W:World}(h:handlesMet Tryz.prog [("errors.errorType",Rows.laid_errors_errorType)] W):pV W:=by
 obtain⟨name,u,ty,e1,e2,e3,e4,e5⟩:=h _ (List.mem_singleton.2 rfl);have en:name=[101,114,114,111,114]:=(Option.some.inj e1).symm;subst en;obtain rfl:=Option.some.inj (gRt.symm.trans e2);have hm:ty∈(List.range Tryz.prog.types.size).filter λt=>Tryz.prog.rowNamed t [101,114,114,111,114]:=List.mem_filter.2 ⟨List.mem_range.2 e3,e4⟩;rw[oneErr] at hm;obtain rfl:=List.mem_singleton.1 hm
 have hh:typeHandle Tryz.prog 64=.pointer (some ⟨10,64,none⟩):=by kernel_rfl
 rw[hh] at e5;unfold pV
 simpa using World.var?_cell gErr e5 0
theorem contract(H:Type)(enc:TypeId×Value->H)(W:World)(base:Nat)(args:Array Value)(ds gs:List (DataW H))(before:List MemPlace)(hval:∀(j:Nat) t v,Tryz.f3.params[j]?=some t->args[j]?=some v->Value.okWide Tryz.prog W .any base t v)(hW:DataW.Whole enc Tryz.prog Tryz.f3.params.toList Rows.fnLinesSpec.vars false W args.toList ds gs before)(hL:laidMetH Tryz.prog Rows.fnLinesRow.laid W)(hsh:W.ShapedOpen Tryz.prog) :
  Calls Tryz.prog 3 args W λe W'=>∃v,e=.returned v/\Rows.fnLinesSpec.post enc Tryz.prog Tryz.f3 false true false false W args v W':=by
 have hL':laidMet Tryz.prog [("math/bits.deBruijn32tab",Rows.laid_math_bits_deBruijn32tab), ("math/bits.deBruijn64tab",Rows.laid_math_bits_deBruijn64tab), ("internal/strconv.uint64pow10",Rows.laid_internal_strconv_uint64pow10), ("unicode/utf8.acceptRanges",Rows.laid_unicode_utf8_acceptRanges), ("loop.example/lapplan/impl.saidWords",Rows.laid_loop_example_lapplan_impl_saidWords), ("loop.example/lapplan/impl.neededThings",Rows.laid_loop_example_lapplan_impl_neededThings), ("loop.example/lapplan/impl.faultAnswers",Rows.laid_loop_example_lapplan_impl_faultAnswers), ("unicode/utf8.first",Rows.laid_unicode_utf8_first)] W/\handlesMet Tryz.prog [("errors.errorType",Rows.laid_errors_errorType)] W:=hL
 have hsaid:jh W:=said_of (Lib.laidMet.reads hL'.1 (by simp))
 have hneed:Sd.gM W:=need_of (Lib.laidMet.reads hL'.1 (by simp))
 have hflt:Ss.pU W:=flt_of (Lib.laidMet.reads hL'.1 (by simp))
 have herr:pV W:=err_of hL'.2
 have hpow:=pow_of (Lib.laidMet.reads hL'.1 (n := "internal/strconv.uint64pow10") (d:=Rows.laid_internal_strconv_uint64pow10) (by simp))
 have hmax:jP W:=Tryz.TM.s1_3 W hsh;clear hL hL';have hW':=hW;obtain⟨p,q,hA0,hV0,rfl,hfz,hnd⟩:=hW;have hA:DataW.TrodAll enc Tryz.prog W 0 (λ_=>true) true Tryz.f3.params.toList args.toList ds p:=hA0;have hV:DataW.TrodVars enc Tryz.prog W (λ_=>true) ["loop.example/lapplan/impl.faultAnswers", "loop.example/lapplan/impl.neededThings", "loop.example/lapplan/impl.saidWords"] gs q:=hV0;rw[Tryz.params3] at hA hval;obtain⟨v0,vs0,d0,ds0,p0,q0,hargs,rfl,rfl,h0,r0⟩:=trodAll_cons hA;obtain⟨rfl,rfl,rfl⟩:=trodAll_nil r0
 obtain rfl:args=#[v0]:=by cases args;simp_all
 obtain⟨d1,d2,d3,rfl⟩:∃a b c,gs=[a,b,c]:=by
  cases gs with
  |nil=>simp[DataW.TrodVars] at hV
  |cons d ds =>
   obtain⟨_,_,_,_,_,_,_,_,_,_,hs,_⟩:=hV;obtain⟨_,_,_,_,d1,_,_,_,_,_,d2,_,rfl,_⟩:=trodVars_two hs;exact⟨_,_,_,rfl⟩
 have k0:=h0
 have lt0:∀x∈p0,x.block<W.heap.size:=by obtain⟨m,hm⟩:=k0;exact DataW.trod_lt m _ _ _ hm
 obtain⟨ua0,un0,uc0,rfl⟩:=okWide_slice Tryz.underlying22 (hval 0 22 v0 rfl rfl);obtain⟨fu0,hfu0⟩:=h0
 obtain⟨n0,hn0⟩:=Tt Tryz.underlying22 Tryz.underlying5 cellsByte (by simpa[Value.cells] using hfu0)
 clear hA0 hV0 hA;refine(Dr.Ep _ n0 W hn0 ⟨hsaid,hmax,herr,hflt,hneed,hpow⟩).mono λe W' ⟨he,bel⟩=>?_;subst he
 have hv':=Below.trodVars laidOut bel (by kernel_rfl) hV
 exact⟨_,rfl,_,_,_,[],_,_,hW',trodAll_mk1 (shut_bool Tryz.underlying4 _),(trodAll_cons_mk (Below.trod laidOut (by kernel_rfl) (of_decide_eq_true (by kernel_rfl)) k0 bel lt0) trodAll_mk0),hv',bel.frame _,λh=>by cases h⟩
theorem lifted(os:Os)(started:os.Started)(H:Type)(enc:TypeId×Value->H)(F:Stop.Interp) :
  ReturnsInHanded {} Tryz.checked os 3 .any ((OpenSpec.ofChange Rows.fnLinesSpec).preRow enc Tryz.prog Tryz.f3 Rows.fnLinesRow.domain false Rows.fnLinesRow.laid) (((OpenSpec.ofChange Rows.fnLinesSpec).at F).post enc Tryz.prog Tryz.f3 false true false false):=by
 obtain⟨d1,d2,d3,places,hx⟩:=reads os enc
 refine returnsInHanded_of_row (C:=Tryz.checked) (s:=OpenSpec.ofChange Rows.fnLinesSpec) own started (by kernel_rfl) Tryz.func3
  (witness_row_at (enc:=enc) (C:=Tryz.checked) false (layAll (World.holding Tryz.prog os ⟨#[],#[],[]⟩)) #[.slice none 0 0] rfl (by kernel_rfl) (by kernel_rfl) (by kernel_rfl)
   (OpenSpec.preRow_of_cond 8 hx rfl (λk hk=>by cases hk) (by kernel_rfl) (TQ os))) ?_
 intro W base args ds gs before hval hW _ _ _ hL hsh _;exact contract H enc W base args ds gs before hval hW hL hsh
theorem said:Rows.FnLinesSaid :=
 OpenClaim.holds_of_cond 3 Tryz.f3 rfl rfl rfl rfl rfl rfl rfl ⟨rfl,rfl,rfl,rfl,rfl⟩ rfl rfl rfl rfl rfl (by kernel_rfl) Tryz.func3 closed
  (of_decide_eq_true (by kernel_rfl)) (by unfold Func.isWrapper;first|(rw[if_pos (by decide +kernel)];kernel_rfl)|(rw[if_neg (by decide +kernel)];exact⟨rfl,rfl⟩))
  (λos started H enc _ F=>by rw[OpenClaim.pre_eq_preRow];exact lifted os started H enc F)
theorem plain(f:FuncId)(fn:Func)(hf:Tryz.pinned.checked.prog.funcNamed "loop.example/lapplan/laws.FnLines"=some f)(hfn:Tryz.pinned.checked.prog.funcs[f]?=some fn) :
  true=Tryz.pinned.checked.prog.looks []/\∀(j:Nat) t,fn.params[j]?=some t->Tryz.pinned.checked.prog.wantsStandIn t=false:=by
 obtain rfl:f=3:=Option.some.inj ((show Tryz.prog.funcNamed "loop.example/lapplan/laws.FnLines"=some 3 by kernel_rfl).symm.trans hf) |>.symm
 obtain rfl:fn=Tryz.f3:=(Option.some.inj (Tryz.func3.symm.trans hfn)).symm
 refine⟨by kernel_rfl,λj t ht=>?_⟩
 rw[Tryz.params3] at ht
 obtain rfl:t=22:=by simpa using Array.mem_of_getElem? ht
 exact(show Tryz.prog.wantsStandIn 22=false by kernel_rfl)
end Go.Proofs.YtolokangldmodaaGreatDoor.lines2
namespace Go.Proofs.YtolokangldmodaaGreatDoor
/-- The given card. -/
theorem lines2_card:Rows.FnLinesCardSaid :=
 Claim7.holds_tied_plain_at .later [] _ _ _ _ lines2.said (λ_ h=>by cases h) (by kernel_rfl) (λ_ h=>by cases h) fnLines_row_tie rfl ⟨rfl,rfl⟩ (by kernel_rfl) rfl lines2.plain (by kernel_rfl)
#print axioms lines2_card
end Go.Proofs.YtolokangldmodaaGreatDoor
