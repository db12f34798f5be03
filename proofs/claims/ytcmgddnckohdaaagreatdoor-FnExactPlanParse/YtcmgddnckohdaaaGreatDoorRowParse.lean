
/-
 Proved: whatever text it is called with, the law FnExactPlanParse returns true (PlanParse answers as the specification does), and the argument reads afterwards as it read before; the package-level variables that it reads are as the program's text lays them (the card ties them).
-/
import Derived.Test.YtcmgddnckohdaaaGreatDoorLawParse
import Derived.Lib.SmallJoins
import Derived.Test.YtcmgddnckohdaaaGreatDoorShelf5
import Derived.Test.YtcmgddnckohdaaaGreatDoorRowParse1
namespace Go.Proofs.YtcmgddnckohdaaaGreatDoor.parse
open Go.ChangeShapes Go.WideShapes Go.ChangeAt Go.RowKit Go.Deep Go.Joins
set_option linter.unusedVariables false
theorem own : ownKnob Tryz.prog.godebug = none := by kernel_rfl
theorem laidOut : laidOutB Tryz.prog = true := by kernel_rfl
theorem gErr : Tryz.prog.globalNamed "errors.errorType" = some 1 := by kernel_rfl
theorem gRt : (Tryz.prog.cutTypes.find? (·.1 == "internal/reflectlite.rtype")).map (·.2) = some 217 := by kernel_rfl
theorem oneErr : ((List.range Tryz.prog.types.size).filter fun t => Tryz.prog.rowNamed t [101, 114, 114, 111, 114]) = [54] := by kernel_rfl
/-- What the listed handle gives: the variable's one cell. -/
theorem err_of {W : World} (h : handlesMet Tryz.prog [("errors.errorType", Rows.laid_errors_errorType)] W) : ErrIn W := by
 obtain ⟨name, u, ty, e1, e2, e3, e4, e5⟩ := h _ (List.mem_singleton.2 rfl)
 have en : name = [101, 114, 114, 111, 114] := (Option.some.inj e1).symm
 subst en
 obtain rfl := Option.some.inj (gRt.symm.trans e2)
 have hm : ty ∈ (List.range Tryz.prog.types.size).filter fun t => Tryz.prog.rowNamed t [101, 114, 114, 111, 114] := List.mem_filter.2 ⟨List.mem_range.2 e3, e4⟩
 rw [oneErr] at hm
 obtain rfl := List.mem_singleton.1 hm
 have hh : typeHandle Tryz.prog 54 = .pointer (some ⟨10, 54, none⟩) := by kernel_rfl
 rw [hh] at e5
 unfold ErrIn
 simpa using World.var?_cell gErr e5 0
set_option maxRecDepth 100000 in
theorem contract (H : Type) (enc : TypeId × Value → H) (W : World) (base : Nat) (args : Array Value) (ds gs : List (DataW H)) (before : List MemPlace)
  (hval : ∀ (j : Nat) t v, Tryz.f6.params[j]? = some t → args[j]? = some v → Value.okWide Tryz.prog W .any base t v)
  (hW : DataW.Whole enc Tryz.prog Tryz.f6.params.toList Rows.fnExactPlanParseSpec.vars false W args.toList ds gs before) (hL : laidMetH Tryz.prog Rows.fnExactPlanParseRow.laid W) (hsh : W.ShapedOpen Tryz.prog) :
  Calls Tryz.prog 6 args W fun e W' => ∃ v, e = .returned v ∧ Rows.fnExactPlanParseSpec.post enc Tryz.prog Tryz.f6 false true false false W args v W' := by
 have hL' : laidMet Tryz.prog [("unicode/utf8.acceptRanges", Rows.laid_unicode_utf8_acceptRanges), ("loop.example/lapplan/impl.saidWords", Rows.laid_loop_example_lapplan_impl_saidWords), ("unicode/utf8.first", Rows.laid_unicode_utf8_first)] W ∧ handlesMet Tryz.prog [("errors.errorType", Rows.laid_errors_errorType)] W := hL
 have hsaid : SaidIn W := said_of (Lib.laidMet.reads hL'.1 (by simp))
 have herr : ErrIn W := err_of hL'.2
 have hmax : MaxIn W := Tryz.laysM147.s1_3 W hsh
 clear hL hL'
 have hW' := hW
 obtain ⟨p, q, hA0, hV0, rfl, hfz, hnd⟩ := hW
 have hA : DataW.TrodAll enc Tryz.prog W 0 (fun _ => true) true Tryz.f6.params.toList args.toList ds p := hA0
 have hV : DataW.TrodVars enc Tryz.prog W (fun _ => true) ["loop.example/lapplan/impl.saidWords"] gs q := hV0
 rw [Tryz.params6] at hA hval
 obtain ⟨v0, vs0, d0, ds0, p0, q0, hargs, rfl, rfl, h0, r0⟩ := trodAll_cons hA
 obtain ⟨rfl, rfl, rfl⟩ := trodAll_nil r0
 obtain rfl : args = #[v0] := by cases args; simp_all
 obtain ⟨g, t, cs, fuel, dv, pv, rfl, hg, ht, hvar, hd, rfl⟩ := trodVars_one hV
 obtain rfl := Option.some.inj (gSaid.symm.trans hg)
 obtain rfl := Option.some.inj (tSaid.symm.trans ht)
 have k0 := h0
 have lt0 : ∀ x ∈ p0, x.block < W.heap.size := by obtain ⟨m, hm⟩ := k0; exact DataW.trod_lt m _ _ _ hm
 obtain ⟨c, rfl⟩ := okWide_string Tryz.underlying9 (hval 0 9 v0 rfl rfl)
 have hc : c.size ≤ maxLen := by
  obtain ⟨m0, hm0⟩ := h0
  obtain ⟨c', e0, _, hc⟩ := DataW.trod_string Tryz.underlying9 hm0
  obtain rfl : c = c' := by simpa [Value.cells] using e0
  exact hc
 have hltv : ∀ x ∈ pv, x.block < W.heap.size := fun x hx => hW'.lt x (List.mem_append_right _ (List.mem_append_right _ hx))
 clear hA0 hV0 hA hV
 refine (Tx.lawParse_walk c W hsaid hmax herr).mono fun e W' ⟨he, bel⟩ => ?_
 subst he
 obtain ⟨fuel', hd'⟩ := Below.trod laidOut (by kernel_rfl) (of_decide_eq_true (by kernel_rfl)) (v := .agg cs) (⟨fuel, by simpa [Value.cells] using hd⟩ : DataW.Trod enc Tryz.prog W 0 (fun _ => true) true 182 (.agg cs) dv pv) bel hltv
 have hv' := trodVars_mk1 (enc := enc) (spare := fun b => decide (b < W.heap.size)) gSaid tSaid (var?_below bel gSaid hsaid.lt hvar) (by simpa [Value.cells] using hd')
 exact ⟨_, rfl, _, _, _, [], _, _, hW', trodAll_mk1 (shut_bool Tryz.underlying4 _), (trodAll_cons_mk (Below.trod laidOut (by kernel_rfl) (of_decide_eq_true (by kernel_rfl)) k0 bel lt0) trodAll_mk0), hv', bel.frame _, fun h => by cases h⟩
set_option maxRecDepth 100000 in
theorem lifted (os : Os) (started : os.Started) (H : Type) (enc : TypeId × Value → H) (F : Stop.Interp) :
  ReturnsInHanded {} Tryz.checked os 6 .any ((OpenSpec.ofChange Rows.fnExactPlanParseSpec).preRow enc Tryz.prog Tryz.f6 Rows.fnExactPlanParseRow.domain false Rows.fnExactPlanParseRow.laid) (((OpenSpec.ofChange Rows.fnExactPlanParseSpec).at F).post enc Tryz.prog Tryz.f6 false true false false) := by
 obtain ⟨dv, places, hx⟩ := reads os enc
 refine returnsInHanded_of_row (C := Tryz.checked) (s := OpenSpec.ofChange Rows.fnExactPlanParseSpec) own started (by kernel_rfl) Tryz.func6
  (witness_row_at (enc := enc) (C := Tryz.checked) false (layAll (World.holding Tryz.prog os ⟨#[], #[], []⟩)) #[.string ⟨#[]⟩] rfl (by kernel_rfl) (by kernel_rfl) (by kernel_rfl)
   (OpenSpec.preRow_of_cond 8 hx rfl (fun k hk => by cases hk) (by kernel_rfl) (laid_met os))) ?_
 intro W base args ds gs before hval hW _ _ _ hL hsh _
 exact contract H enc W base args ds gs before hval hW hL hsh
theorem said : Rows.FnExactPlanParseSaid :=
 OpenClaim.holds_of_cond 6 Tryz.f6 rfl rfl rfl rfl rfl rfl rfl ⟨rfl, rfl, rfl, rfl, rfl⟩ rfl rfl rfl rfl rfl (by kernel_rfl) Tryz.func6 closed
  (of_decide_eq_true (by kernel_rfl)) (by unfold Func.isWrapper; first | (rw [if_pos (by decide +kernel)]; kernel_rfl) | (rw [if_neg (by decide +kernel)]; exact ⟨rfl, rfl⟩))
  (fun os started H enc _ F => by rw [OpenClaim.pre_eq_preRow]; exact lifted os started H enc F)
theorem plain (f : FuncId) (fn : Func) (hf : Tryz.pinned.checked.prog.funcNamed "loop.example/lapplan/laws.FnExactPlanParse" = some f) (hfn : Tryz.pinned.checked.prog.funcs[f]? = some fn) :
  true = Tryz.pinned.checked.prog.looks [] ∧ ∀ (j : Nat) t, fn.params[j]? = some t → Tryz.pinned.checked.prog.wantsStandIn t = false := by
 obtain rfl : f = 6 := Option.some.inj ((show Tryz.prog.funcNamed "loop.example/lapplan/laws.FnExactPlanParse" = some 6 by kernel_rfl).symm.trans hf) |>.symm
 obtain rfl : fn = Tryz.f6 := (Option.some.inj (Tryz.func6.symm.trans hfn)).symm
 refine ⟨by kernel_rfl, fun j t ht => ?_⟩
 rw [Tryz.params6] at ht
 obtain rfl : t = 9 := by simpa using Array.mem_of_getElem? ht
 exact (show Tryz.prog.wantsStandIn 9 = false by kernel_rfl)
end Go.Proofs.YtcmgddnckohdaaaGreatDoor.parse
namespace Go.Proofs.YtcmgddnckohdaaaGreatDoor
/-- The given card. -/
theorem parse_card : Rows.FnExactPlanParseCardSaid :=
 Claim7.holds_tied_plain_at .later [] _ _ _ _ parse.said (fun _ h => by cases h) (by kernel_rfl) (fun _ h => by cases h) fnExactPlanParse_row_tie rfl ⟨rfl, rfl⟩ (by kernel_rfl) rfl parse.plain (by kernel_rfl)
#print axioms parse_card
end Go.Proofs.YtcmgddnckohdaaaGreatDoor
