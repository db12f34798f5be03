
/-
  Proved: whatever text it is called with, the law FnExactPlanRead returns true (PlanRead answers as the specification does), and the argument reads afterwards as it read before; the package-level variables that it reads are as the program's text lays them (the card ties them).
-/
import Derived.Test.YtfjblenkcfdbiaaDoorLaidForm
import Derived.Test.YtfjblenkcfdbiaaDoorRead4
import Derived.Test.YtfjblenkcfdbiaaDoorCards
import Derived.Test.YtfjblenkcfdbiaaDoorTie
import Derived.ProofKit
import Derived.ShutString
import Derived.ChangeOld
import Derived.Lib.SmallJoins
import Derived.Deep.DeepHandedRow
import Derived.SevenTiedAt
namespace Go.Proofs.YtfjblenkcfdbiaaDoor.read
open Go.ChangeShapes Go.WideShapes Go.ChangeAt Go.RowKit Go.Deep Go.Joins
set_option linter.unusedVariables false

theorem own : ownKnob Tryd.prog.godebug = none := by kernel_rfl
theorem laidOut : laidOutB Tryd.prog = true := by kernel_rfl

set_option maxRecDepth 100000 in
theorem contract (H : Type) (enc : TypeId × Value → H) (W : World) (base : Nat) (args : Array Value) (ds gs : List (DataW H)) (before : List MemPlace)
    (hval : ∀ (j : Nat) t v, Tryd.f4.params[j]? = some t → args[j]? = some v → Value.okWide Tryd.prog W .any base t v)
    (hW : DataW.Whole enc Tryd.prog Tryd.f4.params.toList Rows.fnExactPlanReadSpec.vars false W args.toList ds gs before) (hL : laidMetH Tryd.prog Rows.fnExactPlanReadRow.laid W) (hsh : W.ShapedOpen Tryd.prog) :
    Calls Tryd.prog 4 args W fun e W' => ∃ v, e = .returned v ∧ Rows.fnExactPlanReadSpec.post enc Tryd.prog Tryd.f4 false true false false W args v W' := by
  have hL' : laidMet Tryd.prog Rows.fnExactPlanReadRow.laid W := hL
  have hsaid : SaidIn W := said_of (Lib.laidMet.reads hL' (by simp [Rows.fnExactPlanReadRow]))
  have hmax : MaxIn W := Tryd.laysM147.s1_3 W hsh
  clear hL hL'
  have hW' := hW
  obtain ⟨p, q, hA0, hV0, rfl, hfz, hnd⟩ := hW
  have hA : DataW.TrodAll enc Tryd.prog W 0 (fun _ => true) true Tryd.f4.params.toList args.toList ds p := hA0
  have hV : DataW.TrodVars enc Tryd.prog W (fun _ => true) ["loop.example/lapplan/impl.saidWords"] gs q := hV0
  rw [Tryd.params4] at hA hval
  obtain ⟨v0, vs0, d0, ds0, p0, q0, hargs, rfl, rfl, h0, r0⟩ := trodAll_cons hA
  obtain ⟨rfl, rfl, rfl⟩ := trodAll_nil r0
  obtain rfl : args = #[v0] := by cases args; simp_all
  obtain ⟨g, t, cs, fuel, dv, pv, rfl, hg, ht, hvar, hd, rfl⟩ := trodVars_one hV
  obtain rfl := Option.some.inj (gSaid.symm.trans hg)
  obtain rfl := Option.some.inj (tSaid.symm.trans ht)
  have k0 := h0
  have lt0 : ∀ x ∈ p0, x.block < W.heap.size := by obtain ⟨m, hm⟩ := k0; exact DataW.trod_lt m _ _ _ hm
  obtain ⟨c, rfl⟩ := okWide_string Tryd.underlying9 (hval 0 9 v0 rfl rfl)
  have hc : c.size ≤ maxLen := by
    obtain ⟨m0, hm0⟩ := h0
    obtain ⟨c', e0, _, hc⟩ := DataW.trod_string Tryd.underlying9 hm0
    obtain rfl : c = c' := by simpa [Value.cells] using e0
    exact hc
  have hltv : ∀ x ∈ pv, x.block < W.heap.size := fun x hx => hW'.lt x (List.mem_append_right _ (List.mem_append_right _ hx))
  clear hA0 hV0 hA hV
  refine (lawRead_walk c W hsaid hmax hc).mono fun e W' ⟨he, bel⟩ => ?_
  subst he
  obtain ⟨fuel', hd'⟩ := Below.trod laidOut (by kernel_rfl) (of_decide_eq_true (by kernel_rfl)) (v := .agg cs) (⟨fuel, by simpa [Value.cells] using hd⟩ : DataW.Trod enc Tryd.prog W 0 (fun _ => true) true 49 (.agg cs) dv pv) bel hltv
  have hv' := trodVars_mk1 (enc := enc) (spare := fun b => decide (b < W.heap.size)) gSaid tSaid (var?_below bel gSaid hsaid.lt hvar) (by simpa [Value.cells] using hd')
  exact ⟨_, rfl, _, _, _, [], _, _, hW', trodAll_mk1 (shut_bool Tryd.underlying4 _), (trodAll_cons_mk (Below.trod laidOut (by kernel_rfl) (of_decide_eq_true (by kernel_rfl)) k0 bel lt0) trodAll_mk0), hv', bel.frame _, fun h => by cases h⟩

/-- The cells of a plain datum. -/
def dataCells : Nat → DataW Unit → List Value
  | 0, _ => []
  | _ + 1, .lit (.int k n) => [.int k n]
  | _ + 1, .lit (.string l) => [.string ⟨l.toArray⟩]
  | n + 1, .agg ps => ps.flatMap (dataCells n)
  | _ + 1, _ => []
/-- The world with a variable's block holding these cells. -/
def layVar (w : World) (g : Nat) (d : DataW Unit) : World :=
  { w with heap := w.heap.modify g fun
      | .cells _ t fr => .cells (dataCells 4 d).toArray t fr
      | o => o }
/-- The listed variables laid. -/
def layAll (w : World) : World :=
  layVar (layVar (layVar w 4 Rows.laid_unicode_utf8_acceptRanges) 3 Rows.laid_unicode_utf8_first) 0 Rows.laid_loop_example_lapplan_impl_saidWords

theorem laid_met (os : Os) : laidMet Tryd.prog Rows.fnExactPlanReadRow.laid ((layAll (World.holding Tryd.prog os ⟨#[], #[], []⟩)).forCall (fun _ _ => 0) ⟨#[], #[.string ⟨#[]⟩], []⟩).memory :=
  laidMet_of_run' 8 (by kernel_rfl) (by kernel_rfl)
theorem reads (os : Os) {H : Type} (enc : TypeId × Value → H) : ∃ dv places, DataW.whole enc Tryd.prog ((layAll (World.holding Tryd.prog os ⟨#[], #[], []⟩)).forCall (fun _ _ => 0) ⟨#[], #[.string ⟨#[]⟩], []⟩).memory Tryd.f4.params.toList Rows.fnExactPlanReadSpec.vars false #[Value.string ⟨#[]⟩].toList 8 = some ([.lit (.string [])], [dv], places) :=
  ⟨Rows.laid_loop_example_lapplan_impl_saidWords, MemPlace.row ⟨0, 0, none⟩ 10, by kernel_rfl⟩

set_option maxRecDepth 100000 in
theorem lifted (os : Os) (started : os.Started) (H : Type) (enc : TypeId × Value → H) (F : Stop.Interp) :
    ReturnsInHanded {} Tryd.checked os 4 .any ((OpenSpec.ofChange Rows.fnExactPlanReadSpec).preRow enc Tryd.prog Tryd.f4 Rows.fnExactPlanReadRow.domain false Rows.fnExactPlanReadRow.laid) (((OpenSpec.ofChange Rows.fnExactPlanReadSpec).at F).post enc Tryd.prog Tryd.f4 false true false false) := by
  obtain ⟨dv, places, hx⟩ := reads os enc
  refine returnsInHanded_of_row (C := Tryd.checked) (s := OpenSpec.ofChange Rows.fnExactPlanReadSpec) own started (by kernel_rfl) Tryd.func4
    (witness_row_at (enc := enc) (C := Tryd.checked) false (layAll (World.holding Tryd.prog os ⟨#[], #[], []⟩)) #[.string ⟨#[]⟩] rfl (by kernel_rfl) (by kernel_rfl) (by kernel_rfl)
      (OpenSpec.preRow_of_cond 8 hx rfl (fun k hk => by cases hk) (by kernel_rfl) (laid_met os))) ?_
  intro W base args ds gs before hval hW _ _ _ hL hsh _
  exact contract H enc W base args ds gs before hval hW hL hsh

theorem said : Rows.FnExactPlanReadSaid :=
  OpenClaim.holds_of_cond 4 Tryd.f4 rfl rfl rfl rfl rfl rfl rfl ⟨rfl, rfl, rfl, rfl, rfl⟩ rfl rfl rfl rfl rfl (by kernel_rfl) Tryd.func4 (by kernel_rfl)
    (of_decide_eq_true (by kernel_rfl)) (by unfold Func.isWrapper; first | (rw [if_pos (by decide +kernel)]; kernel_rfl) | (rw [if_neg (by decide +kernel)]; exact ⟨rfl, rfl⟩))
    (fun os started H enc _ F => by rw [OpenClaim.pre_eq_preRow]; exact lifted os started H enc F)

theorem plain (f : FuncId) (fn : Func) (hf : Tryd.pinned.checked.prog.funcNamed "loop.example/lapplan/laws.FnExactPlanRead" = some f) (hfn : Tryd.pinned.checked.prog.funcs[f]? = some fn) :
    false = Tryd.pinned.checked.prog.looks [] ∧ ∀ (j : Nat) t, fn.params[j]? = some t → Tryd.pinned.checked.prog.wantsStandIn t = false := by
  obtain rfl : f = 4 := Option.some.inj ((show Tryd.prog.funcNamed "loop.example/lapplan/laws.FnExactPlanRead" = some 4 by kernel_rfl).symm.trans hf) |>.symm
  obtain rfl : fn = Tryd.f4 := (Option.some.inj (Tryd.func4.symm.trans hfn)).symm
  refine ⟨by kernel_rfl, fun j t ht => ?_⟩
  rw [Tryd.params4] at ht
  obtain rfl : t = 9 := by simpa using Array.mem_of_getElem? ht
  exact (show Tryd.prog.wantsStandIn 9 = false by kernel_rfl)
end Go.Proofs.YtfjblenkcfdbiaaDoor.read
namespace Go.Proofs.YtfjblenkcfdbiaaDoor
/-- The given card. -/
theorem read_card : Rows.FnExactPlanReadCardSaid :=
  Claim7.holds_tied_plain_at .later [] _ _ _ _ read.said (fun _ h => by cases h) (by kernel_rfl) (fun _ h => by cases h) fnExactPlanRead_row_tie rfl ⟨rfl, rfl⟩ (by kernel_rfl) rfl read.plain (by kernel_rfl)
#print axioms read_card
end Go.Proofs.YtfjblenkcfdbiaaDoor
