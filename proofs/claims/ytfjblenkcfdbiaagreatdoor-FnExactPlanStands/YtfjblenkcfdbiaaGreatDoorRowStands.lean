
/-
  Proved: whatever book and name it is called with, the law FnExactPlanStands returns true (PlanStands answers as the specification does), and the arguments read afterwards as they read before; the package-level variable that it reads is as the program's text lays them (the card ties them).
-/
import Derived.Test.YtfjblenkcfdbiaaGreatDoorLawStands
import Derived.OpenShut
import Derived.Lib.LaidU8
import Derived.Deep.Fields
import Derived.Test.YtfjblenkcfdbiaaGreatDoorOpen2
import Derived.Test.YtfjblenkcfdbiaaGreatDoorCards
import Derived.Test.YtfjblenkcfdbiaaGreatDoorTie
import Derived.ProofKit
import Derived.ShutString
import Derived.ChangeOld
import Derived.Lib.SmallJoins
import Derived.Deep.DeepHandedRow
import Derived.SevenTiedAt
namespace Go.Proofs.YtfjblenkcfdbiaaGreatDoor.stands
open Go.ChangeShapes Go.WideShapes Go.ChangeAt Go.RowKit Go.Deep Go.Joins
set_option linter.unusedVariables false
open Go.Proofs.YtfjblenkcfdbiaaGreatDoor Go.Proofs.YtfjblenkcfdbiaaGreatDoor.Sd

theorem gNeed : Tryz.prog.globalNamed "loop.example/lapplan/impl.neededThings" = some 1 := by kernel_rfl
theorem tNeed : (Tryz.prog.globals[1]?).map (·.type) = some 159 := by kernel_rfl
theorem need_of {w : World} (h : Lib.VarReads Tryz.prog w "loop.example/lapplan/impl.neededThings" Rows.laid_loop_example_lapplan_impl_neededThings) : NeedIn w := by
  obtain ⟨g, t, cs, fuel, p, hg, ht, hvar, hd⟩ := h
  obtain rfl := Option.some.inj (gNeed.symm.trans hg)
  obtain rfl := Option.some.inj (tNeed.symm.trans ht)
  have e : (Rows.laid_loop_example_lapplan_impl_neededThings : DataW Unit) = Lib.tabData .i64 [1, 2, 3, 4] := rfl
  rw [e] at hd
  have hc := Lib.cells_of_tab Tryz.underlying159 Tryz.underlying3 (by kernel_rfl) (by kernel_rfl) hd
  have hc2 : cs = needC := Array.toList_inj.1 (hc.trans rfl)
  subst hc2
  simp only [World.var?, gNeed, Option.bind_some] at hvar
  split at hvar
  · rename_i c t fr hb
    cases hvar
    exact ⟨t, fr, hb⟩
  · cases hvar

theorem own : ownKnob Tryz.prog.godebug = none := by kernel_rfl
theorem laidOut : laidOutB Tryz.prog = true := by kernel_rfl

set_option maxRecDepth 100000 in
theorem contract (H : Type) (enc : TypeId × Value → H) (W : World) (base : Nat) (args : Array Value) (ds gs : List (DataW H)) (before : List MemPlace)
    (hval : ∀ (j : Nat) t v, Tryz.f4.params[j]? = some t → args[j]? = some v → Value.okWide Tryz.prog W .any base t v)
    (hW : DataW.Whole enc Tryz.prog Tryz.f4.params.toList Rows.fnExactPlanStandsSpec.vars false W args.toList ds gs before) (hL : laidMetH Tryz.prog Rows.fnExactPlanStandsRow.laid W) :
    Calls Tryz.prog 4 args W fun e W' => ∃ v, e = .returned v ∧ Rows.fnExactPlanStandsSpec.post enc Tryz.prog Tryz.f4 false true false false W args v W' := by
  have hL' : laidMet Tryz.prog Rows.fnExactPlanStandsRow.laid W := hL
  have hneed : NeedIn W := need_of (Lib.laidMet.reads hL' (by simp [Rows.fnExactPlanStandsRow]))
  clear hL hL'
  have hW' := hW
  obtain ⟨p, q, hA0, hV0, rfl, hfz, hnd⟩ := hW
  have hA : DataW.TrodAll enc Tryz.prog W 0 (fun _ => true) true Tryz.f4.params.toList args.toList ds p := hA0
  have hV : DataW.TrodVars enc Tryz.prog W (fun _ => true) ["loop.example/lapplan/impl.neededThings"] gs q := hV0
  rw [Tryz.params4] at hA hval
  obtain ⟨v0, vs0, d0, ds0, p0, q0, hargs, rfl, rfl, h0, r0⟩ := trodAll_cons hA
  obtain ⟨v1, vs1, d1, ds1, p1, q1, hargs1, rfl, rfl, h1, r1⟩ := trodAll_cons r0
  obtain ⟨rfl, rfl, rfl⟩ := trodAll_nil r1
  obtain rfl : args = #[v0, v1] := by cases args; simp_all
  obtain ⟨g, t, cs, fuel, dv, pv, rfl, hg, ht, hvar, hd, rfl⟩ := trodVars_one hV
  obtain rfl := Option.some.inj (gNeed.symm.trans hg)
  obtain rfl := Option.some.inj (tNeed.symm.trans ht)
  have k0 := h0
  have lt0 : ∀ x ∈ p0, x.block < W.heap.size := by obtain ⟨m, hm⟩ := k0; exact DataW.trod_lt m _ _ _ hm
  have k1 := h1
  have lt1 : ∀ x ∈ p1, x.block < W.heap.size := by obtain ⟨m, hm⟩ := k1; exact DataW.trod_lt m _ _ _ hm
  obtain ⟨c, rfl⟩ := okWide_string Tryz.underlying9 (hval 1 9 v1 rfl rfl)
  have hc : c.size ≤ maxLen := by
    obtain ⟨m0, hm0⟩ := h1
    obtain ⟨c', e0, _, hc⟩ := DataW.trod_string Tryz.underlying9 hm0
    obtain rfl : c = c' := by simpa [Value.cells] using e0
    exact hc
  obtain ⟨vk, vp, ve, ks, ps, es, rfl, hB, nB⟩ := open_book (hval 0 28 v0 rfl rfl) h0
  have hltv : ∀ x ∈ pv, x.block < W.heap.size := fun x hx => hW'.lt x (List.mem_append_right _ (List.mem_append_right _ hx))
  clear hA0 hV0 hA hV
  refine (lawStands_walk vk vp ve ks ps es c W hB nB hc hneed).mono fun e W' ⟨he, bel⟩ => ?_
  subst he
  obtain ⟨fuel', hd'⟩ := Below.trod laidOut (by kernel_rfl) (of_decide_eq_true (by kernel_rfl)) (v := .agg cs) (⟨fuel, by simpa [Value.cells] using hd⟩ : DataW.Trod enc Tryz.prog W 0 (fun _ => true) true 159 (.agg cs) dv pv) bel hltv
  have hv' := trodVars_mk1 (enc := enc) (spare := fun b => decide (b < W.heap.size)) gNeed tNeed (var?_below bel gNeed hneed.lt hvar) (by simpa [Value.cells] using hd')
  exact ⟨_, rfl, _, _, _, [], _, _, hW', trodAll_mk1 (shut_bool Tryz.underlying4 _), (trodAll_cons_mk (Below.trod laidOut (by kernel_rfl) (of_decide_eq_true (by kernel_rfl)) k0 bel lt0) (trodAll_cons_mk (Below.trod laidOut (by kernel_rfl) (of_decide_eq_true (by kernel_rfl)) k1 bel lt1) trodAll_mk0)), hv', bel.frame _, fun h => by cases h⟩

/-- The cells of a plain datum. -/
def dataCells : Nat → DataW Unit → List Value
  | 0, _ => []
  | _ + 1, .lit (.int k n) => [.int k n]
  | _ + 1, .lit (.string l) => [.string ⟨l.toArray⟩]
  | n + 1, .agg ps => ps.flatMap (dataCells n)
  | _ + 1, _ => []
/-- The world with a variable's block holding these cells. -/
def layVar (w : World) (g : Nat) (d : DataW Unit) : World :=
  { w with heap := w.heap.modify g fun
      | .cells _ t fr => .cells (dataCells 4 d).toArray t fr
      | o => o }
/-- The listed variables laid. -/
def layAll (w : World) : World :=
  layVar w 1 Rows.laid_loop_example_lapplan_impl_neededThings

theorem laid_met (os : Os) : laidMet Tryz.prog Rows.fnExactPlanStandsRow.laid ((layAll (World.holding Tryz.prog os ⟨#[], #[], []⟩)).forCall (fun _ _ => 0) ⟨#[], #[.agg #[.slice none 0 0, .slice none 0 0, .slice none 0 0], .string ⟨#[]⟩], []⟩).memory :=
  laidMet_of_run' 8 (by kernel_rfl) (by kernel_rfl)
theorem reads (os : Os) {H : Type} (enc : TypeId × Value → H) : ∃ dv places, DataW.whole enc Tryz.prog ((layAll (World.holding Tryz.prog os ⟨#[], #[], []⟩)).forCall (fun _ _ => 0) ⟨#[], #[.agg #[.slice none 0 0, .slice none 0 0, .slice none 0 0], .string ⟨#[]⟩], []⟩).memory Tryz.f4.params.toList Rows.fnExactPlanStandsSpec.vars false #[Value.agg #[.slice none 0 0, .slice none 0 0, .slice none 0 0], .string ⟨#[]⟩].toList 8 = some ([.agg [.agg [.nil, .nil], .nil], .lit (.string [])], [dv], places) :=
  ⟨Rows.laid_loop_example_lapplan_impl_neededThings, MemPlace.row ⟨1, 0, none⟩ 4, by kernel_rfl⟩

set_option maxRecDepth 100000 in
theorem lifted (os : Os) (started : os.Started) (H : Type) (enc : TypeId × Value → H) (F : Stop.Interp) :
    ReturnsInHanded {} Tryz.checked os 4 .any ((OpenSpec.ofChange Rows.fnExactPlanStandsSpec).preRow enc Tryz.prog Tryz.f4 Rows.fnExactPlanStandsRow.domain false Rows.fnExactPlanStandsRow.laid) (((OpenSpec.ofChange Rows.fnExactPlanStandsSpec).at F).post enc Tryz.prog Tryz.f4 false true false false) := by
  obtain ⟨dv, places, hx⟩ := reads os enc
  refine returnsInHanded_of_row (C := Tryz.checked) (s := OpenSpec.ofChange Rows.fnExactPlanStandsSpec) own started (by kernel_rfl) Tryz.func4
    (witness_row_at (enc := enc) (C := Tryz.checked) false (layAll (World.holding Tryz.prog os ⟨#[], #[], []⟩)) #[.agg #[.slice none 0 0, .slice none 0 0, .slice none 0 0], .string ⟨#[]⟩] rfl (by kernel_rfl) (by kernel_rfl) (by kernel_rfl)
      (OpenSpec.preRow_of_cond 8 hx rfl (fun k hk => by cases hk) (by kernel_rfl) (laid_met os))) ?_
  intro W base args ds gs before hval hW _ _ _ hL _ _
  exact contract H enc W base args ds gs before hval hW hL

theorem said : Rows.FnExactPlanStandsSaid :=
  OpenClaim.holds_of_cond 4 Tryz.f4 rfl rfl rfl rfl rfl rfl rfl ⟨rfl, rfl, rfl, rfl, rfl⟩ rfl rfl rfl rfl rfl (by kernel_rfl) Tryz.func4 (by kernel_rfl)
    (of_decide_eq_true (by kernel_rfl)) (by unfold Func.isWrapper; first | (rw [if_pos (by decide +kernel)]; kernel_rfl) | (rw [if_neg (by decide +kernel)]; exact ⟨rfl, rfl⟩))
    (fun os started H enc _ F => by rw [OpenClaim.pre_eq_preRow]; exact lifted os started H enc F)

theorem plain (f : FuncId) (fn : Func) (hf : Tryz.pinned.checked.prog.funcNamed "loop.example/lapplan/laws.FnExactPlanStands" = some f) (hfn : Tryz.pinned.checked.prog.funcs[f]? = some fn) :
    true = Tryz.pinned.checked.prog.looks [] ∧ ∀ (j : Nat) t, fn.params[j]? = some t → Tryz.pinned.checked.prog.wantsStandIn t = false := by
  obtain rfl : f = 4 := Option.some.inj ((show Tryz.prog.funcNamed "loop.example/lapplan/laws.FnExactPlanStands" = some 4 by kernel_rfl).symm.trans hf) |>.symm
  obtain rfl : fn = Tryz.f4 := (Option.some.inj (Tryz.func4.symm.trans hfn)).symm
  refine ⟨by kernel_rfl, fun j t ht => ?_⟩
  rw [Tryz.params4] at ht
  have hm := Array.mem_of_getElem? ht
  simp at hm
  rcases hm with rfl | rfl
  · exact (show Tryz.prog.wantsStandIn 28 = false by kernel_rfl)
  · exact (show Tryz.prog.wantsStandIn 9 = false by kernel_rfl)
end Go.Proofs.YtfjblenkcfdbiaaGreatDoor.stands
namespace Go.Proofs.YtfjblenkcfdbiaaGreatDoor
/-- The given card. -/
theorem stands_card : Rows.FnExactPlanStandsCardSaid :=
  Claim7.holds_tied_plain_at .later [] _ _ _ _ stands.said (fun _ h => by cases h) (by kernel_rfl) (fun _ h => by cases h) fnExactPlanStands_row_tie rfl ⟨rfl, rfl⟩ (by kernel_rfl) rfl stands.plain (by kernel_rfl)
#print axioms stands_card
end Go.Proofs.YtfjblenkcfdbiaaGreatDoor
