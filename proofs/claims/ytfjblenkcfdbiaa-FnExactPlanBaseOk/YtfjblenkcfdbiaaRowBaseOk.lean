
/-
  Proved: whatever base it is called with, the law FnExactPlanBaseOk returns true (PlanBaseOk answers as the specification does and turns nothing of its argument), and the argument reads afterwards as it read before; no condition.
-/
import Derived.Test.YtfjblenkcfdbiaaLawBaseOk
import Derived.Test.YtfjblenkcfdbiaaOpen
import Derived.ShutString
namespace Go.Proofs.Ytfjblenkcfdbiaa.baseOk
open Go.ChangeShapes Go.WideShapes Go.ChangeAt Go.RowKit Go.Deep Go.Joins
set_option linter.unusedVariables false

theorem own : ownKnob Try.prog.godebug = none := by kernel_rfl
theorem laidOut : laidOutB Try.prog = true := by kernel_rfl
theorem cellsBase : Try.prog.cellsOf 25 = 2 := by kernel_rfl
theorem cellsKind : Try.prog.cellsOf 108 = 3 := by kernel_rfl
theorem cellsPoint : Try.prog.cellsOf 110 = 3 := by kernel_rfl

set_option maxRecDepth 100000 in
theorem lifted (os : Os) (started : os.Started) (H : Type) (enc : TypeId × Value → H) :
    ReturnsInHanded {} Try.checked os 3 .any (Rows.fnExactPlanBaseOkSpec.pre6 enc Try.prog Try.f3 Rows.fnExactPlanBaseOkRow.domain false) (Rows.fnExactPlanBaseOkSpec.post enc Try.prog Try.f3 false true false false) := by
  refine returnsInHanded_of_change (C := Try.checked) own started (by kernel_rfl) Try.func3
    (ChangeSpec.witness6 (enc := enc) (C := Try.checked) false ⟨#[], #[.agg #[.slice none 0 0, .slice none 0 0]], []⟩ 8 (by kernel_rfl) (by kernel_rfl) (by kernel_rfl) (by kernel_rfl)) ?_
  intro W base args ds gs before hval0 hW hcnd _
  have hval : ∀ (j : Nat) t v, Try.f3.params[j]? = some t → args[j]? = some v → Value.okWide Try.prog W .any base t v := hval0
  have hW' := hW
  obtain ⟨p, q, hA0, hV, rfl, hfz, hnd⟩ := hW
  have hA : DataW.TrodAll enc Try.prog W 0 (fun _ => true) true Try.f3.params.toList args.toList ds p := hA0
  rw [Try.params3] at hA hval
  obtain ⟨v0, vs0, d0, ds0, p0, q0, hargs, rfl, rfl, h0, r0⟩ := trodAll_cons hA
  obtain ⟨rfl, rfl, rfl⟩ := trodAll_nil r0
  obtain rfl : args = #[v0] := by cases args; simp_all
  obtain ⟨rfl, rfl⟩ := trodVars_none hV
  have k0 := h0
  have lt0 : ∀ x ∈ p0, x.block < W.heap.size := by obtain ⟨m, hm⟩ := k0; exact DataW.trod_lt m _ _ _ hm
  obtain ⟨vk, vp, ks, ps, rfl, hk, nk, hp, np⟩ : ∃ vk vp ks ps, v0 = .agg #[vk, vp] ∧ TrisAt W vk ks ∧ Names ks ∧ TrisAt W vp ps ∧ Names ps := by
    obtain ⟨c0, c1, y0, y1, m, rfl, _, _, hy0, hy1⟩ := open_agg2 Try.underlying25 (by kernel_rfl) cellsBase (hval 0 25 v0 rfl rfl) h0
    obtain ⟨ks, hk, nk⟩ := open_tris Try.underlying22 Try.underlying108 (by kernel_rfl) cellsKind Try.underlying9 Try.underlying3 Try.underlying3 hy0
    obtain ⟨ps, hp, np⟩ := open_tris Try.underlying23 Try.underlying110 (by kernel_rfl) cellsPoint Try.underlying9 Try.underlying3 Try.underlying3 hy1
    exact ⟨c0, c1, ks, ps, rfl, hk, nk, hp, np⟩
  clear hA0 hval0
  refine (lawBaseOk_walk vk vp ks ps W hk hp nk np).mono fun e W' ⟨he, bel⟩ => ?_
  subst he
  exact ⟨_, rfl, _, _, _, [], _, [], hW', trodAll_mk1 (shut_bool Try.underlying4 _), (trodAll_cons_mk (Below.trod laidOut (by kernel_rfl) (of_decide_eq_true (by kernel_rfl)) k0 bel lt0) trodAll_mk0), rfl, bel.frame _, fun h => by cases h⟩

theorem over : Rows.fnExactPlanBaseOkRow.holds Try.pinned (OpenSpec.ofChange Rows.fnExactPlanBaseOkSpec) :=
  OpenClaim.holds_of_wide 3 Try.f3 rfl rfl rfl rfl rfl rfl rfl ⟨rfl, rfl, rfl, rfl, rfl⟩ rfl rfl rfl rfl rfl (by kernel_rfl) Try.func3 (by kernel_rfl)
    (of_decide_eq_true (by kernel_rfl)) (by unfold Func.isWrapper; first | (rw [if_pos (by decide +kernel)]; kernel_rfl) | (rw [if_neg (by decide +kernel)]; exact ⟨rfl, rfl⟩))
    (fun os started H enc _ => lifted os started H enc)
end Go.Proofs.Ytfjblenkcfdbiaa.baseOk
namespace Go.Proofs.Ytfjblenkcfdbiaa
/-- The given statement. -/
theorem baseOk_holds : Rows.FnExactPlanBaseOkSaid := baseOk.over
#print axioms baseOk_holds
end Go.Proofs.Ytfjblenkcfdbiaa
