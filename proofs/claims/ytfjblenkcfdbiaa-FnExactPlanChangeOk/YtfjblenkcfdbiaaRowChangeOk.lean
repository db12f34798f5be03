
/-
  Proved: whatever base and change it is called with, the law FnExactPlanChangeOk returns true (PlanChangeOk answers as the specification does and turns nothing of its arguments), and the arguments read afterwards as they read before; no condition.
-/
import Derived.Test.YtfjblenkcfdbiaaLawChangeOk
import Derived.Test.YtfjblenkcfdbiaaOpen
import Derived.ShutString
namespace Go.Proofs.Ytfjblenkcfdbiaa.changeOk
open Go.ChangeShapes Go.WideShapes Go.ChangeAt Go.RowKit Go.Deep Go.Joins
set_option linter.unusedVariables false

theorem own : ownKnob Try.prog.godebug = none := by kernel_rfl
theorem laidOut : laidOutB Try.prog = true := by kernel_rfl
theorem cellsBase : Try.prog.cellsOf 25 = 2 := by kernel_rfl
theorem cellsChange : Try.prog.cellsOf 36 = 4 := by kernel_rfl
theorem cellsKind : Try.prog.cellsOf 108 = 3 := by kernel_rfl
theorem cellsPoint : Try.prog.cellsOf 110 = 3 := by kernel_rfl

set_option maxRecDepth 100000 in
theorem lifted (os : Os) (started : os.Started) (H : Type) (enc : TypeId × Value → H) :
    ReturnsInHanded {} Try.checked os 4 .any (Rows.fnExactPlanChangeOkSpec.pre6 enc Try.prog Try.f4 Rows.fnExactPlanChangeOkRow.domain false) (Rows.fnExactPlanChangeOkSpec.post enc Try.prog Try.f4 false true false false) := by
  refine returnsInHanded_of_change (C := Try.checked) own started (by kernel_rfl) Try.func4
    (ChangeSpec.witness6 (enc := enc) (C := Try.checked) false ⟨#[], #[.agg #[.slice none 0 0, .slice none 0 0], .agg #[.string ⟨#[]⟩, .int .i64 0, .int .i64 0, .string ⟨#[]⟩]], []⟩ 8 (by kernel_rfl) (by kernel_rfl) (by kernel_rfl) (by kernel_rfl)) ?_
  intro W base args ds gs before hval0 hW hcnd _
  have hval : ∀ (j : Nat) t v, Try.f4.params[j]? = some t → args[j]? = some v → Value.okWide Try.prog W .any base t v := hval0
  have hW' := hW
  obtain ⟨p, q, hA0, hV, rfl, hfz, hnd⟩ := hW
  have hA : DataW.TrodAll enc Try.prog W 0 (fun _ => true) true Try.f4.params.toList args.toList ds p := hA0
  rw [Try.params4] at hA hval
  obtain ⟨v0, vs0, d0, ds0, p0, q0, hargs, rfl, rfl, h0, r0⟩ := trodAll_cons hA
  obtain ⟨v1, vs1, d1, ds1, p1, q1, rfl, rfl, rfl, h1, r1⟩ := trodAll_cons r0
  obtain ⟨rfl, rfl, rfl⟩ := trodAll_nil r1
  obtain rfl : args = #[v0, v1] := by cases args; simp_all
  obtain ⟨rfl, rfl⟩ := trodVars_none hV
  have k0 := h0
  have lt0 : ∀ x ∈ p0, x.block < W.heap.size := by obtain ⟨m, hm⟩ := k0; exact DataW.trod_lt m _ _ _ hm
  obtain ⟨vk, vp, ks, ps, rfl, hk, nk, hp, np⟩ : ∃ vk vp ks ps, v0 = .agg #[vk, vp] ∧ TrisAt W vk ks ∧ Names ks ∧ TrisAt W vp ps ∧ Names ps := by
    obtain ⟨c0, c1, y0, y1, m, rfl, _, _, hy0, hy1⟩ := open_agg2 Try.underlying25 (by kernel_rfl) cellsBase (hval 0 25 v0 rfl rfl) h0
    obtain ⟨ks, hk, nk⟩ := open_tris Try.underlying22 Try.underlying108 (by kernel_rfl) cellsKind Try.underlying9 Try.underlying3 Try.underlying3 hy0
    obtain ⟨ps, hp, np⟩ := open_tris Try.underlying23 Try.underlying110 (by kernel_rfl) cellsPoint Try.underlying9 Try.underlying3 Try.underlying3 hy1
    exact ⟨c0, c1, ks, ps, rfl, hk, nk, hp, np⟩
  have k1 := h1
  have lt1 : ∀ x ∈ p1, x.block < W.heap.size := by obtain ⟨m, hm⟩ := k1; exact DataW.trod_lt m _ _ _ hm
  obtain ⟨c, rfl, hf, hv⟩ : ∃ c : Chg, v1 = .agg #[.string c.f, .int .i64 c.what, .int .i64 c.num, .string c.v] ∧ c.f.size ≤ maxLen ∧ c.v.size ≤ maxLen := by
    obtain ⟨c0, c1, c2, c3, y0, y1, y2, y3, m, rfl, _, _, hy0, hy1, hy2, hy3⟩ := open_agg4 Try.underlying36 (by kernel_rfl) cellsChange (hval 1 36 v1 rfl rfl) h1
    obtain ⟨a, e0, _, ha⟩ := DataW.trod_string Try.underlying9 hy0
    obtain ⟨b, e1, _, _⟩ := DataW.trod_int Try.underlying3 hy1
    obtain ⟨b', e2, _, _⟩ := DataW.trod_int Try.underlying3 hy2
    obtain ⟨a', e3, _, ha'⟩ := DataW.trod_string Try.underlying9 hy3
    simp at e0 e1 e2 e3
    subst e0 e1 e2 e3
    exact ⟨⟨a, b, b', a'⟩, rfl, ha, ha'⟩
  clear hA0 hval0
  refine (lawChangeOk_walk vk vp ks ps c W hk hp nk np hf hv).mono fun e W' ⟨he, bel⟩ => ?_
  subst he
  exact ⟨_, rfl, _, _, _, [], _, [], hW', trodAll_mk1 (shut_bool Try.underlying4 _), (trodAll_cons_mk (Below.trod laidOut (by kernel_rfl) (of_decide_eq_true (by kernel_rfl)) k0 bel lt0) (trodAll_cons_mk (Below.trod laidOut (by kernel_rfl) (of_decide_eq_true (by kernel_rfl)) k1 bel lt1) trodAll_mk0)), rfl, bel.frame _, fun h => by cases h⟩

theorem over : Rows.fnExactPlanChangeOkRow.holds Try.pinned (OpenSpec.ofChange Rows.fnExactPlanChangeOkSpec) :=
  OpenClaim.holds_of_wide 4 Try.f4 rfl rfl rfl rfl rfl rfl rfl ⟨rfl, rfl, rfl, rfl, rfl⟩ rfl rfl rfl rfl rfl (by kernel_rfl) Try.func4 (by kernel_rfl)
    (of_decide_eq_true (by kernel_rfl)) (by unfold Func.isWrapper; first | (rw [if_pos (by decide +kernel)]; kernel_rfl) | (rw [if_neg (by decide +kernel)]; exact ⟨rfl, rfl⟩))
    (fun os started H enc _ => lifted os started H enc)
end Go.Proofs.Ytfjblenkcfdbiaa.changeOk
namespace Go.Proofs.Ytfjblenkcfdbiaa
/-- The given statement. -/
theorem changeOk_holds : Rows.FnExactPlanChangeOkSaid := changeOk.over
#print axioms changeOk_holds
end Go.Proofs.Ytfjblenkcfdbiaa
