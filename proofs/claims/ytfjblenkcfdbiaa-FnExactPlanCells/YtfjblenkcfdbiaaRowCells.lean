
/-
  Proved: whatever base and list of texts it is called with, the law FnExactPlanCells returns true (PlanCells answers as the specification does, turns nothing of its arguments, and owns its answer), and the arguments read afterwards as they read before; no condition.
-/
import Derived.Test.YtfjblenkcfdbiaaLawCells
import Derived.Test.YtfjblenkcfdbiaaOpen
import Derived.ShutString
import Derived.SliceStrings
namespace Go.Proofs.Ytfjblenkcfdbiaa.cells
open Go.ChangeShapes Go.WideShapes Go.ChangeAt Go.RowKit Go.Deep Go.Joins
set_option linter.unusedVariables false

theorem own : ownKnob Try.prog.godebug = none := by kernel_rfl
theorem laidOut : laidOutB Try.prog = true := by kernel_rfl
theorem cellsBase : Try.prog.cellsOf 25 = 2 := by kernel_rfl
theorem cellsKind : Try.prog.cellsOf 108 = 3 := by kernel_rfl
theorem cellsPoint : Try.prog.cellsOf 110 = 3 := by kernel_rfl
theorem cellsStr : Try.prog.cellsOf 9 = 1 := by kernel_rfl
theorem open_strs {H : Type} {enc : TypeId × Value → H} {P : Program} {w : World} {base : Nat} {spare : Nat → Bool} {held : Bool} {fuel : Nat} {t e : TypeId} {v : Value} {x : DataW H × List MemPlace}
    (ht : P.underlying t = some (.slice e)) (he : P.underlying e = some .string) (hc : P.cellsOf e = 1) (h : DataW.trod enc P w base spare held fuel t [v] = some x) : ∃ ws : List ByteArray, SArg w v ws ∧ SNames ws := by
  rcases open_strings ht he hc h with ⟨h0, _⟩ | ⟨a, len, cap, ss, hv, _, hl, hm, hs, _, hcell, hsz⟩
  · cases h0
    exact ⟨[], ⟨none, 0, rfl, Nat.le_refl _, Nat.zero_le _, fun i t ht => by simp at ht⟩, fun t ht => by simp at ht⟩
  · cases hv
    have hls : len ≤ ss.length := by rw [hs]; split <;> omega
    have hlt : (ss.take len).length = len := by rw [List.length_take]; omega
    refine ⟨ss.take len, ⟨some a, cap, by rw [hlt], by rw [hlt]; exact hl, hm, fun i s hi => ?_⟩, fun s hs' => hsz s (List.mem_of_mem_take hs')⟩
    have hil : i < len := by have := (List.getElem?_eq_some_iff.1 hi).1; rw [hlt] at this; exact this
    have hspot : a.spot = none := by
      have p0 := hcell 0 (by omega)
      simpa [Addr.add] using World.cell?_spot p0
    obtain ⟨b, off, spot⟩ := a
    simp only at hspot
    subst hspot
    refine ⟨b, off, rfl, ?_⟩
    have h1 := hcell i (by omega)
    have h2 : ss.getD i ByteArray.empty = s := by
      rw [List.getElem?_take, if_pos hil] at hi
      simp [List.getD, hi]
    rw [h2] at h1
    have h3 : (⟨b, off, none⟩ : Addr).add i = ⟨b, off + i, none⟩ := by
      unfold Addr.add
      split
      · simp_all
      · rfl
    rw [h3] at h1
    exact h1
set_option maxRecDepth 100000 in
theorem lifted (os : Os) (started : os.Started) (H : Type) (enc : TypeId × Value → H) :
    ReturnsInHanded {} Try.checked os 6 .any (Rows.fnExactPlanCellsSpec.pre6 enc Try.prog Try.f6 Rows.fnExactPlanCellsRow.domain false) (Rows.fnExactPlanCellsSpec.post enc Try.prog Try.f6 false true false false) := by
  refine returnsInHanded_of_change (C := Try.checked) own started (by kernel_rfl) Try.func6
    (ChangeSpec.witness6 (enc := enc) (C := Try.checked) false ⟨#[], #[.agg #[.slice none 0 0, .slice none 0 0], .slice none 0 0], []⟩ 8 (by kernel_rfl) (by kernel_rfl) (by kernel_rfl) (by kernel_rfl)) ?_
  intro W base args ds gs before hval0 hW hcnd _
  have hval : ∀ (j : Nat) t v, Try.f6.params[j]? = some t → args[j]? = some v → Value.okWide Try.prog W .any base t v := hval0
  have hW' := hW
  obtain ⟨p, q, hA0, hV, rfl, hfz, hnd⟩ := hW
  have hA : DataW.TrodAll enc Try.prog W 0 (fun _ => true) true Try.f6.params.toList args.toList ds p := hA0
  rw [Try.params6] at hA hval
  obtain ⟨v0, vs0, d0, ds0, p0, q0, hargs, rfl, rfl, h0, r0⟩ := trodAll_cons hA
  obtain ⟨v1, vs1, d1, ds1, p1, q1, rfl, rfl, rfl, h1, r1⟩ := trodAll_cons r0
  obtain ⟨rfl, rfl, rfl⟩ := trodAll_nil r1
  obtain rfl : args = #[v0, v1] := by cases args; simp_all
  obtain ⟨rfl, rfl⟩ := trodVars_none hV
  have k0 := h0
  have lt0 : ∀ x ∈ p0, x.block < W.heap.size := by obtain ⟨m, hm⟩ := k0; exact DataW.trod_lt m _ _ _ hm
  obtain ⟨vk, vp, ks, ps, rfl, hk, nk, hp, np⟩ : ∃ vk vp ks ps, v0 = .agg #[vk, vp] ∧ TrisAt W vk ks ∧ Names ks ∧ TrisAt W vp ps ∧ Names ps := by
    obtain ⟨c0, c1, y0, y1, m, rfl, _, _, hy0, hy1⟩ := open_agg2 Try.underlying25 (by kernel_rfl) cellsBase (hval 0 25 v0 rfl rfl) h0
    obtain ⟨ks, hk, nk⟩ := open_tris Try.underlying22 Try.underlying108 (by kernel_rfl) cellsKind Try.underlying9 Try.underlying3 Try.underlying3 hy0
    obtain ⟨ps, hp, np⟩ := open_tris Try.underlying23 Try.underlying110 (by kernel_rfl) cellsPoint Try.underlying9 Try.underlying3 Try.underlying3 hy1
    exact ⟨c0, c1, ks, ps, rfl, hk, nk, hp, np⟩
  have k1 := h1
  have lt1 : ∀ x ∈ p1, x.block < W.heap.size := by obtain ⟨m, hm⟩ := k1; exact DataW.trod_lt m _ _ _ hm
  obtain ⟨ua, un, uc, rfl⟩ := okWide_slice Try.underlying53 (hval 1 53 v1 rfl rfl)
  obtain ⟨fuel, hfu⟩ := h1
  obtain ⟨ws, hr, nr⟩ := open_strs Try.underlying53 Try.underlying9 cellsStr (by simpa [Value.cells] using hfu)
  clear hA0 hval0
  refine (lawCells_walk vk vp (.slice ua un uc) ks ps ws W hk hp nk np hr nr).mono fun e W' ⟨he, bel⟩ => ?_
  subst he
  exact ⟨_, rfl, _, _, _, [], _, [], hW', trodAll_mk1 (shut_bool Try.underlying4 _), (trodAll_cons_mk (Below.trod laidOut (by kernel_rfl) (of_decide_eq_true (by kernel_rfl)) k0 bel lt0) (trodAll_cons_mk (Below.trod laidOut (by kernel_rfl) (of_decide_eq_true (by kernel_rfl)) k1 bel lt1) trodAll_mk0)), rfl, bel.frame _, fun h => by cases h⟩

theorem over : Rows.fnExactPlanCellsRow.holds Try.pinned (OpenSpec.ofChange Rows.fnExactPlanCellsSpec) :=
  OpenClaim.holds_of_wide 6 Try.f6 rfl rfl rfl rfl rfl rfl rfl ⟨rfl, rfl, rfl, rfl, rfl⟩ rfl rfl rfl rfl rfl (by kernel_rfl) Try.func6 (by kernel_rfl)
    (of_decide_eq_true (by kernel_rfl)) (by unfold Func.isWrapper; first | (rw [if_pos (by decide +kernel)]; kernel_rfl) | (rw [if_neg (by decide +kernel)]; exact ⟨rfl, rfl⟩))
    (fun os started H enc _ => lifted os started H enc)
end Go.Proofs.Ytfjblenkcfdbiaa.cells
namespace Go.Proofs.Ytfjblenkcfdbiaa
/-- The given statement. -/
theorem cells_holds : Rows.FnExactPlanCellsSaid := cells.over
#print axioms cells_holds
end Go.Proofs.Ytfjblenkcfdbiaa
