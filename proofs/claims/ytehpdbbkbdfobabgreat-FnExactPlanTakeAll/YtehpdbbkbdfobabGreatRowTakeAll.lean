/-
  Proved: whatever book and list of changes it is called with, the law FnExactPlanTakeAll returns true (PlanTakeAll answers as the specification does, turns nothing of its arguments, and owns its answer), and the arguments read afterwards as they read before; no condition.
-/
import Derived.ShutString
import Derived.Test.YtehpdbbkbdfobabGreatRowTakeAllJ32
namespace Go.Proofs.YtehpdbbkbdfobabGreat.takeall
open Go.ChangeShapes Go.WideShapes Go.ChangeAt Go.RowKit Go.Deep Go.Joins
set_option linter.unusedVariables false

theorem open_chgs {H : Type} {enc : TypeId × Value → H} {P : Program} {w : World} {base : Nat} {spare : Nat → Bool} {held : Bool} {fuel : Nat} {t e : TypeId} {f0 f1 f2 f3 : Field} {v : Value} {x : DataW H × List MemPlace}
    (ht : P.underlying t = some (.slice e)) (he : P.underlying e = some (.struct #[f0, f1, f2, f3])) (hone : oneCellFields P #[f0, f1, f2, f3] = true) (hC : P.cellsOf e = 4)
    (g0 : P.underlying f0.type = some .string) (g1 : P.underlying f1.type = some (.int .i64)) (g2 : P.underlying f2.type = some (.int .i64)) (g3 : P.underlying f3.type = some .string)
    (h : DataW.trod enc P w base spare held fuel t [v] = some x) : ∃ l : List Chg, ChgsAt w v l ∧ CNames l := by
  obtain ⟨l, ad, cap, hv, h1, h2, h3⟩ := open_elems ht hC (by omega) (fun b o (c : Chg) => ChgAt w b o c ∧ c.f.size ≤ maxLen ∧ c.v.size ≤ maxLen) (fun n b off cs y hl hcell hy => by
    obtain ⟨y0, y1, y2, y3, n', _, _, k0, k1, k2, k3⟩ := trod_struct4 he hy
    obtain ⟨o0, z0⟩ := hone_of hone 0 f0 rfl
    obtain ⟨o1, z1⟩ := hone_of hone 1 f1 rfl
    obtain ⟨o2, z2⟩ := hone_of hone 2 f2 rfl
    obtain ⟨o3, z3⟩ := hone_of hone 3 f3 rfl
    match cs, hl with
    | [c0, c1, c2, c3], _ =>
      rw [o0, z0] at k0
      rw [o1, z1] at k1
      rw [o2, z2] at k2
      rw [o3, z3] at k3
      obtain ⟨s, e0, _, hs⟩ := DataW.trod_string g0 k0
      obtain ⟨q, e1, _, _⟩ := DataW.trod_int g1 k1
      obtain ⟨r, e2, _, _⟩ := DataW.trod_int g2 k2
      obtain ⟨u, e3, _, hu⟩ := DataW.trod_string g3 k3
      simp at e0 e1 e2 e3
      subst e0 e1 e2 e3
      exact ⟨⟨s, q, r, u⟩, ⟨by simpa using hcell 0 _ rfl, by simpa using hcell 1 _ rfl, by simpa using hcell 2 _ rfl, by simpa using hcell 3 _ rfl⟩, hs, hu⟩) h
  refine ⟨l, ⟨ad, cap, hv, h1, h2, fun i f hf => ?_⟩, fun f hf => ?_⟩
  · obtain ⟨b, off, ha, hr⟩ := h3 i f hf
    exact ⟨b, off, ha, hr.1⟩
  · obtain ⟨i, hi, rfl⟩ := List.getElem_of_mem hf
    obtain ⟨b, off, ha, hr⟩ := h3 i _ (List.getElem?_eq_getElem hi)
    exact hr.2
theorem cellsChangeL : Tryz.prog.cellsOf 30 = 4 := by kernel_rfl
theorem own : ownKnob Tryz.prog.godebug = none := by kernel_rfl
theorem laidOut : laidOutB Tryz.prog = true := by kernel_rfl
set_option maxRecDepth 100000 in
theorem lifted (os : Os) (started : os.Started) (H : Type) (enc : TypeId × Value → H) :
    ReturnsInHanded {} Tryz.checked os 6 .any (Rows.fnExactPlanTakeAllSpec.pre6 enc Tryz.prog Tryz.f6 Rows.fnExactPlanTakeAllRow.domain false) (Rows.fnExactPlanTakeAllSpec.post enc Tryz.prog Tryz.f6 false true false false) := by
  refine returnsInHanded_of_change (C := Tryz.checked) own started (by kernel_rfl) Tryz.func6
    (ChangeSpec.witness6 (enc := enc) (C := Tryz.checked) false ⟨#[], #[.agg #[.slice none 0 0, .slice none 0 0, .slice none 0 0], .slice none 0 0], []⟩ 8 (by kernel_rfl) (by kernel_rfl) (by kernel_rfl) (by kernel_rfl)) ?_
  intro W base args ds gs before hval0 hW hcnd _
  have hval : ∀ (j : Nat) t v, Tryz.f6.params[j]? = some t → args[j]? = some v → Value.okWide Tryz.prog W .any base t v := hval0
  have hW' := hW
  obtain ⟨p, q, hA0, hV, rfl, hfz, hnd⟩ := hW
  have hA : DataW.TrodAll enc Tryz.prog W 0 (fun _ => true) true Tryz.f6.params.toList args.toList ds p := hA0
  rw [Tryz.params6] at hA hval
  obtain ⟨v0, vs0, d0, ds0, p0, q0, hargs, rfl, rfl, h0, r0⟩ := trodAll_cons hA
  obtain ⟨v1, vs1, d1, ds1, p1, q1, rfl, rfl, rfl, h1, r1⟩ := trodAll_cons r0
  obtain ⟨rfl, rfl, rfl⟩ := trodAll_nil r1
  obtain rfl : args = #[v0, v1] := by cases args; simp_all
  obtain ⟨rfl, rfl⟩ := trodVars_none hV
  have k0 := h0
  have lt0 : ∀ x ∈ p0, x.block < W.heap.size := by obtain ⟨m, hm⟩ := k0; exact DataW.trod_lt m _ _ _ hm
  obtain ⟨vk, vp, ve, ks, ps, es, rfl, hB, nB⟩ := open_book (hval 0 28 v0 rfl rfl) h0
  have k1 := h1
  have lt1 : ∀ x ∈ p1, x.block < W.heap.size := by obtain ⟨m, hm⟩ := k1; exact DataW.trod_lt m _ _ _ hm
  obtain ⟨ua, un, uc, rfl⟩ := okWide_slice Tryz.underlying54 (hval 1 54 v1 rfl rfl)
  obtain ⟨fuel, hfu⟩ := h1
  obtain ⟨L, hL, nL⟩ := open_chgs Tryz.underlying54 Tryz.underlying30 (by kernel_rfl) cellsChangeL Tryz.underlying9 Tryz.underlying3 Tryz.underlying3 Tryz.underlying9 (by simpa [Value.cells] using hfu)
  clear hA0 hval0
  refine (lawAll_walk vk vp ve (.slice ua un uc) ks ps es L W hB hL nB nL).mono fun e W' ⟨he, bel⟩ => ?_
  subst he
  exact ⟨_, rfl, _, _, _, [], _, [], hW', trodAll_mk1 (shut_bool Tryz.underlying4 _), (trodAll_cons_mk (Below.trod laidOut (by kernel_rfl) (of_decide_eq_true (by kernel_rfl)) k0 bel lt0) (trodAll_cons_mk (Below.trod laidOut (by kernel_rfl) (of_decide_eq_true (by kernel_rfl)) k1 bel lt1) trodAll_mk0)), rfl, bel.frame _, fun h => by cases h⟩

theorem over : Rows.fnExactPlanTakeAllRow.holds Tryz.pinned (OpenSpec.ofChange Rows.fnExactPlanTakeAllSpec) :=
  OpenClaim.holds_of_wide 6 Tryz.f6 rfl rfl rfl rfl rfl rfl rfl ⟨rfl, rfl, rfl, rfl, rfl⟩ rfl rfl rfl rfl rfl (by kernel_rfl) Tryz.func6 (by kernel_rfl)
    (of_decide_eq_true (by kernel_rfl)) (by unfold Func.isWrapper; first | (rw [if_pos (by decide +kernel)]; kernel_rfl) | (rw [if_neg (by decide +kernel)]; exact ⟨rfl, rfl⟩))
    (fun os started H enc _ => lifted os started H enc)
end Go.Proofs.YtehpdbbkbdfobabGreat.takeall
namespace Go.Proofs.YtehpdbbkbdfobabGreat
/-- The given statement. -/
theorem takeall_holds : Rows.FnExactPlanTakeAllSaid := takeall.over
#print axioms takeall_holds
end Go.Proofs.YtehpdbbkbdfobabGreat
