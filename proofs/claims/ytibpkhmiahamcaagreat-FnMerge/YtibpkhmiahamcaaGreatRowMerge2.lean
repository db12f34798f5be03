
/-
 Proved: whatever two lists of bytes it is called with, the law FnMerge returns true, and the arguments read afterwards as they read before; no condition.
-/
import Derived.Test.YtibpkhmiahamcaaGreatLawMerge2
import Derived.Test.YtibpkhmiahamcaaGreatOpen2
namespace Go.Proofs.YtibpkhmiahamcaaGreat.merge2
open Go.ChangeShapes Go.WideShapes Go.ChangeAt Go.RowKit Go.Deep Go.Joins
set_option linter.unusedVariables false
theorem open_bys {H : Type} {enc : TypeId × Value → H} {P : Program} {w : World} {base : Nat} {spare : Nat → Bool} {held : Bool} {fuel : Nat} {t e : TypeId} {v : Value} {x : DataW H × List MemPlace}
  (ht : P.underlying t = some (.slice e)) (he : P.underlying e = some (.int .u8)) (hC : P.cellsOf e = 1) (h : DataW.trod enc P w base spare held fuel t [v] = some x) : ∃ n : Nat, Dr.BysArg w v n := by
 obtain ⟨l, ad, cap, hv, h1, h2, h3⟩ := open_elems ht hC (by omega) (fun b o (x : Int) => w.cell? ⟨b, o, none⟩ = some (.int .u8 x) ∧ 0 ≤ x ∧ x < 256) (fun n b off cs y hl hcell hy => by
  obtain ⟨q, e0, _, hq⟩ := DataW.trod_int he hy
  subst e0
  refine ⟨q, by simpa using hcell 0 _ rfl, ?_⟩
  simp [Lit.wf, IntKind.min, IntKind.max, IntKind.signed, IntKind.bits] at hq
  omega) h
 refine ⟨l.length, ad, cap, hv, h1, h2, fun i hi => ?_⟩
 obtain ⟨b, off, ha, hr⟩ := h3 i _ (List.getElem?_eq_getElem hi)
 exact ⟨b, off, _, ha, by simpa using hr.1, hr.2⟩
theorem cellsByte : Tryz.prog.cellsOf 5 = 1 := by kernel_rfl
theorem own : ownKnob Tryz.prog.godebug = none := by kernel_rfl
theorem laidOut : laidOutB Tryz.prog = true := by kernel_rfl
set_option maxRecDepth 100000 in
theorem lifted (os : Os) (started : os.Started) (H : Type) (enc : TypeId × Value → H) :
  ReturnsInHanded {} Tryz.checked os 4 .any (Rows.fnMergeSpec.pre6 enc Tryz.prog Tryz.f4 Rows.fnMergeRow.domain false) (Rows.fnMergeSpec.post enc Tryz.prog Tryz.f4 false true false false) := by
 refine returnsInHanded_of_change (C := Tryz.checked) own started (by kernel_rfl) Tryz.func4
  (ChangeSpec.witness6 (enc := enc) (C := Tryz.checked) false ⟨#[], #[.slice none 0 0, .slice none 0 0], []⟩ 8 (by kernel_rfl) (by kernel_rfl) (by kernel_rfl) (by kernel_rfl)) ?_
 intro W base args ds gs before hval0 hW hcnd _
 have hval : ∀ (j : Nat) t v, Tryz.f4.params[j]? = some t → args[j]? = some v → Value.okWide Tryz.prog W .any base t v := hval0
 have hW' := hW
 obtain ⟨p, q, hA0, hV, rfl, hfz, hnd⟩ := hW
 have hA : DataW.TrodAll enc Tryz.prog W 0 (fun _ => true) true Tryz.f4.params.toList args.toList ds p := hA0
 rw [Tryz.params4] at hA hval
 obtain ⟨v0, vs0, d0, ds0, p0, q0, hargs, rfl, rfl, h0, r0⟩ := trodAll_cons hA
 obtain ⟨v1, vs1, d1, ds1, p1, q1, rfl, rfl, rfl, h1, r1⟩ := trodAll_cons r0
 obtain ⟨rfl, rfl, rfl⟩ := trodAll_nil r1
 obtain rfl : args = #[v0, v1] := by cases args; simp_all
 obtain ⟨rfl, rfl⟩ := trodVars_none hV
 have k0 := h0
 have lt0 : ∀ x ∈ p0, x.block < W.heap.size := by obtain ⟨m, hm⟩ := k0; exact DataW.trod_lt m _ _ _ hm
 obtain ⟨ua0, un0, uc0, rfl⟩ := okWide_slice Tryz.underlying22 (hval 0 22 v0 rfl rfl)
 obtain ⟨fu0, hfu0⟩ := h0
 obtain ⟨n0, hn0⟩ := open_bys Tryz.underlying22 Tryz.underlying5 cellsByte (by simpa [Value.cells] using hfu0)
 have k1 := h1
 have lt1 : ∀ x ∈ p1, x.block < W.heap.size := by obtain ⟨m, hm⟩ := k1; exact DataW.trod_lt m _ _ _ hm
 obtain ⟨ua1, un1, uc1, rfl⟩ := okWide_slice Tryz.underlying22 (hval 1 22 v1 rfl rfl)
 obtain ⟨fu1, hfu1⟩ := h1
 obtain ⟨n1, hn1⟩ := open_bys Tryz.underlying22 Tryz.underlying5 cellsByte (by simpa [Value.cells] using hfu1)
 clear hA0 hval0
 refine (Dr.lawMerge2_walk _ _ n0 n1 W hn0 hn1).mono fun e W' ⟨he, bel⟩ => ?_
 subst he
 exact ⟨_, rfl, _, _, _, [], _, [], hW', trodAll_mk1 (shut_bool Tryz.underlying4 _), (trodAll_cons_mk (Below.trod laidOut (by kernel_rfl) (of_decide_eq_true (by kernel_rfl)) k0 bel lt0) (trodAll_cons_mk (Below.trod laidOut (by kernel_rfl) (of_decide_eq_true (by kernel_rfl)) k1 bel lt1) trodAll_mk0)), rfl, bel.frame _, fun h => by cases h⟩
theorem over : Rows.fnMergeRow.holds Tryz.pinned (OpenSpec.ofChange Rows.fnMergeSpec) :=
 OpenClaim.holds_of_wide 4 Tryz.f4 rfl rfl rfl rfl rfl rfl rfl ⟨rfl, rfl, rfl, rfl, rfl⟩ rfl rfl rfl rfl rfl (by kernel_rfl) Tryz.func4 (by kernel_rfl)
  (of_decide_eq_true (by kernel_rfl)) (by unfold Func.isWrapper; first | (rw [if_pos (by decide +kernel)]; kernel_rfl) | (rw [if_neg (by decide +kernel)]; exact ⟨rfl, rfl⟩))
  (fun os started H enc _ => lifted os started H enc)
end Go.Proofs.YtibpkhmiahamcaaGreat.merge2
namespace Go.Proofs.YtibpkhmiahamcaaGreat
/-- The given statement. -/
theorem merge2_holds : Rows.FnMergeSaid := merge2.over
#print axioms merge2_holds
end Go.Proofs.YtibpkhmiahamcaaGreat
