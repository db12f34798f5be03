
/-
 Proved: whatever list of bytes it is called with, the law FnTake returns true, and the arguments read afterwards as they read before; no condition.
-/
import Derived.Test.YtibpkhmiahamcaaGreatRows
import Derived.Test.YtibpkhmiahamcaaGreatLawTake2
import Derived.Test.YtibpkhmiahamcaaGreatOpen2
import Derived.ShutString
namespace Go.Proofs.YtibpkhmiahamcaaGreat.take2
open Go.ChangeShapes Go.WideShapes Go.ChangeAt Go.RowKit Go.Deep Go.Joins
set_option linter.unusedVariables false

theorem open_bys {H : Type} {enc : TypeId × Value → H} {P : Program} {w : World} {base : Nat} {spare : Nat → Bool} {held : Bool} {fuel : Nat} {t e : TypeId} {v : Value} {x : DataW H × List MemPlace}
  (ht : P.underlying t = some (.slice e)) (he : P.underlying e = some (.int .u8)) (hC : P.cellsOf e = 1) (h : DataW.trod enc P w base spare held fuel t [v] = some x) : ∃ n : Nat, Dr.BysArg w v n := by
 obtain ⟨l, ad, cap, hv, h1, h2, h3⟩ := open_elems ht hC (by omega) (fun b o (x : Int) => w.cell? ⟨b, o, none⟩ = some (.int .u8 x) ∧ 0 ≤ x ∧ x < 256) (fun n b off cs y hl hcell hy => by
  obtain ⟨q, e0, _, hq⟩ := DataW.trod_int he hy
  subst e0
  refine ⟨q, by simpa using hcell 0 _ rfl, ?_⟩
  simp [Lit.wf, IntKind.min, IntKind.max, IntKind.signed, IntKind.bits] at hq
  omega) h
 refine ⟨l.length, ad, cap, hv, h1, h2, fun i hi => ?_⟩
 obtain ⟨b, off, ha, hr⟩ := h3 i _ (List.getElem?_eq_getElem hi)
 exact ⟨b, off, _, ha, by simpa using hr.1, hr.2⟩
theorem cellsByte : Tryz.prog.cellsOf 5 = 1 := by kernel_rfl
theorem own : ownKnob Tryz.prog.godebug = none := by kernel_rfl
theorem laidOut : laidOutB Tryz.prog = true := by kernel_rfl
set_option maxRecDepth 100000 in
theorem lifted (os : Os) (started : os.Started) (H : Type) (enc : TypeId × Value → H) :
  ReturnsInHanded {} Tryz.checked os 3 .any (Rows.fnTakeSpec.pre6 enc Tryz.prog Tryz.f3 Rows.fnTakeRow.domain false) (Rows.fnTakeSpec.post enc Tryz.prog Tryz.f3 false true false false) := by
 refine returnsInHanded_of_change (C := Tryz.checked) own started (by kernel_rfl) Tryz.func3
  (ChangeSpec.witness6 (enc := enc) (C := Tryz.checked) false ⟨#[], #[.slice none 0 0], []⟩ 8 (by kernel_rfl) (by kernel_rfl) (by kernel_rfl) (by kernel_rfl)) ?_
 intro W base args ds gs before hval0 hW hcnd _
 have hval : ∀ (j : Nat) t v, Tryz.f3.params[j]? = some t → args[j]? = some v → Value.okWide Tryz.prog W .any base t v := hval0
 have hW' := hW
 obtain ⟨p, q, hA0, hV, rfl, hfz, hnd⟩ := hW
 have hA : DataW.TrodAll enc Tryz.prog W 0 (fun _ => true) true Tryz.f3.params.toList args.toList ds p := hA0
 rw [Tryz.params3] at hA hval
 obtain ⟨v0, vs0, d0, ds0, p0, q0, hargs, rfl, rfl, h0, r0⟩ := trodAll_cons hA
 obtain ⟨rfl, rfl, rfl⟩ := trodAll_nil r0
 obtain rfl : args = #[v0] := by cases args; simp_all
 obtain ⟨rfl, rfl⟩ := trodVars_none hV
 have k0 := h0
 have lt0 : ∀ x ∈ p0, x.block < W.heap.size := by obtain ⟨m, hm⟩ := k0; exact DataW.trod_lt m _ _ _ hm
 obtain ⟨ua0, un0, uc0, rfl⟩ := okWide_slice Tryz.underlying22 (hval 0 22 v0 rfl rfl)
 obtain ⟨fu0, hfu0⟩ := h0
 obtain ⟨n0, hn0⟩ := open_bys Tryz.underlying22 Tryz.underlying5 cellsByte (by simpa [Value.cells] using hfu0)
 clear hA0 hval0
 refine (Dr.lawTake2_walk _ n0 W hn0).mono fun e W' ⟨he, bel⟩ => ?_
 subst he
 exact ⟨_, rfl, _, _, _, [], _, [], hW', trodAll_mk1 (shut_bool Tryz.underlying4 _), (trodAll_cons_mk (Below.trod laidOut (by kernel_rfl) (of_decide_eq_true (by kernel_rfl)) k0 bel lt0) trodAll_mk0), rfl, bel.frame _, fun h => by cases h⟩

theorem over : Rows.fnTakeRow.holds Tryz.pinned (OpenSpec.ofChange Rows.fnTakeSpec) :=
 OpenClaim.holds_of_wide 3 Tryz.f3 rfl rfl rfl rfl rfl rfl rfl ⟨rfl, rfl, rfl, rfl, rfl⟩ rfl rfl rfl rfl rfl (by kernel_rfl) Tryz.func3 (by kernel_rfl)
  (of_decide_eq_true (by kernel_rfl)) (by unfold Func.isWrapper; first | (rw [if_pos (by decide +kernel)]; kernel_rfl) | (rw [if_neg (by decide +kernel)]; exact ⟨rfl, rfl⟩))
  (fun os started H enc _ => lifted os started H enc)
end Go.Proofs.YtibpkhmiahamcaaGreat.take2
namespace Go.Proofs.YtibpkhmiahamcaaGreat
/-- The given statement. -/
theorem take2_holds : Rows.FnTakeSaid := take2.over
#print axioms take2_holds
end Go.Proofs.YtibpkhmiahamcaaGreat
