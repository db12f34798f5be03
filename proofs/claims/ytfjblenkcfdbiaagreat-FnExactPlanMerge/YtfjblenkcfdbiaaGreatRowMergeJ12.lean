/-
  For the proof of merge_holds: part 12 (Map2).
-/
import Derived.Sort.KeysCollected
import Derived.Test.YtfjblenkcfdbiaaGreatRowMergeJ11
namespace Go.Proofs.YtfjblenkcfdbiaaGreat
open Go.RowKit

theorem lits_str {P : Program} {d : Nat} {t : TypeId} {x : Value} {ls : List Lit} (u : P.underlying t = some .string) (h : P.keyLits (d + 1) t [x] = some ls) : ∃ f : ByteArray, x = .string f ∧ f.size ≤ maxLen ∧ ls = [.string f.data.toList] := by
  unfold Program.keyLits at h
  rw [u] at h
  cases x <;> simp at h
  rename_i s
  exact ⟨s, rfl, h.1, h.2.symm⟩
theorem lits_int {P : Program} {d : Nat} {t : TypeId} {x : Value} {ls : List Lit} (u : P.underlying t = some (.int .i64)) (h : P.keyLits (d + 1) t [x] = some ls) : ∃ n : Int, x = .int .i64 n ∧ (Lit.int .i64 n).wf = true ∧ ls = [.int .i64 n] := by
  unfold Program.keyLits at h
  rw [u] at h
  cases x <;> simp at h
  rename_i q n
  obtain ⟨⟨rfl, hw⟩, rfl⟩ := h
  exact ⟨n, rfl, hw, rfl⟩
theorem keyOf_inv2 {P : Program} {k : TypeId} {f0 f1 : Field} (hu : P.underlying k = some (.struct #[f0, f1])) (hc : P.cellsOf k = 2) (o0 : f0.offset = 0) (o1 : f1.offset = 1) (c0 : P.cellsOf f0.type = 1) (c1 : P.cellsOf f1.type = 1) (u0 : P.underlying f0.type = some .string) (u1 : P.underlying f1.type = some (.int .i64)) (hsz : 0 < P.types.size)
    {v : Value} {l : Lit} (h : keyOf P k v = some l) : ∃ (f : ByteArray) (n : Int), v = .agg #[.string f, .int .i64 n] ∧ f.size ≤ maxLen ∧ (Lit.int .i64 n).wf = true ∧ l = klK f n := by
  obtain ⟨m, hm⟩ : ∃ m, P.types.size = m + 1 := ⟨P.types.size - 1, by omega⟩
  unfold keyOf at h
  rw [hu] at h
  simp only [] at h
  split at h
  · rename_i hf
    rw [Bool.and_eq_true] at hf
    have hfo := hf.2
    cases v <;> simp [Value.formed, hu, hc] at hfo
    rename_i cs
    obtain ⟨x, y, hxy⟩ : ∃ x y, cs = #[x, y] := by
      match cs, hfo with
      | ⟨[x, y]⟩, _ => exact ⟨x, y, rfl⟩
    subst hxy
    rw [Option.map_eq_some_iff] at h
    obtain ⟨ls, h1, rfl⟩ := h
    rw [hm] at h1
    unfold Program.keyLits at h1
    rw [hu] at h1
    simp [Value.cells, hc, o0, o1, c0, c1, List.mapM_cons] at h1
    obtain ⟨_, h2⟩ := h1
    cases hx : P.keyLits (m + 1) f0.type [x] with
    | none => rw [hx] at h2; cases h2
    | some l0 =>
      rw [hx] at h2
      cases hy : P.keyLits (m + 1) f1.type [y] with
      | none => rw [hy] at h2; cases h2
      | some l1 =>
        rw [hy] at h2
        obtain ⟨f, rfl, hf1, rfl⟩ := lits_str u0 hx
        obtain ⟨n, rfl, hn1, rfl⟩ := lits_int u1 hy
        simp at h2
        subst h2
        exact ⟨f, n, rfl, hf1, hn1, rfl⟩
  · cases h
theorem keyOf_inv {v : Value} {l : Lit} (h : keyOf Tryz.prog 106 v = some l) : ∃ (f : ByteArray) (n : Int), v = .agg #[.string f, .int .i64 n] ∧ f.size ≤ maxLen ∧ (Lit.int .i64 n).wf = true ∧ l = klK f n :=
  keyOf_inv2 Tryz.underlying106 cellsK rfl rfl cellsS cellsI Tryz.underlying9 Tryz.underlying3 sizeP h
/-- What the map has. -/
theorem MapIs.has {D : DataW Unit} {S : List Chg} (h : ∀ k : Chg, KeyFit k → ∀ z, D.atKey (klK k.f k.what) z = match S.find? fun a => keyEq a k with | some a => fldD (fldC a) | none => z) (k : Chg) (hk : KeyFit k) : Maps.has D (klK k.f k.what) = S.any fun a => keyEq a k := by
  cases hf : S.find? fun a => keyEq a k with
  | none =>
    rw [Maps.has_false_of_atKey (fun z => by rw [h k hk z, hf])]
    rw [List.find?_eq_none] at hf
    exact (List.any_eq_false.2 (fun a ha => by simpa using hf a ha)).symm
  | some a =>
    rw [Maps.has_true_of_atKey (y := fldD (fldC a)) (fun z => by rw [h k hk z, hf])]
    exact (List.any_eq_true.2 ⟨a, List.mem_of_find?_eq_some hf, List.find?_some (p := fun a => keyEq a k) hf⟩).symm
end Go.Proofs.YtfjblenkcfdbiaaGreat
