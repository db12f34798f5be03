
/-
  What the form reads of a base (a struct of two slices of structs) is a list of kinds and a list of points that lie in memory.
-/
import Derived.Test.YtfjblenkcfdbiaaGreatPure
import Derived.ProofKit
import Derived.OpenShut
import Derived.ChangeOld
import Derived.Lib.SmallJoins
import Derived.Deep.Slices
import Derived.Deep.Strs
import Derived.Deep.MidRow
namespace Go.Proofs.YtfjblenkcfdbiaaGreat
open Go.ChangeShapes Go.WideShapes Go.ChangeAt Go.RowKit Go.Deep

theorem open_tris {H : Type} {enc : TypeId × Value → H} {P : Program} {w : World} {base : Nat} {spare : Nat → Bool} {held : Bool} {fuel : Nat} {t e : TypeId} {f0 f1 f2 : Field} {v : Value} {x : DataW H × List MemPlace}
    (ht : P.underlying t = some (.slice e)) (he : P.underlying e = some (.struct #[f0, f1, f2])) (hone : oneCellFields P #[f0, f1, f2] = true) (hC : P.cellsOf e = 3)
    (g0 : P.underlying f0.type = some .string) (g1 : P.underlying f1.type = some (.int .i64)) (g2 : P.underlying f2.type = some (.int .i64))
    (h : DataW.trod enc P w base spare held fuel t [v] = some x) : ∃ l : List Tri, TrisAt w v l ∧ ∀ t ∈ l, t.s.size ≤ maxLen := by
  rcases open_slice ht h with ⟨h0, _⟩ | ⟨a, len, cap, m, n, D, Pl, hv, _, hl, hm, hmm, _, hx⟩
  · cases h0
    exact ⟨[], ⟨none, 0, rfl, Nat.le_refl _, Nat.zero_le _, fun i t ht => by simp at ht⟩, fun t ht => by simp at ht⟩
  · cases hv
    have hlm : len ≤ m := by rw [hmm]; split <;> omega
    have each : ∀ i, i < len → ∃ t : Tri, (∃ b off, a = ⟨b, off, none⟩ ∧ w.cell? ⟨b, off + i * 3, none⟩ = some (.string t.s) ∧ w.cell? ⟨b, off + i * 3 + 1, none⟩ = some (.int .i64 t.x) ∧ w.cell? ⟨b, off + i * 3 + 2, none⟩ = some (.int .i64 t.y)) ∧ t.s.size ≤ maxLen := fun i hi => by
      have hspot : a.spot = none := by
        obtain ⟨cs, h1, _⟩ := hx 0 (by omega)
        rw [hC] at h1
        obtain ⟨_, hlen, hcell⟩ := World.cells?_some h1
        match cs, hlen with
        | [c0, c1, c2], _ =>
          have p0 := hcell 0 (by omega)
          simp at p0
          simpa [Addr.add] using World.cell?_spot p0
      obtain ⟨b, off, spot⟩ := a
      simp only at hspot
      subst hspot
      obtain ⟨cs, h1, h2⟩ := hx i (by omega)
      rw [hC] at h1
      obtain ⟨y0, y1, y2, n', _, _, k0, k1, k2⟩ := trod_struct3 he h2
      obtain ⟨o0, z0⟩ := hone_of hone 0 f0 rfl
      obtain ⟨o1, z1⟩ := hone_of hone 1 f1 rfl
      obtain ⟨o2, z2⟩ := hone_of hone 2 f2 rfl
      obtain ⟨_, hlen, hcell⟩ := World.cells?_some h1
      match cs, hlen with
      | [c0, c1, c2], _ =>
        rw [o0, z0] at k0
        rw [o1, z1] at k1
        rw [o2, z2] at k2
        obtain ⟨s, e0, _, hs⟩ := DataW.trod_string g0 k0
        obtain ⟨q, e1, _, _⟩ := DataW.trod_int g1 k1
        obtain ⟨r, e2, _, _⟩ := DataW.trod_int g2 k2
        simp at e0 e1 e2
        subst e0 e1 e2
        have p0 := hcell 0 (by omega)
        have p1 := hcell 1 (by omega)
        have p2 := hcell 2 (by omega)
        rw [Addr.add_mid, Addr.add_mid] at p0 p1 p2
        exact ⟨⟨s, q, r⟩, ⟨b, off, rfl, p0, p1, p2⟩, hs⟩
    have pick := fun i : Fin len => each i.1 i.2
    let F : Fin len → Tri := fun i => Classical.choose (pick i)
    have hF : ∀ i : Fin len, _ := fun i => Classical.choose_spec (pick i)
    refine ⟨List.ofFn F, ⟨some a, cap, by simp, by simpa using hl, hm, fun i t ht => ?_⟩, fun t ht => ?_⟩
    · have hi : i < len := by
        have := (List.getElem?_eq_some_iff.1 ht).1
        simpa using this
      have e : t = F ⟨i, hi⟩ := by
        rw [List.getElem?_eq_some_iff] at ht
        obtain ⟨_, h⟩ := ht
        simpa using h.symm
      obtain ⟨⟨b, off, ha, c0, c1, c2⟩, _⟩ := hF ⟨i, hi⟩
      exact ⟨b, off, by rw [ha], by rw [e]; exact c0, by rw [e]; exact c1, by rw [e]; exact c2⟩
    · obtain ⟨i, rfl⟩ := List.mem_ofFn.1 ht
      exact (hF i).2
end Go.Proofs.YtfjblenkcfdbiaaGreat
