import Derived.Test.YtibpkhmiahamcaaGreatDr8
namespace Go.Proofs.YtibpkhmiahamcaaGreat.Dr
open Go.RowKit
set_option linter.unusedSimpArgs false
set_option linter.unusedVariables false
theorem names_le {l : List Tri} {m : Nat} (h : namesB l m = true) : l.length ≤ m ∧ ∀ t ∈ l, t.s.size ≤ 8 := by
 unfold namesB at h
 rw [Bool.and_eq_true] at h
 refine ⟨by have := of_decide_eq_true h.1; omega, fun t ht => ?_⟩
 obtain ⟨i, hi, e⟩ := List.getElem_of_mem ht
 have h2 := allB_get h.2 i hi
 rw [Bool.and_eq_true] at h2
 have h3 := h2.1
 rw [show at' l i = t by simp [at', hi, e]] at h3
 unfold nameB inB at h3
 simp at h3
 omega
theorem points_le {l : List Tri} (h : pointsB l = true) : l.length ≤ 16 ∧ ∀ t ∈ l, t.s.size ≤ 8 := by
 unfold pointsB at h
 rw [Bool.and_eq_true] at h
 exact names_le h.1
theorem kinds_le {l : List Tri} (h : kindsB l = true) : l.length ≤ 6 ∧ ∀ t ∈ l, t.s.size ≤ 8 := by
 unfold kindsB at h
 rw [Bool.and_eq_true] at h
 exact names_le h.1
theorem below_grown {w w1 w2 : World} {R : Nat} (h : Below w.heap.size w w1) (hg : w1.grownBy w2 (some R)) (hR : w.heap.size ≤ R) : Below w.heap.size w w2 :=
 ⟨hg.1.trans h.1, hg.2.trans h.2, hg.3.trans h.3, Nat.le_trans h.4 hg.4, fun j hj => (hg.5 j (Nat.lt_of_lt_of_le hj h.4) (fun e => by have := Option.some.inj e; omega)).trans (h.5 j hj)⟩
end Go.Proofs.YtibpkhmiahamcaaGreat.Dr
