
/-
  What a law holds while it runs: its arguments' boxes, one behind the other, and all that was there.
-/
import Derived.Test.YtfjblenkcfdbiaaBase
import Derived.Deep.DeepCutAuto
namespace Go.Proofs.Ytfjblenkcfdbiaa
open Go.RowKit

structure BoxesAt (w wr : World) (bs : List (List Value)) : Prop where
  below : Below w.heap.size w wr
  big : w.heap.size + bs.length ≤ wr.heap.size
  has : ∀ i b, bs[i]? = some b → ∀ j v, b[j]? = some v → wr.cell? ⟨w.heap.size + i, j, none⟩ = some v
theorem BoxesAt.call {w wr w' : World} {bs : List (List Value)} (h : BoxesAt w wr bs) (hb : Below wr.heap.size wr w') : BoxesAt w w' bs :=
  ⟨below_step h.below hb, Nat.le_trans h.big hb.size, fun i b hi j v hj => cell_keep hb (Nat.le_refl _) (h.has i b hi j v hj)⟩
theorem BoxesAt.start (w : World) : BoxesAt w w [] := ⟨Below.refl _ _, Nat.le_refl _, fun i b hi => by simp at hi⟩
theorem BoxesAt.push {w wr : World} {bs : List (List Value)} (h : BoxesAt w wr bs) (he : wr.heap.size = w.heap.size + bs.length) (C : Array Value) (T : TypeId) : BoxesAt w (wr.alloc (.cells C T)) (bs ++ [C.toList]) := by
  refine ⟨h.below.alloc (by omega) _, by simp; omega, fun i b hi j v hj => ?_⟩
  by_cases e : i < bs.length
  · rw [List.getElem?_append_left e] at hi
    have := h.has i b hi j v hj
    rw [World.cell?_alloc_past (w := wr) _ (w.heap.size + i) j (by omega)]
    exact this
  · rw [List.getElem?_append_right (by omega)] at hi
    have hi0 : i - bs.length = 0 := by
      have := (List.getElem?_eq_some_iff.1 hi).1
      simp at this; omega
    rw [hi0] at hi
    simp at hi; subst hi
    have e1 : w.heap.size + i = wr.heap.size := by omega
    rw [e1, World.cell?_alloc_at (w := wr) C T wr.heap.size j rfl]
    simpa using hj
end Go.Proofs.Ytfjblenkcfdbiaa
