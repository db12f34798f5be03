/-
  For the proof of take_holds: part 14 (Fill0).
-/
import Derived.Deep.RegionHeld
import Derived.Test.YtfjblenkcfdbiaaGreatRowTakeJ13
namespace Go.Proofs.YtfjblenkcfdbiaaGreat
open Go.RowKit
set_option linter.unusedSimpArgs false
set_option linter.unusedVariables false

theorem putC_old {S : List Chg} {c : Chg} (hS : SortedC S) (h : newB S c = false) : putC S c = S := by
  induction S with
  | nil => rw [newB_nil] at h; cases h
  | cons a l ih =>
    have h' := List.pairwise_cons.1 hS
    rw [putC]
    cases hlt : keyLt a c with
    | true => rw [newB_skip (keyLt_ne hlt)] at h; simp [ih h'.2 h]
    | false =>
      cases heq : keyEq a c with
      | true => rw [newB_hit heq] at h; simp [h]
      | false =>
        have hgt := keyGt hlt heq
        have hpast : newB (a :: l) c = true := newB_past fun x hx => by
          rw [keyEq_symm]
          rcases List.mem_cons.1 hx with rfl | hx
          · exact keyLt_ne hgt
          · exact keyLt_ne (keyLt_trans hgt (h'.1 x hx))
        rw [hpast] at h; cases h
theorem lat_get {S : List Chg} {c : Chg} (hc : 1 ≤ c.num) (n : ByteArray) : latC c (chgOf n (getF S c)) = newB S c := by
  unfold getF newB
  cases S.find? fun a => keyEq a c with
  | none => exact latC_new hc
  | some a => rfl

theorem heap_newF (w : World) (o : Obj) : (w.alloc o).heap[w.heap.size]? = some o := by show (w.heap.push o)[w.heap.size]? = some o; simp
/-- Lists of changes. -/
def ListsAt (w : World) (v : Value) (Ls : List (List Chg)) : Prop := ∃ a cap, v = .slice a Ls.length cap ∧ Ls.length ≤ cap ∧ cap ≤ maxLen ∧ ∀ (i : Nat) (L : List Chg), Ls[i]? = some L → ∃ b off u, a = some ⟨b, off, none⟩ ∧ w.cell? ⟨b, off + i, none⟩ = some u ∧ ChgsAt w u L
/-- While the map is filled. -/
structure FillAt (w wx : World) (A : Array Value) (n : Nat) (S : List Chg) : Prop where
  below : Below w.heap.size w wx
  a : wx.heap[w.heap.size]? = some (.cells A 36 (0, 0))
  r : wx.heap[w.heap.size + 1]? = some (.cells #[.slice none 0 0, .slice none 0 0, .slice none 0 0] 39 (0, 0))
  z : w.heap.size + 2 < wx.heap.size
  m : MapIs wx (w.heap.size + 2) n S
theorem FillAt.call {w wx wy : World} {A : Array Value} {n : Nat} {S : List Chg} (h : FillAt w wx A n S) (hb : Below wx.heap.size wx wy) : FillAt w wy A n S :=
  ⟨below_step h.below hb, (hb.block _ (by have := h.z; omega)).trans h.a, (hb.block _ (by have := h.z; omega)).trans h.r, Nat.lt_of_lt_of_le h.z hb.size, h.m.kept (row := none) ⟨hb.os, hb.tape, hb.output, hb.size, fun k hk _ => hb.block k hk⟩ (by simp)⟩
theorem FillAt.put {w wx wy : World} {A : Array Value} {n n' : Nat} {S S' : List Chg} (h : FillAt w wx A n S) (hg : wx.grownBy wy (some (w.heap.size + 2))) (hm : MapIs wy (w.heap.size + 2) n' S') : FillAt w wy A n' S' := by
  have hz := h.z
  exact ⟨h.below.grown hg h.below.size (fun k e => by cases e; omega), (hg.block _ (by omega) (by simp)).trans h.a, (hg.block _ (by omega) (by simp)).trans h.r, Nat.lt_of_lt_of_le hz hg.size, hm⟩
theorem FillAt.start (w : World) (A : Array Value) : FillAt w (((w.alloc (.cells A 36)).alloc (.cells #[.slice none 0 0, .slice none 0 0, .slice none 0 0] 39)).alloc (.map #[] 0)) A 0 [] := by
  have s1 : (w.alloc (.cells A 36)).heap.size = w.heap.size + 1 := by simp
  have s2 : ((w.alloc (.cells A 36)).alloc (.cells #[.slice none 0 0, .slice none 0 0, .slice none 0 0] 39)).heap.size = w.heap.size + 2 := by simp
  have h1 := heap_newF w (.cells A 36)
  have h2 := heap_newF (w.alloc (.cells A 36)) (.cells #[.slice none 0 0, .slice none 0 0, .slice none 0 0] 39)
  have h3 := MapIs.made ((w.alloc (.cells A 36)).alloc (.cells #[.slice none 0 0, .slice none 0 0, .slice none 0 0] 39))
  rw [s1] at h2
  rw [s2] at h3
  refine ⟨(((Below.refl _ _).alloc (Nat.le_refl _) _).alloc (by simp) _).alloc (by simp; omega) _, ?_, ?_, by simp, h3⟩
  · exact (Below.heap_alloc _ _ _ (by omega)).trans ((Below.heap_alloc _ _ _ (by omega)).trans h1)
  · exact (Below.heap_alloc _ _ _ (by omega)).trans h2
end Go.Proofs.YtfjblenkcfdbiaaGreat
