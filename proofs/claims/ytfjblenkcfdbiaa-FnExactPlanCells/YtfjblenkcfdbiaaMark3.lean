
/-
  The law's marks over books: what they may turn.
-/
import Derived.Test.YtfjblenkcfdbiaaMark2
namespace Go.Proofs.Ytfjblenkcfdbiaa
open Go.RowKit

/-- Blocks from lo up to hi may have turned, and new ones come; what could be written can be. -/
structure Only (lo hi : Nat) (w w' : World) : Prop where
  below : Below lo w w'
  up : ∀ k, hi ≤ k → k < w.heap.size → w'.heap[k]? = w.heap[k]?
  stays : ∀ B o n, B < w.heap.size → w.there B o n → w'.there B o n
theorem Only.refl (lo hi : Nat) (w : World) : Only lo hi w w := ⟨Below.refl _ _, fun _ _ _ => rfl, fun _ _ _ _ h => h⟩
theorem Only.trans {lo hi : Nat} {w w1 w2 : World} (h : Only lo hi w w1) (k : Only lo hi w1 w2) : Only lo hi w w2 :=
  ⟨h.below.trans k.below, fun j hj hl => (k.up j hj (Nat.lt_of_lt_of_le hl h.below.size)).trans (h.up j hj hl), fun B o n hB ht => k.stays B o n (Nat.lt_of_lt_of_le hB h.below.size) (h.stays B o n hB ht)⟩
theorem Only.call {lo hi : Nat} {w w1 : World} (hb : Below w.heap.size w w1) (hl : lo ≤ w.heap.size) : Only lo hi w w1 :=
  ⟨hb.mono hl, fun j _ hj => hb.block j hj, fun _ _ _ hB ht => there_keep ht hb hB⟩
theorem Only.mark {lo hi : Nat} {w w1 : World} {b N p : Nat} {f : Nat → Value} (h : MarkAt w w1 b N f p) (hl : lo ≤ b) (hh : b < hi) : Only lo hi w w1 :=
  ⟨⟨h.grown.os, h.grown.tape, h.grown.output, h.grown.size, fun j hj => h.grown.block j (by have := h.big; omega) (by simp; omega)⟩,
   fun j hj hl' => h.grown.block j hl' (by simp; omega),
   fun B o n hB ht => by
     by_cases e : B = b
     · subst e; exact h.stays o n ht
     · intro q hq
       have hblk := h.grown.block B hB (by simp; exact e)
       have := ht q hq
       rw [World.cell?_of_block (w := w) hblk, World.frozen?_of_block (w := w) hblk]
       exact this⟩
theorem Only.set {lo hi : Nat} (w : World) {b o : Nat} (v : Value) (hl : lo ≤ b) (hh : b < hi) : Only lo hi w (w.setCell ⟨b, o, none⟩ v) :=
  ⟨(Below.refl _ _).setCell (p := ⟨b, o, none⟩) hl v, fun j hj _ => Below.heap_setCell w ⟨b, o, none⟩ v j (by show j ≠ b; omega), fun _ _ _ _ ht => World.there_setCells ht b o [v]⟩

set_option maxHeartbeats 1600000 in
theorem markBase_any (bk bp nk np k lo hi : Nat) (w : World) (hk : bk < w.heap.size) (hp : bp < w.heap.size) (tk : w.there bk 0 (nk * 3)) (tp : w.there bp 0 (np * 3)) (ek : nk ≤ 1048576) (ep : np ≤ 1048576) (hk8 : k ≤ 100000000)
    (l1 : lo ≤ bk) (l2 : lo ≤ bp) (h1 : bk < hi) (h2 : bp < hi) (hlo : lo ≤ w.heap.size) :
    Calls Try.prog 28 #[.agg #[.slice (some ⟨bk, 0, none⟩) nk nk, .slice (some ⟨bp, 0, none⟩) np np], .int .i64 k] w fun e w' => e = .returned (.int .i64 ((k + nk * 3 + np * 3 : Nat) : Int)) ∧ Only lo hi w w' ∧ ∀ j, j < w.heap.size → j ≠ bk → j ≠ bp → w'.heap[j]? = w.heap[j]? := by
  have HX0 : Hid (OwnAt w (w.alloc (.cells #[.slice (some ⟨bk, 0, none⟩) nk nk, .slice (some ⟨bp, 0, none⟩) np np] 31)) [[.slice (some ⟨bk, 0, none⟩) nk nk, .slice (some ⟨bp, 0, none⟩) np np]]) := (OwnAt.start w).push rfl _ _
  have HT : Hid (w.there bk 0 (nk * 3) ∧ w.there bp 0 (np * 3)) := ⟨tk, tp⟩
  clear tk tp
  go_enter Try.func28, Try.ntmps28
  go_wp2_with fail
  refine (markKinds_any bk nk nk k _ (by simp; omega) (there_keep HT.out.1 HX0.out.below hk) ek (by omega)).mono ?_
  rintro e w1 ⟨rfl, hM1⟩
  have HO1 : Hid (Only lo hi w w1) := (Only.call HX0.out.below hlo).trans (Only.mark hM1 l1 h1)
  have hne : ¬ w.heap.size = bk := by omega
  have y0 : w1.cell? ⟨w.heap.size, 0, none⟩ = some (.slice (some ⟨bk, 0, none⟩) nk nk) := by
    rw [World.cell?_of_block (w := w.alloc _) (hM1.grown.block w.heap.size (by simp) (by simp; omega))]; simp
  have y1 : w1.cell? ⟨w.heap.size, 1, none⟩ = some (.slice (some ⟨bp, 0, none⟩) np np) := by
    rw [World.cell?_of_block (w := w.alloc _) (hM1.grown.block w.heap.size (by simp) (by simp; omega))]; simp
  have HJ1 : Hid (∀ j, j < w.heap.size → j ≠ bk → w1.heap[j]? = w.heap[j]?) := fun j hj h1 => (hM1.grown.block j (by simp; omega) (by simp; exact h1)).trans (HX0.out.below.block j hj)
  clear hM1
  generalize hkk : k + nk * 3 = k1 at *
  have hk1 : k1 ≤ 1000000000 := by omega
  go_wp2_with fail
  refine (markPoints_any bp np np k1 _ (Nat.lt_of_lt_of_le hp HO1.out.below.size) (HO1.out.stays _ _ _ hp HT.out.2) ep hk1).mono ?_
  rintro e w2 ⟨rfl, hM2⟩
  have HO2 : Hid (Only lo hi w w2) := HO1.out.trans (Only.mark hM2 l2 h2)
  have HJ2 : Hid (∀ j, j < w1.heap.size → j ≠ bp → w2.heap[j]? = w1.heap[j]?) := fun j hj h1 => hM2.grown.block j hj (by simp; exact h1)
  clear hM2
  generalize hk2 : k1 + np * 3 = k2 at *
  go_wp2
  go_ret
  exact ⟨ret_int (by rw [← hk2, ← hkk]), HO2.out, fun j hj h1 h2 => (HJ2.out j (Nat.lt_of_lt_of_le hj HO1.out.below.size) h2).trans (HJ1.out j hj h1)⟩

end Go.Proofs.Ytfjblenkcfdbiaa
