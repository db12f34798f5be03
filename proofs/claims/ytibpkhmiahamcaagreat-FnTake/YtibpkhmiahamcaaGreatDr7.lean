
/-
 Drawing: the reader over a code.
-/
import Derived.Test.YtibpkhmiahamcaaGreatDr3
namespace Go.Proofs.YtibpkhmiahamcaaGreat.Dr
open Go.RowKit Go.Proofs.YtibpkhmiahamcaaGreat
set_option linter.unusedSimpArgs false
set_option linter.unusedVariables false

/-- A code as it is handed in. -/
def BysArg (w : World) (v : Value) (n : Nat) : Prop := ∃ a cap, v = .slice a n cap ∧ n ≤ cap ∧ cap ≤ maxLen ∧ ∀ i, i < n → ∃ b off x, a = some ⟨b, off, none⟩ ∧ w.cell? ⟨b, off + i, none⟩ = some (.int .u8 x) ∧ 0 ≤ x ∧ x < 256
theorem BysArg.keep {w w' : World} {v : Value} {n : Nat} (h : BysArg w v n) (hb : Below w.heap.size w w') : BysArg w' v n := by
 obtain ⟨a, cap, rfl, h1, h2, h3⟩ := h
 refine ⟨a, cap, rfl, h1, h2, fun i hi => ?_⟩
 obtain ⟨b, off, x, e, hc, hr⟩ := h3 i hi
 exact ⟨b, off, x, e, cell_keep hb (Nat.le_refl _) hc, hr⟩
theorem rd_new {w : World} {a : Option Addr} {n cap : Nat} (h : BysArg w (.slice a n cap) n) (hn : n ≤ 2000) : Rd (w.alloc (.cells #[.slice a n cap, .int .i64 0] 87)) w.heap.size 0 := by
 have hb : Below w.heap.size w (w.alloc (.cells #[.slice a n cap, .int .i64 0] 87)) := (Below.refl _ _).alloc (Nat.le_refl _) _
 obtain ⟨a', cap', e, h1, h2, h3⟩ := h
 cases e
 refine ⟨.slice a n cap, n, hn, heap_newD w _, a, cap, rfl, h1, h2, fun i hi => ?_⟩
 obtain ⟨b, off, x, e, hc, hr⟩ := h3 i hi
 exact ⟨b, off, x, e, lt_of_cell hc, cell_keep hb (Nat.le_refl _) hc, hr⟩
set_option maxHeartbeats 1600000 in
theorem l1Open_any (v : Value) (n : Nat) (w : World) (h : BysArg w v n) :
  Calls Tryz.prog 20 #[v] w fun e w' => ∃ R, e = .returned (.pointer (some ⟨R, 0, none⟩)) ∧ w.heap.size ≤ R ∧ Rd w' R 0 ∧ Below w.heap.size w w' := by
 have H := h
 obtain ⟨a, cap, rfl, h1, h2, h3⟩ := h
 unfold maxLen at h2
 by_cases hn : (2000 : Int) < (n : Int)
 ·obtain ⟨b, off, x, rfl, -⟩ := h3 0 (by omega)
  have H2 : BysArg w (.slice (some ⟨b, off, none⟩) 2000 cap) 2000 := ⟨_, cap, rfl, by omega, by unfold maxLen; omega, fun i hi => h3 i (by omega)⟩
  have HR := toHid (rd_new H2 (Nat.le_refl _))
  have HB : Hid (Below w.heap.size w (w.alloc (.cells #[.slice (some ⟨b, off, none⟩) 2000 cap, .int .i64 0] 87))) := (Below.refl _ _).alloc (Nat.le_refl _) _
  clear h3 H H2
  go_enter Tryz.func20, Tryz.ntmps20
  go_wp2
  go_ret
  exact ⟨w.heap.size, rfl, Nat.le_refl _, HR.out, HB.out⟩
 ·have HR := toHid (rd_new H (by omega))
  have HB : Hid (Below w.heap.size w (w.alloc (.cells #[.slice a n cap, .int .i64 0] 87))) := (Below.refl _ _).alloc (Nat.le_refl _) _
  clear h3 H
  go_enter Tryz.func20, Tryz.ntmps20
  go_wp2
  go_ret
  exact ⟨w.heap.size, rfl, Nat.le_refl _, HR.out, HB.out⟩
end Go.Proofs.YtibpkhmiahamcaaGreat.Dr
