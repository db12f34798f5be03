
/-
  impl: a copy of a change.
-/
import Derived.Test.YtfjblenkcfdbiaaGreatNews2
namespace Go.Proofs.YtfjblenkcfdbiaaGreat
open Go.RowKit

set_option maxHeartbeats 1600000 in
theorem copyChange_any (c : Chg) (w : World) (hf : c.f.size ≤ 1048576) (hv : c.v.size ≤ 1048576) :
    Calls Tryz.prog 47 #[.agg #[.string c.f, .int .i64 c.what, .int .i64 c.num, .string c.v]] w fun e w' => e = .returned (.agg #[.string c.f, .int .i64 c.what, .int .i64 c.num, .string c.v]) ∧ Below w.heap.size w w' := by
  obtain ⟨f, what, num, v⟩ := c
  dsimp only at *
  have HO0 : Hid (OwnAt w ((w.alloc (.cells #[.string f, .int .i64 what, .int .i64 num, .string v] 43)).alloc (.cells #[.string ⟨#[]⟩, .int .i64 0, .int .i64 0, .string ⟨#[]⟩] 43)) [[.string f, .int .i64 what, .int .i64 num, .string v], [.string ⟨#[]⟩, .int .i64 0, .int .i64 0, .string ⟨#[]⟩]]) := ((OwnAt.start w).push rfl _ _).push (by simp) _ _
  go_enter Tryz.func47, Tryz.ntmps47
  go_wp2_with fail
  refine (clone_any f _ hf).mono ?_
  rintro e w1 ⟨rfl, hb1⟩
  have HO1 : Hid (OwnAt w w1 [[.string f, .int .i64 what, .int .i64 num, .string v], [.string ⟨#[]⟩, .int .i64 0, .int .i64 0, .string ⟨#[]⟩]]) := HO0.out.call hb1
  have HO2 : Hid (OwnAt w (w1.setCell ⟨w.heap.size, 0, none⟩ (.string f)) [[.string f, .int .i64 what, .int .i64 num, .string v], [.string ⟨#[]⟩, .int .i64 0, .int .i64 0, .string ⟨#[]⟩]]) := HO1.out.set (i := 0) (j := 0) rfl (by simp) _
  have c0 : w1.cell? ⟨w.heap.size, 0, none⟩ = some (.string f) := (HO1.out.has 0 _ rfl 0 _ rfl).1
  have c1 : w1.cell? ⟨w.heap.size, 1, none⟩ = some (.int .i64 what) := (HO1.out.has 0 _ rfl 1 _ rfl).1
  have c2 : w1.cell? ⟨w.heap.size, 2, none⟩ = some (.int .i64 num) := (HO1.out.has 0 _ rfl 2 _ rfl).1
  have c3 : w1.cell? ⟨w.heap.size, 3, none⟩ = some (.string v) := (HO1.out.has 0 _ rfl 3 _ rfl).1
  have f0 : w1.frozen? ⟨w.heap.size, 0, none⟩ = false := (HO1.out.has 0 _ rfl 0 _ rfl).2
  clear HO0 hb1
  go_wp2_with fail
  refine (clone_any v _ hv).mono ?_
  rintro e w2 ⟨rfl, hb2⟩
  have HO3 : Hid (OwnAt w w2 [[.string f, .int .i64 what, .int .i64 num, .string v], [.string ⟨#[]⟩, .int .i64 0, .int .i64 0, .string ⟨#[]⟩]]) := HO2.out.call hb2
  clear HO1 HO2 hb2 c0 c1 c2 c3 f0
  have c0 : w2.cell? ⟨w.heap.size, 0, none⟩ = some (.string f) := (HO3.out.has 0 _ rfl 0 _ rfl).1
  have c1 : w2.cell? ⟨w.heap.size, 1, none⟩ = some (.int .i64 what) := (HO3.out.has 0 _ rfl 1 _ rfl).1
  have c2 : w2.cell? ⟨w.heap.size, 2, none⟩ = some (.int .i64 num) := (HO3.out.has 0 _ rfl 2 _ rfl).1
  have c3 : w2.cell? ⟨w.heap.size, 3, none⟩ = some (.string v) := (HO3.out.has 0 _ rfl 3 _ rfl).1
  have f3 : w2.frozen? ⟨w.heap.size, 3, none⟩ = false := (HO3.out.has 0 _ rfl 3 _ rfl).2
  have r0 : w2.cell? ⟨w.heap.size + 1, 0, none⟩ = some (.string ⟨#[]⟩) := (HO3.out.has 1 _ rfl 0 _ rfl).1
  have r1 : w2.cell? ⟨w.heap.size + 1, 1, none⟩ = some (.int .i64 0) := (HO3.out.has 1 _ rfl 1 _ rfl).1
  have r2 : w2.cell? ⟨w.heap.size + 1, 2, none⟩ = some (.int .i64 0) := (HO3.out.has 1 _ rfl 2 _ rfl).1
  have r3 : w2.cell? ⟨w.heap.size + 1, 3, none⟩ = some (.string ⟨#[]⟩) := (HO3.out.has 1 _ rfl 3 _ rfl).1
  have g0 : w2.frozen? ⟨w.heap.size + 1, 0, none⟩ = false := (HO3.out.has 1 _ rfl 0 _ rfl).2
  have g1 : w2.frozen? ⟨w.heap.size + 1, 1, none⟩ = false := (HO3.out.has 1 _ rfl 1 _ rfl).2
  have g2 : w2.frozen? ⟨w.heap.size + 1, 2, none⟩ = false := (HO3.out.has 1 _ rfl 2 _ rfl).2
  have g3 : w2.frozen? ⟨w.heap.size + 1, 3, none⟩ = false := (HO3.out.has 1 _ rfl 3 _ rfl).2
  go_wp2
  refine bodyPost_ret (v := .agg #[.string f, .int .i64 what, .int .i64 num, .string v]) (by simp [results, Tryz.results47, go_sem, *]) rfl ⟨rfl, ?_⟩
  exact below_set (below_set (below_set (below_set (below_set HO3.out.below _ _ (by omega) _) _ _ (by omega) _) _ _ (by omega) _) _ _ (by omega) _) _ _ (by omega) _
theorem sideBySide_any (a b : Value) (w : World) (ha : ∃ x n c, a = .slice x n c) (hb : ∃ x n c, b = .slice x n c) :
    Calls Tryz.prog 44 #[a, b] w fun e w' => e = .returned (.func (.func 86) #[] #[.pointer (some ⟨w.heap.size, 0, none⟩), .pointer (some ⟨w.heap.size + 1, 0, none⟩)]) ∧ w' = (w.alloc (.cells #[a] 50)).alloc (.cells #[b] 50) := by
  obtain ⟨x, n, c, rfl⟩ := ha
  obtain ⟨x', n', c', rfl⟩ := hb
  go_enter Tryz.func44, Tryz.ntmps44
  go_wp2
  go_ret
  exact ⟨rfl, rfl⟩
end Go.Proofs.YtfjblenkcfdbiaaGreat
