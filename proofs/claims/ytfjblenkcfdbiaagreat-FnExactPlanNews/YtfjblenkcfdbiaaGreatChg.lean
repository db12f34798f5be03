
/-
  A change: its number, its size, its copy.
-/
import Derived.Test.YtfjblenkcfdbiaaGreatLeaf
namespace Go.Proofs.YtfjblenkcfdbiaaGreat
open Go.RowKit

/-- A change. -/
structure Chg where
  f : ByteArray
  what : Int
  num : Int
  v : ByteArray

set_option maxHeartbeats 400000 in
theorem numberOk_any (n : Int) (w : World) :
    Calls Tryz.prog 69 #[.int .i64 n] w fun e w' => e = .returned (.bool (inB n 1 1000000)) ∧ w' = w := by
  by_cases h1 : 1 ≤ n
  · by_cases h2 : n ≤ 1000000
    · have e : inB n 1 1000000 = true := by simp [inB, h1, h2]
      rw [e]; clear e
      go_enter Tryz.func69, Tryz.ntmps69
      go_wp2
      go_ret
      exact ⟨rfl, rfl⟩
    · have e : inB n 1 1000000 = false := by simp [inB, h1, h2]
      rw [e]; clear e
      go_enter Tryz.func69, Tryz.ntmps69
      go_wp2
      go_ret
      exact ⟨rfl, rfl⟩
  · have e : inB n 1 1000000 = false := by simp [inB, h1]
    rw [e]; clear e
    go_enter Tryz.func69, Tryz.ntmps69
    go_wp2
    go_ret
    exact ⟨rfl, rfl⟩

set_option maxHeartbeats 400000 in
theorem szChange_any (c : Chg) (left : Int) (w : World) (hf : c.f.size ≤ maxLen) (hv : c.v.size ≤ maxLen) (hl : 0 ≤ left) (hl' : left ≤ 1048576) :
    Calls Tryz.prog 7 #[.agg #[.string c.f, .int .i64 c.what, .int .i64 c.num, .string c.v], .int .i64 left] w fun e w' => e = .returned (.int .i64 (szR (c.f.size + c.v.size) left)) ∧ Below w.heap.size w w' := by
  unfold maxLen at hf hv
  by_cases h : left - (c.f.size : Int) < 0
  · rw [szR_neg (by omega)]
    go_enter Tryz.func7, Tryz.ntmps7
    go_wp2
    go_ret
    exact ⟨rfl, (Below.refl _ _).alloc (Nat.le_refl _) _⟩
  · by_cases h' : left - (c.f.size : Int) - (c.v.size : Int) < 0
    · rw [szR_neg (by omega)]
      go_enter Tryz.func7, Tryz.ntmps7
      go_wp2
      go_ret
      exact ⟨rfl, (Below.refl _ _).alloc (Nat.le_refl _) _⟩
    · rw [szR_pos (by omega)]
      go_enter Tryz.func7, Tryz.ntmps7
      go_wp2
      go_ret
      exact ⟨ret_int (by omega), (Below.refl _ _).alloc (Nat.le_refl _) _⟩

set_option maxHeartbeats 400000 in
theorem toChange_any (c : Chg) (w : World) :
    Calls Tryz.prog 10 #[.agg #[.string c.f, .int .i64 c.what, .int .i64 c.num, .string c.v]] w fun e w' => e = .returned (.agg #[.string c.f, .int .i64 c.what, .int .i64 c.num, .string c.v]) ∧ Below w.heap.size w w' := by
  go_enter Tryz.func10, Tryz.ntmps10
  go_wp2
  exact bodyPost_ret (v := .agg #[.string c.f, .int .i64 c.what, .int .i64 c.num, .string c.v]) (by simp [results, Tryz.results10, go_sem]) rfl ⟨rfl, (((Below.refl _ _).alloc (Nat.le_refl _) _).alloc (by simp) _).alloc (by simp; omega) _⟩
end Go.Proofs.YtfjblenkcfdbiaaGreat
