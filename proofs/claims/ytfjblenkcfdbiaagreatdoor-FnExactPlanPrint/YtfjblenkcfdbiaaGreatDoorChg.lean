
/-
  A change: its number, its size, its copy.
-/
import Derived.Test.YtfjblenkcfdbiaaGreatDoorLeaf
namespace Go.Proofs.YtfjblenkcfdbiaaGreatDoor
open Go.RowKit

/-- A change. -/
structure Chg where
  f : ByteArray
  what : Int
  num : Int
  v : ByteArray

set_option maxHeartbeats 400000 in
theorem numberOk_any (n : Int) (w : World) :
    Calls Tryz.prog 60 #[.int .i64 n] w fun e w' => e = .returned (.bool (inB n 1 1000000)) ∧ w' = w := by
  by_cases h1 : 1 ≤ n
  · by_cases h2 : n ≤ 1000000
    · have e : inB n 1 1000000 = true := by simp [inB, h1, h2]
      rw [e]; clear e
      go_enter Tryz.func60, Tryz.ntmps60
      go_wp2
      go_ret
      exact ⟨rfl, rfl⟩
    · have e : inB n 1 1000000 = false := by simp [inB, h1, h2]
      rw [e]; clear e
      go_enter Tryz.func60, Tryz.ntmps60
      go_wp2
      go_ret
      exact ⟨rfl, rfl⟩
  · have e : inB n 1 1000000 = false := by simp [inB, h1]
    rw [e]; clear e
    go_enter Tryz.func60, Tryz.ntmps60
    go_wp2
    go_ret
    exact ⟨rfl, rfl⟩

end Go.Proofs.YtfjblenkcfdbiaaGreatDoor
