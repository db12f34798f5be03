
/-
  The words of what is said: impl's table, and the specification's list.
-/
import Derived.Test.YtfjblenkcfdbiaaDoorForm2
import Derived.Lib.LaidTab
namespace Go.Proofs.YtfjblenkcfdbiaaDoor
open Go.RowKit

def wKind : ByteArray := ⟨#[107, 105, 110, 100]⟩
def wTime : ByteArray := ⟨#[116, 105, 109, 101]⟩
def wLevel : ByteArray := ⟨#[108, 101, 118, 101, 108]⟩
def wRoute : ByteArray := ⟨#[114, 111, 117, 116, 101]⟩
def wState : ByteArray := ⟨#[115, 116, 97, 116, 101]⟩
def wordAt : Nat → ByteArray
  | 0 => wKind
  | 1 => wTime
  | 2 => wLevel
  | 3 => wRoute
  | 4 => wState
  | _ => ⟨#[]⟩
/-- The word of what is said; nothing for what isn't on the table. -/
def wordS (what : Int) : ByteArray := if 1 ≤ what then wordAt (what - 1).toNat else ⟨#[]⟩
theorem wordS_at (k : Nat) : wordS ((k : Int) + 1) = wordAt k := by
  unfold wordS
  rw [if_pos (by omega), show ((k : Int) + 1 - 1).toNat = k by omega]
theorem wordS_none {what : Int} (h : inB what 1 5 = false) : wordS what = ⟨#[]⟩ := by
  unfold wordS
  split
  · have : ¬ what ≤ 5 := by simp [inB] at h; omega
    obtain ⟨k, hk⟩ : ∃ k, (what - 1).toNat = k + 5 := ⟨(what - 1).toNat - 5, by omega⟩
    rw [hk]; rfl
  · rfl

/-- What the table holds, cell by cell. -/
def saidC : Array Value := #[.int .i64 1, .string wKind, .int .i64 2, .string wTime, .int .i64 3, .string wLevel, .int .i64 4, .string wRoute, .int .i64 5, .string wState]
/-- The package's table lies in w. -/
def SaidIn (w : World) : Prop := ∃ t fr, w.heap[0]? = some (.cells saidC t fr)
theorem SaidIn.lt {w : World} (h : SaidIn w) : 0 < w.heap.size := by
  obtain ⟨t, fr, h⟩ := h
  exact (Array.getElem?_eq_some_iff.1 h).1
theorem SaidIn.keep {w w' : World} (h : SaidIn w) (hb : Below w.heap.size w w') : SaidIn w' := by
  have hl := h.lt
  obtain ⟨t, fr, h⟩ := h
  exact ⟨t, fr, by rw [hb.block _ hl]; exact h⟩

theorem idx0 (w : World) : (Instr.index 49 (.agg saidC) (.int .i64 0)).run Tryd.prog w = .ok (.agg #[.int .i64 1, .string wKind]) w := by kernel_rfl
theorem idx1 (w : World) : (Instr.index 49 (.agg saidC) (.int .i64 1)).run Tryd.prog w = .ok (.agg #[.int .i64 2, .string wTime]) w := by kernel_rfl
theorem idx2 (w : World) : (Instr.index 49 (.agg saidC) (.int .i64 2)).run Tryd.prog w = .ok (.agg #[.int .i64 3, .string wLevel]) w := by kernel_rfl
theorem idx3 (w : World) : (Instr.index 49 (.agg saidC) (.int .i64 3)).run Tryd.prog w = .ok (.agg #[.int .i64 4, .string wRoute]) w := by kernel_rfl
theorem idx4 (w : World) : (Instr.index 49 (.agg saidC) (.int .i64 4)).run Tryd.prog w = .ok (.agg #[.int .i64 5, .string wState]) w := by kernel_rfl
theorem idx (k : Nat) (hk : k < 5) (w : World) : (Instr.index 49 (.agg saidC) (.int .i64 (k : Int))).run Tryd.prog w = .ok (.agg #[.int .i64 ((k : Int) + 1), .string (wordAt k)]) w := by
  have : k = 0 ∨ k = 1 ∨ k = 2 ∨ k = 3 ∨ k = 4 := by omega
  rcases this with rfl | rfl | rfl | rfl | rfl
  · exact idx0 w
  · exact idx1 w
  · exact idx2 w
  · exact idx3 w
  · exact idx4 w

set_option maxHeartbeats 800000 in
theorem wordOf_any (what : Int) (w : World) (hs : SaidIn w) :
    Calls Tryd.prog 17 #[.int .i64 what] w fun e w' => e = .returned (.tuple #[.string (wordS what), .bool (inB what 1 5)]) ∧ Below w.heap.size w w' := by
  obtain ⟨tt, fr, hg⟩ := hs
  go_enter Tryd.func17, Tryd.ntmps17
  go_wp2_with (refine wpList_load_row rfl 49 _ rfl 0 rfl tt saidC fr _ hg Tryd.underlying49 rfl (by kernel_rfl) ?_)
  go_loopw [5, 7] (fun _ i wr => ∃ k : Nat, k ≤ 5 ∧ i = .int .i64 k ∧ Below w.heap.size w wr ∧ Hid (∀ j : Nat, j < k → ¬ what = (j : Int) + 1)) (fun _ i _ => 5 - (intOf i).toNat)
  case atStart => exact ⟨0, Nat.zero_le _, rfl, Below.refl _ _, fun j hj => absurd hj (Nat.not_lt_zero _)⟩
  case round =>
    obtain ⟨k, hk, rfl, hb, HA⟩ := hrel
    by_cases hlt : k < 5
    · have hi := idx k hlt
      have hk5 : (k : Int) < 5 := by omega
      by_cases hw : what = (k : Int) + 1
      · have h1 : ((k : Int) + 1 == what) = true := by simp [hw]
        have HW : Hid (what = (k : Int) + 1) := hw
        clear hw
        go_wp2
        go_ret2
        have e1 : inB what 1 5 = true := by have := HW.out; simp [inB]; omega
        have e2 : wordS what = wordAt k := by rw [HW.out]; exact wordS_at k
        rw [e1, e2]
        exact ⟨rfl, hb.alloc hb.size _⟩
      · have h1 : ((k : Int) + 1 == what) = false := by simp; omega
        have HW : Hid (¬ what = (k : Int) + 1) := hw
        clear hw
        go_wp2
        exact ⟨⟨k + 1, by omega, by go_num, hb.alloc hb.size _, fun j hj => if e : j = k then by rw [e]; exact HW.out else HA.out j (by omega)⟩, by simp [intOf]; omega⟩
    · have hk5 : ¬ (k : Int) < 5 := by omega
      have e1 : inB what 1 5 = false := by
        have h0 := HA.out 0 (by omega); have h1 := HA.out 1 (by omega); have h2 := HA.out 2 (by omega); have h3 := HA.out 3 (by omega); have h4 := HA.out 4 (by omega)
        simp [inB]; omega
      have H1 : Hid (inB what 1 5 = false) := e1
      have H2 : Hid (wordS what = ⟨#[]⟩) := wordS_none e1
      clear e1
      go_wp2
      go_ret2
      rw [H1.out, H2.out]
      exact ⟨rfl, hb⟩

set_option maxHeartbeats 400000 in
theorem l2Words_any (w : World) :
    Calls Tryd.prog 15 #[] w fun e w' => e = .returned (.slice (some ⟨w.heap.size, 0, none⟩) 5 5) ∧ w' = w.alloc (.cells #[.string wKind, .string wTime, .string wLevel, .string wRoute, .string wState] 9) := by
  go_enter Tryd.func15, Tryd.ntmps15
  go_wp2
  go_ret
  exact ⟨rfl, rfl⟩
end Go.Proofs.YtfjblenkcfdbiaaDoor
