
/-
  The small functions under PlanForm: sizes and copies of a change, numbers, values, decimals, words.
-/
import Derived.Test.YtfjblenkcfdbiaaDoorLeaf
import Derived.Test.YtfjblenkcfdbiaaDoorChg
import Derived.Test.YtfjblenkcfdbiaaDoorLater
import Derived.Test.YtfjblenkcfdbiaaDoorShelf
import Derived.Lib.ItoaMem
namespace Go.Proofs.YtfjblenkcfdbiaaDoor
open Go.RowKit
attribute [local go_sem] Later.cell Later.frozen

/-- It has a newline in it. -/
def oddB (s : ByteArray) : Bool := s.data.toList.any fun c => c == 10
theorem oddB_true {s : ByteArray} {k : Nat} (hk : k < s.size) (h : s[k] = 10) : oddB s = true := by
  unfold oddB
  rw [List.any_eq_true]
  exact ⟨s[k], by simp [ByteArray.getElem_eq_getElem_data], by simp [h]⟩
theorem oddB_false {s : ByteArray} (h : ∀ k (hk : k < s.size), s[k] ≠ 10) : oddB s = false := by
  unfold oddB
  rw [List.any_eq_false]
  intro c hc
  obtain ⟨k, hk, rfl⟩ := List.getElem_of_mem hc
  have := h k (by simpa using hk)
  simpa [ByteArray.getElem_eq_getElem_data] using this
theorem u8_ten (c : UInt8) : (((c.toNat : Nat) : Int) == 10) = (c == 10) := by
  rw [Bool.eq_iff_iff]
  simp only [beq_iff_eq]
  constructor
  · intro h
    apply UInt8.toNat_inj.1
    have : c.toNat = 10 := by omega
    simpa using this
  · rintro rfl; rfl

set_option maxHeartbeats 400000 in
theorem l2Odd_any (s : ByteArray) (w : World) (hs : s.size ≤ maxLen) :
    Calls Tryd.prog 14 #[.string s] w fun e w' => e = .returned (.bool (oddB s)) ∧ w' = w := by
  unfold maxLen at hs
  go_enter Tryd.func14, Tryd.ntmps14
  go_wp2
  go_loop [3] (fun i => ∃ k : Nat, k ≤ s.size ∧ i = .int .i64 k ∧ Hid (∀ j (hj : j < s.size), j < k → s[j] ≠ 10)) (fun i => s.size - (intOf i).toNat)
  case atStart => exact ⟨0, Nat.zero_le _, rfl, fun j _ hj => absurd hj (Nat.not_lt_zero _)⟩
  case round =>
    obtain ⟨k, hk, rfl, HA⟩ := hrel
    by_cases hlt : k < s.size
    · by_cases hc : s[k] = 10
      · have h1 : (((s[k].toNat : Nat) : Int) == 10) = true := by rw [u8_ten]; simpa using hc
        have HC : Hid (s[k] = 10) := hc
        clear hc
        go_wp2
        go_ret
        exact ⟨ret_bool (oddB_true hlt HC.out).symm, rfl⟩
      · have h1 : (((s[k].toNat : Nat) : Int) == 10) = false := by rw [u8_ten]; simpa using hc
        have HC : Hid (¬ s[k] = 10) := hc
        clear hc
        go_wp2
        go_round
        case rel => exact ⟨k + 1, by omega, by go_num, fun j hj hjk => if e : j = k then by subst e; exact HC.out else HA.out j hj (by omega)⟩
        case measure => simp [intOf]; omega
    · go_wp2
      go_ret
      exact ⟨ret_bool (oddB_false fun j hj => HA.out j hj (by omega)).symm, rfl⟩

theorem index_iff (l : List UInt8) : 0 ≤ Lib.indexByte l 10 ↔ (l.any fun c => c == 10) = true := by
  induction l with
  | nil => simp [Lib.indexByte]
  | cons b l ih =>
    have hg := Lib.indexByte_ge l 10
    rw [Lib.indexByte, List.any_cons]
    by_cases h : b = 10
    · simp [h]
    · have hb : (b == 10) = false := by simpa using h
      rw [hb, Bool.false_or, ← ih]
      simp only [Bool.false_eq_true, if_false]
      split
      · rename_i h2
        have : Lib.indexByte l 10 = -1 := by simpa using h2
        omega
      · rename_i h2
        have : Lib.indexByte l 10 ≠ -1 := by simpa using h2
        omega
theorem index_odd (s : ByteArray) : decide (0 ≤ Lib.indexByte s.data.toList 10) = oddB s := by
  rw [Bool.eq_iff_iff, decide_eq_true_iff]
  exact index_iff _

/-- A value that has a form. -/
def valB (s : ByteArray) : Bool := !s.toList.isEmpty && !oddB s

set_option maxHeartbeats 400000 in
theorem valueHasForm_any (s : ByteArray) (w : World) :
    Calls Tryd.prog 20 #[.string s] w fun e w' => e = .returned (.bool (valB s)) ∧ w' = w := by
  cases h1 : s.toList.isEmpty
  · have e : valB s = !oddB s := by simp [valB, h1]
    rw [e]; clear e
    go_enter Tryd.func20, Tryd.ntmps20
    go_wp2_with fail
    refine (Tryd.strings_Contains_one s 10 _).mono ?_
    rw [index_odd]
    rintro e w' ⟨rfl, rfl⟩
    go_wp2
    go_ret
    exact ⟨rfl, rfl⟩
  · have e : valB s = false := by simp [valB, h1]
    rw [e]; clear e
    go_enter Tryd.func20, Tryd.ntmps20
    go_wp2
    go_ret
    exact ⟨rfl, rfl⟩

end Go.Proofs.YtfjblenkcfdbiaaDoor
