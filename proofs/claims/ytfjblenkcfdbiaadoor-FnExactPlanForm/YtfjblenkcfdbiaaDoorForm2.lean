
/-
  Decimals of the specification.
-/
import Derived.Test.YtfjblenkcfdbiaaDoorForm1
import Derived.Deep.RegionHeld3
namespace Go.Proofs.YtfjblenkcfdbiaaDoor
open Go.RowKit

theorem ret_str {a b : ByteArray} (h : a = b) : Ending.returned (.string a) = .returned (.string b) := by rw [h]

/-- A number in decimals. -/
def decS (n : Nat) : ByteArray := ⟨(Lib.decDigits n).toArray⟩
/-- The text of one byte. -/
def oneS (n : Int) : ByteArray := ⟨#[UInt8.ofNat n.toNat]⟩
theorem oneS_size (n : Int) : (oneS n).size = 1 := rfl
theorem dec_small {n : Nat} (h : n < 10) : decS n = oneS (48 + (n : Int)) := by
  unfold decS oneS
  rw [Lib.decDigits_one h, show ((48 : Int) + n).toNat = 48 + n by omega]
theorem dec_big {n : Nat} (h : ¬ n < 10) : decS n = decS (n / 10) ++ oneS (48 + (n : Int) % 10) := by
  unfold decS oneS
  rw [Lib.decDigits, dif_neg h, show ((48 : Int) + (n : Int) % 10).toNat = 48 + n % 10 by omega]
  apply ByteArray.ext
  simp [ByteArray.data_append]
theorem nDigits_le : ∀ (k n : Nat), n < 10 ^ (k + 1) → Lib.nDigits n ≤ k + 1
  | 0, n, h => by rw [Lib.nDigits_small (by simpa using h)]; omega
  | k + 1, n, h => by
    by_cases hs : n < 10
    · rw [Lib.nDigits_small hs]; omega
    · rw [Lib.nDigits_big hs]
      have := nDigits_le k (n / 10) (by rw [Nat.pow_succ] at h; omega)
      omega
theorem decS_size (n : Nat) (h : n < 10000000) : (decS n).size ≤ 7 := by
  have h1 := nDigits_le 6 n (by omega)
  show (Lib.decDigits n).toArray.size ≤ 7
  rw [List.size_toArray, Lib.decDigits_length]; exact h1

/-- A text out of one byte. -/
theorem conv1 (w : World) (b : Nat) (n : Int) (h : w.cell? ⟨b, 0, none⟩ = some (.int .u8 n)) :
    (convert 46 9 (.slice (some ⟨b, 0, none⟩) 1 1)).run Tryd.prog w = .ok (.string (oneS n)) w := by
  have := run_convert_bytes_arg (P := Tryd.prog) w 46 5 Tryd.underlying46 Tryd.underlying5 b 0 1 1 [n] rfl (fun i hi => by
    obtain rfl : i = 0 := by omega
    simpa using h) 9 Tryd.underlying9
  simpa [strOfNums, oneS] using this

set_option maxHeartbeats 800000 in
theorem l2Dec_small (n : Nat) (h : n < 10) (w : World) :
    Calls Tryd.prog 16 #[.int .i64 n] w fun e w' => e = .returned (.string (decS n)) ∧ Below w.heap.size w w' := by
  rw [dec_small h]
  have h1 : (n : Int) < 10 := by omega
  have kc := conv1
  go_enter Tryd.func16, Tryd.ntmps16
  go_wp2
  go_ret
  exact ⟨rfl, (Below.refl _ _).alloc (Nat.le_refl _) _⟩

set_option maxHeartbeats 1600000 in
theorem l2Dec_step (n : Nat) (h : ¬ n < 10) (hn : n ≤ 9999999) (ih : ∀ w, Calls Tryd.prog 16 #[.int .i64 ((n : Int) / 10)] w fun e w' => e = .returned (.string (decS (n / 10))) ∧ Below w.heap.size w w') (w : World) :
    Calls Tryd.prog 16 #[.int .i64 n] w fun e w' => e = .returned (.string (decS n)) ∧ Below w.heap.size w w' := by
  rw [dec_big h]
  have h1 : ¬ (n : Int) < 10 := by omega
  have kc := conv1
  have IH : Hid (∀ w, Calls Tryd.prog 16 #[.int .i64 ((n : Int) / 10)] w fun e w' => e = .returned (.string (decS (n / 10))) ∧ Below w.heap.size w w') := ih
  clear ih
  have hsz : ¬ 9223372036854775807 < (decS (n / 10)).size + (oneS (48 + (n : Int) % 10)).size := by
    have := decS_size (n / 10) (by omega)
    rw [oneS_size]; omega
  generalize decS (n / 10) = ds at IH hsz
  have hw1 : IntKind.i64.wrap ((n : Int) / 10) = (n : Int) / 10 := by rw [IntKind.wrap_i64]; omega
  have hw3 : IntKind.i64.wrap (48 + (n : Int).tmod 10) = 48 + (n : Int) % 10 := by rw [Int.tmod_eq_emod_of_nonneg (by omega), IntKind.wrap_i64]; omega
  have hw4 : IntKind.u8.wrap (48 + (n : Int) % 10) = 48 + (n : Int) % 10 := by rw [IntKind.wrap_u8]; omega
  go_enter Tryd.func16, Tryd.ntmps16
  go_wp2
  go_region_with (go_at_call 16; refine (IH.out _).mono ?_; rintro e w1 ⟨rfl, hb1⟩; have hc1 := fun b o h => hb1.cell (p := ⟨b, o, none⟩) h)
  all_goals go_wp2
  all_goals go_ret
  all_goals first | exact ⟨rfl, (below_step (Below.refl _ _).drew hb1).alloc (below_step (Below.refl w.heap.size w).drew hb1).size _⟩ | exact ⟨rfl, below_step ((Below.refl _ _).alloc (Nat.le_refl _) _).drew hb1⟩

theorem l2Dec_any : ∀ (n : Nat), n ≤ 9999999 → ∀ w, Calls Tryd.prog 16 #[.int .i64 n] w fun e w' => e = .returned (.string (decS n)) ∧ Below w.heap.size w w' := by
  intro n
  induction n using Nat.strongRecOn with
  | ind n ih =>
    intro hn w
    by_cases h : n < 10
    · exact l2Dec_small n h w
    · refine l2Dec_step n h hn (fun w => ?_) w
      have := ih (n / 10) (by omega) (by omega) w
      simpa using this
end Go.Proofs.YtfjblenkcfdbiaaDoor
