
/-
  The specification's l2Number.
-/
import Derived.Test.YtfjblenkcfdbiaaDec
namespace Go.Proofs.Ytfjblenkcfdbiaa
open Go.RowKit

set_option maxHeartbeats 1600000 in
theorem l2Number_any (s : ByteArray) (w : World) (hs : s.size ≤ maxLen) :
    Calls Try.prog 85 #[.string s] w fun e w' => e = .returned (.int .i64 (bif decB s then (numTo s s.size : Int) else -1)) ∧ w' = w := by
  unfold maxLen at hs
  cases hin : inB s.size 1 7
  · have e : decB s = false := by simp [decB, hin]
    have HI : Hid (inB s.size 1 7 = false) := hin
    rw [e]; clear e hin
    go_enter Try.func85, Try.ntmps85
    go_wp2_with fail
    refine (l1In_any _ _ _ _).mono ?_
    rw [HI.out]
    rintro e w' ⟨rfl, rfl⟩
    go_wp2
    go_ret
    exact ⟨rfl, rfl⟩
  have HI : Hid (inB s.size 1 7 = true) := hin
  have hz : 0 < s.size := by simp [inB] at hin; omega
  have hsz7 : s.size ≤ 7 := by simp [inB] at hin; omega
  cases hl : leadB s
  · have e : decB s = digitsB s := by simp [decB, hin, hl]
    rw [e]; clear e hin
    by_cases h3 : (1 : Int) < s.size
    · have h4 : (((s[0].toNat : Nat) : Int) == 48) = false := by
        rw [u8_zero]
        have : 1 < s.size := by omega
        simp only [leadB, this, decide_true, Bool.true_and, getD_byte hz] at hl
        exact hl
      clear hl
      go_enter Try.func85, Try.ntmps85
      go_wp2_with fail
      refine (l1In_any _ _ _ _).mono ?_
      rw [HI.out]
      rintro e w' ⟨rfl, rfl⟩
      go_wp2
      go_loop [3, 4] (fun n i => ∃ k : Nat, k ≤ s.size ∧ i = .int .i64 k ∧ n = .int .i64 (numTo s k : Int) ∧ Hid (∀ j (hj : j < s.size), j < k → digB (s[j].toNat) = true)) (fun _ i => s.size - (intOf i).toNat)
      case atStart => exact ⟨0, Nat.zero_le _, rfl, rfl, fun j _ hj => absurd hj (Nat.not_lt_zero _)⟩
      case round =>
        obtain ⟨k, hk, rfl, rfl, HA⟩ := hrel
        by_cases hlt : k < s.size
        · have hn7 : numTo s k < 10000000 := numTo_seven k hsz7 hk HA.out
          have HS : Hid (numTo s (k + 1) = numTo s k * 10 + (s[k].toNat - 48)) := by
            show numTo s (k + 1) = _
            rw [numTo, getD_byte hlt]
          have hc8 : s[k].toNat < 256 := s[k].toNat_lt
          generalize numTo s k = nk at hn7 HS
          by_cases h5 : ((s[k].toNat : Nat) : Int) < 48
          · go_wp2
            go_ret
            have e : digitsB s = false := digitsB_false hlt (by simp [digB]; omega)
            rw [e]
            exact ⟨rfl, rfl⟩
          · by_cases h6 : (57 : Int) < ((s[k].toNat : Nat) : Int)
            · go_wp2
              go_ret
              have e : digitsB s = false := digitsB_false hlt (by simp [digB]; omega)
              rw [e]
              exact ⟨rfl, rfl⟩
            · go_wp2
              go_round
              case rel => exact ⟨k + 1, by omega, by go_num, by rw [HS.out]; congr 1; omega, fun j hj hjk => if h : j = k then by subst h; rw [digB_iff]; omega else HA.out j hj (by omega)⟩
              case measure => simp [intOf]; omega
        · have HT : Hid (digitsB s = true) := digitsB_true fun j hj => HA.out j hj (by omega)
          have HK : Hid (k = s.size) := by show k = s.size; omega
          go_wp2
          go_ret
          rw [HT.out, HK.out]
          exact ⟨rfl, rfl⟩
    · clear hl
      go_enter Try.func85, Try.ntmps85
      go_wp2_with fail
      refine (l1In_any _ _ _ _).mono ?_
      rw [HI.out]
      rintro e w' ⟨rfl, rfl⟩
      go_wp2
      go_loop [3, 4] (fun n i => ∃ k : Nat, k ≤ s.size ∧ i = .int .i64 k ∧ n = .int .i64 (numTo s k : Int) ∧ Hid (∀ j (hj : j < s.size), j < k → digB (s[j].toNat) = true)) (fun _ i => s.size - (intOf i).toNat)
      case atStart => exact ⟨0, Nat.zero_le _, rfl, rfl, fun j _ hj => absurd hj (Nat.not_lt_zero _)⟩
      case round =>
        obtain ⟨k, hk, rfl, rfl, HA⟩ := hrel
        by_cases hlt : k < s.size
        · have hn7 : numTo s k < 10000000 := numTo_seven k hsz7 hk HA.out
          have HS : Hid (numTo s (k + 1) = numTo s k * 10 + (s[k].toNat - 48)) := by
            show numTo s (k + 1) = _
            rw [numTo, getD_byte hlt]
          have hc8 : s[k].toNat < 256 := s[k].toNat_lt
          generalize numTo s k = nk at hn7 HS
          by_cases h5 : ((s[k].toNat : Nat) : Int) < 48
          · go_wp2
            go_ret
            have e : digitsB s = false := digitsB_false hlt (by simp [digB]; omega)
            rw [e]
            exact ⟨rfl, rfl⟩
          · by_cases h6 : (57 : Int) < ((s[k].toNat : Nat) : Int)
            · go_wp2
              go_ret
              have e : digitsB s = false := digitsB_false hlt (by simp [digB]; omega)
              rw [e]
              exact ⟨rfl, rfl⟩
            · go_wp2
              go_round
              case rel => exact ⟨k + 1, by omega, by go_num, by rw [HS.out]; congr 1; omega, fun j hj hjk => if h : j = k then by subst h; rw [digB_iff]; omega else HA.out j hj (by omega)⟩
              case measure => simp [intOf]; omega
        · have HT : Hid (digitsB s = true) := digitsB_true fun j hj => HA.out j hj (by omega)
          have HK : Hid (k = s.size) := by show k = s.size; omega
          go_wp2
          go_ret
          rw [HT.out, HK.out]
          exact ⟨rfl, rfl⟩
  · have e : decB s = false := by simp [decB, hl]
    have h3 : (1 : Int) < s.size := by
      have : 1 < s.size := by simp [leadB] at hl; exact hl.1
      omega
    have h4 : (((s[0].toNat : Nat) : Int) == 48) = true := by
      rw [u8_zero]
      simp only [leadB, Bool.and_eq_true, getD_byte hz] at hl
      exact hl.2
    rw [e]; clear e hl hin
    go_enter Try.func85, Try.ntmps85
    go_wp2_with fail
    refine (l1In_any _ _ _ _).mono ?_
    rw [HI.out]
    rintro e w' ⟨rfl, rfl⟩
    go_wp2
    go_ret
    exact ⟨rfl, rfl⟩
end Go.Proofs.Ytfjblenkcfdbiaa
