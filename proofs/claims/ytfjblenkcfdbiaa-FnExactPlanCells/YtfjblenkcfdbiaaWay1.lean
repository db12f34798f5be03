
/-
  The small functions of legs, on both sides.
-/
import Derived.Test.YtfjblenkcfdbiaaLeaf
import Derived.Test.YtfjblenkcfdbiaaLater
import Derived.Test.YtfjblenkcfdbiaaApp
import Derived.Test.YtfjblenkcfdbiaaWay0
import Derived.Deep.RegionHeld3
import Derived.Laws.CopyOwn
namespace Go.Proofs.Ytfjblenkcfdbiaa
open Go.RowKit
set_option linter.unusedSimpArgs false
set_option linter.unusedVariables false

/-- Cells on the field. -/
def Cel.In (c : Cel) : Prop := (0 ≤ c.x ∧ c.x ≤ 15) ∧ 0 ≤ c.y ∧ c.y ≤ 15
theorem legN_le {a b : Cel} (ha : a.In) (hb : b.In) : legN a b ≤ 15 := by
  obtain ⟨⟨h1, h2⟩, h3, h4⟩ := ha
  obtain ⟨⟨k1, k2⟩, k3, k4⟩ := hb
  unfold legN maxI absI
  split <;> split <;> split <;> omega

set_option maxHeartbeats 400000 in
theorem apart_any (a b : Int) (w : World) (ha : -100 ≤ a ∧ a ≤ 100) (hb : -100 ≤ b ∧ b ≤ 100) :
    Calls Try.prog 113 #[.int .i64 a, .int .i64 b] w fun e w' => e = .returned (.int .i64 (absI (a - b))) ∧ w' = w := by
  obtain ⟨h1, h2⟩ := ha
  obtain ⟨h3, h4⟩ := hb
  rcases (show a - b < b - a ∨ ¬ a - b < b - a by omega) with h | h
  · have e : absI (a - b) = b - a := by unfold absI; split <;> omega
    rw [e]; clear e
    have h5 : ¬ b - a < a - b := by omega
    go_enter Try.func113, Try.ntmps113
    go_wp2
    go_ret
    exact ⟨rfl, rfl⟩
  · have e : absI (a - b) = a - b := by unfold absI; split <;> omega
    rw [e]; clear e
    go_enter Try.func113, Try.ntmps113
    go_wp2
    all_goals (go_ret; exact ⟨ret_int (by omega), rfl⟩)
set_option maxHeartbeats 800000 in
theorem partWay_any (f t k n : Int) (w : World) (hf : 0 ≤ f ∧ f ≤ 15) (ht : 0 ≤ t ∧ t ≤ 15) (hk : 0 ≤ k) (hkn : k ≤ n) (hn : 1 ≤ n) (hn' : n ≤ 15) :
    Calls Try.prog 114 #[.int .i64 f, .int .i64 t, .int .i64 k, .int .i64 n] w fun e w' => e = .returned (.int .i64 (partW f t k n)) ∧ w' = w := by
  obtain ⟨h1, h2⟩ := hf
  obtain ⟨h3, h4⟩ := ht
  have hp := partW_pos f t k n h1 h3 hk hkn
  have HT : Hid ((2 * (f * n + (t - f) * k) + n).tdiv (2 * n) = partW f t k n) := partW_tdiv f t k n h1 h3 hk hkn
  have a1 : 0 ≤ f * n := Int.mul_nonneg h1 (by omega)
  have a2 : f * n ≤ 15 * 15 := Int.mul_le_mul h2 hn' (by omega) (by omega)
  have b1 : (t - f) * k ≤ 15 * 15 := by
    rcases (show 0 ≤ t - f ∨ t - f ≤ 0 by omega) with h | h
    · exact Int.mul_le_mul (by omega) (by omega) hk (by omega)
    · have := Int.mul_nonneg (show 0 ≤ f - t by omega) hk
      have e : (t - f) * k = - ((f - t) * k) := by rw [← Int.neg_mul]; congr 1; omega
      omega
  have b2 : - (15 * 15) ≤ (t - f) * k := by
    rcases (show 0 ≤ t - f ∨ t - f ≤ 0 by omega) with h | h
    · have := Int.mul_nonneg h hk
      omega
    · have h9 : (f - t) * k ≤ 15 * 15 := Int.mul_le_mul (by omega) (by omega) hk (by omega)
      have e : (t - f) * k = - ((f - t) * k) := by rw [← Int.neg_mul]; congr 1; omega
      omega
  have hz : 2 * n ≠ 0 := by omega
  have hz2 : ¬ n = 0 := by omega
  go_enter Try.func114, Try.ntmps114
  go_wp2
  go_ret
  exact ⟨rfl, rfl⟩
set_option maxHeartbeats 400000 in
theorem lesser_any (a b : Cel) (w : World) :
    Calls Try.prog 108 #[.agg #[.int .i64 a.x, .int .i64 a.y], .agg #[.int .i64 b.x, .int .i64 b.y]] w fun e w' => e = .returned (.bool (lesser a b)) ∧ Below w.heap.size w w' := by
  obtain ⟨ax, ay⟩ := a
  obtain ⟨bx, bY⟩ := b
  have HB : Hid (Below w.heap.size w ((w.alloc (.cells #[.int .i64 ax, .int .i64 ay] 97)).alloc (.cells #[.int .i64 bx, .int .i64 bY] 97))) := ((Below.refl _ _).alloc (Nat.le_refl _) _).alloc (by simp) _
  dsimp only
  by_cases h : ax = bx
  · have HE : Hid (lesser ⟨ax, ay⟩ ⟨bx, bY⟩ = decide (ay < bY)) := by show _ = _; unfold lesser; rw [if_pos h]
    have hq : (ax != bx) = false := by simp [h]
    clear h
    go_enter Try.func108, Try.ntmps108
    go_wp2
    go_ret
    exact ⟨ret_bool HE.out.symm, HB.out⟩
  · have HE : Hid (lesser ⟨ax, ay⟩ ⟨bx, bY⟩ = decide (ax < bx)) := by show _ = _; unfold lesser; rw [if_neg h]
    have hq : (ax != bx) = true := by simp [h]
    clear h
    go_enter Try.func108, Try.ntmps108
    go_wp2
    go_ret
    exact ⟨ret_bool HE.out.symm, HB.out⟩
set_option maxHeartbeats 400000 in
theorem l7Abs_any (n : Int) (w : World) (hn : -1000 ≤ n ∧ n ≤ 1000) :
    Calls Try.prog 95 #[.int .i64 n] w fun e w' => e = .returned (.int .i64 (absI n)) ∧ w' = w := by
  obtain ⟨h1, h2⟩ := hn
  by_cases h : n < 0
  · have e : absI n = -n := by unfold absI; rw [if_pos h]
    rw [e]; clear e
    go_enter Try.func95, Try.ntmps95
    go_wp2
    go_ret
    exact ⟨ret_int (by first | rfl | omega), rfl⟩
  · have e : absI n = n := by unfold absI; rw [if_neg h]
    rw [e]; clear e
    go_enter Try.func95, Try.ntmps95
    go_wp2
    go_ret
    exact ⟨rfl, rfl⟩
set_option maxHeartbeats 400000 in
theorem l7Max_any (a b : Int) (w : World) :
    Calls Try.prog 94 #[.int .i64 a, .int .i64 b] w fun e w' => e = .returned (.int .i64 (maxI a b)) ∧ w' = w := by
  by_cases h : b < a
  · have e : maxI a b = a := by unfold maxI; rw [if_pos h]
    rw [e]; clear e
    go_enter Try.func94, Try.ntmps94
    go_wp2
    go_ret
    exact ⟨rfl, rfl⟩
  · have e : maxI a b = b := by unfold maxI; rw [if_neg h]
    rw [e]; clear e
    go_enter Try.func94, Try.ntmps94
    go_wp2
    go_ret
    exact ⟨rfl, rfl⟩
set_option maxHeartbeats 800000 in
theorem l7Part_any (d k n : Int) (w : World) (hd : -15 ≤ d ∧ d ≤ 15) (hk : 0 ≤ k) (hkn : k ≤ n) (hn : 1 ≤ n) (hn' : n ≤ 15) :
    Calls Try.prog 96 #[.int .i64 d, .int .i64 k, .int .i64 n] w fun e w' => e = .returned (.int .i64 (partS d k n)) ∧ w' = w := by
  obtain ⟨h1, h2⟩ := hd
  obtain ⟨v, hv⟩ : ∃ v, v = 2 * k * d + n := ⟨_, rfl⟩
  have HE : Hid (partS d k n = partC v n) := by show _ = _; rw [hv, partC_eq _ _ (by omega)]; rfl
  have b1 : 2 * k * d ≤ 2 * 15 * 15 := by
    rcases (show 0 ≤ d ∨ d ≤ 0 by omega) with h | h
    · exact Int.mul_le_mul (by omega) (by omega) h (by omega)
    · have := Int.mul_nonneg (show 0 ≤ 2 * k by omega) (show 0 ≤ -d by omega)
      have e : 2 * k * d = - (2 * k * (-d)) := by rw [Int.mul_neg]; omega
      omega
  have b2 : - (2 * 15 * 15) ≤ 2 * k * d := by
    rcases (show 0 ≤ d ∨ d ≤ 0 by omega) with h | h
    · have := Int.mul_nonneg (show 0 ≤ 2 * k by omega) h
      omega
    · have h9 : 2 * k * (-d) ≤ 2 * 15 * 15 := Int.mul_le_mul (by omega) (by omega) (by omega) (by omega)
      have e : 2 * k * d = - (2 * k * (-d)) := by rw [Int.mul_neg]; omega
      omega
  have hz2 : ¬ n = 0 := by omega
  have hvb : v.natAbs ≤ 465 := by omega
  have hqb : (v.tdiv (2 * n)).natAbs ≤ v.natAbs := Int.natAbs_tdiv_le_natAbs v (2 * n)
  obtain ⟨q, hq⟩ : ∃ q, q = v.tdiv (2 * n) := ⟨_, rfl⟩
  have hC : partC v n = if v < 0 ∧ q * 2 * n ≠ v then q - 1 else q := by unfold partC; rw [← hq]
  rw [← hq] at hqb
  have q1 : -465 ≤ q := by omega
  have q2 : q ≤ 465 := by omega
  have m1 : q * 2 * n ≤ 930 * 15 := by
    rcases (show 0 ≤ q ∨ q ≤ 0 by omega) with h | h
    · exact Int.mul_le_mul (by omega) hn' (by omega) (by omega)
    · have := Int.mul_nonneg (show 0 ≤ -(q * 2) by omega) (show 0 ≤ n by omega)
      rw [Int.neg_mul] at this
      omega
  have m2 : - (930 * 15) ≤ q * 2 * n := by
    rcases (show 0 ≤ q ∨ q ≤ 0 by omega) with h | h
    · have := Int.mul_nonneg (show 0 ≤ q * 2 by omega) (show 0 ≤ n by omega)
      omega
    · have h9 : (-(q * 2)) * n ≤ 930 * 15 := Int.mul_le_mul (by omega) hn' (by omega) (by omega)
      rw [Int.neg_mul] at h9
      omega
  have hqv : (2 * k * d + n).tdiv (2 * n) = q := by rw [← hv, hq]
  clear hvb hqb hq
  by_cases hv0 : v < 0
  · have hv1 : 2 * k * d + n < 0 := by omega
    by_cases hne : q * 2 * n = v
    · have HC : Hid (partS d k n = q) := by show _ = _; rw [HE.out, hC, if_neg (by simp [hne])]
      have hb : (q * 2 * n != 2 * k * d + n) = false := by simp; omega
      clear hC hne hv
      go_enter Try.func96, Try.ntmps96
      go_wp2
      go_ret
      exact ⟨ret_int HC.out.symm, rfl⟩
    · have HC : Hid (partS d k n = q - 1) := by show _ = _; rw [HE.out, hC, if_pos ⟨hv0, hne⟩]
      have hb : (q * 2 * n != 2 * k * d + n) = true := by simp; omega
      clear hC hne hv
      go_enter Try.func96, Try.ntmps96
      go_wp2
      go_ret
      exact ⟨ret_int HC.out.symm, rfl⟩
  · have hv1 : ¬ 2 * k * d + n < 0 := by omega
    have HC : Hid (partS d k n = q) := by show _ = _; rw [HE.out, hC, if_neg (by omega)]
    clear hC hv
    go_enter Try.func96, Try.ntmps96
    go_wp2
    go_ret
    exact ⟨ret_int (by rw [HC.out]), rfl⟩
end Go.Proofs.Ytfjblenkcfdbiaa
