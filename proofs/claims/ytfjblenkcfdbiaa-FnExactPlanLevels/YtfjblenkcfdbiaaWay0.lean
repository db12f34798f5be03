
/-
  Plain facts, no Go in sight: the cells of a leg, from both ends; levels.
-/
import Derived.WalkKit
namespace Go.Proofs.Ytfjblenkcfdbiaa
open Go.RowKit
set_option linter.unusedVariables false

/-- A cell. -/
structure Cel where
  x : Int
  y : Int
deriving DecidableEq

/-- The whole number that k of n parts of d are nearest to, a half upward. -/
def partS (d k n : Int) : Int := (2 * k * d + n) / (2 * n)
/-- The place itself, rounded. -/
def partW (f t k n : Int) : Int := (2 * (f * n + (t - f) * k) + n) / (2 * n)
theorem partW_eq (f t k n : Int) (hn : 0 < n) : partW f t k n = f + partS (t - f) k n := by
  unfold partW partS
  have e : 2 * (f * n + (t - f) * k) + n = (2 * k * (t - f) + n) + f * (2 * n) := by
    rw [Int.mul_add, ← Int.mul_assoc 2 f n, Int.mul_comm 2 f, Int.mul_assoc f 2 n]
    rw [show 2 * ((t - f) * k) = 2 * k * (t - f) by rw [Int.mul_comm (t - f) k, Int.mul_assoc]]
    omega
  rw [e, Int.add_mul_ediv_right _ _ (by omega)]
  omega
theorem partS_zero (d n : Int) (hn : 0 < n) : partS d 0 n = 0 := by
  unfold partS
  rw [show 2 * 0 * d + n = n by simp]
  exact Int.ediv_eq_zero_of_lt (by omega) (by omega)
theorem partW_zero (f t n : Int) (hn : 0 < n) : partW f t 0 n = f := by
  rw [partW_eq f t 0 n hn, partS_zero _ _ hn]; omega
/-- What is divided is not below 0. -/
theorem partW_pos (f t k n : Int) (hf : 0 ≤ f) (ht : 0 ≤ t) (hk : 0 ≤ k) (hkn : k ≤ n) : 0 ≤ 2 * (f * n + (t - f) * k) + n := by
  have h1 : 0 ≤ f * (n - k) := Int.mul_nonneg hf (by omega)
  have h2 : 0 ≤ t * k := Int.mul_nonneg ht hk
  have e : f * n + (t - f) * k = f * (n - k) + t * k := by
    rw [Int.mul_sub, Int.sub_mul]; omega
  omega
theorem partW_tdiv (f t k n : Int) (hf : 0 ≤ f) (ht : 0 ≤ t) (hk : 0 ≤ k) (hkn : k ≤ n) : (2 * (f * n + (t - f) * k) + n).tdiv (2 * n) = partW f t k n :=
  Int.tdiv_eq_ediv_of_nonneg (partW_pos f t k n hf ht hk hkn)
/-- The specification's way: cut to the side of 0, and one less below 0 if something was cut off. -/
def partC (v n : Int) : Int := if v < 0 ∧ v.tdiv (2 * n) * 2 * n ≠ v then v.tdiv (2 * n) - 1 else v.tdiv (2 * n)
theorem partC_eq (v n : Int) (hn : 0 < n) : partC v n = v / (2 * n) := by
  unfold partC
  have hq : v.tdiv (2 * n) * 2 * n = v.tdiv (2 * n) * (2 * n) := by rw [Int.mul_assoc]
  rw [hq]
  by_cases h0 : 0 ≤ v
  · rw [if_neg (by omega), Int.tdiv_eq_ediv_of_nonneg h0]
  · by_cases hd : (2 * n) ∣ v
    · rw [if_neg (by intro h; exact h.2 (Int.tdiv_mul_cancel hd)), Int.tdiv_eq_ediv_of_dvd hd]
    · rw [if_pos ⟨by omega, fun h => hd ⟨v.tdiv (2 * n), by rw [Int.mul_comm]; exact h.symm⟩⟩, Int.tdiv_eq_ediv, if_neg (by rintro (h | h); exact h0 h; exact hd h), Int.sign_eq_one_of_pos (by omega)]
      omega

def absI (n : Int) : Int := if n < 0 then -n else n
def maxI (a b : Int) : Int := if a > b then a else b
def minI (a b : Int) : Int := if a < b then a else b
/-- How many steps a leg has. -/
def legN (a b : Cel) : Int := maxI (absI (a.x - b.x)) (absI (a.y - b.y))
theorem legN_nonneg (a b : Cel) : 0 ≤ legN a b := by unfold legN maxI absI; split <;> split <;> split <;> omega
theorem legN_comm (a b : Cel) : legN a b = legN b a := by
  unfold legN maxI absI
  split <;> split <;> split <;> split <;> split <;> split <;> omega
/-- By X, then by Y. -/
def lesser (a b : Cel) : Bool := if a.x = b.x then decide (a.y < b.y) else decide (a.x < b.x)
theorem lesser_pos {a b : Cel} (h : lesser a b = true) : 0 < legN a b := by
  unfold lesser at h
  unfold legN maxI absI
  split at h <;> simp at h <;> split <;> split <;> split <;> omega
theorem lesser_swap {a b : Cel} (h : lesser a b = true) : lesser b a = false := by
  unfold lesser at h ⊢
  split at h <;> simp at h <;> split <;> simp <;> omega
theorem lesser_none {a b : Cel} (h1 : lesser a b = false) (h2 : lesser b a = false) : a = b := by
  obtain ⟨ax, ay⟩ := a
  obtain ⟨bx, bY⟩ := b
  unfold lesser at h1 h2
  simp only at h1 h2
  split at h1 <;> split at h2 <;> simp at h1 h2
  · subst_vars; congr 1; omega
  · omega
  · omega
  · omega
/-- The cell behind k steps of a leg from the lesser one. -/
def celS (a b : Cel) (k : Int) : Cel := ⟨a.x + partS (b.x - a.x) k (legN a b), a.y + partS (b.y - a.y) k (legN a b)⟩
def celW (a b : Cel) (k : Int) : Cel := ⟨partW a.x b.x k (legN a b), partW a.y b.y k (legN a b)⟩
theorem celW_eq (a b : Cel) (k : Int) (h : 0 < legN a b) : celW a b k = celS a b k := by
  unfold celW celS
  rw [partW_eq _ _ _ _ h, partW_eq _ _ _ _ h]
theorem celS_zero (a b : Cel) (h : 0 < legN a b) : celS a b 0 = a := by
  unfold celS
  rw [partS_zero _ _ h, partS_zero _ _ h]
  simp
/-- A leg from the lesser end. -/
def legU (a b : Cel) : List Cel := a :: (List.range (legN a b).toNat).map fun (k : Nat) => celS a b ((k : Int) + 1)
/-- The specification's leg. -/
def legS (a b : Cel) : List Cel := bif lesser b a then (legU b a).reverse else legU a b
/-- The cell that the program tells at its g-th call, from 0. -/
def celI (a b : Cel) (g : Nat) : Cel := bif lesser a b then celW a b ((g : Int) + 1) else celW b a (legN a b - ((g : Int) + 1))
/-- What the program tells of a leg. -/
def legI (a b : Cel) : List Cel := (List.range (legN a b).toNat).map (celI a b)
theorem legU_len (a b : Cel) : (legU a b).length = (legN a b).toNat + 1 := by simp [legU]
theorem legS_len (a b : Cel) : (legS a b).length = (legN a b).toNat + 1 := by
  unfold legS
  cases lesser b a
  · simp [legU_len]
  · simp [legU_len, legN_comm b a]
theorem legI_len (a b : Cel) : (legI a b).length = (legN a b).toNat := by simp [legI]
theorem legU_get (a b : Cel) (k : Nat) (h : 0 < legN a b) (hk : (k : Int) ≤ legN a b) : (legU a b)[k]? = some (celS a b k) := by
  cases k with
  | zero => simp [legU, celS_zero a b h]
  | succ k =>
    have : k < (legN a b).toNat := by omega
    simp [legU, this]
/-- Both ways come to the same cells. -/
theorem leg_same (a b : Cel) : (legS a b).drop 1 = legI a b := by
  cases h : lesser a b
  · cases h2 : lesser b a
    · obtain rfl := lesser_none h h2
      have h0 : legN a a = 0 := by simp [legN, maxI, absI]
      simp [legS, h2, legU, legI, h0]
    · have hp := lesser_pos h2
      have hc := legN_comm a b
      refine List.ext_getElem? fun i => ?_
      unfold legS
      rw [h2]
      simp only [cond_true, List.getElem?_drop]
      by_cases hi : i < (legN a b).toNat
      · rw [List.getElem?_reverse (by rw [legU_len, ← hc]; omega), legU_len, legU_get b a _ hp (by omega)]
        simp only [legI, List.getElem?_map, List.getElem?_range hi, Option.map_some, celI, h, cond_false]
        rw [celW_eq b a _ hp]
        congr 2
        omega
      · rw [List.getElem?_eq_none (by rw [List.length_reverse, legU_len, ← hc]; omega), List.getElem?_eq_none (by rw [legI_len]; omega)]
  · have h2 := lesser_swap h
    have hp := lesser_pos h
    unfold legS legI legU
    rw [h2]
    simp only [cond_false, List.drop_succ_cons, List.drop_zero]
    refine List.map_congr_left fun k _ => ?_
    unfold celI
    rw [h]
    exact (celW_eq a b _ hp).symm
/-- The cells along turns, leg by leg. -/
def along : List Cel → List Cel
  | [] => []
  | [a] => [a]
  | a :: b :: r => a :: (legI a b ++ (along (b :: r)).drop 1)
/-- The cells ahead of turn i. -/
def alongTo (t : Nat → Cel) : Nat → List Cel
  | 0 => []
  | 1 => [t 0]
  | i + 2 => alongTo t (i + 1) ++ legI (t i) (t (i + 1))

/-- The levels of so many steps. -/
def levelsL (n l : Int) : List Int := bif decide (1 ≤ n ∧ n ≤ 40 ∧ 1 ≤ l ∧ l ≤ 6) then (List.range n.toNat).map fun (k : Nat) => minI l (minI (k : Int) (n - 1 - (k : Int))) else []
theorem levelsL_len (n l : Int) : (levelsL n l).length ≤ 40 := by
  unfold levelsL
  by_cases h : 1 ≤ n ∧ n ≤ 40 ∧ 1 ≤ l ∧ l ≤ 6
  · rw [decide_eq_true h]; simp; omega
  · rw [decide_eq_false h]; simp
end Go.Proofs.Ytfjblenkcfdbiaa
