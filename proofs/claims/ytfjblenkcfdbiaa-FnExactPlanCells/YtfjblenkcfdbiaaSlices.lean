
/-
  Lists of kinds and of points: sizes, copies, comparisons.
-/
import Derived.Test.YtfjblenkcfdbiaaTri
import Derived.Deep.MidRow
import Derived.Deep.RegionHeld3
namespace Go.Proofs.Ytfjblenkcfdbiaa
open Go.RowKit

set_option maxHeartbeats 800000 in
theorem szKinds_any (v : Value) (l : List Tri) (left : Int) (w : World) (hv : TrisAt w v l) (hs : ∀ t ∈ l, t.s.size ≤ maxLen) (hl : 0 ≤ left) (hl' : left ≤ 1048576) :
    Calls Try.prog 37 #[v, .int .i64 left] w fun e w' => e = .returned (.int .i64 (szR (szTris l) left)) ∧ Below w.heap.size w w' := by
  have hv0 := hv
  obtain ⟨a, cap, rfl, hlc, hcm, hc⟩ := hv
  unfold maxLen at hcm
  by_cases hn : left - (l.length : Int) < 0
  · rw [szR_neg (by unfold szTris; omega)]
    clear hc
    go_enter Try.func37, Try.ntmps37
    go_wp2
    go_ret
    exact ⟨rfl, Below.refl _ _⟩
  · have HC : Hid (∀ i t, l[i]? = some t → ∃ b off, a = some ⟨b, off, none⟩ ∧
      w.cell? ⟨b, off + i * 3, none⟩ = some (.string t.s) ∧ w.cell? ⟨b, off + i * 3 + 1, none⟩ = some (.int .i64 t.x) ∧ w.cell? ⟨b, off + i * 3 + 2, none⟩ = some (.int .i64 t.y)) := hc
    have HS : Hid (∀ t ∈ l, t.s.size ≤ maxLen) := hs
    clear hc hs hv0
    go_enter Try.func37, Try.ntmps37
    go_wp2
    go_loopw [1, 5] (fun lf i w' => ∃ k : Nat, k ≤ l.length ∧ i = .int .i64 k ∧ lf = .int .i64 (left - l.length - sumS (l.take k)) ∧ 0 ≤ left - l.length - sumS (l.take k) ∧ Below w.heap.size w w') (fun _ i _ => l.length - (intOf i).toNat)
    case atStart => exact ⟨0, Nat.zero_le _, rfl, by simp [sumS], by simp [sumS]; omega, Below.refl _ _⟩
    case round =>
      obtain ⟨k, hk, rfl, rfl, hge, hb⟩ := hrel
      by_cases hlt : k < l.length
      · obtain ⟨b, off, rfl, c0, c1, c2⟩ := HC.out k l[k] (by simp [hlt])
        have d0 := cell_keep hb (Nat.le_refl _) c0
        have d1 := cell_keep hb (Nat.le_refl _) c1
        have d2 := cell_keep hb (Nat.le_refl _) c2
        have HT : Hid (sumS (l.take (k + 1)) = sumS (l.take k) + (l[k]).s.size) := sumS_take_succ l k hlt
        have HT' : Hid (sumS (l.take (k + 1)) ≤ sumS l) := sumS_take_le l (k + 1)
        have hsk : (l[k]).s.size ≤ maxLen := HS.out _ (List.getElem_mem hlt)
        clear c0 c1 c2 HC HS
        generalize l[k] = t at *
        have hq : 0 ≤ (sumS (l.take k) : Int) := by omega
        generalize hsum : sumS (l.take k) = sk at *
        have HQ : Hid (sumS (l.take k) = sk) := hsum
        clear hsum
        go_wp2_with fail
        refine (szKind_any t _ _ hsk (by omega) (by omega)).mono ?_
        rintro e w1 ⟨rfl, hb1⟩
        by_cases hneg : left - (l.length : Int) - (sk : Int) - (t.s.size : Int) < 0
        · rw [szR_neg (by omega)]
          go_wp2
          go_ret
          refine ⟨ret_int (szR_neg ?_).symm, below_step hb hb1⟩
          have h1 := HT.out; have h2 := HT'.out
          unfold szTris; omega
        · rw [szR_pos (by omega)]
          have hge1 : 0 ≤ left - (l.length : Int) - (sk : Int) - (t.s.size : Int) := by omega
          go_wp2
          go_roundw
          case rel => exact ⟨k + 1, by omega, by go_num, by rw [HT.out]; congr 1; omega, by rw [HT.out]; omega, below_step hb hb1⟩
          case measure => simp [intOf]; omega
      · go_wp2
        go_ret
        refine ⟨ret_int ?_, hb⟩
        rw [List.take_of_length_le (by omega)] at hge ⊢
        rw [szR_pos (by unfold szTris; omega)]
        unfold szTris
        omega

set_option maxHeartbeats 800000 in
theorem eqKinds_any (v v' : Value) (l : List Tri) (w : World) (hv : TrisAt w v l) (hv' : TrisAt w v' l) :
    Calls Try.prog 45 #[v, v'] w fun e w' => e = .returned (.bool true) ∧ Below w.heap.size w w' := by
  obtain ⟨a, cap, rfl, hlc, hcm, hc⟩ := hv
  obtain ⟨a', cap', rfl, hlc', hcm', hc'⟩ := hv'
  unfold maxLen at hcm hcm'
  have HC : Hid (∀ i t, l[i]? = some t → ∃ b off, a = some ⟨b, off, none⟩ ∧
      w.cell? ⟨b, off + i * 3, none⟩ = some (.string t.s) ∧ w.cell? ⟨b, off + i * 3 + 1, none⟩ = some (.int .i64 t.x) ∧ w.cell? ⟨b, off + i * 3 + 2, none⟩ = some (.int .i64 t.y)) := hc
  have HC' : Hid (∀ i t, l[i]? = some t → ∃ b off, a' = some ⟨b, off, none⟩ ∧
      w.cell? ⟨b, off + i * 3, none⟩ = some (.string t.s) ∧ w.cell? ⟨b, off + i * 3 + 1, none⟩ = some (.int .i64 t.x) ∧ w.cell? ⟨b, off + i * 3 + 2, none⟩ = some (.int .i64 t.y)) := hc'
  clear hc hc'
  go_enter Try.func45, Try.ntmps45
  go_wp2
  go_loopw [5] (fun i w' => ∃ k : Nat, k ≤ l.length ∧ i = .int .i64 k ∧ Below w.heap.size w w') (fun i _ => l.length - (intOf i).toNat)
  case atStart => exact ⟨0, Nat.zero_le _, rfl, Below.refl _ _⟩
  case round =>
    obtain ⟨k, hk, rfl, hb⟩ := hrel
    by_cases hlt : k < l.length
    · obtain ⟨b, off, rfl, c0, c1, c2⟩ := HC.out k l[k] (by simp [hlt])
      obtain ⟨b', off', rfl, c0', c1', c2'⟩ := HC'.out k l[k] (by simp [hlt])
      have d0 := cell_keep hb (Nat.le_refl _) c0
      have d1 := cell_keep hb (Nat.le_refl _) c1
      have d2 := cell_keep hb (Nat.le_refl _) c2
      have d0' := cell_keep hb (Nat.le_refl _) c0'
      have d1' := cell_keep hb (Nat.le_refl _) c1'
      have d2' := cell_keep hb (Nat.le_refl _) c2'
      clear c0 c1 c2 c0' c1' c2' HC HC'
      generalize l[k] = t at *
      have hk0 : (0 : Int) ≤ (k : Int) := by omega
      have hk1 : (k : Int) < (l.length : Int) := by omega
      go_wp2
      go_region_held3 (fun w' => w'.cell? ⟨b, off + k * 3, none⟩ = some (.string t.s) ∧ w'.cell? ⟨b, off + k * 3 + 1, none⟩ = some (.int .i64 t.x) ∧ w'.cell? ⟨b, off + k * 3 + 2, none⟩ = some (.int .i64 t.y) ∧
          w'.cell? ⟨b', off' + k * 3, none⟩ = some (.string t.s) ∧ w'.cell? ⟨b', off' + k * 3 + 1, none⟩ = some (.int .i64 t.x) ∧ w'.cell? ⟨b', off' + k * 3 + 2, none⟩ = some (.int .i64 t.y))
        (first | (simp [*, go_sem]; done) | (refine ⟨cell_keep hb1 (by simp) ?_, cell_keep hb1 (by simp) ?_, cell_keep hb1 (by simp) ?_, cell_keep hb1 (by simp) ?_, cell_keep hb1 (by simp) ?_, cell_keep hb1 (by simp) ?_⟩ <;> simp [*, go_sem]))
        (first | (go_at_call 80; refine (eqKind_any t _).mono ?_; rintro e w1 ⟨rfl, hb1⟩))
      go_wp2
      exact ⟨⟨k + 1, by omega, by go_num, below_step hb.drew hb1⟩, by simp [intOf]; omega⟩
    · go_wp2
      go_ret
      exact ⟨rfl, hb⟩
set_option maxHeartbeats 800000 in
theorem szPoints_any (v : Value) (l : List Tri) (left : Int) (w : World) (hv : TrisAt w v l) (hs : ∀ t ∈ l, t.s.size ≤ maxLen) (hl : 0 ≤ left) (hl' : left ≤ 1048576) :
    Calls Try.prog 38 #[v, .int .i64 left] w fun e w' => e = .returned (.int .i64 (szR (szTris l) left)) ∧ Below w.heap.size w w' := by
  have hv0 := hv
  obtain ⟨a, cap, rfl, hlc, hcm, hc⟩ := hv
  unfold maxLen at hcm
  by_cases hn : left - (l.length : Int) < 0
  · rw [szR_neg (by unfold szTris; omega)]
    clear hc
    go_enter Try.func38, Try.ntmps38
    go_wp2
    go_ret
    exact ⟨rfl, Below.refl _ _⟩
  · have HC : Hid (∀ i t, l[i]? = some t → ∃ b off, a = some ⟨b, off, none⟩ ∧
      w.cell? ⟨b, off + i * 3, none⟩ = some (.string t.s) ∧ w.cell? ⟨b, off + i * 3 + 1, none⟩ = some (.int .i64 t.x) ∧ w.cell? ⟨b, off + i * 3 + 2, none⟩ = some (.int .i64 t.y)) := hc
    have HS : Hid (∀ t ∈ l, t.s.size ≤ maxLen) := hs
    clear hc hs hv0
    go_enter Try.func38, Try.ntmps38
    go_wp2
    go_loopw [1, 5] (fun lf i w' => ∃ k : Nat, k ≤ l.length ∧ i = .int .i64 k ∧ lf = .int .i64 (left - l.length - sumS (l.take k)) ∧ 0 ≤ left - l.length - sumS (l.take k) ∧ Below w.heap.size w w') (fun _ i _ => l.length - (intOf i).toNat)
    case atStart => exact ⟨0, Nat.zero_le _, rfl, by simp [sumS], by simp [sumS]; omega, Below.refl _ _⟩
    case round =>
      obtain ⟨k, hk, rfl, rfl, hge, hb⟩ := hrel
      by_cases hlt : k < l.length
      · obtain ⟨b, off, rfl, c0, c1, c2⟩ := HC.out k l[k] (by simp [hlt])
        have d0 := cell_keep hb (Nat.le_refl _) c0
        have d1 := cell_keep hb (Nat.le_refl _) c1
        have d2 := cell_keep hb (Nat.le_refl _) c2
        have HT : Hid (sumS (l.take (k + 1)) = sumS (l.take k) + (l[k]).s.size) := sumS_take_succ l k hlt
        have HT' : Hid (sumS (l.take (k + 1)) ≤ sumS l) := sumS_take_le l (k + 1)
        have hsk : (l[k]).s.size ≤ maxLen := HS.out _ (List.getElem_mem hlt)
        clear c0 c1 c2 HC HS
        generalize l[k] = t at *
        have hq : 0 ≤ (sumS (l.take k) : Int) := by omega
        generalize hsum : sumS (l.take k) = sk at *
        have HQ : Hid (sumS (l.take k) = sk) := hsum
        clear hsum
        go_wp2_with fail
        refine (szPoint_any t _ _ hsk (by omega) (by omega)).mono ?_
        rintro e w1 ⟨rfl, hb1⟩
        by_cases hneg : left - (l.length : Int) - (sk : Int) - (t.s.size : Int) < 0
        · rw [szR_neg (by omega)]
          go_wp2
          go_ret
          refine ⟨ret_int (szR_neg ?_).symm, below_step hb hb1⟩
          have h1 := HT.out; have h2 := HT'.out
          unfold szTris; omega
        · rw [szR_pos (by omega)]
          have hge1 : 0 ≤ left - (l.length : Int) - (sk : Int) - (t.s.size : Int) := by omega
          go_wp2
          go_roundw
          case rel => exact ⟨k + 1, by omega, by go_num, by rw [HT.out]; congr 1; omega, by rw [HT.out]; omega, below_step hb hb1⟩
          case measure => simp [intOf]; omega
      · go_wp2
        go_ret
        refine ⟨ret_int ?_, hb⟩
        rw [List.take_of_length_le (by omega)] at hge ⊢
        rw [szR_pos (by unfold szTris; omega)]
        unfold szTris
        omega

set_option maxHeartbeats 800000 in
theorem eqPoints_any (v v' : Value) (l : List Tri) (w : World) (hv : TrisAt w v l) (hv' : TrisAt w v' l) :
    Calls Try.prog 46 #[v, v'] w fun e w' => e = .returned (.bool true) ∧ Below w.heap.size w w' := by
  obtain ⟨a, cap, rfl, hlc, hcm, hc⟩ := hv
  obtain ⟨a', cap', rfl, hlc', hcm', hc'⟩ := hv'
  unfold maxLen at hcm hcm'
  have HC : Hid (∀ i t, l[i]? = some t → ∃ b off, a = some ⟨b, off, none⟩ ∧
      w.cell? ⟨b, off + i * 3, none⟩ = some (.string t.s) ∧ w.cell? ⟨b, off + i * 3 + 1, none⟩ = some (.int .i64 t.x) ∧ w.cell? ⟨b, off + i * 3 + 2, none⟩ = some (.int .i64 t.y)) := hc
  have HC' : Hid (∀ i t, l[i]? = some t → ∃ b off, a' = some ⟨b, off, none⟩ ∧
      w.cell? ⟨b, off + i * 3, none⟩ = some (.string t.s) ∧ w.cell? ⟨b, off + i * 3 + 1, none⟩ = some (.int .i64 t.x) ∧ w.cell? ⟨b, off + i * 3 + 2, none⟩ = some (.int .i64 t.y)) := hc'
  clear hc hc'
  go_enter Try.func46, Try.ntmps46
  go_wp2
  go_loopw [5] (fun i w' => ∃ k : Nat, k ≤ l.length ∧ i = .int .i64 k ∧ Below w.heap.size w w') (fun i _ => l.length - (intOf i).toNat)
  case atStart => exact ⟨0, Nat.zero_le _, rfl, Below.refl _ _⟩
  case round =>
    obtain ⟨k, hk, rfl, hb⟩ := hrel
    by_cases hlt : k < l.length
    · obtain ⟨b, off, rfl, c0, c1, c2⟩ := HC.out k l[k] (by simp [hlt])
      obtain ⟨b', off', rfl, c0', c1', c2'⟩ := HC'.out k l[k] (by simp [hlt])
      have d0 := cell_keep hb (Nat.le_refl _) c0
      have d1 := cell_keep hb (Nat.le_refl _) c1
      have d2 := cell_keep hb (Nat.le_refl _) c2
      have d0' := cell_keep hb (Nat.le_refl _) c0'
      have d1' := cell_keep hb (Nat.le_refl _) c1'
      have d2' := cell_keep hb (Nat.le_refl _) c2'
      clear c0 c1 c2 c0' c1' c2' HC HC'
      generalize l[k] = t at *
      have hk0 : (0 : Int) ≤ (k : Int) := by omega
      have hk1 : (k : Int) < (l.length : Int) := by omega
      go_wp2
      go_region_held3 (fun w' => w'.cell? ⟨b, off + k * 3, none⟩ = some (.string t.s) ∧ w'.cell? ⟨b, off + k * 3 + 1, none⟩ = some (.int .i64 t.x) ∧ w'.cell? ⟨b, off + k * 3 + 2, none⟩ = some (.int .i64 t.y) ∧
          w'.cell? ⟨b', off' + k * 3, none⟩ = some (.string t.s) ∧ w'.cell? ⟨b', off' + k * 3 + 1, none⟩ = some (.int .i64 t.x) ∧ w'.cell? ⟨b', off' + k * 3 + 2, none⟩ = some (.int .i64 t.y))
        (first | (simp [*, go_sem]; done) | (refine ⟨cell_keep hb1 (by simp) ?_, cell_keep hb1 (by simp) ?_, cell_keep hb1 (by simp) ?_, cell_keep hb1 (by simp) ?_, cell_keep hb1 (by simp) ?_, cell_keep hb1 (by simp) ?_⟩ <;> simp [*, go_sem]))
        (first | (go_at_call 81; refine (eqPoint_any t _).mono ?_; rintro e w1 ⟨rfl, hb1⟩))
      go_wp2
      exact ⟨⟨k + 1, by omega, by go_num, below_step hb.drew hb1⟩, by simp [intOf]; omega⟩
    · go_wp2
      go_ret
      exact ⟨rfl, hb⟩
end Go.Proofs.Ytfjblenkcfdbiaa
