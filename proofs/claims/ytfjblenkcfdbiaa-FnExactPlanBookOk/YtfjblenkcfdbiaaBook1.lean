
/-
  The law's own functions over fields: sizes, copies, comparisons.
-/
import Derived.Test.YtfjblenkcfdbiaaBookB
import Derived.Deep.MidRow
import Derived.Deep.RegionHeld3
namespace Go.Proofs.Ytfjblenkcfdbiaa
open Go.RowKit

set_option maxHeartbeats 400000 in
theorem szField_any (f : Fld) (left : Int) (w : World) (hs : f.v.size ≤ maxLen) (hl : 0 ≤ left) (hl' : left ≤ 1048576) :
    Calls Try.prog 110 #[.agg #[.int .i64 f.what, .int .i64 f.num, .string f.v], .int .i64 left] w fun e w' => e = .returned (.int .i64 (szR f.v.size left)) ∧ Below w.heap.size w w' := by
  unfold maxLen at hs
  by_cases h : left - (f.v.size : Int) < 0
  · rw [szR_neg (by omega)]
    go_enter Try.func110, Try.ntmps110
    go_wp2
    go_ret
    exact ⟨rfl, (Below.refl _ _).alloc (Nat.le_refl _) _⟩
  · rw [szR_pos (by omega)]
    go_enter Try.func110, Try.ntmps110
    go_wp2
    go_ret
    exact ⟨rfl, (Below.refl _ _).alloc (Nat.le_refl _) _⟩

set_option maxHeartbeats 400000 in
theorem toField_any (f : Fld) (w : World) :
    Calls Try.prog 111 #[.agg #[.int .i64 f.what, .int .i64 f.num, .string f.v]] w fun e w' => e = .returned (.agg #[.int .i64 f.what, .int .i64 f.num, .string f.v]) ∧ Below w.heap.size w w' := by
  go_enter Try.func111, Try.ntmps111
  go_wp2
  exact bodyPost_ret (v := .agg #[.int .i64 f.what, .int .i64 f.num, .string f.v]) (by simp [results, Try.results111, go_sem]) rfl ⟨rfl, (((Below.refl _ _).alloc (Nat.le_refl _) _).alloc (by simp) _).alloc (by simp; omega) _⟩

set_option maxHeartbeats 400000 in
theorem eqField_any (f : Fld) (w : World) :
    Calls Try.prog 112 #[.agg #[.int .i64 f.what, .int .i64 f.num, .string f.v], .agg #[.int .i64 f.what, .int .i64 f.num, .string f.v]] w fun e w' => e = .returned (.bool true) ∧ Below w.heap.size w w' := by
  go_enter Try.func112, Try.ntmps112
  go_wp2
  all_goals go_ret
  all_goals exact ⟨rfl, ((Below.refl _ _).alloc (Nat.le_refl _) _).alloc (by simp) _⟩

set_option maxHeartbeats 800000 in
theorem szFields_any (v : Value) (l : List Fld) (left : Int) (w : World) (hv : FldsAt w v l) (hs : FNames l) (hl : 0 ≤ left) (hl' : left ≤ 1048576) :
    Calls Try.prog 103 #[v, .int .i64 left] w fun e w' => e = .returned (.int .i64 (szR (szFlds l) left)) ∧ Below w.heap.size w w' := by
  obtain ⟨a, cap, rfl, hlc, hcm, hc⟩ := hv
  unfold maxLen at hcm
  by_cases hn : left - (l.length : Int) < 0
  · rw [szR_neg (by unfold szFlds; omega)]
    clear hc
    go_enter Try.func103, Try.ntmps103
    go_wp2
    go_ret
    exact ⟨rfl, Below.refl _ _⟩
  · have HC : Hid (∀ i f, l[i]? = some f → ∃ b off, a = some ⟨b, off, none⟩ ∧ FldAt w b (off + i * 3) f) := hc
    have HS : Hid (FNames l) := hs
    clear hc hs
    have HT' : Hid (∀ k, sumN (fun f : Fld => f.v.size) (l.take k) ≤ sumN (fun f => f.v.size) l) := fun k => sumN_take_le _ l k
    go_enter Try.func103, Try.ntmps103
    go_wp2
    go_loopw [1, 5] (fun lf i w' => ∃ k s : Nat, k ≤ l.length ∧ i = .int .i64 k ∧ Hid (sumN (fun f : Fld => f.v.size) (l.take k) = s) ∧ lf = .int .i64 (left - l.length - s) ∧ 0 ≤ left - l.length - s ∧ Below w.heap.size w w') (fun _ i _ => l.length - (intOf i).toNat)
    case atStart => exact ⟨0, 0, Nat.zero_le _, rfl, rfl, by simp, by simp; omega, Below.refl _ _⟩
    case round =>
      obtain ⟨k, sk, hk, rfl, HQ, rfl, hge, hb⟩ := hrel
      by_cases hlt : k < l.length
      · obtain ⟨b, off, rfl, hc⟩ := HC.out k _ (fat_get hlt)
        obtain ⟨d0, d1, d2⟩ := hc.keep hb (Nat.le_refl _)
        have HT : Hid (sumN (fun f : Fld => f.v.size) (l.take (k + 1)) = sk + (fat l k).v.size) := by
          show _ = _
          rw [sumN_take_succ _ l k _ (fat_get hlt), HQ.out]
        have hsk : (fat l k).v.size ≤ maxLen := HS.out _ (List.mem_of_getElem? (fat_get hlt))
        clear hc HC HS
        generalize fat l k = t at *
        go_wp2_with fail
        refine (szField_any t _ _ hsk (by omega) (by omega)).mono ?_
        rintro e w1 ⟨rfl, hb1⟩
        by_cases hneg : left - (l.length : Int) - (sk : Int) - (t.v.size : Int) < 0
        · rw [szR_neg (by omega)]
          go_wp2
          go_ret
          refine ⟨ret_int (szR_neg ?_).symm, below_step hb hb1⟩
          have h1 := HT.out; have h2 := HT'.out (k + 1)
          unfold szFlds; omega
        · rw [szR_pos (by omega)]
          have hge1 : 0 ≤ left - (l.length : Int) - (sk : Int) - (t.v.size : Int) := by omega
          go_wp2
          go_roundw
          case rel => exact ⟨k + 1, sk + t.v.size, by omega, by go_num, HT, by congr 1; omega, by omega, below_step hb hb1⟩
          case measure => simp [intOf]; omega
      · go_wp2
        go_ret
        refine ⟨ret_int ?_, hb⟩
        have h1 := HQ.out
        rw [List.take_of_length_le (by omega)] at h1
        rw [szR_pos (by unfold szFlds; omega)]
        unfold szFlds
        omega

set_option maxHeartbeats 800000 in
theorem eqFields_any (v v' : Value) (l : List Fld) (w : World) (hv : FldsAt w v l) (hv' : FldsAt w v' l) :
    Calls Try.prog 105 #[v, v'] w fun e w' => e = .returned (.bool true) ∧ Below w.heap.size w w' := by
  obtain ⟨a, cap, rfl, hlc, hcm, hc⟩ := hv
  obtain ⟨a', cap', rfl, hlc', hcm', hc'⟩ := hv'
  unfold maxLen at hcm hcm'
  have HC : Hid (∀ i f, l[i]? = some f → ∃ b off, a = some ⟨b, off, none⟩ ∧ FldAt w b (off + i * 3) f) := hc
  have HC' : Hid (∀ i f, l[i]? = some f → ∃ b off, a' = some ⟨b, off, none⟩ ∧ FldAt w b (off + i * 3) f) := hc'
  clear hc hc'
  go_enter Try.func105, Try.ntmps105
  go_wp2
  go_loopw [5] (fun i w' => ∃ k : Nat, k ≤ l.length ∧ i = .int .i64 k ∧ Below w.heap.size w w') (fun i _ => l.length - (intOf i).toNat)
  case atStart => exact ⟨0, Nat.zero_le _, rfl, Below.refl _ _⟩
  case round =>
    obtain ⟨k, hk, rfl, hb⟩ := hrel
    by_cases hlt : k < l.length
    · obtain ⟨b, off, rfl, hc⟩ := HC.out k _ (fat_get hlt)
      obtain ⟨b', off', rfl, hc'⟩ := HC'.out k _ (fat_get hlt)
      obtain ⟨d0, d1, d2⟩ := hc.keep hb (Nat.le_refl _)
      obtain ⟨d0', d1', d2'⟩ := hc'.keep hb (Nat.le_refl _)
      clear hc hc' HC HC'
      generalize fat l k = t at *
      have hk0 : (0 : Int) ≤ (k : Int) := by omega
      have hk1 : (k : Int) < (l.length : Int) := by omega
      go_wp2
      go_region_held3 (fun w' => w'.cell? ⟨b, off + k * 3, none⟩ = some (.int .i64 t.what) ∧ w'.cell? ⟨b, off + k * 3 + 1, none⟩ = some (.int .i64 t.num) ∧ w'.cell? ⟨b, off + k * 3 + 2, none⟩ = some (.string t.v) ∧
          w'.cell? ⟨b', off' + k * 3, none⟩ = some (.int .i64 t.what) ∧ w'.cell? ⟨b', off' + k * 3 + 1, none⟩ = some (.int .i64 t.num) ∧ w'.cell? ⟨b', off' + k * 3 + 2, none⟩ = some (.string t.v))
        (first | (simp [*, go_sem]; done) | (refine ⟨cell_keep hb1 (by simp) ?_, cell_keep hb1 (by simp) ?_, cell_keep hb1 (by simp) ?_, cell_keep hb1 (by simp) ?_, cell_keep hb1 (by simp) ?_, cell_keep hb1 (by simp) ?_⟩ <;> simp [*, go_sem]))
        (first | (go_at_call 112; refine (eqField_any t _).mono ?_; rintro e w1 ⟨rfl, hb1⟩))
      go_wp2
      exact ⟨⟨k + 1, by omega, by go_num, below_step hb.drew hb1⟩, by simp [intOf]; omega⟩
    · go_wp2
      go_ret
      exact ⟨rfl, hb⟩
end Go.Proofs.Ytfjblenkcfdbiaa
