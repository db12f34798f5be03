
/-
  A leg: a closure that tells the next cell.
-/
import Derived.Test.YtfjblenkcfdbiaaWay1
namespace Go.Proofs.Ytfjblenkcfdbiaa
open Go.RowKit
set_option linter.unusedSimpArgs false
set_option linter.unusedVariables false

/-- A cell as a value. -/
abbrev cv (c : Cel) : Value := .agg #[.int .i64 c.x, .int .i64 c.y]
theorem heap_newW (w : World) (o : Obj) : (w.alloc o).heap[w.heap.size]? = some o := by show (w.heap.push o)[w.heap.size]? = some o; simp
theorem max_apart (a b : Cel) : legN a b = if absI (a.x - b.x) < absI (a.y - b.y) then absI (a.y - b.y) else absI (a.x - b.x) := by
  unfold legN maxI; split <;> split <;> omega

set_option maxRecDepth 100000 in
set_option maxHeartbeats 3200000 in
theorem stepsBetween_any (a b : Cel) (w : World) (ha : a.In) (hb : b.In) :
    Calls Try.prog 106 #[cv a, cv b] w fun e w' => e = .returned (.int .i64 (legN a b)) ∧ Below w.heap.size w w' := by
  obtain ⟨⟨a1, a2⟩, a3, a4⟩ := ha
  obtain ⟨⟨b1, b2⟩, b3, b4⟩ := hb
  have HB : Hid (Below w.heap.size w ((w.alloc (.cells #[.int .i64 a.x, .int .i64 a.y] 97)).alloc (.cells #[.int .i64 b.x, .int .i64 b.y] 97))) := ((Below.refl _ _).alloc (Nat.le_refl _) _).alloc (by simp) _
  have HS : Hid (((w.alloc (.cells #[.int .i64 a.x, .int .i64 a.y] 97)).alloc (.cells #[.int .i64 b.x, .int .i64 b.y] 97)).cell? ⟨w.heap.size, 0, none⟩ = some (.int .i64 a.x) ∧ ((w.alloc (.cells #[.int .i64 a.x, .int .i64 a.y] 97)).alloc (.cells #[.int .i64 b.x, .int .i64 b.y] 97)).cell? ⟨w.heap.size, 1, none⟩ = some (.int .i64 a.y) ∧ ((w.alloc (.cells #[.int .i64 a.x, .int .i64 a.y] 97)).alloc (.cells #[.int .i64 b.x, .int .i64 b.y] 97)).cell? ⟨w.heap.size + 1, 0, none⟩ = some (.int .i64 b.x) ∧ ((w.alloc (.cells #[.int .i64 a.x, .int .i64 a.y] 97)).alloc (.cells #[.int .i64 b.x, .int .i64 b.y] 97)).cell? ⟨w.heap.size + 1, 1, none⟩ = some (.int .i64 b.y)) := ⟨by simp [go_sem], by simp [go_sem], by simp [go_sem], by simp [go_sem]⟩
  have HX : Hid (∀ wx : World, Calls Try.prog 113 #[.int .i64 a.x, .int .i64 b.x] wx fun e w' => e = .returned (.int .i64 (absI (a.x - b.x))) ∧ w' = wx) := fun wx => apart_any _ _ wx ⟨by omega, by omega⟩ ⟨by omega, by omega⟩
  have HY : Hid (∀ wx : World, Calls Try.prog 113 #[.int .i64 a.y, .int .i64 b.y] wx fun e w' => e = .returned (.int .i64 (absI (a.y - b.y))) ∧ w' = wx) := fun wx => apart_any _ _ wx ⟨by omega, by omega⟩ ⟨by omega, by omega⟩
  have HM : Hid (legN a b = _) := max_apart a b
  go_enter Try.func106, Try.ntmps106
  go_wp2_with fail
  generalize ((w.alloc (.cells #[.int .i64 a.x, .int .i64 a.y] 97)).alloc (.cells #[.int .i64 b.x, .int .i64 b.y] 97)) = w1 at *
  refine wp_region_noPanic ?_
  refine wp_region_held_drew (S := fun w' => w'.cell? ⟨w.heap.size, 0, none⟩ = some (.int .i64 a.x) ∧ w'.cell? ⟨w.heap.size, 1, none⟩ = some (.int .i64 a.y) ∧ w'.cell? ⟨w.heap.size + 1, 0, none⟩ = some (.int .i64 b.x) ∧ w'.cell? ⟨w.heap.size + 1, 1, none⟩ = some (.int .i64 b.y)) (by kernel_rfl) ?_ (fun hHeld => ?_)
  · exact ⟨cell_keep (Below.refl _ _).drew (Nat.le_refl _) HS.out.1, cell_keep (Below.refl _ _).drew (Nat.le_refl _) HS.out.2.1, cell_keep (Below.refl _ _).drew (Nat.le_refl _) HS.out.2.2.1, cell_keep (Below.refl _ _).drew (Nat.le_refl _) HS.out.2.2.2⟩
  have HBW : Hid (Below w.heap.size w w1.drew) := below_step HB.out (Below.refl _ _).drew
  generalize w1.drew = W at *
  refine wpAnyH_take (i := 0) (v := ?_) rfl (by kernel_rfl) (by kernel_rfl) (by kernel_rfl) (fun _ _ _ h => h) (Or.inl ⟨by rfl, ?_⟩) (by assumption) ?_
  rotate_left
  · intro w hSw; (try dsimp only at hSw); go_simp; try with_reducible rfl
  simp only [Act.put, List.setIfInBounds_toArray, List.set_cons_zero, List.set_cons_succ, List.getElem_toArray, List.getElem_cons_succ, List.getElem_cons_zero]
  refine wpAnyH_take (i := 1) (v := ?_) rfl (by kernel_rfl) (by kernel_rfl) (by kernel_rfl) (fun _ _ _ h => h) (Or.inl ⟨by rfl, ?_⟩) (by assumption) ?_
  rotate_left
  · intro w hSw; (try dsimp only at hSw); go_simp; try with_reducible rfl
  simp only [Act.put, List.setIfInBounds_toArray, List.set_cons_zero, List.set_cons_succ, List.getElem_toArray, List.getElem_cons_succ, List.getElem_cons_zero]
  refine wpAnyH_take (i := 2) (v := ?_) rfl (by kernel_rfl) (by kernel_rfl) (by kernel_rfl) (fun _ _ _ h => h) (Or.inl ⟨by rfl, ?_⟩) (by assumption) ?_
  rotate_left
  · intro w hSw; (try dsimp only at hSw); go_simp; try with_reducible rfl
  simp only [Act.put, List.setIfInBounds_toArray, List.set_cons_zero, List.set_cons_succ, List.getElem_toArray, List.getElem_cons_succ, List.getElem_cons_zero]
  refine wpAnyH_take (i := 3) (v := ?_) rfl (by kernel_rfl) (by kernel_rfl) (by kernel_rfl) (fun _ _ _ h => h) (Or.inl ⟨by rfl, ?_⟩) (by assumption) ?_
  rotate_left
  · intro w hSw; (try dsimp only at hSw); go_simp; try with_reducible rfl
  simp only [Act.put, List.setIfInBounds_toArray, List.set_cons_zero, List.set_cons_succ, List.getElem_toArray, List.getElem_cons_succ, List.getElem_cons_zero]
  refine wpAnyH_take (i := 5) (v := ?_) rfl (by kernel_rfl) (by kernel_rfl) (by kernel_rfl) (fun _ _ _ h => h) (Or.inl ⟨by rfl, ?_⟩) (by assumption) ?_
  rotate_left
  · intro w hSw; (try dsimp only at hSw); go_simp; try with_reducible rfl
  simp only [Act.put, List.setIfInBounds_toArray, List.set_cons_zero, List.set_cons_succ, List.getElem_toArray, List.getElem_cons_succ, List.getElem_cons_zero]
  refine wpAnyH_take (i := 6) (v := ?_) rfl (by kernel_rfl) (by kernel_rfl) (by kernel_rfl) (fun _ _ _ h => h) (Or.inl ⟨by rfl, ?_⟩) (by assumption) ?_
  rotate_left
  · intro w hSw; (try dsimp only at hSw); go_simp; try with_reducible rfl
  simp only [Act.put, List.setIfInBounds_toArray, List.set_cons_zero, List.set_cons_succ, List.getElem_toArray, List.getElem_cons_succ, List.getElem_cons_zero]
  refine wpAnyH_take (i := 7) (v := ?_) rfl (by kernel_rfl) (by kernel_rfl) (by kernel_rfl) (fun _ _ _ h => h) (Or.inl ⟨by rfl, ?_⟩) (by assumption) ?_
  rotate_left
  · intro w hSw; (try dsimp only at hSw); go_simp; try with_reducible rfl
  simp only [Act.put, List.setIfInBounds_toArray, List.set_cons_zero, List.set_cons_succ, List.getElem_toArray, List.getElem_cons_succ, List.getElem_cons_zero]
  refine wpAnyH_take (i := 8) (v := ?_) rfl (by kernel_rfl) (by kernel_rfl) (by kernel_rfl) (fun _ _ _ h => h) (Or.inl ⟨by rfl, ?_⟩) (by assumption) ?_
  rotate_left
  · intro w hSw; (try dsimp only at hSw); go_simp; try with_reducible rfl
  simp only [Act.put, List.setIfInBounds_toArray, List.set_cons_zero, List.set_cons_succ, List.getElem_toArray, List.getElem_cons_succ, List.getElem_cons_zero]
  refine wpAnyH_ready (rs := [4]) (by kernel_rfl) (by simp) ?_
  refine AllReadyH.cons rfl (fun K hK => ?_) AllReadyH.nil
  go_simp
  refine (HX.out _).mono ?_
  rintro e wz ⟨rfl, hz⟩
  rw [hz]
  refine hK.out _ _ hHeld (fun _ => ?_)
  clear hK K hz wz
  refine wpAnyH_ready (rs := [9]) (by kernel_rfl) (by simp) ?_
  refine AllReadyH.cons rfl (fun K hK => ?_) AllReadyH.nil
  go_simp
  refine (HY.out _).mono ?_
  rintro e wz ⟨rfl, hz⟩
  rw [hz]
  refine hK.out _ _ hHeld (fun _ => ?_)
  clear hK K hz wz
  generalize absI (a.x - b.x) = p at *
  generalize absI (a.y - b.y) = q at *
  refine wpAnyH_ready (rs := [10]) (by kernel_rfl) (by simp) ?_
  refine AllReadyH.cons rfl (fun K hK => ?_) AllReadyH.nil
  by_cases hpq : p < q
  · have HR : Hid (legN a b = q) := by show _ = _; rw [HM.out, if_pos hpq]
    go_simp
    refine hK.out _ _ hHeld (fun _ => ?_)
    clear hK K
    refine wpAnyH_take (i := 11) (v := ?_) rfl (by kernel_rfl) (by kernel_rfl) (by kernel_rfl) (fun _ _ _ h => h) (Or.inl ⟨by rfl, ?_⟩) (by assumption) ?_
    rotate_left
    · intro w hSw; (try dsimp only at hSw); go_simp; try with_reducible rfl
    simp only [Act.put, List.setIfInBounds_toArray, List.set_cons_zero, List.set_cons_succ, List.getElem_toArray, List.getElem_cons_succ, List.getElem_cons_zero]
    refine wpAnyH_done (by kernel_rfl) ?_ _
    refine NoPanic.normal ?_
    go_wp2
    go_ret
    exact ⟨ret_int HR.out.symm, HBW.out⟩
  · have HR : Hid (legN a b = p) := by show _ = _; rw [HM.out, if_neg hpq]
    go_simp
    refine hK.out _ _ hHeld (fun _ => ?_)
    clear hK K
    refine wpAnyH_take (i := 11) (v := ?_) rfl (by kernel_rfl) (by kernel_rfl) (by kernel_rfl) (fun _ _ _ h => h) (Or.inl ⟨by rfl, ?_⟩) (by assumption) ?_
    rotate_left
    · intro w hSw; (try dsimp only at hSw); go_simp; try with_reducible rfl
    simp only [Act.put, List.setIfInBounds_toArray, List.set_cons_zero, List.set_cons_succ, List.getElem_toArray, List.getElem_cons_succ, List.getElem_cons_zero]
    refine wpAnyH_done (by kernel_rfl) ?_ _
    refine NoPanic.normal ?_
    go_wp2
    go_ret
    exact ⟨ret_int HR.out.symm, HBW.out⟩

set_option maxRecDepth 100000 in
set_option maxHeartbeats 3200000 in
theorem cellBehind_any (a b : Cel) (k n : Int) (w : World) (ha : a.In) (hb : b.In) (hk : 0 ≤ k) (hkn : k ≤ n) (hn : 1 ≤ n) (hn' : n ≤ 15) :
    Calls Try.prog 109 #[cv a, cv b, .int .i64 k, .int .i64 n] w fun e w' => e = .returned (.agg #[.int .i64 (partW a.x b.x k n), .int .i64 (partW a.y b.y k n)]) ∧ Below w.heap.size w w' := by
  have HB : Hid (Below w.heap.size w (((w.alloc (.cells #[.int .i64 a.x, .int .i64 a.y] 97)).alloc (.cells #[.int .i64 b.x, .int .i64 b.y] 97)).alloc (.cells #[.int .i64 0, .int .i64 0] 97))) := (((Below.refl _ _).alloc (Nat.le_refl _) _).alloc (by simp) _).alloc (by simp; omega) _
  have HS : Hid ((((w.alloc (.cells #[.int .i64 a.x, .int .i64 a.y] 97)).alloc (.cells #[.int .i64 b.x, .int .i64 b.y] 97)).alloc (.cells #[.int .i64 0, .int .i64 0] 97)).cell? ⟨w.heap.size, 0, none⟩ = some (.int .i64 a.x) ∧ (((w.alloc (.cells #[.int .i64 a.x, .int .i64 a.y] 97)).alloc (.cells #[.int .i64 b.x, .int .i64 b.y] 97)).alloc (.cells #[.int .i64 0, .int .i64 0] 97)).cell? ⟨w.heap.size, 1, none⟩ = some (.int .i64 a.y) ∧ (((w.alloc (.cells #[.int .i64 a.x, .int .i64 a.y] 97)).alloc (.cells #[.int .i64 b.x, .int .i64 b.y] 97)).alloc (.cells #[.int .i64 0, .int .i64 0] 97)).cell? ⟨w.heap.size + 1, 0, none⟩ = some (.int .i64 b.x) ∧ (((w.alloc (.cells #[.int .i64 a.x, .int .i64 a.y] 97)).alloc (.cells #[.int .i64 b.x, .int .i64 b.y] 97)).alloc (.cells #[.int .i64 0, .int .i64 0] 97)).cell? ⟨w.heap.size + 1, 1, none⟩ = some (.int .i64 b.y)) := ⟨by simp [go_sem], by simp [go_sem], by simp [go_sem], by simp [go_sem]⟩
  have HR : Hid ((((w.alloc (.cells #[.int .i64 a.x, .int .i64 a.y] 97)).alloc (.cells #[.int .i64 b.x, .int .i64 b.y] 97)).alloc (.cells #[.int .i64 0, .int .i64 0] 97)).heap[w.heap.size + 2]? = some (.cells #[.int .i64 0, .int .i64 0] 97 (0, 0))) := by
    have h := heap_newW ((w.alloc (.cells #[.int .i64 a.x, .int .i64 a.y] 97)).alloc (.cells #[.int .i64 b.x, .int .i64 b.y] 97)) (.cells #[.int .i64 0, .int .i64 0] 97)
    rw [show ((w.alloc (.cells #[.int .i64 a.x, .int .i64 a.y] 97)).alloc (.cells #[.int .i64 b.x, .int .i64 b.y] 97)).heap.size = w.heap.size + 2 by simp] at h
    exact h
  have HX : Hid (∀ wx : World, Calls Try.prog 114 #[.int .i64 a.x, .int .i64 b.x, .int .i64 k, .int .i64 n] wx fun e w' => e = .returned (.int .i64 (partW a.x b.x k n)) ∧ w' = wx) := fun wx => partWay_any _ _ _ _ wx ha.1 hb.1 hk hkn hn hn'
  have HY : Hid (∀ wx : World, Calls Try.prog 114 #[.int .i64 a.y, .int .i64 b.y, .int .i64 k, .int .i64 n] wx fun e w' => e = .returned (.int .i64 (partW a.y b.y k n)) ∧ w' = wx) := fun wx => partWay_any _ _ _ _ wx ha.2 hb.2 hk hkn hn hn'
  generalize partW a.x b.x k n = px at *
  generalize partW a.y b.y k n = py at *
  go_enter Try.func109, Try.ntmps109
  go_wp2_with fail
  generalize (((w.alloc (.cells #[.int .i64 a.x, .int .i64 a.y] 97)).alloc (.cells #[.int .i64 b.x, .int .i64 b.y] 97)).alloc (.cells #[.int .i64 0, .int .i64 0] 97)) = w1 at *
  refine wp_region_noPanic ?_
  refine wp_region_held_drew (S := fun w' => w'.cell? ⟨w.heap.size, 0, none⟩ = some (.int .i64 a.x) ∧ w'.cell? ⟨w.heap.size, 1, none⟩ = some (.int .i64 a.y) ∧ w'.cell? ⟨w.heap.size + 1, 0, none⟩ = some (.int .i64 b.x) ∧ w'.cell? ⟨w.heap.size + 1, 1, none⟩ = some (.int .i64 b.y)) (by kernel_rfl) ?_ (fun hHeld => ?_)
  · exact ⟨cell_keep (Below.refl _ _).drew (Nat.le_refl _) HS.out.1, cell_keep (Below.refl _ _).drew (Nat.le_refl _) HS.out.2.1, cell_keep (Below.refl _ _).drew (Nat.le_refl _) HS.out.2.2.1, cell_keep (Below.refl _ _).drew (Nat.le_refl _) HS.out.2.2.2⟩
  have HBW : Hid (Below w.heap.size w w1.drew) := below_step HB.out (Below.refl _ _).drew
  have HRW : Hid (w1.drew.heap[w.heap.size + 2]? = some (.cells #[.int .i64 0, .int .i64 0] 97 (0, 0))) := HR.out
  have HSW : Hid (w1.drew.cell? ⟨w.heap.size, 0, none⟩ = some (.int .i64 a.x) ∧ w1.drew.cell? ⟨w.heap.size, 1, none⟩ = some (.int .i64 a.y) ∧ w1.drew.cell? ⟨w.heap.size + 1, 0, none⟩ = some (.int .i64 b.x) ∧ w1.drew.cell? ⟨w.heap.size + 1, 1, none⟩ = some (.int .i64 b.y)) := hHeld
  generalize w1.drew = W at *
  refine wpAnyH_take (i := 0) (v := ?_) rfl (by kernel_rfl) (by kernel_rfl) (by kernel_rfl) (fun _ _ _ h => h) (Or.inl ⟨by rfl, ?_⟩) (by assumption) ?_
  rotate_left
  · intro w hSw; (try dsimp only at hSw); go_simp; try with_reducible rfl
  simp only [Act.put, List.setIfInBounds_toArray, List.set_cons_zero, List.set_cons_succ, List.getElem_toArray, List.getElem_cons_succ, List.getElem_cons_zero]
  refine wpAnyH_take (i := 1) (v := ?_) rfl (by kernel_rfl) (by kernel_rfl) (by kernel_rfl) (fun _ _ _ h => h) (Or.inl ⟨by rfl, ?_⟩) (by assumption) ?_
  rotate_left
  · intro w hSw; (try dsimp only at hSw); go_simp; try with_reducible rfl
  simp only [Act.put, List.setIfInBounds_toArray, List.set_cons_zero, List.set_cons_succ, List.getElem_toArray, List.getElem_cons_succ, List.getElem_cons_zero]
  refine wpAnyH_take (i := 2) (v := ?_) rfl (by kernel_rfl) (by kernel_rfl) (by kernel_rfl) (fun _ _ _ h => h) (Or.inl ⟨by rfl, ?_⟩) (by assumption) ?_
  rotate_left
  · intro w hSw; (try dsimp only at hSw); go_simp; try with_reducible rfl
  simp only [Act.put, List.setIfInBounds_toArray, List.set_cons_zero, List.set_cons_succ, List.getElem_toArray, List.getElem_cons_succ, List.getElem_cons_zero]
  refine wpAnyH_take (i := 3) (v := ?_) rfl (by kernel_rfl) (by kernel_rfl) (by kernel_rfl) (fun _ _ _ h => h) (Or.inl ⟨by rfl, ?_⟩) (by assumption) ?_
  rotate_left
  · intro w hSw; (try dsimp only at hSw); go_simp; try with_reducible rfl
  simp only [Act.put, List.setIfInBounds_toArray, List.set_cons_zero, List.set_cons_succ, List.getElem_toArray, List.getElem_cons_succ, List.getElem_cons_zero]
  refine wpAnyH_take (i := 4) (v := ?_) rfl (by kernel_rfl) (by kernel_rfl) (by kernel_rfl) (fun _ _ _ h => h) (Or.inl ⟨by rfl, ?_⟩) (by assumption) ?_
  rotate_left
  · intro w hSw; (try dsimp only at hSw); go_simp; try with_reducible rfl
  simp only [Act.put, List.setIfInBounds_toArray, List.set_cons_zero, List.set_cons_succ, List.getElem_toArray, List.getElem_cons_succ, List.getElem_cons_zero]
  refine wpAnyH_take (i := 5) (v := ?_) rfl (by kernel_rfl) (by kernel_rfl) (by kernel_rfl) (fun _ _ _ h => h) (Or.inl ⟨by rfl, ?_⟩) (by assumption) ?_
  rotate_left
  · intro w hSw; (try dsimp only at hSw); go_simp; try with_reducible rfl
  simp only [Act.put, List.setIfInBounds_toArray, List.set_cons_zero, List.set_cons_succ, List.getElem_toArray, List.getElem_cons_succ, List.getElem_cons_zero]
  refine wpAnyH_take (i := 7) (v := ?_) rfl (by kernel_rfl) (by kernel_rfl) (by kernel_rfl) (fun _ _ _ h => h) (Or.inl ⟨by rfl, ?_⟩) (by assumption) ?_
  rotate_left
  · intro w hSw; (try dsimp only at hSw); go_simp; try with_reducible rfl
  simp only [Act.put, List.setIfInBounds_toArray, List.set_cons_zero, List.set_cons_succ, List.getElem_toArray, List.getElem_cons_succ, List.getElem_cons_zero]
  refine wpAnyH_take (i := 8) (v := ?_) rfl (by kernel_rfl) (by kernel_rfl) (by kernel_rfl) (fun _ _ _ h => h) (Or.inl ⟨by rfl, ?_⟩) (by assumption) ?_
  rotate_left
  · intro w hSw; (try dsimp only at hSw); go_simp; try with_reducible rfl
  simp only [Act.put, List.setIfInBounds_toArray, List.set_cons_zero, List.set_cons_succ, List.getElem_toArray, List.getElem_cons_succ, List.getElem_cons_zero]
  refine wpAnyH_take (i := 9) (v := ?_) rfl (by kernel_rfl) (by kernel_rfl) (by kernel_rfl) (fun _ _ _ h => h) (Or.inl ⟨by rfl, ?_⟩) (by assumption) ?_
  rotate_left
  · intro w hSw; (try dsimp only at hSw); go_simp; try with_reducible rfl
  simp only [Act.put, List.setIfInBounds_toArray, List.set_cons_zero, List.set_cons_succ, List.getElem_toArray, List.getElem_cons_succ, List.getElem_cons_zero]
  refine wpAnyH_take (i := 10) (v := ?_) rfl (by kernel_rfl) (by kernel_rfl) (by kernel_rfl) (fun _ _ _ h => h) (Or.inl ⟨by rfl, ?_⟩) (by assumption) ?_
  rotate_left
  · intro w hSw; (try dsimp only at hSw); go_simp; try with_reducible rfl
  simp only [Act.put, List.setIfInBounds_toArray, List.set_cons_zero, List.set_cons_succ, List.getElem_toArray, List.getElem_cons_succ, List.getElem_cons_zero]
  refine wpAnyH_take (i := 11) (v := ?_) rfl (by kernel_rfl) (by kernel_rfl) (by kernel_rfl) (fun _ _ _ h => h) (Or.inl ⟨by rfl, ?_⟩) (by assumption) ?_
  rotate_left
  · intro w hSw; (try dsimp only at hSw); go_simp; try with_reducible rfl
  simp only [Act.put, List.setIfInBounds_toArray, List.set_cons_zero, List.set_cons_succ, List.getElem_toArray, List.getElem_cons_succ, List.getElem_cons_zero]
  refine wpAnyH_take (i := 12) (v := ?_) rfl (by kernel_rfl) (by kernel_rfl) (by kernel_rfl) (fun _ _ _ h => h) (Or.inl ⟨by rfl, ?_⟩) (by assumption) ?_
  rotate_left
  · intro w hSw; (try dsimp only at hSw); go_simp; try with_reducible rfl
  simp only [Act.put, List.setIfInBounds_toArray, List.set_cons_zero, List.set_cons_succ, List.getElem_toArray, List.getElem_cons_succ, List.getElem_cons_zero]
  refine wpAnyH_ready (rs := [6]) (by kernel_rfl) (by simp) ?_
  refine AllReadyH.cons rfl (fun K hK => ?_) AllReadyH.nil
  go_simp
  refine (HX.out _).mono ?_
  rintro e wz ⟨rfl, hz⟩
  rw [hz]
  refine hK.out _ _ hHeld (fun _ => ?_)
  clear hK K hz wz
  refine wpAnyH_ready (rs := [13]) (by kernel_rfl) (by simp) ?_
  refine AllReadyH.cons rfl (fun K hK => ?_) AllReadyH.nil
  go_simp
  refine (HY.out _).mono ?_
  rintro e wz ⟨rfl, hz⟩
  rw [hz]
  refine hK.out _ _ hHeld (fun _ => ?_)
  clear hK K hz wz
  refine wpAnyH_take (i := 14) (v := ?_) rfl (by kernel_rfl) (by kernel_rfl) (by kernel_rfl) (fun _ _ _ h => h) (Or.inl ⟨by rfl, ?_⟩) (by assumption) ?_
  rotate_left
  · intro w hSw; (try dsimp only at hSw); go_simp; try with_reducible rfl
  simp only [Act.put, List.setIfInBounds_toArray, List.set_cons_zero, List.set_cons_succ, List.getElem_toArray, List.getElem_cons_succ, List.getElem_cons_zero]
  have HF : Hid ((W.setRow (w.heap.size + 2) #[.int .i64 px, .int .i64 py]).heap[w.heap.size + 2]? = some (.cells #[.int .i64 px, .int .i64 py] 97 (0, 0))) := setRow_heap _ _ _ _ _ _ HRW.out
  have HG : Hid (∀ j : Nat, j ≠ w.heap.size + 2 → (W.setRow (w.heap.size + 2) #[.int .i64 px, .int .i64 py]).heap[j]? = W.heap[j]?) := fun j hj => setRow_other _ _ _ _ hj
  have HBF : Hid (Below w.heap.size w (W.setRow (w.heap.size + 2) #[.int .i64 px, .int .i64 py])) := below_setRow HBW.out (by omega) _
  refine wpAnyH_ready (rs := [15]) (by kernel_rfl) (by simp) ?_
  refine AllReadyH.cons rfl (fun K hK => ?_) AllReadyH.nil
  refine step_store_rowC rfl 97 _ _ rfl (w.heap.size + 2) #[.int .i64 px, .int .i64 py] rfl rfl 97 _ HRW.out (by kernel_rfl) rfl (by simp [Value.oneCell']) ?_
  generalize (W.setRow (w.heap.size + 2) #[.int .i64 px, .int .i64 py]) = W2 at *
  refine hK.out _ _ ⟨(World.cell?_of_block (HG.out _ (by show w.heap.size ≠ _; omega))).trans hHeld.1, (World.cell?_of_block (HG.out _ (by show w.heap.size ≠ _; omega))).trans hHeld.2.1, (World.cell?_of_block (HG.out _ (by show w.heap.size + 1 ≠ _; omega))).trans hHeld.2.2.1, (World.cell?_of_block (HG.out _ (by show w.heap.size + 1 ≠ _; omega))).trans hHeld.2.2.2⟩ (fun _ => ?_)
  clear hK K
  refine wpAnyH_done (by kernel_rfl) ?_ _
  refine NoPanic.normal ?_
  go_wp2
  have hf := HF.out
  have c0 : W2.cell? ⟨w.heap.size + 2, 0, none⟩ = some (.int .i64 px) := by simp [World.cell?, hf]
  have c1 : W2.cell? ⟨w.heap.size + 2, 1, none⟩ = some (.int .i64 py) := by simp [World.cell?, hf]
  exact bodyPost_ret (v := .agg #[.int .i64 px, .int .i64 py]) (by simp [results, Try.results109, go_sem, c0, c1]) rfl ⟨rfl, HBF.out⟩
end Go.Proofs.Ytfjblenkcfdbiaa
