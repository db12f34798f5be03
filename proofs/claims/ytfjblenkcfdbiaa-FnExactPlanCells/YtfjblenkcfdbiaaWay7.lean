
/-
  A leg: the specification's.
-/
import Derived.Test.YtfjblenkcfdbiaaWay5
namespace Go.Proofs.Ytfjblenkcfdbiaa
open Go.RowKit
set_option linter.unusedSimpArgs false
set_option linter.unusedVariables false

theorem partS_bd (d k n : Int) (hd : -15 ≤ d ∧ d ≤ 15) (hk : 0 ≤ k) (hkn : k ≤ n) (hn : 1 ≤ n) (hn' : n ≤ 15) : -500 ≤ partS d k n ∧ partS d k n ≤ 500 := by
  have b1 : 2 * k * d ≤ 2 * 15 * 15 := by
    rcases (show 0 ≤ d ∨ d ≤ 0 by omega) with h | h
    · exact Int.mul_le_mul (by omega) (by omega) h (by omega)
    · have := Int.mul_nonneg (show 0 ≤ 2 * k by omega) (show 0 ≤ -d by omega)
      have e : 2 * k * d = - (2 * k * (-d)) := by rw [Int.mul_neg]; omega
      omega
  have b2 : - (2 * 15 * 15) ≤ 2 * k * d := by
    rcases (show 0 ≤ d ∨ d ≤ 0 by omega) with h | h
    · have := Int.mul_nonneg (show 0 ≤ 2 * k by omega) h
      omega
    · have h9 : 2 * k * (-d) ≤ 2 * 15 * 15 := Int.mul_le_mul (by omega) (by omega) (by omega) (by omega)
      have e : 2 * k * d = - (2 * k * (-d)) := by rw [Int.mul_neg]; omega
      omega
  unfold partS
  constructor
  · have : -500 * (2 * n) ≤ 2 * k * d + n := by omega
    exact Int.le_ediv_of_mul_le (by omega) this
  · have h1 : (2 * k * d + n) / (2 * n) ≤ 500 ∨ 500 < (2 * k * d + n) / (2 * n) := by omega
    rcases h1 with h1 | h1
    · exact h1
    · exfalso
      have h2 := Int.mul_le_of_le_ediv (show 0 < 2 * n by omega) (Int.le_of_lt h1)
      omega
/-- The first k steps of a leg from the lesser end. -/
def legK (a b : Cel) (k : Nat) : List Cel := a :: (List.range k).map fun (j : Nat) => celS a b ((j : Int) + 1)
theorem legK_len (a b : Cel) (k : Nat) : (legK a b k).length = k + 1 := by simp [legK]
theorem legK_succ (a b : Cel) (k : Nat) : legK a b (k + 1) = legK a b k ++ [celS a b ((k : Int) + 1)] := by
  unfold legK; rw [List.range_succ, List.map_append]; rfl
theorem legK_all (a b : Cel) : legK a b (NNat a b) = legU a b := rfl

set_option maxRecDepth 100000 in
set_option maxHeartbeats 12800000 in
theorem l7LegU_any (a b : Cel) (w : World) (ha : a.In) (hb : b.In) (hl : lesser b a = false) :
    Calls Try.prog 60 #[cv a, cv b] w fun e w' => ∃ u, e = .returned u ∧ CNew w' w.heap.size u (legU a b) ∧ Below w.heap.size w w' := by
  have hle := legN_le ha hb
  have hNc := NNat_cast a b
  obtain ⟨i0, hi0, hz0, hz1, hz2⟩ := info_parts infoCell
  have hin := ha
  have hin' := hb
  obtain ⟨⟨a1, a2⟩, a3, a4⟩ := ha
  obtain ⟨⟨b1, b2⟩, b3, b4⟩ := hb
  have HB : Hid (Below w.heap.size w (((w.alloc (.cells #[.int .i64 a.x, .int .i64 a.y] 97)).alloc (.cells #[.int .i64 b.x, .int .i64 b.y] 97)).alloc (.cells #[] 97))) := (((Below.refl _ _).alloc (Nat.le_refl _) _).alloc (by simp) _).alloc (by simp; omega) _
  have HS : Hid (((((w.alloc (.cells #[.int .i64 a.x, .int .i64 a.y] 97)).alloc (.cells #[.int .i64 b.x, .int .i64 b.y] 97)).alloc (.cells #[] 97)).cell? ⟨w.heap.size, 0, none⟩ = some (.int .i64 a.x) ∧ (((w.alloc (.cells #[.int .i64 a.x, .int .i64 a.y] 97)).alloc (.cells #[.int .i64 b.x, .int .i64 b.y] 97)).alloc (.cells #[] 97)).cell? ⟨w.heap.size, 1, none⟩ = some (.int .i64 a.y)) ∧ (((w.alloc (.cells #[.int .i64 a.x, .int .i64 a.y] 97)).alloc (.cells #[.int .i64 b.x, .int .i64 b.y] 97)).alloc (.cells #[] 97)).cell? ⟨w.heap.size + 1, 0, none⟩ = some (.int .i64 b.x) ∧ (((w.alloc (.cells #[.int .i64 a.x, .int .i64 a.y] 97)).alloc (.cells #[.int .i64 b.x, .int .i64 b.y] 97)).alloc (.cells #[] 97)).cell? ⟨w.heap.size + 1, 1, none⟩ = some (.int .i64 b.y)) := ⟨⟨by simp [go_sem], by simp [go_sem]⟩, by simp [go_sem], by simp [go_sem]⟩
  have HR : Hid ((((w.alloc (.cells #[.int .i64 a.x, .int .i64 a.y] 97)).alloc (.cells #[.int .i64 b.x, .int .i64 b.y] 97)).alloc (.cells #[] 97)).heap[w.heap.size + 2]? = some (.cells #[] 97 (0, 0))) := by
    have h := heap_newW ((w.alloc (.cells #[.int .i64 a.x, .int .i64 a.y] 97)).alloc (.cells #[.int .i64 b.x, .int .i64 b.y] 97)) (.cells #[] 97)
    rw [show ((w.alloc (.cells #[.int .i64 a.x, .int .i64 a.y] 97)).alloc (.cells #[.int .i64 b.x, .int .i64 b.y] 97)).heap.size = w.heap.size + 2 by simp] at h
    exact h
  have HZ : Hid ((((w.alloc (.cells #[.int .i64 a.x, .int .i64 a.y] 97)).alloc (.cells #[.int .i64 b.x, .int .i64 b.y] 97)).alloc (.cells #[] 97)).heap.size = w.heap.size + 3) := by show _ = _; simp
  obtain ⟨⟨c0, c1⟩, c2, c3⟩ := HS.out
  have HA1 : Hid (∀ wx : World, Calls Try.prog 95 #[.int .i64 (a.x - b.x)] wx fun e w' => e = .returned (.int .i64 (absI (a.x - b.x))) ∧ w' = wx) := fun wx => l7Abs_any _ wx ⟨by omega, by omega⟩
  have HA2 : Hid (∀ wx : World, Calls Try.prog 95 #[.int .i64 (a.y - b.y)] wx fun e w' => e = .returned (.int .i64 (absI (a.y - b.y))) ∧ w' = wx) := fun wx => l7Abs_any _ wx ⟨by omega, by omega⟩
  have HMX : Hid (∀ wx : World, Calls Try.prog 94 #[.int .i64 (absI (a.x - b.x)), .int .i64 (absI (a.y - b.y))] wx fun e w' => e = .returned (.int .i64 (legN a b)) ∧ w' = wx) := fun wx => l7Max_any _ _ wx
  have hw1 : IntKind.i64.wrap (a.x - b.x) = a.x - b.x := by rw [IntKind.wrap_i64]; omega
  have hw2 : IntKind.i64.wrap (a.y - b.y) = a.y - b.y := by rw [IntKind.wrap_i64]; omega
  have hw3 : IntKind.i64.wrap (b.x - a.x) = b.x - a.x := by rw [IntKind.wrap_i64]; omega
  have hw4 : IntKind.i64.wrap (b.y - a.y) = b.y - a.y := by rw [IntKind.wrap_i64]; omega
  have HEN : Hid (∀ k : Nat, k = NNat a b → legK a b k = legU a b) := fun k hk => by rw [hk]; rfl
  rcases (show (¬ b.x < a.x ∧ b.x = a.x ∧ ¬ b.y < a.y) ∨ (¬ b.x < a.x ∧ ¬ b.x = a.x) by unfold lesser at hl; split at hl <;> simp at hl <;> omega) with ⟨x1, x2, x3⟩ | ⟨x1, x2⟩
  · have hq : (b.x == a.x) = true := by simp [x2]
    clear x2
    go_enter Try.func60, Try.ntmps60
    go_wp2_with fail
    generalize (((w.alloc (.cells #[.int .i64 a.x, .int .i64 a.y] 97)).alloc (.cells #[.int .i64 b.x, .int .i64 b.y] 97)).alloc (.cells #[] 97)) = w1 at *
    refine wp_region_noPanic ?_
    refine wp_region_held_drew (S := fun w' => (w'.cell? ⟨w.heap.size, 0, none⟩ = some (.int .i64 a.x) ∧ w'.cell? ⟨w.heap.size, 1, none⟩ = some (.int .i64 a.y)) ∧ w'.cell? ⟨w.heap.size + 1, 0, none⟩ = some (.int .i64 b.x) ∧ w'.cell? ⟨w.heap.size + 1, 1, none⟩ = some (.int .i64 b.y)) (by kernel_rfl) ?_ (fun hHeld => ?_)
    · exact ⟨⟨cell_keep (Below.refl _ _).drew (Nat.le_refl _) HS.out.1.1, cell_keep (Below.refl _ _).drew (Nat.le_refl _) HS.out.1.2⟩, cell_keep (Below.refl _ _).drew (Nat.le_refl _) HS.out.2.1, cell_keep (Below.refl _ _).drew (Nat.le_refl _) HS.out.2.2⟩
    have HBW : Hid (Below w.heap.size w w1.drew) := below_step HB.out (Below.refl _ _).drew
    have HRW : Hid (w1.drew.heap[w.heap.size + 2]? = some (.cells #[] 97 (0, 0)) ∧ w1.drew.heap.size = w.heap.size + 3) := ⟨HR.out, HZ.out⟩
    clear c0 c1 c2 c3
    generalize w1.drew = W at *
    refine wpAnyH_take (i := 0) (v := ?_) rfl (by kernel_rfl) (by kernel_rfl) (by kernel_rfl) (fun _ _ _ h => h) (Or.inl ⟨by rfl, ?_⟩) (by assumption) ?_
    rotate_left
    · intro w hSw; (try dsimp only at hSw); go_simp; try with_reducible rfl
    simp only [Act.put, List.setIfInBounds_toArray, List.set_cons_zero, List.set_cons_succ, List.getElem_toArray, List.getElem_cons_succ, List.getElem_cons_zero]
    refine wpAnyH_take (i := 1) (v := ?_) rfl (by kernel_rfl) (by kernel_rfl) (by kernel_rfl) (fun _ _ _ h => h) (Or.inl ⟨by rfl, ?_⟩) (by assumption) ?_
    rotate_left
    · intro w hSw; (try dsimp only at hSw); go_simp; try with_reducible rfl
    simp only [Act.put, List.setIfInBounds_toArray, List.set_cons_zero, List.set_cons_succ, List.getElem_toArray, List.getElem_cons_succ, List.getElem_cons_zero]
    refine wpAnyH_take (i := 2) (v := ?_) rfl (by kernel_rfl) (by kernel_rfl) (by kernel_rfl) (fun _ _ _ h => h) (Or.inl ⟨by rfl, ?_⟩) (by assumption) ?_
    rotate_left
    · intro w hSw; (try dsimp only at hSw); go_simp; try with_reducible rfl
    simp only [Act.put, List.setIfInBounds_toArray, List.set_cons_zero, List.set_cons_succ, List.getElem_toArray, List.getElem_cons_succ, List.getElem_cons_zero]
    refine wpAnyH_take (i := 3) (v := ?_) rfl (by kernel_rfl) (by kernel_rfl) (by kernel_rfl) (fun _ _ _ h => h) (Or.inl ⟨by rfl, ?_⟩) (by assumption) ?_
    rotate_left
    · intro w hSw; (try dsimp only at hSw); go_simp; try with_reducible rfl
    simp only [Act.put, List.setIfInBounds_toArray, List.set_cons_zero, List.set_cons_succ, List.getElem_toArray, List.getElem_cons_succ, List.getElem_cons_zero]
    refine wpAnyH_take (i := 4) (v := ?_) rfl (by kernel_rfl) (by kernel_rfl) (by kernel_rfl) (fun _ _ _ h => h) (Or.inl ⟨by rfl, ?_⟩) (by assumption) ?_
    rotate_left
    · intro w hSw; (try dsimp only at hSw); go_simp; try with_reducible rfl
    simp only [Act.put, List.setIfInBounds_toArray, List.set_cons_zero, List.set_cons_succ, List.getElem_toArray, List.getElem_cons_succ, List.getElem_cons_zero]
    refine wpAnyH_take (i := 6) (v := ?_) rfl (by kernel_rfl) (by kernel_rfl) (by kernel_rfl) (fun _ _ _ h => h) (Or.inl ⟨by rfl, ?_⟩) (by assumption) ?_
    rotate_left
    · intro w hSw; (try dsimp only at hSw); go_simp; try with_reducible rfl
    simp only [Act.put, List.setIfInBounds_toArray, List.set_cons_zero, List.set_cons_succ, List.getElem_toArray, List.getElem_cons_succ, List.getElem_cons_zero]
    refine wpAnyH_take (i := 7) (v := ?_) rfl (by kernel_rfl) (by kernel_rfl) (by kernel_rfl) (fun _ _ _ h => h) (Or.inl ⟨by rfl, ?_⟩) (by assumption) ?_
    rotate_left
    · intro w hSw; (try dsimp only at hSw); go_simp; try with_reducible rfl
    simp only [Act.put, List.setIfInBounds_toArray, List.set_cons_zero, List.set_cons_succ, List.getElem_toArray, List.getElem_cons_succ, List.getElem_cons_zero]
    refine wpAnyH_take (i := 8) (v := ?_) rfl (by kernel_rfl) (by kernel_rfl) (by kernel_rfl) (fun _ _ _ h => h) (Or.inl ⟨by rfl, ?_⟩) (by assumption) ?_
    rotate_left
    · intro w hSw; (try dsimp only at hSw); go_simp; try with_reducible rfl
    simp only [Act.put, List.setIfInBounds_toArray, List.set_cons_zero, List.set_cons_succ, List.getElem_toArray, List.getElem_cons_succ, List.getElem_cons_zero]
    refine wpAnyH_take (i := 9) (v := ?_) rfl (by kernel_rfl) (by kernel_rfl) (by kernel_rfl) (fun _ _ _ h => h) (Or.inl ⟨by rfl, ?_⟩) (by assumption) ?_
    rotate_left
    · intro w hSw; (try dsimp only at hSw); go_simp; try with_reducible rfl
    simp only [Act.put, List.setIfInBounds_toArray, List.set_cons_zero, List.set_cons_succ, List.getElem_toArray, List.getElem_cons_succ, List.getElem_cons_zero]
    refine wpAnyH_take (i := 10) (v := ?_) rfl (by kernel_rfl) (by kernel_rfl) (by kernel_rfl) (fun _ _ _ h => h) (Or.inl ⟨by rfl, ?_⟩) (by assumption) ?_
    rotate_left
    · intro w hSw; (try dsimp only at hSw); go_simp; try with_reducible rfl
    simp only [Act.put, List.setIfInBounds_toArray, List.set_cons_zero, List.set_cons_succ, List.getElem_toArray, List.getElem_cons_succ, List.getElem_cons_zero]
    refine wpAnyH_ready (rs := [5]) (by kernel_rfl) (by simp) ?_
    refine AllReadyH.cons rfl (fun K hK => ?_) AllReadyH.nil
    go_simp
    refine (HA1.out _).mono ?_
    rintro e wz ⟨rfl, hz⟩
    rw [hz]
    refine hK.out _ _ hHeld (fun _ => ?_)
    clear hK K hz wz
    refine wpAnyH_ready (rs := [11]) (by kernel_rfl) (by simp) ?_
    refine AllReadyH.cons rfl (fun K hK => ?_) AllReadyH.nil
    go_simp
    refine (HA2.out _).mono ?_
    rintro e wz ⟨rfl, hz⟩
    rw [hz]
    refine hK.out _ _ hHeld (fun _ => ?_)
    clear hK K hz wz
    refine wpAnyH_ready (rs := [12]) (by kernel_rfl) (by simp) ?_
    refine AllReadyH.cons rfl (fun K hK => ?_) AllReadyH.nil
    go_simp
    refine (HMX.out _).mono ?_
    rintro e wz ⟨rfl, hz⟩
    rw [hz]
    refine hK.out _ _ hHeld (fun _ => ?_)
    clear hK K hz wz
    refine wpAnyH_take (i := 13) (v := ?_) rfl (by kernel_rfl) (by kernel_rfl) (by kernel_rfl) (fun _ _ _ h => h) (Or.inl ⟨by rfl, ?_⟩) (by assumption) ?_
    rotate_left
    · intro w hSw; (try dsimp only at hSw); go_simp; try with_reducible rfl
    simp only [Act.put, List.setIfInBounds_toArray, List.set_cons_zero, List.set_cons_succ, List.getElem_toArray, List.getElem_cons_succ, List.getElem_cons_zero]
    have HSW : Hid ((W.cell? ⟨w.heap.size, 0, none⟩ = some (.int .i64 a.x) ∧ W.cell? ⟨w.heap.size, 1, none⟩ = some (.int .i64 a.y)) ∧ W.cell? ⟨w.heap.size + 1, 0, none⟩ = some (.int .i64 b.x) ∧ W.cell? ⟨w.heap.size + 1, 1, none⟩ = some (.int .i64 b.y)) := hHeld
    clear hHeld
    refine wpAnyH_done (by kernel_rfl) ?_ _
    refine NoPanic.normal ?_
    obtain ⟨⟨c0, c1⟩, c2, c3⟩ := HSW.out
    have hid0 : W.ownsRow (w.heap.size + 2) 97 2 (.slice (some ⟨w.heap.size + 2, 0, none⟩) 0 0) 0 [] := ⟨rfl, .inr ⟨w.heap.size + 2, 0, #[], rfl, Nat.le_refl _, HRW.out.1, Nat.le_refl _, Nat.zero_le _, rfl, rfl⟩⟩
    go_wp2_with (at_builtin; refine wpList_append_any _ rfl _ _ 55 rfl (w.heap.size + 2) 97 i0 _ 2 16 Try.underlying55 hi0 hz0 hz1 hz2 rfl (by decide) _ 0 _ rfl (ownC_keep hid0 ((Below.refl _ _).alloc (Nat.le_refl _) _)) _ 1 1 [.int .i64 a.x, .int .i64 a.y] rfl (.inr ⟨_, rfl, World.news_of_block (heap_newW W (.cells #[.int .i64 a.x, .int .i64 a.y] 97))⟩) rfl (fun u hu => by simp at hu; rcases hu with rfl | rfl <;> rfl) (by unfold maxLen; omega) (by omega) (by have h := HRW.out.2; simp; omega) ?_; intro vq wx hown hgrow hat)
    have hbA : Below w.heap.size w (W.alloc (.cells #[.int .i64 a.x, .int .i64 a.y] 97)) := below_step HBW.out ((Below.refl _ _).alloc (Nat.le_refl _) _)
    have HQ : Hid ((CNew wx (w.heap.size + 2) vq (legK a b 0) ∧ Below w.heap.size w wx ∧ w.heap.size + 3 ≤ wx.heap.size) ∧ (wx.cell? ⟨w.heap.size, 0, none⟩ = some (.int .i64 a.x) ∧ wx.cell? ⟨w.heap.size, 1, none⟩ = some (.int .i64 a.y)) ∧ wx.cell? ⟨w.heap.size + 1, 0, none⟩ = some (.int .i64 b.x) ∧ wx.cell? ⟨w.heap.size + 1, 1, none⟩ = some (.int .i64 b.y)) := by
      have hS : ∀ (B o : Nat) (u : Value), B < w.heap.size + 2 → W.cell? ⟨B, o, none⟩ = some u → wx.cell? ⟨B, o, none⟩ = some u := fun B o u hB hu => by
        have h1 := cell_keep ((Below.refl _ _).alloc (Nat.le_refl _) (.cells #[.int .i64 a.x, .int .i64 a.y] 97) : Below W.heap.size W _) (Nat.le_refl _) hu
        exact (World.cell?_of_block (hgrow.block B (lt_of_cell h1) (fun e => by have := ownC_ge hid0 B e.symm; omega))).trans h1
      refine ⟨⟨hown, hbA.grown hgrow hbA.size (fun q hq => by have := ownC_ge hid0 q hq; omega), ?_⟩, ⟨hS _ _ _ (by omega) HSW.out.1.1, hS _ _ _ (by omega) HSW.out.1.2⟩, hS _ _ _ (by omega) HSW.out.2.1, hS _ _ _ (by omega) HSW.out.2.2⟩
      have := hgrow.size
      rw [World.size_alloc] at this
      have h := HRW.out.2
      omega
    obtain ⟨qa, qc, rfl⟩ := ownC_slice hown
    clear hown hgrow hat hid0 hbA HBW HRW HSW c0 c1 c2 c3
    go_loopw [5, 9] (fun v i wr => ∃ k : Nat, k ≤ NNat a b ∧ i = .int .i64 ((k : Int) + 1) ∧ (∃ a' c', v = .slice a' (k + 1) c') ∧ Hid ((CNew wr (w.heap.size + 2) v (legK a b k) ∧ Below w.heap.size w wr ∧ w.heap.size + 3 ≤ wr.heap.size) ∧ (wr.cell? ⟨w.heap.size, 0, none⟩ = some (.int .i64 a.x) ∧ wr.cell? ⟨w.heap.size, 1, none⟩ = some (.int .i64 a.y)) ∧ wr.cell? ⟨w.heap.size + 1, 0, none⟩ = some (.int .i64 b.x) ∧ wr.cell? ⟨w.heap.size + 1, 1, none⟩ = some (.int .i64 b.y))) (fun _ i _ => NNat a b + 1 - (intOf i).toNat)
    case atStart => exact ⟨0, Nat.zero_le _, rfl, ⟨_, _, rfl⟩, HQ⟩
    case round =>
      clear HQ
      obtain ⟨k, hk, rfl, ⟨a', c', rfl⟩, HI⟩ := hrel
      by_cases hlt : k < NNat a b
      · have hk1 : (k : Int) + 1 ≤ legN a b := by omega
        have HP1 : Hid (∀ wx : World, Calls Try.prog 96 #[.int .i64 (b.x - a.x), .int .i64 ((k : Int) + 1), .int .i64 (legN a b)] wx fun e w' => e = .returned (.int .i64 (partS (b.x - a.x) ((k : Int) + 1) (legN a b))) ∧ w' = wx) := fun wx => l7Part_any _ _ _ wx ⟨by omega, by omega⟩ (by omega) (by omega) (by omega) hle
        have HP2 : Hid (∀ wx : World, Calls Try.prog 96 #[.int .i64 (b.y - a.y), .int .i64 ((k : Int) + 1), .int .i64 (legN a b)] wx fun e w' => e = .returned (.int .i64 (partS (b.y - a.y) ((k : Int) + 1) (legN a b))) ∧ w' = wx) := fun wx => l7Part_any _ _ _ wx ⟨by omega, by omega⟩ (by omega) (by omega) (by omega) hle
        have e1 := partS_bd (b.x - a.x) ((k : Int) + 1) (legN a b) ⟨by omega, by omega⟩ (by omega) (by omega) (by omega) hle
        have e2 := partS_bd (b.y - a.y) ((k : Int) + 1) (legN a b) ⟨by omega, by omega⟩ (by omega) (by omega) (by omega) hle
        have HCC : Hid (celS a b ((k : Int) + 1) = ⟨a.x + partS (b.x - a.x) ((k : Int) + 1) (legN a b), a.y + partS (b.y - a.y) ((k : Int) + 1) (legN a b)⟩) := rfl
        generalize partS (b.x - a.x) ((k : Int) + 1) (legN a b) = sx at *
        generalize partS (b.y - a.y) ((k : Int) + 1) (legN a b) = sy at *
        have hw5 : IntKind.i64.wrap (a.x + sx) = a.x + sx := by rw [IntKind.wrap_i64]; omega
        have hw6 : IntKind.i64.wrap (a.y + sy) = a.y + sy := by rw [IntKind.wrap_i64]; omega
        have hid := HI.out.1.1
        unfold CNew at hid
        rw [legK_len] at hid
        have hsz := HI.out.1.2.2
        have HI2 : Hid ((CNew wr.drew (w.heap.size + 2) (.slice a' (k + 1) c') (legK a b k) ∧ Below w.heap.size w wr.drew ∧ w.heap.size + 3 ≤ wr.drew.heap.size) ∧ (wr.drew.cell? ⟨w.heap.size, 0, none⟩ = some (.int .i64 a.x) ∧ wr.drew.cell? ⟨w.heap.size, 1, none⟩ = some (.int .i64 a.y)) ∧ wr.drew.cell? ⟨w.heap.size + 1, 0, none⟩ = some (.int .i64 b.x) ∧ wr.drew.cell? ⟨w.heap.size + 1, 1, none⟩ = some (.int .i64 b.y)) := ⟨⟨ownC_keep HI.out.1.1 (Below.refl _ _).drew, below_step HI.out.1.2.1 (Below.refl _ _).drew, hsz⟩, ⟨cell_keep (Below.refl _ _).drew (Nat.le_refl _) HI.out.2.1.1, cell_keep (Below.refl _ _).drew (Nat.le_refl _) HI.out.2.1.2⟩, cell_keep (Below.refl _ _).drew (Nat.le_refl _) HI.out.2.2.1, cell_keep (Below.refl _ _).drew (Nat.le_refl _) HI.out.2.2.2⟩
        go_wp2_with fail
        refine wp_region_noPanic ?_
        refine wp_region_held_drew (S := fun w' => (w'.cell? ⟨w.heap.size, 0, none⟩ = some (.int .i64 a.x) ∧ w'.cell? ⟨w.heap.size, 1, none⟩ = some (.int .i64 a.y)) ∧ w'.cell? ⟨w.heap.size + 1, 0, none⟩ = some (.int .i64 b.x) ∧ w'.cell? ⟨w.heap.size + 1, 1, none⟩ = some (.int .i64 b.y)) (by kernel_rfl) ?_ (fun hHeld => ?_)
        · exact HI2.out.2
        clear HI
        generalize wr.drew = W at *
        refine wpAnyH_take (i := 0) (v := ?_) rfl (by kernel_rfl) (by kernel_rfl) (by kernel_rfl) (fun _ _ _ h => h) (Or.inl ⟨by rfl, ?_⟩) (by assumption) ?_
        rotate_left
        · intro w hSw; (try dsimp only at hSw); go_simp; try with_reducible rfl
        simp only [Act.put, List.setIfInBounds_toArray, List.set_cons_zero, List.set_cons_succ, List.getElem_toArray, List.getElem_cons_succ, List.getElem_cons_zero]
        refine wpAnyH_take (i := 1) (v := ?_) rfl (by kernel_rfl) (by kernel_rfl) (by kernel_rfl) (fun _ _ _ h => h) (Or.inl ⟨by rfl, ?_⟩) (by assumption) ?_
        rotate_left
        · intro w hSw; (try dsimp only at hSw); go_simp; try with_reducible rfl
        simp only [Act.put, List.setIfInBounds_toArray, List.set_cons_zero, List.set_cons_succ, List.getElem_toArray, List.getElem_cons_succ, List.getElem_cons_zero]
        refine wpAnyH_take (i := 2) (v := ?_) rfl (by kernel_rfl) (by kernel_rfl) (by kernel_rfl) (fun _ _ _ h => h) (Or.inl ⟨by rfl, ?_⟩) (by assumption) ?_
        rotate_left
        · intro w hSw; (try dsimp only at hSw); go_simp; try with_reducible rfl
        simp only [Act.put, List.setIfInBounds_toArray, List.set_cons_zero, List.set_cons_succ, List.getElem_toArray, List.getElem_cons_succ, List.getElem_cons_zero]
        refine wpAnyH_take (i := 3) (v := ?_) rfl (by kernel_rfl) (by kernel_rfl) (by kernel_rfl) (fun _ _ _ h => h) (Or.inl ⟨by rfl, ?_⟩) (by assumption) ?_
        rotate_left
        · intro w hSw; (try dsimp only at hSw); go_simp; try with_reducible rfl
        simp only [Act.put, List.setIfInBounds_toArray, List.set_cons_zero, List.set_cons_succ, List.getElem_toArray, List.getElem_cons_succ, List.getElem_cons_zero]
        refine wpAnyH_take (i := 4) (v := ?_) rfl (by kernel_rfl) (by kernel_rfl) (by kernel_rfl) (fun _ _ _ h => h) (Or.inl ⟨by rfl, ?_⟩) (by assumption) ?_
        rotate_left
        · intro w hSw; (try dsimp only at hSw); go_simp; try with_reducible rfl
        simp only [Act.put, List.setIfInBounds_toArray, List.set_cons_zero, List.set_cons_succ, List.getElem_toArray, List.getElem_cons_succ, List.getElem_cons_zero]
        refine wpAnyH_take (i := 5) (v := ?_) rfl (by kernel_rfl) (by kernel_rfl) (by kernel_rfl) (fun _ _ _ h => h) (Or.inl ⟨by rfl, ?_⟩) (by assumption) ?_
        rotate_left
        · intro w hSw; (try dsimp only at hSw); go_simp; try with_reducible rfl
        simp only [Act.put, List.setIfInBounds_toArray, List.set_cons_zero, List.set_cons_succ, List.getElem_toArray, List.getElem_cons_succ, List.getElem_cons_zero]
        refine wpAnyH_take (i := 6) (v := ?_) rfl (by kernel_rfl) (by kernel_rfl) (by kernel_rfl) (fun _ _ _ h => h) (Or.inl ⟨by rfl, ?_⟩) (by assumption) ?_
        rotate_left
        · intro w hSw; (try dsimp only at hSw); go_simp; try with_reducible rfl
        simp only [Act.put, List.setIfInBounds_toArray, List.set_cons_zero, List.set_cons_succ, List.getElem_toArray, List.getElem_cons_succ, List.getElem_cons_zero]
        refine wpAnyH_take (i := 7) (v := ?_) rfl (by kernel_rfl) (by kernel_rfl) (by kernel_rfl) (fun _ _ _ h => h) (Or.inl ⟨by rfl, ?_⟩) (by assumption) ?_
        rotate_left
        · intro w hSw; (try dsimp only at hSw); go_simp; try with_reducible rfl
        simp only [Act.put, List.setIfInBounds_toArray, List.set_cons_zero, List.set_cons_succ, List.getElem_toArray, List.getElem_cons_succ, List.getElem_cons_zero]
        refine wpAnyH_take (i := 8) (v := ?_) rfl (by kernel_rfl) (by kernel_rfl) (by kernel_rfl) (fun _ _ _ h => h) (Or.inl ⟨by rfl, ?_⟩) (by assumption) ?_
        rotate_left
        · intro w hSw; (try dsimp only at hSw); go_simp; try with_reducible rfl
        simp only [Act.put, List.setIfInBounds_toArray, List.set_cons_zero, List.set_cons_succ, List.getElem_toArray, List.getElem_cons_succ, List.getElem_cons_zero]
        refine wpAnyH_take (i := 9) (v := ?_) rfl (by kernel_rfl) (by kernel_rfl) (by kernel_rfl) (fun _ _ _ h => h) (Or.inl ⟨by rfl, ?_⟩) (by assumption) ?_
        rotate_left
        · intro w hSw; (try dsimp only at hSw); go_simp; try with_reducible rfl
        simp only [Act.put, List.setIfInBounds_toArray, List.set_cons_zero, List.set_cons_succ, List.getElem_toArray, List.getElem_cons_succ, List.getElem_cons_zero]
        refine wpAnyH_take (i := 12) (v := ?_) rfl (by kernel_rfl) (by kernel_rfl) (by kernel_rfl) (fun _ _ _ h => h) (Or.inl ⟨by rfl, ?_⟩) (by assumption) ?_
        rotate_left
        · intro w hSw; (try dsimp only at hSw); go_simp; try with_reducible rfl
        simp only [Act.put, List.setIfInBounds_toArray, List.set_cons_zero, List.set_cons_succ, List.getElem_toArray, List.getElem_cons_succ, List.getElem_cons_zero]
        refine wpAnyH_take (i := 13) (v := ?_) rfl (by kernel_rfl) (by kernel_rfl) (by kernel_rfl) (fun _ _ _ h => h) (Or.inl ⟨by rfl, ?_⟩) (by assumption) ?_
        rotate_left
        · intro w hSw; (try dsimp only at hSw); go_simp; try with_reducible rfl
        simp only [Act.put, List.setIfInBounds_toArray, List.set_cons_zero, List.set_cons_succ, List.getElem_toArray, List.getElem_cons_succ, List.getElem_cons_zero]
        refine wpAnyH_take (i := 14) (v := ?_) rfl (by kernel_rfl) (by kernel_rfl) (by kernel_rfl) (fun _ _ _ h => h) (Or.inl ⟨by rfl, ?_⟩) (by assumption) ?_
        rotate_left
        · intro w hSw; (try dsimp only at hSw); go_simp; try with_reducible rfl
        simp only [Act.put, List.setIfInBounds_toArray, List.set_cons_zero, List.set_cons_succ, List.getElem_toArray, List.getElem_cons_succ, List.getElem_cons_zero]
        refine wpAnyH_take (i := 15) (v := ?_) rfl (by kernel_rfl) (by kernel_rfl) (by kernel_rfl) (fun _ _ _ h => h) (Or.inl ⟨by rfl, ?_⟩) (by assumption) ?_
        rotate_left
        · intro w hSw; (try dsimp only at hSw); go_simp; try with_reducible rfl
        simp only [Act.put, List.setIfInBounds_toArray, List.set_cons_zero, List.set_cons_succ, List.getElem_toArray, List.getElem_cons_succ, List.getElem_cons_zero]
        refine wpAnyH_take (i := 16) (v := ?_) rfl (by kernel_rfl) (by kernel_rfl) (by kernel_rfl) (fun _ _ _ h => h) (Or.inl ⟨by rfl, ?_⟩) (by assumption) ?_
        rotate_left
        · intro w hSw; (try dsimp only at hSw); go_simp; try with_reducible rfl
        simp only [Act.put, List.setIfInBounds_toArray, List.set_cons_zero, List.set_cons_succ, List.getElem_toArray, List.getElem_cons_succ, List.getElem_cons_zero]
        refine wpAnyH_take (i := 17) (v := ?_) rfl (by kernel_rfl) (by kernel_rfl) (by kernel_rfl) (fun _ _ _ h => h) (Or.inl ⟨by rfl, ?_⟩) (by assumption) ?_
        rotate_left
        · intro w hSw; (try dsimp only at hSw); go_simp; try with_reducible rfl
        simp only [Act.put, List.setIfInBounds_toArray, List.set_cons_zero, List.set_cons_succ, List.getElem_toArray, List.getElem_cons_succ, List.getElem_cons_zero]
        refine wpAnyH_take (i := 18) (v := ?_) rfl (by kernel_rfl) (by kernel_rfl) (by kernel_rfl) (fun _ _ _ h => h) (Or.inl ⟨by rfl, ?_⟩) (by assumption) ?_
        rotate_left
        · intro w hSw; (try dsimp only at hSw); go_simp; try with_reducible rfl
        simp only [Act.put, List.setIfInBounds_toArray, List.set_cons_zero, List.set_cons_succ, List.getElem_toArray, List.getElem_cons_succ, List.getElem_cons_zero]
        refine wpAnyH_take (i := 19) (v := ?_) rfl (by kernel_rfl) (by kernel_rfl) (by kernel_rfl) (fun _ _ _ h => h) (Or.inl ⟨by rfl, ?_⟩) (by assumption) ?_
        rotate_left
        · intro w hSw; (try dsimp only at hSw); go_simp; try with_reducible rfl
        simp only [Act.put, List.setIfInBounds_toArray, List.set_cons_zero, List.set_cons_succ, List.getElem_toArray, List.getElem_cons_succ, List.getElem_cons_zero]
        refine wpAnyH_take (i := 20) (v := ?_) rfl (by kernel_rfl) (by kernel_rfl) (by kernel_rfl) (fun _ _ _ h => h) (Or.inl ⟨by rfl, ?_⟩) (by assumption) ?_
        rotate_left
        · intro w hSw; (try dsimp only at hSw); go_simp; try with_reducible rfl
        simp only [Act.put, List.setIfInBounds_toArray, List.set_cons_zero, List.set_cons_succ, List.getElem_toArray, List.getElem_cons_succ, List.getElem_cons_zero]
        refine wpAnyH_ready (rs := [10]) (by kernel_rfl) (by simp) ?_
        refine AllReadyH.cons rfl (fun K hK => ?_) AllReadyH.nil
        go_simp
        refine (HP1.out _).mono ?_
        rintro e wz ⟨rfl, hz⟩
        rw [hz]
        refine hK.out _ _ hHeld (fun _ => ?_)
        clear hK K hz wz
        refine wpAnyH_take (i := 11) (v := ?_) rfl (by kernel_rfl) (by kernel_rfl) (by kernel_rfl) (fun _ _ _ h => h) (Or.inl ⟨by rfl, ?_⟩) (by assumption) ?_
        rotate_left
        · intro w hSw; (try dsimp only at hSw); go_simp; try with_reducible rfl
        simp only [Act.put, List.setIfInBounds_toArray, List.set_cons_zero, List.set_cons_succ, List.getElem_toArray, List.getElem_cons_succ, List.getElem_cons_zero]
        refine wpAnyH_ready (rs := [21]) (by kernel_rfl) (by simp) ?_
        refine AllReadyH.cons rfl (fun K hK => ?_) AllReadyH.nil
        go_simp
        refine (HP2.out _).mono ?_
        rintro e wz ⟨rfl, hz⟩
        rw [hz]
        refine hK.out _ _ hHeld (fun _ => ?_)
        clear hK K hz wz
        refine wpAnyH_take (i := 22) (v := ?_) rfl (by kernel_rfl) (by kernel_rfl) (by kernel_rfl) (fun _ _ _ h => h) (Or.inl ⟨by rfl, ?_⟩) (by assumption) ?_
        rotate_left
        · intro w hSw; (try dsimp only at hSw); go_simp; try with_reducible rfl
        simp only [Act.put, List.setIfInBounds_toArray, List.set_cons_zero, List.set_cons_succ, List.getElem_toArray, List.getElem_cons_succ, List.getElem_cons_zero]
        refine wpAnyH_take (i := 23) (v := ?_) rfl (by kernel_rfl) (by kernel_rfl) (by kernel_rfl) (fun _ _ _ h => h) (Or.inl ⟨by rfl, ?_⟩) (by assumption) ?_
        rotate_left
        · intro w hSw; (try dsimp only at hSw); go_simp; try with_reducible rfl
        simp only [Act.put, List.setIfInBounds_toArray, List.set_cons_zero, List.set_cons_succ, List.getElem_toArray, List.getElem_cons_succ, List.getElem_cons_zero]
        have hAl : Below W.heap.size W (W.alloc (.cells #[.int .i64 (a.x + sx), .int .i64 (a.y + sy)] 97)) := (Below.refl _ _).alloc (Nat.le_refl _) _
        have HI3 : Hid ((CNew (W.alloc (.cells #[.int .i64 (a.x + sx), .int .i64 (a.y + sy)] 97)) (w.heap.size + 2) (.slice a' (k + 1) c') (legK a b k) ∧ Below w.heap.size w (W.alloc (.cells #[.int .i64 (a.x + sx), .int .i64 (a.y + sy)] 97)) ∧ w.heap.size + 3 ≤ (W.alloc (.cells #[.int .i64 (a.x + sx), .int .i64 (a.y + sy)] 97)).heap.size) ∧ ((W.alloc (.cells #[.int .i64 (a.x + sx), .int .i64 (a.y + sy)] 97)).cell? ⟨w.heap.size, 0, none⟩ = some (.int .i64 a.x) ∧ (W.alloc (.cells #[.int .i64 (a.x + sx), .int .i64 (a.y + sy)] 97)).cell? ⟨w.heap.size, 1, none⟩ = some (.int .i64 a.y)) ∧ (W.alloc (.cells #[.int .i64 (a.x + sx), .int .i64 (a.y + sy)] 97)).cell? ⟨w.heap.size + 1, 0, none⟩ = some (.int .i64 b.x) ∧ (W.alloc (.cells #[.int .i64 (a.x + sx), .int .i64 (a.y + sy)] 97)).cell? ⟨w.heap.size + 1, 1, none⟩ = some (.int .i64 b.y)) := ⟨⟨ownC_keep HI2.out.1.1 hAl, below_step HI2.out.1.2.1 hAl, Nat.le_trans HI2.out.1.2.2 hAl.size⟩, ⟨cell_keep hAl (Nat.le_refl _) HI2.out.2.1.1, cell_keep hAl (Nat.le_refl _) HI2.out.2.1.2⟩, cell_keep hAl (Nat.le_refl _) HI2.out.2.2.1, cell_keep hAl (Nat.le_refl _) HI2.out.2.2.2⟩
        have HNB : Hid ((W.alloc (.cells #[.int .i64 (a.x + sx), .int .i64 (a.y + sy)] 97)).heap[W.heap.size]? = some (.cells #[.int .i64 (a.x + sx), .int .i64 (a.y + sy)] 97 (0, 0))) := heap_newW W _
        clear hHeld hAl HI2 hid
        refine wpAnyH_ready (rs := [24]) (by kernel_rfl) (by simp) ?_
        refine AllReadyH.cons rfl (fun K hK => ?_) AllReadyH.nil
        go_simp
        refine hK.out _ _ HI3.out.2 (fun _ => ?_)
        clear hK K
        generalize (W.alloc (.cells #[.int .i64 (a.x + sx), .int .i64 (a.y + sy)] 97)) = W2 at *
        generalize W.heap.size = XN at *
        have hid := HI3.out.1.1
        unfold CNew at hid
        rw [legK_len] at hid
        refine wpAnyH_ready (rs := [25]) (by kernel_rfl) (by simp) ?_
        refine AllReadyH.cons rfl (fun K hK => ?_) AllReadyH.nil
        refine step_append_any _ rfl _ _ 55 rfl (w.heap.size + 2) 97 i0 _ 2 16 Try.underlying55 hi0 hz0 hz1 hz2 rfl (by decide) _ (k + 1) _ rfl hid _ 1 1 [.int .i64 (a.x + sx), .int .i64 (a.y + sy)] rfl (.inr ⟨_, rfl, World.news_of_block HNB.out⟩) rfl (fun u hu => by simp at hu; rcases hu with rfl | rfl <;> rfl) (by unfold maxLen; omega) (by omega) (by have := HI3.out.1.2.2; omega) ?_
        intro vq wx hown hgrow hat
        have HI4 : Hid ((CNew wx (w.heap.size + 2) vq (legK a b (k + 1)) ∧ Below w.heap.size w wx ∧ w.heap.size + 3 ≤ wx.heap.size) ∧ (wx.cell? ⟨w.heap.size, 0, none⟩ = some (.int .i64 a.x) ∧ wx.cell? ⟨w.heap.size, 1, none⟩ = some (.int .i64 a.y)) ∧ wx.cell? ⟨w.heap.size + 1, 0, none⟩ = some (.int .i64 b.x) ∧ wx.cell? ⟨w.heap.size + 1, 1, none⟩ = some (.int .i64 b.y)) := by
          have hS : ∀ (B o : Nat) (u : Value), B < w.heap.size + 2 → W2.cell? ⟨B, o, none⟩ = some u → wx.cell? ⟨B, o, none⟩ = some u := fun B o u hB hu =>
            (World.cell?_of_block (hgrow.block B (lt_of_cell hu) (fun e => by have := ownC_ge hid B e.symm; omega))).trans hu
          refine ⟨⟨?_, HI3.out.1.2.1.grown hgrow HI3.out.1.2.1.size (fun q hq => by have := ownC_ge hid q hq; omega), Nat.le_trans HI3.out.1.2.2 hgrow.size⟩, ⟨hS _ _ _ (by omega) HI3.out.2.1.1, hS _ _ _ (by omega) HI3.out.2.1.2⟩, hS _ _ _ (by omega) HI3.out.2.2.1, hS _ _ _ (by omega) HI3.out.2.2.2⟩
          rw [legK_succ, HCC.out]
          exact CNew.snoc (legK_len a b k) hown
        obtain ⟨qa, qc, rfl⟩ := ownC_slice hown
        have hHeld := HI4.out.2
        refine hK.out _ _ hHeld (fun _ => ?_)
        clear hK K hown hgrow hat hid HI3 HNB
        refine wpAnyH_take (i := 26) (v := ?_) rfl (by kernel_rfl) (by kernel_rfl) (by kernel_rfl) (fun _ _ _ h => h) (Or.inl ⟨by rfl, ?_⟩) (by assumption) ?_
        rotate_left
        · intro w hSw; (try dsimp only at hSw); go_simp; try with_reducible rfl
        simp only [Act.put, List.setIfInBounds_toArray, List.set_cons_zero, List.set_cons_succ, List.getElem_toArray, List.getElem_cons_succ, List.getElem_cons_zero]
        clear hHeld
        refine wpAnyH_done (by kernel_rfl) ?_ _
        refine NoPanic.normal ?_
        go_wp2
        exact ⟨⟨.slice qa (k + 1 + 1) qc, .int .i64 ((k : Int) + 1 + 1), _, _, _, _, _, _, _, _, _, _, _, _, _, _, _, _, _, _, _, _, _, _, _, _, _, _, _, _, _, _, _, ⟨k + 1, by omega, by go_num, ⟨_, _, rfl⟩, HI4⟩, rfl⟩, by simp [intOf]; omega⟩
      · have HF : Hid (legK a b k = legU a b) := HEN.out k (by omega)
        have hk1 : ¬ (k : Int) + 1 ≤ legN a b := by omega
        go_wp2
        go_ret
        exact ⟨.slice a' (k + 1) c', rfl, by have h := HI.out.1.1; rw [HF.out] at h; exact ownC_mono h (by omega), HI.out.1.2.1⟩
  · have hq : (b.x == a.x) = false := by simp [x2]
    clear x2
    go_enter Try.func60, Try.ntmps60
    go_wp2_with fail
    generalize (((w.alloc (.cells #[.int .i64 a.x, .int .i64 a.y] 97)).alloc (.cells #[.int .i64 b.x, .int .i64 b.y] 97)).alloc (.cells #[] 97)) = w1 at *
    refine wp_region_noPanic ?_
    refine wp_region_held_drew (S := fun w' => (w'.cell? ⟨w.heap.size, 0, none⟩ = some (.int .i64 a.x) ∧ w'.cell? ⟨w.heap.size, 1, none⟩ = some (.int .i64 a.y)) ∧ w'.cell? ⟨w.heap.size + 1, 0, none⟩ = some (.int .i64 b.x) ∧ w'.cell? ⟨w.heap.size + 1, 1, none⟩ = some (.int .i64 b.y)) (by kernel_rfl) ?_ (fun hHeld => ?_)
    · exact ⟨⟨cell_keep (Below.refl _ _).drew (Nat.le_refl _) HS.out.1.1, cell_keep (Below.refl _ _).drew (Nat.le_refl _) HS.out.1.2⟩, cell_keep (Below.refl _ _).drew (Nat.le_refl _) HS.out.2.1, cell_keep (Below.refl _ _).drew (Nat.le_refl _) HS.out.2.2⟩
    have HBW : Hid (Below w.heap.size w w1.drew) := below_step HB.out (Below.refl _ _).drew
    have HRW : Hid (w1.drew.heap[w.heap.size + 2]? = some (.cells #[] 97 (0, 0)) ∧ w1.drew.heap.size = w.heap.size + 3) := ⟨HR.out, HZ.out⟩
    clear c0 c1 c2 c3
    generalize w1.drew = W at *
    refine wpAnyH_take (i := 0) (v := ?_) rfl (by kernel_rfl) (by kernel_rfl) (by kernel_rfl) (fun _ _ _ h => h) (Or.inl ⟨by rfl, ?_⟩) (by assumption) ?_
    rotate_left
    · intro w hSw; (try dsimp only at hSw); go_simp; try with_reducible rfl
    simp only [Act.put, List.setIfInBounds_toArray, List.set_cons_zero, List.set_cons_succ, List.getElem_toArray, List.getElem_cons_succ, List.getElem_cons_zero]
    refine wpAnyH_take (i := 1) (v := ?_) rfl (by kernel_rfl) (by kernel_rfl) (by kernel_rfl) (fun _ _ _ h => h) (Or.inl ⟨by rfl, ?_⟩) (by assumption) ?_
    rotate_left
    · intro w hSw; (try dsimp only at hSw); go_simp; try with_reducible rfl
    simp only [Act.put, List.setIfInBounds_toArray, List.set_cons_zero, List.set_cons_succ, List.getElem_toArray, List.getElem_cons_succ, List.getElem_cons_zero]
    refine wpAnyH_take (i := 2) (v := ?_) rfl (by kernel_rfl) (by kernel_rfl) (by kernel_rfl) (fun _ _ _ h => h) (Or.inl ⟨by rfl, ?_⟩) (by assumption) ?_
    rotate_left
    · intro w hSw; (try dsimp only at hSw); go_simp; try with_reducible rfl
    simp only [Act.put, List.setIfInBounds_toArray, List.set_cons_zero, List.set_cons_succ, List.getElem_toArray, List.getElem_cons_succ, List.getElem_cons_zero]
    refine wpAnyH_take (i := 3) (v := ?_) rfl (by kernel_rfl) (by kernel_rfl) (by kernel_rfl) (fun _ _ _ h => h) (Or.inl ⟨by rfl, ?_⟩) (by assumption) ?_
    rotate_left
    · intro w hSw; (try dsimp only at hSw); go_simp; try with_reducible rfl
    simp only [Act.put, List.setIfInBounds_toArray, List.set_cons_zero, List.set_cons_succ, List.getElem_toArray, List.getElem_cons_succ, List.getElem_cons_zero]
    refine wpAnyH_take (i := 4) (v := ?_) rfl (by kernel_rfl) (by kernel_rfl) (by kernel_rfl) (fun _ _ _ h => h) (Or.inl ⟨by rfl, ?_⟩) (by assumption) ?_
    rotate_left
    · intro w hSw; (try dsimp only at hSw); go_simp; try with_reducible rfl
    simp only [Act.put, List.setIfInBounds_toArray, List.set_cons_zero, List.set_cons_succ, List.getElem_toArray, List.getElem_cons_succ, List.getElem_cons_zero]
    refine wpAnyH_take (i := 6) (v := ?_) rfl (by kernel_rfl) (by kernel_rfl) (by kernel_rfl) (fun _ _ _ h => h) (Or.inl ⟨by rfl, ?_⟩) (by assumption) ?_
    rotate_left
    · intro w hSw; (try dsimp only at hSw); go_simp; try with_reducible rfl
    simp only [Act.put, List.setIfInBounds_toArray, List.set_cons_zero, List.set_cons_succ, List.getElem_toArray, List.getElem_cons_succ, List.getElem_cons_zero]
    refine wpAnyH_take (i := 7) (v := ?_) rfl (by kernel_rfl) (by kernel_rfl) (by kernel_rfl) (fun _ _ _ h => h) (Or.inl ⟨by rfl, ?_⟩) (by assumption) ?_
    rotate_left
    · intro w hSw; (try dsimp only at hSw); go_simp; try with_reducible rfl
    simp only [Act.put, List.setIfInBounds_toArray, List.set_cons_zero, List.set_cons_succ, List.getElem_toArray, List.getElem_cons_succ, List.getElem_cons_zero]
    refine wpAnyH_take (i := 8) (v := ?_) rfl (by kernel_rfl) (by kernel_rfl) (by kernel_rfl) (fun _ _ _ h => h) (Or.inl ⟨by rfl, ?_⟩) (by assumption) ?_
    rotate_left
    · intro w hSw; (try dsimp only at hSw); go_simp; try with_reducible rfl
    simp only [Act.put, List.setIfInBounds_toArray, List.set_cons_zero, List.set_cons_succ, List.getElem_toArray, List.getElem_cons_succ, List.getElem_cons_zero]
    refine wpAnyH_take (i := 9) (v := ?_) rfl (by kernel_rfl) (by kernel_rfl) (by kernel_rfl) (fun _ _ _ h => h) (Or.inl ⟨by rfl, ?_⟩) (by assumption) ?_
    rotate_left
    · intro w hSw; (try dsimp only at hSw); go_simp; try with_reducible rfl
    simp only [Act.put, List.setIfInBounds_toArray, List.set_cons_zero, List.set_cons_succ, List.getElem_toArray, List.getElem_cons_succ, List.getElem_cons_zero]
    refine wpAnyH_take (i := 10) (v := ?_) rfl (by kernel_rfl) (by kernel_rfl) (by kernel_rfl) (fun _ _ _ h => h) (Or.inl ⟨by rfl, ?_⟩) (by assumption) ?_
    rotate_left
    · intro w hSw; (try dsimp only at hSw); go_simp; try with_reducible rfl
    simp only [Act.put, List.setIfInBounds_toArray, List.set_cons_zero, List.set_cons_succ, List.getElem_toArray, List.getElem_cons_succ, List.getElem_cons_zero]
    refine wpAnyH_ready (rs := [5]) (by kernel_rfl) (by simp) ?_
    refine AllReadyH.cons rfl (fun K hK => ?_) AllReadyH.nil
    go_simp
    refine (HA1.out _).mono ?_
    rintro e wz ⟨rfl, hz⟩
    rw [hz]
    refine hK.out _ _ hHeld (fun _ => ?_)
    clear hK K hz wz
    refine wpAnyH_ready (rs := [11]) (by kernel_rfl) (by simp) ?_
    refine AllReadyH.cons rfl (fun K hK => ?_) AllReadyH.nil
    go_simp
    refine (HA2.out _).mono ?_
    rintro e wz ⟨rfl, hz⟩
    rw [hz]
    refine hK.out _ _ hHeld (fun _ => ?_)
    clear hK K hz wz
    refine wpAnyH_ready (rs := [12]) (by kernel_rfl) (by simp) ?_
    refine AllReadyH.cons rfl (fun K hK => ?_) AllReadyH.nil
    go_simp
    refine (HMX.out _).mono ?_
    rintro e wz ⟨rfl, hz⟩
    rw [hz]
    refine hK.out _ _ hHeld (fun _ => ?_)
    clear hK K hz wz
    refine wpAnyH_take (i := 13) (v := ?_) rfl (by kernel_rfl) (by kernel_rfl) (by kernel_rfl) (fun _ _ _ h => h) (Or.inl ⟨by rfl, ?_⟩) (by assumption) ?_
    rotate_left
    · intro w hSw; (try dsimp only at hSw); go_simp; try with_reducible rfl
    simp only [Act.put, List.setIfInBounds_toArray, List.set_cons_zero, List.set_cons_succ, List.getElem_toArray, List.getElem_cons_succ, List.getElem_cons_zero]
    have HSW : Hid ((W.cell? ⟨w.heap.size, 0, none⟩ = some (.int .i64 a.x) ∧ W.cell? ⟨w.heap.size, 1, none⟩ = some (.int .i64 a.y)) ∧ W.cell? ⟨w.heap.size + 1, 0, none⟩ = some (.int .i64 b.x) ∧ W.cell? ⟨w.heap.size + 1, 1, none⟩ = some (.int .i64 b.y)) := hHeld
    clear hHeld
    refine wpAnyH_done (by kernel_rfl) ?_ _
    refine NoPanic.normal ?_
    obtain ⟨⟨c0, c1⟩, c2, c3⟩ := HSW.out
    have hid0 : W.ownsRow (w.heap.size + 2) 97 2 (.slice (some ⟨w.heap.size + 2, 0, none⟩) 0 0) 0 [] := ⟨rfl, .inr ⟨w.heap.size + 2, 0, #[], rfl, Nat.le_refl _, HRW.out.1, Nat.le_refl _, Nat.zero_le _, rfl, rfl⟩⟩
    go_wp2_with (at_builtin; refine wpList_append_any _ rfl _ _ 55 rfl (w.heap.size + 2) 97 i0 _ 2 16 Try.underlying55 hi0 hz0 hz1 hz2 rfl (by decide) _ 0 _ rfl (ownC_keep hid0 ((Below.refl _ _).alloc (Nat.le_refl _) _)) _ 1 1 [.int .i64 a.x, .int .i64 a.y] rfl (.inr ⟨_, rfl, World.news_of_block (heap_newW W (.cells #[.int .i64 a.x, .int .i64 a.y] 97))⟩) rfl (fun u hu => by simp at hu; rcases hu with rfl | rfl <;> rfl) (by unfold maxLen; omega) (by omega) (by have h := HRW.out.2; simp; omega) ?_; intro vq wx hown hgrow hat)
    have hbA : Below w.heap.size w (W.alloc (.cells #[.int .i64 a.x, .int .i64 a.y] 97)) := below_step HBW.out ((Below.refl _ _).alloc (Nat.le_refl _) _)
    have HQ : Hid ((CNew wx (w.heap.size + 2) vq (legK a b 0) ∧ Below w.heap.size w wx ∧ w.heap.size + 3 ≤ wx.heap.size) ∧ (wx.cell? ⟨w.heap.size, 0, none⟩ = some (.int .i64 a.x) ∧ wx.cell? ⟨w.heap.size, 1, none⟩ = some (.int .i64 a.y)) ∧ wx.cell? ⟨w.heap.size + 1, 0, none⟩ = some (.int .i64 b.x) ∧ wx.cell? ⟨w.heap.size + 1, 1, none⟩ = some (.int .i64 b.y)) := by
      have hS : ∀ (B o : Nat) (u : Value), B < w.heap.size + 2 → W.cell? ⟨B, o, none⟩ = some u → wx.cell? ⟨B, o, none⟩ = some u := fun B o u hB hu => by
        have h1 := cell_keep ((Below.refl _ _).alloc (Nat.le_refl _) (.cells #[.int .i64 a.x, .int .i64 a.y] 97) : Below W.heap.size W _) (Nat.le_refl _) hu
        exact (World.cell?_of_block (hgrow.block B (lt_of_cell h1) (fun e => by have := ownC_ge hid0 B e.symm; omega))).trans h1
      refine ⟨⟨hown, hbA.grown hgrow hbA.size (fun q hq => by have := ownC_ge hid0 q hq; omega), ?_⟩, ⟨hS _ _ _ (by omega) HSW.out.1.1, hS _ _ _ (by omega) HSW.out.1.2⟩, hS _ _ _ (by omega) HSW.out.2.1, hS _ _ _ (by omega) HSW.out.2.2⟩
      have := hgrow.size
      rw [World.size_alloc] at this
      have h := HRW.out.2
      omega
    obtain ⟨qa, qc, rfl⟩ := ownC_slice hown
    clear hown hgrow hat hid0 hbA HBW HRW HSW c0 c1 c2 c3
    go_loopw [5, 9] (fun v i wr => ∃ k : Nat, k ≤ NNat a b ∧ i = .int .i64 ((k : Int) + 1) ∧ (∃ a' c', v = .slice a' (k + 1) c') ∧ Hid ((CNew wr (w.heap.size + 2) v (legK a b k) ∧ Below w.heap.size w wr ∧ w.heap.size + 3 ≤ wr.heap.size) ∧ (wr.cell? ⟨w.heap.size, 0, none⟩ = some (.int .i64 a.x) ∧ wr.cell? ⟨w.heap.size, 1, none⟩ = some (.int .i64 a.y)) ∧ wr.cell? ⟨w.heap.size + 1, 0, none⟩ = some (.int .i64 b.x) ∧ wr.cell? ⟨w.heap.size + 1, 1, none⟩ = some (.int .i64 b.y))) (fun _ i _ => NNat a b + 1 - (intOf i).toNat)
    case atStart => exact ⟨0, Nat.zero_le _, rfl, ⟨_, _, rfl⟩, HQ⟩
    case round =>
      clear HQ
      obtain ⟨k, hk, rfl, ⟨a', c', rfl⟩, HI⟩ := hrel
      by_cases hlt : k < NNat a b
      · have hk1 : (k : Int) + 1 ≤ legN a b := by omega
        have HP1 : Hid (∀ wx : World, Calls Try.prog 96 #[.int .i64 (b.x - a.x), .int .i64 ((k : Int) + 1), .int .i64 (legN a b)] wx fun e w' => e = .returned (.int .i64 (partS (b.x - a.x) ((k : Int) + 1) (legN a b))) ∧ w' = wx) := fun wx => l7Part_any _ _ _ wx ⟨by omega, by omega⟩ (by omega) (by omega) (by omega) hle
        have HP2 : Hid (∀ wx : World, Calls Try.prog 96 #[.int .i64 (b.y - a.y), .int .i64 ((k : Int) + 1), .int .i64 (legN a b)] wx fun e w' => e = .returned (.int .i64 (partS (b.y - a.y) ((k : Int) + 1) (legN a b))) ∧ w' = wx) := fun wx => l7Part_any _ _ _ wx ⟨by omega, by omega⟩ (by omega) (by omega) (by omega) hle
        have e1 := partS_bd (b.x - a.x) ((k : Int) + 1) (legN a b) ⟨by omega, by omega⟩ (by omega) (by omega) (by omega) hle
        have e2 := partS_bd (b.y - a.y) ((k : Int) + 1) (legN a b) ⟨by omega, by omega⟩ (by omega) (by omega) (by omega) hle
        have HCC : Hid (celS a b ((k : Int) + 1) = ⟨a.x + partS (b.x - a.x) ((k : Int) + 1) (legN a b), a.y + partS (b.y - a.y) ((k : Int) + 1) (legN a b)⟩) := rfl
        generalize partS (b.x - a.x) ((k : Int) + 1) (legN a b) = sx at *
        generalize partS (b.y - a.y) ((k : Int) + 1) (legN a b) = sy at *
        have hw5 : IntKind.i64.wrap (a.x + sx) = a.x + sx := by rw [IntKind.wrap_i64]; omega
        have hw6 : IntKind.i64.wrap (a.y + sy) = a.y + sy := by rw [IntKind.wrap_i64]; omega
        have hid := HI.out.1.1
        unfold CNew at hid
        rw [legK_len] at hid
        have hsz := HI.out.1.2.2
        have HI2 : Hid ((CNew wr.drew (w.heap.size + 2) (.slice a' (k + 1) c') (legK a b k) ∧ Below w.heap.size w wr.drew ∧ w.heap.size + 3 ≤ wr.drew.heap.size) ∧ (wr.drew.cell? ⟨w.heap.size, 0, none⟩ = some (.int .i64 a.x) ∧ wr.drew.cell? ⟨w.heap.size, 1, none⟩ = some (.int .i64 a.y)) ∧ wr.drew.cell? ⟨w.heap.size + 1, 0, none⟩ = some (.int .i64 b.x) ∧ wr.drew.cell? ⟨w.heap.size + 1, 1, none⟩ = some (.int .i64 b.y)) := ⟨⟨ownC_keep HI.out.1.1 (Below.refl _ _).drew, below_step HI.out.1.2.1 (Below.refl _ _).drew, hsz⟩, ⟨cell_keep (Below.refl _ _).drew (Nat.le_refl _) HI.out.2.1.1, cell_keep (Below.refl _ _).drew (Nat.le_refl _) HI.out.2.1.2⟩, cell_keep (Below.refl _ _).drew (Nat.le_refl _) HI.out.2.2.1, cell_keep (Below.refl _ _).drew (Nat.le_refl _) HI.out.2.2.2⟩
        go_wp2_with fail
        refine wp_region_noPanic ?_
        refine wp_region_held_drew (S := fun w' => (w'.cell? ⟨w.heap.size, 0, none⟩ = some (.int .i64 a.x) ∧ w'.cell? ⟨w.heap.size, 1, none⟩ = some (.int .i64 a.y)) ∧ w'.cell? ⟨w.heap.size + 1, 0, none⟩ = some (.int .i64 b.x) ∧ w'.cell? ⟨w.heap.size + 1, 1, none⟩ = some (.int .i64 b.y)) (by kernel_rfl) ?_ (fun hHeld => ?_)
        · exact HI2.out.2
        clear HI
        generalize wr.drew = W at *
        refine wpAnyH_take (i := 0) (v := ?_) rfl (by kernel_rfl) (by kernel_rfl) (by kernel_rfl) (fun _ _ _ h => h) (Or.inl ⟨by rfl, ?_⟩) (by assumption) ?_
        rotate_left
        · intro w hSw; (try dsimp only at hSw); go_simp; try with_reducible rfl
        simp only [Act.put, List.setIfInBounds_toArray, List.set_cons_zero, List.set_cons_succ, List.getElem_toArray, List.getElem_cons_succ, List.getElem_cons_zero]
        refine wpAnyH_take (i := 1) (v := ?_) rfl (by kernel_rfl) (by kernel_rfl) (by kernel_rfl) (fun _ _ _ h => h) (Or.inl ⟨by rfl, ?_⟩) (by assumption) ?_
        rotate_left
        · intro w hSw; (try dsimp only at hSw); go_simp; try with_reducible rfl
        simp only [Act.put, List.setIfInBounds_toArray, List.set_cons_zero, List.set_cons_succ, List.getElem_toArray, List.getElem_cons_succ, List.getElem_cons_zero]
        refine wpAnyH_take (i := 2) (v := ?_) rfl (by kernel_rfl) (by kernel_rfl) (by kernel_rfl) (fun _ _ _ h => h) (Or.inl ⟨by rfl, ?_⟩) (by assumption) ?_
        rotate_left
        · intro w hSw; (try dsimp only at hSw); go_simp; try with_reducible rfl
        simp only [Act.put, List.setIfInBounds_toArray, List.set_cons_zero, List.set_cons_succ, List.getElem_toArray, List.getElem_cons_succ, List.getElem_cons_zero]
        refine wpAnyH_take (i := 3) (v := ?_) rfl (by kernel_rfl) (by kernel_rfl) (by kernel_rfl) (fun _ _ _ h => h) (Or.inl ⟨by rfl, ?_⟩) (by assumption) ?_
        rotate_left
        · intro w hSw; (try dsimp only at hSw); go_simp; try with_reducible rfl
        simp only [Act.put, List.setIfInBounds_toArray, List.set_cons_zero, List.set_cons_succ, List.getElem_toArray, List.getElem_cons_succ, List.getElem_cons_zero]
        refine wpAnyH_take (i := 4) (v := ?_) rfl (by kernel_rfl) (by kernel_rfl) (by kernel_rfl) (fun _ _ _ h => h) (Or.inl ⟨by rfl, ?_⟩) (by assumption) ?_
        rotate_left
        · intro w hSw; (try dsimp only at hSw); go_simp; try with_reducible rfl
        simp only [Act.put, List.setIfInBounds_toArray, List.set_cons_zero, List.set_cons_succ, List.getElem_toArray, List.getElem_cons_succ, List.getElem_cons_zero]
        refine wpAnyH_take (i := 5) (v := ?_) rfl (by kernel_rfl) (by kernel_rfl) (by kernel_rfl) (fun _ _ _ h => h) (Or.inl ⟨by rfl, ?_⟩) (by assumption) ?_
        rotate_left
        · intro w hSw; (try dsimp only at hSw); go_simp; try with_reducible rfl
        simp only [Act.put, List.setIfInBounds_toArray, List.set_cons_zero, List.set_cons_succ, List.getElem_toArray, List.getElem_cons_succ, List.getElem_cons_zero]
        refine wpAnyH_take (i := 6) (v := ?_) rfl (by kernel_rfl) (by kernel_rfl) (by kernel_rfl) (fun _ _ _ h => h) (Or.inl ⟨by rfl, ?_⟩) (by assumption) ?_
        rotate_left
        · intro w hSw; (try dsimp only at hSw); go_simp; try with_reducible rfl
        simp only [Act.put, List.setIfInBounds_toArray, List.set_cons_zero, List.set_cons_succ, List.getElem_toArray, List.getElem_cons_succ, List.getElem_cons_zero]
        refine wpAnyH_take (i := 7) (v := ?_) rfl (by kernel_rfl) (by kernel_rfl) (by kernel_rfl) (fun _ _ _ h => h) (Or.inl ⟨by rfl, ?_⟩) (by assumption) ?_
        rotate_left
        · intro w hSw; (try dsimp only at hSw); go_simp; try with_reducible rfl
        simp only [Act.put, List.setIfInBounds_toArray, List.set_cons_zero, List.set_cons_succ, List.getElem_toArray, List.getElem_cons_succ, List.getElem_cons_zero]
        refine wpAnyH_take (i := 8) (v := ?_) rfl (by kernel_rfl) (by kernel_rfl) (by kernel_rfl) (fun _ _ _ h => h) (Or.inl ⟨by rfl, ?_⟩) (by assumption) ?_
        rotate_left
        · intro w hSw; (try dsimp only at hSw); go_simp; try with_reducible rfl
        simp only [Act.put, List.setIfInBounds_toArray, List.set_cons_zero, List.set_cons_succ, List.getElem_toArray, List.getElem_cons_succ, List.getElem_cons_zero]
        refine wpAnyH_take (i := 9) (v := ?_) rfl (by kernel_rfl) (by kernel_rfl) (by kernel_rfl) (fun _ _ _ h => h) (Or.inl ⟨by rfl, ?_⟩) (by assumption) ?_
        rotate_left
        · intro w hSw; (try dsimp only at hSw); go_simp; try with_reducible rfl
        simp only [Act.put, List.setIfInBounds_toArray, List.set_cons_zero, List.set_cons_succ, List.getElem_toArray, List.getElem_cons_succ, List.getElem_cons_zero]
        refine wpAnyH_take (i := 12) (v := ?_) rfl (by kernel_rfl) (by kernel_rfl) (by kernel_rfl) (fun _ _ _ h => h) (Or.inl ⟨by rfl, ?_⟩) (by assumption) ?_
        rotate_left
        · intro w hSw; (try dsimp only at hSw); go_simp; try with_reducible rfl
        simp only [Act.put, List.setIfInBounds_toArray, List.set_cons_zero, List.set_cons_succ, List.getElem_toArray, List.getElem_cons_succ, List.getElem_cons_zero]
        refine wpAnyH_take (i := 13) (v := ?_) rfl (by kernel_rfl) (by kernel_rfl) (by kernel_rfl) (fun _ _ _ h => h) (Or.inl ⟨by rfl, ?_⟩) (by assumption) ?_
        rotate_left
        · intro w hSw; (try dsimp only at hSw); go_simp; try with_reducible rfl
        simp only [Act.put, List.setIfInBounds_toArray, List.set_cons_zero, List.set_cons_succ, List.getElem_toArray, List.getElem_cons_succ, List.getElem_cons_zero]
        refine wpAnyH_take (i := 14) (v := ?_) rfl (by kernel_rfl) (by kernel_rfl) (by kernel_rfl) (fun _ _ _ h => h) (Or.inl ⟨by rfl, ?_⟩) (by assumption) ?_
        rotate_left
        · intro w hSw; (try dsimp only at hSw); go_simp; try with_reducible rfl
        simp only [Act.put, List.setIfInBounds_toArray, List.set_cons_zero, List.set_cons_succ, List.getElem_toArray, List.getElem_cons_succ, List.getElem_cons_zero]
        refine wpAnyH_take (i := 15) (v := ?_) rfl (by kernel_rfl) (by kernel_rfl) (by kernel_rfl) (fun _ _ _ h => h) (Or.inl ⟨by rfl, ?_⟩) (by assumption) ?_
        rotate_left
        · intro w hSw; (try dsimp only at hSw); go_simp; try with_reducible rfl
        simp only [Act.put, List.setIfInBounds_toArray, List.set_cons_zero, List.set_cons_succ, List.getElem_toArray, List.getElem_cons_succ, List.getElem_cons_zero]
        refine wpAnyH_take (i := 16) (v := ?_) rfl (by kernel_rfl) (by kernel_rfl) (by kernel_rfl) (fun _ _ _ h => h) (Or.inl ⟨by rfl, ?_⟩) (by assumption) ?_
        rotate_left
        · intro w hSw; (try dsimp only at hSw); go_simp; try with_reducible rfl
        simp only [Act.put, List.setIfInBounds_toArray, List.set_cons_zero, List.set_cons_succ, List.getElem_toArray, List.getElem_cons_succ, List.getElem_cons_zero]
        refine wpAnyH_take (i := 17) (v := ?_) rfl (by kernel_rfl) (by kernel_rfl) (by kernel_rfl) (fun _ _ _ h => h) (Or.inl ⟨by rfl, ?_⟩) (by assumption) ?_
        rotate_left
        · intro w hSw; (try dsimp only at hSw); go_simp; try with_reducible rfl
        simp only [Act.put, List.setIfInBounds_toArray, List.set_cons_zero, List.set_cons_succ, List.getElem_toArray, List.getElem_cons_succ, List.getElem_cons_zero]
        refine wpAnyH_take (i := 18) (v := ?_) rfl (by kernel_rfl) (by kernel_rfl) (by kernel_rfl) (fun _ _ _ h => h) (Or.inl ⟨by rfl, ?_⟩) (by assumption) ?_
        rotate_left
        · intro w hSw; (try dsimp only at hSw); go_simp; try with_reducible rfl
        simp only [Act.put, List.setIfInBounds_toArray, List.set_cons_zero, List.set_cons_succ, List.getElem_toArray, List.getElem_cons_succ, List.getElem_cons_zero]
        refine wpAnyH_take (i := 19) (v := ?_) rfl (by kernel_rfl) (by kernel_rfl) (by kernel_rfl) (fun _ _ _ h => h) (Or.inl ⟨by rfl, ?_⟩) (by assumption) ?_
        rotate_left
        · intro w hSw; (try dsimp only at hSw); go_simp; try with_reducible rfl
        simp only [Act.put, List.setIfInBounds_toArray, List.set_cons_zero, List.set_cons_succ, List.getElem_toArray, List.getElem_cons_succ, List.getElem_cons_zero]
        refine wpAnyH_take (i := 20) (v := ?_) rfl (by kernel_rfl) (by kernel_rfl) (by kernel_rfl) (fun _ _ _ h => h) (Or.inl ⟨by rfl, ?_⟩) (by assumption) ?_
        rotate_left
        · intro w hSw; (try dsimp only at hSw); go_simp; try with_reducible rfl
        simp only [Act.put, List.setIfInBounds_toArray, List.set_cons_zero, List.set_cons_succ, List.getElem_toArray, List.getElem_cons_succ, List.getElem_cons_zero]
        refine wpAnyH_ready (rs := [10]) (by kernel_rfl) (by simp) ?_
        refine AllReadyH.cons rfl (fun K hK => ?_) AllReadyH.nil
        go_simp
        refine (HP1.out _).mono ?_
        rintro e wz ⟨rfl, hz⟩
        rw [hz]
        refine hK.out _ _ hHeld (fun _ => ?_)
        clear hK K hz wz
        refine wpAnyH_take (i := 11) (v := ?_) rfl (by kernel_rfl) (by kernel_rfl) (by kernel_rfl) (fun _ _ _ h => h) (Or.inl ⟨by rfl, ?_⟩) (by assumption) ?_
        rotate_left
        · intro w hSw; (try dsimp only at hSw); go_simp; try with_reducible rfl
        simp only [Act.put, List.setIfInBounds_toArray, List.set_cons_zero, List.set_cons_succ, List.getElem_toArray, List.getElem_cons_succ, List.getElem_cons_zero]
        refine wpAnyH_ready (rs := [21]) (by kernel_rfl) (by simp) ?_
        refine AllReadyH.cons rfl (fun K hK => ?_) AllReadyH.nil
        go_simp
        refine (HP2.out _).mono ?_
        rintro e wz ⟨rfl, hz⟩
        rw [hz]
        refine hK.out _ _ hHeld (fun _ => ?_)
        clear hK K hz wz
        refine wpAnyH_take (i := 22) (v := ?_) rfl (by kernel_rfl) (by kernel_rfl) (by kernel_rfl) (fun _ _ _ h => h) (Or.inl ⟨by rfl, ?_⟩) (by assumption) ?_
        rotate_left
        · intro w hSw; (try dsimp only at hSw); go_simp; try with_reducible rfl
        simp only [Act.put, List.setIfInBounds_toArray, List.set_cons_zero, List.set_cons_succ, List.getElem_toArray, List.getElem_cons_succ, List.getElem_cons_zero]
        refine wpAnyH_take (i := 23) (v := ?_) rfl (by kernel_rfl) (by kernel_rfl) (by kernel_rfl) (fun _ _ _ h => h) (Or.inl ⟨by rfl, ?_⟩) (by assumption) ?_
        rotate_left
        · intro w hSw; (try dsimp only at hSw); go_simp; try with_reducible rfl
        simp only [Act.put, List.setIfInBounds_toArray, List.set_cons_zero, List.set_cons_succ, List.getElem_toArray, List.getElem_cons_succ, List.getElem_cons_zero]
        have hAl : Below W.heap.size W (W.alloc (.cells #[.int .i64 (a.x + sx), .int .i64 (a.y + sy)] 97)) := (Below.refl _ _).alloc (Nat.le_refl _) _
        have HI3 : Hid ((CNew (W.alloc (.cells #[.int .i64 (a.x + sx), .int .i64 (a.y + sy)] 97)) (w.heap.size + 2) (.slice a' (k + 1) c') (legK a b k) ∧ Below w.heap.size w (W.alloc (.cells #[.int .i64 (a.x + sx), .int .i64 (a.y + sy)] 97)) ∧ w.heap.size + 3 ≤ (W.alloc (.cells #[.int .i64 (a.x + sx), .int .i64 (a.y + sy)] 97)).heap.size) ∧ ((W.alloc (.cells #[.int .i64 (a.x + sx), .int .i64 (a.y + sy)] 97)).cell? ⟨w.heap.size, 0, none⟩ = some (.int .i64 a.x) ∧ (W.alloc (.cells #[.int .i64 (a.x + sx), .int .i64 (a.y + sy)] 97)).cell? ⟨w.heap.size, 1, none⟩ = some (.int .i64 a.y)) ∧ (W.alloc (.cells #[.int .i64 (a.x + sx), .int .i64 (a.y + sy)] 97)).cell? ⟨w.heap.size + 1, 0, none⟩ = some (.int .i64 b.x) ∧ (W.alloc (.cells #[.int .i64 (a.x + sx), .int .i64 (a.y + sy)] 97)).cell? ⟨w.heap.size + 1, 1, none⟩ = some (.int .i64 b.y)) := ⟨⟨ownC_keep HI2.out.1.1 hAl, below_step HI2.out.1.2.1 hAl, Nat.le_trans HI2.out.1.2.2 hAl.size⟩, ⟨cell_keep hAl (Nat.le_refl _) HI2.out.2.1.1, cell_keep hAl (Nat.le_refl _) HI2.out.2.1.2⟩, cell_keep hAl (Nat.le_refl _) HI2.out.2.2.1, cell_keep hAl (Nat.le_refl _) HI2.out.2.2.2⟩
        have HNB : Hid ((W.alloc (.cells #[.int .i64 (a.x + sx), .int .i64 (a.y + sy)] 97)).heap[W.heap.size]? = some (.cells #[.int .i64 (a.x + sx), .int .i64 (a.y + sy)] 97 (0, 0))) := heap_newW W _
        clear hHeld hAl HI2 hid
        refine wpAnyH_ready (rs := [24]) (by kernel_rfl) (by simp) ?_
        refine AllReadyH.cons rfl (fun K hK => ?_) AllReadyH.nil
        go_simp
        refine hK.out _ _ HI3.out.2 (fun _ => ?_)
        clear hK K
        generalize (W.alloc (.cells #[.int .i64 (a.x + sx), .int .i64 (a.y + sy)] 97)) = W2 at *
        generalize W.heap.size = XN at *
        have hid := HI3.out.1.1
        unfold CNew at hid
        rw [legK_len] at hid
        refine wpAnyH_ready (rs := [25]) (by kernel_rfl) (by simp) ?_
        refine AllReadyH.cons rfl (fun K hK => ?_) AllReadyH.nil
        refine step_append_any _ rfl _ _ 55 rfl (w.heap.size + 2) 97 i0 _ 2 16 Try.underlying55 hi0 hz0 hz1 hz2 rfl (by decide) _ (k + 1) _ rfl hid _ 1 1 [.int .i64 (a.x + sx), .int .i64 (a.y + sy)] rfl (.inr ⟨_, rfl, World.news_of_block HNB.out⟩) rfl (fun u hu => by simp at hu; rcases hu with rfl | rfl <;> rfl) (by unfold maxLen; omega) (by omega) (by have := HI3.out.1.2.2; omega) ?_
        intro vq wx hown hgrow hat
        have HI4 : Hid ((CNew wx (w.heap.size + 2) vq (legK a b (k + 1)) ∧ Below w.heap.size w wx ∧ w.heap.size + 3 ≤ wx.heap.size) ∧ (wx.cell? ⟨w.heap.size, 0, none⟩ = some (.int .i64 a.x) ∧ wx.cell? ⟨w.heap.size, 1, none⟩ = some (.int .i64 a.y)) ∧ wx.cell? ⟨w.heap.size + 1, 0, none⟩ = some (.int .i64 b.x) ∧ wx.cell? ⟨w.heap.size + 1, 1, none⟩ = some (.int .i64 b.y)) := by
          have hS : ∀ (B o : Nat) (u : Value), B < w.heap.size + 2 → W2.cell? ⟨B, o, none⟩ = some u → wx.cell? ⟨B, o, none⟩ = some u := fun B o u hB hu =>
            (World.cell?_of_block (hgrow.block B (lt_of_cell hu) (fun e => by have := ownC_ge hid B e.symm; omega))).trans hu
          refine ⟨⟨?_, HI3.out.1.2.1.grown hgrow HI3.out.1.2.1.size (fun q hq => by have := ownC_ge hid q hq; omega), Nat.le_trans HI3.out.1.2.2 hgrow.size⟩, ⟨hS _ _ _ (by omega) HI3.out.2.1.1, hS _ _ _ (by omega) HI3.out.2.1.2⟩, hS _ _ _ (by omega) HI3.out.2.2.1, hS _ _ _ (by omega) HI3.out.2.2.2⟩
          rw [legK_succ, HCC.out]
          exact CNew.snoc (legK_len a b k) hown
        obtain ⟨qa, qc, rfl⟩ := ownC_slice hown
        have hHeld := HI4.out.2
        refine hK.out _ _ hHeld (fun _ => ?_)
        clear hK K hown hgrow hat hid HI3 HNB
        refine wpAnyH_take (i := 26) (v := ?_) rfl (by kernel_rfl) (by kernel_rfl) (by kernel_rfl) (fun _ _ _ h => h) (Or.inl ⟨by rfl, ?_⟩) (by assumption) ?_
        rotate_left
        · intro w hSw; (try dsimp only at hSw); go_simp; try with_reducible rfl
        simp only [Act.put, List.setIfInBounds_toArray, List.set_cons_zero, List.set_cons_succ, List.getElem_toArray, List.getElem_cons_succ, List.getElem_cons_zero]
        clear hHeld
        refine wpAnyH_done (by kernel_rfl) ?_ _
        refine NoPanic.normal ?_
        go_wp2
        exact ⟨⟨.slice qa (k + 1 + 1) qc, .int .i64 ((k : Int) + 1 + 1), _, _, _, _, _, _, _, _, _, _, _, _, _, _, _, _, _, _, _, _, _, _, _, _, _, _, _, _, _, _, _, ⟨k + 1, by omega, by go_num, ⟨_, _, rfl⟩, HI4⟩, rfl⟩, by simp [intOf]; omega⟩
      · have HF : Hid (legK a b k = legU a b) := HEN.out k (by omega)
        have hk1 : ¬ (k : Int) + 1 ≤ legN a b := by omega
        go_wp2
        go_ret
        exact ⟨.slice a' (k + 1) c', rfl, by have h := HI.out.1.1; rw [HF.out] at h; exact ownC_mono h (by omega), HI.out.1.2.1⟩
end Go.Proofs.Ytfjblenkcfdbiaa
