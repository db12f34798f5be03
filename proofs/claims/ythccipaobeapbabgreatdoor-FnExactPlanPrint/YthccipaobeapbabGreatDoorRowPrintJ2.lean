/-
  For the proof of print_card: part 2 (Form5, Form6, LaidForm, Tri, Slices, Copies).
-/
import Derived.OpenShut
import Derived.Lib.LaidU8
import Derived.Deep.Fields
import Derived.Deep.MidRow
import Derived.Deep.RegionHeld3
import Derived.Test.YthccipaobeapbabGreatDoorRowPrintJ1
/-
  The specification's PlanForm.
-/
namespace Go.Proofs.YthccipaobeapbabGreatDoor
open Go.RowKit
set_option linter.unusedSimpArgs false
attribute [local go_sem] Later.cell Later.frozen

theorem wpOp_weaken {P : Program} {ops : Array Oper} {Q : Exit → Act → World → Prop} {i : Nat} {K K' : Act → World → Prop} {a : Act} {w : World} (h : ∀ a w, K a w → K' a w) (hh : wpOp P ops Q i K a w) : wpOp P ops Q i K' a w := by
  exact wpOp_mono h hh
/-- More may be asked of the worlds on the way. -/
theorem wpAnyH_more {P : Program} {md : Region.Mode} {ops : Array Oper} {Q : Exit → Act → World → Prop} {S T : World → Prop} (hT : ∀ w, T w → S w) : ∀ (fuel : Nat) (listed : Array Bool) (a : Act) (w : World), wpAnyH P md ops Q T fuel listed a w → wpAnyH P md ops Q S fuel listed a w
  | 0, _, _, _, h => h
  | fuel + 1, _, _, _, h => ⟨h.1, fun i hi => wpOp_weaken (fun a' w' hh => ⟨hT _ hh.1, wpAnyH_more hT fuel _ a' w' hh.2⟩) (h.2 i hi)⟩

set_option maxRecDepth 100000 in
set_option maxHeartbeats 1600000 in
theorem specForm_ok (c : Chg) (w : World) (hf : c.f.size ≤ 1048576) (hv : c.v.size ≤ 1048576) (hok : formB c = true) :
    Calls Tryz.prog 42 #[.agg #[.string c.f, .int .i64 c.what, .int .i64 c.num, .string c.v]] w fun e w' => e = .returned (.string (formS c)) ∧ Below w.heap.size w w' := by
  have hfm : c.f.size ≤ maxLen := by unfold maxLen; omega
  have hvm : c.v.size ≤ maxLen := by unfold maxLen; omega
  simp only [formB, Bool.and_eq_true] at hok
  obtain ⟨hk, hn, hu, hval⟩ := hok
  have SM := Smalls.of c hf hv hu
  obtain ⟨f, what, num, v⟩ := c
  dsimp only at hfm hvm hk hn hu hval
  have HK : Hid (inB what 1 5 = true) := hk
  have HN : Hid (nameB f = true) := hn
  have HU : Hid (inB num 1 1000000 = true) := hu
  simp only [valB, Bool.and_eq_true, Bool.not_eq_true'] at hval
  obtain ⟨hv1, hv2⟩ := hval
  have HV : Hid (oddB v = false) := hv2
  have hn0 : 0 ≤ num := by simp [inB] at hu; omega
  obtain ⟨m, rfl⟩ := Int.eq_ofNat_of_zero_le hn0
  have hm : m ≤ 9999999 := by simp [inB] at hu; omega
  obtain ⟨q, rfl, hq⟩ : ∃ q : Nat, what = (q : Int) + 1 ∧ q < 5 := ⟨(what - 1).toNat, by simp [inB] at hk; omega, by simp [inB] at hk; omega⟩
  clear hk hn hu hv2 hf hv
  have hadd := add_small Tryz.prog
  obtain ⟨s0, s1, s2, s3, s4, s5, s6, s7, s8, s9, sA, sB⟩ := SM
  dsimp only at s1 s2 s4 s5 s6 s7 s8 s9 sA sB
  have HF : Hid (formS ⟨f, (q : Int) + 1, (m : Int), v⟩ = cat (cat (cat (cat (cat (cat (cat sSet f) sSp) (wordAt q)) sSp) (decS m)) sSp) v) := by
    show formS _ = _
    unfold formS; rw [wordS_at]; rfl
  rw [HF.out]
  rw [wordS_at] at s5 s6 s7 s9 sA
  rw [Int.toNat_natCast] at s8 s9 sA
  simp only [sSet, sSp] at s0 s2 s3 s4 s6 s7 s9 sA
  go_enter Tryz.func42, Tryz.ntmps42
  go_wp2_with fail
  refine (l1NameOk_any f _ hfm).mono ?_
  rw [HN.out]
  rintro e w1 ⟨rfl, rfl⟩
  go_wp2_with fail
  refine (l1In_any _ _ _ _).mono ?_
  rw [HU.out]
  rintro e w1 ⟨rfl, rfl⟩
  go_wp2_with fail
  refine (l1In_any _ _ _ _).mono ?_
  rw [HK.out]
  rintro e w1 ⟨rfl, rfl⟩
  go_wp2_with fail
  refine (l2Odd_any v _ hvm).mono ?_
  rw [HV.out]
  rintro e w1 ⟨rfl, rfl⟩
  go_wp2
  generalize hW : w.alloc (.cells #[.string f, .int .i64 ((q : Int) + 1), .int .i64 (m : Int), .string v] 88) = W
  have c0 : W.cell? ⟨w.heap.size, 0, none⟩ = some (.string f) := by rw [← hW]; simp [go_sem]
  have c1 : W.cell? ⟨w.heap.size, 1, none⟩ = some (.int .i64 ((q : Int) + 1)) := by rw [← hW]; simp [go_sem]
  have c2 : W.cell? ⟨w.heap.size, 2, none⟩ = some (.int .i64 (m : Int)) := by rw [← hW]; simp [go_sem]
  have c3 : W.cell? ⟨w.heap.size, 3, none⟩ = some (.string v) := by rw [← hW]; simp [go_sem]
  have HW : Hid (Below w.heap.size w W) := by rw [← hW]; exact (Below.refl _ _).alloc (Nat.le_refl _) _
  clear hW
  refine wp_region_noPanic ?_
  refine wp_region_held_drew (S := fun w' => w'.cell? ⟨w.heap.size, 0, none⟩ = some (.string f) ∧ w'.cell? ⟨w.heap.size, 1, none⟩ = some (.int .i64 ((q : Int) + 1)) ∧ w'.cell? ⟨w.heap.size, 2, none⟩ = some (.int .i64 (m : Int)) ∧ w'.cell? ⟨w.heap.size, 3, none⟩ = some (.string v)) (by kernel_rfl) ?_ (fun hHeld => ?_)
  · exact ⟨by simpa using c0, by simpa using c1, by simpa using c2, by simpa using c3⟩
  refine wpAnyH_take (i := 0) (v := ?_) rfl (by kernel_rfl) (by kernel_rfl) (by kernel_rfl) (fun _ _ _ h => h) (Or.inl ⟨by rfl, ?_⟩) (by assumption) ?_
  rotate_left
  · intro w hSw; (try dsimp only at hSw); go_simp; try with_reducible rfl
  simp only [Act.put, List.setIfInBounds_toArray, List.set_cons_zero, List.set_cons_succ, List.getElem_toArray, List.getElem_cons_succ, List.getElem_cons_zero]
  refine wpAnyH_take (i := 1) (v := ?_) rfl (by kernel_rfl) (by kernel_rfl) (by kernel_rfl) (fun _ _ _ h => h) (Or.inl ⟨by rfl, ?_⟩) (by assumption) ?_
  rotate_left
  · intro w hSw; (try dsimp only at hSw); go_simp; try with_reducible rfl
  simp only [Act.put, List.setIfInBounds_toArray, List.set_cons_zero, List.set_cons_succ, List.getElem_toArray, List.getElem_cons_succ, List.getElem_cons_zero]
  refine wpAnyH_take (i := 2) (v := ?_) rfl (by kernel_rfl) (by kernel_rfl) (by kernel_rfl) (fun _ _ _ h => h) (Or.inl ⟨by rfl, ?_⟩) (by assumption) ?_
  rotate_left
  · intro w hSw; (try dsimp only at hSw); go_simp; try with_reducible rfl
  simp only [Act.put, List.setIfInBounds_toArray, List.set_cons_zero, List.set_cons_succ, List.getElem_toArray, List.getElem_cons_succ, List.getElem_cons_zero]
  refine wpAnyH_take (i := 3) (v := ?_) rfl (by kernel_rfl) (by kernel_rfl) (by kernel_rfl) (fun _ _ _ h => h) (Or.inl ⟨by rfl, ?_⟩) (by assumption) ?_
  rotate_left
  · intro w hSw; (try dsimp only at hSw); go_simp; try with_reducible rfl
  simp only [Act.put, List.setIfInBounds_toArray, List.set_cons_zero, List.set_cons_succ, List.getElem_toArray, List.getElem_cons_succ, List.getElem_cons_zero]
  refine wpAnyH_take (i := 5) (v := ?_) rfl (by kernel_rfl) (by kernel_rfl) (by kernel_rfl) (fun _ _ _ h => h) (Or.inl ⟨by rfl, ?_⟩) (by assumption) ?_
  rotate_left
  · intro w hSw; (try dsimp only at hSw); go_simp; try with_reducible rfl
  simp only [Act.put, List.setIfInBounds_toArray, List.set_cons_zero, List.set_cons_succ, List.getElem_toArray, List.getElem_cons_succ, List.getElem_cons_zero]
  refine wpAnyH_take (i := 6) (v := ?_) rfl (by kernel_rfl) (by kernel_rfl) (by kernel_rfl) (fun _ _ _ h => h) (Or.inl ⟨by rfl, ?_⟩) (by assumption) ?_
  rotate_left
  · intro w hSw; (try dsimp only at hSw); go_simp; try with_reducible rfl
  simp only [Act.put, List.setIfInBounds_toArray, List.set_cons_zero, List.set_cons_succ, List.getElem_toArray, List.getElem_cons_succ, List.getElem_cons_zero]
  refine wpAnyH_take (i := 7) (v := ?_) rfl (by kernel_rfl) (by kernel_rfl) (by kernel_rfl) (fun _ _ _ h => h) (Or.inl ⟨by rfl, ?_⟩) (by assumption) ?_
  rotate_left
  · intro w hSw; (try dsimp only at hSw); go_simp; try with_reducible rfl
  simp only [Act.put, List.setIfInBounds_toArray, List.set_cons_zero, List.set_cons_succ, List.getElem_toArray, List.getElem_cons_succ, List.getElem_cons_zero]
  refine wpAnyH_take (i := 12) (v := ?_) rfl (by kernel_rfl) (by kernel_rfl) (by kernel_rfl) (fun _ _ _ h => h) (Or.inl ⟨by rfl, ?_⟩) (by assumption) ?_
  rotate_left
  · intro w hSw; (try dsimp only at hSw); go_simp; try with_reducible rfl
  simp only [Act.put, List.setIfInBounds_toArray, List.set_cons_zero, List.set_cons_succ, List.getElem_toArray, List.getElem_cons_succ, List.getElem_cons_zero]
  refine wpAnyH_take (i := 13) (v := ?_) rfl (by kernel_rfl) (by kernel_rfl) (by kernel_rfl) (fun _ _ _ h => h) (Or.inl ⟨by rfl, ?_⟩) (by assumption) ?_
  rotate_left
  · intro w hSw; (try dsimp only at hSw); go_simp; try with_reducible rfl
  simp only [Act.put, List.setIfInBounds_toArray, List.set_cons_zero, List.set_cons_succ, List.getElem_toArray, List.getElem_cons_succ, List.getElem_cons_zero]
  refine wpAnyH_take (i := 17) (v := ?_) rfl (by kernel_rfl) (by kernel_rfl) (by kernel_rfl) (fun _ _ _ h => h) (Or.inl ⟨by rfl, ?_⟩) (by assumption) ?_
  rotate_left
  · intro w hSw; (try dsimp only at hSw); go_simp; try with_reducible rfl
  simp only [Act.put, List.setIfInBounds_toArray, List.set_cons_zero, List.set_cons_succ, List.getElem_toArray, List.getElem_cons_succ, List.getElem_cons_zero]
  refine wpAnyH_take (i := 18) (v := ?_) rfl (by kernel_rfl) (by kernel_rfl) (by kernel_rfl) (fun _ _ _ h => h) (Or.inl ⟨by rfl, ?_⟩) (by assumption) ?_
  rotate_left
  · intro w hSw; (try dsimp only at hSw); go_simp; try with_reducible rfl
  simp only [Act.put, List.setIfInBounds_toArray, List.set_cons_zero, List.set_cons_succ, List.getElem_toArray, List.getElem_cons_succ, List.getElem_cons_zero]
  refine wpAnyH_ready (rs := [4]) (by kernel_rfl) (by simp) ?_
  refine AllReadyH.cons rfl (fun K hK => ?_) AllReadyH.nil
  go_simp
  refine (l2Words_any _).mono ?_
  rintro e w1 ⟨rfl, hw1⟩
  obtain ⟨a0, a1, a2, a3⟩ := hHeld
  have hb1 : Below W.drew.heap.size W.drew w1 := by rw [hw1]; exact (Below.refl _ _).alloc (Nat.le_refl _) _
  have t0 : w1.cell? ⟨W.heap.size, q, none⟩ = some (.string (wordAt q)) := by
    rw [hw1]
    have h5 : q = 0 ∨ q = 1 ∨ q = 2 ∨ q = 3 ∨ q = 4 := by omega
    rcases h5 with rfl | rfl | rfl | rfl | rfl <;> simp [go_sem, wordAt]
  clear hw1
  have hS1 : w1.cell? ⟨w.heap.size, 0, none⟩ = some (.string f) ∧ w1.cell? ⟨w.heap.size, 1, none⟩ = some (.int .i64 ((q : Int) + 1)) ∧ w1.cell? ⟨w.heap.size, 2, none⟩ = some (.int .i64 (m : Int)) ∧ w1.cell? ⟨w.heap.size, 3, none⟩ = some (.string v) :=
    ⟨cell_keep hb1 (Nat.le_refl _) a0, cell_keep hb1 (Nat.le_refl _) a1, cell_keep hb1 (Nat.le_refl _) a2, cell_keep hb1 (Nat.le_refl _) a3⟩
  refine hK.out _ _ hS1 (fun _ => ?_)
  refine wpAnyH_more (T := fun w' => (w'.cell? ⟨w.heap.size, 0, none⟩ = some (.string f) ∧ w'.cell? ⟨w.heap.size, 1, none⟩ = some (.int .i64 ((q : Int) + 1)) ∧ w'.cell? ⟨w.heap.size, 2, none⟩ = some (.int .i64 (m : Int)) ∧ w'.cell? ⟨w.heap.size, 3, none⟩ = some (.string v)) ∧ w'.cell? ⟨W.heap.size, q, none⟩ = some (.string (wordAt q))) (fun _ h => h.1) _ _ _ _ ?_
  have hHeld1 := And.intro hS1 t0
  clear hK K
  have HB1 : Hid (Below w.heap.size w w1) := below_step HW.out.drew hb1
  have hq0 : (0 : Int) ≤ (q : Int) := by omega
  have hq1 : (q : Int) < 5 := by omega
  have hwq : IntKind.i64.wrap (q : Int) = (q : Int) := by rw [IntKind.wrap_i64]; omega
  refine wpAnyH_take (i := 8) (v := ?_) rfl (by kernel_rfl) (by kernel_rfl) (by kernel_rfl) (fun _ _ _ h => h) (Or.inl ⟨by rfl, ?_⟩) (by assumption) ?_
  rotate_left
  · intro w hSw; (try dsimp only at hSw); go_simp; try with_reducible rfl
  simp only [Act.put, List.setIfInBounds_toArray, List.set_cons_zero, List.set_cons_succ, List.getElem_toArray, List.getElem_cons_succ, List.getElem_cons_zero]
  refine wpAnyH_take (i := 9) (v := ?_) rfl (by kernel_rfl) (by kernel_rfl) (by kernel_rfl) (fun _ _ _ h => h) (Or.inl ⟨by rfl, ?_⟩) (by assumption) ?_
  rotate_left
  · intro w hSw; (try dsimp only at hSw); go_simp; try with_reducible rfl
  simp only [Act.put, List.setIfInBounds_toArray, List.set_cons_zero, List.set_cons_succ, List.getElem_toArray, List.getElem_cons_succ, List.getElem_cons_zero]
  refine wpAnyH_take (i := 10) (v := ?_) rfl (by kernel_rfl) (by kernel_rfl) (by kernel_rfl) (fun _ _ _ h => h) (Or.inl ⟨by rfl, ?_⟩) (by assumption) ?_
  rotate_left
  · intro w hSw; (try dsimp only at hSw); go_simp; try with_reducible rfl
  simp only [Act.put, List.setIfInBounds_toArray, List.set_cons_zero, List.set_cons_succ, List.getElem_toArray, List.getElem_cons_succ, List.getElem_cons_zero]
  refine wpAnyH_take (i := 11) (v := ?_) rfl (by kernel_rfl) (by kernel_rfl) (by kernel_rfl) (fun _ _ _ h => h) (Or.inl ⟨by rfl, ?_⟩) (by assumption) ?_
  rotate_left
  · intro w hSw; (try dsimp only at hSw); go_simp; try with_reducible rfl
  simp only [Act.put, List.setIfInBounds_toArray, List.set_cons_zero, List.set_cons_succ, List.getElem_toArray, List.getElem_cons_succ, List.getElem_cons_zero]
  refine wpAnyH_ready (rs := [14]) (by kernel_rfl) (by simp) ?_
  refine AllReadyH.cons rfl (fun K hK => ?_) AllReadyH.nil
  go_simp
  refine (l2Dec_any m hm _).mono ?_
  rintro e w2 ⟨rfl, hb2⟩
  refine hK.out _ _ ⟨⟨cell_keep hb2 (Nat.le_refl _) hS1.1, cell_keep hb2 (Nat.le_refl _) hS1.2.1, cell_keep hb2 (Nat.le_refl _) hS1.2.2.1, cell_keep hb2 (Nat.le_refl _) hS1.2.2.2⟩, cell_keep hb2 (Nat.le_refl _) t0⟩ (fun hHeld2 => ?_)
  clear hK K
  refine wpAnyH_take (i := 15) (v := ?_) rfl (by kernel_rfl) (by kernel_rfl) (by kernel_rfl) (fun _ _ _ h => h) (Or.inl ⟨by rfl, ?_⟩) (by assumption) ?_
  rotate_left
  · intro w hSw; (try dsimp only at hSw); go_simp; try with_reducible rfl
  simp only [Act.put, List.setIfInBounds_toArray, List.set_cons_zero, List.set_cons_succ, List.getElem_toArray, List.getElem_cons_succ, List.getElem_cons_zero]
  refine wpAnyH_take (i := 16) (v := ?_) rfl (by kernel_rfl) (by kernel_rfl) (by kernel_rfl) (fun _ _ _ h => h) (Or.inl ⟨by rfl, ?_⟩) (by assumption) ?_
  rotate_left
  · intro w hSw; (try dsimp only at hSw); go_simp; try with_reducible rfl
  simp only [Act.put, List.setIfInBounds_toArray, List.set_cons_zero, List.set_cons_succ, List.getElem_toArray, List.getElem_cons_succ, List.getElem_cons_zero]
  refine wpAnyH_take (i := 19) (v := ?_) rfl (by kernel_rfl) (by kernel_rfl) (by kernel_rfl) (fun _ _ _ h => h) (Or.inl ⟨by rfl, ?_⟩) (by assumption) ?_
  rotate_left
  · intro w hSw; (try dsimp only at hSw); go_simp; try with_reducible rfl
  simp only [Act.put, List.setIfInBounds_toArray, List.set_cons_zero, List.set_cons_succ, List.getElem_toArray, List.getElem_cons_succ, List.getElem_cons_zero]
  refine wpAnyH_take (i := 20) (v := ?_) rfl (by kernel_rfl) (by kernel_rfl) (by kernel_rfl) (fun _ _ _ h => h) (Or.inl ⟨by rfl, ?_⟩) (by assumption) ?_
  rotate_left
  · intro w hSw; (try dsimp only at hSw); go_simp; try with_reducible rfl
  simp only [Act.put, List.setIfInBounds_toArray, List.set_cons_zero, List.set_cons_succ, List.getElem_toArray, List.getElem_cons_succ, List.getElem_cons_zero]
  refine wpAnyH_done (by kernel_rfl) ?_ _
  refine NoPanic.normal ?_
  go_wp2
  go_ret
  exact ⟨rfl, below_step HB1.out hb2⟩
end Go.Proofs.YthccipaobeapbabGreatDoor

/-
  The law FnExactPlanForm answers true at every change.
-/
namespace Go.Proofs.YthccipaobeapbabGreatDoor
open Go.RowKit

set_option maxHeartbeats 1600000 in
theorem specForm_no (c : Chg) (w : World) (hf : c.f.size ≤ 1048576) (hv : c.v.size ≤ 1048576) (hok : formB c = false) :
    Calls Tryz.prog 42 #[.agg #[.string c.f, .int .i64 c.what, .int .i64 c.num, .string c.v]] w fun e w' => e = .returned (.string ⟨#[]⟩) ∧ Below w.heap.size w w' := by
  have hfm : c.f.size ≤ maxLen := by unfold maxLen; omega
  have hvm : c.v.size ≤ maxLen := by unfold maxLen; omega
  obtain ⟨f, what, num, v⟩ := c
  dsimp only at hfm hvm
  simp only [formB] at hok
  clear hf hv
  cases hn : nameB f
  · have HN : Hid (nameB f = false) := hn
    clear hn hok
    go_enter Tryz.func42, Tryz.ntmps42
    go_wp2_with fail
    refine (l1NameOk_any f _ hfm).mono ?_
    rw [HN.out]
    rintro e w1 ⟨rfl, rfl⟩
    go_wp2
    go_ret
    exact ⟨rfl, (Below.refl _ _).alloc (Nat.le_refl _) _⟩
  have HN : Hid (nameB f = true) := hn
  rw [hn] at hok
  clear hn
  cases hu : inB num 1 1000000
  · have HU : Hid (inB num 1 1000000 = false) := hu
    clear hu hok
    go_enter Tryz.func42, Tryz.ntmps42
    go_wp2_with fail
    refine (l1NameOk_any f _ hfm).mono ?_
    rw [HN.out]
    rintro e w1 ⟨rfl, rfl⟩
    go_wp2_with fail
    refine (l1In_any _ _ _ _).mono ?_
    rw [HU.out]
    rintro e w1 ⟨rfl, rfl⟩
    go_wp2
    go_ret
    exact ⟨rfl, (Below.refl _ _).alloc (Nat.le_refl _) _⟩
  have HU : Hid (inB num 1 1000000 = true) := hu
  rw [hu] at hok
  clear hu
  cases hk : inB what 1 5
  · have HK : Hid (inB what 1 5 = false) := hk
    clear hk hok
    go_enter Tryz.func42, Tryz.ntmps42
    go_wp2_with fail
    refine (l1NameOk_any f _ hfm).mono ?_
    rw [HN.out]
    rintro e w1 ⟨rfl, rfl⟩
    go_wp2_with fail
    refine (l1In_any _ _ _ _).mono ?_
    rw [HU.out]
    rintro e w1 ⟨rfl, rfl⟩
    go_wp2_with fail
    refine (l1In_any _ _ _ _).mono ?_
    rw [HK.out]
    rintro e w1 ⟨rfl, rfl⟩
    go_wp2
    go_ret
    exact ⟨rfl, (Below.refl _ _).alloc (Nat.le_refl _) _⟩
  have HK : Hid (inB what 1 5 = true) := hk
  rw [hk] at hok
  clear hk
  have hval : valB v = false := by simpa using hok
  clear hok
  cases hv1 : v.toList.isEmpty
  · have hv2 : oddB v = true := by simpa [valB, hv1] using hval
    have HV : Hid (oddB v = true) := hv2
    clear hv2 hval
    go_enter Tryz.func42, Tryz.ntmps42
    go_wp2_with fail
    refine (l1NameOk_any f _ hfm).mono ?_
    rw [HN.out]
    rintro e w1 ⟨rfl, rfl⟩
    go_wp2_with fail
    refine (l1In_any _ _ _ _).mono ?_
    rw [HU.out]
    rintro e w1 ⟨rfl, rfl⟩
    go_wp2_with fail
    refine (l1In_any _ _ _ _).mono ?_
    rw [HK.out]
    rintro e w1 ⟨rfl, rfl⟩
    go_wp2_with fail
    refine (l2Odd_any v _ hvm).mono ?_
    rw [HV.out]
    rintro e w1 ⟨rfl, rfl⟩
    go_wp2
    go_ret
    exact ⟨rfl, (Below.refl _ _).alloc (Nat.le_refl _) _⟩
  · clear hval
    go_enter Tryz.func42, Tryz.ntmps42
    go_wp2_with fail
    refine (l1NameOk_any f _ hfm).mono ?_
    rw [HN.out]
    rintro e w1 ⟨rfl, rfl⟩
    go_wp2_with fail
    refine (l1In_any _ _ _ _).mono ?_
    rw [HU.out]
    rintro e w1 ⟨rfl, rfl⟩
    go_wp2_with fail
    refine (l1In_any _ _ _ _).mono ?_
    rw [HK.out]
    rintro e w1 ⟨rfl, rfl⟩
    go_wp2
    go_ret
    exact ⟨rfl, (Below.refl _ _).alloc (Nat.le_refl _) _⟩

/-- The form of a change, or the empty text. -/
def theForm (c : Chg) : ByteArray := bif formB c then formS c else ⟨#[]⟩
theorem specForm_any (c : Chg) (w : World) (hf : c.f.size ≤ 1048576) (hv : c.v.size ≤ 1048576) :
    Calls Tryz.prog 42 #[.agg #[.string c.f, .int .i64 c.what, .int .i64 c.num, .string c.v]] w fun e w' => e = .returned (.string (theForm c)) ∧ Below w.heap.size w w' := by
  unfold theForm
  cases h : formB c
  · exact specForm_no c w hf hv h
  · exact specForm_ok c w hf hv h

end Go.Proofs.YthccipaobeapbabGreatDoor

/-
  What the listed package-level variables hold: the table of words, cell by cell; the table of powers of ten.
-/
namespace Go.Proofs.YthccipaobeapbabGreatDoor
open Go.RowKit Go.ChangeShapes Go.WideShapes Go.Deep

theorem gSaid : Tryz.prog.globalNamed "loop.example/lapplan/impl.saidWords" = some 1 := by kernel_rfl
theorem tSaid : (Tryz.prog.globals[1]?).map (·.type) = some 197 := by kernel_rfl
theorem cSaid : Tryz.prog.cellsOf 196 = 2 := by kernel_rfl
theorem cSaids : Tryz.prog.cellsOf 197 = 10 := by kernel_rfl
theorem cInt : Tryz.prog.cellsOf 3 = 1 := by kernel_rfl
theorem cStr : Tryz.prog.cellsOf 9 = 1 := by kernel_rfl
theorem tPow : (Tryz.prog.globals[4]?).map (·.type) = some 296 := by kernel_rfl

theorem str_of {l : List UInt8} {s : ByteArray} (h : s.data.toList = l) : s = ⟨l.toArray⟩ := by
  subst h; rfl

/-- One row of the table. -/
theorem said_row {H : Type} {enc : TypeId × Value → H} {w : World} {base : Nat} {sp : Nat → Bool} {held : Bool} {fuel : Nat} {cs : List Value} {n : Int} {l : List UInt8} {p : List MemPlace}
    (h : DataW.trod enc Tryz.prog w base sp held fuel 196 cs = some (.agg [.lit (.int .i64 n), .lit (.string l)], p)) : cs = [.int .i64 n, .string ⟨l.toArray⟩] := by
  obtain ⟨y0, y1, m, hx, hl, h0, h1⟩ := trod_struct2 Tryz.underlying196 h
  dsimp only at h0 h1
  rw [cInt] at h0
  rw [cStr] at h1
  rw [cSaid] at hl
  match cs, hl with
  | [c0, c1], _ =>
    obtain ⟨z, e0, e1, _⟩ := DataW.trod_int Tryz.underlying3 h0
    obtain ⟨s, e2, e3, _⟩ := DataW.trod_string Tryz.underlying9 h1
    rw [e1, e3] at hx
    simp only [Prod.mk.injEq, DataW.agg.injEq, List.cons.injEq, DataW.lit.injEq, Lit.int.injEq, Lit.string.injEq, true_and, and_true] at hx
    obtain ⟨⟨rfl, hs⟩, _⟩ := hx
    have f0 : c0 = .int .i64 n := by simpa using e0
    have f1 : c1 = .string s := by simpa using e2
    rw [f0, f1, str_of hs.symm]

theorem said_of {w : World} (h : Lib.VarReads Tryz.prog w "loop.example/lapplan/impl.saidWords" Rows.laid_loop_example_lapplan_impl_saidWords) : SaidIn w := by
  obtain ⟨g, t, cs, fuel, p, hg, ht, hvar, hd⟩ := h
  obtain rfl := Option.some.inj (gSaid.symm.trans hg)
  obtain rfl := Option.some.inj (tSaid.symm.trans ht)
  obtain ⟨xs, m, _, hx, hl, hxl, hall⟩ := DataW.trod_array Tryz.underlying197 hd
  rw [cSaids] at hl
  rw [cSaid] at hall
  match xs, hxl with
  | [x0, x1, x2, x3, x4], _ =>
    have q0 := hall 0 (by omega); have q1 := hall 1 (by omega); have q2 := hall 2 (by omega); have q3 := hall 3 (by omega); have q4 := hall 4 (by omega)
    simp only [Rows.laid_loop_example_lapplan_impl_saidWords, Prod.mk.injEq, DataW.agg.injEq, List.map_cons, List.map_nil, List.cons.injEq, and_true] at hx
    obtain ⟨⟨r0, r1, r2, r3, r4⟩, _⟩ := hx
    obtain ⟨d0, p0⟩ := x0; obtain ⟨d1, p1⟩ := x1; obtain ⟨d2, p2⟩ := x2; obtain ⟨d3, p3⟩ := x3; obtain ⟨d4, p4⟩ := x4
    dsimp only at r0 r1 r2 r3 r4
    subst r0 r1 r2 r3 r4
    have k0 := said_row q0; have k1 := said_row q1; have k2 := said_row q2; have k3 := said_row q3; have k4 := said_row q4
    have hcs : cs.toList = saidC.toList := by
      generalize cs.toList = l at *
      match l, hl with
      | [a0, a1, a2, a3, a4, a5, a6, a7, a8, a9], _ =>
        simp at k0 k1 k2 k3 k4
        obtain ⟨rfl, rfl⟩ := k0; obtain ⟨rfl, rfl⟩ := k1; obtain ⟨rfl, rfl⟩ := k2; obtain ⟨rfl, rfl⟩ := k3; obtain ⟨rfl, rfl⟩ := k4
        rfl
    have hc : cs = saidC := Array.toList_inj.1 hcs
    subst hc
    simp only [World.var?, gSaid, Option.bind_some] at hvar
    split at hvar
    · rename_i c t fr hb
      cases hvar
      exact ⟨t, fr, hb⟩
    · cases hvar

theorem pow_of {w : World} (h : Lib.VarReads Tryz.prog w "internal/strconv.uint64pow10" Rows.laid_internal_strconv_uint64pow10) : Lib.TabIs Tryz.prog w "internal/strconv.uint64pow10" .u64 Lib.pow10Tab := by
  obtain ⟨g, t, cs, fuel, p, hg, ht, hvar, hd⟩ := h
  obtain rfl := Option.some.inj (gPow.symm.trans hg)
  obtain rfl := Option.some.inj (tPow.symm.trans ht)
  have e : (Rows.laid_internal_strconv_uint64pow10 : DataW Unit) = Lib.tabData .u64 Lib.pow10Tab := rfl
  rw [e] at hd
  have hc := Lib.cells_of_tab Tryz.underlying296 Tryz.underlying275 (by kernel_rfl) (by kernel_rfl) hd
  unfold Lib.TabIs
  rw [hvar, ← hc]
end Go.Proofs.YthccipaobeapbabGreatDoor

/-
  Kinds and points one by one: sizes, copies, comparisons, names.
-/
namespace Go.Proofs.YthccipaobeapbabGreatDoor
open Go.RowKit

set_option maxHeartbeats 400000 in
theorem szKind_any (t : Tri) (left : Int) (w : World) (hs : t.s.size ≤ maxLen) (hl : 0 ≤ left) (hl' : left ≤ 1048576) :
    Calls Tryz.prog 123 #[.agg #[.string t.s, .int .i64 t.x, .int .i64 t.y], .int .i64 left] w fun e w' => e = .returned (.int .i64 (szR t.s.size left)) ∧ Below w.heap.size w w' := by
  unfold maxLen at hs
  by_cases h : left - (t.s.size : Int) < 0
  · rw [szR_neg (by omega)]
    go_enter Tryz.func123, Tryz.ntmps123
    go_wp2
    go_ret
    exact ⟨rfl, (Below.refl _ _).alloc (Nat.le_refl _) _⟩
  · rw [szR_pos (by omega)]
    go_enter Tryz.func123, Tryz.ntmps123
    go_wp2
    go_ret
    exact ⟨rfl, (Below.refl _ _).alloc (Nat.le_refl _) _⟩

set_option maxHeartbeats 400000 in
theorem toKind_any (t : Tri) (w : World) :
    Calls Tryz.prog 127 #[.agg #[.string t.s, .int .i64 t.x, .int .i64 t.y]] w fun e w' => e = .returned (.agg #[.string t.s, .int .i64 t.x, .int .i64 t.y]) ∧ Below w.heap.size w w' := by
  go_enter Tryz.func127, Tryz.ntmps127
  go_wp2
  exact bodyPost_ret (v := .agg #[.string t.s, .int .i64 t.x, .int .i64 t.y]) (by simp [results, Tryz.results127, go_sem]) rfl ⟨rfl, (((Below.refl _ _).alloc (Nat.le_refl _) _).alloc (by simp) _).alloc (by simp; omega) _⟩

set_option maxHeartbeats 400000 in
theorem eqKind_any (t : Tri) (w : World) :
    Calls Tryz.prog 55 #[.agg #[.string t.s, .int .i64 t.x, .int .i64 t.y], .agg #[.string t.s, .int .i64 t.x, .int .i64 t.y]] w fun e w' => e = .returned (.bool true) ∧ Below w.heap.size w w' := by
  go_enter Tryz.func55, Tryz.ntmps55
  go_wp2
  all_goals go_ret
  all_goals exact ⟨rfl, ((Below.refl _ _).alloc (Nat.le_refl _) _).alloc (by simp) _⟩
set_option maxHeartbeats 400000 in
theorem szPoint_any (t : Tri) (left : Int) (w : World) (hs : t.s.size ≤ maxLen) (hl : 0 ≤ left) (hl' : left ≤ 1048576) :
    Calls Tryz.prog 124 #[.agg #[.string t.s, .int .i64 t.x, .int .i64 t.y], .int .i64 left] w fun e w' => e = .returned (.int .i64 (szR t.s.size left)) ∧ Below w.heap.size w w' := by
  unfold maxLen at hs
  by_cases h : left - (t.s.size : Int) < 0
  · rw [szR_neg (by omega)]
    go_enter Tryz.func124, Tryz.ntmps124
    go_wp2
    go_ret
    exact ⟨rfl, (Below.refl _ _).alloc (Nat.le_refl _) _⟩
  · rw [szR_pos (by omega)]
    go_enter Tryz.func124, Tryz.ntmps124
    go_wp2
    go_ret
    exact ⟨rfl, (Below.refl _ _).alloc (Nat.le_refl _) _⟩

set_option maxHeartbeats 400000 in
theorem toPoint_any (t : Tri) (w : World) :
    Calls Tryz.prog 128 #[.agg #[.string t.s, .int .i64 t.x, .int .i64 t.y]] w fun e w' => e = .returned (.agg #[.string t.s, .int .i64 t.x, .int .i64 t.y]) ∧ Below w.heap.size w w' := by
  go_enter Tryz.func128, Tryz.ntmps128
  go_wp2
  exact bodyPost_ret (v := .agg #[.string t.s, .int .i64 t.x, .int .i64 t.y]) (by simp [results, Tryz.results128, go_sem]) rfl ⟨rfl, (((Below.refl _ _).alloc (Nat.le_refl _) _).alloc (by simp) _).alloc (by simp; omega) _⟩

set_option maxHeartbeats 400000 in
theorem eqPoint_any (t : Tri) (w : World) :
    Calls Tryz.prog 121 #[.agg #[.string t.s, .int .i64 t.x, .int .i64 t.y], .agg #[.string t.s, .int .i64 t.x, .int .i64 t.y]] w fun e w' => e = .returned (.bool true) ∧ Below w.heap.size w w' := by
  go_enter Tryz.func121, Tryz.ntmps121
  go_wp2
  all_goals go_ret
  all_goals exact ⟨rfl, ((Below.refl _ _).alloc (Nat.le_refl _) _).alloc (by simp) _⟩

set_option maxHeartbeats 400000 in
theorem kindName_any (t : Tri) (w : World) :
    Calls Tryz.prog 155 #[.agg #[.string t.s, .int .i64 t.x, .int .i64 t.y]] w fun e w' => e = .returned (.string t.s) ∧ Below w.heap.size w w' := by
  go_enter Tryz.func155, Tryz.ntmps155
  go_wp2
  go_ret
  exact ⟨rfl, (Below.refl _ _).alloc (Nat.le_refl _) _⟩
set_option maxHeartbeats 400000 in
theorem pointName_any (t : Tri) (w : World) :
    Calls Tryz.prog 158 #[.agg #[.string t.s, .int .i64 t.x, .int .i64 t.y]] w fun e w' => e = .returned (.string t.s) ∧ Below w.heap.size w w' := by
  go_enter Tryz.func158, Tryz.ntmps158
  go_wp2
  go_ret
  exact ⟨rfl, (Below.refl _ _).alloc (Nat.le_refl _) _⟩

set_option maxHeartbeats 400000 in
theorem paceOk_any (t : Tri) (w : World) :
    Calls Tryz.prog 156 #[.agg #[.string t.s, .int .i64 t.x, .int .i64 t.y]] w fun e w' => e = .returned (.bool (paceB t)) ∧ Below w.heap.size w w' := by
  obtain ⟨s, x, y⟩ := t
  dsimp only
  by_cases h1 : 1 ≤ x
  · by_cases h2 : x ≤ y
    · by_cases h3 : y ≤ 50
      · have e : paceB ⟨s, x, y⟩ = true := by simp [paceB, h1, h2, h3]
        rw [e]; clear e
        go_enter Tryz.func156, Tryz.ntmps156
        go_wp2
        go_ret
        exact ⟨rfl, (Below.refl _ _).alloc (Nat.le_refl _) _⟩
      · have e : paceB ⟨s, x, y⟩ = false := by simp [paceB, h3]
        rw [e]; clear e
        go_enter Tryz.func156, Tryz.ntmps156
        go_wp2
        go_ret
        exact ⟨rfl, (Below.refl _ _).alloc (Nat.le_refl _) _⟩
    · have e : paceB ⟨s, x, y⟩ = false := by simp [paceB, h2]
      rw [e]; clear e
      go_enter Tryz.func156, Tryz.ntmps156
      go_wp2
      go_ret
      exact ⟨rfl, (Below.refl _ _).alloc (Nat.le_refl _) _⟩
  · have e : paceB ⟨s, x, y⟩ = false := by simp [paceB, h1]
    rw [e]; clear e
    go_enter Tryz.func156, Tryz.ntmps156
    go_wp2
    go_ret
    exact ⟨rfl, (Below.refl _ _).alloc (Nat.le_refl _) _⟩

set_option maxHeartbeats 400000 in
theorem inside_any (t : Tri) (w : World) :
    Calls Tryz.prog 159 #[.agg #[.string t.s, .int .i64 t.x, .int .i64 t.y]] w fun e w' => e = .returned (.bool (insideB t)) ∧ Below w.heap.size w w' := by
  obtain ⟨s, x, y⟩ := t
  dsimp only
  cases h1 : inB x 0 15
  · have e : insideB ⟨s, x, y⟩ = false := by simp [insideB, h1]
    rw [e]; clear e
    have H1 : Hid (inB x 0 15 = false) := h1
    clear h1
    go_enter Tryz.func159, Tryz.ntmps159
    go_wp2_with (go_at_call 185; refine (onSide_any _ _).mono ?_; rw [H1.out]; rintro e w' ⟨rfl, rfl⟩)
    go_ret
    exact ⟨rfl, (Below.refl _ _).alloc (Nat.le_refl _) _⟩
  · have H1 : Hid (inB x 0 15 = true) := h1
    have e : insideB ⟨s, x, y⟩ = inB y 0 15 := by simp [insideB, h1]
    rw [e]; clear e h1
    go_enter Tryz.func159, Tryz.ntmps159
    go_wp2_with fail
    refine (onSide_any _ _).mono ?_; rw [H1.out]; rintro e w' ⟨rfl, rfl⟩
    go_wp2_with fail
    refine (onSide_any _ _).mono ?_; rintro e w' ⟨rfl, rfl⟩
    go_wp2
    go_ret
    exact ⟨rfl, (Below.refl _ _).alloc (Nat.le_refl _) _⟩

set_option maxHeartbeats 400000 in
theorem l1KindOk_any (t : Tri) (w : World) (hs : t.s.size ≤ maxLen) :
    Calls Tryz.prog 108 #[.agg #[.string t.s, .int .i64 t.x, .int .i64 t.y]] w fun e w' => e = .returned (.bool (kindOkB t)) ∧ Below w.heap.size w w' := by
  obtain ⟨s, x, y⟩ := t
  dsimp only at hs ⊢
  cases h0 : nameB s
  · have e : kindOkB ⟨s, x, y⟩ = false := by simp [kindOkB, h0]
    have H0 : Hid (nameB s = false) := h0
    rw [e]; clear e h0
    go_enter Tryz.func108, Tryz.ntmps108
    go_wp2_with fail
    refine (l1NameOk_any _ _ hs).mono ?_; rw [H0.out]; rintro e w' ⟨rfl, rfl⟩
    go_wp2
    go_ret
    exact ⟨rfl, (Below.refl _ _).alloc (Nat.le_refl _) _⟩
  · have H0 : Hid (nameB s = true) := h0
    cases h1 : inB x 1 y
    · have H1 : Hid (inB x 1 y = false) := h1
      have e : kindOkB ⟨s, x, y⟩ = false := by simp [kindOkB, paceB]; simp [inB] at h1; omega
      rw [e]; clear e h0 h1
      go_enter Tryz.func108, Tryz.ntmps108
      go_wp2_with fail
      refine (l1NameOk_any _ _ hs).mono ?_; rw [H0.out]; rintro e w' ⟨rfl, rfl⟩
      go_wp2_with fail
      refine (l1In_any _ _ _ _).mono ?_; rw [H1.out]; rintro e w' ⟨rfl, rfl⟩
      go_wp2
      go_ret
      exact ⟨rfl, (Below.refl _ _).alloc (Nat.le_refl _) _⟩
    · have H1 : Hid (inB x 1 y = true) := h1
      have e : kindOkB ⟨s, x, y⟩ = decide (y ≤ 50) := by simp [inB] at h1; simp [kindOkB, paceB, h0, h1]
      rw [e]; clear e h0 h1
      go_enter Tryz.func108, Tryz.ntmps108
      go_wp2_with fail
      refine (l1NameOk_any _ _ hs).mono ?_; rw [H0.out]; rintro e w' ⟨rfl, rfl⟩
      go_wp2_with fail
      refine (l1In_any _ _ _ _).mono ?_; rw [H1.out]; rintro e w' ⟨rfl, rfl⟩
      go_wp2
      go_ret
      exact ⟨rfl, (Below.refl _ _).alloc (Nat.le_refl _) _⟩

set_option maxHeartbeats 400000 in
theorem l1PointOk_any (t : Tri) (w : World) (hs : t.s.size ≤ maxLen) :
    Calls Tryz.prog 109 #[.agg #[.string t.s, .int .i64 t.x, .int .i64 t.y]] w fun e w' => e = .returned (.bool (pointOkB t)) ∧ Below w.heap.size w w' := by
  obtain ⟨s, x, y⟩ := t
  dsimp only at hs ⊢
  cases h0 : nameB s
  · have e : pointOkB ⟨s, x, y⟩ = false := by simp [pointOkB, h0]
    have H0 : Hid (nameB s = false) := h0
    rw [e]; clear e h0
    go_enter Tryz.func109, Tryz.ntmps109
    go_wp2_with fail
    refine (l1NameOk_any _ _ hs).mono ?_; rw [H0.out]; rintro e w' ⟨rfl, rfl⟩
    go_wp2
    go_ret
    exact ⟨rfl, (Below.refl _ _).alloc (Nat.le_refl _) _⟩
  · have H0 : Hid (nameB s = true) := h0
    cases h1 : inB x 0 15
    · have H1 : Hid (inB x 0 15 = false) := h1
      have e : pointOkB ⟨s, x, y⟩ = false := by simp [pointOkB, insideB, h1]
      rw [e]; clear e h0 h1
      go_enter Tryz.func109, Tryz.ntmps109
      go_wp2_with fail
      refine (l1NameOk_any _ _ hs).mono ?_; rw [H0.out]; rintro e w' ⟨rfl, rfl⟩
      go_wp2_with fail
      refine (l1In_any _ _ _ _).mono ?_; rw [H1.out]; rintro e w' ⟨rfl, rfl⟩
      go_wp2
      go_ret
      exact ⟨rfl, (Below.refl _ _).alloc (Nat.le_refl _) _⟩
    · have H1 : Hid (inB x 0 15 = true) := h1
      have e : pointOkB ⟨s, x, y⟩ = inB y 0 15 := by simp [pointOkB, insideB, h0, h1]
      rw [e]; clear e h0 h1
      go_enter Tryz.func109, Tryz.ntmps109
      go_wp2_with fail
      refine (l1NameOk_any _ _ hs).mono ?_; rw [H0.out]; rintro e w' ⟨rfl, rfl⟩
      go_wp2_with fail
      refine (l1In_any _ _ _ _).mono ?_; rw [H1.out]; rintro e w' ⟨rfl, rfl⟩
      go_wp2_with fail
      refine (l1In_any _ _ _ _).mono ?_; rintro e w' ⟨rfl, rfl⟩
      go_wp2
      go_ret
      exact ⟨rfl, (Below.refl _ _).alloc (Nat.le_refl _) _⟩
end Go.Proofs.YthccipaobeapbabGreatDoor

/-
  Lists of kinds and of points: sizes, copies, comparisons.
-/
namespace Go.Proofs.YthccipaobeapbabGreatDoor
open Go.RowKit

set_option maxHeartbeats 800000 in
theorem szKinds_any (v : Value) (l : List Tri) (left : Int) (w : World) (hv : TrisAt w v l) (hs : ∀ t ∈ l, t.s.size ≤ maxLen) (hl : 0 ≤ left) (hl' : left ≤ 1048576) :
    Calls Tryz.prog 78 #[v, .int .i64 left] w fun e w' => e = .returned (.int .i64 (szR (szTris l) left)) ∧ Below w.heap.size w w' := by
  have hv0 := hv
  obtain ⟨a, cap, rfl, hlc, hcm, hc⟩ := hv
  unfold maxLen at hcm
  by_cases hn : left - (l.length : Int) < 0
  · rw [szR_neg (by unfold szTris; omega)]
    clear hc
    go_enter Tryz.func78, Tryz.ntmps78
    go_wp2
    go_ret
    exact ⟨rfl, Below.refl _ _⟩
  · have HC : Hid (∀ i t, l[i]? = some t → ∃ b off, a = some ⟨b, off, none⟩ ∧
      w.cell? ⟨b, off + i * 3, none⟩ = some (.string t.s) ∧ w.cell? ⟨b, off + i * 3 + 1, none⟩ = some (.int .i64 t.x) ∧ w.cell? ⟨b, off + i * 3 + 2, none⟩ = some (.int .i64 t.y)) := hc
    have HS : Hid (∀ t ∈ l, t.s.size ≤ maxLen) := hs
    clear hc hs hv0
    go_enter Tryz.func78, Tryz.ntmps78
    go_wp2
    go_loopw [1, 5] (fun lf i w' => ∃ k : Nat, k ≤ l.length ∧ i = .int .i64 k ∧ lf = .int .i64 (left - l.length - sumS (l.take k)) ∧ 0 ≤ left - l.length - sumS (l.take k) ∧ Below w.heap.size w w') (fun _ i _ => l.length - (intOf i).toNat)
    case atStart => exact ⟨0, Nat.zero_le _, rfl, by simp [sumS], by simp [sumS]; omega, Below.refl _ _⟩
    case round =>
      obtain ⟨k, hk, rfl, rfl, hge, hb⟩ := hrel
      by_cases hlt : k < l.length
      · obtain ⟨b, off, rfl, c0, c1, c2⟩ := HC.out k l[k] (by simp [hlt])
        have d0 := cell_keep hb (Nat.le_refl _) c0
        have d1 := cell_keep hb (Nat.le_refl _) c1
        have d2 := cell_keep hb (Nat.le_refl _) c2
        have HT : Hid (sumS (l.take (k + 1)) = sumS (l.take k) + (l[k]).s.size) := sumS_take_succ l k hlt
        have HT' : Hid (sumS (l.take (k + 1)) ≤ sumS l) := sumS_take_le l (k + 1)
        have hsk : (l[k]).s.size ≤ maxLen := HS.out _ (List.getElem_mem hlt)
        clear c0 c1 c2 HC HS
        generalize l[k] = t at *
        have hq : 0 ≤ (sumS (l.take k) : Int) := by omega
        generalize hsum : sumS (l.take k) = sk at *
        have HQ : Hid (sumS (l.take k) = sk) := hsum
        clear hsum
        go_wp2_with fail
        refine (szKind_any t _ _ hsk (by omega) (by omega)).mono ?_
        rintro e w1 ⟨rfl, hb1⟩
        by_cases hneg : left - (l.length : Int) - (sk : Int) - (t.s.size : Int) < 0
        · rw [szR_neg (by omega)]
          go_wp2
          go_ret
          refine ⟨ret_int (szR_neg ?_).symm, below_step hb hb1⟩
          have h1 := HT.out; have h2 := HT'.out
          unfold szTris; omega
        · rw [szR_pos (by omega)]
          have hge1 : 0 ≤ left - (l.length : Int) - (sk : Int) - (t.s.size : Int) := by omega
          go_wp2
          go_roundw
          case rel => exact ⟨k + 1, by omega, by go_num, by rw [HT.out]; congr 1; omega, by rw [HT.out]; omega, below_step hb hb1⟩
          case measure => simp [intOf]; omega
      · go_wp2
        go_ret
        refine ⟨ret_int ?_, hb⟩
        rw [List.take_of_length_le (by omega)] at hge ⊢
        rw [szR_pos (by unfold szTris; omega)]
        unfold szTris
        omega

set_option maxHeartbeats 800000 in
theorem eqKinds_any (v v' : Value) (l : List Tri) (w : World) (hv : TrisAt w v l) (hv' : TrisAt w v' l) :
    Calls Tryz.prog 69 #[v, v'] w fun e w' => e = .returned (.bool true) ∧ Below w.heap.size w w' := by
  obtain ⟨a, cap, rfl, hlc, hcm, hc⟩ := hv
  obtain ⟨a', cap', rfl, hlc', hcm', hc'⟩ := hv'
  unfold maxLen at hcm hcm'
  have HC : Hid (∀ i t, l[i]? = some t → ∃ b off, a = some ⟨b, off, none⟩ ∧
      w.cell? ⟨b, off + i * 3, none⟩ = some (.string t.s) ∧ w.cell? ⟨b, off + i * 3 + 1, none⟩ = some (.int .i64 t.x) ∧ w.cell? ⟨b, off + i * 3 + 2, none⟩ = some (.int .i64 t.y)) := hc
  have HC' : Hid (∀ i t, l[i]? = some t → ∃ b off, a' = some ⟨b, off, none⟩ ∧
      w.cell? ⟨b, off + i * 3, none⟩ = some (.string t.s) ∧ w.cell? ⟨b, off + i * 3 + 1, none⟩ = some (.int .i64 t.x) ∧ w.cell? ⟨b, off + i * 3 + 2, none⟩ = some (.int .i64 t.y)) := hc'
  clear hc hc'
  go_enter Tryz.func69, Tryz.ntmps69
  go_wp2
  go_loopw [5] (fun i w' => ∃ k : Nat, k ≤ l.length ∧ i = .int .i64 k ∧ Below w.heap.size w w') (fun i _ => l.length - (intOf i).toNat)
  case atStart => exact ⟨0, Nat.zero_le _, rfl, Below.refl _ _⟩
  case round =>
    obtain ⟨k, hk, rfl, hb⟩ := hrel
    by_cases hlt : k < l.length
    · obtain ⟨b, off, rfl, c0, c1, c2⟩ := HC.out k l[k] (by simp [hlt])
      obtain ⟨b', off', rfl, c0', c1', c2'⟩ := HC'.out k l[k] (by simp [hlt])
      have d0 := cell_keep hb (Nat.le_refl _) c0
      have d1 := cell_keep hb (Nat.le_refl _) c1
      have d2 := cell_keep hb (Nat.le_refl _) c2
      have d0' := cell_keep hb (Nat.le_refl _) c0'
      have d1' := cell_keep hb (Nat.le_refl _) c1'
      have d2' := cell_keep hb (Nat.le_refl _) c2'
      clear c0 c1 c2 c0' c1' c2' HC HC'
      generalize l[k] = t at *
      have hk0 : (0 : Int) ≤ (k : Int) := by omega
      have hk1 : (k : Int) < (l.length : Int) := by omega
      go_wp2
      go_region_held3 (fun w' => w'.cell? ⟨b, off + k * 3, none⟩ = some (.string t.s) ∧ w'.cell? ⟨b, off + k * 3 + 1, none⟩ = some (.int .i64 t.x) ∧ w'.cell? ⟨b, off + k * 3 + 2, none⟩ = some (.int .i64 t.y) ∧
          w'.cell? ⟨b', off' + k * 3, none⟩ = some (.string t.s) ∧ w'.cell? ⟨b', off' + k * 3 + 1, none⟩ = some (.int .i64 t.x) ∧ w'.cell? ⟨b', off' + k * 3 + 2, none⟩ = some (.int .i64 t.y))
        (first | (simp [*, go_sem]; done) | (refine ⟨cell_keep hb1 (by simp) ?_, cell_keep hb1 (by simp) ?_, cell_keep hb1 (by simp) ?_, cell_keep hb1 (by simp) ?_, cell_keep hb1 (by simp) ?_, cell_keep hb1 (by simp) ?_⟩ <;> simp [*, go_sem]))
        (first | (go_at_call 55; refine (eqKind_any t _).mono ?_; rintro e w1 ⟨rfl, hb1⟩))
      go_wp2
      exact ⟨⟨k + 1, by omega, by go_num, below_step hb.drew hb1⟩, by simp [intOf]; omega⟩
    · go_wp2
      go_ret
      exact ⟨rfl, hb⟩
set_option maxHeartbeats 800000 in
theorem szPoints_any (v : Value) (l : List Tri) (left : Int) (w : World) (hv : TrisAt w v l) (hs : ∀ t ∈ l, t.s.size ≤ maxLen) (hl : 0 ≤ left) (hl' : left ≤ 1048576) :
    Calls Tryz.prog 79 #[v, .int .i64 left] w fun e w' => e = .returned (.int .i64 (szR (szTris l) left)) ∧ Below w.heap.size w w' := by
  have hv0 := hv
  obtain ⟨a, cap, rfl, hlc, hcm, hc⟩ := hv
  unfold maxLen at hcm
  by_cases hn : left - (l.length : Int) < 0
  · rw [szR_neg (by unfold szTris; omega)]
    clear hc
    go_enter Tryz.func79, Tryz.ntmps79
    go_wp2
    go_ret
    exact ⟨rfl, Below.refl _ _⟩
  · have HC : Hid (∀ i t, l[i]? = some t → ∃ b off, a = some ⟨b, off, none⟩ ∧
      w.cell? ⟨b, off + i * 3, none⟩ = some (.string t.s) ∧ w.cell? ⟨b, off + i * 3 + 1, none⟩ = some (.int .i64 t.x) ∧ w.cell? ⟨b, off + i * 3 + 2, none⟩ = some (.int .i64 t.y)) := hc
    have HS : Hid (∀ t ∈ l, t.s.size ≤ maxLen) := hs
    clear hc hs hv0
    go_enter Tryz.func79, Tryz.ntmps79
    go_wp2
    go_loopw [1, 5] (fun lf i w' => ∃ k : Nat, k ≤ l.length ∧ i = .int .i64 k ∧ lf = .int .i64 (left - l.length - sumS (l.take k)) ∧ 0 ≤ left - l.length - sumS (l.take k) ∧ Below w.heap.size w w') (fun _ i _ => l.length - (intOf i).toNat)
    case atStart => exact ⟨0, Nat.zero_le _, rfl, by simp [sumS], by simp [sumS]; omega, Below.refl _ _⟩
    case round =>
      obtain ⟨k, hk, rfl, rfl, hge, hb⟩ := hrel
      by_cases hlt : k < l.length
      · obtain ⟨b, off, rfl, c0, c1, c2⟩ := HC.out k l[k] (by simp [hlt])
        have d0 := cell_keep hb (Nat.le_refl _) c0
        have d1 := cell_keep hb (Nat.le_refl _) c1
        have d2 := cell_keep hb (Nat.le_refl _) c2
        have HT : Hid (sumS (l.take (k + 1)) = sumS (l.take k) + (l[k]).s.size) := sumS_take_succ l k hlt
        have HT' : Hid (sumS (l.take (k + 1)) ≤ sumS l) := sumS_take_le l (k + 1)
        have hsk : (l[k]).s.size ≤ maxLen := HS.out _ (List.getElem_mem hlt)
        clear c0 c1 c2 HC HS
        generalize l[k] = t at *
        have hq : 0 ≤ (sumS (l.take k) : Int) := by omega
        generalize hsum : sumS (l.take k) = sk at *
        have HQ : Hid (sumS (l.take k) = sk) := hsum
        clear hsum
        go_wp2_with fail
        refine (szPoint_any t _ _ hsk (by omega) (by omega)).mono ?_
        rintro e w1 ⟨rfl, hb1⟩
        by_cases hneg : left - (l.length : Int) - (sk : Int) - (t.s.size : Int) < 0
        · rw [szR_neg (by omega)]
          go_wp2
          go_ret
          refine ⟨ret_int (szR_neg ?_).symm, below_step hb hb1⟩
          have h1 := HT.out; have h2 := HT'.out
          unfold szTris; omega
        · rw [szR_pos (by omega)]
          have hge1 : 0 ≤ left - (l.length : Int) - (sk : Int) - (t.s.size : Int) := by omega
          go_wp2
          go_roundw
          case rel => exact ⟨k + 1, by omega, by go_num, by rw [HT.out]; congr 1; omega, by rw [HT.out]; omega, below_step hb hb1⟩
          case measure => simp [intOf]; omega
      · go_wp2
        go_ret
        refine ⟨ret_int ?_, hb⟩
        rw [List.take_of_length_le (by omega)] at hge ⊢
        rw [szR_pos (by unfold szTris; omega)]
        unfold szTris
        omega

set_option maxHeartbeats 800000 in
theorem eqPoints_any (v v' : Value) (l : List Tri) (w : World) (hv : TrisAt w v l) (hv' : TrisAt w v' l) :
    Calls Tryz.prog 70 #[v, v'] w fun e w' => e = .returned (.bool true) ∧ Below w.heap.size w w' := by
  obtain ⟨a, cap, rfl, hlc, hcm, hc⟩ := hv
  obtain ⟨a', cap', rfl, hlc', hcm', hc'⟩ := hv'
  unfold maxLen at hcm hcm'
  have HC : Hid (∀ i t, l[i]? = some t → ∃ b off, a = some ⟨b, off, none⟩ ∧
      w.cell? ⟨b, off + i * 3, none⟩ = some (.string t.s) ∧ w.cell? ⟨b, off + i * 3 + 1, none⟩ = some (.int .i64 t.x) ∧ w.cell? ⟨b, off + i * 3 + 2, none⟩ = some (.int .i64 t.y)) := hc
  have HC' : Hid (∀ i t, l[i]? = some t → ∃ b off, a' = some ⟨b, off, none⟩ ∧
      w.cell? ⟨b, off + i * 3, none⟩ = some (.string t.s) ∧ w.cell? ⟨b, off + i * 3 + 1, none⟩ = some (.int .i64 t.x) ∧ w.cell? ⟨b, off + i * 3 + 2, none⟩ = some (.int .i64 t.y)) := hc'
  clear hc hc'
  go_enter Tryz.func70, Tryz.ntmps70
  go_wp2
  go_loopw [5] (fun i w' => ∃ k : Nat, k ≤ l.length ∧ i = .int .i64 k ∧ Below w.heap.size w w') (fun i _ => l.length - (intOf i).toNat)
  case atStart => exact ⟨0, Nat.zero_le _, rfl, Below.refl _ _⟩
  case round =>
    obtain ⟨k, hk, rfl, hb⟩ := hrel
    by_cases hlt : k < l.length
    · obtain ⟨b, off, rfl, c0, c1, c2⟩ := HC.out k l[k] (by simp [hlt])
      obtain ⟨b', off', rfl, c0', c1', c2'⟩ := HC'.out k l[k] (by simp [hlt])
      have d0 := cell_keep hb (Nat.le_refl _) c0
      have d1 := cell_keep hb (Nat.le_refl _) c1
      have d2 := cell_keep hb (Nat.le_refl _) c2
      have d0' := cell_keep hb (Nat.le_refl _) c0'
      have d1' := cell_keep hb (Nat.le_refl _) c1'
      have d2' := cell_keep hb (Nat.le_refl _) c2'
      clear c0 c1 c2 c0' c1' c2' HC HC'
      generalize l[k] = t at *
      have hk0 : (0 : Int) ≤ (k : Int) := by omega
      have hk1 : (k : Int) < (l.length : Int) := by omega
      go_wp2
      go_region_held3 (fun w' => w'.cell? ⟨b, off + k * 3, none⟩ = some (.string t.s) ∧ w'.cell? ⟨b, off + k * 3 + 1, none⟩ = some (.int .i64 t.x) ∧ w'.cell? ⟨b, off + k * 3 + 2, none⟩ = some (.int .i64 t.y) ∧
          w'.cell? ⟨b', off' + k * 3, none⟩ = some (.string t.s) ∧ w'.cell? ⟨b', off' + k * 3 + 1, none⟩ = some (.int .i64 t.x) ∧ w'.cell? ⟨b', off' + k * 3 + 2, none⟩ = some (.int .i64 t.y))
        (first | (simp [*, go_sem]; done) | (refine ⟨cell_keep hb1 (by simp) ?_, cell_keep hb1 (by simp) ?_, cell_keep hb1 (by simp) ?_, cell_keep hb1 (by simp) ?_, cell_keep hb1 (by simp) ?_, cell_keep hb1 (by simp) ?_⟩ <;> simp [*, go_sem]))
        (first | (go_at_call 121; refine (eqPoint_any t _).mono ?_; rintro e w1 ⟨rfl, hb1⟩))
      go_wp2
      exact ⟨⟨k + 1, by omega, by go_num, below_step hb.drew hb1⟩, by simp [intOf]; omega⟩
    · go_wp2
      go_ret
      exact ⟨rfl, hb⟩
end Go.Proofs.YthccipaobeapbabGreatDoor

/-
  Copies of lists of kinds and of points: new memory that reads the same.
-/
namespace Go.Proofs.YthccipaobeapbabGreatDoor
open Go.RowKit

def triRow (t : Tri) : List Value := [.string t.s, .int .i64 t.x, .int .i64 t.y]

/-- The first k of l lie in block B, which has room for n of them. -/
structure Filled (w wr : World) (B n : Nat) (l : List Tri) (k : Nat) : Prop where
  below : Below w.heap.size w wr
  big : B < wr.heap.size
  old : w.heap.size ≤ B
  room : wr.there B 0 (n * 3)
  has : ∀ i t, i < k → l[i]? = some t → wr.rangeAt B (i * 3) (triRow t)

theorem there_keep {w w' : World} {B o n : Nat} (h : w.there B o n) (hb : Below w.heap.size w w') (hB : B < w.heap.size) : w'.there B o n := fun j hj => by
  rw [hb.cell (p := ⟨B, o + j, none⟩) hB, hb.frozen (p := ⟨B, o + j, none⟩) hB]; exact h j hj
theorem range_keep {w w' : World} {B o : Nat} {cs : List Value} (h : w.rangeAt B o cs) (hb : Below w.heap.size w w') (hB : B < w.heap.size) : w'.rangeAt B o cs := fun j v hv => by
  rw [hb.cell (p := ⟨B, o + j, none⟩) hB]; exact h j v hv

theorem Filled.call {w wr w1 : World} {B n : Nat} {l : List Tri} {k : Nat} (h : Filled w wr B n l k) (hb : Below wr.heap.size wr w1) : Filled w w1 B n l k :=
  ⟨below_step h.below hb, Nat.lt_of_lt_of_le h.big hb.size, h.old, there_keep h.room hb h.big, fun i t hi ht => range_keep (h.has i t hi ht) hb h.big⟩

theorem setCells_below {w : World} {B o : Nat} {vs : List Value} (C : Nat) (h : C ≤ B) : Below C w (w.setCells B o vs) := by
  induction vs generalizing w o with
  | nil => exact Below.refl _ _
  | cons v vs ih =>
    have := (Below.setCell (p := ⟨B, o, none⟩) (Below.refl C w) h v).trans (ih (w := w.setCell ⟨B, o, none⟩ v) (o := o + 1))
    simpa [World.setCells] using this

theorem Filled.store {w wr : World} {B n : Nat} {l : List Tri} {k : Nat} (h : Filled w wr B n l k) (hk : k < n) {t : Tri} (ht : l[k]? = some t) :
    Filled w (wr.setCells B (k * 3) (triRow t)) B n l (k + 1) := by
  have hthere : wr.there B (k * 3) (triRow t).length := fun j hj => by
    have := h.room (k * 3 + j) (by simp [triRow] at hj; omega)
    simpa using this
  refine ⟨h.below.trans (setCells_below _ h.old), ?_, h.old, World.there_setCells h.room _ _ _, fun i u hi hu => ?_⟩
  · exact Nat.lt_of_lt_of_le h.big (setCells_below (w := wr) (B := B) (o := k * 3) (vs := triRow t) 0 (Nat.zero_le _)).size
  · by_cases e : i = k
    · subst e
      rw [ht] at hu; cases hu
      exact World.rangeAt_setCells_same _ _ _ _ hthere
    · exact World.rangeAt_setCells_apart (h.has i u (by omega) hu) _ _ _ (.inr (.inl (by simp [triRow]; omega)))

theorem Filled.tris {w wr : World} {B : Nat} {l : List Tri} (h : Filled w wr B l.length l l.length) (hm : l.length ≤ maxLen) : TrisAt wr (.slice (some ⟨B, 0, none⟩) l.length l.length) l :=
  ⟨_, _, rfl, Nat.le_refl _, hm, fun i t ht => by
    have hi : i < l.length := (List.getElem?_eq_some_iff.1 ht).1
    have hr := h.has i t hi ht
    refine ⟨B, 0, rfl, ?_, ?_, ?_⟩
    · simpa using hr 0 (.string t.s) rfl
    · simpa using hr 1 (.int .i64 t.x) rfl
    · simpa using hr 2 (.int .i64 t.y) rfl⟩

theorem made_there (w : World) (C : Array Value) (T n : Nat) (hC : C.size = n) : (w.alloc (.cells C T)).there w.heap.size 0 n := fun j hj => by
  have h1 := World.cell?_alloc_at (w := w) C T w.heap.size j rfl
  have h2 := World.frozen?_alloc_at (w := w) C T w.heap.size j rfl
  simp only [Nat.zero_add]
  rw [h1, h2]
  simp; omega

theorem Filled.start (w : World) (C : Array Value) (T n : Nat) (l : List Tri) (hC : C.size = n * 3) : Filled w (w.alloc (.cells C T)) w.heap.size n l 0 :=
  ⟨(Below.refl _ _).alloc (Nat.le_refl _) _, by simp, Nat.le_refl _, made_there w C T _ hC, fun i _ hi => absurd hi (Nat.not_lt_zero _)⟩

theorem infoKind : (Tryz.prog.info? 49).map (fun i => (i.zero, i.size, i.bytes)) = some (some (.agg #[.string ByteArray.empty, .int .i64 0, .int .i64 0]), 3, 32) := by kernel_rfl

set_option maxHeartbeats 800000 in
theorem toKinds_own (v : Value) (l : List Tri) (w : World) (hv : TrisAt w v l) (hn : l.length ≤ 1048576) :
    Calls Tryz.prog 87 #[v] w fun e w' => e = .returned (.slice (some ⟨w.heap.size, 0, none⟩) l.length l.length) ∧ Filled w w' w.heap.size l.length l l.length := by
  obtain ⟨a, cap, rfl, hlc, hcm, hc⟩ := hv
  unfold maxLen at hcm
  have HC : Hid (∀ i t, l[i]? = some t → ∃ b off, a = some ⟨b, off, none⟩ ∧
      w.cell? ⟨b, off + i * 3, none⟩ = some (.string t.s) ∧ w.cell? ⟨b, off + i * 3 + 1, none⟩ = some (.int .i64 t.x) ∧ w.cell? ⟨b, off + i * 3 + 2, none⟩ = some (.int .i64 t.y)) := hc
  clear hc
  obtain ⟨i0, hi, hz0, hz1, hz2⟩ := info_parts infoKind
  have hmk : ∀ w : World, (Instr.makeSlice 22 (.int .i64 (l.length : Int)) (.int .i64 (l.length : Int))).run Tryz.prog w = .ok (.slice (some ⟨w.heap.size, 0, none⟩) l.length l.length) (w.alloc (.cells (madeCells (Value.agg #[.string ByteArray.empty, .int .i64 0, .int .i64 0]).cells (l.length * 3)) 49)) := fun w => by
    have h := run_make (P := Tryz.prog) w 22 49 i0 _ Tryz.underlying22 hi hz0 .i64 .i64 l.length l.length (by omega) (by omega) (by rw [hz2]; omega) (by omega)
    rw [hz1] at h
    simpa using h
  have HM : Hid ((madeCells (Value.agg #[.string ByteArray.empty, .int .i64 0, .int .i64 0]).cells (l.length * 3)).size = l.length * 3) := size_madeCells _ _
  generalize madeCells (Value.agg #[.string ByteArray.empty, .int .i64 0, .int .i64 0]).cells (l.length * 3) = C at hmk HM
  clear hi hz0 hz1 hz2
  go_enter Tryz.func87, Tryz.ntmps87
  go_wp2
  go_loopw [4] (fun i wr => ∃ k : Nat, k ≤ l.length ∧ i = .int .i64 k ∧ Filled w wr w.heap.size l.length l k) (fun i _ => l.length - (intOf i).toNat)
  case atStart => exact ⟨0, Nat.zero_le _, rfl, Filled.start w C _ _ l HM.out⟩
  case round =>
    obtain ⟨k, hk, rfl, hf⟩ := hrel
    by_cases hlt : k < l.length
    · have hk? : l[k]? = some (at' l k) := at_get hlt
      obtain ⟨b, off, rfl, c0, c1, c2⟩ := HC.out k _ hk?
      have HK : Hid (l[k]? = some (at' l k)) := hk?
      have d0 := cell_keep hf.below (Nat.le_refl _) c0
      have d1 := cell_keep hf.below (Nat.le_refl _) c1
      have d2 := cell_keep hf.below (Nat.le_refl _) c2
      clear c0 c1 c2 HC hk?
      generalize at' l k = t at *
      have hk0 : (0 : Int) ≤ (k : Int) := by omega
      have hk1 : (k : Int) < (l.length : Int) := by omega
      go_wp2_with fail
      refine (toKind_any t _).mono ?_
      rintro e w1 ⟨rfl, hb1⟩
      have hf1 := hf.call hb1
      have e0 := hf1.room (k * 3) (by omega)
      have e1 := hf1.room (k * 3 + 1) (by omega)
      have e2 := hf1.room (k * 3 + 2) (by omega)
      simp only [Nat.zero_add, Option.isSome_iff_exists] at e0 e1 e2
      obtain ⟨⟨v0, e0⟩, f0⟩ := e0
      obtain ⟨⟨v1, e1⟩, f1⟩ := e1
      obtain ⟨⟨v2, e2⟩, f2⟩ := e2
      go_wp2
      exact ⟨⟨k + 1, by omega, by go_num, hf1.store hlt HK.out⟩, by simp [intOf]; omega⟩
    · go_wp2
      go_ret
      obtain rfl : k = l.length := by omega
      exact ⟨rfl, hf⟩
theorem toKinds_any (v : Value) (l : List Tri) (w : World) (hv : TrisAt w v l) (hn : l.length ≤ 1048576) :
    Calls Tryz.prog 87 #[v] w fun e w' => e = .returned (.slice (some ⟨w.heap.size, 0, none⟩) l.length l.length) ∧ TrisAt w' (.slice (some ⟨w.heap.size, 0, none⟩) l.length l.length) l ∧ Below w.heap.size w w' ∧ w.heap.size < w'.heap.size :=
  (toKinds_own v l w hv hn).mono fun _ _ ⟨he, hf⟩ => ⟨he, hf.tris (by unfold maxLen; omega), hf.below, hf.big⟩
theorem infoPoint : (Tryz.prog.info? 80).map (fun i => (i.zero, i.size, i.bytes)) = some (some (.agg #[.string ByteArray.empty, .int .i64 0, .int .i64 0]), 3, 32) := by kernel_rfl

set_option maxHeartbeats 800000 in
theorem toPoints_own (v : Value) (l : List Tri) (w : World) (hv : TrisAt w v l) (hn : l.length ≤ 1048576) :
    Calls Tryz.prog 88 #[v] w fun e w' => e = .returned (.slice (some ⟨w.heap.size, 0, none⟩) l.length l.length) ∧ Filled w w' w.heap.size l.length l l.length := by
  obtain ⟨a, cap, rfl, hlc, hcm, hc⟩ := hv
  unfold maxLen at hcm
  have HC : Hid (∀ i t, l[i]? = some t → ∃ b off, a = some ⟨b, off, none⟩ ∧
      w.cell? ⟨b, off + i * 3, none⟩ = some (.string t.s) ∧ w.cell? ⟨b, off + i * 3 + 1, none⟩ = some (.int .i64 t.x) ∧ w.cell? ⟨b, off + i * 3 + 2, none⟩ = some (.int .i64 t.y)) := hc
  clear hc
  obtain ⟨i0, hi, hz0, hz1, hz2⟩ := info_parts infoPoint
  have hmk : ∀ w : World, (Instr.makeSlice 23 (.int .i64 (l.length : Int)) (.int .i64 (l.length : Int))).run Tryz.prog w = .ok (.slice (some ⟨w.heap.size, 0, none⟩) l.length l.length) (w.alloc (.cells (madeCells (Value.agg #[.string ByteArray.empty, .int .i64 0, .int .i64 0]).cells (l.length * 3)) 80)) := fun w => by
    have h := run_make (P := Tryz.prog) w 23 80 i0 _ Tryz.underlying23 hi hz0 .i64 .i64 l.length l.length (by omega) (by omega) (by rw [hz2]; omega) (by omega)
    rw [hz1] at h
    simpa using h
  have HM : Hid ((madeCells (Value.agg #[.string ByteArray.empty, .int .i64 0, .int .i64 0]).cells (l.length * 3)).size = l.length * 3) := size_madeCells _ _
  generalize madeCells (Value.agg #[.string ByteArray.empty, .int .i64 0, .int .i64 0]).cells (l.length * 3) = C at hmk HM
  clear hi hz0 hz1 hz2
  go_enter Tryz.func88, Tryz.ntmps88
  go_wp2
  go_loopw [4] (fun i wr => ∃ k : Nat, k ≤ l.length ∧ i = .int .i64 k ∧ Filled w wr w.heap.size l.length l k) (fun i _ => l.length - (intOf i).toNat)
  case atStart => exact ⟨0, Nat.zero_le _, rfl, Filled.start w C _ _ l HM.out⟩
  case round =>
    obtain ⟨k, hk, rfl, hf⟩ := hrel
    by_cases hlt : k < l.length
    · have hk? : l[k]? = some (at' l k) := at_get hlt
      obtain ⟨b, off, rfl, c0, c1, c2⟩ := HC.out k _ hk?
      have HK : Hid (l[k]? = some (at' l k)) := hk?
      have d0 := cell_keep hf.below (Nat.le_refl _) c0
      have d1 := cell_keep hf.below (Nat.le_refl _) c1
      have d2 := cell_keep hf.below (Nat.le_refl _) c2
      clear c0 c1 c2 HC hk?
      generalize at' l k = t at *
      have hk0 : (0 : Int) ≤ (k : Int) := by omega
      have hk1 : (k : Int) < (l.length : Int) := by omega
      go_wp2_with fail
      refine (toPoint_any t _).mono ?_
      rintro e w1 ⟨rfl, hb1⟩
      have hf1 := hf.call hb1
      have e0 := hf1.room (k * 3) (by omega)
      have e1 := hf1.room (k * 3 + 1) (by omega)
      have e2 := hf1.room (k * 3 + 2) (by omega)
      simp only [Nat.zero_add, Option.isSome_iff_exists] at e0 e1 e2
      obtain ⟨⟨v0, e0⟩, f0⟩ := e0
      obtain ⟨⟨v1, e1⟩, f1⟩ := e1
      obtain ⟨⟨v2, e2⟩, f2⟩ := e2
      go_wp2
      exact ⟨⟨k + 1, by omega, by go_num, hf1.store hlt HK.out⟩, by simp [intOf]; omega⟩
    · go_wp2
      go_ret
      obtain rfl : k = l.length := by omega
      exact ⟨rfl, hf⟩
theorem toPoints_any (v : Value) (l : List Tri) (w : World) (hv : TrisAt w v l) (hn : l.length ≤ 1048576) :
    Calls Tryz.prog 88 #[v] w fun e w' => e = .returned (.slice (some ⟨w.heap.size, 0, none⟩) l.length l.length) ∧ TrisAt w' (.slice (some ⟨w.heap.size, 0, none⟩) l.length l.length) l ∧ Below w.heap.size w w' ∧ w.heap.size < w'.heap.size :=
  (toPoints_own v l w hv hn).mono fun _ _ ⟨he, hf⟩ => ⟨he, hf.tris (by unfold maxLen; omega), hf.below, hf.big⟩
end Go.Proofs.YthccipaobeapbabGreatDoor
