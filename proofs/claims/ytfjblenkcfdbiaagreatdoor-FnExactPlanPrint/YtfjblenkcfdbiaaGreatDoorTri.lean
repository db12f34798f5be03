
/-
  Kinds and points one by one: sizes, copies, comparisons, names.
-/
import Derived.Test.YtfjblenkcfdbiaaGreatDoorLeaf
namespace Go.Proofs.YtfjblenkcfdbiaaGreatDoor
open Go.RowKit

set_option maxHeartbeats 400000 in
theorem szKind_any (t : Tri) (left : Int) (w : World) (hs : t.s.size ≤ maxLen) (hl : 0 ≤ left) (hl' : left ≤ 1048576) :
    Calls Tryz.prog 79 #[.agg #[.string t.s, .int .i64 t.x, .int .i64 t.y], .int .i64 left] w fun e w' => e = .returned (.int .i64 (szR t.s.size left)) ∧ Below w.heap.size w w' := by
  unfold maxLen at hs
  by_cases h : left - (t.s.size : Int) < 0
  · rw [szR_neg (by omega)]
    go_enter Tryz.func79, Tryz.ntmps79
    go_wp2
    go_ret
    exact ⟨rfl, (Below.refl _ _).alloc (Nat.le_refl _) _⟩
  · rw [szR_pos (by omega)]
    go_enter Tryz.func79, Tryz.ntmps79
    go_wp2
    go_ret
    exact ⟨rfl, (Below.refl _ _).alloc (Nat.le_refl _) _⟩

set_option maxHeartbeats 400000 in
theorem toKind_any (t : Tri) (w : World) :
    Calls Tryz.prog 85 #[.agg #[.string t.s, .int .i64 t.x, .int .i64 t.y]] w fun e w' => e = .returned (.agg #[.string t.s, .int .i64 t.x, .int .i64 t.y]) ∧ Below w.heap.size w w' := by
  go_enter Tryz.func85, Tryz.ntmps85
  go_wp2
  exact bodyPost_ret (v := .agg #[.string t.s, .int .i64 t.x, .int .i64 t.y]) (by simp [results, Tryz.results85, go_sem]) rfl ⟨rfl, (((Below.refl _ _).alloc (Nat.le_refl _) _).alloc (by simp) _).alloc (by simp; omega) _⟩

set_option maxHeartbeats 400000 in
theorem eqKind_any (t : Tri) (w : World) :
    Calls Tryz.prog 35 #[.agg #[.string t.s, .int .i64 t.x, .int .i64 t.y], .agg #[.string t.s, .int .i64 t.x, .int .i64 t.y]] w fun e w' => e = .returned (.bool true) ∧ Below w.heap.size w w' := by
  go_enter Tryz.func35, Tryz.ntmps35
  go_wp2
  all_goals go_ret
  all_goals exact ⟨rfl, ((Below.refl _ _).alloc (Nat.le_refl _) _).alloc (by simp) _⟩
set_option maxHeartbeats 400000 in
theorem szPoint_any (t : Tri) (left : Int) (w : World) (hs : t.s.size ≤ maxLen) (hl : 0 ≤ left) (hl' : left ≤ 1048576) :
    Calls Tryz.prog 80 #[.agg #[.string t.s, .int .i64 t.x, .int .i64 t.y], .int .i64 left] w fun e w' => e = .returned (.int .i64 (szR t.s.size left)) ∧ Below w.heap.size w w' := by
  unfold maxLen at hs
  by_cases h : left - (t.s.size : Int) < 0
  · rw [szR_neg (by omega)]
    go_enter Tryz.func80, Tryz.ntmps80
    go_wp2
    go_ret
    exact ⟨rfl, (Below.refl _ _).alloc (Nat.le_refl _) _⟩
  · rw [szR_pos (by omega)]
    go_enter Tryz.func80, Tryz.ntmps80
    go_wp2
    go_ret
    exact ⟨rfl, (Below.refl _ _).alloc (Nat.le_refl _) _⟩

set_option maxHeartbeats 400000 in
theorem toPoint_any (t : Tri) (w : World) :
    Calls Tryz.prog 86 #[.agg #[.string t.s, .int .i64 t.x, .int .i64 t.y]] w fun e w' => e = .returned (.agg #[.string t.s, .int .i64 t.x, .int .i64 t.y]) ∧ Below w.heap.size w w' := by
  go_enter Tryz.func86, Tryz.ntmps86
  go_wp2
  exact bodyPost_ret (v := .agg #[.string t.s, .int .i64 t.x, .int .i64 t.y]) (by simp [results, Tryz.results86, go_sem]) rfl ⟨rfl, (((Below.refl _ _).alloc (Nat.le_refl _) _).alloc (by simp) _).alloc (by simp; omega) _⟩

set_option maxHeartbeats 400000 in
theorem eqPoint_any (t : Tri) (w : World) :
    Calls Tryz.prog 95 #[.agg #[.string t.s, .int .i64 t.x, .int .i64 t.y], .agg #[.string t.s, .int .i64 t.x, .int .i64 t.y]] w fun e w' => e = .returned (.bool true) ∧ Below w.heap.size w w' := by
  go_enter Tryz.func95, Tryz.ntmps95
  go_wp2
  all_goals go_ret
  all_goals exact ⟨rfl, ((Below.refl _ _).alloc (Nat.le_refl _) _).alloc (by simp) _⟩

set_option maxHeartbeats 400000 in
theorem kindName_any (t : Tri) (w : World) :
    Calls Tryz.prog 105 #[.agg #[.string t.s, .int .i64 t.x, .int .i64 t.y]] w fun e w' => e = .returned (.string t.s) ∧ Below w.heap.size w w' := by
  go_enter Tryz.func105, Tryz.ntmps105
  go_wp2
  go_ret
  exact ⟨rfl, (Below.refl _ _).alloc (Nat.le_refl _) _⟩
set_option maxHeartbeats 400000 in
theorem pointName_any (t : Tri) (w : World) :
    Calls Tryz.prog 108 #[.agg #[.string t.s, .int .i64 t.x, .int .i64 t.y]] w fun e w' => e = .returned (.string t.s) ∧ Below w.heap.size w w' := by
  go_enter Tryz.func108, Tryz.ntmps108
  go_wp2
  go_ret
  exact ⟨rfl, (Below.refl _ _).alloc (Nat.le_refl _) _⟩

set_option maxHeartbeats 400000 in
theorem paceOk_any (t : Tri) (w : World) :
    Calls Tryz.prog 106 #[.agg #[.string t.s, .int .i64 t.x, .int .i64 t.y]] w fun e w' => e = .returned (.bool (paceB t)) ∧ Below w.heap.size w w' := by
  obtain ⟨s, x, y⟩ := t
  dsimp only
  by_cases h1 : 1 ≤ x
  · by_cases h2 : x ≤ y
    · by_cases h3 : y ≤ 50
      · have e : paceB ⟨s, x, y⟩ = true := by simp [paceB, h1, h2, h3]
        rw [e]; clear e
        go_enter Tryz.func106, Tryz.ntmps106
        go_wp2
        go_ret
        exact ⟨rfl, (Below.refl _ _).alloc (Nat.le_refl _) _⟩
      · have e : paceB ⟨s, x, y⟩ = false := by simp [paceB, h3]
        rw [e]; clear e
        go_enter Tryz.func106, Tryz.ntmps106
        go_wp2
        go_ret
        exact ⟨rfl, (Below.refl _ _).alloc (Nat.le_refl _) _⟩
    · have e : paceB ⟨s, x, y⟩ = false := by simp [paceB, h2]
      rw [e]; clear e
      go_enter Tryz.func106, Tryz.ntmps106
      go_wp2
      go_ret
      exact ⟨rfl, (Below.refl _ _).alloc (Nat.le_refl _) _⟩
  · have e : paceB ⟨s, x, y⟩ = false := by simp [paceB, h1]
    rw [e]; clear e
    go_enter Tryz.func106, Tryz.ntmps106
    go_wp2
    go_ret
    exact ⟨rfl, (Below.refl _ _).alloc (Nat.le_refl _) _⟩

set_option maxHeartbeats 400000 in
theorem inside_any (t : Tri) (w : World) :
    Calls Tryz.prog 109 #[.agg #[.string t.s, .int .i64 t.x, .int .i64 t.y]] w fun e w' => e = .returned (.bool (insideB t)) ∧ Below w.heap.size w w' := by
  obtain ⟨s, x, y⟩ := t
  dsimp only
  cases h1 : inB x 0 15
  · have e : insideB ⟨s, x, y⟩ = false := by simp [insideB, h1]
    rw [e]; clear e
    have H1 : Hid (inB x 0 15 = false) := h1
    clear h1
    go_enter Tryz.func109, Tryz.ntmps109
    go_wp2_with (go_at_call 123; refine (onSide_any _ _).mono ?_; rw [H1.out]; rintro e w' ⟨rfl, rfl⟩)
    go_ret
    exact ⟨rfl, (Below.refl _ _).alloc (Nat.le_refl _) _⟩
  · have H1 : Hid (inB x 0 15 = true) := h1
    have e : insideB ⟨s, x, y⟩ = inB y 0 15 := by simp [insideB, h1]
    rw [e]; clear e h1
    go_enter Tryz.func109, Tryz.ntmps109
    go_wp2_with fail
    refine (onSide_any _ _).mono ?_; rw [H1.out]; rintro e w' ⟨rfl, rfl⟩
    go_wp2_with fail
    refine (onSide_any _ _).mono ?_; rintro e w' ⟨rfl, rfl⟩
    go_wp2
    go_ret
    exact ⟨rfl, (Below.refl _ _).alloc (Nat.le_refl _) _⟩

set_option maxHeartbeats 400000 in
theorem l1KindOk_any (t : Tri) (w : World) (hs : t.s.size ≤ maxLen) :
    Calls Tryz.prog 82 #[.agg #[.string t.s, .int .i64 t.x, .int .i64 t.y]] w fun e w' => e = .returned (.bool (kindOkB t)) ∧ Below w.heap.size w w' := by
  obtain ⟨s, x, y⟩ := t
  dsimp only at hs ⊢
  cases h0 : nameB s
  · have e : kindOkB ⟨s, x, y⟩ = false := by simp [kindOkB, h0]
    have H0 : Hid (nameB s = false) := h0
    rw [e]; clear e h0
    go_enter Tryz.func82, Tryz.ntmps82
    go_wp2_with fail
    refine (l1NameOk_any _ _ hs).mono ?_; rw [H0.out]; rintro e w' ⟨rfl, rfl⟩
    go_wp2
    go_ret
    exact ⟨rfl, (Below.refl _ _).alloc (Nat.le_refl _) _⟩
  · have H0 : Hid (nameB s = true) := h0
    cases h1 : inB x 1 y
    · have H1 : Hid (inB x 1 y = false) := h1
      have e : kindOkB ⟨s, x, y⟩ = false := by simp [kindOkB, paceB]; simp [inB] at h1; omega
      rw [e]; clear e h0 h1
      go_enter Tryz.func82, Tryz.ntmps82
      go_wp2_with fail
      refine (l1NameOk_any _ _ hs).mono ?_; rw [H0.out]; rintro e w' ⟨rfl, rfl⟩
      go_wp2_with fail
      refine (l1In_any _ _ _ _).mono ?_; rw [H1.out]; rintro e w' ⟨rfl, rfl⟩
      go_wp2
      go_ret
      exact ⟨rfl, (Below.refl _ _).alloc (Nat.le_refl _) _⟩
    · have H1 : Hid (inB x 1 y = true) := h1
      have e : kindOkB ⟨s, x, y⟩ = decide (y ≤ 50) := by simp [inB] at h1; simp [kindOkB, paceB, h0, h1]
      rw [e]; clear e h0 h1
      go_enter Tryz.func82, Tryz.ntmps82
      go_wp2_with fail
      refine (l1NameOk_any _ _ hs).mono ?_; rw [H0.out]; rintro e w' ⟨rfl, rfl⟩
      go_wp2_with fail
      refine (l1In_any _ _ _ _).mono ?_; rw [H1.out]; rintro e w' ⟨rfl, rfl⟩
      go_wp2
      go_ret
      exact ⟨rfl, (Below.refl _ _).alloc (Nat.le_refl _) _⟩

set_option maxHeartbeats 400000 in
theorem l1PointOk_any (t : Tri) (w : World) (hs : t.s.size ≤ maxLen) :
    Calls Tryz.prog 83 #[.agg #[.string t.s, .int .i64 t.x, .int .i64 t.y]] w fun e w' => e = .returned (.bool (pointOkB t)) ∧ Below w.heap.size w w' := by
  obtain ⟨s, x, y⟩ := t
  dsimp only at hs ⊢
  cases h0 : nameB s
  · have e : pointOkB ⟨s, x, y⟩ = false := by simp [pointOkB, h0]
    have H0 : Hid (nameB s = false) := h0
    rw [e]; clear e h0
    go_enter Tryz.func83, Tryz.ntmps83
    go_wp2_with fail
    refine (l1NameOk_any _ _ hs).mono ?_; rw [H0.out]; rintro e w' ⟨rfl, rfl⟩
    go_wp2
    go_ret
    exact ⟨rfl, (Below.refl _ _).alloc (Nat.le_refl _) _⟩
  · have H0 : Hid (nameB s = true) := h0
    cases h1 : inB x 0 15
    · have H1 : Hid (inB x 0 15 = false) := h1
      have e : pointOkB ⟨s, x, y⟩ = false := by simp [pointOkB, insideB, h1]
      rw [e]; clear e h0 h1
      go_enter Tryz.func83, Tryz.ntmps83
      go_wp2_with fail
      refine (l1NameOk_any _ _ hs).mono ?_; rw [H0.out]; rintro e w' ⟨rfl, rfl⟩
      go_wp2_with fail
      refine (l1In_any _ _ _ _).mono ?_; rw [H1.out]; rintro e w' ⟨rfl, rfl⟩
      go_wp2
      go_ret
      exact ⟨rfl, (Below.refl _ _).alloc (Nat.le_refl _) _⟩
    · have H1 : Hid (inB x 0 15 = true) := h1
      have e : pointOkB ⟨s, x, y⟩ = inB y 0 15 := by simp [pointOkB, insideB, h0, h1]
      rw [e]; clear e h0 h1
      go_enter Tryz.func83, Tryz.ntmps83
      go_wp2_with fail
      refine (l1NameOk_any _ _ hs).mono ?_; rw [H0.out]; rintro e w' ⟨rfl, rfl⟩
      go_wp2_with fail
      refine (l1In_any _ _ _ _).mono ?_; rw [H1.out]; rintro e w' ⟨rfl, rfl⟩
      go_wp2_with fail
      refine (l1In_any _ _ _ _).mono ?_; rintro e w' ⟨rfl, rfl⟩
      go_wp2
      go_ret
      exact ⟨rfl, (Below.refl _ _).alloc (Nat.le_refl _) _⟩
end Go.Proofs.YtfjblenkcfdbiaaGreatDoor
