
/-
  The law FnExactPlanRead, walked.
-/
import Derived.Test.YtfjblenkcfdbiaaDoorRead3
namespace Go.Proofs.YtfjblenkcfdbiaaDoor
open Go.RowKit

theorem readV_eq (b : Bool) (c : Chg) : ∃ d : Chg, readV b c = .tuple #[.agg #[.string d.f, .int .i64 d.what, .int .i64 d.num, .string d.v], .bool b] := by
  cases b
  · exact ⟨noChg, rfl⟩
  · exact ⟨c, rfl⟩
theorem read_both (s : ByteArray) (hs : s.size ≤ 1048576) : ∃ (d : Chg) (b : Bool),
    (∀ w : World, Calls Tryd.prog 9 #[.string s] w fun e w' => e = .returned (.tuple #[.agg #[.string d.f, .int .i64 d.what, .int .i64 d.num, .string d.v], .bool b]) ∧ Below w.heap.size w w') ∧
    (∀ w : World, SaidIn w → MaxIn w → Calls Tryd.prog 10 #[.string s] w fun e w' => e = .returned (.tuple #[.agg #[.string d.f, .int .i64 d.what, .int .i64 d.num, .string d.v], .bool b]) ∧ Below w.heap.size w w') := by
  rcases five (bytes s) with h | ⟨a0, a1, a2, a3, r, h5, h0, h1, h2, h3⟩
  · obtain ⟨d, hd⟩ := readV_eq false noChg
    refine ⟨d, false, fun w => ?_, fun w _ hm => ?_⟩
    · rw [← hd]; exact specRead_short s w hs h
    · rw [← hd]; exact planRead_short s w hs hm h
  · obtain ⟨d, hd⟩ := readV_eq (okR a0 a1 a2 a3 r) ⟨mkS a1, whatI (mkS a2), numR (mkS a3), mkS r⟩
    refine ⟨d, okR a0 a1 a2 a3 r, fun w => ?_, fun w hsd hm => ?_⟩
    · rw [← hd]; exact specRead_five s w hs h5 h0 h1 h2 h3
    · rw [← hd]; exact planRead_five s w hs hm hsd h5 h0 h1 h2 h3

set_option maxHeartbeats 800000 in
theorem lawRead_walk (s : ByteArray) (w : World) (hsd : SaidIn w) (hm : MaxIn w) (hsm : s.size ≤ maxLen) :
    Calls Tryd.prog 4 #[.string s] w fun e w' => e = .returned (.bool true) ∧ Below w.heap.size w w' := by
  unfold maxLen at hsm
  by_cases hsz : (1048576 : Int) < s.size
  · go_enter Tryd.func4, Tryd.ntmps4
    go_wp2
    go_ret
    exact ⟨rfl, Below.refl _ _⟩
  · obtain ⟨⟨f, what, num, v⟩, b, h1, h2⟩ := read_both s (by omega)
    dsimp only at h1 h2
    have H1 : Hid (∀ w : World, Calls Tryd.prog 9 #[.string s] w fun e w' => e = .returned (.tuple #[.agg #[.string f, .int .i64 what, .int .i64 num, .string v], .bool b]) ∧ Below w.heap.size w w') := h1
    have H2 : Hid (∀ w : World, SaidIn w → MaxIn w → Calls Tryd.prog 10 #[.string s] w fun e w' => e = .returned (.tuple #[.agg #[.string f, .int .i64 what, .int .i64 num, .string v], .bool b]) ∧ Below w.heap.size w w') := h2
    have HS : Hid (SaidIn w) := hsd
    have HM : Hid (MaxIn w) := hm
    clear h1 h2 hsd hm
    go_enter Tryd.func4, Tryd.ntmps4
    go_wp2_with fail
    refine (H1.out _).mono ?_
    rintro e w1 ⟨rfl, hb1⟩
    go_wp2_with fail
    have hbA := hb1.alloc hb1.size (.cells #[.string f, .int .i64 what, .int .i64 num, .string v] 26)
    refine (H2.out _ (HS.out.keep hbA) (HM.out.keep hbA)).mono ?_
    rintro e w2 ⟨rfl, hb2⟩
    have hbB := below_step hbA hb2
    have a0 : w2.cell? ⟨w1.heap.size, 0, none⟩ = some (.string f) := cell_keep hb2 (Nat.le_refl _) (by simp [go_sem])
    have a1 : w2.cell? ⟨w1.heap.size, 1, none⟩ = some (.int .i64 what) := cell_keep hb2 (Nat.le_refl _) (by simp [go_sem])
    have a2 : w2.cell? ⟨w1.heap.size, 2, none⟩ = some (.int .i64 num) := cell_keep hb2 (Nat.le_refl _) (by simp [go_sem])
    have a3 : w2.cell? ⟨w1.heap.size, 3, none⟩ = some (.string v) := cell_keep hb2 (Nat.le_refl _) (by simp [go_sem])
    have hlt := lt_of_cell a0
    clear hb1 hb2 hbA
    go_wp2_with fail
    refine (eqChange_same ⟨f, what, num, v⟩ _).mono ?_
    rintro e w3 ⟨rfl, hb3⟩
    have hbC := below_step (hbB.alloc hbB.size _) hb3
    clear hb3 hbB
    cases b
    · go_wp2
      go_ret
      exact ⟨rfl, hbC⟩
    · go_wp2
      go_ret
      exact ⟨rfl, hbC⟩
end Go.Proofs.YtfjblenkcfdbiaaDoor
