
/-
  The law FnExactPlanForm answers true at every change.
-/
import Derived.Test.YtfjblenkcfdbiaaDoorForm5
namespace Go.Proofs.YtfjblenkcfdbiaaDoor
open Go.RowKit

set_option maxHeartbeats 1600000 in
theorem specForm_no (c : Chg) (w : World) (hf : c.f.size ≤ 1048576) (hv : c.v.size ≤ 1048576) (hok : formB c = false) :
    Calls Tryd.prog 6 #[.agg #[.string c.f, .int .i64 c.what, .int .i64 c.num, .string c.v]] w fun e w' => e = .returned (.string ⟨#[]⟩) ∧ Below w.heap.size w w' := by
  have hfm : c.f.size ≤ maxLen := by unfold maxLen; omega
  have hvm : c.v.size ≤ maxLen := by unfold maxLen; omega
  obtain ⟨f, what, num, v⟩ := c
  dsimp only at hfm hvm
  simp only [formB] at hok
  clear hf hv
  cases hn : nameB f
  · have HN : Hid (nameB f = false) := hn
    clear hn hok
    go_enter Tryd.func6, Tryd.ntmps6
    go_wp2_with fail
    refine (l1NameOk_any f _ hfm).mono ?_
    rw [HN.out]
    rintro e w1 ⟨rfl, rfl⟩
    go_wp2
    go_ret
    exact ⟨rfl, (Below.refl _ _).alloc (Nat.le_refl _) _⟩
  have HN : Hid (nameB f = true) := hn
  rw [hn] at hok
  clear hn
  cases hu : inB num 1 1000000
  · have HU : Hid (inB num 1 1000000 = false) := hu
    clear hu hok
    go_enter Tryd.func6, Tryd.ntmps6
    go_wp2_with fail
    refine (l1NameOk_any f _ hfm).mono ?_
    rw [HN.out]
    rintro e w1 ⟨rfl, rfl⟩
    go_wp2_with fail
    refine (l1In_any _ _ _ _).mono ?_
    rw [HU.out]
    rintro e w1 ⟨rfl, rfl⟩
    go_wp2
    go_ret
    exact ⟨rfl, (Below.refl _ _).alloc (Nat.le_refl _) _⟩
  have HU : Hid (inB num 1 1000000 = true) := hu
  rw [hu] at hok
  clear hu
  cases hk : inB what 1 5
  · have HK : Hid (inB what 1 5 = false) := hk
    clear hk hok
    go_enter Tryd.func6, Tryd.ntmps6
    go_wp2_with fail
    refine (l1NameOk_any f _ hfm).mono ?_
    rw [HN.out]
    rintro e w1 ⟨rfl, rfl⟩
    go_wp2_with fail
    refine (l1In_any _ _ _ _).mono ?_
    rw [HU.out]
    rintro e w1 ⟨rfl, rfl⟩
    go_wp2_with fail
    refine (l1In_any _ _ _ _).mono ?_
    rw [HK.out]
    rintro e w1 ⟨rfl, rfl⟩
    go_wp2
    go_ret
    exact ⟨rfl, (Below.refl _ _).alloc (Nat.le_refl _) _⟩
  have HK : Hid (inB what 1 5 = true) := hk
  rw [hk] at hok
  clear hk
  have hval : valB v = false := by simpa using hok
  clear hok
  cases hv1 : v.toList.isEmpty
  · have hv2 : oddB v = true := by simpa [valB, hv1] using hval
    have HV : Hid (oddB v = true) := hv2
    clear hv2 hval
    go_enter Tryd.func6, Tryd.ntmps6
    go_wp2_with fail
    refine (l1NameOk_any f _ hfm).mono ?_
    rw [HN.out]
    rintro e w1 ⟨rfl, rfl⟩
    go_wp2_with fail
    refine (l1In_any _ _ _ _).mono ?_
    rw [HU.out]
    rintro e w1 ⟨rfl, rfl⟩
    go_wp2_with fail
    refine (l1In_any _ _ _ _).mono ?_
    rw [HK.out]
    rintro e w1 ⟨rfl, rfl⟩
    go_wp2_with fail
    refine (l2Odd_any v _ hvm).mono ?_
    rw [HV.out]
    rintro e w1 ⟨rfl, rfl⟩
    go_wp2
    go_ret
    exact ⟨rfl, (Below.refl _ _).alloc (Nat.le_refl _) _⟩
  · clear hval
    go_enter Tryd.func6, Tryd.ntmps6
    go_wp2_with fail
    refine (l1NameOk_any f _ hfm).mono ?_
    rw [HN.out]
    rintro e w1 ⟨rfl, rfl⟩
    go_wp2_with fail
    refine (l1In_any _ _ _ _).mono ?_
    rw [HU.out]
    rintro e w1 ⟨rfl, rfl⟩
    go_wp2_with fail
    refine (l1In_any _ _ _ _).mono ?_
    rw [HK.out]
    rintro e w1 ⟨rfl, rfl⟩
    go_wp2
    go_ret
    exact ⟨rfl, (Below.refl _ _).alloc (Nat.le_refl _) _⟩

/-- The form of a change, or the empty text. -/
def theForm (c : Chg) : ByteArray := bif formB c then formS c else ⟨#[]⟩
theorem specForm_any (c : Chg) (w : World) (hf : c.f.size ≤ 1048576) (hv : c.v.size ≤ 1048576) :
    Calls Tryd.prog 6 #[.agg #[.string c.f, .int .i64 c.what, .int .i64 c.num, .string c.v]] w fun e w' => e = .returned (.string (theForm c)) ∧ Below w.heap.size w w' := by
  unfold theForm
  cases h : formB c
  · exact specForm_no c w hf hv h
  · exact specForm_ok c w hf hv h

set_option maxHeartbeats 800000 in
theorem lawForm_walk (c : Chg) (w : World) (hs : SaidIn w) (ht : Lib.TabIs Tryd.prog w "internal/strconv.uint64pow10" .u64 Lib.pow10Tab) (hfm : c.f.size ≤ maxLen) (hvm : c.v.size ≤ maxLen) :
    Calls Tryd.prog 3 #[.agg #[.string c.f, .int .i64 c.what, .int .i64 c.num, .string c.v]] w fun e w' => e = .returned (.bool true) ∧ Below w.heap.size w w' := by
  have HS : Hid (SaidIn w) := hs
  have HT : Hid (Lib.TabIs Tryd.prog w "internal/strconv.uint64pow10" .u64 Lib.pow10Tab) := ht
  clear hs ht
  by_cases hsz : ((c.f.size + c.v.size : Nat) : Int) ≤ 1048576
  · have HR : Hid (szR (c.f.size + c.v.size) 1048576 = 1048576 - ((c.f.size + c.v.size : Nat) : Int)) := szR_pos hsz
    have lf : c.f.size ≤ 1048576 := by omega
    have lv : c.v.size ≤ 1048576 := by omega
    have hge : 0 ≤ 1048576 - ((c.f.size + c.v.size : Nat) : Int) := by omega
    generalize 1048576 - ((c.f.size + c.v.size : Nat) : Int) = r at HR hge
    clear hsz
    go_enter Tryd.func3, Tryd.ntmps3
    go_wp2_with fail
    refine (szChange_any c _ _ hfm hvm (by omega) (by omega)).mono ?_
    rw [HR.out]
    rintro e w1 ⟨rfl, hb1⟩
    have a0 : w1.cell? ⟨w.heap.size, 0, none⟩ = some (.string c.f) := cell_keep hb1 (Nat.le_refl _) (by simp [go_sem])
    have a1 : w1.cell? ⟨w.heap.size, 1, none⟩ = some (.int .i64 c.what) := cell_keep hb1 (Nat.le_refl _) (by simp [go_sem])
    have a2 : w1.cell? ⟨w.heap.size, 2, none⟩ = some (.int .i64 c.num) := cell_keep hb1 (Nat.le_refl _) (by simp [go_sem])
    have a3 : w1.cell? ⟨w.heap.size, 3, none⟩ = some (.string c.v) := cell_keep hb1 (Nat.le_refl _) (by simp [go_sem])
    have hbw := below_step ((Below.refl _ _).alloc (Nat.le_refl _) _) hb1
    go_wp2_with fail
    refine (toChange_any c _).mono ?_
    rintro e w2 ⟨rfl, hb2⟩
    go_wp2_with fail
    refine (specForm_any c _ lf lv).mono ?_
    rintro e w3 ⟨rfl, hb3⟩
    have hb23 := below_step hb2 hb3
    have b0 := cell_keep hb23 (Nat.le_refl _) a0
    have b1 := cell_keep hb23 (Nat.le_refl _) a1
    have b2 := cell_keep hb23 (Nat.le_refl _) a2
    have b3 := cell_keep hb23 (Nat.le_refl _) a3
    have hbw3 := below_step hbw hb23
    go_wp2_with fail
    refine (toChange_any c _).mono ?_
    rintro e w4 ⟨rfl, hb4⟩
    have hbw4 := below_step hbw3 hb4
    go_wp2_with fail
    refine (planForm_any c _ (HS.out.keep hbw4) (tab_keep HT.out hbw4) lf lv).mono ?_
    rintro e w5 ⟨rfl, hb5⟩
    have hfin : (bif formB c then formS c else ⟨#[]⟩) = theForm c := rfl
    rw [hfin]
    clear hfin
    generalize theForm c = z
    go_wp2
    go_ret
    exact ⟨rfl, below_step hbw4 hb5⟩
  · have HR : Hid (szR (c.f.size + c.v.size) 1048576 = -1) := szR_neg hsz
    clear hsz
    go_enter Tryd.func3, Tryd.ntmps3
    go_wp2_with fail
    refine (szChange_any c _ _ hfm hvm (by omega) (by omega)).mono ?_
    rw [HR.out]
    rintro e w1 ⟨rfl, hb1⟩
    go_wp2
    go_ret
    exact ⟨rfl, below_step ((Below.refl _ _).alloc (Nat.le_refl _) _) hb1⟩
end Go.Proofs.YtfjblenkcfdbiaaDoor
