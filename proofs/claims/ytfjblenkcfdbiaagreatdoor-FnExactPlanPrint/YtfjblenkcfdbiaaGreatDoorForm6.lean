
/-
  The law FnExactPlanForm answers true at every change.
-/
import Derived.Test.YtfjblenkcfdbiaaGreatDoorForm5
namespace Go.Proofs.YtfjblenkcfdbiaaGreatDoor
open Go.RowKit

set_option maxHeartbeats 1600000 in
theorem specForm_no (c : Chg) (w : World) (hf : c.f.size ≤ 1048576) (hv : c.v.size ≤ 1048576) (hok : formB c = false) :
    Calls Tryz.prog 20 #[.agg #[.string c.f, .int .i64 c.what, .int .i64 c.num, .string c.v]] w fun e w' => e = .returned (.string ⟨#[]⟩) ∧ Below w.heap.size w w' := by
  have hfm : c.f.size ≤ maxLen := by unfold maxLen; omega
  have hvm : c.v.size ≤ maxLen := by unfold maxLen; omega
  obtain ⟨f, what, num, v⟩ := c
  dsimp only at hfm hvm
  simp only [formB] at hok
  clear hf hv
  cases hn : nameB f
  · have HN : Hid (nameB f = false) := hn
    clear hn hok
    go_enter Tryz.func20, Tryz.ntmps20
    go_wp2_with fail
    refine (l1NameOk_any f _ hfm).mono ?_
    rw [HN.out]
    rintro e w1 ⟨rfl, rfl⟩
    go_wp2
    go_ret
    exact ⟨rfl, (Below.refl _ _).alloc (Nat.le_refl _) _⟩
  have HN : Hid (nameB f = true) := hn
  rw [hn] at hok
  clear hn
  cases hu : inB num 1 1000000
  · have HU : Hid (inB num 1 1000000 = false) := hu
    clear hu hok
    go_enter Tryz.func20, Tryz.ntmps20
    go_wp2_with fail
    refine (l1NameOk_any f _ hfm).mono ?_
    rw [HN.out]
    rintro e w1 ⟨rfl, rfl⟩
    go_wp2_with fail
    refine (l1In_any _ _ _ _).mono ?_
    rw [HU.out]
    rintro e w1 ⟨rfl, rfl⟩
    go_wp2
    go_ret
    exact ⟨rfl, (Below.refl _ _).alloc (Nat.le_refl _) _⟩
  have HU : Hid (inB num 1 1000000 = true) := hu
  rw [hu] at hok
  clear hu
  cases hk : inB what 1 5
  · have HK : Hid (inB what 1 5 = false) := hk
    clear hk hok
    go_enter Tryz.func20, Tryz.ntmps20
    go_wp2_with fail
    refine (l1NameOk_any f _ hfm).mono ?_
    rw [HN.out]
    rintro e w1 ⟨rfl, rfl⟩
    go_wp2_with fail
    refine (l1In_any _ _ _ _).mono ?_
    rw [HU.out]
    rintro e w1 ⟨rfl, rfl⟩
    go_wp2_with fail
    refine (l1In_any _ _ _ _).mono ?_
    rw [HK.out]
    rintro e w1 ⟨rfl, rfl⟩
    go_wp2
    go_ret
    exact ⟨rfl, (Below.refl _ _).alloc (Nat.le_refl _) _⟩
  have HK : Hid (inB what 1 5 = true) := hk
  rw [hk] at hok
  clear hk
  have hval : valB v = false := by simpa using hok
  clear hok
  cases hv1 : v.toList.isEmpty
  · have hv2 : oddB v = true := by simpa [valB, hv1] using hval
    have HV : Hid (oddB v = true) := hv2
    clear hv2 hval
    go_enter Tryz.func20, Tryz.ntmps20
    go_wp2_with fail
    refine (l1NameOk_any f _ hfm).mono ?_
    rw [HN.out]
    rintro e w1 ⟨rfl, rfl⟩
    go_wp2_with fail
    refine (l1In_any _ _ _ _).mono ?_
    rw [HU.out]
    rintro e w1 ⟨rfl, rfl⟩
    go_wp2_with fail
    refine (l1In_any _ _ _ _).mono ?_
    rw [HK.out]
    rintro e w1 ⟨rfl, rfl⟩
    go_wp2_with fail
    refine (l2Odd_any v _ hvm).mono ?_
    rw [HV.out]
    rintro e w1 ⟨rfl, rfl⟩
    go_wp2
    go_ret
    exact ⟨rfl, (Below.refl _ _).alloc (Nat.le_refl _) _⟩
  · clear hval
    go_enter Tryz.func20, Tryz.ntmps20
    go_wp2_with fail
    refine (l1NameOk_any f _ hfm).mono ?_
    rw [HN.out]
    rintro e w1 ⟨rfl, rfl⟩
    go_wp2_with fail
    refine (l1In_any _ _ _ _).mono ?_
    rw [HU.out]
    rintro e w1 ⟨rfl, rfl⟩
    go_wp2_with fail
    refine (l1In_any _ _ _ _).mono ?_
    rw [HK.out]
    rintro e w1 ⟨rfl, rfl⟩
    go_wp2
    go_ret
    exact ⟨rfl, (Below.refl _ _).alloc (Nat.le_refl _) _⟩

/-- The form of a change, or the empty text. -/
def theForm (c : Chg) : ByteArray := bif formB c then formS c else ⟨#[]⟩
theorem specForm_any (c : Chg) (w : World) (hf : c.f.size ≤ 1048576) (hv : c.v.size ≤ 1048576) :
    Calls Tryz.prog 20 #[.agg #[.string c.f, .int .i64 c.what, .int .i64 c.num, .string c.v]] w fun e w' => e = .returned (.string (theForm c)) ∧ Below w.heap.size w w' := by
  unfold theForm
  cases h : formB c
  · exact specForm_no c w hf hv h
  · exact specForm_ok c w hf hv h

end Go.Proofs.YtfjblenkcfdbiaaGreatDoor
