
/-
  Draws: DrawPlanRead.
-/
import Derived.Test.YtibpkhmiahamcaaGreatDoorDr10
import Derived.Test.YtibpkhmiahamcaaGreatDoorForm6
namespace Go.Proofs.YtibpkhmiahamcaaGreatDoor.Dr
open Go.RowKit
set_option linter.unusedSimpArgs false
set_option linter.unusedVariables false

theorem theForm_le (c : Chg) (hf : c.f.size ≤ 2000) (hv : c.v.size ≤ 2000) : (theForm c).size ≤ 10000 := by
  unfold theForm
  cases h : formB c
  · exact Nat.zero_le _
  · show (formS c).size ≤ 10000
    have hn : inB c.num 1 1000000 = true := by
      unfold formB at h
      simp only [Bool.and_eq_true] at h
      exact h.2.2.1
    have h1 : sSet.size = 4 := rfl
    have h2 : sSp.size = 1 := rfl
    have h3 := wordS_le c.what
    have h4 := Go.Proofs.YtibpkhmiahamcaaGreatDoor.decS_size c.num.toNat (by simp [inB] at hn; omega)
    unfold formS
    simp only [cat_size]
    omega

set_option maxRecDepth 100000 in
set_option maxHeartbeats 3200000 in
theorem drawRead_any (v : Value) (n : Nat) (w : World) (h : BysArg w v n) :
    Calls Tryz.prog 11 #[v] w fun e w' => ∃ t : ByteArray, e = .returned (.string t) ∧ t.size ≤ 100000 ∧ Below w.heap.size w w' := by
  have HA := toHid h
  obtain ⟨a, cap, rfl, -⟩ := h
  go_enter Tryz.func11, Tryz.ntmps11
  go_wp2_with fail
  refine (l1Open_any _ n _ HA.out).mono ?_
  rintro e w2 ⟨R, rfl, hR, hr2, hb2⟩
  have R2 : Hid (Rd w2 R 0 ∧ Below w.heap.size w w2) := ⟨hr2, hb2⟩
  clear hr2 hb2 HA
  go_wp2_with fail
  refine (l1Base_any R 0 _ R2.out.1 (by omega)).mono ?_
  rintro e w3 ⟨kv, pv, ks, ps, rfl, htk, htp, hkb, hpb, hp1, q3, hq0, hq1, hr3, hg3⟩
  have hbs : R < w2.heap.size + 1 := by have := R2.out.1.lt; omega
  have R3 : Hid (Rd w3 R q3 ∧ Below w.heap.size w w3 ∧ TrisAt w3 pv ps ∧ pointsB ps = true) := ⟨hr3, below_grown R2.out.2 hg3 hR, tris_own htp, hpb⟩
  clear hr3 hg3 R2 hkb hpb htk htp
  go_wp2_with fail
  refine (l2Change_any R q3 _ _ ps _ R3.out.1 (by omega) R3.out.2.2.1 ⟨hp1, by have := (points_le R3.out.2.2.2).1; omega⟩ (fun t ht => by have := (points_le R3.out.2.2.2).2 t ht; omega)).mono ?_
  rintro e w5 ⟨f, wh, num, s, rfl, hf, hs, -, -, q5, hq2, hq3, hr5, hg5⟩
  have R5 : Hid (Rd w5 R q5 ∧ Below w.heap.size w w5) := ⟨hr5, below_grown R3.out.2.1 hg5 hR⟩
  clear hr5 hg5 R3
  go_wp2_with fail
  refine (specForm_any ⟨f, wh, num, s⟩ _ (by show f.size ≤ _; omega) (by show s.size ≤ _; omega)).mono ?_
  rintro e w6 ⟨rfl, hb6⟩
  have hfs := theForm_le ⟨f, wh, num, s⟩ (by show f.size ≤ _; omega) (by show s.size ≤ _; omega)
  generalize theForm ⟨f, wh, num, s⟩ = t0 at *
  have R6 : Hid (Rd w6 R q5 ∧ Below w.heap.size w w6) := ⟨R5.out.1.far hb6, below_step R5.out.2 hb6⟩
  clear hb6 R5
  go_wp2_with fail
  refine (pick_any R q5 2 _ R6.out.1 (by omega) (by omega)).mono ?_
  rintro e w7 ⟨x, rfl, hx0, hx1, -, hr7, hg7⟩
  have R7 : Hid (Rd w7 R (q5 + 1) ∧ Below w.heap.size w w7) := ⟨hr7, below_grown R6.out.2 hg7 hR⟩
  clear hr7 hg7 R6 hx1
  by_cases hx : x = 0
  · have hxb : (x == 0) = true := by simp [hx]
    clear hx
    go_wp2_with fail
    refine (l2Bend_any R (q5 + 1) t0 _ R7.out.1 (by omega) (by omega)).mono ?_
    rintro e w8 ⟨t, rfl, ht, q8, -, -, hr8, hg8⟩
    have HB8 : Hid (Below w.heap.size w w8) := below_grown R7.out.2 hg8 hR
    clear hr8 hg8 R7
    go_wp2_with fail
    exact bodyPost_ret (v := .string t) (by simp [results, Tryz.results11, go_sem]) rfl ⟨_, rfl, by omega, HB8.out⟩
  · have hxb : (x == 0) = false := by simp [hx]
    clear hx
    go_wp2_with fail
    exact bodyPost_ret (v := .string t0) (by simp [results, Tryz.results11, go_sem]) rfl ⟨_, rfl, by omega, R7.out.2⟩
end Go.Proofs.YtibpkhmiahamcaaGreatDoor.Dr
