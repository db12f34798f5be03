
/-
  impl: names of a list, kinds, points.
-/
import Derived.Test.YtfjblenkcfdbiaaGreatDoorCopies
import Derived.Deep.QuietTactic
import Derived.BigQuiet
namespace Go.Proofs.YtfjblenkcfdbiaaGreatDoor
open Go.RowKit

theorem asc_zero (l : List Tri) : ascB l 0 = true := by simp [ascB]
theorem asc_succ (l : List Tri) (m : Nat) : ascB l (m + 1) = !geB (at' l m).s (at' l (m + 1)).s := by simp [ascB]

/-- The cells of one element, in w. -/
def TriAt (w : World) (b o : Nat) (t : Tri) : Prop :=
  w.cell? ⟨b, o, none⟩ = some (.string t.s) ∧ w.cell? ⟨b, o + 1, none⟩ = some (.int .i64 t.x) ∧ w.cell? ⟨b, o + 2, none⟩ = some (.int .i64 t.y)
theorem TriAt.keep {w w' : World} {b o B : Nat} {t : Tri} (h : TriAt w b o t) (hb : Below B w w') (hB : w.heap.size ≤ B) : TriAt w' b o t :=
  ⟨cell_keep hb hB h.1, cell_keep hb hB h.2.1, cell_keep hb hB h.2.2⟩

set_option maxHeartbeats 1600000 in
theorem namesKind_any (v : Value) (l : List Tri) (most : Nat) (w : World) (hv : TrisAt w v l) (hs : ∀ t ∈ l, t.s.size ≤ maxLen) (hm : most ≤ 1000) :
    Calls Tryz.prog 104 #[v, .int .i64 most, .func (.func 105) #[] #[]] w fun e w' => e = .returned (.bool (namesB l most)) ∧ Below w.heap.size w w' := by
  obtain ⟨a, cap, rfl, hlc, hcm, hc⟩ := hv
  unfold maxLen at hcm
  have HC : Hid (∀ i t, l[i]? = some t → ∃ b off, a = some ⟨b, off, none⟩ ∧ TriAt w b (off + i * 3) t) := hc
  have HS : Hid (∀ t ∈ l, t.s.size ≤ maxLen) := hs
  clear hc hs
  by_cases hn : (most : Int) < (l.length : Int)
  · have e : namesB l most = false := by simp [namesB]; omega
    rw [e]; clear e
    go_enter Tryz.func104, Tryz.ntmps104
    go_wp2
    go_ret
    exact ⟨rfl, Below.refl _ _⟩
  · have e : namesB l most = allB l.length fun i => nameB (at' l i).s && ascB l i := by
      have : l.length ≤ most := by omega
      simp [namesB, this]
    rw [e]; clear e
    go_enter Tryz.func104, Tryz.ntmps104
    go_wp2
    go_loopw [7, 8, 15] (fun _ _ i wr => ∃ k : Nat, k ≤ l.length ∧ i = .int .i64 k ∧ Below w.heap.size w wr ∧ Hid (∀ j, j < k → (nameB (at' l j).s && ascB l j) = true)) (fun _ _ i _ => l.length - (intOf i).toNat)
    case atStart => exact ⟨0, Nat.zero_le _, rfl, Below.refl _ _, fun j hj => absurd hj (Nat.not_lt_zero _)⟩
    case round =>
      obtain ⟨k, hk, rfl, hb, HA⟩ := hrel
      by_cases hlt : k < l.length
      · obtain ⟨b, off, rfl, hc⟩ := HC.out k _ (at_get hlt)
        obtain ⟨d0, d1, d2⟩ := hc.keep hb (Nat.le_refl _)
        have hsk : (at' l k).s.size ≤ maxLen := HS.out _ (List.mem_of_getElem? (at_get hlt))
        have BAD : Hid (nameB (at' l k).s = false → allB l.length (fun i => nameB (at' l i).s && ascB l i) = false) := fun h => allB_false hlt (by simp [h])
        have BAD' : Hid (ascB l k = false → allB l.length (fun i => nameB (at' l i).s && ascB l i) = false) := fun h => allB_false hlt (by simp [h])
        have hk0 : (0 : Int) ≤ (k : Int) := by omega
        have hk1 : (k : Int) < (l.length : Int) := by omega
        have hbl := lt_of_cell d0
        go_wp2_with fail
        refine (kindName_any (at' l k) _).mono ?_
        rintro e w1 ⟨rfl, hb1⟩
        go_wp2_with fail
        refine (nameOk_any (at' l k).s _ hsk).mono ?_
        rintro e w2 ⟨rfl, hb2⟩
        have hb12 : Below (wr.alloc (.cells #[.string (at' l k).s, .int .i64 (at' l k).x, .int .i64 (at' l k).y] 42)).heap.size (wr.alloc (.cells #[.string (at' l k).s, .int .i64 (at' l k).x, .int .i64 (at' l k).y] 42)) w2 := below_step hb1 hb2
        have hbw : Below w.heap.size w w2 := below_step (hb.alloc hb.size _) hb12
        have tk : TriAt w2 b (off + k * 3) (at' l k) := hc.keep hbw (Nat.le_refl _)
        have tn : TriAt w2 wr.heap.size 0 (at' l k) := TriAt.keep (w := wr.alloc (.cells #[.string (at' l k).s, .int .i64 (at' l k).x, .int .i64 (at' l k).y] 42)) ⟨by simp, by simp, by simp⟩ hb12 (Nat.le_refl _)
        clear d0 d1 d2 hb1 hb2 hb12
        cases hnm : nameB (at' l k).s
        · have HN : Hid (nameB (at' l k).s = false) := hnm
          clear hnm
          go_wp2
          go_ret
          exact ⟨ret_bool (BAD.out HN.out).symm, hbw⟩
        · have HN : Hid (nameB (at' l k).s = true) := hnm
          clear hnm
          by_cases hkz : k = 0
          · subst hkz
            go_wp2
            go_quiet (fail)
            go_wp2
            exact ⟨⟨1, by omega, by go_num, below_drewN hbw _, fun j hj => by obtain rfl : j = 0 := by omega
                                                                              rw [HN.out, asc_zero]; rfl⟩, by simp [intOf]; omega⟩
          · obtain ⟨m, rfl⟩ : ∃ m, k = m + 1 := ⟨k - 1, by omega⟩
            obtain ⟨b', off', hbo, hcm'⟩ := HC.out m _ (at_get (by omega))
            cases hbo
            have tm : TriAt w2 b (off + m * 3) (at' l m) := hcm'.keep hbw (Nat.le_refl _)
            have HE : Hid (ascB l (m + 1) = !geB (at' l m).s (at' l (m + 1)).s) := asc_succ l m
            obtain ⟨m0, m1, m2⟩ := tm
            obtain ⟨n0, n1, n2⟩ := tn
            have hi0 : (0 : Int) ≤ (m : Int) := by omega
            have hi1 : (m : Int) < (l.length : Int) := by omega
            have hi2 : (0 : Int) < (m : Int) + 1 := by omega
            have hw1 : IntKind.i64.wrap (m : Int) = (m : Int) := by rw [IntKind.wrap_i64]; omega
            have hw2 : IntKind.i64.wrap ((m : Int) + 1 - 1) = (m : Int) := by rw [IntKind.wrap_i64]; omega
            clear hc hcm' tk
            go_wp2
            go_region_held3 (fun w' => w'.cell? ⟨b, off + m * 3, none⟩ = some (.string (at' l m).s) ∧ w'.cell? ⟨b, off + m * 3 + 1, none⟩ = some (.int .i64 (at' l m).x) ∧ w'.cell? ⟨b, off + m * 3 + 2, none⟩ = some (.int .i64 (at' l m).y) ∧
                w'.cell? ⟨wr.heap.size, 0, none⟩ = some (.string (at' l (m + 1)).s) ∧ w'.cell? ⟨wr.heap.size, 1, none⟩ = some (.int .i64 (at' l (m + 1)).x) ∧ w'.cell? ⟨wr.heap.size, 2, none⟩ = some (.int .i64 (at' l (m + 1)).y) ∧ Below w2.heap.size w2 w')
              (first | (refine ⟨by simp [*, go_sem], by simp [*, go_sem], by simp [*, go_sem], by simp [*, go_sem], by simp [*, go_sem], by simp [*, go_sem], ?_⟩; exact (Below.refl _ _).drew) | (obtain ⟨s0, s1, s2, s3, s4, s5, s6⟩ := ‹_ ∧ _ ∧ _ ∧ _ ∧ _ ∧ _ ∧ _›; exact ⟨cell_keep hb3 (Nat.le_refl _) s0, cell_keep hb3 (Nat.le_refl _) s1, cell_keep hb3 (Nat.le_refl _) s2, cell_keep hb3 (Nat.le_refl _) s3, cell_keep hb3 (Nat.le_refl _) s4, cell_keep hb3 (Nat.le_refl _) s5, below_step s6 hb3⟩))
              (first | (go_at_call 105; refine (kindName_any _ _).mono ?_; rintro e w3 ⟨rfl, hb3⟩))
            go_wp2
            · rename_i h
              obtain ⟨_, _, _, _, _, _, hS⟩ := ‹_ ∧ _ ∧ _ ∧ _ ∧ _ ∧ _ ∧ Below w2.heap.size w2 w3›
              go_ret
              exact ⟨ret_bool (BAD'.out (by rw [HE.out]; unfold geB; rw [h]; rfl)).symm, below_step hbw hS⟩
            · rename_i h
              obtain ⟨_, _, _, _, _, _, hS⟩ := ‹_ ∧ _ ∧ _ ∧ _ ∧ _ ∧ _ ∧ Below w2.heap.size w2 w3›
              exact ⟨⟨m + 1 + 1, by omega, by go_num, below_step hbw hS, fun j hj => if e : j = m + 1 then by rw [e, HN.out, HE.out]; unfold geB; rw [h]; rfl else HA.out j (by omega)⟩, by simp [intOf]; omega⟩
      · go_wp2
        go_ret
        exact ⟨ret_bool (allB_true fun j hj => HA.out j (by omega)).symm, hb⟩
set_option maxHeartbeats 1600000 in
theorem namesPoint_any (v : Value) (l : List Tri) (most : Nat) (w : World) (hv : TrisAt w v l) (hs : ∀ t ∈ l, t.s.size ≤ maxLen) (hm : most ≤ 1000) :
    Calls Tryz.prog 107 #[v, .int .i64 most, .func (.func 108) #[] #[]] w fun e w' => e = .returned (.bool (namesB l most)) ∧ Below w.heap.size w w' := by
  obtain ⟨a, cap, rfl, hlc, hcm, hc⟩ := hv
  unfold maxLen at hcm
  have HC : Hid (∀ i t, l[i]? = some t → ∃ b off, a = some ⟨b, off, none⟩ ∧ TriAt w b (off + i * 3) t) := hc
  have HS : Hid (∀ t ∈ l, t.s.size ≤ maxLen) := hs
  clear hc hs
  by_cases hn : (most : Int) < (l.length : Int)
  · have e : namesB l most = false := by simp [namesB]; omega
    rw [e]; clear e
    go_enter Tryz.func107, Tryz.ntmps107
    go_wp2
    go_ret
    exact ⟨rfl, Below.refl _ _⟩
  · have e : namesB l most = allB l.length fun i => nameB (at' l i).s && ascB l i := by
      have : l.length ≤ most := by omega
      simp [namesB, this]
    rw [e]; clear e
    go_enter Tryz.func107, Tryz.ntmps107
    go_wp2
    go_loopw [7, 8, 15] (fun _ _ i wr => ∃ k : Nat, k ≤ l.length ∧ i = .int .i64 k ∧ Below w.heap.size w wr ∧ Hid (∀ j, j < k → (nameB (at' l j).s && ascB l j) = true)) (fun _ _ i _ => l.length - (intOf i).toNat)
    case atStart => exact ⟨0, Nat.zero_le _, rfl, Below.refl _ _, fun j hj => absurd hj (Nat.not_lt_zero _)⟩
    case round =>
      obtain ⟨k, hk, rfl, hb, HA⟩ := hrel
      by_cases hlt : k < l.length
      · obtain ⟨b, off, rfl, hc⟩ := HC.out k _ (at_get hlt)
        obtain ⟨d0, d1, d2⟩ := hc.keep hb (Nat.le_refl _)
        have hsk : (at' l k).s.size ≤ maxLen := HS.out _ (List.mem_of_getElem? (at_get hlt))
        have BAD : Hid (nameB (at' l k).s = false → allB l.length (fun i => nameB (at' l i).s && ascB l i) = false) := fun h => allB_false hlt (by simp [h])
        have BAD' : Hid (ascB l k = false → allB l.length (fun i => nameB (at' l i).s && ascB l i) = false) := fun h => allB_false hlt (by simp [h])
        have hk0 : (0 : Int) ≤ (k : Int) := by omega
        have hk1 : (k : Int) < (l.length : Int) := by omega
        have hbl := lt_of_cell d0
        go_wp2_with fail
        refine (pointName_any (at' l k) _).mono ?_
        rintro e w1 ⟨rfl, hb1⟩
        go_wp2_with fail
        refine (nameOk_any (at' l k).s _ hsk).mono ?_
        rintro e w2 ⟨rfl, hb2⟩
        have hb12 : Below (wr.alloc (.cells #[.string (at' l k).s, .int .i64 (at' l k).x, .int .i64 (at' l k).y] 57)).heap.size (wr.alloc (.cells #[.string (at' l k).s, .int .i64 (at' l k).x, .int .i64 (at' l k).y] 57)) w2 := below_step hb1 hb2
        have hbw : Below w.heap.size w w2 := below_step (hb.alloc hb.size _) hb12
        have tk : TriAt w2 b (off + k * 3) (at' l k) := hc.keep hbw (Nat.le_refl _)
        have tn : TriAt w2 wr.heap.size 0 (at' l k) := TriAt.keep (w := wr.alloc (.cells #[.string (at' l k).s, .int .i64 (at' l k).x, .int .i64 (at' l k).y] 57)) ⟨by simp, by simp, by simp⟩ hb12 (Nat.le_refl _)
        clear d0 d1 d2 hb1 hb2 hb12
        cases hnm : nameB (at' l k).s
        · have HN : Hid (nameB (at' l k).s = false) := hnm
          clear hnm
          go_wp2
          go_ret
          exact ⟨ret_bool (BAD.out HN.out).symm, hbw⟩
        · have HN : Hid (nameB (at' l k).s = true) := hnm
          clear hnm
          by_cases hkz : k = 0
          · subst hkz
            go_wp2
            go_quiet (fail)
            go_wp2
            exact ⟨⟨1, by omega, by go_num, below_drewN hbw _, fun j hj => by obtain rfl : j = 0 := by omega
                                                                              rw [HN.out, asc_zero]; rfl⟩, by simp [intOf]; omega⟩
          · obtain ⟨m, rfl⟩ : ∃ m, k = m + 1 := ⟨k - 1, by omega⟩
            obtain ⟨b', off', hbo, hcm'⟩ := HC.out m _ (at_get (by omega))
            cases hbo
            have tm : TriAt w2 b (off + m * 3) (at' l m) := hcm'.keep hbw (Nat.le_refl _)
            have HE : Hid (ascB l (m + 1) = !geB (at' l m).s (at' l (m + 1)).s) := asc_succ l m
            obtain ⟨m0, m1, m2⟩ := tm
            obtain ⟨n0, n1, n2⟩ := tn
            have hi0 : (0 : Int) ≤ (m : Int) := by omega
            have hi1 : (m : Int) < (l.length : Int) := by omega
            have hi2 : (0 : Int) < (m : Int) + 1 := by omega
            have hw1 : IntKind.i64.wrap (m : Int) = (m : Int) := by rw [IntKind.wrap_i64]; omega
            have hw2 : IntKind.i64.wrap ((m : Int) + 1 - 1) = (m : Int) := by rw [IntKind.wrap_i64]; omega
            clear hc hcm' tk
            go_wp2
            go_region_held3 (fun w' => w'.cell? ⟨b, off + m * 3, none⟩ = some (.string (at' l m).s) ∧ w'.cell? ⟨b, off + m * 3 + 1, none⟩ = some (.int .i64 (at' l m).x) ∧ w'.cell? ⟨b, off + m * 3 + 2, none⟩ = some (.int .i64 (at' l m).y) ∧
                w'.cell? ⟨wr.heap.size, 0, none⟩ = some (.string (at' l (m + 1)).s) ∧ w'.cell? ⟨wr.heap.size, 1, none⟩ = some (.int .i64 (at' l (m + 1)).x) ∧ w'.cell? ⟨wr.heap.size, 2, none⟩ = some (.int .i64 (at' l (m + 1)).y) ∧ Below w2.heap.size w2 w')
              (first | (refine ⟨by simp [*, go_sem], by simp [*, go_sem], by simp [*, go_sem], by simp [*, go_sem], by simp [*, go_sem], by simp [*, go_sem], ?_⟩; exact (Below.refl _ _).drew) | (obtain ⟨s0, s1, s2, s3, s4, s5, s6⟩ := ‹_ ∧ _ ∧ _ ∧ _ ∧ _ ∧ _ ∧ _›; exact ⟨cell_keep hb3 (Nat.le_refl _) s0, cell_keep hb3 (Nat.le_refl _) s1, cell_keep hb3 (Nat.le_refl _) s2, cell_keep hb3 (Nat.le_refl _) s3, cell_keep hb3 (Nat.le_refl _) s4, cell_keep hb3 (Nat.le_refl _) s5, below_step s6 hb3⟩))
              (first | (go_at_call 108; refine (pointName_any _ _).mono ?_; rintro e w3 ⟨rfl, hb3⟩))
            go_wp2
            · rename_i h
              obtain ⟨_, _, _, _, _, _, hS⟩ := ‹_ ∧ _ ∧ _ ∧ _ ∧ _ ∧ _ ∧ Below w2.heap.size w2 w3›
              go_ret
              exact ⟨ret_bool (BAD'.out (by rw [HE.out]; unfold geB; rw [h]; rfl)).symm, below_step hbw hS⟩
            · rename_i h
              obtain ⟨_, _, _, _, _, _, hS⟩ := ‹_ ∧ _ ∧ _ ∧ _ ∧ _ ∧ _ ∧ Below w2.heap.size w2 w3›
              exact ⟨⟨m + 1 + 1, by omega, by go_num, below_step hbw hS, fun j hj => if e : j = m + 1 then by rw [e, HN.out, HE.out]; unfold geB; rw [h]; rfl else HA.out j (by omega)⟩, by simp [intOf]; omega⟩
      · go_wp2
        go_ret
        exact ⟨ret_bool (allB_true fun j hj => HA.out j (by omega)).symm, hb⟩
end Go.Proofs.YtfjblenkcfdbiaaGreatDoor
