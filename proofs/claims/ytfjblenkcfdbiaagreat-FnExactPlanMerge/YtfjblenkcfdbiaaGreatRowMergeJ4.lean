/-
  For the proof of merge_holds: part 4 (Names, Lists, Points, Base, Own, Mark1).
-/
import Derived.Deep.QuietTactic
import Derived.BigQuiet
import Derived.Deep.RegionHeld3
import Derived.Test.YtfjblenkcfdbiaaGreatRowMergeJ3
/-
  impl: names of a list, kinds, points.
-/
namespace Go.Proofs.YtfjblenkcfdbiaaGreat
open Go.RowKit

theorem asc_zero (l : List Tri) : ascB l 0 = true := by simp [ascB]
theorem asc_succ (l : List Tri) (m : Nat) : ascB l (m + 1) = !geB (at' l m).s (at' l (m + 1)).s := by simp [ascB]

/-- The cells of one element, in w. -/
def TriAt (w : World) (b o : Nat) (t : Tri) : Prop :=
  w.cell? ⟨b, o, none⟩ = some (.string t.s) ∧ w.cell? ⟨b, o + 1, none⟩ = some (.int .i64 t.x) ∧ w.cell? ⟨b, o + 2, none⟩ = some (.int .i64 t.y)
theorem TriAt.keep {w w' : World} {b o B : Nat} {t : Tri} (h : TriAt w b o t) (hb : Below B w w') (hB : w.heap.size ≤ B) : TriAt w' b o t :=
  ⟨cell_keep hb hB h.1, cell_keep hb hB h.2.1, cell_keep hb hB h.2.2⟩

set_option maxHeartbeats 1600000 in
theorem namesKind_any (v : Value) (l : List Tri) (most : Nat) (w : World) (hv : TrisAt w v l) (hs : ∀ t ∈ l, t.s.size ≤ maxLen) (hm : most ≤ 1000) :
    Calls Tryz.prog 115 #[v, .int .i64 most, .func (.func 116) #[] #[]] w fun e w' => e = .returned (.bool (namesB l most)) ∧ Below w.heap.size w w' := by
  obtain ⟨a, cap, rfl, hlc, hcm, hc⟩ := hv
  unfold maxLen at hcm
  have HC : Hid (∀ i t, l[i]? = some t → ∃ b off, a = some ⟨b, off, none⟩ ∧ TriAt w b (off + i * 3) t) := hc
  have HS : Hid (∀ t ∈ l, t.s.size ≤ maxLen) := hs
  clear hc hs
  by_cases hn : (most : Int) < (l.length : Int)
  · have e : namesB l most = false := by simp [namesB]; omega
    rw [e]; clear e
    go_enter Tryz.func115, Tryz.ntmps115
    go_wp2
    go_ret
    exact ⟨rfl, Below.refl _ _⟩
  · have e : namesB l most = allB l.length fun i => nameB (at' l i).s && ascB l i := by
      have : l.length ≤ most := by omega
      simp [namesB, this]
    rw [e]; clear e
    go_enter Tryz.func115, Tryz.ntmps115
    go_wp2
    go_loopw [7, 8, 15] (fun _ _ i wr => ∃ k : Nat, k ≤ l.length ∧ i = .int .i64 k ∧ Below w.heap.size w wr ∧ Hid (∀ j, j < k → (nameB (at' l j).s && ascB l j) = true)) (fun _ _ i _ => l.length - (intOf i).toNat)
    case atStart => exact ⟨0, Nat.zero_le _, rfl, Below.refl _ _, fun j hj => absurd hj (Nat.not_lt_zero _)⟩
    case round =>
      obtain ⟨k, hk, rfl, hb, HA⟩ := hrel
      by_cases hlt : k < l.length
      · obtain ⟨b, off, rfl, hc⟩ := HC.out k _ (at_get hlt)
        obtain ⟨d0, d1, d2⟩ := hc.keep hb (Nat.le_refl _)
        have hsk : (at' l k).s.size ≤ maxLen := HS.out _ (List.mem_of_getElem? (at_get hlt))
        have BAD : Hid (nameB (at' l k).s = false → allB l.length (fun i => nameB (at' l i).s && ascB l i) = false) := fun h => allB_false hlt (by simp [h])
        have BAD' : Hid (ascB l k = false → allB l.length (fun i => nameB (at' l i).s && ascB l i) = false) := fun h => allB_false hlt (by simp [h])
        have hk0 : (0 : Int) ≤ (k : Int) := by omega
        have hk1 : (k : Int) < (l.length : Int) := by omega
        have hbl := lt_of_cell d0
        go_wp2_with fail
        refine (kindName_any (at' l k) _).mono ?_
        rintro e w1 ⟨rfl, hb1⟩
        go_wp2_with fail
        refine (nameOk_any (at' l k).s _ hsk).mono ?_
        rintro e w2 ⟨rfl, hb2⟩
        have hb12 : Below (wr.alloc (.cells #[.string (at' l k).s, .int .i64 (at' l k).x, .int .i64 (at' l k).y] 116)).heap.size (wr.alloc (.cells #[.string (at' l k).s, .int .i64 (at' l k).x, .int .i64 (at' l k).y] 116)) w2 := below_step hb1 hb2
        have hbw : Below w.heap.size w w2 := below_step (hb.alloc hb.size _) hb12
        have tk : TriAt w2 b (off + k * 3) (at' l k) := hc.keep hbw (Nat.le_refl _)
        have tn : TriAt w2 wr.heap.size 0 (at' l k) := TriAt.keep (w := wr.alloc (.cells #[.string (at' l k).s, .int .i64 (at' l k).x, .int .i64 (at' l k).y] 116)) ⟨by simp, by simp, by simp⟩ hb12 (Nat.le_refl _)
        clear d0 d1 d2 hb1 hb2 hb12
        cases hnm : nameB (at' l k).s
        · have HN : Hid (nameB (at' l k).s = false) := hnm
          clear hnm
          go_wp2
          go_ret
          exact ⟨ret_bool (BAD.out HN.out).symm, hbw⟩
        · have HN : Hid (nameB (at' l k).s = true) := hnm
          clear hnm
          by_cases hkz : k = 0
          · subst hkz
            go_wp2
            go_quiet (fail)
            go_wp2
            exact ⟨⟨1, by omega, by go_num, below_drewN hbw _, fun j hj => by obtain rfl : j = 0 := by omega
                                                                              rw [HN.out, asc_zero]; rfl⟩, by simp [intOf]; omega⟩
          · obtain ⟨m, rfl⟩ : ∃ m, k = m + 1 := ⟨k - 1, by omega⟩
            obtain ⟨b', off', hbo, hcm'⟩ := HC.out m _ (at_get (by omega))
            cases hbo
            have tm : TriAt w2 b (off + m * 3) (at' l m) := hcm'.keep hbw (Nat.le_refl _)
            have HE : Hid (ascB l (m + 1) = !geB (at' l m).s (at' l (m + 1)).s) := asc_succ l m
            obtain ⟨m0, m1, m2⟩ := tm
            obtain ⟨n0, n1, n2⟩ := tn
            have hi0 : (0 : Int) ≤ (m : Int) := by omega
            have hi1 : (m : Int) < (l.length : Int) := by omega
            have hi2 : (0 : Int) < (m : Int) + 1 := by omega
            have hw1 : IntKind.i64.wrap (m : Int) = (m : Int) := by rw [IntKind.wrap_i64]; omega
            have hw2 : IntKind.i64.wrap ((m : Int) + 1 - 1) = (m : Int) := by rw [IntKind.wrap_i64]; omega
            clear hc hcm' tk
            go_wp2
            go_region_held3 (fun w' => w'.cell? ⟨b, off + m * 3, none⟩ = some (.string (at' l m).s) ∧ w'.cell? ⟨b, off + m * 3 + 1, none⟩ = some (.int .i64 (at' l m).x) ∧ w'.cell? ⟨b, off + m * 3 + 2, none⟩ = some (.int .i64 (at' l m).y) ∧
                w'.cell? ⟨wr.heap.size, 0, none⟩ = some (.string (at' l (m + 1)).s) ∧ w'.cell? ⟨wr.heap.size, 1, none⟩ = some (.int .i64 (at' l (m + 1)).x) ∧ w'.cell? ⟨wr.heap.size, 2, none⟩ = some (.int .i64 (at' l (m + 1)).y) ∧ Below w2.heap.size w2 w')
              (first | (refine ⟨by simp [*, go_sem], by simp [*, go_sem], by simp [*, go_sem], by simp [*, go_sem], by simp [*, go_sem], by simp [*, go_sem], ?_⟩; exact (Below.refl _ _).drew) | (obtain ⟨s0, s1, s2, s3, s4, s5, s6⟩ := ‹_ ∧ _ ∧ _ ∧ _ ∧ _ ∧ _ ∧ _›; exact ⟨cell_keep hb3 (Nat.le_refl _) s0, cell_keep hb3 (Nat.le_refl _) s1, cell_keep hb3 (Nat.le_refl _) s2, cell_keep hb3 (Nat.le_refl _) s3, cell_keep hb3 (Nat.le_refl _) s4, cell_keep hb3 (Nat.le_refl _) s5, below_step s6 hb3⟩))
              (first | (go_at_call 116; refine (kindName_any _ _).mono ?_; rintro e w3 ⟨rfl, hb3⟩))
            go_wp2
            · rename_i h
              obtain ⟨_, _, _, _, _, _, hS⟩ := ‹_ ∧ _ ∧ _ ∧ _ ∧ _ ∧ _ ∧ Below w2.heap.size w2 w3›
              go_ret
              exact ⟨ret_bool (BAD'.out (by rw [HE.out]; unfold geB; rw [h]; rfl)).symm, below_step hbw hS⟩
            · rename_i h
              obtain ⟨_, _, _, _, _, _, hS⟩ := ‹_ ∧ _ ∧ _ ∧ _ ∧ _ ∧ _ ∧ Below w2.heap.size w2 w3›
              exact ⟨⟨m + 1 + 1, by omega, by go_num, below_step hbw hS, fun j hj => if e : j = m + 1 then by rw [e, HN.out, HE.out]; unfold geB; rw [h]; rfl else HA.out j (by omega)⟩, by simp [intOf]; omega⟩
      · go_wp2
        go_ret
        exact ⟨ret_bool (allB_true fun j hj => HA.out j (by omega)).symm, hb⟩
set_option maxHeartbeats 1600000 in
theorem namesPoint_any (v : Value) (l : List Tri) (most : Nat) (w : World) (hv : TrisAt w v l) (hs : ∀ t ∈ l, t.s.size ≤ maxLen) (hm : most ≤ 1000) :
    Calls Tryz.prog 118 #[v, .int .i64 most, .func (.func 119) #[] #[]] w fun e w' => e = .returned (.bool (namesB l most)) ∧ Below w.heap.size w w' := by
  obtain ⟨a, cap, rfl, hlc, hcm, hc⟩ := hv
  unfold maxLen at hcm
  have HC : Hid (∀ i t, l[i]? = some t → ∃ b off, a = some ⟨b, off, none⟩ ∧ TriAt w b (off + i * 3) t) := hc
  have HS : Hid (∀ t ∈ l, t.s.size ≤ maxLen) := hs
  clear hc hs
  by_cases hn : (most : Int) < (l.length : Int)
  · have e : namesB l most = false := by simp [namesB]; omega
    rw [e]; clear e
    go_enter Tryz.func118, Tryz.ntmps118
    go_wp2
    go_ret
    exact ⟨rfl, Below.refl _ _⟩
  · have e : namesB l most = allB l.length fun i => nameB (at' l i).s && ascB l i := by
      have : l.length ≤ most := by omega
      simp [namesB, this]
    rw [e]; clear e
    go_enter Tryz.func118, Tryz.ntmps118
    go_wp2
    go_loopw [7, 8, 15] (fun _ _ i wr => ∃ k : Nat, k ≤ l.length ∧ i = .int .i64 k ∧ Below w.heap.size w wr ∧ Hid (∀ j, j < k → (nameB (at' l j).s && ascB l j) = true)) (fun _ _ i _ => l.length - (intOf i).toNat)
    case atStart => exact ⟨0, Nat.zero_le _, rfl, Below.refl _ _, fun j hj => absurd hj (Nat.not_lt_zero _)⟩
    case round =>
      obtain ⟨k, hk, rfl, hb, HA⟩ := hrel
      by_cases hlt : k < l.length
      · obtain ⟨b, off, rfl, hc⟩ := HC.out k _ (at_get hlt)
        obtain ⟨d0, d1, d2⟩ := hc.keep hb (Nat.le_refl _)
        have hsk : (at' l k).s.size ≤ maxLen := HS.out _ (List.mem_of_getElem? (at_get hlt))
        have BAD : Hid (nameB (at' l k).s = false → allB l.length (fun i => nameB (at' l i).s && ascB l i) = false) := fun h => allB_false hlt (by simp [h])
        have BAD' : Hid (ascB l k = false → allB l.length (fun i => nameB (at' l i).s && ascB l i) = false) := fun h => allB_false hlt (by simp [h])
        have hk0 : (0 : Int) ≤ (k : Int) := by omega
        have hk1 : (k : Int) < (l.length : Int) := by omega
        have hbl := lt_of_cell d0
        go_wp2_with fail
        refine (pointName_any (at' l k) _).mono ?_
        rintro e w1 ⟨rfl, hb1⟩
        go_wp2_with fail
        refine (nameOk_any (at' l k).s _ hsk).mono ?_
        rintro e w2 ⟨rfl, hb2⟩
        have hb12 : Below (wr.alloc (.cells #[.string (at' l k).s, .int .i64 (at' l k).x, .int .i64 (at' l k).y] 118)).heap.size (wr.alloc (.cells #[.string (at' l k).s, .int .i64 (at' l k).x, .int .i64 (at' l k).y] 118)) w2 := below_step hb1 hb2
        have hbw : Below w.heap.size w w2 := below_step (hb.alloc hb.size _) hb12
        have tk : TriAt w2 b (off + k * 3) (at' l k) := hc.keep hbw (Nat.le_refl _)
        have tn : TriAt w2 wr.heap.size 0 (at' l k) := TriAt.keep (w := wr.alloc (.cells #[.string (at' l k).s, .int .i64 (at' l k).x, .int .i64 (at' l k).y] 118)) ⟨by simp, by simp, by simp⟩ hb12 (Nat.le_refl _)
        clear d0 d1 d2 hb1 hb2 hb12
        cases hnm : nameB (at' l k).s
        · have HN : Hid (nameB (at' l k).s = false) := hnm
          clear hnm
          go_wp2
          go_ret
          exact ⟨ret_bool (BAD.out HN.out).symm, hbw⟩
        · have HN : Hid (nameB (at' l k).s = true) := hnm
          clear hnm
          by_cases hkz : k = 0
          · subst hkz
            go_wp2
            go_quiet (fail)
            go_wp2
            exact ⟨⟨1, by omega, by go_num, below_drewN hbw _, fun j hj => by obtain rfl : j = 0 := by omega
                                                                              rw [HN.out, asc_zero]; rfl⟩, by simp [intOf]; omega⟩
          · obtain ⟨m, rfl⟩ : ∃ m, k = m + 1 := ⟨k - 1, by omega⟩
            obtain ⟨b', off', hbo, hcm'⟩ := HC.out m _ (at_get (by omega))
            cases hbo
            have tm : TriAt w2 b (off + m * 3) (at' l m) := hcm'.keep hbw (Nat.le_refl _)
            have HE : Hid (ascB l (m + 1) = !geB (at' l m).s (at' l (m + 1)).s) := asc_succ l m
            obtain ⟨m0, m1, m2⟩ := tm
            obtain ⟨n0, n1, n2⟩ := tn
            have hi0 : (0 : Int) ≤ (m : Int) := by omega
            have hi1 : (m : Int) < (l.length : Int) := by omega
            have hi2 : (0 : Int) < (m : Int) + 1 := by omega
            have hw1 : IntKind.i64.wrap (m : Int) = (m : Int) := by rw [IntKind.wrap_i64]; omega
            have hw2 : IntKind.i64.wrap ((m : Int) + 1 - 1) = (m : Int) := by rw [IntKind.wrap_i64]; omega
            clear hc hcm' tk
            go_wp2
            go_region_held3 (fun w' => w'.cell? ⟨b, off + m * 3, none⟩ = some (.string (at' l m).s) ∧ w'.cell? ⟨b, off + m * 3 + 1, none⟩ = some (.int .i64 (at' l m).x) ∧ w'.cell? ⟨b, off + m * 3 + 2, none⟩ = some (.int .i64 (at' l m).y) ∧
                w'.cell? ⟨wr.heap.size, 0, none⟩ = some (.string (at' l (m + 1)).s) ∧ w'.cell? ⟨wr.heap.size, 1, none⟩ = some (.int .i64 (at' l (m + 1)).x) ∧ w'.cell? ⟨wr.heap.size, 2, none⟩ = some (.int .i64 (at' l (m + 1)).y) ∧ Below w2.heap.size w2 w')
              (first | (refine ⟨by simp [*, go_sem], by simp [*, go_sem], by simp [*, go_sem], by simp [*, go_sem], by simp [*, go_sem], by simp [*, go_sem], ?_⟩; exact (Below.refl _ _).drew) | (obtain ⟨s0, s1, s2, s3, s4, s5, s6⟩ := ‹_ ∧ _ ∧ _ ∧ _ ∧ _ ∧ _ ∧ _›; exact ⟨cell_keep hb3 (Nat.le_refl _) s0, cell_keep hb3 (Nat.le_refl _) s1, cell_keep hb3 (Nat.le_refl _) s2, cell_keep hb3 (Nat.le_refl _) s3, cell_keep hb3 (Nat.le_refl _) s4, cell_keep hb3 (Nat.le_refl _) s5, below_step s6 hb3⟩))
              (first | (go_at_call 119; refine (pointName_any _ _).mono ?_; rintro e w3 ⟨rfl, hb3⟩))
            go_wp2
            · rename_i h
              obtain ⟨_, _, _, _, _, _, hS⟩ := ‹_ ∧ _ ∧ _ ∧ _ ∧ _ ∧ _ ∧ Below w2.heap.size w2 w3›
              go_ret
              exact ⟨ret_bool (BAD'.out (by rw [HE.out]; unfold geB; rw [h]; rfl)).symm, below_step hbw hS⟩
            · rename_i h
              obtain ⟨_, _, _, _, _, _, hS⟩ := ‹_ ∧ _ ∧ _ ∧ _ ∧ _ ∧ _ ∧ Below w2.heap.size w2 w3›
              exact ⟨⟨m + 1 + 1, by omega, by go_num, below_step hbw hS, fun j hj => if e : j = m + 1 then by rw [e, HN.out, HE.out]; unfold geB; rw [h]; rfl else HA.out j (by omega)⟩, by simp [intOf]; omega⟩
      · go_wp2
        go_ret
        exact ⟨ret_bool (allB_true fun j hj => HA.out j (by omega)).symm, hb⟩
end Go.Proofs.YtfjblenkcfdbiaaGreat

/-
  impl: kinds and points of a base.
-/
namespace Go.Proofs.YtfjblenkcfdbiaaGreat
open Go.RowKit

set_option maxHeartbeats 1600000 in
theorem kindsOk_any (v : Value) (l : List Tri) (w : World) (hv : TrisAt w v l) (hs : ∀ t ∈ l, t.s.size ≤ maxLen) :
    Calls Tryz.prog 102 #[v] w fun e w' => e = .returned (.bool (kindsB l)) ∧ Below w.heap.size w w' := by
  have hnm := fun wx hvx => namesKind_any v l 6 wx hvx hs (by omega)
  have HNM : Hid (∀ (wx : World), TrisAt wx v l → Calls Tryz.prog 115 #[v, .int .i64 (6 : Nat), .func (.func 116) #[] #[]] wx fun e w' => e = .returned (.bool (namesB l 6)) ∧ Below wx.heap.size wx w') := hnm
  clear hnm
  have HV : Hid (TrisAt w v l) := hv
  obtain ⟨a, cap, rfl, hlc, hcm, hc⟩ := hv
  unfold maxLen at hcm
  have HC : Hid (∀ i t, l[i]? = some t → ∃ b off, a = some ⟨b, off, none⟩ ∧ TriAt w b (off + i * 3) t) := hc
  clear hc
  cases hn : namesB l 6
  · have e : kindsB l = false := by simp [kindsB, hn]
    have HN : Hid (namesB l 6 = false) := hn
    rw [e]; clear e hn
    go_enter Tryz.func102, Tryz.ntmps102
    go_wp2_with fail
    refine (HNM.out _ HV.out).mono ?_
    rw [HN.out]
    rintro e w1 ⟨rfl, hb1⟩
    go_wp2
    go_ret
    exact ⟨rfl, hb1⟩
  · have e : kindsB l = allB l.length fun i => paceB (at' l i) := by simp [kindsB, hn]
    have HN : Hid (namesB l 6 = true) := hn
    rw [e]; clear e hn
    go_enter Tryz.func102, Tryz.ntmps102
    go_wp2_with fail
    refine (HNM.out _ HV.out).mono ?_
    rw [HN.out]
    rintro e w1 ⟨rfl, hb1⟩
    go_wp2
    go_loopw [4, 10] (fun _ i wr => ∃ k : Nat, k ≤ l.length ∧ i = .int .i64 k ∧ Below w.heap.size w wr ∧ Hid (∀ j, j < k → paceB (at' l j) = true)) (fun _ i _ => l.length - (intOf i).toNat)
    case atStart => exact ⟨0, Nat.zero_le _, rfl, hb1, fun j hj => absurd hj (Nat.not_lt_zero _)⟩
    case round =>
      obtain ⟨k, hk, rfl, hb, HA⟩ := hrel
      by_cases hlt : k < l.length
      · obtain ⟨b, off, rfl, hc⟩ := HC.out k _ (at_get hlt)
        obtain ⟨d0, d1, d2⟩ := hc.keep hb (Nat.le_refl _)
        have BAD : Hid (paceB (at' l k) = false → allB l.length (fun i => paceB (at' l i)) = false) := fun h => allB_false hlt h
        have hk0 : (0 : Int) ≤ (k : Int) := by omega
        have hk1 : (k : Int) < (l.length : Int) := by omega
        cases hp : paceB (at' l k)
        · have HP : Hid (paceB (at' l k) = false) := hp
          clear hp
          go_wp2_with fail
          refine (paceOk_any (at' l k) _).mono ?_
          rw [HP.out]
          rintro e w2 ⟨rfl, hb2⟩
          go_wp2
          go_ret
          exact ⟨ret_bool (BAD.out HP.out).symm, below_step (hb.alloc hb.size _) hb2⟩
        · have HP : Hid (paceB (at' l k) = true) := hp
          clear hp
          go_wp2_with fail
          refine (paceOk_any (at' l k) _).mono ?_
          rw [HP.out]
          rintro e w2 ⟨rfl, hb2⟩
          go_wp2
          exact ⟨⟨k + 1, by omega, by go_num, below_step (hb.alloc hb.size _) hb2, fun j hj => if e : j = k then by rw [e]; exact HP.out else HA.out j (by omega)⟩, by simp [intOf]; omega⟩
      · go_wp2
        go_ret
        exact ⟨ret_bool (allB_true fun j hj => HA.out j (by omega)).symm, hb⟩

set_option maxHeartbeats 1600000 in
theorem cellTaken_any (v : Value) (l : List Tri) (t : Tri) (w : World) (hv : TrisAt w v l) :
    Calls Tryz.prog 121 #[v, .agg #[.string t.s, .int .i64 t.x, .int .i64 t.y]] w fun e w' => e = .returned (.bool (takenB l l.length t)) ∧ Below w.heap.size w w' := by
  obtain ⟨a, cap, rfl, hlc, hcm, hc⟩ := hv
  unfold maxLen at hcm
  have HC : Hid (∀ i t, l[i]? = some t → ∃ b off, a = some ⟨b, off, none⟩ ∧ TriAt w b (off + i * 3) t) := hc
  clear hc
  go_enter Tryz.func121, Tryz.ntmps121
  go_wp2
  go_loopw [6, 9] (fun _ i wr => ∃ k : Nat, k ≤ l.length ∧ i = .int .i64 k ∧ Below (w.heap.size + 1) (w.alloc (.cells #[.string t.s, .int .i64 t.x, .int .i64 t.y] 118)) wr ∧ Hid (∀ j, j < k → (!sameB (at' l j) t) = true)) (fun _ i _ => l.length - (intOf i).toNat)
  case atStart => exact ⟨0, Nat.zero_le _, rfl, Below.refl _ _, fun j hj => absurd hj (Nat.not_lt_zero _)⟩
  case round =>
    obtain ⟨k, hk, rfl, hb, HA⟩ := hrel
    have hbw : Below w.heap.size w wr := ((Below.refl _ _).alloc (Nat.le_refl _) _).trans (hb.mono (Nat.le_succ _))
    have hsz : w.heap.size < wr.heap.size := by have := hb.size; simp at this; omega
    have p1 : wr.cell? ⟨w.heap.size, 1, none⟩ = some (.int .i64 t.x) := by rw [hb.cell (p := ⟨w.heap.size, 1, none⟩) (Nat.lt_succ_self _)]; simp
    have p2 : wr.cell? ⟨w.heap.size, 2, none⟩ = some (.int .i64 t.y) := by rw [hb.cell (p := ⟨w.heap.size, 2, none⟩) (Nat.lt_succ_self _)]; simp
    by_cases hlt : k < l.length
    · obtain ⟨b, off, rfl, hc⟩ := HC.out k _ (at_get hlt)
      obtain ⟨d0, d1, d2⟩ := hc.keep hbw (Nat.le_refl _)
      have BAD : Hid ((!sameB (at' l k) t) = false → takenB l l.length t = true) := fun h => by unfold takenB; rw [allB_false hlt h]; rfl
      have hk0 : (0 : Int) ≤ (k : Int) := by omega
      have hk1 : (k : Int) < (l.length : Int) := by omega
      have hfin : Hid (Below (w.heap.size + 1) (w.alloc (.cells #[.string t.s, .int .i64 t.x, .int .i64 t.y] 118)) (wr.alloc (.cells #[.string (at' l k).s, .int .i64 (at' l k).x, .int .i64 (at' l k).y] 118))) := hb.alloc (by omega) _
      have hfin' : Hid (Below w.heap.size w (wr.alloc (.cells #[.string (at' l k).s, .int .i64 (at' l k).x, .int .i64 (at' l k).y] 118))) := hbw.alloc (by omega) _
      have SM : Hid (sameB (at' l k) t = (decide ((at' l k).x = t.x) && decide ((at' l k).y = t.y))) := rfl
      by_cases hx : (at' l k).x = t.x
      · have hx' : ((at' l k).x == t.x) = true := by simp [hx]
        have HX : Hid ((at' l k).x = t.x) := hx
        clear hx
        by_cases hy : (at' l k).y = t.y
        · have hy' : ((at' l k).y == t.y) = true := by simp [hy]
          have HY : Hid ((at' l k).y = t.y) := hy
          clear hy
          go_wp2
          go_ret
          exact ⟨ret_bool (BAD.out (by rw [SM.out, HX.out, HY.out]; simp)).symm, hfin'.out⟩
        · have hy' : ((at' l k).y == t.y) = false := by simp [hy]
          have HY : Hid (¬ (at' l k).y = t.y) := hy
          clear hy
          go_wp2
          exact ⟨⟨k + 1, by omega, by go_num, hfin.out, fun j hj => if e : j = k then by rw [e, SM.out]; simp [HY.out] else HA.out j (by omega)⟩, by simp [intOf]; omega⟩
      · have hx' : ((at' l k).x == t.x) = false := by simp [hx]
        have HX : Hid (¬ (at' l k).x = t.x) := hx
        clear hx
        go_wp2
        exact ⟨⟨k + 1, by omega, by go_num, hfin.out, fun j hj => if e : j = k then by rw [e, SM.out]; simp [HX.out] else HA.out j (by omega)⟩, by simp [intOf]; omega⟩
    · go_wp2
      go_ret
      exact ⟨ret_bool (by unfold takenB; rw [allB_true fun j hj => HA.out j (by omega)]; rfl), hbw⟩

theorem taken_take (l : List Tri) (i : Nat) (h : i ≤ l.length) (t : Tri) : takenB (l.take i) (l.take i).length t = takenB l i t := by
  unfold takenB
  rw [List.length_take, Nat.min_eq_left h]
  congr 1
  refine allB_congr fun j hj => ?_
  simp [at', List.getD, hj]

theorem TrisAt.take {w : World} {a : Option Addr} {l : List Tri} {cap : Nat} (h : TrisAt w (.slice a l.length cap) l) (i : Nat) (hi : i ≤ l.length) : TrisAt w (.slice a i cap) (l.take i) := by
  obtain ⟨a', cap', he, h1, h2, h3⟩ := h
  cases he
  have hl : (l.take i).length = i := by rw [List.length_take, Nat.min_eq_left hi]
  refine ⟨a, cap, by rw [hl], by omega, h2, fun j t ht => h3 j t ?_⟩
  have hj : j < (l.take i).length := (List.getElem?_eq_some_iff.1 ht).1
  rw [List.getElem?_take] at ht
  rw [hl] at hj
  simpa [hj] using ht
end Go.Proofs.YtfjblenkcfdbiaaGreat

/-
  impl: the points of a base; a base.
-/
namespace Go.Proofs.YtfjblenkcfdbiaaGreat
open Go.RowKit

set_option maxHeartbeats 1600000 in
theorem pointsOk_any (v : Value) (l : List Tri) (w : World) (hv : TrisAt w v l) (hs : ∀ t ∈ l, t.s.size ≤ maxLen) :
    Calls Tryz.prog 103 #[v] w fun e w' => e = .returned (.bool (pointsB l)) ∧ Below w.heap.size w w' := by
  have hnm := fun wx hvx => namesPoint_any v l 16 wx hvx hs (by omega)
  have HNM : Hid (∀ (wx : World), TrisAt wx v l → Calls Tryz.prog 118 #[v, .int .i64 (16 : Nat), .func (.func 119) #[] #[]] wx fun e w' => e = .returned (.bool (namesB l 16)) ∧ Below wx.heap.size wx w') := hnm
  clear hnm
  have HV : Hid (TrisAt w v l) := hv
  obtain ⟨a, cap, rfl, hlc, hcm, hc⟩ := hv
  unfold maxLen at hcm
  have HC : Hid (∀ i t, l[i]? = some t → ∃ b off, a = some ⟨b, off, none⟩ ∧ TriAt w b (off + i * 3) t) := hc
  clear hc
  cases hn : namesB l 16
  · have e : pointsB l = false := by simp [pointsB, hn]
    have HN : Hid (namesB l 16 = false) := hn
    rw [e]; clear e hn
    go_enter Tryz.func103, Tryz.ntmps103
    go_wp2_with fail
    refine (HNM.out _ HV.out).mono ?_
    rw [HN.out]
    rintro e w1 ⟨rfl, hb1⟩
    go_wp2
    go_ret
    exact ⟨rfl, hb1⟩
  · have e : pointsB l = allB l.length fun i => insideB (at' l i) && !takenB l i (at' l i) := by simp [pointsB, hn]
    have HN : Hid (namesB l 16 = true) := hn
    rw [e]; clear e hn
    go_enter Tryz.func103, Tryz.ntmps103
    go_wp2_with fail
    refine (HNM.out _ HV.out).mono ?_
    rw [HN.out]
    rintro e w1 ⟨rfl, hb1⟩
    go_wp2
    go_loopw [3, 4, 10] (fun _ _ i wr => ∃ k : Nat, k ≤ l.length ∧ i = .int .i64 k ∧ Below w.heap.size w wr ∧ Hid (∀ j, j < k → (insideB (at' l j) && !takenB l j (at' l j)) = true)) (fun _ _ i _ => l.length - (intOf i).toNat)
    case atStart => exact ⟨0, Nat.zero_le _, rfl, hb1, fun j hj => absurd hj (Nat.not_lt_zero _)⟩
    case round =>
      obtain ⟨k, hk, rfl, hb, HA⟩ := hrel
      by_cases hlt : k < l.length
      · obtain ⟨b, off, rfl, hc⟩ := HC.out k _ (at_get hlt)
        obtain ⟨d0, d1, d2⟩ := hc.keep hb (Nat.le_refl _)
        have BAD : Hid ((insideB (at' l k) && !takenB l k (at' l k)) = false → allB l.length (fun i => insideB (at' l i) && !takenB l i (at' l i)) = false) := fun h => allB_false hlt h
        have hk0 : (0 : Int) ≤ (k : Int) := by omega
        have hk1 : (k : Int) < (l.length : Int) := by omega
        have hk2 : (k : Int) ≤ (cap : Int) := by omega
        have HT : Hid (takenB (l.take k) (l.take k).length (at' l k) = takenB l k (at' l k)) := taken_take l k hk _
        have HTK : Hid (∀ wx : World, Below w.heap.size w wx → TrisAt wx (.slice (some ⟨b, off, none⟩) k cap) (l.take k)) := fun wx hx => (HV.out.keep hx).take k hk
        cases hp : insideB (at' l k)
        · have HP : Hid (insideB (at' l k) = false) := hp
          clear hp
          go_wp2
          first | go_region_with (go_at_call 120; refine (inside_any (at' l k) _).mono ?_; rw [HP.out]; rintro e w3 ⟨rfl, hb3⟩) | fail
          all_goals go_wp2
          all_goals go_ret
          all_goals exact ⟨ret_bool (BAD.out (by rw [HP.out]; rfl)).symm, below_step (hb.alloc hb.size _).drew hb3⟩
        · have HP : Hid (insideB (at' l k) = true) := hp
          clear hp
          cases ht : takenB l k (at' l k)
          · have HT2 : Hid (takenB l k (at' l k) = false) := ht
            clear ht
            go_wp2
            go_region_held3 (fun w' => w'.cell? ⟨wr.heap.size, 0, none⟩ = some (.string (at' l k).s) ∧ w'.cell? ⟨wr.heap.size, 1, none⟩ = some (.int .i64 (at' l k).x) ∧ w'.cell? ⟨wr.heap.size, 2, none⟩ = some (.int .i64 (at' l k).y) ∧ Below w.heap.size w w')
              (first | (refine ⟨by simp [*, go_sem], by simp [*, go_sem], by simp [*, go_sem], ?_⟩; exact (hb.alloc hb.size _).drew) | (obtain ⟨s0, s1, s2, s6⟩ := ‹_ ∧ _ ∧ _ ∧ Below w.heap.size w _›; exact ⟨cell_keep hb3 (Nat.le_refl _) s0, cell_keep hb3 (Nat.le_refl _) s1, cell_keep hb3 (Nat.le_refl _) s2, below_step s6 hb3⟩))
              (first | (go_at_call 120; refine (inside_any (at' l k) _).mono ?_; rw [HP.out]; rintro e w3 ⟨rfl, hb3⟩) | (go_at_call 121; refine (cellTaken_any _ (l.take k) (at' l k) _ (HTK.out _ (by exact (‹_ ∧ _ ∧ _ ∧ Below w.heap.size w _›).2.2.2))).mono ?_; rw [HT.out, HT2.out]; rintro e w3 ⟨rfl, hb3⟩))
            go_wp2
            obtain ⟨_, _, _, hS⟩ := ‹_ ∧ _ ∧ _ ∧ Below w.heap.size w w3›
            exact ⟨⟨k + 1, by omega, by go_num, hS, fun j hj => if e : j = k then by rw [e, HP.out, HT2.out]; rfl else HA.out j (by omega)⟩, by simp [intOf]; omega⟩
          · have HT2 : Hid (takenB l k (at' l k) = true) := ht
            clear ht
            go_wp2
            go_region_held3 (fun w' => w'.cell? ⟨wr.heap.size, 0, none⟩ = some (.string (at' l k).s) ∧ w'.cell? ⟨wr.heap.size, 1, none⟩ = some (.int .i64 (at' l k).x) ∧ w'.cell? ⟨wr.heap.size, 2, none⟩ = some (.int .i64 (at' l k).y) ∧ Below w.heap.size w w')
              (first | (refine ⟨by simp [*, go_sem], by simp [*, go_sem], by simp [*, go_sem], ?_⟩; exact (hb.alloc hb.size _).drew) | (obtain ⟨s0, s1, s2, s6⟩ := ‹_ ∧ _ ∧ _ ∧ Below w.heap.size w _›; exact ⟨cell_keep hb3 (Nat.le_refl _) s0, cell_keep hb3 (Nat.le_refl _) s1, cell_keep hb3 (Nat.le_refl _) s2, below_step s6 hb3⟩))
              (first | (go_at_call 120; refine (inside_any (at' l k) _).mono ?_; rw [HP.out]; rintro e w3 ⟨rfl, hb3⟩) | (go_at_call 121; refine (cellTaken_any _ (l.take k) (at' l k) _ (HTK.out _ (by exact (‹_ ∧ _ ∧ _ ∧ Below w.heap.size w _›).2.2.2))).mono ?_; rw [HT.out, HT2.out]; rintro e w3 ⟨rfl, hb3⟩))
            go_wp2
            obtain ⟨_, _, _, hS⟩ := ‹_ ∧ _ ∧ _ ∧ Below w.heap.size w w3›
            go_ret
            exact ⟨ret_bool (BAD.out (by rw [HP.out, HT2.out]; rfl)).symm, hS⟩
      · go_wp2
        go_ret
        exact ⟨ret_bool (allB_true fun j hj => HA.out j (by omega)).symm, hb⟩
end Go.Proofs.YtfjblenkcfdbiaaGreat

/-
  A base: impl's PlanBaseOk, and the law's own sizes, copies and comparisons of bases.
-/
namespace Go.Proofs.YtfjblenkcfdbiaaGreat
open Go.RowKit

/-- Names that fit into memory. -/
def Names (l : List Tri) : Prop := ∀ t ∈ l, t.s.size ≤ maxLen
theorem TrisAt.alloc {w : World} {v : Value} {l : List Tri} (h : TrisAt w v l) (o : Obj) : TrisAt (w.alloc o) v l := h.keep ((Below.refl _ _).alloc (Nat.le_refl _) _)

set_option maxHeartbeats 800000 in
theorem baseOk_any (vk vp : Value) (ks ps : List Tri) (w : World) (hk : TrisAt w vk ks) (hp : TrisAt w vp ps) (nk : Names ks) (np : Names ps) :
    Calls Tryz.prog 63 #[.agg #[vk, vp]] w fun e w' => e = .returned (.bool (kindsB ks && pointsB ps)) ∧ Below w.heap.size w w' := by
  have HK := hk; have HP := hp
  obtain ⟨ak, ck, rfl, -, -, -⟩ := hk
  obtain ⟨ap, cp, rfl, -, -, -⟩ := hp
  have HK1 : Hid (TrisAt w (.slice ak ks.length ck) ks) := HK
  have HP1 : Hid (TrisAt w (.slice ap ps.length cp) ps) := HP
  have NK : Hid (Names ks) := nk
  have NP : Hid (Names ps) := np
  clear HK HP nk np
  cases h1 : kindsB ks
  · have H1 : Hid (kindsB ks = false) := h1
    rw [Bool.false_and]; clear h1
    go_enter Tryz.func63, Tryz.ntmps63
    go_wp2_with fail
    refine (kindsOk_any _ ks _ (HK1.out.alloc _) NK.out).mono ?_
    rw [H1.out]
    rintro e w1 ⟨rfl, hb1⟩
    go_wp2
    go_ret
    exact ⟨rfl, below_step ((Below.refl _ _).alloc (Nat.le_refl _) _) hb1⟩
  · have H1 : Hid (kindsB ks = true) := h1
    rw [Bool.true_and]; clear h1
    go_enter Tryz.func63, Tryz.ntmps63
    go_wp2_with fail
    refine (kindsOk_any _ ks _ (HK1.out.alloc _) NK.out).mono ?_
    rw [H1.out]
    rintro e w1 ⟨rfl, hb1⟩
    have c1 : w1.cell? ⟨w.heap.size, 1, none⟩ = some (.slice ap ps.length cp) := cell_keep hb1 (Nat.le_refl _) (by simp)
    have hbw := below_step ((Below.refl _ _).alloc (Nat.le_refl _) _) hb1
    go_wp2_with fail
    refine (pointsOk_any _ ps _ (HP1.out.keep hbw) NP.out).mono ?_
    rintro e w2 ⟨rfl, hb2⟩
    go_wp2
    go_ret
    exact ⟨rfl, below_step hbw hb2⟩

set_option maxHeartbeats 800000 in
theorem szBase_any (vk vp : Value) (ks ps : List Tri) (left : Int) (w : World) (hk : TrisAt w vk ks) (hp : TrisAt w vp ps) (nk : Names ks) (np : Names ps) (hl : 0 ≤ left) (hl' : left ≤ 1048576) :
    Calls Tryz.prog 22 #[.agg #[vk, vp], .int .i64 left] w fun e w' => e = .returned (.int .i64 (szR (szTris ks + szTris ps) left)) ∧ Below w.heap.size w w' := by
  have HK := hk; have HP := hp
  obtain ⟨ak, ck, rfl, -, -, -⟩ := hk
  obtain ⟨ap, cp, rfl, -, -, -⟩ := hp
  have HK1 : Hid (TrisAt w (.slice ak ks.length ck) ks) := HK
  have HP1 : Hid (TrisAt w (.slice ap ps.length cp) ps) := HP
  have NK : Hid (Names ks) := nk
  have NP : Hid (Names ps) := np
  clear HK HP nk np
  by_cases h1 : (szTris ks : Int) ≤ left
  · have H1 : Hid (szR (szTris ks) left = left - szTris ks) := szR_pos h1
    have g1 : 0 ≤ left - (szTris ks : Int) := by omega
    by_cases h2 : (szTris ps : Int) ≤ left - szTris ks
    · have H2 : Hid (szR (szTris ps) (left - szTris ks) = left - szTris ks - szTris ps) := szR_pos h2
      rw [szR_pos (by omega)]
      have FIN : Hid (left - szTris ks - szTris ps = left - ((szTris ks + szTris ps : Nat) : Int)) := by show _ = _; omega
      rw [← FIN.out]
      have g2 : 0 ≤ left - (szTris ks : Int) - szTris ps := by omega
      clear h1 h2
      go_enter Tryz.func22, Tryz.ntmps22
      go_wp2_with fail
      refine (szKinds_any _ ks _ _ (HK1.out.alloc _) NK.out hl hl').mono ?_
      rw [H1.out]
      rintro e w1 ⟨rfl, hb1⟩
      have c1 : w1.cell? ⟨w.heap.size, 1, none⟩ = some (.slice ap ps.length cp) := cell_keep hb1 (Nat.le_refl _) (by simp)
      have hbw := below_step ((Below.refl _ _).alloc (Nat.le_refl _) _) hb1
      go_wp2_with fail
      refine (szPoints_any _ ps _ _ (HP1.out.keep hbw) NP.out g1 (by omega)).mono ?_
      rw [H2.out]
      rintro e w2 ⟨rfl, hb2⟩
      go_wp2
      go_ret
      exact ⟨rfl, below_step hbw hb2⟩
    · have H2 : Hid (szR (szTris ps) (left - szTris ks) = -1) := szR_neg h2
      rw [szR_neg (by omega)]
      clear h1 h2
      go_enter Tryz.func22, Tryz.ntmps22
      go_wp2_with fail
      refine (szKinds_any _ ks _ _ (HK1.out.alloc _) NK.out hl hl').mono ?_
      rw [H1.out]
      rintro e w1 ⟨rfl, hb1⟩
      have c1 : w1.cell? ⟨w.heap.size, 1, none⟩ = some (.slice ap ps.length cp) := cell_keep hb1 (Nat.le_refl _) (by simp)
      have hbw := below_step ((Below.refl _ _).alloc (Nat.le_refl _) _) hb1
      go_wp2_with fail
      refine (szPoints_any _ ps _ _ (HP1.out.keep hbw) NP.out g1 (by omega)).mono ?_
      rw [H2.out]
      rintro e w2 ⟨rfl, hb2⟩
      go_wp2
      go_ret
      exact ⟨rfl, below_step hbw hb2⟩
  · have H1 : Hid (szR (szTris ks) left = -1) := szR_neg h1
    rw [szR_neg (by omega)]
    clear h1
    go_enter Tryz.func22, Tryz.ntmps22
    go_wp2_with fail
    refine (szKinds_any _ ks _ _ (HK1.out.alloc _) NK.out hl hl').mono ?_
    rw [H1.out]
    rintro e w1 ⟨rfl, hb1⟩
    go_wp2
    go_ret
    exact ⟨rfl, below_step ((Below.refl _ _).alloc (Nat.le_refl _) _) hb1⟩

theorem TrisAt.setOther {w : World} {b n cap : Nat} {l : List Tri} (h : TrisAt w (.slice (some ⟨b, 0, none⟩) n cap) l) (k o : Nat) (hp : b ≠ k) (v : Value) : TrisAt (w.setCell ⟨k, o, none⟩ v) (.slice (some ⟨b, 0, none⟩) n cap) l := by
  obtain ⟨a', cap', he, h1, h2, h3⟩ := h
  cases he
  refine ⟨_, _, rfl, h1, h2, fun i t ht => ?_⟩
  obtain ⟨b', off, ha, c0, c1, c2⟩ := h3 i t ht
  cases ha
  have hc : ∀ o', (w.setCell ⟨k, o, none⟩ v).cell? ⟨b, o', none⟩ = w.cell? ⟨b, o', none⟩ := fun o' => World.cell?_of_block (w := w) (Below.heap_setCell w ⟨k, o, none⟩ v b hp)
  exact ⟨_, _, rfl, by rw [hc]; exact c0, by rw [hc]; exact c1, by rw [hc]; exact c2⟩

theorem below_set {B : Nat} {a w : World} (h : Below B a w) (k o : Nat) (hk : B ≤ k) (v : Value) : Below B a (w.setCell ⟨k, o, none⟩ v) := h.setCell (p := ⟨k, o, none⟩) hk v

set_option maxHeartbeats 1600000 in
theorem toBase_any (vk vp : Value) (ks ps : List Tri) (w : World) (hk : TrisAt w vk ks) (hp : TrisAt w vp ps) (lk : ks.length ≤ 1048576) (lp : ps.length ≤ 1048576) :
    Calls Tryz.prog 29 #[.agg #[vk, vp]] w fun e w' => ∃ uk up, e = .returned (.agg #[uk, up]) ∧ TrisAt w' uk ks ∧ TrisAt w' up ps ∧ Below w.heap.size w w' := by
  have HK := hk; have HP := hp
  obtain ⟨ak, ck, rfl, -, -, -⟩ := hk
  obtain ⟨ap, cp, rfl, -, -, -⟩ := hp
  have HK1 : Hid (TrisAt w (.slice ak ks.length ck) ks) := HK
  have HP1 : Hid (TrisAt w (.slice ap ps.length cp) ps) := HP
  clear HK HP
  go_enter Tryz.func29, Tryz.ntmps29
  go_wp2_with fail
  refine (toKinds_any _ ks _ (((HK1.out.alloc _).alloc _).alloc _) lk).mono ?_
  rintro e w1 ⟨rfl, tk, hb1, hz1⟩
  have c01 : w1.cell? ⟨w.heap.size, 1, none⟩ = some (.slice ap ps.length cp) := cell_keep hb1 (Nat.le_refl _) (by simp [go_sem])
  have c10 : w1.cell? ⟨w.heap.size + 1, 0, none⟩ = some (.slice none 0 0) := cell_keep hb1 (Nat.le_refl _) (by simp [go_sem])
  have c11 : w1.cell? ⟨w.heap.size + 1, 1, none⟩ = some (.slice none 0 0) := cell_keep hb1 (Nat.le_refl _) (by simp [go_sem])
  have c20 : w1.cell? ⟨w.heap.size + 1 + 1, 0, none⟩ = some (.slice none 0 0) := cell_keep hb1 (Nat.le_refl _) (by simp [go_sem])
  have c21 : w1.cell? ⟨w.heap.size + 1 + 1, 1, none⟩ = some (.slice none 0 0) := cell_keep hb1 (Nat.le_refl _) (by simp [go_sem])
  have fz : ∀ k o, k < w.heap.size + 3 → w.heap.size ≤ k → w1.frozen? ⟨k, o, none⟩ = false := fun k o hk hk' => by
    rw [hb1.frozen (p := ⟨k, o, none⟩) (by simp; omega)]
    have : k = w.heap.size ∨ k = w.heap.size + 1 ∨ k = w.heap.size + 1 + 1 := by omega
    rcases this with rfl | rfl | rfl <;> simp [go_sem]
  have f10 := fz (w.heap.size + 1) 0 (by omega) (by omega)
  have f11 := fz (w.heap.size + 1) 1 (by omega) (by omega)
  have f20 := fz (w.heap.size + 1 + 1) 0 (by omega) (by omega)
  have f21 := fz (w.heap.size + 1 + 1) 1 (by omega) (by omega)
  clear fz
  have hbw : Below w.heap.size w w1 := below_step ((((Below.refl _ _).alloc (Nat.le_refl _) _).alloc (by simp) _).alloc (by simp; omega) _) hb1
  simp only [World.size_alloc] at tk hz1
  have hs1 : w.heap.size + 1 + 1 + 1 < w1.heap.size := hz1
  have HT : Hid (TrisAt w1 (.slice (some ⟨w.heap.size + 1 + 1 + 1, 0, none⟩) ks.length ks.length) ks) := tk
  have HB : Hid (Below w.heap.size w w1) := hbw
  clear tk hbw hb1 hz1
  simp only [World.size_alloc]
  go_wp2_with fail
  generalize hX : Value.slice (some ⟨w.heap.size + 1 + 1 + 1, 0, none⟩) ks.length ks.length = X
  have HX : Hid (Value.slice (some ⟨w.heap.size + 1 + 1 + 1, 0, none⟩) ks.length ks.length = X) := hX
  clear hX
  have hb1' : Below w.heap.size w (w1.setCell ⟨w.heap.size + 1 + 1, 0, none⟩ X) := HB.out.setCell (by simp; omega) _
  refine (toPoints_any _ ps _ (HP1.out.keep hb1') lp).mono ?_
  rintro e w2 ⟨rfl, tp, hb2, hz2⟩
  have hsz : (w1.setCell ⟨w.heap.size + 1 + 1, 0, none⟩ X).heap.size = w1.heap.size := by simp
  rw [hsz] at tp hz2 ⊢
  have keep2 : ∀ k o, k < w1.heap.size → k ≠ w.heap.size + 1 + 1 → w2.cell? ⟨k, o, none⟩ = w1.cell? ⟨k, o, none⟩ := fun k o hk hne => by
    rw [hb2.cell (p := ⟨k, o, none⟩) (by rw [hsz]; exact hk)]
    exact World.cell?_of_block (w := w1) (Below.heap_setCell w1 _ X k hne)
  have d10 := (keep2 (w.heap.size + 1) 0 (by omega) (by omega)).trans c10
  have d11 := (keep2 (w.heap.size + 1) 1 (by omega) (by omega)).trans c11
  have d20 : w2.cell? ⟨w.heap.size + 1 + 1, 0, none⟩ = some X := cell_keep hb2 (Nat.le_refl _) (by simp [go_sem, c20])
  have d21 : w2.cell? ⟨w.heap.size + 1 + 1, 1, none⟩ = some (.slice none 0 0) := cell_keep hb2 (Nat.le_refl _) (by simp [go_sem, c21])
  have g10 : w2.frozen? ⟨w.heap.size + 1, 0, none⟩ = false := by rw [hb2.frozen (p := ⟨w.heap.size + 1, 0, none⟩) (by rw [hsz]; show w.heap.size + 1 < _; omega)]; simp [f10]
  have g11 : w2.frozen? ⟨w.heap.size + 1, 1, none⟩ = false := by rw [hb2.frozen (p := ⟨w.heap.size + 1, 1, none⟩) (by rw [hsz]; show w.heap.size + 1 < _; omega)]; simp [f11]
  have g21 : w2.frozen? ⟨w.heap.size + 1 + 1, 1, none⟩ = false := by rw [hb2.frozen (p := ⟨w.heap.size + 1 + 1, 1, none⟩) (by rw [hsz]; show w.heap.size + 1 + 1 < _; omega)]; simp [f21]
  have tk2 : TrisAt w2 (.slice (some ⟨w.heap.size + 1 + 1 + 1, 0, none⟩) ks.length ks.length) ks := (HT.out.setOther (w.heap.size + 1 + 1) 0 (by omega) X).keep hb2
  have hbw2 : Below w.heap.size w w2 := below_step hb1' hb2
  have FIN : Hid (TrisAt (((w2.setCell ⟨w.heap.size + 1 + 1, 1, none⟩ (.slice (some ⟨w1.heap.size, 0, none⟩) ps.length ps.length)).setCell ⟨w.heap.size + 1, 0, none⟩ X).setCell ⟨w.heap.size + 1, 1, none⟩ (.slice (some ⟨w1.heap.size, 0, none⟩) ps.length ps.length)) (.slice (some ⟨w.heap.size + 1 + 1 + 1, 0, none⟩) ks.length ks.length) ks ∧
      TrisAt (((w2.setCell ⟨w.heap.size + 1 + 1, 1, none⟩ (.slice (some ⟨w1.heap.size, 0, none⟩) ps.length ps.length)).setCell ⟨w.heap.size + 1, 0, none⟩ X).setCell ⟨w.heap.size + 1, 1, none⟩ (.slice (some ⟨w1.heap.size, 0, none⟩) ps.length ps.length)) (.slice (some ⟨w1.heap.size, 0, none⟩) ps.length ps.length) ps ∧
      Below w.heap.size w (((w2.setCell ⟨w.heap.size + 1 + 1, 1, none⟩ (.slice (some ⟨w1.heap.size, 0, none⟩) ps.length ps.length)).setCell ⟨w.heap.size + 1, 0, none⟩ X).setCell ⟨w.heap.size + 1, 1, none⟩ (.slice (some ⟨w1.heap.size, 0, none⟩) ps.length ps.length))) :=
    ⟨((tk2.setOther _ _ (by omega) _).setOther _ _ (by omega) _).setOther _ _ (by omega) _, ((tp.setOther _ _ (by omega) _).setOther _ _ (by omega) _).setOther _ _ (by omega) _,
      below_set (below_set (below_set hbw2 _ _ (by omega) _) _ _ (by omega) _) _ _ (by omega) _⟩
  clear tk2 tp hb2 hb1' hbw2 keep2 c01 c10 c11 c20 c21 f10 f11 f20 f21 hz2 hsz
  obtain ⟨aX, lX, cX, hX⟩ : ∃ aX lX cX, X = .slice aX lX cX := ⟨_, _, _, HX.out.symm⟩
  subst hX
  go_wp2
  refine bodyPost_ret (v := .agg #[.slice aX lX cX, .slice (some ⟨w1.heap.size, 0, none⟩) ps.length ps.length]) (by simp [results, Tryz.results29, go_sem, *]) rfl ⟨_, _, rfl, ?_⟩
  have h := FIN.out
  rw [HX.out] at h
  exact h
end Go.Proofs.YtfjblenkcfdbiaaGreat

/-
  Blocks of a call's own, one behind the other, that can be written; blocks filled with rows, wherever.
-/
namespace Go.Proofs.YtfjblenkcfdbiaaGreat
open Go.RowKit

structure OwnAt (w wr : World) (bs : List (List Value)) : Prop where
  below : Below w.heap.size w wr
  big : w.heap.size + bs.length ≤ wr.heap.size
  has : ∀ i b, bs[i]? = some b → ∀ j v, b[j]? = some v → wr.cell? ⟨w.heap.size + i, j, none⟩ = some v ∧ wr.frozen? ⟨w.heap.size + i, j, none⟩ = false
theorem OwnAt.call {w wr w' : World} {bs : List (List Value)} (h : OwnAt w wr bs) (hb : Below wr.heap.size wr w') : OwnAt w w' bs :=
  ⟨below_step h.below hb, Nat.le_trans h.big hb.size, fun i b hi j v hj => by
    have hlt : w.heap.size + i < wr.heap.size := by
      have := (List.getElem?_eq_some_iff.1 hi).1
      have := h.big; omega
    rw [hb.cell (p := ⟨w.heap.size + i, j, none⟩) hlt, hb.frozen (p := ⟨w.heap.size + i, j, none⟩) hlt]
    exact h.has i b hi j v hj⟩
theorem OwnAt.start (w : World) : OwnAt w w [] := ⟨Below.refl _ _, Nat.le_refl _, fun i b hi => by simp at hi⟩
theorem OwnAt.push {w wr : World} {bs : List (List Value)} (h : OwnAt w wr bs) (he : wr.heap.size = w.heap.size + bs.length) (C : Array Value) (T : TypeId) : OwnAt w (wr.alloc (.cells C T)) (bs ++ [C.toList]) := by
  refine ⟨h.below.alloc (by omega) _, by simp; omega, fun i b hi j v hj => ?_⟩
  by_cases e : i < bs.length
  · rw [List.getElem?_append_left e] at hi
    have hh := h.has i b hi j v hj
    have hb : Below wr.heap.size wr (wr.alloc (.cells C T)) := (Below.refl _ _).alloc (Nat.le_refl _) _
    rw [hb.cell (p := ⟨w.heap.size + i, j, none⟩) (show w.heap.size + i < _ by omega), hb.frozen (p := ⟨w.heap.size + i, j, none⟩) (show w.heap.size + i < _ by omega)]
    exact hh
  · rw [List.getElem?_append_right (by omega)] at hi
    have hi0 : i - bs.length = 0 := by
      have := (List.getElem?_eq_some_iff.1 hi).1
      simp at this; omega
    rw [hi0] at hi
    simp at hi; subst hi
    have e1 : w.heap.size + i = wr.heap.size := by omega
    rw [e1, World.cell?_alloc_at (w := wr) C T wr.heap.size j rfl, World.frozen?_alloc_at (w := wr) C T wr.heap.size j rfl]
    have hj' : j < C.size := by
      have := (List.getElem?_eq_some_iff.1 hj).1
      simpa using this
    refine ⟨by simpa using hj, ?_⟩
    simp
theorem OwnAt.set {w wr : World} {bs : List (List Value)} (h : OwnAt w wr bs) {i j : Nat} {b : List Value} (hi : bs[i]? = some b) (hj : j < b.length) (x : Value) : OwnAt w (wr.setCell ⟨w.heap.size + i, j, none⟩ x) (bs.set i (b.set j x)) := by
  have hil : i < bs.length := (List.getElem?_eq_some_iff.1 hi).1
  refine ⟨h.below.setCell (p := ⟨w.heap.size + i, j, none⟩) (by simp) _, by simp; have := h.big; omega, fun i' b' hi' j' v hj' => ?_⟩
  by_cases e : i' = i
  · subst e
    rw [List.getElem?_set_self hil] at hi'
    cases hi'
    by_cases ej : j' = j
    · subst ej
      rw [List.getElem?_set_self hj] at hj'
      cases hj'
      have hh := h.has i' b hi j' (b[j']) (by simp [hj])
      exact ⟨by simp [go_sem, hh.1], by simp [go_sem, hh.2]⟩
    · rw [List.getElem?_set_ne (Ne.symm ej)] at hj'
      have hh := h.has i' b hi j' v hj'
      refine ⟨?_, by simpa [go_sem] using hh.2⟩
      exact (World.cell?_setCell_other wr ⟨w.heap.size + i', j, none⟩ ⟨w.heap.size + i', j', none⟩ x (by simp <;> omega)).trans hh.1
  · rw [List.getElem?_set_ne (Ne.symm e)] at hi'
    have hh := h.has i' b' hi' j' v hj'
    refine ⟨?_, by simpa [go_sem] using hh.2⟩
    rw [World.cell?_of_block (w := wr) (Below.heap_setCell wr _ x _ (by simp; omega))]
    exact hh.1

/-- The rows lie in block B, and can be written. -/
structure HeldL (wr : World) (B n c : Nat) (rows : List (List Value)) : Prop where
  big : B < wr.heap.size
  room : wr.there B 0 (n * c)
  wide : ∀ r ∈ rows, r.length = c
  has : ∀ i r, rows[i]? = some r → wr.rangeAt B (i * c) r
theorem FilledL.held {w wr : World} {B n c : Nat} {rows : List (List Value)} (h : FilledL w wr B n c rows) : HeldL wr B n c rows := ⟨h.big, h.room, h.wide, h.has⟩
theorem HeldL.keep {wr w1 : World} {B n c : Nat} {rows : List (List Value)} (h : HeldL wr B n c rows) (hb : Below wr.heap.size wr w1) : HeldL w1 B n c rows :=
  ⟨Nat.lt_of_lt_of_le h.big hb.size, there_keep h.room hb h.big, h.wide, fun i r hr => range_keep (h.has i r hr) hb h.big⟩
theorem HeldL.other {wr : World} {B n c : Nat} {rows : List (List Value)} (h : HeldL wr B n c rows) {k o : Nat} (hk : k ≠ B) (x : Value) : HeldL (wr.setCell ⟨k, o, none⟩ x) B n c rows := by
  have hc : ∀ o', (wr.setCell ⟨k, o, none⟩ x).cell? ⟨B, o', none⟩ = wr.cell? ⟨B, o', none⟩ := fun o' => World.cell?_of_block (w := wr) (Below.heap_setCell wr ⟨k, o, none⟩ x B (Ne.symm hk))
  refine ⟨by simpa using h.big, fun j hj => ?_, h.wide, fun i r hr j v hv => ?_⟩
  · have := h.room j hj
    rw [hc, World.frozen?_setCell]; exact this
  · rw [hc]; exact h.has i r hr j v hv
theorem HeldL.cell {wr : World} {B n c : Nat} {rows : List (List Value)} (h : HeldL wr B n c rows) {i j : Nat} {r : List Value} {v : Value} (hr : rows[i]? = some r) (hv : r[j]? = some v) : wr.cell? ⟨B, i * c + j, none⟩ = some v := h.has i r hr j v hv
theorem HeldL.free {wr : World} {B n c : Nat} {rows : List (List Value)} (h : HeldL wr B n c rows) {k j : Nat} (hk : k < n) (hj : j < c) : (∃ v, wr.cell? ⟨B, k * c + j, none⟩ = some v) ∧ wr.frozen? ⟨B, k * c + j, none⟩ = false := by
  have := h.room (k * c + j) (rows_room hk hj)
  simpa [Option.isSome_iff_exists] using this

theorem Filled.held {w wr : World} {B n : Nat} {l : List Tri} (h : Filled w wr B n l l.length) : HeldL wr B n 3 (l.map triRow) :=
  ⟨h.big, h.room, fun r hr => by obtain ⟨t, _, rfl⟩ := List.mem_map.1 hr; rfl, fun i r hr => by
    rw [List.getElem?_map] at hr
    cases ht : l[i]? with
    | none => rw [ht] at hr; cases hr
    | some t =>
      rw [ht] at hr; cases hr
      exact h.has i t (List.getElem?_eq_some_iff.1 ht).1 ht⟩
/-- A slice of kinds or points in a block of its own, from lo on. -/
def TrisOwn (lo : Nat) (w : World) (v : Value) (l : List Tri) : Prop := ∃ b, lo ≤ b ∧ v = .slice (some ⟨b, 0, none⟩) l.length l.length ∧ HeldL w b l.length 3 (l.map triRow)
theorem HeldL.tris {w : World} {b n : Nat} {l : List Tri} (h : HeldL w b n 3 (l.map triRow)) (hn : n = l.length) (cap : Nat) (hc : n ≤ cap) (hm : cap ≤ maxLen) : TrisAt w (.slice (some ⟨b, 0, none⟩) n cap) l :=
  ⟨_, cap, by rw [hn], by omega, hm, fun i t ht => ⟨b, 0, rfl, by
    have hr : (l.map triRow)[i]? = some (triRow t) := by rw [List.getElem?_map, ht]; rfl
    refine ⟨?_, ?_, ?_⟩
    · simpa using h.cell hr (j := 0) (v := .string t.s) rfl
    · simpa using h.cell hr (j := 1) (v := .int .i64 t.x) rfl
    · simpa using h.cell hr (j := 2) (v := .int .i64 t.y) rfl⟩⟩
theorem TrisOwn.at {lo : Nat} {w : World} {v : Value} {l : List Tri} (h : TrisOwn lo w v l) (hm : l.length ≤ 1048576) : TrisAt w v l := by
  obtain ⟨b, _, rfl, hh⟩ := h
  exact hh.tris rfl _ (Nat.le_refl _) (by unfold maxLen; omega)
theorem TrisOwn.keep {lo : Nat} {w w' : World} {v : Value} {l : List Tri} (h : TrisOwn lo w v l) (hb : Below w.heap.size w w') : TrisOwn lo w' v l := by
  obtain ⟨b, hl, hv, hh⟩ := h
  exact ⟨b, hl, hv, hh.keep hb⟩
theorem TrisOwn.mono {lo lo' : Nat} {w : World} {v : Value} {l : List Tri} (h : TrisOwn lo w v l) (hl : lo' ≤ lo) : TrisOwn lo' w v l := by
  obtain ⟨b, hb, hv, hh⟩ := h
  exact ⟨b, by omega, hv, hh⟩
theorem TrisOwn.other {lo : Nat} {w : World} {v : Value} {l : List Tri} (h : TrisOwn lo w v l) {k o : Nat} (hk : k < lo) (x : Value) : TrisOwn lo (w.setCell ⟨k, o, none⟩ x) v l := by
  obtain ⟨b, hl, hv, hh⟩ := h
  exact ⟨b, hl, hv, hh.other (by omega) x⟩
theorem Filled.ownT {w wr : World} {lo B : Nat} {l : List Tri} (h : Filled w wr B l.length l l.length) (hl : lo ≤ B) : TrisOwn lo wr (.slice (some ⟨B, 0, none⟩) l.length l.length) l := ⟨_, hl, rfl, h.held⟩

set_option maxHeartbeats 1600000 in
theorem toBase_own (vk vp : Value) (ks ps : List Tri) (w : World) (hk : TrisAt w vk ks) (hp : TrisAt w vp ps) (lk : ks.length ≤ 1048576) (lp : ps.length ≤ 1048576) :
    Calls Tryz.prog 29 #[.agg #[vk, vp]] w fun e w' => ∃ uk up, e = .returned (.agg #[uk, up]) ∧ TrisOwn (w.heap.size + 3) w' uk ks ∧ TrisOwn (w.heap.size + 3) w' up ps ∧ Below w.heap.size w w' := by
  have HK := hk; have HP := hp
  obtain ⟨ak, ck, rfl, -, -, -⟩ := hk
  obtain ⟨ap, cp, rfl, -, -, -⟩ := hp
  have HK1 : Hid (TrisAt w (.slice ak ks.length ck) ks) := HK
  have HP1 : Hid (TrisAt w (.slice ap ps.length cp) ps) := HP
  clear HK HP
  have HO0 : Hid (OwnAt w (((w.alloc (.cells #[.slice ak ks.length ck, .slice ap ps.length cp] 25)).alloc (.cells #[.slice none 0 0, .slice none 0 0] 36)).alloc (.cells #[.slice none 0 0, .slice none 0 0] 36)) [[.slice ak ks.length ck, .slice ap ps.length cp], [.slice none 0 0, .slice none 0 0], [.slice none 0 0, .slice none 0 0]]) :=
    (((OwnAt.start w).push rfl _ _).push (by simp) _ _).push (by simp) _ _
  go_enter Tryz.func29, Tryz.ntmps29
  go_wp2_with fail
  refine (toKinds_own _ ks _ (HK1.out.keep HO0.out.below) lk).mono ?_
  rintro e w1 ⟨rfl, hf1⟩
  have HO1 : Hid (OwnAt w w1 _) := HO0.out.call hf1.below
  simp only [World.size_alloc] at hf1 ⊢
  have HT1 : Hid (TrisOwn (w.heap.size + 3) w1 _ ks) := hf1.ownT (by omega)
  generalize Value.slice (some ⟨w.heap.size + 1 + 1 + 1, 0, none⟩) ks.length ks.length = uk at HT1 ⊢
  clear HO0 hf1
  have HU : Hid (∃ a n c, uk = .slice a n c) := by obtain ⟨b, _, e, _⟩ := HT1.out; exact ⟨_, _, _, e⟩
  obtain ⟨xa, xn, xc, hux⟩ := HU.out
  subst hux
  clear HU
  have HO2 : Hid (OwnAt w (w1.setCell ⟨w.heap.size + 1 + 1, 0, none⟩ (.slice xa xn xc)) [[.slice ak ks.length ck, .slice ap ps.length cp], [.slice none 0 0, .slice none 0 0], [.slice xa xn xc, .slice none 0 0]]) := HO1.out.set (i := 2) (j := 0) rfl (by simp) _
  have HT2 : Hid (TrisOwn (w.heap.size + 3) (w1.setCell ⟨w.heap.size + 1 + 1, 0, none⟩ (.slice xa xn xc)) (.slice xa xn xc) ks) := HT1.out.other (by omega) _
  have d0 : w1.cell? ⟨w.heap.size, 0, none⟩ = some (.slice ak ks.length ck) := (HO1.out.has 0 _ rfl 0 _ rfl).1
  have d1 : w1.cell? ⟨w.heap.size, 1, none⟩ = some (.slice ap ps.length cp) := (HO1.out.has 0 _ rfl 1 _ rfl).1
  have o0 : w1.cell? ⟨w.heap.size + 1 + 1, 0, none⟩ = some (.slice none 0 0) := (HO1.out.has 2 _ rfl 0 _ rfl).1
  have o1 : w1.cell? ⟨w.heap.size + 1 + 1, 1, none⟩ = some (.slice none 0 0) := (HO1.out.has 2 _ rfl 1 _ rfl).1
  have fo0 : w1.frozen? ⟨w.heap.size + 1 + 1, 0, none⟩ = false := (HO1.out.has 2 _ rfl 0 _ rfl).2
  go_wp2_with fail
  refine (toPoints_own _ ps _ (HP1.out.keep HO2.out.below) lp).mono ?_
  rintro e w2 ⟨rfl, hf2⟩
  have HO3 : Hid (OwnAt w w2 _) := HO2.out.call hf2.below
  have HT3 : Hid (TrisOwn (w.heap.size + 3) w2 _ ks) := HT2.out.keep hf2.below
  have hlo : w.heap.size + 3 ≤ (w1.setCell ⟨w.heap.size + 1 + 1, 0, none⟩ (.slice xa xn xc)).heap.size := HO2.out.big
  have HT4 : Hid (TrisOwn (w.heap.size + 3) w2 _ ps) := hf2.ownT hlo
  generalize (w1.setCell ⟨w.heap.size + 1 + 1, 0, none⟩ (.slice xa xn xc)).heap.size = B2 at *
  clear hf2 HO2 HT2 HO1 HT1 d0 d1 o0 o1 fo0 hlo
  have q0 : w2.cell? ⟨w.heap.size + 1, 0, none⟩ = some (.slice none 0 0) := (HO3.out.has 1 _ rfl 0 _ rfl).1
  have q1 : w2.cell? ⟨w.heap.size + 1, 1, none⟩ = some (.slice none 0 0) := (HO3.out.has 1 _ rfl 1 _ rfl).1
  have p0 : w2.cell? ⟨w.heap.size + 1 + 1, 0, none⟩ = some (.slice xa xn xc) := (HO3.out.has 2 _ rfl 0 _ rfl).1
  have p1 : w2.cell? ⟨w.heap.size + 1 + 1, 1, none⟩ = some (.slice none 0 0) := (HO3.out.has 2 _ rfl 1 _ rfl).1
  have g0 : w2.frozen? ⟨w.heap.size + 1, 0, none⟩ = false := (HO3.out.has 1 _ rfl 0 _ rfl).2
  have g1 : w2.frozen? ⟨w.heap.size + 1, 1, none⟩ = false := (HO3.out.has 1 _ rfl 1 _ rfl).2
  have g2 : w2.frozen? ⟨w.heap.size + 1 + 1, 1, none⟩ = false := (HO3.out.has 2 _ rfl 1 _ rfl).2
  go_wp2
  refine bodyPost_ret (v := .agg #[.slice xa xn xc, .slice (some ⟨B2, 0, none⟩) ps.length ps.length]) (by simp [results, Tryz.results29, go_sem, *]) rfl ⟨_, _, rfl, ((HT3.out.other (by omega) _).other (by omega) _).other (by omega) _, ((HT4.out.other (by omega) _).other (by omega) _).other (by omega) _, ?_⟩
  exact below_set (below_set (below_set HO3.out.below _ _ (by omega) _) _ _ (by omega) _) _ _ (by omega) _
end Go.Proofs.YtfjblenkcfdbiaaGreat

/-
  The law's marks: the text of a mark.
-/
namespace Go.Proofs.YtfjblenkcfdbiaaGreat
open Go.RowKit

def oneM (n : Int) : ByteArray := ⟨#[UInt8.ofNat n.toNat]⟩
theorem oneM_size (n : Int) : (oneM n).size = 1 := rfl
theorem convM (w : World) (b : Nat) (n : Int) (h : w.cell? ⟨b, 0, none⟩ = some (.int .u8 n)) :
    (convert 122 9 (.slice (some ⟨b, 0, none⟩) 1 1)).run Tryz.prog w = .ok (.string (oneM n)) w := by
  have := run_convert_bytes_arg (P := Tryz.prog) w 122 5 Tryz.underlying122 Tryz.underlying5 b 0 1 1 [n] rfl (fun i hi => by
    obtain rfl : i = 0 := by omega
    simpa using h) 9 Tryz.underlying9
  simpa [strOfNums, oneM] using this
/-- The digits ahead of what is there. -/
def mkD (k : Nat) (out : ByteArray) : ByteArray := if _h : k = 0 then out else mkD (k / 10) (oneM (48 + (k : Int) % 10) ++ out)
termination_by k
decreasing_by omega
theorem mkD_zero (out : ByteArray) : mkD 0 out = out := by rw [mkD]; simp
theorem mkD_step {k : Nat} (h : ¬ k = 0) (out : ByteArray) : mkD k out = mkD (k / 10) (oneM (48 + (k : Int) % 10) ++ out) := by rw [mkD, dif_neg h]
/-- The text of a mark. -/
def mkT (k : Nat) : ByteArray := if k = 0 then ⟨#[109, 48]⟩ else ⟨#[109]⟩ ++ mkD k ⟨#[]⟩

theorem ret_strM {a b : ByteArray} (h : a = b) : Ending.returned (.string a) = .returned (.string b) := by rw [h]

set_option maxHeartbeats 1600000 in
theorem markText_any (k0 : Nat) (hk : k0 < 10000000000) (w : World) :
    Calls Tryz.prog 49 #[.int .i64 k0] w fun e w' => e = .returned (.string (mkT k0)) ∧ Below w.heap.size w w' := by
  have kc := convM
  by_cases hz : k0 = 0
  · subst hz
    go_enter Tryz.func49, Tryz.ntmps49
    go_wp2
    go_ret
    exact ⟨rfl, Below.refl _ _⟩
  have e : mkT k0 = ⟨#[109]⟩ ++ mkD k0 ⟨#[]⟩ := by unfold mkT; rw [if_neg hz]
  have hz' : ¬ (k0 : Int) ≤ 0 := by omega
  rw [e]; clear e hz
  have HD : Hid (∀ o : ByteArray, o = mkD k0 ⟨#[]⟩ → Ending.returned (.string (⟨#[109]⟩ ++ o)) = .returned (.string (⟨#[109]⟩ ++ mkD k0 ⟨#[]⟩))) := fun o h => by rw [h]
  go_enter Tryz.func49, Tryz.ntmps49
  go_wp2
  go_loopw [0, 3] (fun kk out wr => ∃ (k j : Nat) (o : ByteArray), kk = .int .i64 k ∧ out = .string o ∧ k < 10 ^ j ∧ j ≤ 10 ∧ o.size + j ≤ 10 ∧ Hid (mkD k o = mkD k0 ⟨#[]⟩) ∧ Below w.heap.size w wr) (fun kk _ _ => (intOf kk).toNat)
  case atStart => exact ⟨k0, 10, ⟨#[]⟩, rfl, rfl, by omega, by omega, by decide, rfl, Below.refl _ _⟩
  case round =>
    obtain ⟨k, j, o, rfl, rfl, hj, hj10, ho, HM, hb⟩ := hrel
    by_cases hk0 : k = 0
    · subst hk0
      have HF : Hid (o = mkD k0 ⟨#[]⟩) := by
        have := HM.out; rw [mkD_zero] at this; exact this
      have hsz : ¬ 9223372036854775807 < (⟨#[109]⟩ : ByteArray).size + o.size := by
        have : (⟨#[109]⟩ : ByteArray).size = 1 := rfl
        omega
      go_wp2
      go_ret
      exact ⟨HD.out _ HF.out, hb⟩
    · have hj0 : 0 < j := by
        rcases Nat.eq_zero_or_pos j with rfl | h
        · simp at hj; omega
        · exact h
      have hpos : (0 : Int) < (k : Int) := by omega
      have hkb : k < 10000000000 := Nat.lt_of_lt_of_le hj (by have := Nat.pow_le_pow_right (show 0 < 10 by omega) hj10; omega)
      have HS : Hid (mkD (k / 10) (oneM (48 + (k : Int) % 10) ++ o) = mkD k0 ⟨#[]⟩) := by show _ = _; rw [← mkD_step hk0]; exact HM.out
      have hsz : ¬ 9223372036854775807 < (oneM (48 + (k : Int) % 10)).size + o.size := by rw [oneM_size]; omega
      have hw1 : IntKind.i64.wrap ((k : Int) / 10) = (k : Int) / 10 := by rw [IntKind.wrap_i64]; omega
      have hw3 : IntKind.i64.wrap (48 + (k : Int).tmod 10) = 48 + (k : Int) % 10 := by rw [Int.tmod_eq_emod_of_nonneg (by omega), IntKind.wrap_i64]; omega
      have hw4 : IntKind.u8.wrap (48 + (k : Int) % 10) = 48 + (k : Int) % 10 := by rw [IntKind.wrap_u8]; omega
      have HJ : Hid (k / 10 < 10 ^ (j - 1)) := by
        show _ < _
        obtain ⟨m, rfl⟩ : ∃ m, j = m + 1 := ⟨j - 1, by omega⟩
        rw [Nat.pow_succ] at hj
        simp only [Nat.add_sub_cancel]; omega
      clear hj hk0
      go_wp2
      exact ⟨⟨k / 10, j - 1, _, by simp, rfl, HJ.out, by omega, by rw [ByteArray.size_append, oneM_size]; omega, HS.out, hb.alloc hb.size _⟩, by simp [intOf]; omega⟩
end Go.Proofs.YtfjblenkcfdbiaaGreat
