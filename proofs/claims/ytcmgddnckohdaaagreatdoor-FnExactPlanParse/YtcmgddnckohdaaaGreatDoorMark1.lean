import Derived.Test.YtcmgddnckohdaaaGreatDoorRows2
import Derived.Test.YtcmgddnckohdaaaGreatDoorDec2
import Derived.Test.YtcmgddnckohdaaaGreatDoorLater
set_option linter.unusedSimpArgs false
set_option linter.unusedVariables false
namespace Go.Proofs.YtcmgddnckohdaaaGreatDoor
open Go.RowKit
theorem asc_zero (l : List Tri) : ascB l 0 = true := by simp [ascB]
theorem asc_succ (l : List Tri) (m : Nat) : ascB l (m + 1) = !geB (at' l m).s (at' l (m + 1)).s := by simp [ascB]
def TriAt (w : World) (b o : Nat) (t : Tri) : Prop :=
  w.cell? ⟨b, o, none⟩ = some (.string t.s) ∧ w.cell? ⟨b, o + 1, none⟩ = some (.int .i64 t.x) ∧ w.cell? ⟨b, o + 2, none⟩ = some (.int .i64 t.y)
theorem TriAt.keep {w w' : World} {b o B : Nat} {t : Tri} (h : TriAt w b o t) (hb : Below B w w') (hB : w.heap.size ≤ B) : TriAt w' b o t :=
  ⟨cell_keep hb hB h.1, cell_keep hb hB h.2.1, cell_keep hb hB h.2.2⟩
set_option maxHeartbeats 1600000 in
theorem namesKind_any (v : Value) (l : List Tri) (most : Nat) (w : World) (hv : TrisAt w v l) (hs : ∀ t ∈ l, t.s.size ≤ maxLen) (hm : most ≤ 1000) :
    Calls Tryz.prog 128 #[v, .int .i64 most, .func (.func 129) #[] #[]] w fun e w' => e = .returned (.bool (namesB l most)) ∧ Below w.heap.size w w' := by
  obtain ⟨a, cap, rfl, hlc, hcm, hc⟩ := hv
  unfold maxLen at hcm
  have HC : Hid (∀ i t, l[i]? = some t → ∃ b off, a = some ⟨b, off, none⟩ ∧ TriAt w b (off + i * 3) t) := hc
  have HS : Hid (∀ t ∈ l, t.s.size ≤ maxLen) := hs
  clear hc hs
  by_cases hn : (most : Int) < (l.length : Int)
  · have e : namesB l most = false := by simp [namesB]; omega
    rw [e]; clear e
    go_enter Tryz.func128, Tryz.ntmps128
    go_wp2
    go_ret
    exact ⟨rfl, Below.refl _ _⟩
  · have e : namesB l most = allB l.length fun i => nameB (at' l i).s && ascB l i := by
      have : l.length ≤ most := by omega
      simp [namesB, this]
    rw [e]; clear e
    go_enter Tryz.func128, Tryz.ntmps128
    go_wp2
    go_loopw [7, 8, 15] (fun _ _ i wr => ∃ k : Nat, k ≤ l.length ∧ i = .int .i64 k ∧ Below w.heap.size w wr ∧ Hid (∀ j, j < k → (nameB (at' l j).s && ascB l j) = true)) (fun _ _ i _ => l.length - (intOf i).toNat)
    case atStart => exact ⟨0, Nat.zero_le _, rfl, Below.refl _ _, fun j hj => absurd hj (Nat.not_lt_zero _)⟩
    case round =>
      obtain ⟨k, hk, rfl, hb, HA⟩ := hrel
      by_cases hlt : k < l.length
      · obtain ⟨b, off, rfl, hc⟩ := HC.out k _ (at_get hlt)
        obtain ⟨d0, d1, d2⟩ := hc.keep hb (Nat.le_refl _)
        have hsk : (at' l k).s.size ≤ maxLen := HS.out _ (List.mem_of_getElem? (at_get hlt))
        have BAD : Hid (nameB (at' l k).s = false → allB l.length (fun i => nameB (at' l i).s && ascB l i) = false) := fun h => allB_false hlt (by simp [h])
        have BAD' : Hid (ascB l k = false → allB l.length (fun i => nameB (at' l i).s && ascB l i) = false) := fun h => allB_false hlt (by simp [h])
        have hk0 : (0 : Int) ≤ (k : Int) := by omega
        have hk1 : (k : Int) < (l.length : Int) := by omega
        have hbl := lt_of_cell d0
        go_wp2_with fail
        refine (kindName_any (at' l k) _).mono ?_
        rintro e w1 ⟨rfl, hb1⟩
        go_wp2_with fail
        refine (nameOk_any (at' l k).s _ hsk).mono ?_
        rintro e w2 ⟨rfl, hb2⟩
        have hb12 : Below (wr.alloc (.cells #[.string (at' l k).s, .int .i64 (at' l k).x, .int .i64 (at' l k).y] 69)).heap.size (wr.alloc (.cells #[.string (at' l k).s, .int .i64 (at' l k).x, .int .i64 (at' l k).y] 69)) w2 := below_step hb1 hb2
        have hbw : Below w.heap.size w w2 := below_step (hb.alloc hb.size _) hb12
        have tk : TriAt w2 b (off + k * 3) (at' l k) := hc.keep hbw (Nat.le_refl _)
        have tn : TriAt w2 wr.heap.size 0 (at' l k) := TriAt.keep (w := wr.alloc (.cells #[.string (at' l k).s, .int .i64 (at' l k).x, .int .i64 (at' l k).y] 69)) ⟨by simp, by simp, by simp⟩ hb12 (Nat.le_refl _)
        clear d0 d1 d2 hb1 hb2 hb12
        cases hnm : nameB (at' l k).s
        · have HN : Hid (nameB (at' l k).s = false) := hnm
          clear hnm
          go_wp2
          go_ret
          exact ⟨ret_bool (BAD.out HN.out).symm, hbw⟩
        · have HN : Hid (nameB (at' l k).s = true) := hnm
          clear hnm
          by_cases hkz : k = 0
          · subst hkz
            go_wp2
            go_quiet (fail)
            go_wp2
            exact ⟨⟨1, by omega, by go_num, below_drewN hbw _, fun j hj => by obtain rfl : j = 0 := by omega
                                                                              rw [HN.out, asc_zero]; rfl⟩, by simp [intOf]; omega⟩
          · obtain ⟨m, rfl⟩ : ∃ m, k = m + 1 := ⟨k - 1, by omega⟩
            obtain ⟨b', off', hbo, hcm'⟩ := HC.out m _ (at_get (by omega))
            cases hbo
            have tm : TriAt w2 b (off + m * 3) (at' l m) := hcm'.keep hbw (Nat.le_refl _)
            have HE : Hid (ascB l (m + 1) = !geB (at' l m).s (at' l (m + 1)).s) := asc_succ l m
            obtain ⟨m0, m1, m2⟩ := tm
            obtain ⟨n0, n1, n2⟩ := tn
            have hi0 : (0 : Int) ≤ (m : Int) := by omega
            have hi1 : (m : Int) < (l.length : Int) := by omega
            have hi2 : (0 : Int) < (m : Int) + 1 := by omega
            have hw1 : IntKind.i64.wrap (m : Int) = (m : Int) := by rw [IntKind.wrap_i64]; omega
            have hw2 : IntKind.i64.wrap ((m : Int) + 1 - 1) = (m : Int) := by rw [IntKind.wrap_i64]; omega
            clear hc hcm' tk
            go_wp2
            go_region_held3 (fun w' => w'.cell? ⟨b, off + m * 3, none⟩ = some (.string (at' l m).s) ∧ w'.cell? ⟨b, off + m * 3 + 1, none⟩ = some (.int .i64 (at' l m).x) ∧ w'.cell? ⟨b, off + m * 3 + 2, none⟩ = some (.int .i64 (at' l m).y) ∧
                w'.cell? ⟨wr.heap.size, 0, none⟩ = some (.string (at' l (m + 1)).s) ∧ w'.cell? ⟨wr.heap.size, 1, none⟩ = some (.int .i64 (at' l (m + 1)).x) ∧ w'.cell? ⟨wr.heap.size, 2, none⟩ = some (.int .i64 (at' l (m + 1)).y) ∧ Below w2.heap.size w2 w')
              (first | (refine ⟨by simp [*, go_sem], by simp [*, go_sem], by simp [*, go_sem], by simp [*, go_sem], by simp [*, go_sem], by simp [*, go_sem], ?_⟩; exact (Below.refl _ _).drew) | (obtain ⟨s0, s1, s2, s3, s4, s5, s6⟩ := ‹_ ∧ _ ∧ _ ∧ _ ∧ _ ∧ _ ∧ _›; exact ⟨cell_keep hb3 (Nat.le_refl _) s0, cell_keep hb3 (Nat.le_refl _) s1, cell_keep hb3 (Nat.le_refl _) s2, cell_keep hb3 (Nat.le_refl _) s3, cell_keep hb3 (Nat.le_refl _) s4, cell_keep hb3 (Nat.le_refl _) s5, below_step s6 hb3⟩))
              (first | (go_at_call 129; refine (kindName_any _ _).mono ?_; rintro e w3 ⟨rfl, hb3⟩))
            go_wp2
            · rename_i h
              obtain ⟨_, _, _, _, _, _, hS⟩ := ‹_ ∧ _ ∧ _ ∧ _ ∧ _ ∧ _ ∧ Below w2.heap.size w2 w3›
              go_ret
              exact ⟨ret_bool (BAD'.out (by rw [HE.out]; unfold geB; rw [h]; rfl)).symm, below_step hbw hS⟩
            · rename_i h
              obtain ⟨_, _, _, _, _, _, hS⟩ := ‹_ ∧ _ ∧ _ ∧ _ ∧ _ ∧ _ ∧ Below w2.heap.size w2 w3›
              exact ⟨⟨m + 1 + 1, by omega, by go_num, below_step hbw hS, fun j hj => if e : j = m + 1 then by rw [e, HN.out, HE.out]; unfold geB; rw [h]; rfl else HA.out j (by omega)⟩, by simp [intOf]; omega⟩
      · go_wp2
        go_ret
        exact ⟨ret_bool (allB_true fun j hj => HA.out j (by omega)).symm, hb⟩
set_option maxHeartbeats 1600000 in
theorem namesPoint_any (v : Value) (l : List Tri) (most : Nat) (w : World) (hv : TrisAt w v l) (hs : ∀ t ∈ l, t.s.size ≤ maxLen) (hm : most ≤ 1000) :
    Calls Tryz.prog 131 #[v, .int .i64 most, .func (.func 132) #[] #[]] w fun e w' => e = .returned (.bool (namesB l most)) ∧ Below w.heap.size w w' := by
  obtain ⟨a, cap, rfl, hlc, hcm, hc⟩ := hv
  unfold maxLen at hcm
  have HC : Hid (∀ i t, l[i]? = some t → ∃ b off, a = some ⟨b, off, none⟩ ∧ TriAt w b (off + i * 3) t) := hc
  have HS : Hid (∀ t ∈ l, t.s.size ≤ maxLen) := hs
  clear hc hs
  by_cases hn : (most : Int) < (l.length : Int)
  · have e : namesB l most = false := by simp [namesB]; omega
    rw [e]; clear e
    go_enter Tryz.func131, Tryz.ntmps131
    go_wp2
    go_ret
    exact ⟨rfl, Below.refl _ _⟩
  · have e : namesB l most = allB l.length fun i => nameB (at' l i).s && ascB l i := by
      have : l.length ≤ most := by omega
      simp [namesB, this]
    rw [e]; clear e
    go_enter Tryz.func131, Tryz.ntmps131
    go_wp2
    go_loopw [7, 8, 15] (fun _ _ i wr => ∃ k : Nat, k ≤ l.length ∧ i = .int .i64 k ∧ Below w.heap.size w wr ∧ Hid (∀ j, j < k → (nameB (at' l j).s && ascB l j) = true)) (fun _ _ i _ => l.length - (intOf i).toNat)
    case atStart => exact ⟨0, Nat.zero_le _, rfl, Below.refl _ _, fun j hj => absurd hj (Nat.not_lt_zero _)⟩
    case round =>
      obtain ⟨k, hk, rfl, hb, HA⟩ := hrel
      by_cases hlt : k < l.length
      · obtain ⟨b, off, rfl, hc⟩ := HC.out k _ (at_get hlt)
        obtain ⟨d0, d1, d2⟩ := hc.keep hb (Nat.le_refl _)
        have hsk : (at' l k).s.size ≤ maxLen := HS.out _ (List.mem_of_getElem? (at_get hlt))
        have BAD : Hid (nameB (at' l k).s = false → allB l.length (fun i => nameB (at' l i).s && ascB l i) = false) := fun h => allB_false hlt (by simp [h])
        have BAD' : Hid (ascB l k = false → allB l.length (fun i => nameB (at' l i).s && ascB l i) = false) := fun h => allB_false hlt (by simp [h])
        have hk0 : (0 : Int) ≤ (k : Int) := by omega
        have hk1 : (k : Int) < (l.length : Int) := by omega
        have hbl := lt_of_cell d0
        go_wp2_with fail
        refine (pointName_any (at' l k) _).mono ?_
        rintro e w1 ⟨rfl, hb1⟩
        go_wp2_with fail
        refine (nameOk_any (at' l k).s _ hsk).mono ?_
        rintro e w2 ⟨rfl, hb2⟩
        have hb12 : Below (wr.alloc (.cells #[.string (at' l k).s, .int .i64 (at' l k).x, .int .i64 (at' l k).y] 72)).heap.size (wr.alloc (.cells #[.string (at' l k).s, .int .i64 (at' l k).x, .int .i64 (at' l k).y] 72)) w2 := below_step hb1 hb2
        have hbw : Below w.heap.size w w2 := below_step (hb.alloc hb.size _) hb12
        have tk : TriAt w2 b (off + k * 3) (at' l k) := hc.keep hbw (Nat.le_refl _)
        have tn : TriAt w2 wr.heap.size 0 (at' l k) := TriAt.keep (w := wr.alloc (.cells #[.string (at' l k).s, .int .i64 (at' l k).x, .int .i64 (at' l k).y] 72)) ⟨by simp, by simp, by simp⟩ hb12 (Nat.le_refl _)
        clear d0 d1 d2 hb1 hb2 hb12
        cases hnm : nameB (at' l k).s
        · have HN : Hid (nameB (at' l k).s = false) := hnm
          clear hnm
          go_wp2
          go_ret
          exact ⟨ret_bool (BAD.out HN.out).symm, hbw⟩
        · have HN : Hid (nameB (at' l k).s = true) := hnm
          clear hnm
          by_cases hkz : k = 0
          · subst hkz
            go_wp2
            go_quiet (fail)
            go_wp2
            exact ⟨⟨1, by omega, by go_num, below_drewN hbw _, fun j hj => by obtain rfl : j = 0 := by omega
                                                                              rw [HN.out, asc_zero]; rfl⟩, by simp [intOf]; omega⟩
          · obtain ⟨m, rfl⟩ : ∃ m, k = m + 1 := ⟨k - 1, by omega⟩
            obtain ⟨b', off', hbo, hcm'⟩ := HC.out m _ (at_get (by omega))
            cases hbo
            have tm : TriAt w2 b (off + m * 3) (at' l m) := hcm'.keep hbw (Nat.le_refl _)
            have HE : Hid (ascB l (m + 1) = !geB (at' l m).s (at' l (m + 1)).s) := asc_succ l m
            obtain ⟨m0, m1, m2⟩ := tm
            obtain ⟨n0, n1, n2⟩ := tn
            have hi0 : (0 : Int) ≤ (m : Int) := by omega
            have hi1 : (m : Int) < (l.length : Int) := by omega
            have hi2 : (0 : Int) < (m : Int) + 1 := by omega
            have hw1 : IntKind.i64.wrap (m : Int) = (m : Int) := by rw [IntKind.wrap_i64]; omega
            have hw2 : IntKind.i64.wrap ((m : Int) + 1 - 1) = (m : Int) := by rw [IntKind.wrap_i64]; omega
            clear hc hcm' tk
            go_wp2
            go_region_held3 (fun w' => w'.cell? ⟨b, off + m * 3, none⟩ = some (.string (at' l m).s) ∧ w'.cell? ⟨b, off + m * 3 + 1, none⟩ = some (.int .i64 (at' l m).x) ∧ w'.cell? ⟨b, off + m * 3 + 2, none⟩ = some (.int .i64 (at' l m).y) ∧
                w'.cell? ⟨wr.heap.size, 0, none⟩ = some (.string (at' l (m + 1)).s) ∧ w'.cell? ⟨wr.heap.size, 1, none⟩ = some (.int .i64 (at' l (m + 1)).x) ∧ w'.cell? ⟨wr.heap.size, 2, none⟩ = some (.int .i64 (at' l (m + 1)).y) ∧ Below w2.heap.size w2 w')
              (first | (refine ⟨by simp [*, go_sem], by simp [*, go_sem], by simp [*, go_sem], by simp [*, go_sem], by simp [*, go_sem], by simp [*, go_sem], ?_⟩; exact (Below.refl _ _).drew) | (obtain ⟨s0, s1, s2, s3, s4, s5, s6⟩ := ‹_ ∧ _ ∧ _ ∧ _ ∧ _ ∧ _ ∧ _›; exact ⟨cell_keep hb3 (Nat.le_refl _) s0, cell_keep hb3 (Nat.le_refl _) s1, cell_keep hb3 (Nat.le_refl _) s2, cell_keep hb3 (Nat.le_refl _) s3, cell_keep hb3 (Nat.le_refl _) s4, cell_keep hb3 (Nat.le_refl _) s5, below_step s6 hb3⟩))
              (first | (go_at_call 132; refine (pointName_any _ _).mono ?_; rintro e w3 ⟨rfl, hb3⟩))
            go_wp2
            · rename_i h
              obtain ⟨_, _, _, _, _, _, hS⟩ := ‹_ ∧ _ ∧ _ ∧ _ ∧ _ ∧ _ ∧ Below w2.heap.size w2 w3›
              go_ret
              exact ⟨ret_bool (BAD'.out (by rw [HE.out]; unfold geB; rw [h]; rfl)).symm, below_step hbw hS⟩
            · rename_i h
              obtain ⟨_, _, _, _, _, _, hS⟩ := ‹_ ∧ _ ∧ _ ∧ _ ∧ _ ∧ _ ∧ Below w2.heap.size w2 w3›
              exact ⟨⟨m + 1 + 1, by omega, by go_num, below_step hbw hS, fun j hj => if e : j = m + 1 then by rw [e, HN.out, HE.out]; unfold geB; rw [h]; rfl else HA.out j (by omega)⟩, by simp [intOf]; omega⟩
      · go_wp2
        go_ret
        exact ⟨ret_bool (allB_true fun j hj => HA.out j (by omega)).symm, hb⟩
open Go.RowKit
set_option maxHeartbeats 1600000 in
theorem kindsOk_any (v : Value) (l : List Tri) (w : World) (hv : TrisAt w v l) (hs : ∀ t ∈ l, t.s.size ≤ maxLen) :
  Calls Tryz.prog 79 #[v] w fun e w' => e = .returned (.bool (kindsB l)) ∧ Below w.heap.size w w' := by
 have hnm := fun wx hvx => namesKind_any v l 6 wx hvx hs (by omega)
 have HNM : Hid (∀ (wx : World), TrisAt wx v l → Calls Tryz.prog 128 #[v, .int .i64 (6 : Nat), .func (.func 129) #[] #[]] wx fun e w' => e = .returned (.bool (namesB l 6)) ∧ Below wx.heap.size wx w') := hnm
 clear hnm
 have HV : Hid (TrisAt w v l) := hv
 obtain ⟨a, cap, rfl, hlc, hcm, hc⟩ := hv
 unfold maxLen at hcm
 have HC : Hid (∀ i t, l[i]? = some t → ∃ b off, a = some ⟨b, off, none⟩ ∧ TriAt w b (off + i * 3) t) := hc
 clear hc
 cases hn : namesB l 6
 ·have e : kindsB l = false := by simp [kindsB, hn]
  have HN : Hid (namesB l 6 = false) := hn
  rw [e]; clear e hn
  go_enter Tryz.func79, Tryz.ntmps79
  go_wp2_with fail
  refine (HNM.out _ HV.out).mono ?_
  rw [HN.out]
  rintro e w1 ⟨rfl, hb1⟩
  go_wp2
  go_ret
  exact ⟨rfl, hb1⟩
 ·have e : kindsB l = allB l.length fun i => paceB (at' l i) := by simp [kindsB, hn]
  have HN : Hid (namesB l 6 = true) := hn
  rw [e]; clear e hn
  go_enter Tryz.func79, Tryz.ntmps79
  go_wp2_with fail
  refine (HNM.out _ HV.out).mono ?_
  rw [HN.out]
  rintro e w1 ⟨rfl, hb1⟩
  go_wp2
  go_loopw [4, 10] (fun _ i wr => ∃ k : Nat, k ≤ l.length ∧ i = .int .i64 k ∧ Below w.heap.size w wr ∧ Hid (∀ j, j < k → paceB (at' l j) = true)) (fun _ i _ => l.length - (intOf i).toNat)
  case atStart => exact ⟨0, Nat.zero_le _, rfl, hb1, fun j hj => absurd hj (Nat.not_lt_zero _)⟩
  case round =>
   obtain ⟨k, hk, rfl, hb, HA⟩ := hrel
   by_cases hlt : k < l.length
   ·obtain ⟨b, off, rfl, hc⟩ := HC.out k _ (at_get hlt)
    obtain ⟨d0, d1, d2⟩ := hc.keep hb (Nat.le_refl _)
    have BAD : Hid (paceB (at' l k) = false → allB l.length (fun i => paceB (at' l i)) = false) := fun h => allB_false hlt h
    have hk0 : (0 : Int) ≤ (k : Int) := by omega
    have hk1 : (k : Int) < (l.length : Int) := by omega
    cases hp : paceB (at' l k)
    ·have HP : Hid (paceB (at' l k) = false) := hp
     clear hp
     go_wp2_with fail
     refine (paceOk_any (at' l k) _).mono ?_
     rw [HP.out]
     rintro e w2 ⟨rfl, hb2⟩
     go_wp2
     go_ret
     exact ⟨ret_bool (BAD.out HP.out).symm, below_step (hb.alloc hb.size _) hb2⟩
    ·have HP : Hid (paceB (at' l k) = true) := hp
     clear hp
     go_wp2_with fail
     refine (paceOk_any (at' l k) _).mono ?_
     rw [HP.out]
     rintro e w2 ⟨rfl, hb2⟩
     go_wp2
     exact ⟨⟨k + 1, by omega, by go_num, below_step (hb.alloc hb.size _) hb2, fun j hj => if e : j = k then by rw [e]; exact HP.out else HA.out j (by omega)⟩, by simp [intOf]; omega⟩
   ·go_wp2
    go_ret
    exact ⟨ret_bool (allB_true fun j hj => HA.out j (by omega)).symm, hb⟩
set_option maxHeartbeats 1600000 in
theorem cellTaken_any (v : Value) (l : List Tri) (t : Tri) (w : World) (hv : TrisAt w v l) :
  Calls Tryz.prog 134 #[v, .agg #[.string t.s, .int .i64 t.x, .int .i64 t.y]] w fun e w' => e = .returned (.bool (takenB l l.length t)) ∧ Below w.heap.size w w' := by
 obtain ⟨a, cap, rfl, hlc, hcm, hc⟩ := hv
 unfold maxLen at hcm
 have HC : Hid (∀ i t, l[i]? = some t → ∃ b off, a = some ⟨b, off, none⟩ ∧ TriAt w b (off + i * 3) t) := hc
 clear hc
 go_enter Tryz.func134, Tryz.ntmps134
 go_wp2
 go_loopw [6, 9] (fun _ i wr => ∃ k : Nat, k ≤ l.length ∧ i = .int .i64 k ∧ Below (w.heap.size + 1) (w.alloc (.cells #[.string t.s, .int .i64 t.x, .int .i64 t.y] 72)) wr ∧ Hid (∀ j, j < k → (!sameB (at' l j) t) = true)) (fun _ i _ => l.length - (intOf i).toNat)
 case atStart => exact ⟨0, Nat.zero_le _, rfl, Below.refl _ _, fun j hj => absurd hj (Nat.not_lt_zero _)⟩
 case round =>
  obtain ⟨k, hk, rfl, hb, HA⟩ := hrel
  have hbw : Below w.heap.size w wr := ((Below.refl _ _).alloc (Nat.le_refl _) _).trans (hb.mono (Nat.le_succ _))
  have hsz : w.heap.size < wr.heap.size := by have := hb.size; simp at this; omega
  have p1 : wr.cell? ⟨w.heap.size, 1, none⟩ = some (.int .i64 t.x) := by rw [hb.cell (p := ⟨w.heap.size, 1, none⟩) (Nat.lt_succ_self _)]; simp
  have p2 : wr.cell? ⟨w.heap.size, 2, none⟩ = some (.int .i64 t.y) := by rw [hb.cell (p := ⟨w.heap.size, 2, none⟩) (Nat.lt_succ_self _)]; simp
  by_cases hlt : k < l.length
  ·obtain ⟨b, off, rfl, hc⟩ := HC.out k _ (at_get hlt)
   obtain ⟨d0, d1, d2⟩ := hc.keep hbw (Nat.le_refl _)
   have BAD : Hid ((!sameB (at' l k) t) = false → takenB l l.length t = true) := fun h => by unfold takenB; rw [allB_false hlt h]; rfl
   have hk0 : (0 : Int) ≤ (k : Int) := by omega
   have hk1 : (k : Int) < (l.length : Int) := by omega
   have hfin : Hid (Below (w.heap.size + 1) (w.alloc (.cells #[.string t.s, .int .i64 t.x, .int .i64 t.y] 72)) (wr.alloc (.cells #[.string (at' l k).s, .int .i64 (at' l k).x, .int .i64 (at' l k).y] 72))) := hb.alloc (by omega) _
   have hfin' : Hid (Below w.heap.size w (wr.alloc (.cells #[.string (at' l k).s, .int .i64 (at' l k).x, .int .i64 (at' l k).y] 72))) := hbw.alloc (by omega) _
   have SM : Hid (sameB (at' l k) t = (decide ((at' l k).x = t.x) && decide ((at' l k).y = t.y))) := rfl
   by_cases hx : (at' l k).x = t.x
   ·have hx' : ((at' l k).x == t.x) = true := by simp [hx]
    have HX : Hid ((at' l k).x = t.x) := hx
    clear hx
    by_cases hy : (at' l k).y = t.y
    ·have hy' : ((at' l k).y == t.y) = true := by simp [hy]
     have HY : Hid ((at' l k).y = t.y) := hy
     clear hy
     go_wp2
     go_ret
     exact ⟨ret_bool (BAD.out (by rw [SM.out, HX.out, HY.out]; simp)).symm, hfin'.out⟩
    ·have hy' : ((at' l k).y == t.y) = false := by simp [hy]
     have HY : Hid (¬ (at' l k).y = t.y) := hy
     clear hy
     go_wp2
     exact ⟨⟨k + 1, by omega, by go_num, hfin.out, fun j hj => if e : j = k then by rw [e, SM.out]; simp [HY.out] else HA.out j (by omega)⟩, by simp [intOf]; omega⟩
   ·have hx' : ((at' l k).x == t.x) = false := by simp [hx]
    have HX : Hid (¬ (at' l k).x = t.x) := hx
    clear hx
    go_wp2
    exact ⟨⟨k + 1, by omega, by go_num, hfin.out, fun j hj => if e : j = k then by rw [e, SM.out]; simp [HX.out] else HA.out j (by omega)⟩, by simp [intOf]; omega⟩
  ·go_wp2
   go_ret
   exact ⟨ret_bool (by unfold takenB; rw [allB_true fun j hj => HA.out j (by omega)]; rfl), hbw⟩
theorem taken_take (l : List Tri) (i : Nat) (h : i ≤ l.length) (t : Tri) : takenB (l.take i) (l.take i).length t = takenB l i t := by
 unfold takenB
 rw [List.length_take, Nat.min_eq_left h]
 congr 1
 refine allB_congr fun j hj => ?_
 simp [at', List.getD, hj]
theorem TrisAt.take {w : World} {a : Option Addr} {l : List Tri} {cap : Nat} (h : TrisAt w (.slice a l.length cap) l) (i : Nat) (hi : i ≤ l.length) : TrisAt w (.slice a i cap) (l.take i) := by
 obtain ⟨a', cap', he, h1, h2, h3⟩ := h
 cases he
 have hl : (l.take i).length = i := by rw [List.length_take, Nat.min_eq_left hi]
 refine ⟨a, cap, by rw [hl], by omega, h2, fun j t ht => h3 j t ?_⟩
 have hj : j < (l.take i).length := (List.getElem?_eq_some_iff.1 ht).1
 rw [List.getElem?_take] at ht
 rw [hl] at hj
 simpa [hj] using ht
open Go.RowKit
set_option maxHeartbeats 1600000 in
theorem pointsOk_any (v : Value) (l : List Tri) (w : World) (hv : TrisAt w v l) (hs : ∀ t ∈ l, t.s.size ≤ maxLen) :
  Calls Tryz.prog 80 #[v] w fun e w' => e = .returned (.bool (pointsB l)) ∧ Below w.heap.size w w' := by
 have hnm := fun wx hvx => namesPoint_any v l 16 wx hvx hs (by omega)
 have HNM : Hid (∀ (wx : World), TrisAt wx v l → Calls Tryz.prog 131 #[v, .int .i64 (16 : Nat), .func (.func 132) #[] #[]] wx fun e w' => e = .returned (.bool (namesB l 16)) ∧ Below wx.heap.size wx w') := hnm
 clear hnm
 have HV : Hid (TrisAt w v l) := hv
 obtain ⟨a, cap, rfl, hlc, hcm, hc⟩ := hv
 unfold maxLen at hcm
 have HC : Hid (∀ i t, l[i]? = some t → ∃ b off, a = some ⟨b, off, none⟩ ∧ TriAt w b (off + i * 3) t) := hc
 clear hc
 cases hn : namesB l 16
 ·have e : pointsB l = false := by simp [pointsB, hn]
  have HN : Hid (namesB l 16 = false) := hn
  rw [e]; clear e hn
  go_enter Tryz.func80, Tryz.ntmps80
  go_wp2_with fail
  refine (HNM.out _ HV.out).mono ?_
  rw [HN.out]
  rintro e w1 ⟨rfl, hb1⟩
  go_wp2
  go_ret
  exact ⟨rfl, hb1⟩
 ·have e : pointsB l = allB l.length fun i => insideB (at' l i) && !takenB l i (at' l i) := by simp [pointsB, hn]
  have HN : Hid (namesB l 16 = true) := hn
  rw [e]; clear e hn
  go_enter Tryz.func80, Tryz.ntmps80
  go_wp2_with fail
  refine (HNM.out _ HV.out).mono ?_
  rw [HN.out]
  rintro e w1 ⟨rfl, hb1⟩
  go_wp2
  go_loopw [3, 4, 10] (fun _ _ i wr => ∃ k : Nat, k ≤ l.length ∧ i = .int .i64 k ∧ Below w.heap.size w wr ∧ Hid (∀ j, j < k → (insideB (at' l j) && !takenB l j (at' l j)) = true)) (fun _ _ i _ => l.length - (intOf i).toNat)
  case atStart => exact ⟨0, Nat.zero_le _, rfl, hb1, fun j hj => absurd hj (Nat.not_lt_zero _)⟩
  case round =>
   obtain ⟨k, hk, rfl, hb, HA⟩ := hrel
   by_cases hlt : k < l.length
   ·obtain ⟨b, off, rfl, hc⟩ := HC.out k _ (at_get hlt)
    obtain ⟨d0, d1, d2⟩ := hc.keep hb (Nat.le_refl _)
    have BAD : Hid ((insideB (at' l k) && !takenB l k (at' l k)) = false → allB l.length (fun i => insideB (at' l i) && !takenB l i (at' l i)) = false) := fun h => allB_false hlt h
    have hk0 : (0 : Int) ≤ (k : Int) := by omega
    have hk1 : (k : Int) < (l.length : Int) := by omega
    have hk2 : (k : Int) ≤ (cap : Int) := by omega
    have HT : Hid (takenB (l.take k) (l.take k).length (at' l k) = takenB l k (at' l k)) := taken_take l k hk _
    have HTK : Hid (∀ wx : World, Below w.heap.size w wx → TrisAt wx (.slice (some ⟨b, off, none⟩) k cap) (l.take k)) := fun wx hx => (HV.out.keep hx).take k hk
    cases hp : insideB (at' l k)
    ·have HP : Hid (insideB (at' l k) = false) := hp
     clear hp
     go_wp2
     first | go_region_with (go_at_call 133; refine (inside_any (at' l k) _).mono ?_; rw [HP.out]; rintro e w3 ⟨rfl, hb3⟩) | fail
     all_goals go_wp2
     all_goals go_ret
     all_goals exact ⟨ret_bool (BAD.out (by rw [HP.out]; rfl)).symm, below_step (hb.alloc hb.size _).drew hb3⟩
    ·have HP : Hid (insideB (at' l k) = true) := hp
     clear hp
     cases ht : takenB l k (at' l k)
     ·have HT2 : Hid (takenB l k (at' l k) = false) := ht
      clear ht
      go_wp2
      go_region_held3 (fun w' => w'.cell? ⟨wr.heap.size, 0, none⟩ = some (.string (at' l k).s) ∧ w'.cell? ⟨wr.heap.size, 1, none⟩ = some (.int .i64 (at' l k).x) ∧ w'.cell? ⟨wr.heap.size, 2, none⟩ = some (.int .i64 (at' l k).y) ∧ Below w.heap.size w w')
       (first | (refine ⟨by simp [*, go_sem], by simp [*, go_sem], by simp [*, go_sem], ?_⟩; exact (hb.alloc hb.size _).drew) | (obtain ⟨s0, s1, s2, s6⟩ := ‹_ ∧ _ ∧ _ ∧ Below w.heap.size w _›; exact ⟨cell_keep hb3 (Nat.le_refl _) s0, cell_keep hb3 (Nat.le_refl _) s1, cell_keep hb3 (Nat.le_refl _) s2, below_step s6 hb3⟩))
       (first | (go_at_call 133; refine (inside_any (at' l k) _).mono ?_; rw [HP.out]; rintro e w3 ⟨rfl, hb3⟩) | (go_at_call 134; refine (cellTaken_any _ (l.take k) (at' l k) _ (HTK.out _ (by exact (‹_ ∧ _ ∧ _ ∧ Below w.heap.size w _›).2.2.2))).mono ?_; rw [HT.out, HT2.out]; rintro e w3 ⟨rfl, hb3⟩))
      go_wp2
      obtain ⟨_, _, _, hS⟩ := ‹_ ∧ _ ∧ _ ∧ Below w.heap.size w w3›
      exact ⟨⟨k + 1, by omega, by go_num, hS, fun j hj => if e : j = k then by rw [e, HP.out, HT2.out]; rfl else HA.out j (by omega)⟩, by simp [intOf]; omega⟩
     ·have HT2 : Hid (takenB l k (at' l k) = true) := ht
      clear ht
      go_wp2
      go_region_held3 (fun w' => w'.cell? ⟨wr.heap.size, 0, none⟩ = some (.string (at' l k).s) ∧ w'.cell? ⟨wr.heap.size, 1, none⟩ = some (.int .i64 (at' l k).x) ∧ w'.cell? ⟨wr.heap.size, 2, none⟩ = some (.int .i64 (at' l k).y) ∧ Below w.heap.size w w')
       (first | (refine ⟨by simp [*, go_sem], by simp [*, go_sem], by simp [*, go_sem], ?_⟩; exact (hb.alloc hb.size _).drew) | (obtain ⟨s0, s1, s2, s6⟩ := ‹_ ∧ _ ∧ _ ∧ Below w.heap.size w _›; exact ⟨cell_keep hb3 (Nat.le_refl _) s0, cell_keep hb3 (Nat.le_refl _) s1, cell_keep hb3 (Nat.le_refl _) s2, below_step s6 hb3⟩))
       (first | (go_at_call 133; refine (inside_any (at' l k) _).mono ?_; rw [HP.out]; rintro e w3 ⟨rfl, hb3⟩) | (go_at_call 134; refine (cellTaken_any _ (l.take k) (at' l k) _ (HTK.out _ (by exact (‹_ ∧ _ ∧ _ ∧ Below w.heap.size w _›).2.2.2))).mono ?_; rw [HT.out, HT2.out]; rintro e w3 ⟨rfl, hb3⟩))
      go_wp2
      obtain ⟨_, _, _, hS⟩ := ‹_ ∧ _ ∧ _ ∧ Below w.heap.size w w3›
      go_ret
      exact ⟨ret_bool (BAD.out (by rw [HP.out, HT2.out]; rfl)).symm, hS⟩
   ·go_wp2
    go_ret
    exact ⟨ret_bool (allB_true fun j hj => HA.out j (by omega)).symm, hb⟩
open Go.RowKit
def Names (l : List Tri) : Prop := ∀ t ∈ l, t.s.size ≤ maxLen
theorem TrisAt.alloc {w : World} {v : Value} {l : List Tri} (h : TrisAt w v l) (o : Obj) : TrisAt (w.alloc o) v l := h.keep ((Below.refl _ _).alloc (Nat.le_refl _) _)
set_option maxHeartbeats 800000 in
theorem baseOk_any (vk vp : Value) (ks ps : List Tri) (w : World) (hk : TrisAt w vk ks) (hp : TrisAt w vp ps) (nk : Names ks) (np : Names ps) :
  Calls Tryz.prog 40 #[.agg #[vk, vp]] w fun e w' => e = .returned (.bool (kindsB ks && pointsB ps)) ∧ Below w.heap.size w w' := by
 have HK := hk; have HP := hp
 obtain ⟨ak, ck, rfl, -, -, -⟩ := hk
 obtain ⟨ap, cp, rfl, -, -, -⟩ := hp
 have HK1 : Hid (TrisAt w (.slice ak ks.length ck) ks) := HK
 have HP1 : Hid (TrisAt w (.slice ap ps.length cp) ps) := HP
 have NK : Hid (Names ks) := nk
 have NP : Hid (Names ps) := np
 clear HK HP nk np
 cases h1 : kindsB ks
 ·have H1 : Hid (kindsB ks = false) := h1
  rw [Bool.false_and]; clear h1
  go_enter Tryz.func40, Tryz.ntmps40
  go_wp2_with fail
  refine (kindsOk_any _ ks _ (HK1.out.alloc _) NK.out).mono ?_
  rw [H1.out]
  rintro e w1 ⟨rfl, hb1⟩
  go_wp2
  go_ret
  exact ⟨rfl, below_step ((Below.refl _ _).alloc (Nat.le_refl _) _) hb1⟩
 ·have H1 : Hid (kindsB ks = true) := h1
  rw [Bool.true_and]; clear h1
  go_enter Tryz.func40, Tryz.ntmps40
  go_wp2_with fail
  refine (kindsOk_any _ ks _ (HK1.out.alloc _) NK.out).mono ?_
  rw [H1.out]
  rintro e w1 ⟨rfl, hb1⟩
  have c1 : w1.cell? ⟨w.heap.size, 1, none⟩ = some (.slice ap ps.length cp) := cell_keep hb1 (Nat.le_refl _) (by simp)
  have hbw := below_step ((Below.refl _ _).alloc (Nat.le_refl _) _) hb1
  go_wp2_with fail
  refine (pointsOk_any _ ps _ (HP1.out.keep hbw) NP.out).mono ?_
  rintro e w2 ⟨rfl, hb2⟩
  go_wp2
  go_ret
  exact ⟨rfl, below_step hbw hb2⟩
theorem below_set {B : Nat} {a w : World} (h : Below B a w) (k o : Nat) (hk : B ≤ k) (v : Value) : Below B a (w.setCell ⟨k, o, none⟩ v) := h.setCell (p := ⟨k, o, none⟩) hk v
open Go.RowKit
structure Fld where
 what : Int
 num : Int
 v : ByteArray
structure Ent where
 name : ByteArray
 fs : List Fld
def FldAt (w : World) (b o : Nat) (f : Fld) : Prop := w.cell? ⟨b, o, none⟩ = some (.int .i64 f.what) ∧ w.cell? ⟨b, o + 1, none⟩ = some (.int .i64 f.num) ∧ w.cell? ⟨b, o + 2, none⟩ = some (.string f.v)
def FldsAt (w : World) (v : Value) (l : List Fld) : Prop :=
 ∃ a cap, v = .slice a l.length cap ∧ l.length ≤ cap ∧ cap ≤ maxLen ∧ ∀ i f, l[i]? = some f → ∃ b off, a = some ⟨b, off, none⟩ ∧ FldAt w b (off + i * 3) f
def EntAt (w : World) (b o : Nat) (e : Ent) : Prop := ∃ fv, w.cell? ⟨b, o, none⟩ = some (.string e.name) ∧ w.cell? ⟨b, o + 1, none⟩ = some fv ∧ FldsAt w fv e.fs
def EntsAt (w : World) (v : Value) (l : List Ent) : Prop :=
 ∃ a cap, v = .slice a l.length cap ∧ l.length ≤ cap ∧ cap ≤ maxLen ∧ ∀ i e, l[i]? = some e → ∃ b off, a = some ⟨b, off, none⟩ ∧ EntAt w b (off + i * 2) e
theorem FldAt.keep {w w' : World} {b o B : Nat} {f : Fld} (h : FldAt w b o f) (hb : Below B w w') (hB : w.heap.size ≤ B) : FldAt w' b o f :=
 ⟨cell_keep hb hB h.1, cell_keep hb hB h.2.1, cell_keep hb hB h.2.2⟩
theorem FldsAt.keep {w w' : World} {v : Value} {l : List Fld} (h : FldsAt w v l) (hb : Below w.heap.size w w') : FldsAt w' v l := by
 obtain ⟨a, cap, rfl, h1, h2, h3⟩ := h
 refine ⟨a, cap, rfl, h1, h2, fun i t ht => ?_⟩
 obtain ⟨b, off, ha, hc⟩ := h3 i t ht
 exact ⟨b, off, ha, hc.keep hb (Nat.le_refl _)⟩
theorem EntAt.keep {w w' : World} {b o : Nat} {e : Ent} (h : EntAt w b o e) (hb : Below w.heap.size w w') : EntAt w' b o e := by
 obtain ⟨fv, h0, h1, h2⟩ := h
 exact ⟨fv, cell_keep hb (Nat.le_refl _) h0, cell_keep hb (Nat.le_refl _) h1, h2.keep hb⟩
theorem EntsAt.keep {w w' : World} {v : Value} {l : List Ent} (h : EntsAt w v l) (hb : Below w.heap.size w w') : EntsAt w' v l := by
 obtain ⟨a, cap, rfl, h1, h2, h3⟩ := h
 refine ⟨a, cap, rfl, h1, h2, fun i t ht => ?_⟩
 obtain ⟨b, off, ha, hc⟩ := h3 i t ht
 exact ⟨b, off, ha, hc.keep hb⟩
def fat (l : List Fld) (i : Nat) : Fld := l.getD i ⟨0, 0, ⟨#[]⟩⟩
theorem fat_get {l : List Fld} {i : Nat} (h : i < l.length) : l[i]? = some (fat l i) := by simp [fat, h]
def eat (l : List Ent) (i : Nat) : Ent := l.getD i ⟨⟨#[]⟩, []⟩
theorem eat_get {l : List Ent} {i : Nat} (h : i < l.length) : l[i]? = some (eat l i) := by simp [eat, h]
def FNames (l : List Fld) : Prop := ∀ f ∈ l, f.v.size ≤ maxLen
def ENames (l : List Ent) : Prop := ∀ e ∈ l, e.name.size ≤ maxLen ∧ FNames e.fs
def sumN {α : Type} (g : α → Nat) : List α → Nat
 | [] => 0
 | t :: r => g t + sumN g r
theorem sumN_append {α : Type} (g : α → Nat) (l r : List α) : sumN g (l ++ r) = sumN g l + sumN g r := by
 induction l with
 | nil => simp [sumN]
 | cons a l ih => simp [sumN, ih]; omega
theorem sumN_take_succ {α : Type} (g : α → Nat) (l : List α) (k : Nat) (x : α) (h : l[k]? = some x) : sumN g (l.take (k + 1)) = sumN g (l.take k) + g x := by
 obtain ⟨hk, rfl⟩ := List.getElem?_eq_some_iff.1 h
 rw [List.take_succ_eq_append_getElem hk, sumN_append]; simp [sumN]
theorem sumN_take_le {α : Type} (g : α → Nat) (l : List α) (k : Nat) : sumN g (l.take k) ≤ sumN g l := by
 conv => rhs; rw [← List.take_append_drop k l, sumN_append]
 omega
theorem sumN_mem {α : Type} (g : α → Nat) (l : List α) (x : α) (h : x ∈ l) : g x ≤ sumN g l := by
 induction l with
 | nil => cases h
 | cons a l ih =>
  rcases List.mem_cons.1 h with rfl | h
  ·simp [sumN]
  ·have := ih h; simp [sumN]; omega
def szFlds (l : List Fld) : Nat := l.length + sumN (fun f => f.v.size) l
def szEnt (e : Ent) : Nat := e.name.size + szFlds e.fs
def szEnts (l : List Ent) : Nat := l.length + sumN szEnt l
open Go.RowKit
set_option maxHeartbeats 400000 in
theorem eqField_any (f : Fld) (w : World) :
  Calls Tryz.prog 176 #[.agg #[.int .i64 f.what, .int .i64 f.num, .string f.v], .agg #[.int .i64 f.what, .int .i64 f.num, .string f.v]] w fun e w' => e = .returned (.bool true) ∧ Below w.heap.size w w' := by
 go_enter Tryz.func176, Tryz.ntmps176
 go_wp2
 all_goals go_ret
 all_goals exact ⟨rfl, ((Below.refl _ _).alloc (Nat.le_refl _) _).alloc (by simp) _⟩
set_option maxHeartbeats 800000 in
theorem eqFields_any (v v' : Value) (l : List Fld) (w : World) (hv : FldsAt w v l) (hv' : FldsAt w v' l) :
  Calls Tryz.prog 150 #[v, v'] w fun e w' => e = .returned (.bool true) ∧ Below w.heap.size w w' := by
 obtain ⟨a, cap, rfl, hlc, hcm, hc⟩ := hv
 obtain ⟨a', cap', rfl, hlc', hcm', hc'⟩ := hv'
 unfold maxLen at hcm hcm'
 have HC : Hid (∀ i f, l[i]? = some f → ∃ b off, a = some ⟨b, off, none⟩ ∧ FldAt w b (off + i * 3) f) := hc
 have HC' : Hid (∀ i f, l[i]? = some f → ∃ b off, a' = some ⟨b, off, none⟩ ∧ FldAt w b (off + i * 3) f) := hc'
 clear hc hc'
 go_enter Tryz.func150, Tryz.ntmps150
 go_wp2
 go_loopw [5] (fun i w' => ∃ k : Nat, k ≤ l.length ∧ i = .int .i64 k ∧ Below w.heap.size w w') (fun i _ => l.length - (intOf i).toNat)
 case atStart => exact ⟨0, Nat.zero_le _, rfl, Below.refl _ _⟩
 case round =>
  obtain ⟨k, hk, rfl, hb⟩ := hrel
  by_cases hlt : k < l.length
  ·obtain ⟨b, off, rfl, hc⟩ := HC.out k _ (fat_get hlt)
   obtain ⟨b', off', rfl, hc'⟩ := HC'.out k _ (fat_get hlt)
   obtain ⟨d0, d1, d2⟩ := hc.keep hb (Nat.le_refl _)
   obtain ⟨d0', d1', d2'⟩ := hc'.keep hb (Nat.le_refl _)
   clear hc hc' HC HC'
   generalize fat l k = t at *
   have hk0 : (0 : Int) ≤ (k : Int) := by omega
   have hk1 : (k : Int) < (l.length : Int) := by omega
   go_wp2
   go_region_held3 (fun w' => w'.cell? ⟨b, off + k * 3, none⟩ = some (.int .i64 t.what) ∧ w'.cell? ⟨b, off + k * 3 + 1, none⟩ = some (.int .i64 t.num) ∧ w'.cell? ⟨b, off + k * 3 + 2, none⟩ = some (.string t.v) ∧
     w'.cell? ⟨b', off' + k * 3, none⟩ = some (.int .i64 t.what) ∧ w'.cell? ⟨b', off' + k * 3 + 1, none⟩ = some (.int .i64 t.num) ∧ w'.cell? ⟨b', off' + k * 3 + 2, none⟩ = some (.string t.v))
    (first | (simp [*, go_sem]; done) | (refine ⟨cell_keep hb1 (by simp) ?_, cell_keep hb1 (by simp) ?_, cell_keep hb1 (by simp) ?_, cell_keep hb1 (by simp) ?_, cell_keep hb1 (by simp) ?_, cell_keep hb1 (by simp) ?_⟩ <;> simp [*, go_sem]))
    (first | (go_at_call 176; refine (eqField_any t _).mono ?_; rintro e w1 ⟨rfl, hb1⟩))
   go_wp2
   exact ⟨⟨k + 1, by omega, by go_num, below_step hb.drew hb1⟩, by simp [intOf]; omega⟩
  ·go_wp2
   go_ret
   exact ⟨rfl, hb⟩
open Go.RowKit
def fldRow (f : Fld) : List Value := [.int .i64 f.what, .int .i64 f.num, .string f.v]
theorem FilledL.flds {w wr : World} {B n : Nat} {l : List Fld} (h : FilledL w wr B n 3 (l.map fldRow)) (hn : l.length = n) (hm : n ≤ maxLen) : FldsAt wr (.slice (some ⟨B, 0, none⟩) n n) l :=
 ⟨some ⟨B, 0, none⟩, n, by rw [hn], by omega, hm, fun i f hf => ⟨B, 0, rfl, by
  have hr : (l.map fldRow)[i]? = some (fldRow f) := by rw [List.getElem?_map, hf]; rfl
  refine ⟨?_, ?_, ?_⟩
  ·simpa using h.cell hr (j := 0) (v := .int .i64 f.what) rfl
  ·simpa using h.cell hr (j := 1) (v := .int .i64 f.num) rfl
  ·simpa using h.cell hr (j := 2) (v := .string f.v) rfl⟩⟩
set_option maxHeartbeats 800000 in
theorem eqEntry_any (e : Ent) (fv fv' : Value) (w : World) (hv : FldsAt w fv e.fs) (hv' : FldsAt w fv' e.fs) :
  Calls Tryz.prog 101 #[.agg #[.string e.name, fv], .agg #[.string e.name, fv']] w fun x w' => x = .returned (.bool true) ∧ Below w.heap.size w w' := by
 have HV : Hid (FldsAt w fv e.fs ∧ FldsAt w fv' e.fs) := ⟨hv, hv'⟩
 obtain ⟨a, cap, rfl, -, -, -⟩ := hv
 obtain ⟨a', cap', rfl, -, -, -⟩ := hv'
 have HB : Hid (∀ o o' : Obj, Below w.heap.size w ((w.alloc o).alloc o')) := fun o o' => ((Below.refl _ _).alloc (Nat.le_refl _) _).alloc (by simp) _
 go_enter Tryz.func101, Tryz.ntmps101
 go_wp2_with fail
 refine (eqFields_any _ _ e.fs _ (HV.out.1.keep (HB.out _ _)) (HV.out.2.keep (HB.out _ _))).mono ?_
 rintro x w1 ⟨rfl, hb1⟩
 go_wp2
 go_ret
 exact ⟨rfl, below_step (HB.out _ _) hb1⟩
open Go.RowKit
structure OwnAt (w wr : World) (bs : List (List Value)) : Prop where
 below : Below w.heap.size w wr
 big : w.heap.size + bs.length ≤ wr.heap.size
 has : ∀ i b, bs[i]? = some b → ∀ j v, b[j]? = some v → wr.cell? ⟨w.heap.size + i, j, none⟩ = some v ∧ wr.frozen? ⟨w.heap.size + i, j, none⟩ = false
theorem OwnAt.call {w wr w' : World} {bs : List (List Value)} (h : OwnAt w wr bs) (hb : Below wr.heap.size wr w') : OwnAt w w' bs :=
 ⟨below_step h.below hb, Nat.le_trans h.big hb.size, fun i b hi j v hj => by
  have hlt : w.heap.size + i < wr.heap.size := by
   have := (List.getElem?_eq_some_iff.1 hi).1
   have := h.big; omega
  rw [hb.cell (p := ⟨w.heap.size + i, j, none⟩) hlt, hb.frozen (p := ⟨w.heap.size + i, j, none⟩) hlt]
  exact h.has i b hi j v hj⟩
theorem OwnAt.start (w : World) : OwnAt w w [] := ⟨Below.refl _ _, Nat.le_refl _, fun i b hi => by simp at hi⟩
theorem OwnAt.push {w wr : World} {bs : List (List Value)} (h : OwnAt w wr bs) (he : wr.heap.size = w.heap.size + bs.length) (C : Array Value) (T : TypeId) : OwnAt w (wr.alloc (.cells C T)) (bs ++ [C.toList]) := by
 refine ⟨h.below.alloc (by omega) _, by simp; omega, fun i b hi j v hj => ?_⟩
 by_cases e : i < bs.length
 ·rw [List.getElem?_append_left e] at hi
  have hh := h.has i b hi j v hj
  have hb : Below wr.heap.size wr (wr.alloc (.cells C T)) := (Below.refl _ _).alloc (Nat.le_refl _) _
  rw [hb.cell (p := ⟨w.heap.size + i, j, none⟩) (show w.heap.size + i < _ by omega), hb.frozen (p := ⟨w.heap.size + i, j, none⟩) (show w.heap.size + i < _ by omega)]
  exact hh
 ·rw [List.getElem?_append_right (by omega)] at hi
  have hi0 : i - bs.length = 0 := by
   have := (List.getElem?_eq_some_iff.1 hi).1
   simp at this; omega
  rw [hi0] at hi
  simp at hi; subst hi
  have e1 : w.heap.size + i = wr.heap.size := by omega
  rw [e1, World.cell?_alloc_at (w := wr) C T wr.heap.size j rfl, World.frozen?_alloc_at (w := wr) C T wr.heap.size j rfl]
  have hj' : j < C.size := by
   have := (List.getElem?_eq_some_iff.1 hj).1
   simpa using this
  refine ⟨by simpa using hj, ?_⟩
  simp
theorem OwnAt.set {w wr : World} {bs : List (List Value)} (h : OwnAt w wr bs) {i j : Nat} {b : List Value} (hi : bs[i]? = some b) (hj : j < b.length) (x : Value) : OwnAt w (wr.setCell ⟨w.heap.size + i, j, none⟩ x) (bs.set i (b.set j x)) := by
 have hil : i < bs.length := (List.getElem?_eq_some_iff.1 hi).1
 refine ⟨h.below.setCell (p := ⟨w.heap.size + i, j, none⟩) (by simp) _, by simp; have := h.big; omega, fun i' b' hi' j' v hj' => ?_⟩
 by_cases e : i' = i
 ·subst e
  rw [List.getElem?_set_self hil] at hi'
  cases hi'
  by_cases ej : j' = j
  ·subst ej
   rw [List.getElem?_set_self hj] at hj'
   cases hj'
   have hh := h.has i' b hi j' (b[j']) (by simp [hj])
   exact ⟨by simp [go_sem, hh.1], by simp [go_sem, hh.2]⟩
  ·rw [List.getElem?_set_ne (Ne.symm ej)] at hj'
   have hh := h.has i' b hi j' v hj'
   refine ⟨?_, by simpa [go_sem] using hh.2⟩
   exact (World.cell?_setCell_other wr ⟨w.heap.size + i', j, none⟩ ⟨w.heap.size + i', j', none⟩ x (by simp <;> omega)).trans hh.1
 ·rw [List.getElem?_set_ne (Ne.symm e)] at hi'
  have hh := h.has i' b' hi' j' v hj'
  refine ⟨?_, by simpa [go_sem] using hh.2⟩
  rw [World.cell?_of_block (w := wr) (Below.heap_setCell wr _ x _ (by simp; omega))]
  exact hh.1
structure HeldL (wr : World) (B n c : Nat) (rows : List (List Value)) : Prop where
 big : B < wr.heap.size
 room : wr.there B 0 (n * c)
 wide : ∀ r ∈ rows, r.length = c
 has : ∀ i r, rows[i]? = some r → wr.rangeAt B (i * c) r
theorem FilledL.held {w wr : World} {B n c : Nat} {rows : List (List Value)} (h : FilledL w wr B n c rows) : HeldL wr B n c rows := ⟨h.big, h.room, h.wide, h.has⟩
theorem HeldL.keep {wr w1 : World} {B n c : Nat} {rows : List (List Value)} (h : HeldL wr B n c rows) (hb : Below wr.heap.size wr w1) : HeldL w1 B n c rows :=
 ⟨Nat.lt_of_lt_of_le h.big hb.size, there_keep h.room hb h.big, h.wide, fun i r hr => range_keep (h.has i r hr) hb h.big⟩
theorem HeldL.other {wr : World} {B n c : Nat} {rows : List (List Value)} (h : HeldL wr B n c rows) {k o : Nat} (hk : k ≠ B) (x : Value) : HeldL (wr.setCell ⟨k, o, none⟩ x) B n c rows := by
 have hc : ∀ o', (wr.setCell ⟨k, o, none⟩ x).cell? ⟨B, o', none⟩ = wr.cell? ⟨B, o', none⟩ := fun o' => World.cell?_of_block (w := wr) (Below.heap_setCell wr ⟨k, o, none⟩ x B (Ne.symm hk))
 refine ⟨by simpa using h.big, fun j hj => ?_, h.wide, fun i r hr j v hv => ?_⟩
 ·have := h.room j hj
  rw [hc, World.frozen?_setCell]; exact this
 ·rw [hc]; exact h.has i r hr j v hv
theorem HeldL.cell {wr : World} {B n c : Nat} {rows : List (List Value)} (h : HeldL wr B n c rows) {i j : Nat} {r : List Value} {v : Value} (hr : rows[i]? = some r) (hv : r[j]? = some v) : wr.cell? ⟨B, i * c + j, none⟩ = some v := h.has i r hr j v hv
theorem Filled.held {w wr : World} {B n : Nat} {l : List Tri} (h : Filled w wr B n l l.length) : HeldL wr B n 3 (l.map triRow) :=
 ⟨h.big, h.room, fun r hr => by obtain ⟨t, _, rfl⟩ := List.mem_map.1 hr; rfl, fun i r hr => by
  rw [List.getElem?_map] at hr
  cases ht : l[i]? with
  | none => rw [ht] at hr; cases hr
  | some t =>
   rw [ht] at hr; cases hr
   exact h.has i t (List.getElem?_eq_some_iff.1 ht).1 ht⟩
def TrisOwn (lo : Nat) (w : World) (v : Value) (l : List Tri) : Prop := ∃ b, lo ≤ b ∧ v = .slice (some ⟨b, 0, none⟩) l.length l.length ∧ HeldL w b l.length 3 (l.map triRow)
theorem HeldL.tris {w : World} {b n : Nat} {l : List Tri} (h : HeldL w b n 3 (l.map triRow)) (hn : n = l.length) (cap : Nat) (hc : n ≤ cap) (hm : cap ≤ maxLen) : TrisAt w (.slice (some ⟨b, 0, none⟩) n cap) l :=
 ⟨_, cap, by rw [hn], by omega, hm, fun i t ht => ⟨b, 0, rfl, by
  have hr : (l.map triRow)[i]? = some (triRow t) := by rw [List.getElem?_map, ht]; rfl
  refine ⟨?_, ?_, ?_⟩
  ·simpa using h.cell hr (j := 0) (v := .string t.s) rfl
  ·simpa using h.cell hr (j := 1) (v := .int .i64 t.x) rfl
  ·simpa using h.cell hr (j := 2) (v := .int .i64 t.y) rfl⟩⟩
theorem TrisOwn.at {lo : Nat} {w : World} {v : Value} {l : List Tri} (h : TrisOwn lo w v l) (hm : l.length ≤ 1048576) : TrisAt w v l := by
 obtain ⟨b, _, rfl, hh⟩ := h
 exact hh.tris rfl _ (Nat.le_refl _) (by unfold maxLen; omega)
theorem TrisOwn.keep {lo : Nat} {w w' : World} {v : Value} {l : List Tri} (h : TrisOwn lo w v l) (hb : Below w.heap.size w w') : TrisOwn lo w' v l := by
 obtain ⟨b, hl, hv, hh⟩ := h
 exact ⟨b, hl, hv, hh.keep hb⟩
theorem TrisOwn.mono {lo lo' : Nat} {w : World} {v : Value} {l : List Tri} (h : TrisOwn lo w v l) (hl : lo' ≤ lo) : TrisOwn lo' w v l := by
 obtain ⟨b, hb, hv, hh⟩ := h
 exact ⟨b, by omega, hv, hh⟩
theorem TrisOwn.other {lo : Nat} {w : World} {v : Value} {l : List Tri} (h : TrisOwn lo w v l) {k o : Nat} (hk : k < lo) (x : Value) : TrisOwn lo (w.setCell ⟨k, o, none⟩ x) v l := by
 obtain ⟨b, hl, hv, hh⟩ := h
 exact ⟨b, hl, hv, hh.other (by omega) x⟩
open Go.RowKit
attribute [local go_sem] Later.cell Later.frozen
end Go.Proofs.YtcmgddnckohdaaaGreatDoor
namespace Go.Proofs.YtcmgddnckohdaaaGreatDoor
open Go.RowKit
def oneM (n : Int) : ByteArray := ⟨#[UInt8.ofNat n.toNat]⟩
theorem oneM_size (n : Int) : (oneM n).size = 1 := rfl
theorem convM (w : World) (b : Nat) (n : Int) (h : w.cell? ⟨b, 0, none⟩ = some (.int .u8 n)) :
  (convert 22 9 (.slice (some ⟨b, 0, none⟩) 1 1)).run Tryz.prog w = .ok (.string (oneM n)) w := by
 have := run_convert_bytes_arg (P := Tryz.prog) w 22 5 Tryz.underlying22 Tryz.underlying5 b 0 1 1 [n] rfl (fun i hi => by
  obtain rfl : i = 0 := by omega
  simpa using h) 9 Tryz.underlying9
 simpa [strOfNums, oneM] using this
def mkD (k : Nat) (out : ByteArray) : ByteArray := if _h : k = 0 then out else mkD (k / 10) (oneM (48 + (k : Int) % 10) ++ out)
termination_by k
decreasing_by omega
theorem mkD_zero (out : ByteArray) : mkD 0 out = out := by rw [mkD]; simp
theorem mkD_step {k : Nat} (h : ¬ k = 0) (out : ByteArray) : mkD k out = mkD (k / 10) (oneM (48 + (k : Int) % 10) ++ out) := by rw [mkD, dif_neg h]
def mkT (k : Nat) : ByteArray := if k = 0 then ⟨#[109, 48]⟩ else ⟨#[109]⟩ ++ mkD k ⟨#[]⟩
set_option maxHeartbeats 1600000 in
theorem markText_any (k0 : Nat) (hk : k0 < 10000000000) (w : World) :
  Calls Tryz.prog 104 #[.int .i64 k0] w fun e w' => e = .returned (.string (mkT k0)) ∧ Below w.heap.size w w' := by
 have kc := convM
 by_cases hz : k0 = 0
 ·subst hz
  go_enter Tryz.func104, Tryz.ntmps104
  go_wp2
  go_ret
  exact ⟨rfl, Below.refl _ _⟩
 have e : mkT k0 = ⟨#[109]⟩ ++ mkD k0 ⟨#[]⟩ := by unfold mkT; rw [if_neg hz]
 have hz' : ¬ (k0 : Int) ≤ 0 := by omega
 rw [e]; clear e hz
 have HD : Hid (∀ o : ByteArray, o = mkD k0 ⟨#[]⟩ → Ending.returned (.string (⟨#[109]⟩ ++ o)) = .returned (.string (⟨#[109]⟩ ++ mkD k0 ⟨#[]⟩))) := fun o h => by rw [h]
 go_enter Tryz.func104, Tryz.ntmps104
 go_wp2
 go_loopw [0, 3] (fun kk out wr => ∃ (k j : Nat) (o : ByteArray), kk = .int .i64 k ∧ out = .string o ∧ k < 10 ^ j ∧ j ≤ 10 ∧ o.size + j ≤ 10 ∧ Hid (mkD k o = mkD k0 ⟨#[]⟩) ∧ Below w.heap.size w wr) (fun kk _ _ => (intOf kk).toNat)
 case atStart => exact ⟨k0, 10, ⟨#[]⟩, rfl, rfl, by omega, by omega, by decide, rfl, Below.refl _ _⟩
 case round =>
  obtain ⟨k, j, o, rfl, rfl, hj, hj10, ho, HM, hb⟩ := hrel
  by_cases hk0 : k = 0
  ·subst hk0
   have HF : Hid (o = mkD k0 ⟨#[]⟩) := by
    have := HM.out; rw [mkD_zero] at this; exact this
   have hsz : ¬ 9223372036854775807 < (⟨#[109]⟩ : ByteArray).size + o.size := by
    have : (⟨#[109]⟩ : ByteArray).size = 1 := rfl
    omega
   go_wp2
   go_ret
   exact ⟨HD.out _ HF.out, hb⟩
  ·have hj0 : 0 < j := by
    rcases Nat.eq_zero_or_pos j with rfl | h
    ·simp at hj; omega
    ·exact h
   have hpos : (0 : Int) < (k : Int) := by omega
   have hkb : k < 10000000000 := Nat.lt_of_lt_of_le hj (by have := Nat.pow_le_pow_right (show 0 < 10 by omega) hj10; omega)
   have HS : Hid (mkD (k / 10) (oneM (48 + (k : Int) % 10) ++ o) = mkD k0 ⟨#[]⟩) := by show _ = _; rw [← mkD_step hk0]; exact HM.out
   have hsz : ¬ 9223372036854775807 < (oneM (48 + (k : Int) % 10)).size + o.size := by rw [oneM_size]; omega
   have hw1 : IntKind.i64.wrap ((k : Int) / 10) = (k : Int) / 10 := by rw [IntKind.wrap_i64]; omega
   have hw3 : IntKind.i64.wrap (48 + (k : Int).tmod 10) = 48 + (k : Int) % 10 := by rw [Int.tmod_eq_emod_of_nonneg (by omega), IntKind.wrap_i64]; omega
   have hw4 : IntKind.u8.wrap (48 + (k : Int) % 10) = 48 + (k : Int) % 10 := by rw [IntKind.wrap_u8]; omega
   have HJ : Hid (k / 10 < 10 ^ (j - 1)) := by
    show _ < _
    obtain ⟨m, rfl⟩ : ∃ m, j = m + 1 := ⟨j - 1, by omega⟩
    rw [Nat.pow_succ] at hj
    simp only [Nat.add_sub_cancel]; omega
   clear hj hk0
   go_wp2
   exact ⟨⟨k / 10, j - 1, _, by simp, rfl, HJ.out, by omega, by rw [ByteArray.size_append, oneM_size]; omega, HS.out, hb.alloc hb.size _⟩, by simp [intOf]; omega⟩
end Go.Proofs.YtcmgddnckohdaaaGreatDoor
