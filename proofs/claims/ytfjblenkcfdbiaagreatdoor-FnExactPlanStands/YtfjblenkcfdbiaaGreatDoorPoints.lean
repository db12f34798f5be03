
/-
  impl: the points of a base; a base.
-/
import Derived.Test.YtfjblenkcfdbiaaGreatDoorLists
namespace Go.Proofs.YtfjblenkcfdbiaaGreatDoor
open Go.RowKit

set_option maxHeartbeats 1600000 in
theorem pointsOk_any (v : Value) (l : List Tri) (w : World) (hv : TrisAt w v l) (hs : ∀ t ∈ l, t.s.size ≤ maxLen) :
    Calls Tryz.prog 89 #[v] w fun e w' => e = .returned (.bool (pointsB l)) ∧ Below w.heap.size w w' := by
  have hnm := fun wx hvx => namesPoint_any v l 16 wx hvx hs (by omega)
  have HNM : Hid (∀ (wx : World), TrisAt wx v l → Calls Tryz.prog 107 #[v, .int .i64 (16 : Nat), .func (.func 108) #[] #[]] wx fun e w' => e = .returned (.bool (namesB l 16)) ∧ Below wx.heap.size wx w') := hnm
  clear hnm
  have HV : Hid (TrisAt w v l) := hv
  obtain ⟨a, cap, rfl, hlc, hcm, hc⟩ := hv
  unfold maxLen at hcm
  have HC : Hid (∀ i t, l[i]? = some t → ∃ b off, a = some ⟨b, off, none⟩ ∧ TriAt w b (off + i * 3) t) := hc
  clear hc
  cases hn : namesB l 16
  · have e : pointsB l = false := by simp [pointsB, hn]
    have HN : Hid (namesB l 16 = false) := hn
    rw [e]; clear e hn
    go_enter Tryz.func89, Tryz.ntmps89
    go_wp2_with fail
    refine (HNM.out _ HV.out).mono ?_
    rw [HN.out]
    rintro e w1 ⟨rfl, hb1⟩
    go_wp2
    go_ret
    exact ⟨rfl, hb1⟩
  · have e : pointsB l = allB l.length fun i => insideB (at' l i) && !takenB l i (at' l i) := by simp [pointsB, hn]
    have HN : Hid (namesB l 16 = true) := hn
    rw [e]; clear e hn
    go_enter Tryz.func89, Tryz.ntmps89
    go_wp2_with fail
    refine (HNM.out _ HV.out).mono ?_
    rw [HN.out]
    rintro e w1 ⟨rfl, hb1⟩
    go_wp2
    go_loopw [3, 4, 10] (fun _ _ i wr => ∃ k : Nat, k ≤ l.length ∧ i = .int .i64 k ∧ Below w.heap.size w wr ∧ Hid (∀ j, j < k → (insideB (at' l j) && !takenB l j (at' l j)) = true)) (fun _ _ i _ => l.length - (intOf i).toNat)
    case atStart => exact ⟨0, Nat.zero_le _, rfl, hb1, fun j hj => absurd hj (Nat.not_lt_zero _)⟩
    case round =>
      obtain ⟨k, hk, rfl, hb, HA⟩ := hrel
      by_cases hlt : k < l.length
      · obtain ⟨b, off, rfl, hc⟩ := HC.out k _ (at_get hlt)
        obtain ⟨d0, d1, d2⟩ := hc.keep hb (Nat.le_refl _)
        have BAD : Hid ((insideB (at' l k) && !takenB l k (at' l k)) = false → allB l.length (fun i => insideB (at' l i) && !takenB l i (at' l i)) = false) := fun h => allB_false hlt h
        have hk0 : (0 : Int) ≤ (k : Int) := by omega
        have hk1 : (k : Int) < (l.length : Int) := by omega
        have hk2 : (k : Int) ≤ (cap : Int) := by omega
        have HT : Hid (takenB (l.take k) (l.take k).length (at' l k) = takenB l k (at' l k)) := taken_take l k hk _
        have HTK : Hid (∀ wx : World, Below w.heap.size w wx → TrisAt wx (.slice (some ⟨b, off, none⟩) k cap) (l.take k)) := fun wx hx => (HV.out.keep hx).take k hk
        cases hp : insideB (at' l k)
        · have HP : Hid (insideB (at' l k) = false) := hp
          clear hp
          go_wp2
          first | go_region_with (go_at_call 109; refine (inside_any (at' l k) _).mono ?_; rw [HP.out]; rintro e w3 ⟨rfl, hb3⟩) | fail
          all_goals go_wp2
          all_goals go_ret
          all_goals exact ⟨ret_bool (BAD.out (by rw [HP.out]; rfl)).symm, below_step (hb.alloc hb.size _).drew hb3⟩
        · have HP : Hid (insideB (at' l k) = true) := hp
          clear hp
          cases ht : takenB l k (at' l k)
          · have HT2 : Hid (takenB l k (at' l k) = false) := ht
            clear ht
            go_wp2
            go_region_held3 (fun w' => w'.cell? ⟨wr.heap.size, 0, none⟩ = some (.string (at' l k).s) ∧ w'.cell? ⟨wr.heap.size, 1, none⟩ = some (.int .i64 (at' l k).x) ∧ w'.cell? ⟨wr.heap.size, 2, none⟩ = some (.int .i64 (at' l k).y) ∧ Below w.heap.size w w')
              (first | (refine ⟨by simp [*, go_sem], by simp [*, go_sem], by simp [*, go_sem], ?_⟩; exact (hb.alloc hb.size _).drew) | (obtain ⟨s0, s1, s2, s6⟩ := ‹_ ∧ _ ∧ _ ∧ Below w.heap.size w _›; exact ⟨cell_keep hb3 (Nat.le_refl _) s0, cell_keep hb3 (Nat.le_refl _) s1, cell_keep hb3 (Nat.le_refl _) s2, below_step s6 hb3⟩))
              (first | (go_at_call 109; refine (inside_any (at' l k) _).mono ?_; rw [HP.out]; rintro e w3 ⟨rfl, hb3⟩) | (go_at_call 110; refine (cellTaken_any _ (l.take k) (at' l k) _ (HTK.out _ (by exact (‹_ ∧ _ ∧ _ ∧ Below w.heap.size w _›).2.2.2))).mono ?_; rw [HT.out, HT2.out]; rintro e w3 ⟨rfl, hb3⟩))
            go_wp2
            obtain ⟨_, _, _, hS⟩ := ‹_ ∧ _ ∧ _ ∧ Below w.heap.size w w3›
            exact ⟨⟨k + 1, by omega, by go_num, hS, fun j hj => if e : j = k then by rw [e, HP.out, HT2.out]; rfl else HA.out j (by omega)⟩, by simp [intOf]; omega⟩
          · have HT2 : Hid (takenB l k (at' l k) = true) := ht
            clear ht
            go_wp2
            go_region_held3 (fun w' => w'.cell? ⟨wr.heap.size, 0, none⟩ = some (.string (at' l k).s) ∧ w'.cell? ⟨wr.heap.size, 1, none⟩ = some (.int .i64 (at' l k).x) ∧ w'.cell? ⟨wr.heap.size, 2, none⟩ = some (.int .i64 (at' l k).y) ∧ Below w.heap.size w w')
              (first | (refine ⟨by simp [*, go_sem], by simp [*, go_sem], by simp [*, go_sem], ?_⟩; exact (hb.alloc hb.size _).drew) | (obtain ⟨s0, s1, s2, s6⟩ := ‹_ ∧ _ ∧ _ ∧ Below w.heap.size w _›; exact ⟨cell_keep hb3 (Nat.le_refl _) s0, cell_keep hb3 (Nat.le_refl _) s1, cell_keep hb3 (Nat.le_refl _) s2, below_step s6 hb3⟩))
              (first | (go_at_call 109; refine (inside_any (at' l k) _).mono ?_; rw [HP.out]; rintro e w3 ⟨rfl, hb3⟩) | (go_at_call 110; refine (cellTaken_any _ (l.take k) (at' l k) _ (HTK.out _ (by exact (‹_ ∧ _ ∧ _ ∧ Below w.heap.size w _›).2.2.2))).mono ?_; rw [HT.out, HT2.out]; rintro e w3 ⟨rfl, hb3⟩))
            go_wp2
            obtain ⟨_, _, _, hS⟩ := ‹_ ∧ _ ∧ _ ∧ Below w.heap.size w w3›
            go_ret
            exact ⟨ret_bool (BAD.out (by rw [HP.out, HT2.out]; rfl)).symm, hS⟩
      · go_wp2
        go_ret
        exact ⟨ret_bool (allB_true fun j hj => HA.out j (by omega)).symm, hb⟩
end Go.Proofs.YtfjblenkcfdbiaaGreatDoor
