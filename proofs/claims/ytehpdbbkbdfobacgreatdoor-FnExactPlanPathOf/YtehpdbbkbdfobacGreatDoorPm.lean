
/-
  Steps and paths: held against each other, marked, and their marks held.
-/
import Derived.Test.YtehpdbbkbdfobacGreatDoorPa0
import Derived.Test.YtehpdbbkbdfobacGreatDoorMark3
namespace Go.Proofs.YtehpdbbkbdfobacGreatDoor.Pa
open Go.RowKit Go.Proofs.YtehpdbbkbdfobacGreatDoor Go.Proofs.YtehpdbbkbdfobacGreatDoor.Sd
attribute [local go_sem] Later.cell Later.frozen
set_option linter.unusedSimpArgs false
set_option linter.unusedVariables false

set_option maxHeartbeats 1600000 in
theorem eqStep_any (c : Stp) (w : World) :
    Calls Tryz.prog 79 #[.agg #[.int .i64 c.x, .int .i64 c.y, .int .i64 c.lo, .int .i64 c.hi, .int .i64 c.fr, .int .i64 c.b], .agg #[.int .i64 c.x, .int .i64 c.y, .int .i64 c.lo, .int .i64 c.hi, .int .i64 c.fr, .int .i64 c.b]] w fun e w' => e = .returned (.bool true) ∧ Below w.heap.size w w' := by
  have HB : Hid (Below w.heap.size w ((w.alloc (.cells #[.int .i64 c.x, .int .i64 c.y, .int .i64 c.lo, .int .i64 c.hi, .int .i64 c.fr, .int .i64 c.b] 71)).alloc (.cells #[.int .i64 c.x, .int .i64 c.y, .int .i64 c.lo, .int .i64 c.hi, .int .i64 c.fr, .int .i64 c.b] 71))) := ((Below.refl _ _).alloc (Nat.le_refl _) _).alloc (by simp) _
  have h_x : (c.x != c.x) = false := by simp
  have h_y : (c.y != c.y) = false := by simp
  have h_lo : (c.lo != c.lo) = false := by simp
  have h_hi : (c.hi != c.hi) = false := by simp
  have h_fr : (c.fr != c.fr) = false := by simp
  have h_b : (c.b != c.b) = false := by simp
  go_enter Tryz.func79, Tryz.ntmps79
  go_wp2
  go_ret
  exact ⟨rfl, HB.out⟩
set_option maxHeartbeats 1600000 in
theorem eqSteps_any (v v' : Value) (l : List Stp) (w : World) (hv : StAt w v l) (hv' : StAt w v' l) :
    Calls Tryz.prog 33 #[v, v'] w fun e w' => e = .returned (.bool true) ∧ Below w.heap.size w w' := by
  obtain ⟨a, cap, rfl, hlc, hcm, hc⟩ := hv
  obtain ⟨a', cap', rfl, hlc', hcm', hc'⟩ := hv'
  unfold maxLen at hcm hcm'
  have HC : Hid (∀ i c, l[i]? = some c → ∃ g, a = some ⟨g, 0, none⟩ ∧ (w.cell? ⟨g, i * 6, none⟩ = some (.int .i64 c.x) ∧ w.cell? ⟨g, i * 6 + 1, none⟩ = some (.int .i64 c.y) ∧ w.cell? ⟨g, i * 6 + 2, none⟩ = some (.int .i64 c.lo)) ∧ w.cell? ⟨g, i * 6 + 3, none⟩ = some (.int .i64 c.hi) ∧ w.cell? ⟨g, i * 6 + 4, none⟩ = some (.int .i64 c.fr) ∧ w.cell? ⟨g, i * 6 + 5, none⟩ = some (.int .i64 c.b)) := hc
  have HC' : Hid (∀ i c, l[i]? = some c → ∃ g, a' = some ⟨g, 0, none⟩ ∧ (w.cell? ⟨g, i * 6, none⟩ = some (.int .i64 c.x) ∧ w.cell? ⟨g, i * 6 + 1, none⟩ = some (.int .i64 c.y) ∧ w.cell? ⟨g, i * 6 + 2, none⟩ = some (.int .i64 c.lo)) ∧ w.cell? ⟨g, i * 6 + 3, none⟩ = some (.int .i64 c.hi) ∧ w.cell? ⟨g, i * 6 + 4, none⟩ = some (.int .i64 c.fr) ∧ w.cell? ⟨g, i * 6 + 5, none⟩ = some (.int .i64 c.b)) := hc'
  clear hc hc'
  go_enter Tryz.func33, Tryz.ntmps33
  go_wp2
  go_loopw [5] (fun i w' => ∃ k : Nat, k ≤ l.length ∧ i = .int .i64 k ∧ Hid (Below w.heap.size w w')) (fun i _ => l.length - (intOf i).toNat)
  case atStart => exact ⟨0, Nat.zero_le _, rfl, Below.refl _ _⟩
  case round =>
    obtain ⟨k, hk, rfl, HB⟩ := hrel
    by_cases hlt : k < l.length
    · obtain ⟨b, rfl, ⟨d0, d1, d2⟩, d3, d4, d5⟩ := HC.out k _ (sat_get hlt)
      obtain ⟨b', rfl, ⟨d0', d1', d2'⟩, d3', d4', d5'⟩ := HC'.out k _ (sat_get hlt)
      have c0 := cell_keep HB.out (Nat.le_refl _) d0
      have e0 := cell_keep HB.out (Nat.le_refl _) d0'
      have c1 := cell_keep HB.out (Nat.le_refl _) d1
      have e1 := cell_keep HB.out (Nat.le_refl _) d1'
      have c2 := cell_keep HB.out (Nat.le_refl _) d2
      have e2 := cell_keep HB.out (Nat.le_refl _) d2'
      have c3 := cell_keep HB.out (Nat.le_refl _) d3
      have e3 := cell_keep HB.out (Nat.le_refl _) d3'
      have c4 := cell_keep HB.out (Nat.le_refl _) d4
      have e4 := cell_keep HB.out (Nat.le_refl _) d4'
      have c5 := cell_keep HB.out (Nat.le_refl _) d5
      have e5 := cell_keep HB.out (Nat.le_refl _) d5'
      have z0 := lt_of_cell c0
      have z1 := lt_of_cell e0
      have hk0 : (0 : Int) ≤ (k : Int) := by omega
      have hk1 : (k : Int) < (l.length : Int) := by omega
      clear d0 d0' d1 d1' d2 d2' d3 d3' d4 d4' d5 d5'
      generalize sat l k = t at *
      have hne := Later.some wr
      have GE : Hid (∀ y : Later wr, Calls Tryz.prog 79 #[.agg #[.int .i64 t.x, .int .i64 t.y, .int .i64 t.lo, .int .i64 t.hi, .int .i64 t.fr, .int .i64 t.b], .agg #[.int .i64 t.x, .int .i64 t.y, .int .i64 t.lo, .int .i64 t.hi, .int .i64 t.fr, .int .i64 t.b]] y.val fun e w'' => e = .returned (.bool true) ∧ ∃ z : Later wr, w'' = z.val) := fun y => Calls.later (eqStep_any t y.val)
      go_wp2
      refine wp_region_later (by kernel_rfl) (by kernel_rfl) ?_
      repeat (go_big_quiet_step (exact GE.out _))
      refine wpQuiet_nil ?_
      rintro _ ⟨x, rfl⟩
      have HB2 : Hid (Below w.heap.size w x.val) := below_step HB.out x.below
      go_wp2
      exact ⟨⟨k + 1, by omega, by go_num, HB2⟩, by simp [intOf]; omega⟩
    · go_wp2
      go_ret
      exact ⟨rfl, HB.out⟩
def mkS (k q : Nat) : Value := .int .i64 ((k + q : Nat) : Int)
set_option maxHeartbeats 3200000 in
theorem markSteps_any (b n cap k : Nat) (w : World) (hb : b < w.heap.size) (ht : w.there b 0 (n * 6)) (hn : n ≤ 1048576) (hk : k ≤ 1000000000) :
    Calls Tryz.prog 38 #[.slice (some ⟨b, 0, none⟩) n cap, .int .i64 k] w fun e w' => e = .returned (.int .i64 ((k + n * 6 : Nat) : Int)) ∧ MarkAt w w' b (n * 6) (mkS k) (n * 6) := by
  have HT : Hid (w.there b 0 (n * 6)) := ht
  clear ht
  go_enter Tryz.func38, Tryz.ntmps38
  go_wp2
  go_loopw [1, 5] (fun kk i wr => ∃ m : Nat, m ≤ n ∧ i = .int .i64 m ∧ kk = .int .i64 ((k + m * 6 : Nat) : Int) ∧ Hid (MarkAt w wr b (n * 6) (mkS k) (m * 6))) (fun _ i _ => n - (intOf i).toNat)
  case atStart => exact ⟨0, Nat.zero_le _, rfl, by simp, by show MarkAt _ _ _ _ _ _; simpa using MarkAt.start (mkS k) HT.out hb⟩
  case round =>
    obtain ⟨m, hm, rfl, rfl, HM0⟩ := hrel
    by_cases hlt : m < n
    · have hm0 : (0 : Int) ≤ (m : Int) := by omega
      have hm1 : (m : Int) < (n : Int) := by omega
      obtain ⟨K, hK⟩ : ∃ K, k + m * 6 = K := ⟨_, rfl⟩
      have HK : Hid (k + m * 6 = K) := hK
      have hKb : K ≤ 1010000000 := by omega
      rw [hK]
      clear hK
      have e0 : Hid (mkS k (m * 6) = .int .i64 ((K : Int))) := by
        show _ = _
        unfold mkS
        rw [show ((k + (m * 6) : Nat) : Int) = (K : Int) by have := HK.out; omega]
      have e1 : Hid (mkS k (m * 6 + 1) = .int .i64 ((K : Int) + 1)) := by
        show _ = _
        unfold mkS
        rw [show ((k + (m * 6 + 1) : Nat) : Int) = (K : Int) + 1 by have := HK.out; omega]
      have e2 : Hid (mkS k (m * 6 + 2) = .int .i64 ((K : Int) + 1 + 1)) := by
        show _ = _
        unfold mkS
        rw [show ((k + (m * 6 + 2) : Nat) : Int) = (K : Int) + 1 + 1 by have := HK.out; omega]
      have e3 : Hid (mkS k (m * 6 + 3) = .int .i64 ((K : Int) + 1 + 1 + 1)) := by
        show _ = _
        unfold mkS
        rw [show ((k + (m * 6 + 3) : Nat) : Int) = (K : Int) + 1 + 1 + 1 by have := HK.out; omega]
      have e4 : Hid (mkS k (m * 6 + 4) = .int .i64 ((K : Int) + 1 + 1 + 1 + 1)) := by
        show _ = _
        unfold mkS
        rw [show ((k + (m * 6 + 4) : Nat) : Int) = (K : Int) + 1 + 1 + 1 + 1 by have := HK.out; omega]
      have e5 : Hid (mkS k (m * 6 + 5) = .int .i64 ((K : Int) + 1 + 1 + 1 + 1 + 1)) := by
        show _ = _
        unfold mkS
        rw [show ((k + (m * 6 + 5) : Nat) : Int) = (K : Int) + 1 + 1 + 1 + 1 + 1 by have := HK.out; omega]
      obtain ⟨⟨v0, c0⟩, f0⟩ := HM0.out.free (m * 6) (by omega)
      have HN0 := Lv.toHid (HM0.out.set (by omega) e0.out)
      obtain ⟨⟨v1, c1⟩, f1⟩ := HN0.out.free (m * 6 + 1) (by omega)
      have HN1 := Lv.toHid (HN0.out.set (by omega) e1.out)
      obtain ⟨⟨v2, c2⟩, f2⟩ := HN1.out.free (m * 6 + 2) (by omega)
      have HN2 := Lv.toHid (HN1.out.set (by omega) e2.out)
      obtain ⟨⟨v3, c3⟩, f3⟩ := HN2.out.free (m * 6 + 3) (by omega)
      have HN3 := Lv.toHid (HN2.out.set (by omega) e3.out)
      obtain ⟨⟨v4, c4⟩, f4⟩ := HN3.out.free (m * 6 + 4) (by omega)
      have HN4 := Lv.toHid (HN3.out.set (by omega) e4.out)
      obtain ⟨⟨v5, c5⟩, f5⟩ := HN4.out.free (m * 6 + 5) (by omega)
      have HN5 := Lv.toHid (HN4.out.set (by omega) e5.out)
      have HFI : Hid (∀ wx : World, MarkAt w wx b (n * 6) (mkS k) (m * 6 + 5 + 1) → MarkAt w wx b (n * 6) (mkS k) ((m + 1) * 6)) := fun wx h => by rw [show (m + 1) * 6 = m * 6 + 5 + 1 by omega]; exact h
      have HNX : Hid ((K : Int) + 1 + 1 + 1 + 1 + 1 + 1 = ((k + (m + 1) * 6 : Nat) : Int)) := by show _ = _; have := HK.out; omega
      go_wp2
      exact ⟨⟨m + 1, by omega, by go_num, by rw [HNX.out], HFI.out _ HN5.out⟩, by simp [intOf]; omega⟩
    · have HF : Hid (m = n) := by show m = n; omega
      go_wp2
      go_ret
      have h := HM0.out
      rw [HF.out] at h ⊢
      exact ⟨rfl, h⟩
set_option maxHeartbeats 3200000 in
theorem heldSteps_any (b n cap k : Nat) (w : World) (hM : ∀ q, q < n * 6 → w.cell? ⟨b, q, none⟩ = some (mkS k q)) (hn : n ≤ 1048576) (hk : k ≤ 1000000000) :
    Calls Tryz.prog 39 #[.slice (some ⟨b, 0, none⟩) n cap, .int .i64 k] w fun e w' => e = .returned (.int .i64 ((k + n * 6 : Nat) : Int)) ∧ Below w.heap.size w w' := by
  have HM : Hid (∀ q, q < n * 6 → w.cell? ⟨b, q, none⟩ = some (mkS k q)) := hM
  clear hM
  go_enter Tryz.func39, Tryz.ntmps39
  go_wp2
  go_loopw [1, 5] (fun kk i wr => ∃ m : Nat, m ≤ n ∧ i = .int .i64 m ∧ kk = .int .i64 ((k + m * 6 : Nat) : Int) ∧ Hid (Below w.heap.size w wr)) (fun _ i _ => n - (intOf i).toNat)
  case atStart => exact ⟨0, Nat.zero_le _, rfl, by simp, Below.refl _ _⟩
  case round =>
    obtain ⟨m, hm, rfl, rfl, HB⟩ := hrel
    by_cases hlt : m < n
    · have hm0 : (0 : Int) ≤ (m : Int) := by omega
      have hm1 : (m : Int) < (n : Int) := by omega
      obtain ⟨K, hK⟩ : ∃ K, k + m * 6 = K := ⟨_, rfl⟩
      have HK : Hid (k + m * 6 = K) := hK
      have hKb : K ≤ 1010000000 := by omega
      rw [hK]
      clear hK
      have c0 : wr.cell? ⟨b, m * 6, none⟩ = some (.int .i64 ((K : Int))) := by
        have h := cell_keep HB.out (Nat.le_refl _) (HM.out (m * 6) (by omega))
        unfold mkS at h
        rw [show ((k + (m * 6) : Nat) : Int) = (K : Int) by have := HK.out; omega] at h
        exact h
      have t0 : (((K : Int)) != ((K : Int))) = false := by simp
      have c1 : wr.cell? ⟨b, m * 6 + 1, none⟩ = some (.int .i64 ((K : Int) + 1)) := by
        have h := cell_keep HB.out (Nat.le_refl _) (HM.out (m * 6 + 1) (by omega))
        unfold mkS at h
        rw [show ((k + (m * 6 + 1) : Nat) : Int) = (K : Int) + 1 by have := HK.out; omega] at h
        exact h
      have t1 : (((K : Int) + 1) != ((K : Int) + 1)) = false := by simp
      have c2 : wr.cell? ⟨b, m * 6 + 2, none⟩ = some (.int .i64 ((K : Int) + 1 + 1)) := by
        have h := cell_keep HB.out (Nat.le_refl _) (HM.out (m * 6 + 2) (by omega))
        unfold mkS at h
        rw [show ((k + (m * 6 + 2) : Nat) : Int) = (K : Int) + 1 + 1 by have := HK.out; omega] at h
        exact h
      have t2 : (((K : Int) + 1 + 1) != ((K : Int) + 1 + 1)) = false := by simp
      have c3 : wr.cell? ⟨b, m * 6 + 3, none⟩ = some (.int .i64 ((K : Int) + 1 + 1 + 1)) := by
        have h := cell_keep HB.out (Nat.le_refl _) (HM.out (m * 6 + 3) (by omega))
        unfold mkS at h
        rw [show ((k + (m * 6 + 3) : Nat) : Int) = (K : Int) + 1 + 1 + 1 by have := HK.out; omega] at h
        exact h
      have t3 : (((K : Int) + 1 + 1 + 1) != ((K : Int) + 1 + 1 + 1)) = false := by simp
      have c4 : wr.cell? ⟨b, m * 6 + 4, none⟩ = some (.int .i64 ((K : Int) + 1 + 1 + 1 + 1)) := by
        have h := cell_keep HB.out (Nat.le_refl _) (HM.out (m * 6 + 4) (by omega))
        unfold mkS at h
        rw [show ((k + (m * 6 + 4) : Nat) : Int) = (K : Int) + 1 + 1 + 1 + 1 by have := HK.out; omega] at h
        exact h
      have t4 : (((K : Int) + 1 + 1 + 1 + 1) != ((K : Int) + 1 + 1 + 1 + 1)) = false := by simp
      have c5 : wr.cell? ⟨b, m * 6 + 5, none⟩ = some (.int .i64 ((K : Int) + 1 + 1 + 1 + 1 + 1)) := by
        have h := cell_keep HB.out (Nat.le_refl _) (HM.out (m * 6 + 5) (by omega))
        unfold mkS at h
        rw [show ((k + (m * 6 + 5) : Nat) : Int) = (K : Int) + 1 + 1 + 1 + 1 + 1 by have := HK.out; omega] at h
        exact h
      have t5 : (((K : Int) + 1 + 1 + 1 + 1 + 1) != ((K : Int) + 1 + 1 + 1 + 1 + 1)) = false := by simp
      have HNX : Hid ((K : Int) + 1 + 1 + 1 + 1 + 1 + 1 = ((k + (m + 1) * 6 : Nat) : Int)) := by show _ = _; have := HK.out; omega
      go_wp2
      exact ⟨⟨m + 1, by omega, by go_num, by rw [HNX.out], HB⟩, by simp [intOf]; omega⟩
    · have HF : Hid (m = n) := by show m = n; omega
      go_wp2
      go_ret
      rw [HF.out]
      exact ⟨rfl, HB.out⟩
theorem markStepNil_any (k : Nat) (w : World) : Calls Tryz.prog 38 #[.slice none 0 0, .int .i64 k] w fun e w' => e = .returned (.int .i64 k) ∧ w' = w := by
  go_enter Tryz.func38, Tryz.ntmps38
  go_wp2
  go_loopw [1, 5] (fun kk i wr => i = .int .i64 0 ∧ kk = .int .i64 k ∧ wr = w) (fun _ _ _ => 0)
  case atStart => exact ⟨rfl, rfl, rfl⟩
  case round =>
    obtain ⟨rfl, rfl, rfl⟩ := hrel
    go_wp2
    go_ret
    exact ⟨rfl, rfl⟩
theorem heldStepNil_any (k : Nat) (w : World) : Calls Tryz.prog 39 #[.slice none 0 0, .int .i64 k] w fun e w' => e = .returned (.int .i64 k) ∧ w' = w := by
  go_enter Tryz.func39, Tryz.ntmps39
  go_wp2
  go_loopw [1, 5] (fun kk i wr => i = .int .i64 0 ∧ kk = .int .i64 k ∧ wr = w) (fun _ _ _ => 0)
  case atStart => exact ⟨rfl, rfl, rfl⟩
  case round =>
    obtain ⟨rfl, rfl, rfl⟩ := hrel
    go_wp2
    go_ret
    exact ⟨rfl, rfl⟩
/-- A row of steps that can be marked. -/
def RooS (w : World) (v : Value) (n : Nat) : Prop := (v = .slice none 0 0 ∧ n = 0) ∨ ∃ b cap, v = .slice (some ⟨b, 0, none⟩) n cap ∧ b < w.heap.size ∧ w.there b 0 (n * 6)
/-- A row of steps that holds its marks. -/
def RowS (w : World) (v : Value) (n k : Nat) : Prop := (v = .slice none 0 0 ∧ n = 0) ∨ ∃ b cap, v = .slice (some ⟨b, 0, none⟩) n cap ∧ b < w.heap.size ∧ ∀ q, q < n * 6 → w.cell? ⟨b, q, none⟩ = some (mkS k q)
theorem RowS.keep {w w' : World} {v : Value} {n k : Nat} (h : RowS w v n k) (hb : Below w.heap.size w w') : RowS w' v n k := by
  rcases h with h | ⟨b, cap, rfl, hl, ht⟩
  · exact .inl h
  · exact .inr ⟨b, cap, rfl, Nat.lt_of_lt_of_le hl hb.size, fun q hq => cell_keep hb (Nat.le_refl _) (ht q hq)⟩
theorem RooS.of {w : World} {B : Nat} {v : Value} {l : List Stp} (h : StNew w B v l) : RooS w v l.length := by
  rcases h.2 with ⟨rfl, h0⟩ | ⟨b, cap, cur, rfl, hb, hc, h1, h2, h3, h4⟩
  · exact .inl ⟨rfl, h0⟩
  · refine .inr ⟨b, cap, rfl, (Array.getElem?_eq_some_iff.1 hc).1, fun q hq => ?_⟩
    have hq' : q < cur.size := by rw [h3]; omega
    simp [World.cell?, World.frozen?, hc, hq']
theorem RooS.keep {w w' : World} {v : Value} {n : Nat} (h : RooS w v n) (hb : Below w.heap.size w w') : RooS w' v n := by
  rcases h with h | ⟨b, cap, rfl, hl, hc⟩
  · exact .inl h
  · exact .inr ⟨b, cap, rfl, Nat.lt_of_lt_of_le hl hb.size, there_keep hc hb hl⟩
theorem RooS.slice {w : World} {v : Value} {n : Nat} (h : RooS w v n) : ∃ a m c, v = .slice a m c := by
  rcases h with ⟨rfl, -⟩ | ⟨b, cap, rfl, -⟩ <;> exact ⟨_, _, _, rfl⟩
theorem RowS.slice {w : World} {v : Value} {n k : Nat} (h : RowS w v n k) : ∃ a m c, v = .slice a m c := by
  rcases h with ⟨rfl, -⟩ | ⟨b, cap, rfl, -⟩ <;> exact ⟨_, _, _, rfl⟩
theorem markStG_any (v : Value) (n k : Nat) (w : World) (h : RooS w v n) (hn : n ≤ 1048576) (hk : k ≤ 1000000000) :
    Calls Tryz.prog 38 #[v, .int .i64 k] w fun e w' => e = .returned (.int .i64 ((k + n * 6 : Nat) : Int)) ∧ RowS w' v n k ∧ w.grownBy w' v.ownBlock := by
  rcases h with ⟨rfl, rfl⟩ | ⟨b, cap, rfl, hb, ht⟩
  · refine (markStepNil_any k w).mono ?_
    rintro e w' ⟨rfl, rfl⟩
    exact ⟨by simp, .inl ⟨rfl, rfl⟩, below_grown (Below.refl _ _) _⟩
  · refine (markSteps_any b n cap k w hb ht hn hk).mono ?_
    rintro e w' ⟨rfl, hM⟩
    exact ⟨rfl, .inr ⟨b, cap, rfl, Nat.lt_of_lt_of_le hb hM.grown.size, fun q hq => hM.has q hq⟩, hM.grown⟩
theorem heldStG_any (v : Value) (n k : Nat) (w : World) (h : RowS w v n k) (hn : n ≤ 1048576) (hk : k ≤ 1000000000) :
    Calls Tryz.prog 39 #[v, .int .i64 k] w fun e w' => e = .returned (.int .i64 ((k + n * 6 : Nat) : Int)) ∧ Below w.heap.size w w' := by
  rcases h with ⟨rfl, rfl⟩ | ⟨b, cap, rfl, hb, ht⟩
  · refine (heldStepNil_any k w).mono ?_
    rintro e w' ⟨rfl, rfl⟩
    exact ⟨by simp, Below.refl _ _⟩
  · exact heldSteps_any b n cap k w ht hn hk
/-- A path's cells. -/
abbrev paC (v : Value) (x y : Int) : Array Value := #[v, .int .i64 x, .int .i64 y]
set_option maxHeartbeats 1600000 in
theorem eqPath_any (x y : Int) (st st' : Value) (l : List Stp) (w : World) (h : StAt w st l) (h' : StAt w st' l) :
    Calls Tryz.prog 10 #[.agg (paC st x y), .agg (paC st' x y)] w fun e w' => e = .returned (.bool true) ∧ Below w.heap.size w w' := by
  have HH : Hid (∀ wx : World, Below w.heap.size w wx → StAt wx st l ∧ StAt wx st' l) := fun wx hx => ⟨h.keep hx, h'.keep hx⟩
  obtain ⟨a, c, rfl, -, -, -⟩ := h
  obtain ⟨a', c', rfl, -, -, -⟩ := h'
  have h2 : (x != x) = false := by simp
  have h3 : (y != y) = false := by simp
  have HB : Hid (Below w.heap.size w ((w.alloc (.cells #[.slice a l.length c, .int .i64 x, .int .i64 y] 32)).alloc (.cells #[.slice a' l.length c', .int .i64 x, .int .i64 y] 32))) := ((Below.refl _ _).alloc (Nat.le_refl _) _).alloc (by simp) _
  have HQ : Hid (∀ wx : World, Below ((w.alloc (.cells #[.slice a l.length c, .int .i64 x, .int .i64 y] 32)).alloc (.cells #[.slice a' l.length c', .int .i64 x, .int .i64 y] 32)).heap.size ((w.alloc (.cells #[.slice a l.length c, .int .i64 x, .int .i64 y] 32)).alloc (.cells #[.slice a' l.length c', .int .i64 x, .int .i64 y] 32)) wx → (wx.cell? ⟨w.heap.size, 1, none⟩ = some (.int .i64 x) ∧ wx.cell? ⟨w.heap.size, 2, none⟩ = some (.int .i64 y)) ∧ (wx.cell? ⟨w.heap.size + 1, 1, none⟩ = some (.int .i64 x) ∧ wx.cell? ⟨w.heap.size + 1, 2, none⟩ = some (.int .i64 y))) := fun wx hx => ⟨⟨cell_keep hx (Nat.le_refl _) (by simp [go_sem]), cell_keep hx (Nat.le_refl _) (by simp [go_sem])⟩, cell_keep hx (Nat.le_refl _) (by simp [go_sem]), cell_keep hx (Nat.le_refl _) (by simp [go_sem])⟩
  go_enter Tryz.func10, Tryz.ntmps10
  go_wp2_with fail
  refine (eqSteps_any _ _ l _ (HH.out _ HB.out).1 (HH.out _ HB.out).2).mono ?_
  rintro e w1 ⟨rfl, hb1⟩
  obtain ⟨⟨c1, c2⟩, d1, d2⟩ := HQ.out _ hb1
  have HB1 : Hid (Below w.heap.size w w1) := below_step HB.out hb1
  clear hb1 HQ HB
  go_wp2
  go_ret
  exact ⟨rfl, HB1.out⟩
set_option maxHeartbeats 1600000 in
theorem markPath_any (x y : Int) (st : Value) (n k : Nat) (w : World) (h : RooS w st n) (hn : n ≤ 1048576) (hk : k ≤ 1000000000) :
    Calls Tryz.prog 13 #[.agg (paC st x y), .int .i64 k] w fun e w' => e = .returned (.int .i64 ((k + n * 6 : Nat) : Int)) ∧ RowS w' st n k ∧ w.grownBy w' st.ownBlock := by
  have HH : Hid (RooS w st n) := h
  obtain ⟨a, m, c, rfl⟩ := h.slice
  have HB : Hid (Below w.heap.size w (w.alloc (.cells #[.slice a m c, .int .i64 x, .int .i64 y] 32))) := (Below.refl _ _).alloc (Nat.le_refl _) _
  clear h
  go_enter Tryz.func13, Tryz.ntmps13
  go_wp2_with fail
  refine (markStG_any _ n k _ (HH.out.keep HB.out) hn hk).mono ?_
  rintro e w1 ⟨rfl, hR, hg⟩
  have HG : Hid (RowS w1 (.slice a m c) n k ∧ w.grownBy w1 (Value.slice a m c).ownBlock) := ⟨hR, grown_trans (below_grown HB.out _) hg⟩
  clear hR hg
  go_wp2
  go_ret
  exact ⟨rfl, HG.out⟩
set_option maxHeartbeats 1600000 in
theorem heldPath_any (x y : Int) (st : Value) (n k : Nat) (w : World) (h : RowS w st n k) (hn : n ≤ 1048576) (hk : k ≤ 1000000000) :
    Calls Tryz.prog 14 #[.agg (paC st x y), .int .i64 k] w fun e w' => e = .returned (.int .i64 ((k + n * 6 : Nat) : Int)) ∧ Below w.heap.size w w' := by
  have HH : Hid (RowS w st n k) := h
  obtain ⟨a, m, c, rfl⟩ := h.slice
  have HB : Hid (Below w.heap.size w (w.alloc (.cells #[.slice a m c, .int .i64 x, .int .i64 y] 32))) := (Below.refl _ _).alloc (Nat.le_refl _) _
  have hkn : ¬ ((k + n * 6 : Nat) : Int) < 0 := by omega
  clear h
  go_enter Tryz.func14, Tryz.ntmps14
  go_wp2_with fail
  refine (heldStG_any _ n k _ (HH.out.keep HB.out) hn hk).mono ?_
  rintro e w1 ⟨rfl, hb⟩
  have HG : Hid (Below w.heap.size w w1) := below_step HB.out hb
  clear hb
  obtain ⟨r, hr⟩ : ∃ r, ((k + n * 6 : Nat) : Int) = r := ⟨_, rfl⟩
  rw [hr] at hkn ⊢
  have HRR : Hid (((k + n * 6 : Nat) : Int) = r) := hr
  clear hr
  go_wp2
  go_ret
  exact ⟨ret_int HRR.out.symm, HG.out⟩
end Go.Proofs.YtehpdbbkbdfobacGreatDoor.Pa
