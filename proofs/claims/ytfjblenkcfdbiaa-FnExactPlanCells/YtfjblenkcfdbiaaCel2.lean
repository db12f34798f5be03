
/-
  Cells in a row of one's own: held against each other, marked.
-/
import Derived.Test.YtfjblenkcfdbiaaWay4
import Derived.Test.YtfjblenkcfdbiaaMark3
namespace Go.Proofs.Ytfjblenkcfdbiaa
open Go.RowKit
attribute [local go_sem] Later.cell Later.frozen
set_option linter.unusedSimpArgs false
set_option linter.unusedVariables false

set_option maxHeartbeats 800000 in
theorem eqCell_any (c : Cel) (w : World) :
    Calls Try.prog 64 #[.agg #[.int .i64 c.x, .int .i64 c.y], .agg #[.int .i64 c.x, .int .i64 c.y]] w fun e w' => e = .returned (.bool true) ∧ Below w.heap.size w w' := by
  have HB : Hid (Below w.heap.size w ((w.alloc (.cells #[.int .i64 c.x, .int .i64 c.y] 97)).alloc (.cells #[.int .i64 c.x, .int .i64 c.y] 97))) := ((Below.refl _ _).alloc (Nat.le_refl _) _).alloc (by simp) _
  have h1 : (c.x != c.x) = false := by simp
  have h2 : (c.y != c.y) = false := by simp
  go_enter Try.func64, Try.ntmps64
  go_wp2
  go_ret
  exact ⟨rfl, HB.out⟩
def tac (l : List Cel) (i : Nat) : Cel := l.getD i ⟨0, 0⟩
theorem tac_get {l : List Cel} {i : Nat} (h : i < l.length) : l[i]? = some (tac l i) := by simp [tac, h]
set_option maxHeartbeats 1600000 in
theorem eqCells_any (v v' : Value) (l : List Cel) (w : World) (hv : CAt w v l) (hv' : CAt w v' l) :
    Calls Try.prog 26 #[v, v'] w fun e w' => e = .returned (.bool true) ∧ Below w.heap.size w w' := by
  obtain ⟨a, cap, rfl, hlc, hcm, hc⟩ := hv
  obtain ⟨a', cap', rfl, hlc', hcm', hc'⟩ := hv'
  unfold maxLen at hcm hcm'
  have HC : Hid (∀ i c, l[i]? = some c → ∃ g, a = some ⟨g, 0, none⟩ ∧ w.cell? ⟨g, i * 2, none⟩ = some (.int .i64 c.x) ∧ w.cell? ⟨g, i * 2 + 1, none⟩ = some (.int .i64 c.y)) := hc
  have HC' : Hid (∀ i c, l[i]? = some c → ∃ g, a' = some ⟨g, 0, none⟩ ∧ w.cell? ⟨g, i * 2, none⟩ = some (.int .i64 c.x) ∧ w.cell? ⟨g, i * 2 + 1, none⟩ = some (.int .i64 c.y)) := hc'
  clear hc hc'
  go_enter Try.func26, Try.ntmps26
  go_wp2
  go_loopw [5] (fun i w' => ∃ k : Nat, k ≤ l.length ∧ i = .int .i64 k ∧ Hid (Below w.heap.size w w')) (fun i _ => l.length - (intOf i).toNat)
  case atStart => exact ⟨0, Nat.zero_le _, rfl, Below.refl _ _⟩
  case round =>
    obtain ⟨k, hk, rfl, HB⟩ := hrel
    by_cases hlt : k < l.length
    · obtain ⟨b, rfl, d0, d1⟩ := HC.out k _ (tac_get hlt)
      obtain ⟨b', rfl, d0', d1'⟩ := HC'.out k _ (tac_get hlt)
      have c0 := cell_keep HB.out (Nat.le_refl _) d0
      have c1 := cell_keep HB.out (Nat.le_refl _) d1
      have c2 := cell_keep HB.out (Nat.le_refl _) d0'
      have c3 := cell_keep HB.out (Nat.le_refl _) d1'
      have z0 := lt_of_cell c0
      have z1 := lt_of_cell c2
      have hk0 : (0 : Int) ≤ (k : Int) := by omega
      have hk1 : (k : Int) < (l.length : Int) := by omega
      clear d0 d0' d1 d1'
      generalize tac l k = t at *
      have hne := Later.some wr
      have GE : Hid (∀ y : Later wr, Calls Try.prog 64 #[.agg #[.int .i64 t.x, .int .i64 t.y], .agg #[.int .i64 t.x, .int .i64 t.y]] y.val fun e w'' => e = .returned (.bool true) ∧ ∃ z : Later wr, w'' = z.val) := fun y => Calls.later (eqCell_any t y.val)
      go_wp2
      refine wp_region_later (by kernel_rfl) (by kernel_rfl) ?_
      repeat (go_big_quiet_step (exact GE.out _))
      refine wpQuiet_nil ?_
      rintro _ ⟨x, rfl⟩
      have HB2 : Hid (Below w.heap.size w x.val) := below_step HB.out x.below
      go_wp2
      exact ⟨⟨k + 1, by omega, by go_num, HB2⟩, by simp [intOf]; omega⟩
    · go_wp2
      go_ret
      exact ⟨rfl, HB.out⟩
def mkC (k q : Nat) : Value := .int .i64 ((k + q : Nat) : Int)
set_option maxHeartbeats 1600000 in
theorem markCells_any (b n cap k : Nat) (w : World) (hb : b < w.heap.size) (ht : w.there b 0 (n * 2)) (hn : n ≤ 1048576) (hk : k ≤ 1000000000) :
    Calls Try.prog 30 #[.slice (some ⟨b, 0, none⟩) n cap, .int .i64 k] w fun e w' => e = .returned (.int .i64 ((k + n * 2 : Nat) : Int)) ∧ MarkAt w w' b (n * 2) (mkC k) (n * 2) := by
  have HT : Hid (w.there b 0 (n * 2)) := ht
  clear ht
  go_enter Try.func30, Try.ntmps30
  go_wp2
  go_loopw [1, 5] (fun kk i wr => ∃ m : Nat, m ≤ n ∧ i = .int .i64 m ∧ kk = .int .i64 ((k : Int) + (m : Int) * 2) ∧ MarkAt w wr b (n * 2) (mkC k) (m * 2)) (fun _ i _ => n - (intOf i).toNat)
  case atStart => exact ⟨0, Nat.zero_le _, rfl, by simp, by simpa using MarkAt.start _ HT.out hb⟩
  case round =>
    obtain ⟨m, hm, rfl, rfl, hM⟩ := hrel
    have HM0 : Hid (MarkAt w wr b (n * 2) (mkC k) (m * 2)) := hM
    clear hM
    by_cases hlt : m < n
    · have hm0 : (0 : Int) ≤ (m : Int) := by omega
      have hm1 : (m : Int) < (n : Int) := by omega
      have e0 : Hid (mkC k (m * 2) = .int .i64 ((k : Int) + (m : Int) * 2)) := by
        show _ = _
        unfold mkC
        rw [show ((k + m * 2 : Nat) : Int) = (k : Int) + (m : Int) * 2 by push_cast; omega]
      have e1 : Hid (mkC k (m * 2 + 1) = .int .i64 ((k : Int) + (m : Int) * 2 + 1)) := by
        show _ = _
        unfold mkC
        rw [show ((k + (m * 2 + 1) : Nat) : Int) = (k : Int) + (m : Int) * 2 + 1 by push_cast; omega]
      obtain ⟨⟨v0, c0⟩, f0⟩ := HM0.out.free (m * 2) (by omega)
      have HN := toHid (HM0.out.set (by omega) e0.out)
      obtain ⟨⟨v1, c1⟩, f1⟩ := HN.out.free (m * 2 + 1) (by omega)
      have HN2 := toHid (HN.out.set (by omega) e1.out)
      go_wp2
      exact ⟨⟨m + 1, by omega, by go_num, by first | (congr 1; done) | (congr 1; push_cast; omega), by rw [show (m + 1) * 2 = m * 2 + 1 + 1 by omega]; exact HN2.out⟩, by simp [intOf]; omega⟩
    · have HF : Hid (m = n) := by show m = n; omega
      go_wp2
      go_ret
      have h := HM0.out
      rw [HF.out] at h ⊢
      exact ⟨ret_int (by push_cast; rfl), h⟩
set_option maxHeartbeats 1600000 in
theorem heldCells_any (b n cap k : Nat) (w : World) (hM : ∀ q, q < n * 2 → w.cell? ⟨b, q, none⟩ = some (mkC k q)) (hn : n ≤ 1048576) (hk : k ≤ 1000000000) :
    Calls Try.prog 31 #[.slice (some ⟨b, 0, none⟩) n cap, .int .i64 k] w fun e w' => e = .returned (.int .i64 ((k + n * 2 : Nat) : Int)) ∧ Below w.heap.size w w' := by
  have HM : Hid (∀ q, q < n * 2 → w.cell? ⟨b, q, none⟩ = some (mkC k q)) := hM
  clear hM
  go_enter Try.func31, Try.ntmps31
  go_wp2
  go_loopw [1, 5] (fun kk i wr => ∃ m : Nat, m ≤ n ∧ i = .int .i64 m ∧ kk = .int .i64 ((k : Int) + (m : Int) * 2) ∧ Below w.heap.size w wr) (fun _ i _ => n - (intOf i).toNat)
  case atStart => exact ⟨0, Nat.zero_le _, rfl, by simp, Below.refl _ _⟩
  case round =>
    obtain ⟨m, hm, rfl, rfl, hb⟩ := hrel
    by_cases hlt : m < n
    · have hm0 : (0 : Int) ≤ (m : Int) := by omega
      have hm1 : (m : Int) < (n : Int) := by omega
      have c0 : wr.cell? ⟨b, m * 2, none⟩ = some (.int .i64 ((k : Int) + (m : Int) * 2)) := by
        have h := cell_keep hb (Nat.le_refl _) (HM.out (m * 2) (by omega))
        unfold mkC at h
        rw [show ((k + m * 2 : Nat) : Int) = (k : Int) + (m : Int) * 2 by push_cast; omega] at h
        exact h
      have c1 : wr.cell? ⟨b, m * 2 + 1, none⟩ = some (.int .i64 ((k : Int) + (m : Int) * 2 + 1)) := by
        have h := cell_keep hb (Nat.le_refl _) (HM.out (m * 2 + 1) (by omega))
        unfold mkC at h
        rw [show ((k + (m * 2 + 1) : Nat) : Int) = (k : Int) + (m : Int) * 2 + 1 by push_cast; omega] at h
        exact h
      have ht : (((k : Int) + (m : Int) * 2) != ((k : Int) + (m : Int) * 2)) = false := by simp
      have ht1 : (((k : Int) + (m : Int) * 2 + 1) != ((k : Int) + (m : Int) * 2 + 1)) = false := by simp
      have HB : Hid (Below w.heap.size w wr) := hb
      clear hb
      go_wp2
      exact ⟨⟨m + 1, by omega, by go_num, by first | (congr 1; done) | (congr 1; push_cast; omega), HB.out⟩, by simp [intOf]; omega⟩
    · have HF : Hid (m = n) := by show m = n; omega
      go_wp2
      go_ret
      rw [HF.out]
      exact ⟨ret_int (by push_cast; rfl), hb⟩
set_option maxHeartbeats 1600000 in
theorem markCellNil_any (k : Nat) (w : World) : Calls Try.prog 30 #[.slice none 0 0, .int .i64 k] w fun e w' => e = .returned (.int .i64 k) ∧ w' = w := by
  go_enter Try.func30, Try.ntmps30
  go_wp2
  go_loopw [1, 5] (fun kk i wr => i = .int .i64 0 ∧ kk = .int .i64 k ∧ wr = w) (fun _ _ _ => 0)
  case atStart => exact ⟨rfl, rfl, rfl⟩
  case round =>
    obtain ⟨rfl, rfl, rfl⟩ := hrel
    go_wp2
    go_ret
    exact ⟨rfl, rfl⟩
theorem heldCellNil_any (k : Nat) (w : World) : Calls Try.prog 31 #[.slice none 0 0, .int .i64 k] w fun e w' => e = .returned (.int .i64 k) ∧ w' = w := by
  go_enter Try.func31, Try.ntmps31
  go_wp2
  go_loopw [1, 5] (fun kk i wr => i = .int .i64 0 ∧ kk = .int .i64 k ∧ wr = w) (fun _ _ _ => 0)
  case atStart => exact ⟨rfl, rfl, rfl⟩
  case round =>
    obtain ⟨rfl, rfl, rfl⟩ := hrel
    go_wp2
    go_ret
    exact ⟨rfl, rfl⟩
/-- A row of cells that holds its marks. -/
def CelM (w : World) (v : Value) (n k : Nat) : Prop := (v = .slice none 0 0 ∧ n = 0) ∨ ∃ b cap, v = .slice (some ⟨b, 0, none⟩) n cap ∧ b < w.heap.size ∧ ∀ q, q < n * 2 → w.cell? ⟨b, q, none⟩ = some (mkC k q)
theorem CelM.keep {w w' : World} {v : Value} {n k : Nat} (h : CelM w v n k) (hb : Below w.heap.size w w') : CelM w' v n k := by
  rcases h with h | ⟨b, cap, rfl, hl, ht⟩
  · exact .inl h
  · exact .inr ⟨b, cap, rfl, Nat.lt_of_lt_of_le hl hb.size, fun q hq => cell_keep hb (Nat.le_refl _) (ht q hq)⟩
theorem markCelG_any (v : Value) (l : List Cel) (B k : Nat) (w : World) (h : CNew w B v l) (hn : l.length ≤ 1048576) (hk : k ≤ 1000000000) :
    Calls Try.prog 30 #[v, .int .i64 k] w fun e w' => e = .returned (.int .i64 ((k + l.length * 2 : Nat) : Int)) ∧ CelM w' v l.length k ∧ w.grownBy w' v.ownBlock := by
  rcases h.2 with ⟨rfl, h0⟩ | ⟨b, cap, cur, rfl, hb, hc, h1, h2, h3, h4⟩
  · refine (markCellNil_any k w).mono ?_
    rintro e w' ⟨rfl, rfl⟩
    exact ⟨by rw [h0]; simp, .inl ⟨rfl, h0⟩, below_grown (Below.refl _ _) _⟩
  · have hbl : b < w.heap.size := (Array.getElem?_eq_some_iff.1 hc).1
    refine (markCells_any b l.length cap k w hbl (fun q hq => ?_) hn hk).mono ?_
    · have hq' : q < cur.size := by rw [h3]; omega
      simp [World.cell?, World.frozen?, hc, hq']
    · rintro e w' ⟨rfl, hM⟩
      exact ⟨rfl, .inr ⟨b, cap, rfl, Nat.lt_of_lt_of_le hbl hM.grown.size, fun q hq => hM.has q (by omega)⟩, hM.grown⟩
theorem heldCelG_any (v : Value) (n k : Nat) (w : World) (h : CelM w v n k) (hn : n ≤ 1048576) (hk : k ≤ 1000000000) :
    Calls Try.prog 31 #[v, .int .i64 k] w fun e w' => e = .returned (.int .i64 ((k + n * 2 : Nat) : Int)) ∧ Below w.heap.size w w' := by
  rcases h with ⟨rfl, rfl⟩ | ⟨b, cap, rfl, hb, ht⟩
  · refine (heldCellNil_any k w).mono ?_
    rintro e w' ⟨rfl, rfl⟩
    exact ⟨by simp, Below.refl _ _⟩
  · exact heldCells_any b n cap k w ht hn hk
end Go.Proofs.Ytfjblenkcfdbiaa
