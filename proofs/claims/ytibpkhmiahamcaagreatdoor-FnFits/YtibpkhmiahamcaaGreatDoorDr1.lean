
/-
  Drawing: a number out of a code, a text out of a list.
-/
import Derived.Test.YtibpkhmiahamcaaGreatDoorLeaf
import Derived.Test.YtibpkhmiahamcaaGreatDoorLater
import Derived.Test.YtibpkhmiahamcaaGreatDoorTill
namespace Go.Proofs.YtibpkhmiahamcaaGreatDoor.Dr
open Go.RowKit Go.Proofs.YtibpkhmiahamcaaGreatDoor
attribute [local go_sem] Later.cell Later.frozen
set_option linter.unusedSimpArgs false
set_option linter.unusedVariables false

theorem toHid {P : Prop} (h : P) : Hid P := h
/-- Bytes that lie in memory, ahead of block R. -/
def BysAt (w : World) (R : Nat) (v : Value) (n : Nat) : Prop := ∃ a cap, v = .slice a n cap ∧ n ≤ cap ∧ cap ≤ maxLen ∧ ∀ i, i < n → ∃ b off x, a = some ⟨b, off, none⟩ ∧ b < R ∧ w.cell? ⟨b, off + i, none⟩ = some (.int .u8 x) ∧ 0 ≤ x ∧ x < 256
/-- The reader in block R: its code, and how much it has drawn. -/
structure Rd (w : World) (R p : Nat) : Prop where
  box : ∃ v n, n ≤ 2000 ∧ w.heap[R]? = some (.cells #[v, .int .i64 (p : Int)] 70 (0, 0)) ∧ BysAt w R v n
theorem lt_blk {w : World} {b : Nat} {o : Obj} (h : w.heap[b]? = some o) : b < w.heap.size := (Array.getElem?_eq_some_iff.1 h).1
theorem cell_blkD {w : World} {b i : Nat} {C : Array Value} {T : TypeId} {u : Value} (h : w.heap[b]? = some (.cells C T (0, 0))) (hc : C[i]? = some u) : w.cell? ⟨b, i, none⟩ = some u := by simp [World.cell?, h, hc]
theorem Rd.far {w w' : World} {R p : Nat} (h : Rd w R p) (hb : Below w.heap.size w w') : Rd w' R p := by
  obtain ⟨v, n, hn, hx, a, cap, rfl, h1, h2, h3⟩ := h.box
  refine ⟨.slice a n cap, n, hn, (hb.block R (lt_blk hx)).trans hx, a, cap, rfl, h1, h2, fun i hi => ?_⟩
  obtain ⟨b, off, x, e, hbR, hc, hr⟩ := h3 i hi
  exact ⟨b, off, x, e, hbR, cell_keep hb (Nat.le_refl _) hc, hr⟩
/-- What was drawn: one more. -/
theorem Rd.next {w : World} {R p : Nat} (h : Rd w R p) (q : Nat) : Rd (w.setCell ⟨R, 1, none⟩ (.int .i64 (q : Int))) R q := by
  obtain ⟨v, n, hn, hx, hb⟩ := h.box
  obtain ⟨a, cap, rfl, h1, h2, h3⟩ := hb
  have hlt := lt_blk hx
  have hh : (w.setCell ⟨R, 1, none⟩ (.int .i64 (q : Int))).heap[R]? = some (.cells #[.slice a n cap, .int .i64 (q : Int)] 70 (0, 0)) := by
    have h' : w.heap[R] = .cells #[.slice a n cap, .int .i64 (p : Int)] 70 (0, 0) := by simpa [Array.getElem?_eq_getElem hlt] using hx
    show (w.heap.modify R _)[R]? = _
    rw [Array.getElem?_eq_getElem (by simpa using hlt), Array.getElem_modify_self, h']
    rfl
  refine ⟨.slice a n cap, n, hn, hh, a, cap, rfl, h1, h2, fun i hi => ?_⟩
  obtain ⟨b, off, x, e, hbR, hc, hr⟩ := h3 i hi
  refine ⟨b, off, x, e, hbR, ?_, hr⟩
  rw [World.cell?_of_block (w := w) (Below.heap_setCell w ⟨R, 1, none⟩ _ b (by show b ≠ R; omega))]
  exact hc
/-- Blocks behind the reader may turn. -/
theorem Rd.late {w w' : World} {R p : Nat} (h : Rd w R p) (hs : ∀ j, j ≤ R → w'.heap[j]? = w.heap[j]?) : Rd w' R p := by
  obtain ⟨v, n, hn, hx, a, cap, rfl, h1, h2, h3⟩ := h.box
  refine ⟨.slice a n cap, n, hn, (hs R (Nat.le_refl _)).trans hx, a, cap, rfl, h1, h2, fun i hi => ?_⟩
  obtain ⟨b, off, x, e, hbR, hc, hr⟩ := h3 i hi
  refine ⟨b, off, x, e, hbR, ?_, hr⟩
  rw [World.cell?_of_block (w := w) (hs b (by omega))]
  exact hc
theorem grown_cell {w w7 : World} {r : Option Nat} (h : w.grownBy w7 r) {b : Nat} (i : Nat) (v : Value) (hb : w.heap.size ≤ b) : w.grownBy (w7.setCell ⟨b, i, none⟩ v) r :=
  ⟨h.1, h.2, h.3, by simpa using h.4, fun j hj hr => (Below.heap_setCell w7 ⟨b, i, none⟩ v j (by show j ≠ b; omega)).trans (h.5 j hj hr)⟩
theorem grown_row {w w7 : World} {r : Option Nat} (h : w.grownBy w7 r) {b : Nat} (C : Array Value) (hb : w.heap.size ≤ b) : w.grownBy (w7.setRow b C) r :=
  ⟨h.1, h.2, h.3, by simpa using h.4, fun j hj hr => (setRow_other _ _ _ _ (by omega)).trans (h.5 j hj hr)⟩
theorem grown_box (w : World) (R i : Nat) (v : Value) : w.grownBy (w.setCell ⟨R, i, none⟩ v) (some R) :=
  ⟨rfl, rfl, rfl, by simp, fun j _ hr => Below.heap_setCell w ⟨R, i, none⟩ v j (fun e => hr (by rw [e]))⟩
theorem grown_on {w w1 w2 : World} {r : Option Nat} (h : w.grownBy w1 r) (k : w1.grownBy w2 r) : w.grownBy w2 r :=
  ⟨k.1.trans h.1, k.2.trans h.2, k.3.trans h.3, Nat.le_trans h.4 k.4, fun j hj hr => (k.5 j (Nat.lt_of_lt_of_le hj h.4) hr).trans (h.5 j hj hr)⟩
theorem grown_of {w w' : World} (h : Below w.heap.size w w') (r : Option Nat) : w.grownBy w' r := ⟨h.1, h.2, h.3, h.4, fun k hk _ => h.5 k hk⟩
theorem xor_i64 (a b : Nat) (ha : a < 4611686018427387904) (hb : b < 4611686018427387904) : bits .xor .i64 (a : Int) (b : Int) = ((a ^^^ b : Nat) : Int) := by
  have hx : a ^^^ b < 2 ^ 62 := Nat.xor_lt_two_pow (by omega) (by omega)
  have h1 : (BitVec.ofInt 64 (a : Int)).toNat = a := by
    rw [BitVec.ofInt_natCast, BitVec.toNat_ofNat]; exact Nat.mod_eq_of_lt (by omega)
  have h2 : (BitVec.ofInt 64 (b : Int)).toNat = b := by
    rw [BitVec.ofInt_natCast, BitVec.toNat_ofNat]; exact Nat.mod_eq_of_lt (by omega)
  show IntKind.i64.wrap ((BitVec.ofInt 64 (a : Int) ^^^ BitVec.ofInt 64 (b : Int)).toNat : Int) = _
  rw [BitVec.toNat_xor, h1, h2, IntKind.wrap_i64]
  omega
set_option maxRecDepth 100000 in
set_option maxHeartbeats 6400000 in
theorem pick_any (R p : Nat) (n : Int) (w : World) (h : Rd w R p) (hp : p ≤ 1000000) (hn : n ≤ 1000000) :
    Calls Tryz.prog 16 #[.pointer (some ⟨R, 0, none⟩), .int .i64 n] w fun e w' => ∃ x : Int, e = .returned (.int .i64 x) ∧ 0 ≤ x ∧ (1 ≤ n → x < n) ∧ (n < 1 → x = 0) ∧ Rd w' R (p + 1) ∧ w.grownBy w' (some R) := by
  have HN := toHid (h.next (p + 1))
  obtain ⟨v, m, hm, hx, hb⟩ := h.box
  obtain ⟨a, cap, rfl, h1, h2, h3⟩ := hb
  unfold maxLen at h2
  have hlt := lt_blk hx
  have c0 := cell_blkD hx (i := 0) rfl
  have c1 := cell_blkD hx (i := 1) rfl
  have f1 : w.frozen? ⟨R, 1, none⟩ = false := by simp [World.frozen?, hx]
  have HG : Hid (w.grownBy (w.setCell ⟨R, 1, none⟩ (.int .i64 ((p + 1 : Nat) : Int))) (some R)) := grown_box w R 1 _
  rw [show ((p + 1 : Nat) : Int) = (p : Int) + 1 by omega] at HG HN
  have d0 : (w.setCell ⟨R, 1, none⟩ (.int .i64 ((p : Int) + 1))).cell? ⟨R, 0, none⟩ = some (.slice a m cap) := by
    rw [World.cell?_setCell_other w ⟨R, 1, none⟩ ⟨R, 0, none⟩ _ (by simp)]; exact c0
  by_cases hn1 : n < 1
  · go_enter Tryz.func16, Tryz.ntmps16
    go_wp2
    go_ret
    exact ⟨0, rfl, Int.le_refl _, fun h => absurd h (by omega), fun _ => rfl, HN.out, HG.out⟩
  · by_cases hm0 : m = 0
    · subst hm0
      go_enter Tryz.func16, Tryz.ntmps16
      go_wp2
      go_ret
      exact ⟨0, rfl, Int.le_refl _, (by first | omega | exact fun _ => by omega), (by first | trivial | exact fun _ => rfl | omega), HN.out, HG.out⟩
    · obtain ⟨b, off, x00, rfl, hbR, hc00, -⟩ := h3 0 (by omega)
      have HNB : Hid (b ≠ R) := by show b ≠ R; omega
      have H3 : Hid (∀ i, i < m → ∃ x, (w.setCell ⟨R, 1, none⟩ (.int .i64 ((p : Int) + 1))).cell? ⟨b, off + i, none⟩ = some (.int .u8 x) ∧ 0 ≤ x ∧ x < 256) := fun i hi => by
        obtain ⟨b', off', x, e, -, hc, hr⟩ := h3 i hi
        cases e
        refine ⟨x, ?_, hr⟩
        rw [World.cell?_of_block (w := w) (Below.heap_setCell w ⟨R, 1, none⟩ _ b HNB.out)]
        exact hc
      have d1 : (w.setCell ⟨R, 1, none⟩ (.int .i64 ((p : Int) + 1))).cell? ⟨R, 1, none⟩ = some (.int .i64 ((p : Int) + 1)) := World.cell?_setCell_same w ⟨R, 1, none⟩ _ c1
      clear h3 hc00
      have hp0 : (0 : Int) ≤ (p : Int) := by omega
      have hmp : (0 : Int) < (m : Int) := by omega
      have hmz : ¬ (m : Int) = 0 := by omega
      have hmb : ((m : Int) == 0) = false := by simp; omega
      have hnz : ¬ n = 0 := by omega
      by_cases hpm : (p : Int) < (m : Int)
      · obtain ⟨x, e0, hx0, hx1⟩ := H3.out p (by omega)
        go_enter Tryz.func16, Tryz.ntmps16
        go_wp2
        go_ret
        exact ⟨x % n, rfl, Int.emod_nonneg _ hnz, (by first | exact Int.emod_lt_of_pos _ (by omega) | exact fun _ => Int.emod_lt_of_pos _ (by omega)), (by first | omega | exact fun _ => by omega), HN.out, HG.out⟩
      · obtain ⟨i1, hi1⟩ : ∃ i : Nat, (p : Int) % (m : Int) = (i : Int) := ⟨p % m, by simp⟩
        obtain ⟨i2, hi2⟩ : ∃ i : Nat, ((p : Int) * 7 + 3) % (m : Int) = (i : Int) := ⟨(p * 7 + 3) % m, by simp⟩
        have l1 : (0 : Int) ≤ (i1 : Int) := by omega
        have l2 : (i1 : Int) < (m : Int) := by rw [← hi1]; exact Int.emod_lt_of_pos _ hmp
        have l3 : (0 : Int) ≤ (i2 : Int) := by omega
        have l4 : (i2 : Int) < (m : Int) := by rw [← hi2]; exact Int.emod_lt_of_pos _ hmp
        obtain ⟨x1, e1, hx0, hx1⟩ := H3.out i1 (by omega)
        obtain ⟨x2, e2, hx2, hx3⟩ := H3.out i2 (by omega)
        obtain ⟨dv, hdv⟩ : ∃ d : Int, (p : Int) / (m : Int) = d := ⟨_, rfl⟩
        have hd0 : 0 ≤ dv := by rw [← hdv]; exact Int.ediv_nonneg hp0 (by omega)
        have hd1 : dv ≤ 1000000 := by rw [← hdv]; have := Int.ediv_le_self (m : Int) hp0; omega
        have z1 := lt_of_cell e1
        have zR := lt_of_cell d0
        have hw1 : IntKind.i64.wrap ((p : Int) * 7) = (p : Int) * 7 := by rw [IntKind.wrap_i64]; omega
        have hw2 : IntKind.i64.wrap ((p : Int) * 7 + 3) = (p : Int) * 7 + 3 := by rw [IntKind.wrap_i64]; omega
        have hw3 : IntKind.i64.wrap (x1 * 131) = x1 * 131 := by rw [IntKind.wrap_i64]; omega
        have hw4 : IntKind.i64.wrap (x2 * 1117) = x2 * 1117 := by rw [IntKind.wrap_i64]; omega
        have hw5 : IntKind.i64.wrap (x1 * 131 + x2 * 1117) = x1 * 131 + x2 * 1117 := by rw [IntKind.wrap_i64]; omega
        have hw6 : IntKind.i64.wrap ((p : Int) * 29) = (p : Int) * 29 := by rw [IntKind.wrap_i64]; omega
        have hw7 : IntKind.i64.wrap (x1 * 131 + x2 * 1117 + (p : Int) * 29) = x1 * 131 + x2 * 1117 + (p : Int) * 29 := by rw [IntKind.wrap_i64]; omega
        have hw8 : IntKind.i64.wrap (dv * 53) = dv * 53 := by rw [IntKind.wrap_i64]; omega
        have hw9 : IntKind.i64.wrap (x1 * 131 + x2 * 1117 + (p : Int) * 29 + dv * 53) = x1 * 131 + x2 * 1117 + (p : Int) * 29 + dv * 53 := by rw [IntKind.wrap_i64]; omega
        have hwd : IntKind.i64.wrap dv = dv := by rw [IntKind.wrap_i64]; omega
        go_enter Tryz.func16, Tryz.ntmps16
        go_wp2
        generalize (w.setCell ⟨R, 1, none⟩ (.int .i64 ((p : Int) + 1))) = w1 at *
        have hne := Later.some w1
        refine wp_region_later (by kernel_rfl) (by kernel_rfl) ?_
        repeat (go_big_quiet_step (fail))
        refine wpQuiet_nil ?_
        rintro _ ⟨xx, rfl⟩
        have HN2 := toHid (HN.out.far xx.below)
        have HG2 := toHid (grown_on HG.out (grown_of xx.below _))
        have ht0 : 0 ≤ x1 * 131 + x2 * 1117 + (p : Int) * 29 + dv * 53 := by omega
        have ht1 : x1 * 131 + x2 * 1117 + (p : Int) * 29 + dv * 53 ≤ 100000000 := by omega
        generalize x1 * 131 + x2 * 1117 + (p : Int) * 29 + dv * 53 = t at *
        obtain ⟨u, hu0, hu1⟩ : ∃ u : Nat, bits .xor .i64 t (t / 64) = (u : Int) ∧ u < 2 ^ 62 := by
          obtain ⟨tn, rfl⟩ : ∃ tn : Nat, t = tn := ⟨t.toNat, by omega⟩
          refine ⟨tn ^^^ (tn / 64), ?_, Nat.xor_lt_two_pow (by omega) (by omega)⟩
          rw [show ((tn : Int) / 64) = ((tn / 64 : Nat) : Int) by simp]
          exact xor_i64 _ _ (by omega) (by omega)
        have hun : (0 : Int) ≤ (u : Int) := by omega
        go_wp2
        go_ret
        exact ⟨(u : Int) % n, rfl, Int.emod_nonneg _ hnz, (by first | exact Int.emod_lt_of_pos _ (by omega) | exact fun _ => Int.emod_lt_of_pos _ (by omega)), (by first | omega | exact fun _ => by omega), HN2.out, HG2.out⟩
end Go.Proofs.YtibpkhmiahamcaaGreatDoor.Dr
