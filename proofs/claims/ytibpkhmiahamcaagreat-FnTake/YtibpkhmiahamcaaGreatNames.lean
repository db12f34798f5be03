/-
  Joined: Dr1, Names.
-/
import Derived.Test.YtibpkhmiahamcaaGreatTri
import Derived.Test.YtibpkhmiahamcaaGreatLater
import Derived.Test.YtibpkhmiahamcaaGreatTkU
import Derived.Test.YtibpkhmiahamcaaGreatRows2
import Derived.Deep.QuietTactic
import Derived.BigQuiet

/-
 Drawing: a number out of a code, a text out of a list.
-/
namespace Go.Proofs.YtibpkhmiahamcaaGreat.Dr
open Go.RowKit Go.Proofs.YtibpkhmiahamcaaGreat
attribute [local go_sem] Later.cell Later.frozen
set_option linter.unusedSimpArgs false
set_option linter.unusedVariables false

theorem toHid {P : Prop} (h : P) : Hid P := h
/-- Bytes that lie in memory, ahead of block R. -/
def BysAt (w : World) (R : Nat) (v : Value) (n : Nat) : Prop := ∃ a cap, v = .slice a n cap ∧ n ≤ cap ∧ cap ≤ maxLen ∧ ∀ i, i < n → ∃ b off x, a = some ⟨b, off, none⟩ ∧ b < R ∧ w.cell? ⟨b, off + i, none⟩ = some (.int .u8 x) ∧ 0 ≤ x ∧ x < 256
/-- The reader in block R: its code, and how much it has drawn. -/
structure Rd (w : World) (R p : Nat) : Prop where
 box : ∃ v n, n ≤ 2000 ∧ w.heap[R]? = some (.cells #[v, .int .i64 (p : Int)] 87 (0, 0)) ∧ BysAt w R v n
theorem lt_blk {w : World} {b : Nat} {o : Obj} (h : w.heap[b]? = some o) : b < w.heap.size := (Array.getElem?_eq_some_iff.1 h).1
theorem cell_blkD {w : World} {b i : Nat} {C : Array Value} {T : TypeId} {u : Value} (h : w.heap[b]? = some (.cells C T (0, 0))) (hc : C[i]? = some u) : w.cell? ⟨b, i, none⟩ = some u := by simp [World.cell?, h, hc]
theorem Rd.far {w w' : World} {R p : Nat} (h : Rd w R p) (hb : Below w.heap.size w w') : Rd w' R p := by
 obtain ⟨v, n, hn, hx, a, cap, rfl, h1, h2, h3⟩ := h.box
 refine ⟨.slice a n cap, n, hn, (hb.block R (lt_blk hx)).trans hx, a, cap, rfl, h1, h2, fun i hi => ?_⟩
 obtain ⟨b, off, x, e, hbR, hc, hr⟩ := h3 i hi
 exact ⟨b, off, x, e, hbR, cell_keep hb (Nat.le_refl _) hc, hr⟩
/-- What was drawn: one more. -/
theorem Rd.next {w : World} {R p : Nat} (h : Rd w R p) (q : Nat) : Rd (w.setCell ⟨R, 1, none⟩ (.int .i64 (q : Int))) R q := by
 obtain ⟨v, n, hn, hx, hb⟩ := h.box
 obtain ⟨a, cap, rfl, h1, h2, h3⟩ := hb
 have hlt := lt_blk hx
 have hh : (w.setCell ⟨R, 1, none⟩ (.int .i64 (q : Int))).heap[R]? = some (.cells #[.slice a n cap, .int .i64 (q : Int)] 87 (0, 0)) := by
  have h' : w.heap[R] = .cells #[.slice a n cap, .int .i64 (p : Int)] 87 (0, 0) := by simpa [Array.getElem?_eq_getElem hlt] using hx
  show (w.heap.modify R _)[R]? = _
  rw [Array.getElem?_eq_getElem (by simpa using hlt), Array.getElem_modify_self, h']
  rfl
 refine ⟨.slice a n cap, n, hn, hh, a, cap, rfl, h1, h2, fun i hi => ?_⟩
 obtain ⟨b, off, x, e, hbR, hc, hr⟩ := h3 i hi
 refine ⟨b, off, x, e, hbR, ?_, hr⟩
 rw [World.cell?_of_block (w := w) (Below.heap_setCell w ⟨R, 1, none⟩ _ b (by show b ≠ R; omega))]
 exact hc
/-- Blocks behind the reader may turn. -/
theorem Rd.late {w w' : World} {R p : Nat} (h : Rd w R p) (hs : ∀ j, j ≤ R → w'.heap[j]? = w.heap[j]?) : Rd w' R p := by
 obtain ⟨v, n, hn, hx, a, cap, rfl, h1, h2, h3⟩ := h.box
 refine ⟨.slice a n cap, n, hn, (hs R (Nat.le_refl _)).trans hx, a, cap, rfl, h1, h2, fun i hi => ?_⟩
 obtain ⟨b, off, x, e, hbR, hc, hr⟩ := h3 i hi
 refine ⟨b, off, x, e, hbR, ?_, hr⟩
 rw [World.cell?_of_block (w := w) (hs b (by omega))]
 exact hc
theorem grown_cell {w w7 : World} {r : Option Nat} (h : w.grownBy w7 r) {b : Nat} (i : Nat) (v : Value) (hb : w.heap.size ≤ b) : w.grownBy (w7.setCell ⟨b, i, none⟩ v) r :=
 ⟨h.1, h.2, h.3, by simpa using h.4, fun j hj hr => (Below.heap_setCell w7 ⟨b, i, none⟩ v j (by show j ≠ b; omega)).trans (h.5 j hj hr)⟩
theorem grown_row {w w7 : World} {r : Option Nat} (h : w.grownBy w7 r) {b : Nat} (C : Array Value) (hb : w.heap.size ≤ b) : w.grownBy (w7.setRow b C) r :=
 ⟨h.1, h.2, h.3, by simpa using h.4, fun j hj hr => (setRow_other _ _ _ _ (by omega)).trans (h.5 j hj hr)⟩
theorem grown_box (w : World) (R i : Nat) (v : Value) : w.grownBy (w.setCell ⟨R, i, none⟩ v) (some R) :=
 ⟨rfl, rfl, rfl, by simp, fun j _ hr => Below.heap_setCell w ⟨R, i, none⟩ v j (fun e => hr (by rw [e]))⟩
theorem grown_on {w w1 w2 : World} {r : Option Nat} (h : w.grownBy w1 r) (k : w1.grownBy w2 r) : w.grownBy w2 r :=
 ⟨k.1.trans h.1, k.2.trans h.2, k.3.trans h.3, Nat.le_trans h.4 k.4, fun j hj hr => (k.5 j (Nat.lt_of_lt_of_le hj h.4) hr).trans (h.5 j hj hr)⟩
theorem grown_of {w w' : World} (h : Below w.heap.size w w') (r : Option Nat) : w.grownBy w' r := ⟨h.1, h.2, h.3, h.4, fun k hk _ => h.5 k hk⟩
theorem xor_i64 (a b : Nat) (ha : a < 4611686018427387904) (hb : b < 4611686018427387904) : bits .xor .i64 (a : Int) (b : Int) = ((a ^^^ b : Nat) : Int) := by
 have hx : a ^^^ b < 2 ^ 62 := Nat.xor_lt_two_pow (by omega) (by omega)
 have h1 : (BitVec.ofInt 64 (a : Int)).toNat = a := by
  rw [BitVec.ofInt_natCast, BitVec.toNat_ofNat]; exact Nat.mod_eq_of_lt (by omega)
 have h2 : (BitVec.ofInt 64 (b : Int)).toNat = b := by
  rw [BitVec.ofInt_natCast, BitVec.toNat_ofNat]; exact Nat.mod_eq_of_lt (by omega)
 show IntKind.i64.wrap ((BitVec.ofInt 64 (a : Int) ^^^ BitVec.ofInt 64 (b : Int)).toNat : Int) = _
 rw [BitVec.toNat_xor, h1, h2, IntKind.wrap_i64]
 omega
set_option maxRecDepth 100000 in
set_option maxHeartbeats 6400000 in
theorem pick_any (R p : Nat) (n : Int) (w : World) (h : Rd w R p) (hp : p ≤ 1000000) (hn : n ≤ 1000000) :
  Calls Tryz.prog 23 #[.pointer (some ⟨R, 0, none⟩), .int .i64 n] w fun e w' => ∃ x : Int, e = .returned (.int .i64 x) ∧ 0 ≤ x ∧ (1 ≤ n → x < n) ∧ (n < 1 → x = 0) ∧ Rd w' R (p + 1) ∧ w.grownBy w' (some R) := by
 have HN := toHid (h.next (p + 1))
 obtain ⟨v, m, hm, hx, hb⟩ := h.box
 obtain ⟨a, cap, rfl, h1, h2, h3⟩ := hb
 unfold maxLen at h2
 have hlt := lt_blk hx
 have c0 := cell_blkD hx (i := 0) rfl
 have c1 := cell_blkD hx (i := 1) rfl
 have f1 : w.frozen? ⟨R, 1, none⟩ = false := by simp [World.frozen?, hx]
 have HG : Hid (w.grownBy (w.setCell ⟨R, 1, none⟩ (.int .i64 ((p + 1 : Nat) : Int))) (some R)) := grown_box w R 1 _
 rw [show ((p + 1 : Nat) : Int) = (p : Int) + 1 by omega] at HG HN
 have d0 : (w.setCell ⟨R, 1, none⟩ (.int .i64 ((p : Int) + 1))).cell? ⟨R, 0, none⟩ = some (.slice a m cap) := by
  rw [World.cell?_setCell_other w ⟨R, 1, none⟩ ⟨R, 0, none⟩ _ (by simp)]; exact c0
 by_cases hn1 : n < 1
 ·go_enter Tryz.func23, Tryz.ntmps23
  go_wp2
  go_ret
  exact ⟨0, rfl, Int.le_refl _, fun h => absurd h (by omega), fun _ => rfl, HN.out, HG.out⟩
 ·by_cases hm0 : m = 0
  ·subst hm0
   go_enter Tryz.func23, Tryz.ntmps23
   go_wp2
   go_ret
   exact ⟨0, rfl, Int.le_refl _, (by first | omega | exact fun _ => by omega), (by first | trivial | exact fun _ => rfl | omega), HN.out, HG.out⟩
  ·obtain ⟨b, off, x00, rfl, hbR, hc00, -⟩ := h3 0 (by omega)
   have HNB : Hid (b ≠ R) := by show b ≠ R; omega
   have H3 : Hid (∀ i, i < m → ∃ x, (w.setCell ⟨R, 1, none⟩ (.int .i64 ((p : Int) + 1))).cell? ⟨b, off + i, none⟩ = some (.int .u8 x) ∧ 0 ≤ x ∧ x < 256) := fun i hi => by
    obtain ⟨b', off', x, e, -, hc, hr⟩ := h3 i hi
    cases e
    refine ⟨x, ?_, hr⟩
    rw [World.cell?_of_block (w := w) (Below.heap_setCell w ⟨R, 1, none⟩ _ b HNB.out)]
    exact hc
   have d1 : (w.setCell ⟨R, 1, none⟩ (.int .i64 ((p : Int) + 1))).cell? ⟨R, 1, none⟩ = some (.int .i64 ((p : Int) + 1)) := World.cell?_setCell_same w ⟨R, 1, none⟩ _ c1
   clear h3 hc00
   have hp0 : (0 : Int) ≤ (p : Int) := by omega
   have hmp : (0 : Int) < (m : Int) := by omega
   have hmz : ¬ (m : Int) = 0 := by omega
   have hmb : ((m : Int) == 0) = false := by simp; omega
   have hnz : ¬ n = 0 := by omega
   by_cases hpm : (p : Int) < (m : Int)
   ·obtain ⟨x, e0, hx0, hx1⟩ := H3.out p (by omega)
    go_enter Tryz.func23, Tryz.ntmps23
    go_wp2
    go_ret
    exact ⟨x % n, rfl, Int.emod_nonneg _ hnz, (by first | exact Int.emod_lt_of_pos _ (by omega) | exact fun _ => Int.emod_lt_of_pos _ (by omega)), (by first | omega | exact fun _ => by omega), HN.out, HG.out⟩
   ·obtain ⟨i1, hi1⟩ : ∃ i : Nat, (p : Int) % (m : Int) = (i : Int) := ⟨p % m, by simp⟩
    obtain ⟨i2, hi2⟩ : ∃ i : Nat, ((p : Int) * 7 + 3) % (m : Int) = (i : Int) := ⟨(p * 7 + 3) % m, by simp⟩
    have l1 : (0 : Int) ≤ (i1 : Int) := by omega
    have l2 : (i1 : Int) < (m : Int) := by rw [← hi1]; exact Int.emod_lt_of_pos _ hmp
    have l3 : (0 : Int) ≤ (i2 : Int) := by omega
    have l4 : (i2 : Int) < (m : Int) := by rw [← hi2]; exact Int.emod_lt_of_pos _ hmp
    obtain ⟨x1, e1, hx0, hx1⟩ := H3.out i1 (by omega)
    obtain ⟨x2, e2, hx2, hx3⟩ := H3.out i2 (by omega)
    obtain ⟨dv, hdv⟩ : ∃ d : Int, (p : Int) / (m : Int) = d := ⟨_, rfl⟩
    have hd0 : 0 ≤ dv := by rw [← hdv]; exact Int.ediv_nonneg hp0 (by omega)
    have hd1 : dv ≤ 1000000 := by rw [← hdv]; have := Int.ediv_le_self (m : Int) hp0; omega
    have z1 := lt_of_cell e1
    have zR := lt_of_cell d0
    have hw1 : IntKind.i64.wrap ((p : Int) * 7) = (p : Int) * 7 := by rw [IntKind.wrap_i64]; omega
    have hw2 : IntKind.i64.wrap ((p : Int) * 7 + 3) = (p : Int) * 7 + 3 := by rw [IntKind.wrap_i64]; omega
    have hw3 : IntKind.i64.wrap (x1 * 131) = x1 * 131 := by rw [IntKind.wrap_i64]; omega
    have hw4 : IntKind.i64.wrap (x2 * 1117) = x2 * 1117 := by rw [IntKind.wrap_i64]; omega
    have hw5 : IntKind.i64.wrap (x1 * 131 + x2 * 1117) = x1 * 131 + x2 * 1117 := by rw [IntKind.wrap_i64]; omega
    have hw6 : IntKind.i64.wrap ((p : Int) * 29) = (p : Int) * 29 := by rw [IntKind.wrap_i64]; omega
    have hw7 : IntKind.i64.wrap (x1 * 131 + x2 * 1117 + (p : Int) * 29) = x1 * 131 + x2 * 1117 + (p : Int) * 29 := by rw [IntKind.wrap_i64]; omega
    have hw8 : IntKind.i64.wrap (dv * 53) = dv * 53 := by rw [IntKind.wrap_i64]; omega
    have hw9 : IntKind.i64.wrap (x1 * 131 + x2 * 1117 + (p : Int) * 29 + dv * 53) = x1 * 131 + x2 * 1117 + (p : Int) * 29 + dv * 53 := by rw [IntKind.wrap_i64]; omega
    have hwd : IntKind.i64.wrap dv = dv := by rw [IntKind.wrap_i64]; omega
    go_enter Tryz.func23, Tryz.ntmps23
    go_wp2
    generalize (w.setCell ⟨R, 1, none⟩ (.int .i64 ((p : Int) + 1))) = w1 at *
    have hne := Later.some w1
    refine wp_region_later (by kernel_rfl) (by kernel_rfl) ?_
    repeat (go_big_quiet_step (fail))
    refine wpQuiet_nil ?_
    rintro _ ⟨xx, rfl⟩
    have HN2 := toHid (HN.out.far xx.below)
    have HG2 := toHid (grown_on HG.out (grown_of xx.below _))
    have ht0 : 0 ≤ x1 * 131 + x2 * 1117 + (p : Int) * 29 + dv * 53 := by omega
    have ht1 : x1 * 131 + x2 * 1117 + (p : Int) * 29 + dv * 53 ≤ 100000000 := by omega
    generalize x1 * 131 + x2 * 1117 + (p : Int) * 29 + dv * 53 = t at *
    obtain ⟨u, hu0, hu1⟩ : ∃ u : Nat, bits .xor .i64 t (t / 64) = (u : Int) ∧ u < 2 ^ 62 := by
     obtain ⟨tn, rfl⟩ : ∃ tn : Nat, t = tn := ⟨t.toNat, by omega⟩
     refine ⟨tn ^^^ (tn / 64), ?_, Nat.xor_lt_two_pow (by omega) (by omega)⟩
     rw [show ((tn : Int) / 64) = ((tn / 64 : Nat) : Int) by simp]
     exact xor_i64 _ _ (by omega) (by omega)
    have hun : (0 : Int) ≤ (u : Int) := by omega
    go_wp2
    go_ret
    exact ⟨(u : Int) % n, rfl, Int.emod_nonneg _ hnz, (by first | exact Int.emod_lt_of_pos _ (by omega) | exact fun _ => Int.emod_lt_of_pos _ (by omega)), (by first | omega | exact fun _ => by omega), HN2.out, HG2.out⟩
end Go.Proofs.YtibpkhmiahamcaaGreat.Dr

/-
  impl: names of a list, kinds, points.
-/
namespace Go.Proofs.YtibpkhmiahamcaaGreat
open Go.RowKit

theorem asc_zero (l : List Tri) : ascB l 0 = true := by simp [ascB]
theorem asc_succ (l : List Tri) (m : Nat) : ascB l (m + 1) = !geB (at' l m).s (at' l (m + 1)).s := by simp [ascB]

/-- The cells of one element, in w. -/
def TriAt (w : World) (b o : Nat) (t : Tri) : Prop :=
  w.cell? ⟨b, o, none⟩ = some (.string t.s) ∧ w.cell? ⟨b, o + 1, none⟩ = some (.int .i64 t.x) ∧ w.cell? ⟨b, o + 2, none⟩ = some (.int .i64 t.y)
theorem TriAt.keep {w w' : World} {b o B : Nat} {t : Tri} (h : TriAt w b o t) (hb : Below B w w') (hB : w.heap.size ≤ B) : TriAt w' b o t :=
  ⟨cell_keep hb hB h.1, cell_keep hb hB h.2.1, cell_keep hb hB h.2.2⟩

set_option maxHeartbeats 1600000 in
theorem namesKind_any (v : Value) (l : List Tri) (most : Nat) (w : World) (hv : TrisAt w v l) (hs : ∀ t ∈ l, t.s.size ≤ maxLen) (hm : most ≤ 1000) :
    Calls Tryz.prog 87 #[v, .int .i64 most, .func (.func 88) #[] #[]] w fun e w' => e = .returned (.bool (namesB l most)) ∧ Below w.heap.size w w' := by
  obtain ⟨a, cap, rfl, hlc, hcm, hc⟩ := hv
  unfold maxLen at hcm
  have HC : Hid (∀ i t, l[i]? = some t → ∃ b off, a = some ⟨b, off, none⟩ ∧ TriAt w b (off + i * 3) t) := hc
  have HS : Hid (∀ t ∈ l, t.s.size ≤ maxLen) := hs
  clear hc hs
  by_cases hn : (most : Int) < (l.length : Int)
  · have e : namesB l most = false := by simp [namesB]; omega
    rw [e]; clear e
    go_enter Tryz.func87, Tryz.ntmps87
    go_wp2
    go_ret
    exact ⟨rfl, Below.refl _ _⟩
  · have e : namesB l most = allB l.length fun i => nameB (at' l i).s && ascB l i := by
      have : l.length ≤ most := by omega
      simp [namesB, this]
    rw [e]; clear e
    go_enter Tryz.func87, Tryz.ntmps87
    go_wp2
    go_loopw [7, 8, 15] (fun _ _ i wr => ∃ k : Nat, k ≤ l.length ∧ i = .int .i64 k ∧ Below w.heap.size w wr ∧ Hid (∀ j, j < k → (nameB (at' l j).s && ascB l j) = true)) (fun _ _ i _ => l.length - (intOf i).toNat)
    case atStart => exact ⟨0, Nat.zero_le _, rfl, Below.refl _ _, fun j hj => absurd hj (Nat.not_lt_zero _)⟩
    case round =>
      obtain ⟨k, hk, rfl, hb, HA⟩ := hrel
      by_cases hlt : k < l.length
      · obtain ⟨b, off, rfl, hc⟩ := HC.out k _ (at_get hlt)
        obtain ⟨d0, d1, d2⟩ := hc.keep hb (Nat.le_refl _)
        have hsk : (at' l k).s.size ≤ maxLen := HS.out _ (List.mem_of_getElem? (at_get hlt))
        have BAD : Hid (nameB (at' l k).s = false → allB l.length (fun i => nameB (at' l i).s && ascB l i) = false) := fun h => allB_false hlt (by simp [h])
        have BAD' : Hid (ascB l k = false → allB l.length (fun i => nameB (at' l i).s && ascB l i) = false) := fun h => allB_false hlt (by simp [h])
        have hk0 : (0 : Int) ≤ (k : Int) := by omega
        have hk1 : (k : Int) < (l.length : Int) := by omega
        have hbl := lt_of_cell d0
        go_wp2_with fail
        refine (kindName_any (at' l k) _).mono ?_
        rintro e w1 ⟨rfl, hb1⟩
        go_wp2_with fail
        refine (nameOk_any (at' l k).s _ hsk).mono ?_
        rintro e w2 ⟨rfl, hb2⟩
        have hb12 : Below (wr.alloc (.cells #[.string (at' l k).s, .int .i64 (at' l k).x, .int .i64 (at' l k).y] 107)).heap.size (wr.alloc (.cells #[.string (at' l k).s, .int .i64 (at' l k).x, .int .i64 (at' l k).y] 107)) w2 := below_step hb1 hb2
        have hbw : Below w.heap.size w w2 := below_step (hb.alloc hb.size _) hb12
        have tk : TriAt w2 b (off + k * 3) (at' l k) := hc.keep hbw (Nat.le_refl _)
        have tn : TriAt w2 wr.heap.size 0 (at' l k) := TriAt.keep (w := wr.alloc (.cells #[.string (at' l k).s, .int .i64 (at' l k).x, .int .i64 (at' l k).y] 107)) ⟨by simp, by simp, by simp⟩ hb12 (Nat.le_refl _)
        clear d0 d1 d2 hb1 hb2 hb12
        cases hnm : nameB (at' l k).s
        · have HN : Hid (nameB (at' l k).s = false) := hnm
          clear hnm
          go_wp2
          go_ret
          exact ⟨ret_bool (BAD.out HN.out).symm, hbw⟩
        · have HN : Hid (nameB (at' l k).s = true) := hnm
          clear hnm
          by_cases hkz : k = 0
          · subst hkz
            go_wp2
            go_quiet (fail)
            go_wp2
            exact ⟨⟨1, by omega, by go_num, below_drewN hbw _, fun j hj => by obtain rfl : j = 0 := by omega
                                                                              rw [HN.out, asc_zero]; rfl⟩, by simp [intOf]; omega⟩
          · obtain ⟨m, rfl⟩ : ∃ m, k = m + 1 := ⟨k - 1, by omega⟩
            obtain ⟨b', off', hbo, hcm'⟩ := HC.out m _ (at_get (by omega))
            cases hbo
            have tm : TriAt w2 b (off + m * 3) (at' l m) := hcm'.keep hbw (Nat.le_refl _)
            have HE : Hid (ascB l (m + 1) = !geB (at' l m).s (at' l (m + 1)).s) := asc_succ l m
            obtain ⟨m0, m1, m2⟩ := tm
            obtain ⟨n0, n1, n2⟩ := tn
            have hi0 : (0 : Int) ≤ (m : Int) := by omega
            have hi1 : (m : Int) < (l.length : Int) := by omega
            have hi2 : (0 : Int) < (m : Int) + 1 := by omega
            have hw1 : IntKind.i64.wrap (m : Int) = (m : Int) := by rw [IntKind.wrap_i64]; omega
            have hw2 : IntKind.i64.wrap ((m : Int) + 1 - 1) = (m : Int) := by rw [IntKind.wrap_i64]; omega
            clear hc hcm' tk
            go_wp2
            go_region_held3 (fun w' => w'.cell? ⟨b, off + m * 3, none⟩ = some (.string (at' l m).s) ∧ w'.cell? ⟨b, off + m * 3 + 1, none⟩ = some (.int .i64 (at' l m).x) ∧ w'.cell? ⟨b, off + m * 3 + 2, none⟩ = some (.int .i64 (at' l m).y) ∧
                w'.cell? ⟨wr.heap.size, 0, none⟩ = some (.string (at' l (m + 1)).s) ∧ w'.cell? ⟨wr.heap.size, 1, none⟩ = some (.int .i64 (at' l (m + 1)).x) ∧ w'.cell? ⟨wr.heap.size, 2, none⟩ = some (.int .i64 (at' l (m + 1)).y) ∧ Below w2.heap.size w2 w')
              (first | (refine ⟨by simp [*, go_sem], by simp [*, go_sem], by simp [*, go_sem], by simp [*, go_sem], by simp [*, go_sem], by simp [*, go_sem], ?_⟩; exact (Below.refl _ _).drew) | (obtain ⟨s0, s1, s2, s3, s4, s5, s6⟩ := ‹_ ∧ _ ∧ _ ∧ _ ∧ _ ∧ _ ∧ _›; exact ⟨cell_keep hb3 (Nat.le_refl _) s0, cell_keep hb3 (Nat.le_refl _) s1, cell_keep hb3 (Nat.le_refl _) s2, cell_keep hb3 (Nat.le_refl _) s3, cell_keep hb3 (Nat.le_refl _) s4, cell_keep hb3 (Nat.le_refl _) s5, below_step s6 hb3⟩))
              (first | (go_at_call 88; refine (kindName_any _ _).mono ?_; rintro e w3 ⟨rfl, hb3⟩))
            go_wp2
            · rename_i h
              obtain ⟨_, _, _, _, _, _, hS⟩ := ‹_ ∧ _ ∧ _ ∧ _ ∧ _ ∧ _ ∧ Below w2.heap.size w2 w3›
              go_ret
              exact ⟨ret_bool (BAD'.out (by rw [HE.out]; unfold geB; rw [h]; rfl)).symm, below_step hbw hS⟩
            · rename_i h
              obtain ⟨_, _, _, _, _, _, hS⟩ := ‹_ ∧ _ ∧ _ ∧ _ ∧ _ ∧ _ ∧ Below w2.heap.size w2 w3›
              exact ⟨⟨m + 1 + 1, by omega, by go_num, below_step hbw hS, fun j hj => if e : j = m + 1 then by rw [e, HN.out, HE.out]; unfold geB; rw [h]; rfl else HA.out j (by omega)⟩, by simp [intOf]; omega⟩
      · go_wp2
        go_ret
        exact ⟨ret_bool (allB_true fun j hj => HA.out j (by omega)).symm, hb⟩
set_option maxHeartbeats 1600000 in
theorem namesPoint_any (v : Value) (l : List Tri) (most : Nat) (w : World) (hv : TrisAt w v l) (hs : ∀ t ∈ l, t.s.size ≤ maxLen) (hm : most ≤ 1000) :
    Calls Tryz.prog 90 #[v, .int .i64 most, .func (.func 91) #[] #[]] w fun e w' => e = .returned (.bool (namesB l most)) ∧ Below w.heap.size w w' := by
  obtain ⟨a, cap, rfl, hlc, hcm, hc⟩ := hv
  unfold maxLen at hcm
  have HC : Hid (∀ i t, l[i]? = some t → ∃ b off, a = some ⟨b, off, none⟩ ∧ TriAt w b (off + i * 3) t) := hc
  have HS : Hid (∀ t ∈ l, t.s.size ≤ maxLen) := hs
  clear hc hs
  by_cases hn : (most : Int) < (l.length : Int)
  · have e : namesB l most = false := by simp [namesB]; omega
    rw [e]; clear e
    go_enter Tryz.func90, Tryz.ntmps90
    go_wp2
    go_ret
    exact ⟨rfl, Below.refl _ _⟩
  · have e : namesB l most = allB l.length fun i => nameB (at' l i).s && ascB l i := by
      have : l.length ≤ most := by omega
      simp [namesB, this]
    rw [e]; clear e
    go_enter Tryz.func90, Tryz.ntmps90
    go_wp2
    go_loopw [7, 8, 15] (fun _ _ i wr => ∃ k : Nat, k ≤ l.length ∧ i = .int .i64 k ∧ Below w.heap.size w wr ∧ Hid (∀ j, j < k → (nameB (at' l j).s && ascB l j) = true)) (fun _ _ i _ => l.length - (intOf i).toNat)
    case atStart => exact ⟨0, Nat.zero_le _, rfl, Below.refl _ _, fun j hj => absurd hj (Nat.not_lt_zero _)⟩
    case round =>
      obtain ⟨k, hk, rfl, hb, HA⟩ := hrel
      by_cases hlt : k < l.length
      · obtain ⟨b, off, rfl, hc⟩ := HC.out k _ (at_get hlt)
        obtain ⟨d0, d1, d2⟩ := hc.keep hb (Nat.le_refl _)
        have hsk : (at' l k).s.size ≤ maxLen := HS.out _ (List.mem_of_getElem? (at_get hlt))
        have BAD : Hid (nameB (at' l k).s = false → allB l.length (fun i => nameB (at' l i).s && ascB l i) = false) := fun h => allB_false hlt (by simp [h])
        have BAD' : Hid (ascB l k = false → allB l.length (fun i => nameB (at' l i).s && ascB l i) = false) := fun h => allB_false hlt (by simp [h])
        have hk0 : (0 : Int) ≤ (k : Int) := by omega
        have hk1 : (k : Int) < (l.length : Int) := by omega
        have hbl := lt_of_cell d0
        go_wp2_with fail
        refine (pointName_any (at' l k) _).mono ?_
        rintro e w1 ⟨rfl, hb1⟩
        go_wp2_with fail
        refine (nameOk_any (at' l k).s _ hsk).mono ?_
        rintro e w2 ⟨rfl, hb2⟩
        have hb12 : Below (wr.alloc (.cells #[.string (at' l k).s, .int .i64 (at' l k).x, .int .i64 (at' l k).y] 109)).heap.size (wr.alloc (.cells #[.string (at' l k).s, .int .i64 (at' l k).x, .int .i64 (at' l k).y] 109)) w2 := below_step hb1 hb2
        have hbw : Below w.heap.size w w2 := below_step (hb.alloc hb.size _) hb12
        have tk : TriAt w2 b (off + k * 3) (at' l k) := hc.keep hbw (Nat.le_refl _)
        have tn : TriAt w2 wr.heap.size 0 (at' l k) := TriAt.keep (w := wr.alloc (.cells #[.string (at' l k).s, .int .i64 (at' l k).x, .int .i64 (at' l k).y] 109)) ⟨by simp, by simp, by simp⟩ hb12 (Nat.le_refl _)
        clear d0 d1 d2 hb1 hb2 hb12
        cases hnm : nameB (at' l k).s
        · have HN : Hid (nameB (at' l k).s = false) := hnm
          clear hnm
          go_wp2
          go_ret
          exact ⟨ret_bool (BAD.out HN.out).symm, hbw⟩
        · have HN : Hid (nameB (at' l k).s = true) := hnm
          clear hnm
          by_cases hkz : k = 0
          · subst hkz
            go_wp2
            go_quiet (fail)
            go_wp2
            exact ⟨⟨1, by omega, by go_num, below_drewN hbw _, fun j hj => by obtain rfl : j = 0 := by omega
                                                                              rw [HN.out, asc_zero]; rfl⟩, by simp [intOf]; omega⟩
          · obtain ⟨m, rfl⟩ : ∃ m, k = m + 1 := ⟨k - 1, by omega⟩
            obtain ⟨b', off', hbo, hcm'⟩ := HC.out m _ (at_get (by omega))
            cases hbo
            have tm : TriAt w2 b (off + m * 3) (at' l m) := hcm'.keep hbw (Nat.le_refl _)
            have HE : Hid (ascB l (m + 1) = !geB (at' l m).s (at' l (m + 1)).s) := asc_succ l m
            obtain ⟨m0, m1, m2⟩ := tm
            obtain ⟨n0, n1, n2⟩ := tn
            have hi0 : (0 : Int) ≤ (m : Int) := by omega
            have hi1 : (m : Int) < (l.length : Int) := by omega
            have hi2 : (0 : Int) < (m : Int) + 1 := by omega
            have hw1 : IntKind.i64.wrap (m : Int) = (m : Int) := by rw [IntKind.wrap_i64]; omega
            have hw2 : IntKind.i64.wrap ((m : Int) + 1 - 1) = (m : Int) := by rw [IntKind.wrap_i64]; omega
            clear hc hcm' tk
            go_wp2
            go_region_held3 (fun w' => w'.cell? ⟨b, off + m * 3, none⟩ = some (.string (at' l m).s) ∧ w'.cell? ⟨b, off + m * 3 + 1, none⟩ = some (.int .i64 (at' l m).x) ∧ w'.cell? ⟨b, off + m * 3 + 2, none⟩ = some (.int .i64 (at' l m).y) ∧
                w'.cell? ⟨wr.heap.size, 0, none⟩ = some (.string (at' l (m + 1)).s) ∧ w'.cell? ⟨wr.heap.size, 1, none⟩ = some (.int .i64 (at' l (m + 1)).x) ∧ w'.cell? ⟨wr.heap.size, 2, none⟩ = some (.int .i64 (at' l (m + 1)).y) ∧ Below w2.heap.size w2 w')
              (first | (refine ⟨by simp [*, go_sem], by simp [*, go_sem], by simp [*, go_sem], by simp [*, go_sem], by simp [*, go_sem], by simp [*, go_sem], ?_⟩; exact (Below.refl _ _).drew) | (obtain ⟨s0, s1, s2, s3, s4, s5, s6⟩ := ‹_ ∧ _ ∧ _ ∧ _ ∧ _ ∧ _ ∧ _›; exact ⟨cell_keep hb3 (Nat.le_refl _) s0, cell_keep hb3 (Nat.le_refl _) s1, cell_keep hb3 (Nat.le_refl _) s2, cell_keep hb3 (Nat.le_refl _) s3, cell_keep hb3 (Nat.le_refl _) s4, cell_keep hb3 (Nat.le_refl _) s5, below_step s6 hb3⟩))
              (first | (go_at_call 91; refine (pointName_any _ _).mono ?_; rintro e w3 ⟨rfl, hb3⟩))
            go_wp2
            · rename_i h
              obtain ⟨_, _, _, _, _, _, hS⟩ := ‹_ ∧ _ ∧ _ ∧ _ ∧ _ ∧ _ ∧ Below w2.heap.size w2 w3›
              go_ret
              exact ⟨ret_bool (BAD'.out (by rw [HE.out]; unfold geB; rw [h]; rfl)).symm, below_step hbw hS⟩
            · rename_i h
              obtain ⟨_, _, _, _, _, _, hS⟩ := ‹_ ∧ _ ∧ _ ∧ _ ∧ _ ∧ _ ∧ Below w2.heap.size w2 w3›
              exact ⟨⟨m + 1 + 1, by omega, by go_num, below_step hbw hS, fun j hj => if e : j = m + 1 then by rw [e, HN.out, HE.out]; unfold geB; rw [h]; rfl else HA.out j (by omega)⟩, by simp [intOf]; omega⟩
      · go_wp2
        go_ret
        exact ⟨ret_bool (allB_true fun j hj => HA.out j (by omega)).symm, hb⟩
end Go.Proofs.YtibpkhmiahamcaaGreat
