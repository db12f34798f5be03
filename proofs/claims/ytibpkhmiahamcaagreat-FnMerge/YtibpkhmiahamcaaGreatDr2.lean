import Derived.Test.YtibpkhmiahamcaaGreatLater
import Derived.Test.YtibpkhmiahamcaaGreatTkU
import Derived.Test.YtibpkhmiahamcaaGreatFits1
set_option linter.unusedSimpArgs false
set_option linter.unusedVariables false
namespace Go.Proofs.YtibpkhmiahamcaaGreat.Dr
open Go.RowKit Go.Proofs.YtibpkhmiahamcaaGreat
attribute [local go_sem] Later.cell Later.frozen
theorem toHid {P : Prop} (h : P) : Hid P := h
def BysAt (w : World) (R : Nat) (v : Value) (n : Nat) : Prop := ∃ a cap, v = .slice a n cap ∧ n ≤ cap ∧ cap ≤ maxLen ∧ ∀ i, i < n → ∃ b off x, a = some ⟨b, off, none⟩ ∧ b < R ∧ w.cell? ⟨b, off + i, none⟩ = some (.int .u8 x) ∧ 0 ≤ x ∧ x < 256
structure Rd (w : World) (R p : Nat) : Prop where
 box : ∃ v n, n ≤ 2000 ∧ w.heap[R]? = some (.cells #[v, .int .i64 (p : Int)] 87 (0, 0)) ∧ BysAt w R v n
theorem lt_blk {w : World} {b : Nat} {o : Obj} (h : w.heap[b]? = some o) : b < w.heap.size := (Array.getElem?_eq_some_iff.1 h).1
theorem cell_blkD {w : World} {b i : Nat} {C : Array Value} {T : TypeId} {u : Value} (h : w.heap[b]? = some (.cells C T (0, 0))) (hc : C[i]? = some u) : w.cell? ⟨b, i, none⟩ = some u := by simp [World.cell?, h, hc]
theorem Rd.far {w w' : World} {R p : Nat} (h : Rd w R p) (hb : Below w.heap.size w w') : Rd w' R p := by
 obtain ⟨v, n, hn, hx, a, cap, rfl, h1, h2, h3⟩ := h.box
 refine ⟨.slice a n cap, n, hn, (hb.block R (lt_blk hx)).trans hx, a, cap, rfl, h1, h2, fun i hi => ?_⟩
 obtain ⟨b, off, x, e, hbR, hc, hr⟩ := h3 i hi
 exact ⟨b, off, x, e, hbR, cell_keep hb (Nat.le_refl _) hc, hr⟩
theorem Rd.next {w : World} {R p : Nat} (h : Rd w R p) (q : Nat) : Rd (w.setCell ⟨R, 1, none⟩ (.int .i64 (q : Int))) R q := by
 obtain ⟨v, n, hn, hx, hb⟩ := h.box
 obtain ⟨a, cap, rfl, h1, h2, h3⟩ := hb
 have hlt := lt_blk hx
 have hh : (w.setCell ⟨R, 1, none⟩ (.int .i64 (q : Int))).heap[R]? = some (.cells #[.slice a n cap, .int .i64 (q : Int)] 87 (0, 0)) := by
  have h' : w.heap[R] = .cells #[.slice a n cap, .int .i64 (p : Int)] 87 (0, 0) := by simpa [Array.getElem?_eq_getElem hlt] using hx
  show (w.heap.modify R _)[R]? = _
  rw [Array.getElem?_eq_getElem (by simpa using hlt), Array.getElem_modify_self, h']
  rfl
 refine ⟨.slice a n cap, n, hn, hh, a, cap, rfl, h1, h2, fun i hi => ?_⟩
 obtain ⟨b, off, x, e, hbR, hc, hr⟩ := h3 i hi
 refine ⟨b, off, x, e, hbR, ?_, hr⟩
 rw [World.cell?_of_block (w := w) (Below.heap_setCell w ⟨R, 1, none⟩ _ b (by show b ≠ R; omega))]
 exact hc
theorem Rd.late {w w' : World} {R p : Nat} (h : Rd w R p) (hs : ∀ j, j ≤ R → w'.heap[j]? = w.heap[j]?) : Rd w' R p := by
 obtain ⟨v, n, hn, hx, a, cap, rfl, h1, h2, h3⟩ := h.box
 refine ⟨.slice a n cap, n, hn, (hs R (Nat.le_refl _)).trans hx, a, cap, rfl, h1, h2, fun i hi => ?_⟩
 obtain ⟨b, off, x, e, hbR, hc, hr⟩ := h3 i hi
 refine ⟨b, off, x, e, hbR, ?_, hr⟩
 rw [World.cell?_of_block (w := w) (hs b (by omega))]
 exact hc
theorem grown_cell {w w7 : World} {r : Option Nat} (h : w.grownBy w7 r) {b : Nat} (i : Nat) (v : Value) (hb : w.heap.size ≤ b) : w.grownBy (w7.setCell ⟨b, i, none⟩ v) r :=
 ⟨h.1, h.2, h.3, by simpa using h.4, fun j hj hr => (Below.heap_setCell w7 ⟨b, i, none⟩ v j (by show j ≠ b; omega)).trans (h.5 j hj hr)⟩
theorem grown_row {w w7 : World} {r : Option Nat} (h : w.grownBy w7 r) {b : Nat} (C : Array Value) (hb : w.heap.size ≤ b) : w.grownBy (w7.setRow b C) r :=
 ⟨h.1, h.2, h.3, by simpa using h.4, fun j hj hr => (setRow_other _ _ _ _ (by omega)).trans (h.5 j hj hr)⟩
theorem grown_box (w : World) (R i : Nat) (v : Value) : w.grownBy (w.setCell ⟨R, i, none⟩ v) (some R) :=
 ⟨rfl, rfl, rfl, by simp, fun j _ hr => Below.heap_setCell w ⟨R, i, none⟩ v j (fun e => hr (by rw [e]))⟩
theorem grown_on {w w1 w2 : World} {r : Option Nat} (h : w.grownBy w1 r) (k : w1.grownBy w2 r) : w.grownBy w2 r :=
 ⟨k.1.trans h.1, k.2.trans h.2, k.3.trans h.3, Nat.le_trans h.4 k.4, fun j hj hr => (k.5 j (Nat.lt_of_lt_of_le hj h.4) hr).trans (h.5 j hj hr)⟩
theorem grown_of {w w' : World} (h : Below w.heap.size w w') (r : Option Nat) : w.grownBy w' r := ⟨h.1, h.2, h.3, h.4, fun k hk _ => h.5 k hk⟩
theorem xor_i64 (a b : Nat) (ha : a < 4611686018427387904) (hb : b < 4611686018427387904) : bits .xor .i64 (a : Int) (b : Int) = ((a ^^^ b : Nat) : Int) := by
 have hx : a ^^^ b < 2 ^ 62 := Nat.xor_lt_two_pow (by omega) (by omega)
 have h1 : (BitVec.ofInt 64 (a : Int)).toNat = a := by
  rw [BitVec.ofInt_natCast, BitVec.toNat_ofNat]; exact Nat.mod_eq_of_lt (by omega)
 have h2 : (BitVec.ofInt 64 (b : Int)).toNat = b := by
  rw [BitVec.ofInt_natCast, BitVec.toNat_ofNat]; exact Nat.mod_eq_of_lt (by omega)
 show IntKind.i64.wrap ((BitVec.ofInt 64 (a : Int) ^^^ BitVec.ofInt 64 (b : Int)).toNat : Int) = _
 rw [BitVec.toNat_xor, h1, h2, IntKind.wrap_i64]
 omega
set_option maxRecDepth 100000 in
set_option maxHeartbeats 6400000 in
theorem pick_any (R p : Nat) (n : Int) (w : World) (h : Rd w R p) (hp : p ≤ 1000000) (hn : n ≤ 1000000) :
  Calls Tryz.prog 23 #[.pointer (some ⟨R, 0, none⟩), .int .i64 n] w fun e w' => ∃ x : Int, e = .returned (.int .i64 x) ∧ 0 ≤ x ∧ (1 ≤ n → x < n) ∧ (n < 1 → x = 0) ∧ Rd w' R (p + 1) ∧ w.grownBy w' (some R) := by
 have HN := toHid (h.next (p + 1))
 obtain ⟨v, m, hm, hx, hb⟩ := h.box
 obtain ⟨a, cap, rfl, h1, h2, h3⟩ := hb
 unfold maxLen at h2
 have hlt := lt_blk hx
 have c0 := cell_blkD hx (i := 0) rfl
 have c1 := cell_blkD hx (i := 1) rfl
 have f1 : w.frozen? ⟨R, 1, none⟩ = false := by simp [World.frozen?, hx]
 have HG : Hid (w.grownBy (w.setCell ⟨R, 1, none⟩ (.int .i64 ((p + 1 : Nat) : Int))) (some R)) := grown_box w R 1 _
 rw [show ((p + 1 : Nat) : Int) = (p : Int) + 1 by omega] at HG HN
 have d0 : (w.setCell ⟨R, 1, none⟩ (.int .i64 ((p : Int) + 1))).cell? ⟨R, 0, none⟩ = some (.slice a m cap) := by
  rw [World.cell?_setCell_other w ⟨R, 1, none⟩ ⟨R, 0, none⟩ _ (by simp)]; exact c0
 by_cases hn1 : n < 1
 ·go_enter Tryz.func23, Tryz.ntmps23
  go_wp2
  go_ret
  exact ⟨0, rfl, Int.le_refl _, fun h => absurd h (by omega), fun _ => rfl, HN.out, HG.out⟩
 ·by_cases hm0 : m = 0
  ·subst hm0
   go_enter Tryz.func23, Tryz.ntmps23
   go_wp2
   go_ret
   exact ⟨0, rfl, Int.le_refl _, (by first | omega | exact fun _ => by omega), (by first | trivial | exact fun _ => rfl | omega), HN.out, HG.out⟩
  ·obtain ⟨b, off, x00, rfl, hbR, hc00, -⟩ := h3 0 (by omega)
   have HNB : Hid (b ≠ R) := by show b ≠ R; omega
   have H3 : Hid (∀ i, i < m → ∃ x, (w.setCell ⟨R, 1, none⟩ (.int .i64 ((p : Int) + 1))).cell? ⟨b, off + i, none⟩ = some (.int .u8 x) ∧ 0 ≤ x ∧ x < 256) := fun i hi => by
    obtain ⟨b', off', x, e, -, hc, hr⟩ := h3 i hi
    cases e
    refine ⟨x, ?_, hr⟩
    rw [World.cell?_of_block (w := w) (Below.heap_setCell w ⟨R, 1, none⟩ _ b HNB.out)]
    exact hc
   have d1 : (w.setCell ⟨R, 1, none⟩ (.int .i64 ((p : Int) + 1))).cell? ⟨R, 1, none⟩ = some (.int .i64 ((p : Int) + 1)) := World.cell?_setCell_same w ⟨R, 1, none⟩ _ c1
   clear h3 hc00
   have hp0 : (0 : Int) ≤ (p : Int) := by omega
   have hmp : (0 : Int) < (m : Int) := by omega
   have hmz : ¬ (m : Int) = 0 := by omega
   have hmb : ((m : Int) == 0) = false := by simp; omega
   have hnz : ¬ n = 0 := by omega
   by_cases hpm : (p : Int) < (m : Int)
   ·obtain ⟨x, e0, hx0, hx1⟩ := H3.out p (by omega)
    go_enter Tryz.func23, Tryz.ntmps23
    go_wp2
    go_ret
    exact ⟨x % n, rfl, Int.emod_nonneg _ hnz, (by first | exact Int.emod_lt_of_pos _ (by omega) | exact fun _ => Int.emod_lt_of_pos _ (by omega)), (by first | omega | exact fun _ => by omega), HN.out, HG.out⟩
   ·obtain ⟨i1, hi1⟩ : ∃ i : Nat, (p : Int) % (m : Int) = (i : Int) := ⟨p % m, by simp⟩
    obtain ⟨i2, hi2⟩ : ∃ i : Nat, ((p : Int) * 7 + 3) % (m : Int) = (i : Int) := ⟨(p * 7 + 3) % m, by simp⟩
    have l1 : (0 : Int) ≤ (i1 : Int) := by omega
    have l2 : (i1 : Int) < (m : Int) := by rw [← hi1]; exact Int.emod_lt_of_pos _ hmp
    have l3 : (0 : Int) ≤ (i2 : Int) := by omega
    have l4 : (i2 : Int) < (m : Int) := by rw [← hi2]; exact Int.emod_lt_of_pos _ hmp
    obtain ⟨x1, e1, hx0, hx1⟩ := H3.out i1 (by omega)
    obtain ⟨x2, e2, hx2, hx3⟩ := H3.out i2 (by omega)
    obtain ⟨dv, hdv⟩ : ∃ d : Int, (p : Int) / (m : Int) = d := ⟨_, rfl⟩
    have hd0 : 0 ≤ dv := by rw [← hdv]; exact Int.ediv_nonneg hp0 (by omega)
    have hd1 : dv ≤ 1000000 := by rw [← hdv]; have := Int.ediv_le_self (m : Int) hp0; omega
    have z1 := lt_of_cell e1
    have zR := lt_of_cell d0
    have hw1 : IntKind.i64.wrap ((p : Int) * 7) = (p : Int) * 7 := by rw [IntKind.wrap_i64]; omega
    have hw2 : IntKind.i64.wrap ((p : Int) * 7 + 3) = (p : Int) * 7 + 3 := by rw [IntKind.wrap_i64]; omega
    have hw3 : IntKind.i64.wrap (x1 * 131) = x1 * 131 := by rw [IntKind.wrap_i64]; omega
    have hw4 : IntKind.i64.wrap (x2 * 1117) = x2 * 1117 := by rw [IntKind.wrap_i64]; omega
    have hw5 : IntKind.i64.wrap (x1 * 131 + x2 * 1117) = x1 * 131 + x2 * 1117 := by rw [IntKind.wrap_i64]; omega
    have hw6 : IntKind.i64.wrap ((p : Int) * 29) = (p : Int) * 29 := by rw [IntKind.wrap_i64]; omega
    have hw7 : IntKind.i64.wrap (x1 * 131 + x2 * 1117 + (p : Int) * 29) = x1 * 131 + x2 * 1117 + (p : Int) * 29 := by rw [IntKind.wrap_i64]; omega
    have hw8 : IntKind.i64.wrap (dv * 53) = dv * 53 := by rw [IntKind.wrap_i64]; omega
    have hw9 : IntKind.i64.wrap (x1 * 131 + x2 * 1117 + (p : Int) * 29 + dv * 53) = x1 * 131 + x2 * 1117 + (p : Int) * 29 + dv * 53 := by rw [IntKind.wrap_i64]; omega
    have hwd : IntKind.i64.wrap dv = dv := by rw [IntKind.wrap_i64]; omega
    go_enter Tryz.func23, Tryz.ntmps23
    go_wp2
    generalize (w.setCell ⟨R, 1, none⟩ (.int .i64 ((p : Int) + 1))) = w1 at *
    have hne := Later.some w1
    refine wp_region_later (by kernel_rfl) (by kernel_rfl) ?_
    repeat (go_big_quiet_step (fail))
    refine wpQuiet_nil ?_
    rintro _ ⟨xx, rfl⟩
    have HN2 := toHid (HN.out.far xx.below)
    have HG2 := toHid (grown_on HG.out (grown_of xx.below _))
    have ht0 : 0 ≤ x1 * 131 + x2 * 1117 + (p : Int) * 29 + dv * 53 := by omega
    have ht1 : x1 * 131 + x2 * 1117 + (p : Int) * 29 + dv * 53 ≤ 100000000 := by omega
    generalize x1 * 131 + x2 * 1117 + (p : Int) * 29 + dv * 53 = t at *
    obtain ⟨u, hu0, hu1⟩ : ∃ u : Nat, bits .xor .i64 t (t / 64) = (u : Int) ∧ u < 2 ^ 62 := by
     obtain ⟨tn, rfl⟩ : ∃ tn : Nat, t = tn := ⟨t.toNat, by omega⟩
     refine ⟨tn ^^^ (tn / 64), ?_, Nat.xor_lt_two_pow (by omega) (by omega)⟩
     rw [show ((tn : Int) / 64) = ((tn / 64 : Nat) : Int) by simp]
     exact xor_i64 _ _ (by omega) (by omega)
    have hun : (0 : Int) ≤ (u : Int) := by omega
    go_wp2
    go_ret
    exact ⟨(u : Int) % n, rfl, Int.emod_nonneg _ hnz, (by first | exact Int.emod_lt_of_pos _ (by omega) | exact fun _ => Int.emod_lt_of_pos _ (by omega)), (by first | omega | exact fun _ => by omega), HN2.out, HG2.out⟩
end Go.Proofs.YtibpkhmiahamcaaGreat.Dr
namespace Go.Proofs.YtibpkhmiahamcaaGreat
open Go.RowKit
structure Fld where
 what : Int
 num : Int
 v : ByteArray
structure Ent where
 name : ByteArray
 fs : List Fld
def FldAt (w : World) (b o : Nat) (f : Fld) : Prop := w.cell? ⟨b, o, none⟩ = some (.int .i64 f.what) ∧ w.cell? ⟨b, o + 1, none⟩ = some (.int .i64 f.num) ∧ w.cell? ⟨b, o + 2, none⟩ = some (.string f.v)
def FldsAt (w : World) (v : Value) (l : List Fld) : Prop :=
 ∃ a cap, v = .slice a l.length cap ∧ l.length ≤ cap ∧ cap ≤ maxLen ∧ ∀ i f, l[i]? = some f → ∃ b off, a = some ⟨b, off, none⟩ ∧ FldAt w b (off + i * 3) f
def EntAt (w : World) (b o : Nat) (e : Ent) : Prop := ∃ fv, w.cell? ⟨b, o, none⟩ = some (.string e.name) ∧ w.cell? ⟨b, o + 1, none⟩ = some fv ∧ FldsAt w fv e.fs
def EntsAt (w : World) (v : Value) (l : List Ent) : Prop :=
 ∃ a cap, v = .slice a l.length cap ∧ l.length ≤ cap ∧ cap ≤ maxLen ∧ ∀ i e, l[i]? = some e → ∃ b off, a = some ⟨b, off, none⟩ ∧ EntAt w b (off + i * 2) e
theorem FldAt.keep {w w' : World} {b o B : Nat} {f : Fld} (h : FldAt w b o f) (hb : Below B w w') (hB : w.heap.size ≤ B) : FldAt w' b o f :=
 ⟨cell_keep hb hB h.1, cell_keep hb hB h.2.1, cell_keep hb hB h.2.2⟩
theorem FldsAt.keep {w w' : World} {v : Value} {l : List Fld} (h : FldsAt w v l) (hb : Below w.heap.size w w') : FldsAt w' v l := by
 obtain ⟨a, cap, rfl, h1, h2, h3⟩ := h
 refine ⟨a, cap, rfl, h1, h2, fun i t ht => ?_⟩
 obtain ⟨b, off, ha, hc⟩ := h3 i t ht
 exact ⟨b, off, ha, hc.keep hb (Nat.le_refl _)⟩
theorem EntAt.keep {w w' : World} {b o : Nat} {e : Ent} (h : EntAt w b o e) (hb : Below w.heap.size w w') : EntAt w' b o e := by
 obtain ⟨fv, h0, h1, h2⟩ := h
 exact ⟨fv, cell_keep hb (Nat.le_refl _) h0, cell_keep hb (Nat.le_refl _) h1, h2.keep hb⟩
theorem EntsAt.keep {w w' : World} {v : Value} {l : List Ent} (h : EntsAt w v l) (hb : Below w.heap.size w w') : EntsAt w' v l := by
 obtain ⟨a, cap, rfl, h1, h2, h3⟩ := h
 refine ⟨a, cap, rfl, h1, h2, fun i t ht => ?_⟩
 obtain ⟨b, off, ha, hc⟩ := h3 i t ht
 exact ⟨b, off, ha, hc.keep hb⟩
def fat (l : List Fld) (i : Nat) : Fld := l.getD i ⟨0, 0, ⟨#[]⟩⟩
theorem fat_get {l : List Fld} {i : Nat} (h : i < l.length) : l[i]? = some (fat l i) := by simp [fat, h]
def eat (l : List Ent) (i : Nat) : Ent := l.getD i ⟨⟨#[]⟩, []⟩
theorem eat_get {l : List Ent} {i : Nat} (h : i < l.length) : l[i]? = some (eat l i) := by simp [eat, h]
def FNames (l : List Fld) : Prop := ∀ f ∈ l, f.v.size ≤ maxLen
def ENames (l : List Ent) : Prop := ∀ e ∈ l, e.name.size ≤ maxLen ∧ FNames e.fs
def sumN {α : Type} (g : α → Nat) : List α → Nat
 | [] => 0
 | t :: r => g t + sumN g r
theorem sumN_append {α : Type} (g : α → Nat) (l r : List α) : sumN g (l ++ r) = sumN g l + sumN g r := by
 induction l with
 | nil => simp [sumN]
 | cons a l ih => simp [sumN, ih]; omega
theorem sumN_take_le {α : Type} (g : α → Nat) (l : List α) (k : Nat) : sumN g (l.take k) ≤ sumN g l := by
 conv => rhs; rw [← List.take_append_drop k l, sumN_append]
 omega
open Go.RowKit
open Go.RowKit
def fldRow (f : Fld) : List Value := [.int .i64 f.what, .int .i64 f.num, .string f.v]
open Go.RowKit
attribute [local go_sem] Later.cell Later.frozen
structure Boxed (w wr : World) (vk vp : Value) : Prop where
  below : Below w.heap.size w wr
  big : w.heap.size < wr.heap.size
  c0 : wr.cell? ⟨w.heap.size, 0, none⟩ = some vk
  c1 : wr.cell? ⟨w.heap.size, 1, none⟩ = some vp
theorem Boxed.start (w : World) (vk vp : Value) (T : TypeId) : Boxed w (w.alloc (.cells #[vk, vp] T)) vk vp :=
  ⟨(Below.refl _ _).alloc (Nat.le_refl _) _, by simp, by simp [go_sem], by simp [go_sem]⟩
theorem Boxed.call {w wr w' : World} {vk vp : Value} (h : Boxed w wr vk vp) (hb : Below wr.heap.size wr w') : Boxed w w' vk vp :=
  ⟨below_step h.below hb, Nat.lt_of_lt_of_le h.big hb.size, cell_keep hb (Nat.le_refl _) h.c0, cell_keep hb (Nat.le_refl _) h.c1⟩
theorem Boxed.drewN {w wr : World} {vk vp : Value} (h : Boxed w wr vk vp) (n : Nat) : Boxed w (wr.drewN n) vk vp :=
  h.call (below_drewN (Below.refl _ _) n)
def kRound (l : List Tri) (k : Nat) : Bool := kindOkB (at' l k) && ascB l k
def pRound (l : List Tri) (k : Nat) : Bool := (pointOkB (at' l k) && ascB l k) && allB k fun i => !sameB (at' l i) (at' l k)
set_option maxRecDepth 100000 in
set_option maxHeartbeats 3200000 in
theorem specBase_any (vk vp : Value) (ks ps : List Tri) (w : World) (hk : TrisAt w vk ks) (hp : TrisAt w vp ps) (nk : Names ks) (np : Names ps) :
    Calls Tryz.prog 37 #[.agg #[vk, vp]] w fun e w' => e = .returned (.bool (kindsB ks && pointsB ps)) ∧ Below w.heap.size w w' := by
  have HK := hk; have HP := hp
  obtain ⟨ak, ck, rfl, lk, mk, ek⟩ := hk
  obtain ⟨ap, cp, rfl, lp, mp, ep⟩ := hp
  unfold maxLen at mk mp
  have HK1 : Hid (TrisAt w (.slice ak ks.length ck) ks) := HK
  have HP1 : Hid (TrisAt w (.slice ap ps.length cp) ps) := HP
  have NK : Hid (Names ks) := nk
  have NP : Hid (Names ps) := np
  have EK : Hid (∀ i t, ks[i]? = some t → ∃ b off, ak = some ⟨b, off, none⟩ ∧ TriAt w b (off + i * 3) t) := ek
  have EP : Hid (∀ i t, ps[i]? = some t → ∃ b off, ap = some ⟨b, off, none⟩ ∧ TriAt w b (off + i * 3) t) := ep
  clear HK HP nk np ek ep
  by_cases h1 : (6 : Int) < (ks.length : Int)
  · have e : (kindsB ks && pointsB ps) = false := by
      have : ¬ ks.length ≤ 6 := by omega
      rw [kindsB_eq]; simp [this]
    rw [e]; clear e
    go_enter Tryz.func37, Tryz.ntmps37
    go_wp2
    go_ret
    exact ⟨rfl, (Below.refl _ _).alloc (Nat.le_refl _) _⟩
  by_cases h2 : (16 : Int) < (ps.length : Int)
  · have e : (kindsB ks && pointsB ps) = false := by
      have : ¬ ps.length ≤ 16 := by omega
      rw [pointsB_eq]; simp [this]
    rw [e]; clear e
    go_enter Tryz.func37, Tryz.ntmps37
    go_wp2
    go_ret
    exact ⟨rfl, (Below.refl _ _).alloc (Nat.le_refl _) _⟩
  have hbk : kindsB ks = allB ks.length (kRound ks) := by rw [kindsB_eq]; have : ks.length ≤ 6 := by omega
                                                          simp only [this, decide_true, Bool.true_and]; rfl
  have HBK : Hid (kindsB ks = allB ks.length (kRound ks)) := hbk
  have hbp : pointsB ps = allB ps.length (pRound ps) := by rw [pointsB_eq]; have : ps.length ≤ 16 := by omega
                                                           simp only [this, decide_true, Bool.true_and]; rfl
  have HBP : Hid (pointsB ps = allB ps.length (pRound ps)) := hbp
  clear hbk hbp
  go_enter Tryz.func37, Tryz.ntmps37
  go_wp2
  go_loopw [3] (fun i wr => ∃ k : Nat, k ≤ ks.length ∧ i = .int .i64 k ∧ Boxed w wr (.slice ak ks.length ck) (.slice ap ps.length cp) ∧ Hid (∀ j, j < k → kRound ks j = true)) (fun i _ => ks.length - (intOf i).toNat)
  case atStart => exact ⟨0, Nat.zero_le _, rfl, Boxed.start _ _ _ _, fun j hj => absurd hj (Nat.not_lt_zero _)⟩
  case round =>
    obtain ⟨k, hk, rfl, hx, HA⟩ := hrel
    have x0 := hx.c0
    have x1 := hx.c1
    have xz := hx.big
    have HX : Hid (Boxed w wr (.slice ak ks.length ck) (.slice ap ps.length cp)) := hx
    clear hx
    by_cases hlt : k < ks.length
    · obtain ⟨b, off, rfl, hc⟩ := EK.out k _ (at_get hlt)
      obtain ⟨d0, d1, d2⟩ := hc.keep HX.out.below (Nat.le_refl _)
      have hsk : (at' ks k).s.size ≤ maxLen := NK.out _ (List.mem_of_getElem? (at_get hlt))
      have BAD : Hid (kRound ks k = false → (kindsB ks && pointsB ps) = false) := fun h => by rw [HBK.out, allB_false hlt h]; rfl
      have KR : Hid (kRound ks k = (kindOkB (at' ks k) && ascB ks k)) := rfl
      have hk0 : (0 : Int) ≤ (k : Int) := by omega
      have hk1 : (k : Int) < (ks.length : Int) := by omega
      have hbl : b < wr.heap.size := lt_of_cell d0
      have go1 : ∀ (v : Bool), Hid (kindOkB (at' ks k) = v) → ∀ x : Later wr, Calls Tryz.prog 68 #[.agg #[.string (at' ks k).s, .int .i64 (at' ks k).x, .int .i64 (at' ks k).y]] x.val fun e w'' => e = .returned (.bool v) ∧ ∃ y : Later wr, w'' = y.val :=
        fun v hv x => Calls.later (hv.out ▸ l1KindOk_any (at' ks k) x.val hsk)
      have GO : Hid (∀ (v : Bool), Hid (kindOkB (at' ks k) = v) → ∀ x : Later wr, Calls Tryz.prog 68 #[.agg #[.string (at' ks k).s, .int .i64 (at' ks k).x, .int .i64 (at' ks k).y]] x.val fun e w'' => e = .returned (.bool v) ∧ ∃ y : Later wr, w'' = y.val) := go1
      clear go1
      have hne := Later.some wr
      cases ho : kindOkB (at' ks k)
      · have HO : Hid (kindOkB (at' ks k) = false) := ho
        clear ho
        go_wp2
        refine wp_region_later (by kernel_rfl) (by kernel_rfl) ?_
        repeat (go_big_quiet_step (exact GO.out _ HO _))
        refine wpQuiet_nil ?_
        rintro _ ⟨x, rfl⟩
        go_wp2
        go_ret
        exact ⟨ret_bool (BAD.out (by rw [KR.out, HO.out]; rfl)).symm, below_step HX.out.below x.below⟩
      · have HO : Hid (kindOkB (at' ks k) = true) := ho
        clear ho
        by_cases hkz : (0 : Int) < (k : Int)
        · have hg : 0 < k := by omega
          obtain ⟨b', off', hbo, hcm'⟩ := EK.out (k - 1) _ (at_get (by omega))
          cases hbo
          obtain ⟨m0, -, -⟩ := hcm'.keep HX.out.below (Nat.le_refl _)
          have AS : Hid (ascB ks k = !geB (at' ks (k - 1)).s (at' ks k).s) := by
            show ascB ks k = _
            obtain ⟨m, rfl⟩ : ∃ m, k = m + 1 := ⟨k - 1, by omega⟩
            exact asc_succ ks m
          clear hcm' hc
          have hi0 : (0 : Int) ≤ (k : Int) - 1 := by omega
          have hi1 : (k : Int) - 1 < (ks.length : Int) := by omega
          go_wp2
          refine wp_region_later (by kernel_rfl) (by kernel_rfl) ?_
          repeat (go_big_quiet_step (exact GO.out _ HO _))
          refine wpQuiet_nil ?_
          rintro _ ⟨x, rfl⟩
          go_wp2
          · rename_i h
            go_ret
            exact ⟨ret_bool (BAD.out (by rw [KR.out, HO.out, AS.out]; unfold geB; rw [h]; rfl)).symm, below_step HX.out.below x.below⟩
          · rename_i h
            exact ⟨⟨k + 1, by omega, by go_num, HX.out.call x.below, fun j hj => if e : j = k then by rw [e, KR.out, HO.out, AS.out]; unfold geB; rw [h]; rfl else HA.out j (by omega)⟩, by simp [intOf]; omega⟩
        · have hg : decide (0 < k) = false := by simp; omega
          go_wp2
          refine wp_region_later (by kernel_rfl) (by kernel_rfl) ?_
          repeat (go_big_quiet_step (exact GO.out _ HO _))
          refine wpQuiet_nil ?_
          rintro _ ⟨x, rfl⟩
          go_wp2
          exact ⟨⟨k + 1, by omega, by go_num, HX.out.call x.below, fun j hj => by
            obtain rfl : j = k := by omega
            rw [KR.out, HO.out]; obtain rfl : j = 0 := by omega
            rw [asc_zero]; rfl⟩, by simp [intOf]; omega⟩
    · have HKT : Hid (kindsB ks = true) := HBK.out.trans (allB_true fun j hj => HA.out j (by omega))
      go_wp2
      clear HA EK NK HBK
      go_loopw [4, 5] (fun i _ wr => ∃ k : Nat, k ≤ ps.length ∧ i = .int .i64 k ∧ Boxed w wr (.slice ak ks.length ck) (.slice ap ps.length cp) ∧ Hid (∀ j, j < k → pRound ps j = true)) (fun i _ _ => ps.length - (intOf i).toNat)
      case atStart => exact ⟨0, Nat.zero_le _, rfl, HX.out, fun j hj => absurd hj (Nat.not_lt_zero _)⟩
      case round =>
        clear HX x0 x1 xz hlt hk
        obtain ⟨k, hk, rfl, hx, HA⟩ := hrel
        have x0 := hx.c0
        have x1 := hx.c1
        have xz := hx.big
        have HX : Hid (Boxed w wr (.slice ak ks.length ck) (.slice ap ps.length cp)) := hx
        clear hx
        by_cases hlt : k < ps.length
        · obtain ⟨b, off, rfl, hc⟩ := EP.out k _ (at_get hlt)
          obtain ⟨d0, d1, d2⟩ := hc.keep HX.out.below (Nat.le_refl _)
          have hsk : (at' ps k).s.size ≤ maxLen := NP.out _ (List.mem_of_getElem? (at_get hlt))
          have BAD : Hid (pRound ps k = false → (kindsB ks && pointsB ps) = false) := fun h => by rw [HKT.out, HBP.out, allB_false hlt h]; rfl
          have PR : Hid (pRound ps k = ((pointOkB (at' ps k) && ascB ps k) && allB k fun i => !sameB (at' ps i) (at' ps k))) := rfl
          have hk0 : (0 : Int) ≤ (k : Int) := by omega
          have hk1 : (k : Int) < (ps.length : Int) := by omega
          have hbl : b < wr.heap.size := lt_of_cell d0
          have GO : Hid (∀ (v : Bool), Hid (pointOkB (at' ps k) = v) → ∀ x : Later wr, Calls Tryz.prog 69 #[.agg #[.string (at' ps k).s, .int .i64 (at' ps k).x, .int .i64 (at' ps k).y]] x.val fun e w'' => e = .returned (.bool v) ∧ ∃ y : Later wr, w'' = y.val) :=
            fun v hv x => Calls.later (hv.out ▸ l1PointOk_any (at' ps k) x.val hsk)
          have hne := Later.some wr
          have HCK : Hid (TriAt w b (off + k * 3) (at' ps k)) := hc
          cases ho : pointOkB (at' ps k)
          · have HO : Hid (pointOkB (at' ps k) = false) := ho
            clear ho
            go_wp2
            refine wp_region_later (by kernel_rfl) (by kernel_rfl) ?_
            repeat (go_big_quiet_step (exact GO.out _ HO _))
            refine wpQuiet_nil ?_
            rintro _ ⟨x, rfl⟩
            go_wp2
            go_ret
            exact ⟨ret_bool (BAD.out (by rw [PR.out, HO.out]; rfl)).symm, below_step HX.out.below x.below⟩
          · have HO : Hid (pointOkB (at' ps k) = true) := ho
            clear ho
            by_cases hkz : (0 : Int) < (k : Int)
            · have hg : 0 < k := by omega
              obtain ⟨b', off', hbo, hcm'⟩ := EP.out (k - 1) _ (at_get (by omega))
              cases hbo
              obtain ⟨m0, -, -⟩ := hcm'.keep HX.out.below (Nat.le_refl _)
              have AS : Hid (ascB ps k = !geB (at' ps (k - 1)).s (at' ps k).s) := by
                show ascB ps k = _
                obtain ⟨m, rfl⟩ : ∃ m, k = m + 1 := ⟨k - 1, by omega⟩
                exact asc_succ ps m
              clear hcm' hc
              have hi0 : (0 : Int) ≤ (k : Int) - 1 := by omega
              have hi1 : (k : Int) - 1 < (ps.length : Int) := by omega
              go_wp2
              refine wp_region_later (by kernel_rfl) (by kernel_rfl) ?_
              repeat (go_big_quiet_step (exact GO.out _ HO _))
              refine wpQuiet_nil ?_
              rintro _ ⟨x, rfl⟩
              go_wp2
              · rename_i h
                go_ret
                exact ⟨ret_bool (BAD.out (by rw [PR.out, HO.out, AS.out]; unfold geB; rw [h]; rfl)).symm, below_step HX.out.below x.below⟩
              · rename_i h
                have HAS : Hid (ascB ps k = true) := by
                  show ascB ps k = true
                  rw [AS.out]; unfold geB; rw [h]; rfl
                clear m0
                have hy0 : Boxed w x.val (.slice ak ks.length ck) (.slice (some ⟨b, off, none⟩) ps.length cp) := HX.out.call x.below
                have HY0 : Hid (Boxed w x.val (.slice ak ks.length ck) (.slice (some ⟨b, off, none⟩) ps.length cp)) := hy0
                clear hy0 GO HX x0 x1 xz d0 d1 d2 hbl hne
                go_loopw [5] (fun i wr => ∃ j : Nat, j ≤ k ∧ i = .int .i64 j ∧ Boxed w wr (.slice ak ks.length ck) (.slice (some ⟨b, off, none⟩) ps.length cp) ∧ Hid (∀ q, q < j → (!sameB (at' ps q) (at' ps k)) = true)) (fun i _ => k - (intOf i).toNat)
                case atStart => exact ⟨0, Nat.zero_le _, rfl, HY0.out, fun j hj => absurd hj (Nat.not_lt_zero _)⟩
                case round =>
                  clear HY0
                  obtain ⟨j, hj, rfl, hy, HB⟩ := hrel
                  have y0 := hy.c0
                  have y1 := hy.c1
                  have yz := hy.big
                  have HY : Hid (Boxed w wr (.slice ak ks.length ck) (.slice (some ⟨b, off, none⟩) ps.length cp)) := hy
                  clear hy
                  by_cases hjk : j < k
                  · obtain ⟨b', off', hbo, hcj⟩ := EP.out j _ (at_get (by omega))
                    cases hbo
                    obtain ⟨-, e1, e2⟩ := hcj.keep HY.out.below (Nat.le_refl _)
                    obtain ⟨-, f1, f2⟩ := HCK.out.keep HY.out.below (Nat.le_refl _)
                    have hj0 : (0 : Int) ≤ (j : Int) := by omega
                    have hj1 : (j : Int) < (ps.length : Int) := by omega
                    have SM : Hid (sameB (at' ps j) (at' ps k) = (decide ((at' ps j).x = (at' ps k).x) && decide ((at' ps j).y = (at' ps k).y))) := rfl
                    have BADI : Hid ((!sameB (at' ps j) (at' ps k)) = false → (kindsB ks && pointsB ps) = false) := fun h => BAD.out (by rw [PR.out, allB_false hjk h, Bool.and_false])
                    clear hcj
                    by_cases hxx : (at' ps j).x = (at' ps k).x
                    · have hxb : ((at' ps j).x == (at' ps k).x) = true := by simp [hxx]
                      have HXX : Hid ((at' ps j).x = (at' ps k).x) := hxx
                      clear hxx
                      by_cases hyy : (at' ps j).y = (at' ps k).y
                      · have hyb : ((at' ps j).y == (at' ps k).y) = true := by simp [hyy]
                        have HYY : Hid ((at' ps j).y = (at' ps k).y) := hyy
                        clear hyy
                        go_wp2
                        refine wp_region_quiet_lit (by kernel_rfl) (by kernel_rfl) ?_
                        repeat (go_big_quiet_step (fail))
                        refine wpQuiet_nil ?_
                        rintro _ ⟨nq, rfl⟩
                        go_wp2
                        go_ret
                        exact ⟨ret_bool (BADI.out (by rw [SM.out, HXX.out, HYY.out]; simp)).symm, below_drewN HY.out.below _⟩
                      · have hyb : ((at' ps j).y == (at' ps k).y) = false := by simp [hyy]
                        have HYY : Hid (¬ (at' ps j).y = (at' ps k).y) := hyy
                        clear hyy
                        go_wp2
                        refine wp_region_quiet_lit (by kernel_rfl) (by kernel_rfl) ?_
                        repeat (go_big_quiet_step (fail))
                        refine wpQuiet_nil ?_
                        rintro _ ⟨nq, rfl⟩
                        go_wp2
                        exact ⟨⟨j + 1, by omega, by go_num, HY.out.drewN _, fun q hq => if e : q = j then by rw [e, SM.out]; simp [HYY.out] else HB.out q (by omega)⟩, by simp [intOf]; omega⟩
                    · have hxb : ((at' ps j).x == (at' ps k).x) = false := by simp [hxx]
                      have HXX : Hid (¬ (at' ps j).x = (at' ps k).x) := hxx
                      clear hxx
                      go_wp2
                      refine wp_region_quiet_lit (by kernel_rfl) (by kernel_rfl) ?_
                      repeat (go_big_quiet_step (fail))
                      refine wpQuiet_nil ?_
                      rintro _ ⟨nq, rfl⟩
                      go_wp2
                      exact ⟨⟨j + 1, by omega, by go_num, HY.out.drewN _, fun q hq => if e : q = j then by rw [e, SM.out]; simp [HXX.out] else HB.out q (by omega)⟩, by simp [intOf]; omega⟩
                  · have HPT : Hid (pRound ps k = true) := by
                      show pRound ps k = true
                      rw [PR.out, HO.out, HAS.out, allB_true fun q hq => HB.out q (by omega)]; rfl
                    go_wp2
                    exact ⟨⟨k + 1, by omega, by go_num, HY.out, fun q hq => if e : q = k then by rw [e]; exact HPT.out else HA.out q (by omega)⟩, by simp [intOf]; omega⟩
            · have hg : decide (0 < k) = false := by simp; omega
              go_wp2
              refine wp_region_later (by kernel_rfl) (by kernel_rfl) ?_
              repeat (go_big_quiet_step (exact GO.out _ HO _))
              refine wpQuiet_nil ?_
              rintro _ ⟨x, rfl⟩
              go_wp2
              have HAS : Hid (ascB ps k = true) := by
                show ascB ps k = true
                obtain rfl : k = 0 := by omega
                exact asc_zero ps
              have hy0 : Boxed w x.val (.slice ak ks.length ck) (.slice (some ⟨b, off, none⟩) ps.length cp) := HX.out.call x.below
              have HY0 : Hid (Boxed w x.val (.slice ak ks.length ck) (.slice (some ⟨b, off, none⟩) ps.length cp)) := hy0
              clear hy0 GO HX x0 x1 xz d0 d1 d2 hbl hne
              go_loopw [5] (fun i wr => ∃ j : Nat, j ≤ k ∧ i = .int .i64 j ∧ Boxed w wr (.slice ak ks.length ck) (.slice (some ⟨b, off, none⟩) ps.length cp) ∧ Hid (∀ q, q < j → (!sameB (at' ps q) (at' ps k)) = true)) (fun i _ => k - (intOf i).toNat)
              case atStart => exact ⟨0, Nat.zero_le _, rfl, HY0.out, fun j hj => absurd hj (Nat.not_lt_zero _)⟩
              case round =>
                clear HY0
                obtain ⟨j, hj, rfl, hy, HB⟩ := hrel
                have y0 := hy.c0
                have y1 := hy.c1
                have yz := hy.big
                have HY : Hid (Boxed w wr (.slice ak ks.length ck) (.slice (some ⟨b, off, none⟩) ps.length cp)) := hy
                clear hy
                by_cases hjk : j < k
                · exact absurd hjk (by omega)
                · have HPT : Hid (pRound ps k = true) := by
                    show pRound ps k = true
                    rw [PR.out, HO.out, HAS.out, allB_true fun q hq => HB.out q (by omega)]; rfl
                  go_wp2
                  exact ⟨⟨k + 1, by omega, by go_num, HY.out, fun q hq => if e : q = k then by rw [e]; exact HPT.out else HA.out q (by omega)⟩, by simp [intOf]; omega⟩
        · go_wp2
          go_ret
          exact ⟨ret_bool (by rw [HKT.out, HBP.out, allB_true fun j hj => HA.out j (by omega)]; rfl), HX.out.below⟩
end Go.Proofs.YtibpkhmiahamcaaGreat
namespace Go.Proofs.YtibpkhmiahamcaaGreat
open Go.RowKit
open Go.RowKit
structure BookAt (w : World) (vk vp ve : Value) (ks ps : List Tri) (es : List Ent) : Prop where
 k : TrisAt w vk ks
 p : TrisAt w vp ps
 e : EntsAt w ve es
theorem BookAt.keep {w w' : World} {vk vp ve : Value} {ks ps : List Tri} {es : List Ent} (h : BookAt w vk vp ve ks ps es) (hb : Below w.heap.size w w') : BookAt w' vk vp ve ks ps es := ⟨h.k.keep hb, h.p.keep hb, h.e.keep hb⟩
structure BNames (ks ps : List Tri) (es : List Ent) : Prop where
 k : Names ks
 p : Names ps
 e : ENames es
structure BSmall (ks ps : List Tri) (es : List Ent) : Prop where
 k : ks.length ≤ 1048576
 p : ps.length ≤ 1048576
 e : es.length ≤ 1048576
 f : ∀ e ∈ es, e.fs.length ≤ 1048576
 n : ∀ e ∈ es, e.name.size ≤ 1048576
 v : ∀ e ∈ es, ∀ f ∈ e.fs, f.v.size ≤ 1048576
end Go.Proofs.YtibpkhmiahamcaaGreat
namespace Go.Proofs.YtibpkhmiahamcaaGreat.Dr
open Go.RowKit Go.Proofs.YtibpkhmiahamcaaGreat
theorem str_not {w : World} {R p b o : Nat} {s : ByteArray} (h : Rd w R p) (hc : w.cell? ⟨b, o, none⟩ = some (.string s)) : b ≠ R := by
 obtain ⟨v, n, hn, hx, a, cap, rfl, -⟩ := h.box
 intro e
 subst e
 simp only [World.cell?, hx] at hc
 rcases o with - | - | o <;> simp at hc
theorem cell_box {w w' : World} {R b o : Nat} {u : Value} (hg : w.grownBy w' (some R)) (hb : b ≠ R) (hc : w.cell? ⟨b, o, none⟩ = some u) : w'.cell? ⟨b, o, none⟩ = some u := by
 rw [World.cell?_of_block (w := w) (hg.block b (lt_of_cell hc) (fun e => hb (Option.some.inj e)))]
 exact hc
theorem StrsAt_box {w w' : World} {R p : Nat} {v : Value} {ws : List ByteArray} (h : StrsAt w v ws) (hr : Rd w R p) (hg : w.grownBy w' (some R)) : StrsAt w' v ws := by
 obtain ⟨g, off, cap, rfl, h1, h2, h3⟩ := h
 exact ⟨g, off, cap, rfl, h1, h2, fun i x hx => cell_box hg (str_not hr (h3 i x hx)) (h3 i x hx)⟩
theorem TrisAt_box {w w' : World} {R p : Nat} {v : Value} {l : List Tri} (h : TrisAt w v l) (hr : Rd w R p) (hg : w.grownBy w' (some R)) : TrisAt w' v l := by
 obtain ⟨a, cap, rfl, h1, h2, h3⟩ := h
 refine ⟨a, cap, rfl, h1, h2, fun i t ht => ?_⟩
 obtain ⟨b, off, e, d0, d1, d2⟩ := h3 i t ht
 have hb := str_not hr d0
 exact ⟨b, off, e, cell_box hg hb d0, cell_box hg hb d1, cell_box hg hb d2⟩
def wst (ws : List ByteArray) (i : Nat) : ByteArray := ws.getD i ⟨#[]⟩
theorem wst_get {ws : List ByteArray} {i : Nat} (h : i < ws.length) : ws[i]? = some (wst ws i) := by simp [wst, h]
set_option maxHeartbeats 1600000 in
theorem of_any (R p : Nat) (v : Value) (ws : List ByteArray) (w : World) (h : Rd w R p) (hp : p ≤ 1000000) (hv : StrsAt w v ws) (hw : 1 ≤ ws.length ∧ ws.length ≤ 1000) :
  Calls Tryz.prog 50 #[.pointer (some ⟨R, 0, none⟩), v] w fun e w' => ∃ s, e = .returned (.string s) ∧ s ∈ ws ∧ Rd w' R (p + 1) ∧ w.grownBy w' (some R) := by
 have HV : Hid (∀ w', w.grownBy w' (some R) → StrsAt w' v ws) := fun w' hg => StrsAt_box hv h hg
 have HP : Hid (Calls Tryz.prog 23 #[.pointer (some ⟨R, 0, none⟩), .int .i64 (ws.length : Int)] w fun e w' => ∃ x : Int, e = .returned (.int .i64 x) ∧ 0 ≤ x ∧ (1 ≤ (ws.length : Int) → x < (ws.length : Int)) ∧ ((ws.length : Int) < 1 → x = 0) ∧ Rd w' R (p + 1) ∧ w.grownBy w' (some R)) := pick_any R p _ w h hp (by omega)
 obtain ⟨g, off, cap, rfl, h1, h2, -⟩ := hv
 unfold maxLen at h2
 obtain ⟨hw1, hw2⟩ := hw
 go_enter Tryz.func50, Tryz.ntmps50
 go_wp2_with fail
 refine HP.out.mono ?_
 rintro e w1 ⟨x, rfl, hx0, hx1, -, hr, hg⟩
 have hx1' := hx1 (by omega)
 obtain ⟨i, rfl⟩ : ∃ i : Nat, x = i := ⟨x.toNat, by omega⟩
 obtain ⟨g', off', cap', e9, -, -, h3⟩ := HV.out _ hg
 cases e9
 have c0 := h3 i _ (wst_get (by omega))
 have HM : Hid (wst ws i ∈ ws) := List.mem_of_getElem? (wst_get (by omega))
 have HR := toHid hr
 have HG := toHid hg
 clear h3 hr hg hx1
 generalize wst ws i = s at *
 go_wp2
 go_ret
 exact ⟨s, rfl, HM.out, HR.out, HG.out⟩
set_option maxHeartbeats 1600000 in
theorem l1Many_any (s : ByteArray) (n : Nat) (w : World) (hs : s.size * n ≤ 1000) (hn : n ≤ 1000) (hs1 : s.size ≤ 1000) :
  Calls Tryz.prog 52 #[.string s, .int .i64 n] w fun e w' => ∃ t : ByteArray, e = .returned (.string t) ∧ t.size ≤ s.size * n ∧ w' = w := by
 go_enter Tryz.func52, Tryz.ntmps52
 go_wp2
 go_loopw [0, 1, 5] (fun sv nv ov wr => ∃ (a b : ByteArray) (m : Nat), sv = .string a ∧ nv = .int .i64 m ∧ ov = .string b ∧ Hid (wr = w) ∧ Hid (a.size * m + b.size = s.size * n ∧ m ≤ n ∧ (m = 0 ∨ a.size ≤ 1000))) (fun _ nv _ _ => (intOf nv).toNat)
 case atStart => exact ⟨s, ⟨#[]⟩, n, rfl, rfl, rfl, rfl, (by show s.size * n + 0 = _; omega), Nat.le_refl _, .inr hs1⟩
 case round =>
  obtain ⟨a, b, m, rfl, rfl, rfl, HW, HI⟩ := hrel
  by_cases hm : m = 0
  ·subst hm
   have hb := HI.out.1
   have HB : Hid (b.size ≤ s.size * n) := by show _ ≤ _; omega
   clear HI
   go_wp2
   go_ret
   exact ⟨b, rfl, HB.out, HW.out⟩
  ·have hm0 : (0 : Int) < (m : Int) := by omega
   have hmn : (0 : Int) ≤ (m : Int) := by omega
   obtain ⟨h1, h2, h3⟩ := HI.out
   have ha : a.size ≤ 1000 := by omega
   have hb : b.size ≤ 1000 := by omega
   obtain ⟨q, r, hq, hr⟩ : ∃ q r : Nat, m = 2 * q + r ∧ r < 2 := ⟨m / 2, m % 2, by omega, by omega⟩
   have hdiv : ((m : Int) / 2) = (q : Int) := by omega
   have hmod : ((m : Int) % 2) = (r : Int) := by omega
   have HQW : Hid (wrap64 (q : Int) = (q : Int)) := by show _ = _; unfold wrap64; omega
   have e1 : a.size * m = (a.size + a.size) * q + a.size * r := by rw [hq, Nat.mul_add, ← Nat.mul_assoc, Nat.mul_comm a.size 2, Nat.two_mul]
   by_cases hr1 : r = 1
   ·have hrb : ((r : Int) == 1) = true := by simp [hr1]
    have HN : Hid ((a ++ a).size * q + (b ++ a).size = s.size * n ∧ q ≤ n ∧ (q = 0 ∨ (a ++ a).size ≤ 1000)) := by
     rw [hr1] at e1
     refine ⟨by simp only [ByteArray.size_append]; omega, by omega, ?_⟩
     by_cases hq0 : q = 0
     ·exact .inl hq0
     ·right
      simp only [ByteArray.size_append]
      have := Nat.le_mul_of_pos_right (a.size + a.size) (show 0 < q by omega)
      omega
    have HQ : Hid (q < m) := by show q < m; omega
    clear h1 h2 h3 e1 hq hr hr1 HI
    go_wp2
    exact ⟨⟨a ++ a, b ++ a, q, rfl, by rw [HQW.out], rfl, HW, HN⟩, by have := HQ.out; rw [HQW.out]; simp only [intOf]; omega⟩
   ·have hrb : ((r : Int) == 1) = false := by simp; omega
    have HN : Hid ((a ++ a).size * q + b.size = s.size * n ∧ q ≤ n ∧ (q = 0 ∨ (a ++ a).size ≤ 1000)) := by
     have hr0 : r = 0 := by omega
     rw [hr0] at e1
     refine ⟨by simp only [ByteArray.size_append]; omega, by omega, ?_⟩
     by_cases hq0 : q = 0
     ·exact .inl hq0
     ·right
      simp only [ByteArray.size_append]
      have := Nat.le_mul_of_pos_right (a.size + a.size) (show 0 < q by omega)
      omega
    have HQ : Hid (q < m) := by show q < m; omega
    clear h1 h2 h3 e1 hq hr hr1 HI
    go_wp2
    exact ⟨⟨a ++ a, b, q, rfl, by rw [HQW.out], rfl, HW, HN⟩, by have := HQ.out; rw [HQW.out]; simp only [intOf]; omega⟩
end Go.Proofs.YtibpkhmiahamcaaGreat.Dr
