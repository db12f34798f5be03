/-
  Joined: Fa4, Fa5, Fa6.
-/
import Derived.Test.YtehpdbbkbdfobabGreatDoorFa1
import Derived.Test.YtehpdbbkbdfobabGreatDoorSt17
import Derived.Test.YtehpdbbkbdfobabGreatDoorMark3

/-
  Flights in rows: held against each other.
-/
namespace Go.Proofs.YtehpdbbkbdfobabGreatDoor.Fa
open Go.RowKit Go.Proofs.YtehpdbbkbdfobabGreatDoor Go.Proofs.YtehpdbbkbdfobabGreatDoor.Sd Go.Proofs.YtehpdbbkbdfobabGreatDoor.Pa
attribute [local go_sem] Later.cell Later.frozen
set_option linter.unusedSimpArgs false
set_option linter.unusedVariables false

/-- Flights that lie in memory. -/
def FlsAt (w : World) (v : Value) (l : List FlP) : Prop := ∃ a cap, v = .slice a l.length cap ∧ l.length ≤ cap ∧ cap ≤ maxLen ∧ ∀ i p, l[i]? = some p → ∃ g, a = some ⟨g, 0, none⟩ ∧ ((w.cell? ⟨g, i * 8, none⟩ = some (.string p.1.q) ∧ w.cell? ⟨g, i * 8 + 1, none⟩ = some (.string p.1.t.s) ∧ w.cell? ⟨g, i * 8 + 2, none⟩ = some (.int .i64 p.1.t.x) ∧ w.cell? ⟨g, i * 8 + 3, none⟩ = some (.int .i64 p.1.t.y)) ∧ (w.cell? ⟨g, i * 8 + 4, none⟩ = some (.int .i64 p.1.x) ∧ w.cell? ⟨g, i * 8 + 5, none⟩ = some (.int .i64 p.1.y) ∧ w.cell? ⟨g, i * 8 + 6, none⟩ = some (.int .i64 p.1.z) ∧ w.cell? ⟨g, i * 8 + 7, none⟩ = some p.2)) ∧ SArg w p.2 p.1.L
theorem FlsP.at {w : World} {B : Nat} {v : Value} {l : List FlP} (h : FlsP w B v l) : FlsAt w v l := by
  rcases h.row.2 with ⟨rfl, h0⟩ | ⟨g, cap, cur, rfl, hB, hb, hn, hc, hs, ht⟩
  · refine ⟨none, 0, by rw [h0], by omega, Nat.zero_le _, fun i p hi => ?_⟩
    have := (List.getElem?_eq_some_iff.1 hi).1
    omega
  · refine ⟨_, cap, rfl, hn, hc, fun i p hi => ⟨g, rfl, ?_, SNew.arg (h.rt p (List.mem_of_getElem? hi))⟩⟩
    have hil := (List.getElem?_eq_some_iff.1 hi).1
    have hcell : ∀ j u, j < 8 → (flRow p)[j]? = some u → w.cell? ⟨g, i * 8 + j, none⟩ = some u := fun j u hj hu => by
      have e := flRows_get l i j p hi hj
      rw [hu, ← ht, List.getElem?_take, if_pos (by omega)] at e
      simp only [World.cell?, hb, Option.isSome_none, Bool.false_eq_true, if_false]
      simpa using e
    exact ⟨⟨hcell 0 _ (by omega) rfl, hcell 1 _ (by omega) rfl, hcell 2 _ (by omega) rfl, hcell 3 _ (by omega) rfl⟩, hcell 4 _ (by omega) rfl, hcell 5 _ (by omega) rfl, hcell 6 _ (by omega) rfl, hcell 7 _ (by omega) rfl⟩
def pat (l : List FlP) (i : Nat) : FlP := l.getD i (⟨⟨#[]⟩, ⟨⟨#[]⟩, 0, 0⟩, 0, 0, 0, []⟩, .slice none 0 0)
theorem pat_get {l : List FlP} {i : Nat} (h : i < l.length) : l[i]? = some (pat l i) := by simp [pat, h]
set_option maxRecDepth 100000 in
set_option maxHeartbeats 3200000 in
theorem eqFls_any (v v' : Value) (l l' : List FlP) (w : World) (hv : FlsAt w v l) (hv' : FlsAt w v' l') (he : l.map Prod.fst = l'.map Prod.fst) :
    Calls Tryz.prog 24 #[v, v'] w fun e w' => e = .returned (.bool true) ∧ Below w.heap.size w w' := by
  have hll : l'.length = l.length := by have := congrArg List.length he; simpa using this.symm
  have HEQ : Hid (∀ i, i < l.length → (pat l i).1 = (pat l' i).1) := fun i hi => by
    have h1 : (l.map Prod.fst)[i]? = some (pat l i).1 := by rw [List.getElem?_map, pat_get hi]; rfl
    have h2 : (l'.map Prod.fst)[i]? = some (pat l' i).1 := by rw [List.getElem?_map, pat_get (by omega)]; rfl
    rw [he, h2] at h1
    injection h1 with h1
    exact h1.symm
  obtain ⟨a, cap, rfl, hlc, hcm, hc⟩ := hv
  obtain ⟨a', cap', rfl, hlc', hcm', hc'⟩ := hv'
  unfold maxLen at hcm hcm'
  have HC : Hid (∀ i, i < l.length → ∃ g, a = some ⟨g, 0, none⟩ ∧ ((w.cell? ⟨g, i * 8, none⟩ = some (.string (pat l i).1.q) ∧ w.cell? ⟨g, i * 8 + 1, none⟩ = some (.string (pat l i).1.t.s) ∧ w.cell? ⟨g, i * 8 + 2, none⟩ = some (.int .i64 (pat l i).1.t.x) ∧ w.cell? ⟨g, i * 8 + 3, none⟩ = some (.int .i64 (pat l i).1.t.y)) ∧ (w.cell? ⟨g, i * 8 + 4, none⟩ = some (.int .i64 (pat l i).1.x) ∧ w.cell? ⟨g, i * 8 + 5, none⟩ = some (.int .i64 (pat l i).1.y) ∧ w.cell? ⟨g, i * 8 + 6, none⟩ = some (.int .i64 (pat l i).1.z) ∧ w.cell? ⟨g, i * 8 + 7, none⟩ = some (pat l i).2)) ∧ SArg w (pat l i).2 (pat l i).1.L) := fun i hi => hc i _ (pat_get hi)
  have HC' : Hid (∀ i, i < l.length → ∃ g, a' = some ⟨g, 0, none⟩ ∧ ((w.cell? ⟨g, i * 8, none⟩ = some (.string (pat l' i).1.q) ∧ w.cell? ⟨g, i * 8 + 1, none⟩ = some (.string (pat l' i).1.t.s) ∧ w.cell? ⟨g, i * 8 + 2, none⟩ = some (.int .i64 (pat l' i).1.t.x) ∧ w.cell? ⟨g, i * 8 + 3, none⟩ = some (.int .i64 (pat l' i).1.t.y)) ∧ (w.cell? ⟨g, i * 8 + 4, none⟩ = some (.int .i64 (pat l' i).1.x) ∧ w.cell? ⟨g, i * 8 + 5, none⟩ = some (.int .i64 (pat l' i).1.y) ∧ w.cell? ⟨g, i * 8 + 6, none⟩ = some (.int .i64 (pat l' i).1.z) ∧ w.cell? ⟨g, i * 8 + 7, none⟩ = some (pat l' i).2)) ∧ SArg w (pat l' i).2 (pat l' i).1.L) := fun i hi => hc' i _ (pat_get (by omega))
  clear hc hc' he
  rw [hll] at hlc' ⊢
  go_enter Tryz.func24, Tryz.ntmps24
  go_wp2
  go_loopw [5] (fun i w' => ∃ k : Nat, k ≤ l.length ∧ i = .int .i64 k ∧ Hid (Below w.heap.size w w')) (fun i _ => l.length - (intOf i).toNat)
  case atStart => exact ⟨0, Nat.zero_le _, rfl, Below.refl _ _⟩
  case round =>
    obtain ⟨k, hk, rfl, HB⟩ := hrel
    by_cases hlt : k < l.length
    · obtain ⟨b, rfl, ⟨⟨d0, d1, d2, d3⟩, d4, d5, d6, d7⟩, hs⟩ := HC.out k hlt
      obtain ⟨b', rfl, ⟨⟨e0, e1, e2, e3⟩, e4, e5, e6, e7⟩, hs'⟩ := HC'.out k hlt
      have hpe := HEQ.out k hlt
      rw [← hpe] at e0 e1 e2 e3 e4 e5 e6 hs'
      clear hpe
      have c0 := cell_keep HB.out (Nat.le_refl _) d0
      have f0 := cell_keep HB.out (Nat.le_refl _) e0
      have c1 := cell_keep HB.out (Nat.le_refl _) d1
      have f1 := cell_keep HB.out (Nat.le_refl _) e1
      have c2 := cell_keep HB.out (Nat.le_refl _) d2
      have f2 := cell_keep HB.out (Nat.le_refl _) e2
      have c3 := cell_keep HB.out (Nat.le_refl _) d3
      have f3 := cell_keep HB.out (Nat.le_refl _) e3
      have c4 := cell_keep HB.out (Nat.le_refl _) d4
      have f4 := cell_keep HB.out (Nat.le_refl _) e4
      have c5 := cell_keep HB.out (Nat.le_refl _) d5
      have f5 := cell_keep HB.out (Nat.le_refl _) e5
      have c6 := cell_keep HB.out (Nat.le_refl _) d6
      have f6 := cell_keep HB.out (Nat.le_refl _) e6
      have c7 := cell_keep HB.out (Nat.le_refl _) d7
      have f7 := cell_keep HB.out (Nat.le_refl _) e7
      have z0 := lt_of_cell c0
      have z1 := lt_of_cell f0
      have hk0 : (0 : Int) ≤ (k : Int) := by omega
      have hk1 : (k : Int) < (l.length : Int) := by omega
      have HS : Hid (SArg w (pat l k).2 (pat l k).1.L ∧ SArg w (pat l' k).2 (pat l k).1.L) := ⟨hs, hs'⟩
      obtain ⟨ra, rc, hr1, -, -, -⟩ := hs
      obtain ⟨ra', rc', hr1', -, -, -⟩ := hs'
      rw [hr1] at c7 HS
      rw [hr1'] at f7 HS
      clear d0 d1 d2 d3 d4 d5 d6 d7 e0 e1 e2 e3 e4 e5 e6 e7 hr1 hr1'
      generalize (pat l k).1 = t at *
      have hne := Later.some wr
      have GE : Hid (∀ y : Later wr, Calls Tryz.prog 19 #[.agg #[.string t.q, .string t.t.s, .int .i64 t.t.x, .int .i64 t.t.y, .int .i64 t.x, .int .i64 t.y, .int .i64 t.z, .slice ra t.L.length rc], .agg #[.string t.q, .string t.t.s, .int .i64 t.t.x, .int .i64 t.t.y, .int .i64 t.x, .int .i64 t.y, .int .i64 t.z, .slice ra' t.L.length rc']] y.val fun e w'' => e = .returned (.bool true) ∧ ∃ z : Later wr, w'' = z.val) := fun y => Calls.later (eqFlight_any t.q t.t t.x t.y t.z _ _ t.L y.val (HS.out.1.keep (below_step HB.out y.below)) (HS.out.2.keep (below_step HB.out y.below)))
      generalize t.L.length = tn at *
      go_wp2
      refine wp_region_later (by kernel_rfl) (by kernel_rfl) ?_
      repeat (go_big_quiet_step (exact GE.out _))
      refine wpQuiet_nil ?_
      rintro _ ⟨x, rfl⟩
      have HB2 : Hid (Below w.heap.size w x.val) := below_step HB.out x.below
      go_wp2
      exact ⟨⟨k + 1, by omega, by go_num, HB2⟩, by simp [intOf]; omega⟩
    · go_wp2
      go_ret
      exact ⟨rfl, HB.out⟩
end Go.Proofs.YtehpdbbkbdfobabGreatDoor.Fa

/-
  Flights in a row: marked, and their marks held.
-/
namespace Go.Proofs.YtehpdbbkbdfobabGreatDoor.Fa
open Go.RowKit Go.Proofs.YtehpdbbkbdfobabGreatDoor Go.Proofs.YtehpdbbkbdfobabGreatDoor.Sd Go.Proofs.YtehpdbbkbdfobabGreatDoor.Pa
attribute [local go_sem] Later.cell Later.frozen
set_option linter.unusedSimpArgs false
set_option linter.unusedVariables false

/-- How many marks the flights ahead of place i take. -/
def kAt : List FlP → Nat → Nat
  | [], _ => 0
  | _ :: _, 0 => 0
  | p :: l, i + 1 => 7 + p.1.L.length + kAt l i
theorem kAt_succ : ∀ (l : List FlP) (i : Nat) (p : FlP), l[i]? = some p → kAt l (i + 1) = kAt l i + (7 + p.1.L.length)
  | [], i, p, h => by simp at h
  | a :: l, 0, p, h => by
    simp at h; subst h
    cases l <;> simp [kAt]
  | a :: l, i + 1, p, h => by
    have := kAt_succ l i p (by simpa using h)
    rw [kAt, kAt, this]
    omega
theorem kAt_le : ∀ (l : List FlP) (i : Nat), kAt l i ≤ kAt l l.length
  | [], i => by simp [kAt]
  | a :: l, 0 => by simp [kAt]
  | a :: l, i + 1 => by
    have := kAt_le l i
    simp only [List.length_cons, kAt]
    omega
/-- The marks of a flight's own cells. -/
def mkF (s q : Nat) : Value := if q < 2 then .string (mkT (s + q)) else .int .i64 ((s + q : Nat) : Int)
theorem RowT_far {w w' : World} {v : Value} {n k : Nat} (h : RowT w v n k) (hz : w.heap.size ≤ w'.heap.size) (hs : ∀ q, v.ownBlock = some q → w'.heap[q]? = w.heap[q]?) : RowT w' v n k := by
  rcases h with h | ⟨b, cap, rfl, hl, hc⟩
  · exact .inl h
  · exact .inr ⟨b, cap, rfl, Nat.lt_of_lt_of_le hl hz, fun q hq => by rw [World.cell?_of_block (w := w) (hs b rfl)]; exact hc q hq⟩
theorem RooT_far {w w' : World} {v : Value} {n : Nat} (h : RooT w v n) (hz : w.heap.size ≤ w'.heap.size) (hs : ∀ q, v.ownBlock = some q → w'.heap[q]? = w.heap[q]?) : RooT w' v n := by
  rcases h with h | ⟨b, cap, rfl, hl, hc⟩
  · exact .inl h
  · exact .inr ⟨b, cap, rfl, Nat.lt_of_lt_of_le hl hz, fun q hq => by rw [World.cell?_of_block (w := w) (hs b rfl), World.frozen?_of_block (w := w) (hs b rfl)]; exact hc q hq⟩
/-- What does not change while marks are set. -/
structure MS (lo hi b : Nat) (l : List FlP) : Prop where
  nb : ∀ p ∈ l, p.2.ownBlock ≠ some b
  ap : l.Pairwise fun p p' => Apart p.2 p'.2
  lb : lo ≤ b ∧ b < hi
  lr : ∀ p ∈ l, ∀ q, p.2.ownBlock = some q → lo ≤ q ∧ q < hi
theorem MS.apart {lo hi b : Nat} {l : List FlP} (h : MS lo hi b l) {i j : Nat} {p q : FlP} (hi : l[i]? = some p) (hj : l[j]? = some q) (hij : i ≠ j) : Apart p.2 q.2 := by
  obtain ⟨h1, e1⟩ := List.getElem?_eq_some_iff.1 hi
  obtain ⟨h2, e2⟩ := List.getElem?_eq_some_iff.1 hj
  have hp := List.pairwise_iff_getElem.1 h.ap
  rcases Nat.lt_or_gt_of_ne hij with hl | hl
  · have := hp i j h1 h2 hl
    rw [e1, e2] at this
    exact this
  · have := hp j i h2 h1 hl
    rw [e1, e2] at this
    exact this.symm
/-- The flights ahead of place m hold their marks, the first j cells of the one at m too. -/
structure MR (lo hi : Nat) (w wr : World) (b : Nat) (l : List FlP) (k m j : Nat) : Prop where
  only : Only lo hi w wr
  big : b < wr.heap.size
  room : wr.there b 0 (l.length * 8)
  done : ∀ i p, i < m → l[i]? = some p → (∀ q, q < 7 → wr.cell? ⟨b, i * 8 + q, none⟩ = some (mkF (k + kAt l i) q)) ∧ wr.cell? ⟨b, i * 8 + 7, none⟩ = some p.2 ∧ RowT wr p.2 p.1.L.length (k + kAt l i + 7)
  todo : ∀ i p, m ≤ i → l[i]? = some p → wr.cell? ⟨b, i * 8 + 7, none⟩ = some p.2 ∧ RooT wr p.2 p.1.L.length
  part : ∀ q, q < j → wr.cell? ⟨b, m * 8 + q, none⟩ = some (mkF (k + kAt l m) q)
theorem MR.call {lo hi : Nat} {w wr wx : World} {b : Nat} {l : List FlP} {k m j : Nat} (h : MR lo hi w wr b l k m j) (hb : Below wr.heap.size wr wx) (hlo : lo ≤ wr.heap.size) : MR lo hi w wx b l k m j :=
  ⟨h.only.trans (Only.call hb hlo), Nat.lt_of_lt_of_le h.big hb.size, there_keep h.room hb h.big,
   fun i p hi hp => ⟨fun q hq => cell_keep hb (Nat.le_refl _) ((h.done i p hi hp).1 q hq), cell_keep hb (Nat.le_refl _) (h.done i p hi hp).2.1, (h.done i p hi hp).2.2.keep hb⟩,
   fun i p hi hp => ⟨cell_keep hb (Nat.le_refl _) (h.todo i p hi hp).1, (h.todo i p hi hp).2.keep hb⟩,
   fun q hq => cell_keep hb (Nat.le_refl _) (h.part q hq)⟩
theorem MR.set {lo hi : Nat} {w wr : World} {b : Nat} {l : List FlP} {k m j : Nat} (h : MR lo hi w wr b l k m j) (s : MS lo hi b l) (hm : m < l.length) (hj : j < 7) {v : Value} (hv : mkF (k + kAt l m) j = v) : MR lo hi w (wr.setCell ⟨b, m * 8 + j, none⟩ v) b l k m (j + 1) := by
  have ho : ∀ x, x ≠ b → (wr.setCell ⟨b, m * 8 + j, none⟩ v).heap[x]? = wr.heap[x]? := fun x hx => Below.heap_setCell wr ⟨b, m * 8 + j, none⟩ v x hx
  have hz : wr.heap.size ≤ (wr.setCell ⟨b, m * 8 + j, none⟩ v).heap.size := by simp
  have hc : ∀ x, x ≠ m * 8 + j → (wr.setCell ⟨b, m * 8 + j, none⟩ v).cell? ⟨b, x, none⟩ = wr.cell? ⟨b, x, none⟩ := fun x hx => World.cell?_setCell_other wr ⟨b, m * 8 + j, none⟩ ⟨b, x, none⟩ v (by simp <;> omega)
  have hn : ∀ p ∈ l, ∀ q, p.2.ownBlock = some q → (wr.setCell ⟨b, m * 8 + j, none⟩ v).heap[q]? = wr.heap[q]? := fun p hp q hq => ho q (fun e => s.nb p hp (by rw [hq, e]))
  refine ⟨h.only.trans (Only.set wr v s.lb.1 s.lb.2), by simpa using h.big, World.there_setCells h.room b (m * 8 + j) [v], fun i p hi hp => ⟨fun q hq => ?_, ?_, RowT_far (h.done i p hi hp).2.2 hz (hn p (List.mem_of_getElem? hp))⟩, fun i p hi hp => ⟨?_, RooT_far (h.todo i p hi hp).2 hz (hn p (List.mem_of_getElem? hp))⟩, fun q hq => ?_⟩
  · rw [hc _ (by omega)]; exact (h.done i p hi hp).1 q hq
  · rw [hc _ (by omega)]; exact (h.done i p hi hp).2.1
  · rw [hc _ (by omega)]; exact (h.todo i p hi hp).1
  · by_cases e : q = j
    · subst e
      have hr := h.room (m * 8 + q) (by omega)
      have hr' : (wr.cell? ⟨b, m * 8 + q, none⟩).isSome = true := by
        have := hr
        simp only [Nat.zero_add] at this
        exact this.1
      obtain ⟨u, hu⟩ := Option.isSome_iff_exists.1 hr'
      rw [World.cell?_setCell_same wr ⟨b, m * 8 + q, none⟩ v hu, hv]
    · rw [hc _ (by omega)]; exact h.part q (by omega)
theorem MR.free {lo hi : Nat} {w wr : World} {b : Nat} {l : List FlP} {k m j : Nat} (h : MR lo hi w wr b l k m j) (q : Nat) (hq : q < l.length * 8) : (∃ v, wr.cell? ⟨b, q, none⟩ = some v) ∧ wr.frozen? ⟨b, q, none⟩ = false := by
  have := h.room q hq
  simpa [Option.isSome_iff_exists] using this
theorem MR.route {lo hi : Nat} {w wr wx : World} {b : Nat} {l : List FlP} {k m : Nat} {p : FlP} (h : MR lo hi w wr b l k m 7) (s : MS lo hi b l) (hp : l[m]? = some p) (hg : wr.grownBy wx p.2.ownBlock) (hr : RowT wx p.2 p.1.L.length (k + kAt l m + 7)) (hst : ∀ B o n, B < wr.heap.size → wr.there B o n → wx.there B o n) (hlo : lo ≤ wr.heap.size) : MR lo hi w wx b l k (m + 1) 0 := by
  have hpm := List.mem_of_getElem? hp
  have hbk : wx.heap[b]? = wr.heap[b]? := hg.block b h.big (fun e => s.nb p hpm e.symm)
  have hcb : ∀ x, wx.cell? ⟨b, x, none⟩ = wr.cell? ⟨b, x, none⟩ := fun x => World.cell?_of_block (w := wr) hbk
  refine ⟨h.only.trans ⟨?_, fun q hq hl => ?_, hst⟩, Nat.lt_of_lt_of_le h.big hg.size, hst _ _ _ h.big h.room, fun i q hi hq => ?_, fun i q hi hq => ?_, fun q hq => absurd hq (Nat.not_lt_zero _)⟩
  · exact (Below.refl lo wr).grown hg hlo (fun q hq => (s.lr p hpm q hq).1)
  · exact hg.block q hl (fun e => by have := (s.lr p hpm q e.symm).2; omega)
  · by_cases e : i = m
    · subst e
      rw [hp] at hq
      injection hq with hq
      subst hq
      exact ⟨fun x hx => by rw [hcb]; exact h.part x hx, by rw [hcb]; exact (h.todo i p (Nat.le_refl _) hp).1, hr⟩
    · have hd := h.done i q (by omega) hq
      refine ⟨fun x hx => by rw [hcb]; exact hd.1 x hx, by rw [hcb]; exact hd.2.1, RowT_far hd.2.2 hg.size (fun x hx => ?_)⟩
      by_cases hl : x < wr.heap.size
      · exact hg.block x hl (fun e2 => s.apart hq hp e x hx e2.symm)
      · rcases hd.2.2 with ⟨hv, -⟩ | ⟨b2, cap2, hv, hl2, -⟩
        · rw [hv] at hx; cases hx
        · rw [hv] at hx
          have hx' : (some b2 : Option Nat) = some x := hx
          injection hx' with hx'
          omega
  · have ht := h.todo i q (by omega) hq
    refine ⟨by rw [hcb]; exact ht.1, RooT_far ht.2 hg.size (fun x hx => ?_)⟩
    by_cases hl : x < wr.heap.size
    · exact hg.block x hl (fun e2 => s.apart hq hp (by omega) x hx e2.symm)
    · rcases ht.2 with ⟨hv, -⟩ | ⟨b2, cap2, hv, hl2, -⟩
      · rw [hv] at hx; cases hx
      · rw [hv] at hx
        have hx' : (some b2 : Option Nat) = some x := hx
        injection hx' with hx'
        omega
/-- Marking texts: what could be written can be. -/
theorem markStrsS_any (v : Value) (n k : Nat) (w : World) (h : RooT w v n) (hn : n ≤ 1048576) (hk : k ≤ 1000000000) :
    Calls Tryz.prog 57 #[v, .int .i64 k] w fun e w' => e = .returned (.int .i64 ((k + n : Nat) : Int)) ∧ RowT w' v n k ∧ w.grownBy w' v.ownBlock ∧ ∀ B o n, B < w.heap.size → w.there B o n → w'.there B o n := by
  rcases h with ⟨rfl, rfl⟩ | ⟨b, cap, rfl, hb, ht⟩
  · refine (markStrsNil_any k w).mono ?_
    rintro e w' ⟨rfl, rfl⟩
    exact ⟨by simp, .inl ⟨rfl, rfl⟩, below_grown (Below.refl _ _) _, fun _ _ _ _ h => h⟩
  · refine (markStrsM_any b n cap k w hb ht hn hk).mono ?_
    rintro e w' ⟨rfl, hM⟩
    refine ⟨rfl, .inr ⟨b, cap, rfl, Nat.lt_of_lt_of_le hb hM.grown.size, fun q hq => hM.has q hq⟩, hM.grown, fun B o n' hB ht' => ?_⟩
    by_cases e : B = b
    · subst e; exact hM.stays o n' ht'
    · intro q hq
      have hblk := hM.grown.block B hB (by simp; exact e)
      have := ht' q hq
      rw [World.cell?_of_block (w := w) hblk, World.frozen?_of_block (w := w) hblk]
      exact this
theorem markFlsNil_any (k : Nat) (w : World) : Calls Tryz.prog 25 #[.slice none 0 0, .int .i64 k] w fun e w' => e = .returned (.int .i64 k) ∧ w' = w := by
  go_enter Tryz.func25, Tryz.ntmps25
  go_wp2
  go_loopw [1, 5] (fun kk i wr => i = .int .i64 0 ∧ kk = .int .i64 k ∧ wr = w) (fun _ _ _ => 0)
  case atStart => exact ⟨rfl, rfl, rfl⟩
  case round =>
    obtain ⟨rfl, rfl, rfl⟩ := hrel
    go_wp2
    go_ret
    exact ⟨rfl, rfl⟩
theorem heldFlsNil_any (k : Nat) (w : World) : Calls Tryz.prog 26 #[.slice none 0 0, .int .i64 k] w fun e w' => e = .returned (.int .i64 k) ∧ w' = w := by
  go_enter Tryz.func26, Tryz.ntmps26
  go_wp2
  go_loopw [1, 5] (fun kk i wr => i = .int .i64 0 ∧ kk = .int .i64 k ∧ wr = w) (fun _ _ _ => 0)
  case atStart => exact ⟨rfl, rfl, rfl⟩
  case round =>
    obtain ⟨rfl, rfl, rfl⟩ := hrel
    go_wp2
    go_ret
    exact ⟨rfl, rfl⟩
set_option maxRecDepth 100000 in
set_option maxHeartbeats 6400000 in
theorem markFls_any (lo hi b cap k : Nat) (l : List FlP) (w : World) (h0 : MR lo hi w w b l k 0 0) (s : MS lo hi b l) (hlo : lo ≤ w.heap.size) (hL : ∀ p ∈ l, p.1.L.length ≤ 1048576) (hk : k + kAt l l.length ≤ 100000000) (hn : l.length ≤ 1048576) :
    Calls Tryz.prog 25 #[.slice (some ⟨b, 0, none⟩) l.length cap, .int .i64 k] w fun e w' => e = .returned (.int .i64 ((k + kAt l l.length : Nat) : Int)) ∧ MR lo hi w w' b l k l.length 0 := by
  have H0 : Hid (MR lo hi w w b l k 0 0) := h0
  have HS : Hid (MS lo hi b l) := s
  have HLL : Hid (∀ p ∈ l, p.1.L.length ≤ 1048576) := hL
  have HKL : Hid (∀ i, kAt l i ≤ kAt l l.length) := kAt_le l
  have HK0 : Hid (kAt l 0 = 0) := by show _ = _; cases l <;> rfl
  clear h0 s hL
  go_enter Tryz.func25, Tryz.ntmps25
  go_wp2
  go_loopw [1, 5] (fun kk i wr => ∃ m : Nat, m ≤ l.length ∧ i = .int .i64 m ∧ kk = .int .i64 ((k + kAt l m : Nat) : Int) ∧ Hid (MR lo hi w wr b l k m 0)) (fun _ i _ => l.length - (intOf i).toNat)
  case atStart => exact ⟨0, Nat.zero_le _, rfl, by rw [HK0.out]; rfl, H0⟩
  case round =>
    obtain ⟨m, hm, rfl, rfl, HM⟩ := hrel
    by_cases hlt : m < l.length
    · have hp := pat_get hlt
      have HP := Lv.toHid hp
      have HKS : Hid (kAt l (m + 1) = kAt l m + (7 + (pat l m).1.L.length)) := kAt_succ l m _ hp
      have hpl := HLL.out _ (List.mem_of_getElem? hp)
      have hkl := HKL.out (m + 1)
      have hkl0 := HKL.out m
      rw [HKS.out] at hkl
      clear hp
      have hm0 : (0 : Int) ≤ (m : Int) := by omega
      have hm1 : (m : Int) < (l.length : Int) := by omega
      obtain ⟨K, hK⟩ : ∃ K, k + kAt l m = K := ⟨_, rfl⟩
      have HK : Hid (k + kAt l m = K) := hK
      have hKb : K + 7 + (pat l m).1.L.length ≤ 100000000 := by omega
      rw [hK]
      clear hK
      have GT : Hid (∀ (j : Nat) (wx : World), j ≤ 7 → Calls Tryz.prog 59 #[.int .i64 ((K + j : Nat) : Int)] wx fun e w' => e = .returned (.string (mkT (K + j))) ∧ Below wx.heap.size wx w') := fun j wx hj => markText_any (K + j) (by omega) wx
      have HF0 : Hid (mkF (k + kAt l m) 0 = .string (mkT K)) := by show _ = _; rw [HK.out]; rfl
      have HF1 : Hid (mkF (k + kAt l m) 1 = .string (mkT (K + 1))) := by show _ = _; rw [HK.out]; rfl
      have HFI : Hid (∀ j, 2 ≤ j → mkF (k + kAt l m) j = .int .i64 ((K + j : Nat) : Int)) := fun j hj => by rw [HK.out]; unfold mkF; rw [if_neg (by omega)]
      have HLO : Hid (∀ (wx : World) (j : Nat), MR lo hi w wx b l k m j → lo ≤ wx.heap.size) := fun wx j h => Nat.le_trans hlo h.only.below.size
      clear hlo
      have GT0 := Lv.toHid (fun wx => GT.out 0 wx (by omega))
      have GT1 := Lv.toHid (fun wx => GT.out 1 wx (by omega))
      simp only [Nat.add_zero] at GT0
      rw [show ((K + 1 : Nat) : Int) = (K : Int) + 1 by omega] at GT1
      clear GT
      go_wp2_with fail
      refine (GT0.out _).mono ?_
      rintro e w1 ⟨rfl, hb1⟩
      have M0 := Lv.toHid (HM.out.call hb1 (HLO.out _ _ HM.out))
      obtain ⟨⟨v0, c0⟩, x0⟩ := M0.out.free (m * 8) (by omega)
      have M1 := Lv.toHid (M0.out.set HS.out hlt (by omega) HF0.out)
      clear hb1 HM
      go_wp2_with fail
      simp only [Nat.add_zero] at M1
      generalize (w1.setCell ⟨b, m * 8, none⟩ (.string (mkT K))) = w2 at *
      clear c0 x0 M0
      refine (GT1.out _).mono ?_
      rintro e w3 ⟨rfl, hb3⟩
      have M2 := Lv.toHid (M1.out.call hb3 (HLO.out _ _ M1.out))
      obtain ⟨⟨v1, c1⟩, x1⟩ := M2.out.free (m * 8 + 1) (by omega)
      have M3 := Lv.toHid (M2.out.set HS.out hlt (by omega) HF1.out)
      clear hb3 M1
      obtain ⟨⟨v2, c2⟩, x2⟩ := M3.out.free (m * 8 + 2) (by omega)
      have hf2 := HFI.out 2 (by omega)
      rw [show ((K + 2 : Nat) : Int) = (K : Int) + 1 + 1 by omega] at hf2
      have M4 := Lv.toHid (M3.out.set HS.out hlt (by omega) hf2)
      clear hf2
      obtain ⟨⟨v3, c3⟩, x3⟩ := M4.out.free (m * 8 + 3) (by omega)
      have hf3 := HFI.out 3 (by omega)
      rw [show ((K + 3 : Nat) : Int) = (K : Int) + 1 + 1 + 1 by omega] at hf3
      have M5 := Lv.toHid (M4.out.set HS.out hlt (by omega) hf3)
      clear hf3
      obtain ⟨⟨v4, c4⟩, x4⟩ := M5.out.free (m * 8 + 4) (by omega)
      have hf4 := HFI.out 4 (by omega)
      rw [show ((K + 4 : Nat) : Int) = (K : Int) + 1 + 1 + 1 + 1 by omega] at hf4
      have M6 := Lv.toHid (M5.out.set HS.out hlt (by omega) hf4)
      clear hf4
      obtain ⟨⟨v5, c5⟩, x5⟩ := M6.out.free (m * 8 + 5) (by omega)
      have hf5 := HFI.out 5 (by omega)
      rw [show ((K + 5 : Nat) : Int) = (K : Int) + 1 + 1 + 1 + 1 + 1 by omega] at hf5
      have M7 := Lv.toHid (M6.out.set HS.out hlt (by omega) hf5)
      clear hf5
      obtain ⟨⟨v6, c6⟩, x6⟩ := M7.out.free (m * 8 + 6) (by omega)
      have hf6 := HFI.out 6 (by omega)
      rw [show ((K + 6 : Nat) : Int) = (K : Int) + 1 + 1 + 1 + 1 + 1 + 1 by omega] at hf6
      have M8 := Lv.toHid (M7.out.set HS.out hlt (by omega) hf6)
      clear hf6
      have c7 := (M8.out.todo m _ (Nat.le_refl _) HP.out).1
      obtain ⟨ra, rn, rc, hrs⟩ := (M8.out.todo m _ (Nat.le_refl _) HP.out).2.slice
      rw [hrs] at c7
      have GR : Hid (∀ wx : World, RooT wx (.slice ra rn rc) (pat l m).1.L.length → Calls Tryz.prog 57 #[.slice ra rn rc, .int .i64 ((K : Int) + 1 + 1 + 1 + 1 + 1 + 1 + 1)] wx fun e w' => e = .returned (.int .i64 ((K + 7 + (pat l m).1.L.length : Nat) : Int)) ∧ RowT w' (.slice ra rn rc) (pat l m).1.L.length (K + 7) ∧ wx.grownBy w' (Value.slice ra rn rc).ownBlock ∧ ∀ B o n, B < wx.heap.size → wx.there B o n → w'.there B o n) := fun wx hx => by
        have h := markStrsS_any (.slice ra rn rc) (pat l m).1.L.length (K + 7) wx hx hpl (by omega)
        rw [show ((K + 7 : Nat) : Int) = (K : Int) + 1 + 1 + 1 + 1 + 1 + 1 + 1 by omega] at h
        exact h
      have HRS := Lv.toHid hrs
      clear hrs
      go_wp2_with fail
      have hR8 := (M8.out.todo m _ (Nat.le_refl _) HP.out).2
      rw [HRS.out] at hR8
      refine (GR.out _ hR8).mono ?_
      rintro e w9 ⟨rfl, hrow, hgr, hst⟩
      have M9 : Hid (MR lo hi w w9 b l k (m + 1) 0) := by
        refine M8.out.route HS.out HP.out (by rw [HRS.out]; exact hgr) ?_ hst (HLO.out _ _ M8.out)
        rw [HRS.out, HK.out]
        exact hrow
      have HNX : Hid (((K + 7 + (pat l m).1.L.length : Nat) : Int) = ((k + kAt l (m + 1) : Nat) : Int)) := by show _ = _; rw [HKS.out]; have := HK.out; omega
      clear hrow hgr hst hR8 c7 GR
      obtain ⟨KN, hKN⟩ : ∃ x, ((K + 7 + (pat l m).1.L.length : Nat) : Int) = x := ⟨_, rfl⟩
      rw [hKN] at HNX ⊢
      clear hKN
      go_wp2
      exact ⟨⟨m + 1, by omega, by go_num, by rw [HNX.out], M9⟩, by simp [intOf]; omega⟩
    · have HF : Hid (m = l.length) := by show m = l.length; omega
      go_wp2
      go_ret
      have h := HM.out
      rw [HF.out] at h ⊢
      exact ⟨rfl, h⟩
/-- The flights hold their marks. -/
def FlsM (w : World) (v : Value) (l : List FlP) (k : Nat) : Prop := (v = .slice none 0 0 ∧ l = []) ∨ ∃ b cap, v = .slice (some ⟨b, 0, none⟩) l.length cap ∧ b < w.heap.size ∧ ∀ i p, l[i]? = some p → (∀ q, q < 7 → w.cell? ⟨b, i * 8 + q, none⟩ = some (mkF (k + kAt l i) q)) ∧ w.cell? ⟨b, i * 8 + 7, none⟩ = some p.2 ∧ RowT w p.2 p.1.L.length (k + kAt l i + 7)
theorem FlsM.keep {w w' : World} {v : Value} {l : List FlP} {k : Nat} (h : FlsM w v l k) (hb : Below w.heap.size w w') : FlsM w' v l k := by
  rcases h with h | ⟨b, cap, rfl, hl, hd⟩
  · exact .inl h
  · exact .inr ⟨b, cap, rfl, Nat.lt_of_lt_of_le hl hb.size, fun i p hp => ⟨fun q hq => cell_keep hb (Nat.le_refl _) ((hd i p hp).1 q hq), cell_keep hb (Nat.le_refl _) (hd i p hp).2.1, (hd i p hp).2.2.keep hb⟩⟩
theorem FlsM.slice {w : World} {v : Value} {l : List FlP} {k : Nat} (h : FlsM w v l k) : ∃ a m c, v = .slice a m c := by
  rcases h with ⟨rfl, -⟩ | ⟨b, cap, rfl, -⟩ <;> exact ⟨_, _, _, rfl⟩
theorem markFlsG_any (v : Value) (l : List FlP) (B hi k : Nat) (w : World) (h : FlsP w B v l) (hv : ∀ q, v.ownBlock = some q → q < hi) (hr : ∀ p ∈ l, ∀ q, p.2.ownBlock = some q → q < hi) (hB : B ≤ w.heap.size) (hL : ∀ p ∈ l, p.1.L.length ≤ 1048576) (hk : k + kAt l l.length ≤ 100000000) (hn : l.length ≤ 1048576) :
    Calls Tryz.prog 25 #[v, .int .i64 k] w fun e w' => e = .returned (.int .i64 ((k + kAt l l.length : Nat) : Int)) ∧ FlsM w' v l k ∧ Only B hi w w' := by
  rcases h.row.2 with ⟨rfl, h0⟩ | ⟨b, cap, cur, rfl, hb, hc, h1, h2, h3, h4⟩
  · have hl : l = [] := List.eq_nil_of_length_eq_zero h0
    subst hl
    refine (markFlsNil_any k w).mono ?_
    rintro e w' ⟨rfl, rfl⟩
    exact ⟨by simp [kAt], .inl ⟨rfl, rfl⟩, Only.refl _ _ _⟩
  · have hbl : b < w.heap.size := (Array.getElem?_eq_some_iff.1 hc).1
    have S : MS B hi b l := ⟨fun p hp e => own_apart (h.rt p hp) h.row (by decide) b e rfl, h.ap, ⟨hb, hv b rfl⟩, fun p hp q hq => ⟨ownF_ge (h.rt p hp) q hq, hr p hp q hq⟩⟩
    have hA := h.at
    obtain ⟨a', cap', e', -, -, hcs⟩ := hA
    cases e'
    have M : MR B hi w w b l k 0 0 := by
      refine ⟨Only.refl _ _ _, hbl, fun q hq => ?_, fun i p hi => absurd hi (Nat.not_lt_zero _), fun i p _ hp => ?_, fun q hq => absurd hq (Nat.not_lt_zero _)⟩
      · have hq' : q < cur.size := by rw [h3]; omega
        simp [World.cell?, World.frozen?, hc, hq']
      · obtain ⟨g, hg, ⟨-, -, -, -, c7⟩, -⟩ := hcs i p hp
        cases hg
        exact ⟨c7, RooT.of (h.rt p (List.mem_of_getElem? hp))⟩
    refine (markFls_any B hi b cap k l w M S hB hL hk hn).mono ?_
    rintro e w' ⟨rfl, hM⟩
    exact ⟨rfl, .inr ⟨b, cap, rfl, hM.big, fun i p hp => hM.done i p (List.getElem?_eq_some_iff.1 hp).1 hp⟩, hM.only⟩
end Go.Proofs.YtehpdbbkbdfobabGreatDoor.Fa

/-
  The marks of flights in a row are held.
-/
namespace Go.Proofs.YtehpdbbkbdfobabGreatDoor.Fa
open Go.RowKit Go.Proofs.YtehpdbbkbdfobabGreatDoor Go.Proofs.YtehpdbbkbdfobabGreatDoor.Sd Go.Proofs.YtehpdbbkbdfobabGreatDoor.Pa
attribute [local go_sem] Later.cell Later.frozen
set_option linter.unusedSimpArgs false
set_option linter.unusedVariables false

set_option maxRecDepth 100000 in
set_option maxHeartbeats 6400000 in
theorem heldFls_any (b cap k : Nat) (l : List FlP) (w : World) (hM : ∀ i p, l[i]? = some p → (∀ q, q < 7 → w.cell? ⟨b, i * 8 + q, none⟩ = some (mkF (k + kAt l i) q)) ∧ w.cell? ⟨b, i * 8 + 7, none⟩ = some p.2 ∧ RowT w p.2 p.1.L.length (k + kAt l i + 7)) (hL : ∀ p ∈ l, p.1.L.length ≤ 1048576) (hk : k + kAt l l.length ≤ 100000000) (hn : l.length ≤ 1048576) :
    Calls Tryz.prog 26 #[.slice (some ⟨b, 0, none⟩) l.length cap, .int .i64 k] w fun e w' => e = .returned (.int .i64 ((k + kAt l l.length : Nat) : Int)) ∧ Below w.heap.size w w' := by
  have HM : Hid (∀ i p, l[i]? = some p → (∀ q, q < 7 → w.cell? ⟨b, i * 8 + q, none⟩ = some (mkF (k + kAt l i) q)) ∧ w.cell? ⟨b, i * 8 + 7, none⟩ = some p.2 ∧ RowT w p.2 p.1.L.length (k + kAt l i + 7)) := hM
  have HLL : Hid (∀ p ∈ l, p.1.L.length ≤ 1048576) := hL
  have HKL : Hid (∀ i, kAt l i ≤ kAt l l.length) := kAt_le l
  have HK0 : Hid (kAt l 0 = 0) := by show _ = _; cases l <;> rfl
  clear hM hL
  go_enter Tryz.func26, Tryz.ntmps26
  go_wp2
  go_loopw [1, 5] (fun kk i wr => ∃ m : Nat, m ≤ l.length ∧ i = .int .i64 m ∧ kk = .int .i64 ((k + kAt l m : Nat) : Int) ∧ Hid (Below w.heap.size w wr)) (fun _ i _ => l.length - (intOf i).toNat)
  case atStart => exact ⟨0, Nat.zero_le _, rfl, by rw [HK0.out]; rfl, Below.refl _ _⟩
  case round =>
    obtain ⟨m, hm, rfl, rfl, HB⟩ := hrel
    by_cases hlt : m < l.length
    · have hp := pat_get hlt
      have HKS : Hid (kAt l (m + 1) = kAt l m + (7 + (pat l m).1.L.length)) := kAt_succ l m _ hp
      have hpl := HLL.out _ (List.mem_of_getElem? hp)
      have hkl := HKL.out (m + 1)
      rw [HKS.out] at hkl
      have HD := Lv.toHid (HM.out m _ hp)
      clear hp
      have hm0 : (0 : Int) ≤ (m : Int) := by omega
      have hm1 : (m : Int) < (l.length : Int) := by omega
      obtain ⟨K, hK⟩ : ∃ K, k + kAt l m = K := ⟨_, rfl⟩
      have HK : Hid (k + kAt l m = K) := hK
      have hKb : K + 7 + (pat l m).1.L.length ≤ 100000000 := by omega
      rw [hK] at HD ⊢
      clear hK
      have HCS : Hid (∀ wx : World, Below w.heap.size w wx → (wx.cell? ⟨b, m * 8, none⟩ = some (.string (mkT K)) ∧ wx.cell? ⟨b, m * 8 + 1, none⟩ = some (.string (mkT (K + 1)))) ∧ (wx.cell? ⟨b, m * 8 + 2, none⟩ = some (.int .i64 ((K : Int) + 1 + 1)) ∧ wx.cell? ⟨b, m * 8 + 3, none⟩ = some (.int .i64 ((K : Int) + 1 + 1 + 1)) ∧ wx.cell? ⟨b, m * 8 + 4, none⟩ = some (.int .i64 ((K : Int) + 1 + 1 + 1 + 1))) ∧ wx.cell? ⟨b, m * 8 + 5, none⟩ = some (.int .i64 ((K : Int) + 1 + 1 + 1 + 1 + 1)) ∧ wx.cell? ⟨b, m * 8 + 6, none⟩ = some (.int .i64 ((K : Int) + 1 + 1 + 1 + 1 + 1 + 1))) := fun wx hx => by
        have hq : ∀ q, q < 7 → wx.cell? ⟨b, m * 8 + q, none⟩ = some (mkF K q) := fun q hq => cell_keep hx (Nat.le_refl _) (HD.out.1 q hq)
        have hi : ∀ q, 2 ≤ q → q < 7 → ∀ z : Int, ((K + q : Nat) : Int) = z → wx.cell? ⟨b, m * 8 + q, none⟩ = some (.int .i64 z) := fun q h2 h7 z hz => by
          have h := hq q h7
          unfold mkF at h
          rw [if_neg (by omega), hz] at h
          exact h
        exact ⟨⟨hq 0 (by omega), hq 1 (by omega)⟩, ⟨hi 2 (by omega) (by omega) _ (by omega), hi 3 (by omega) (by omega) _ (by omega), hi 4 (by omega) (by omega) _ (by omega)⟩, hi 5 (by omega) (by omega) _ (by omega), hi 6 (by omega) (by omega) _ (by omega)⟩
      have GT0 : Hid (∀ wx : World, Calls Tryz.prog 59 #[.int .i64 (K : Int)] wx fun e w' => e = .returned (.string (mkT K)) ∧ Below wx.heap.size wx w') := fun wx => markText_any K (by omega) wx
      have GT1 : Hid (∀ wx : World, Calls Tryz.prog 59 #[.int .i64 ((K : Int) + 1)] wx fun e w' => e = .returned (.string (mkT (K + 1))) ∧ Below wx.heap.size wx w') := fun wx => by
        have h := markText_any (K + 1) (by omega) wx
        rw [show ((K + 1 : Nat) : Int) = (K : Int) + 1 by omega] at h
        exact h
      generalize mkT K = t0 at *
      generalize mkT (K + 1) = t1 at *
      have ht0 : (t0.toList != t0.toList) = false := by simp
      have ht1 : (t1.toList != t1.toList) = false := by simp
      go_wp2
      refine wp_region_noPanic ?_
      refine wp_region_held_drew (S := fun wx => wx.cell? ⟨b, m * 8, none⟩ = some (.string t0)) (by kernel_rfl) ?_ (fun hHeld => ?_)
      · exact (HCS.out _ (HB.out.drew)).1.1
      have I4 : Hid (Below w.heap.size w wr.drew) := HB.out.drew
      generalize wr.drew = W at *
      clear HB
      refine wpAnyH_take (i := 0) (v := ?_) rfl (by kernel_rfl) (by kernel_rfl) (by kernel_rfl) (fun _ _ _ h => h) (Or.inl ⟨by rfl, ?_⟩) (by assumption) ?_
      rotate_left
      · intro w hSw; (try dsimp only at hSw); go_simp; try with_reducible rfl
      simp only [Act.put, List.setIfInBounds_toArray, List.set_cons_zero, List.set_cons_succ, List.getElem_toArray, List.getElem_cons_succ, List.getElem_cons_zero]
      refine wpAnyH_take (i := 1) (v := ?_) rfl (by kernel_rfl) (by kernel_rfl) (by kernel_rfl) (fun _ _ _ h => h) (Or.inl ⟨by rfl, ?_⟩) (by assumption) ?_
      rotate_left
      · intro w hSw; (try dsimp only at hSw); go_simp; try with_reducible rfl
      simp only [Act.put, List.setIfInBounds_toArray, List.set_cons_zero, List.set_cons_succ, List.getElem_toArray, List.getElem_cons_succ, List.getElem_cons_zero]
      refine wpAnyH_take (i := 2) (v := ?_) rfl (by kernel_rfl) (by kernel_rfl) (by kernel_rfl) (fun _ _ _ h => h) (Or.inl ⟨by rfl, ?_⟩) (by assumption) ?_
      rotate_left
      · intro w hSw; (try dsimp only at hSw); go_simp; try with_reducible rfl
      simp only [Act.put, List.setIfInBounds_toArray, List.set_cons_zero, List.set_cons_succ, List.getElem_toArray, List.getElem_cons_succ, List.getElem_cons_zero]
      refine wpAnyH_take (i := 3) (v := ?_) rfl (by kernel_rfl) (by kernel_rfl) (by kernel_rfl) (fun _ _ _ h => h) (Or.inl ⟨by rfl, ?_⟩) (by assumption) ?_
      rotate_left
      · intro w hSw; (try dsimp only at hSw); go_simp; try with_reducible rfl
      simp only [Act.put, List.setIfInBounds_toArray, List.set_cons_zero, List.set_cons_succ, List.getElem_toArray, List.getElem_cons_succ, List.getElem_cons_zero]
      refine wpAnyH_take (i := 4) (v := ?_) rfl (by kernel_rfl) (by kernel_rfl) (by kernel_rfl) (fun _ _ _ h => h) (Or.inl ⟨by rfl, ?_⟩) (by assumption) ?_
      rotate_left
      · intro w hSw; (try dsimp only at hSw); go_simp; try with_reducible rfl
      simp only [Act.put, List.setIfInBounds_toArray, List.set_cons_zero, List.set_cons_succ, List.getElem_toArray, List.getElem_cons_succ, List.getElem_cons_zero]
      refine wpAnyH_take (i := 5) (v := ?_) rfl (by kernel_rfl) (by kernel_rfl) (by kernel_rfl) (fun _ _ _ h => h) (Or.inl ⟨by rfl, ?_⟩) (by assumption) ?_
      rotate_left
      · intro w hSw; (try dsimp only at hSw); go_simp; try with_reducible rfl
      simp only [Act.put, List.setIfInBounds_toArray, List.set_cons_zero, List.set_cons_succ, List.getElem_toArray, List.getElem_cons_succ, List.getElem_cons_zero]
      clear hHeld
      refine wpAnyH_ready (rs := [6]) (by kernel_rfl) (by simp) ?_
      refine AllReadyH.cons rfl (fun K hK => ?_) AllReadyH.nil
      go_simp
      refine (GT0.out _).mono ?_
      rintro e W1 ⟨rfl, hb1⟩
      have I5 : Hid (Below w.heap.size w W1) := below_step I4.out hb1
      have hHeld := (HCS.out _ I5.out).1.1
      refine hK.out _ _ hHeld (fun _ => ?_)
      clear hK K hb1 I4
      refine wpAnyH_take (i := 7) (v := ?_) rfl (by kernel_rfl) (by kernel_rfl) (by kernel_rfl) (fun _ _ _ h => h) (Or.inl ⟨by rfl, ?_⟩) (by assumption) ?_
      rotate_left
      · intro w hSw; (try dsimp only at hSw); go_simp; try with_reducible rfl
      simp only [Act.put, List.setIfInBounds_toArray, List.set_cons_zero, List.set_cons_succ, List.getElem_toArray, List.getElem_cons_succ, List.getElem_cons_zero]
      clear hHeld
      refine wpAnyH_done (by kernel_rfl) ?_ _
      refine NoPanic.normal ?_
      go_wp2
      refine wp_region_noPanic ?_
      refine wp_region_held_drew (S := fun wx => wx.cell? ⟨b, m * 8 + 1, none⟩ = some (.string t1)) (by kernel_rfl) ?_ (fun hHeld => ?_)
      · exact (HCS.out _ (I5.out.drew)).1.2
      have I6 : Hid (Below w.heap.size w W1.drew) := I5.out.drew
      generalize W1.drew = W2 at *
      clear I5
      refine wpAnyH_take (i := 0) (v := ?_) rfl (by kernel_rfl) (by kernel_rfl) (by kernel_rfl) (fun _ _ _ h => h) (Or.inl ⟨by rfl, ?_⟩) (by assumption) ?_
      rotate_left
      · intro w hSw; (try dsimp only at hSw); go_simp; try with_reducible rfl
      simp only [Act.put, List.setIfInBounds_toArray, List.set_cons_zero, List.set_cons_succ, List.getElem_toArray, List.getElem_cons_succ, List.getElem_cons_zero]
      refine wpAnyH_take (i := 1) (v := ?_) rfl (by kernel_rfl) (by kernel_rfl) (by kernel_rfl) (fun _ _ _ h => h) (Or.inl ⟨by rfl, ?_⟩) (by assumption) ?_
      rotate_left
      · intro w hSw; (try dsimp only at hSw); go_simp; try with_reducible rfl
      simp only [Act.put, List.setIfInBounds_toArray, List.set_cons_zero, List.set_cons_succ, List.getElem_toArray, List.getElem_cons_succ, List.getElem_cons_zero]
      refine wpAnyH_take (i := 2) (v := ?_) rfl (by kernel_rfl) (by kernel_rfl) (by kernel_rfl) (fun _ _ _ h => h) (Or.inl ⟨by rfl, ?_⟩) (by assumption) ?_
      rotate_left
      · intro w hSw; (try dsimp only at hSw); go_simp; try with_reducible rfl
      simp only [Act.put, List.setIfInBounds_toArray, List.set_cons_zero, List.set_cons_succ, List.getElem_toArray, List.getElem_cons_succ, List.getElem_cons_zero]
      refine wpAnyH_take (i := 3) (v := ?_) rfl (by kernel_rfl) (by kernel_rfl) (by kernel_rfl) (fun _ _ _ h => h) (Or.inl ⟨by rfl, ?_⟩) (by assumption) ?_
      rotate_left
      · intro w hSw; (try dsimp only at hSw); go_simp; try with_reducible rfl
      simp only [Act.put, List.setIfInBounds_toArray, List.set_cons_zero, List.set_cons_succ, List.getElem_toArray, List.getElem_cons_succ, List.getElem_cons_zero]
      refine wpAnyH_take (i := 4) (v := ?_) rfl (by kernel_rfl) (by kernel_rfl) (by kernel_rfl) (fun _ _ _ h => h) (Or.inl ⟨by rfl, ?_⟩) (by assumption) ?_
      rotate_left
      · intro w hSw; (try dsimp only at hSw); go_simp; try with_reducible rfl
      simp only [Act.put, List.setIfInBounds_toArray, List.set_cons_zero, List.set_cons_succ, List.getElem_toArray, List.getElem_cons_succ, List.getElem_cons_zero]
      refine wpAnyH_take (i := 5) (v := ?_) rfl (by kernel_rfl) (by kernel_rfl) (by kernel_rfl) (fun _ _ _ h => h) (Or.inl ⟨by rfl, ?_⟩) (by assumption) ?_
      rotate_left
      · intro w hSw; (try dsimp only at hSw); go_simp; try with_reducible rfl
      simp only [Act.put, List.setIfInBounds_toArray, List.set_cons_zero, List.set_cons_succ, List.getElem_toArray, List.getElem_cons_succ, List.getElem_cons_zero]
      refine wpAnyH_take (i := 6) (v := ?_) rfl (by kernel_rfl) (by kernel_rfl) (by kernel_rfl) (fun _ _ _ h => h) (Or.inl ⟨by rfl, ?_⟩) (by assumption) ?_
      rotate_left
      · intro w hSw; (try dsimp only at hSw); go_simp; try with_reducible rfl
      simp only [Act.put, List.setIfInBounds_toArray, List.set_cons_zero, List.set_cons_succ, List.getElem_toArray, List.getElem_cons_succ, List.getElem_cons_zero]
      clear hHeld
      refine wpAnyH_ready (rs := [7]) (by kernel_rfl) (by simp) ?_
      refine AllReadyH.cons rfl (fun K hK => ?_) AllReadyH.nil
      go_simp
      refine (GT1.out _).mono ?_
      rintro e W3 ⟨rfl, hb3⟩
      have I7 : Hid (Below w.heap.size w W3) := below_step I6.out hb3
      have hHeld := (HCS.out _ I7.out).1.2
      refine hK.out _ _ hHeld (fun _ => ?_)
      clear hK K hb3 I6
      refine wpAnyH_take (i := 8) (v := ?_) rfl (by kernel_rfl) (by kernel_rfl) (by kernel_rfl) (fun _ _ _ h => h) (Or.inl ⟨by rfl, ?_⟩) (by assumption) ?_
      rotate_left
      · intro w hSw; (try dsimp only at hSw); go_simp; try with_reducible rfl
      simp only [Act.put, List.setIfInBounds_toArray, List.set_cons_zero, List.set_cons_succ, List.getElem_toArray, List.getElem_cons_succ, List.getElem_cons_zero]
      clear hHeld
      refine wpAnyH_done (by kernel_rfl) ?_ _
      refine NoPanic.normal ?_
      obtain ⟨-, ⟨c2, c3, c4⟩, c5, c6⟩ := HCS.out _ I7.out
      have n2 : (((K : Int) + 1 + 1) != ((K : Int) + 1 + 1)) = false := by simp
      have n3 : (((K : Int) + 1 + 1 + 1) != ((K : Int) + 1 + 1 + 1)) = false := by simp
      have n4 : (((K : Int) + 1 + 1 + 1 + 1) != ((K : Int) + 1 + 1 + 1 + 1)) = false := by simp
      have n5 : (((K : Int) + 1 + 1 + 1 + 1 + 1) != ((K : Int) + 1 + 1 + 1 + 1 + 1)) = false := by simp
      have n6 : (((K : Int) + 1 + 1 + 1 + 1 + 1 + 1) != ((K : Int) + 1 + 1 + 1 + 1 + 1 + 1)) = false := by simp
      have c7 := cell_keep I7.out (Nat.le_refl _) HD.out.2.1
      have hrow := HD.out.2.2
      obtain ⟨ra, rn, rc, hrs⟩ := hrow.slice
      rw [hrs] at c7 hrow
      have HROW := Lv.toHid hrow
      clear hrow hrs
      have GR : Hid (∀ wx : World, Below w.heap.size w wx → Calls Tryz.prog 58 #[.slice ra rn rc, .int .i64 ((K : Int) + 1 + 1 + 1 + 1 + 1 + 1 + 1)] wx fun e w' => e = .returned (.int .i64 ((K + 7 + (pat l m).1.L.length : Nat) : Int)) ∧ Below wx.heap.size wx w') := fun wx hx => by
        have h := heldStrsG_any (.slice ra rn rc) (pat l m).1.L.length (K + 7) wx (HROW.out.keep hx) hpl (by omega)
        rw [show ((K + 7 : Nat) : Int) = (K : Int) + 1 + 1 + 1 + 1 + 1 + 1 + 1 by omega] at h
        exact h
      go_wp2_with fail
      refine (GR.out _ I7.out).mono ?_
      rintro e W8 ⟨rfl, hb8⟩
      have I8 : Hid (Below w.heap.size w W8) := below_step I7.out hb8
      have HNX : Hid (((K + 7 + (pat l m).1.L.length : Nat) : Int) = ((k + kAt l (m + 1) : Nat) : Int)) := by show _ = _; rw [HKS.out]; have := HK.out; omega
      have hnn : ¬ ((K + 7 + (pat l m).1.L.length : Nat) : Int) < 0 := by omega
      clear c2 c3 c4 c5 c6 c7 hb8 GR I7
      obtain ⟨KN, hKN⟩ : ∃ x, ((K + 7 + (pat l m).1.L.length : Nat) : Int) = x := ⟨_, rfl⟩
      rw [hKN] at HNX hnn ⊢
      clear hKN
      go_wp2
      exact ⟨⟨m + 1, by omega, by go_num, by rw [HNX.out], I8⟩, by simp [intOf]; omega⟩
    · have HF : Hid (m = l.length) := by show m = l.length; omega
      go_wp2
      go_ret
      rw [HF.out]
      exact ⟨rfl, HB.out⟩
theorem heldFlsG_any (v : Value) (l : List FlP) (k : Nat) (w : World) (h : FlsM w v l k) (hL : ∀ p ∈ l, p.1.L.length ≤ 1048576) (hk : k + kAt l l.length ≤ 100000000) (hn : l.length ≤ 1048576) :
    Calls Tryz.prog 26 #[v, .int .i64 k] w fun e w' => e = .returned (.int .i64 ((k + kAt l l.length : Nat) : Int)) ∧ Below w.heap.size w w' := by
  rcases h with ⟨rfl, rfl⟩ | ⟨b, cap, rfl, hb, hd⟩
  · refine (heldFlsNil_any k w).mono ?_
    rintro e w' ⟨rfl, rfl⟩
    exact ⟨by simp [kAt], Below.refl _ _⟩
  · exact heldFls_any b cap k l w hd hL hk hn
end Go.Proofs.YtehpdbbkbdfobabGreatDoor.Fa
