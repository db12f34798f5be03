
/-
  Blocks of a call's own, one behind the other, that can be written; blocks filled with rows, wherever.
-/
import Derived.Test.YtfjblenkcfdbiaaGreatRows2
import Derived.Test.YtfjblenkcfdbiaaGreatBase
namespace Go.Proofs.YtfjblenkcfdbiaaGreat
open Go.RowKit

structure OwnAt (w wr : World) (bs : List (List Value)) : Prop where
  below : Below w.heap.size w wr
  big : w.heap.size + bs.length ≤ wr.heap.size
  has : ∀ i b, bs[i]? = some b → ∀ j v, b[j]? = some v → wr.cell? ⟨w.heap.size + i, j, none⟩ = some v ∧ wr.frozen? ⟨w.heap.size + i, j, none⟩ = false
theorem OwnAt.call {w wr w' : World} {bs : List (List Value)} (h : OwnAt w wr bs) (hb : Below wr.heap.size wr w') : OwnAt w w' bs :=
  ⟨below_step h.below hb, Nat.le_trans h.big hb.size, fun i b hi j v hj => by
    have hlt : w.heap.size + i < wr.heap.size := by
      have := (List.getElem?_eq_some_iff.1 hi).1
      have := h.big; omega
    rw [hb.cell (p := ⟨w.heap.size + i, j, none⟩) hlt, hb.frozen (p := ⟨w.heap.size + i, j, none⟩) hlt]
    exact h.has i b hi j v hj⟩
theorem OwnAt.start (w : World) : OwnAt w w [] := ⟨Below.refl _ _, Nat.le_refl _, fun i b hi => by simp at hi⟩
theorem OwnAt.push {w wr : World} {bs : List (List Value)} (h : OwnAt w wr bs) (he : wr.heap.size = w.heap.size + bs.length) (C : Array Value) (T : TypeId) : OwnAt w (wr.alloc (.cells C T)) (bs ++ [C.toList]) := by
  refine ⟨h.below.alloc (by omega) _, by simp; omega, fun i b hi j v hj => ?_⟩
  by_cases e : i < bs.length
  · rw [List.getElem?_append_left e] at hi
    have hh := h.has i b hi j v hj
    have hb : Below wr.heap.size wr (wr.alloc (.cells C T)) := (Below.refl _ _).alloc (Nat.le_refl _) _
    rw [hb.cell (p := ⟨w.heap.size + i, j, none⟩) (show w.heap.size + i < _ by omega), hb.frozen (p := ⟨w.heap.size + i, j, none⟩) (show w.heap.size + i < _ by omega)]
    exact hh
  · rw [List.getElem?_append_right (by omega)] at hi
    have hi0 : i - bs.length = 0 := by
      have := (List.getElem?_eq_some_iff.1 hi).1
      simp at this; omega
    rw [hi0] at hi
    simp at hi; subst hi
    have e1 : w.heap.size + i = wr.heap.size := by omega
    rw [e1, World.cell?_alloc_at (w := wr) C T wr.heap.size j rfl, World.frozen?_alloc_at (w := wr) C T wr.heap.size j rfl]
    have hj' : j < C.size := by
      have := (List.getElem?_eq_some_iff.1 hj).1
      simpa using this
    refine ⟨by simpa using hj, ?_⟩
    simp
theorem OwnAt.set {w wr : World} {bs : List (List Value)} (h : OwnAt w wr bs) {i j : Nat} {b : List Value} (hi : bs[i]? = some b) (hj : j < b.length) (x : Value) : OwnAt w (wr.setCell ⟨w.heap.size + i, j, none⟩ x) (bs.set i (b.set j x)) := by
  have hil : i < bs.length := (List.getElem?_eq_some_iff.1 hi).1
  refine ⟨h.below.setCell (p := ⟨w.heap.size + i, j, none⟩) (by simp) _, by simp; have := h.big; omega, fun i' b' hi' j' v hj' => ?_⟩
  by_cases e : i' = i
  · subst e
    rw [List.getElem?_set_self hil] at hi'
    cases hi'
    by_cases ej : j' = j
    · subst ej
      rw [List.getElem?_set_self hj] at hj'
      cases hj'
      have hh := h.has i' b hi j' (b[j']) (by simp [hj])
      exact ⟨by simp [go_sem, hh.1], by simp [go_sem, hh.2]⟩
    · rw [List.getElem?_set_ne (Ne.symm ej)] at hj'
      have hh := h.has i' b hi j' v hj'
      refine ⟨?_, by simpa [go_sem] using hh.2⟩
      exact (World.cell?_setCell_other wr ⟨w.heap.size + i', j, none⟩ ⟨w.heap.size + i', j', none⟩ x (by simp <;> omega)).trans hh.1
  · rw [List.getElem?_set_ne (Ne.symm e)] at hi'
    have hh := h.has i' b' hi' j' v hj'
    refine ⟨?_, by simpa [go_sem] using hh.2⟩
    rw [World.cell?_of_block (w := wr) (Below.heap_setCell wr _ x _ (by simp; omega))]
    exact hh.1

/-- The rows lie in block B, and can be written. -/
structure HeldL (wr : World) (B n c : Nat) (rows : List (List Value)) : Prop where
  big : B < wr.heap.size
  room : wr.there B 0 (n * c)
  wide : ∀ r ∈ rows, r.length = c
  has : ∀ i r, rows[i]? = some r → wr.rangeAt B (i * c) r
theorem FilledL.held {w wr : World} {B n c : Nat} {rows : List (List Value)} (h : FilledL w wr B n c rows) : HeldL wr B n c rows := ⟨h.big, h.room, h.wide, h.has⟩
theorem HeldL.keep {wr w1 : World} {B n c : Nat} {rows : List (List Value)} (h : HeldL wr B n c rows) (hb : Below wr.heap.size wr w1) : HeldL w1 B n c rows :=
  ⟨Nat.lt_of_lt_of_le h.big hb.size, there_keep h.room hb h.big, h.wide, fun i r hr => range_keep (h.has i r hr) hb h.big⟩
theorem HeldL.other {wr : World} {B n c : Nat} {rows : List (List Value)} (h : HeldL wr B n c rows) {k o : Nat} (hk : k ≠ B) (x : Value) : HeldL (wr.setCell ⟨k, o, none⟩ x) B n c rows := by
  have hc : ∀ o', (wr.setCell ⟨k, o, none⟩ x).cell? ⟨B, o', none⟩ = wr.cell? ⟨B, o', none⟩ := fun o' => World.cell?_of_block (w := wr) (Below.heap_setCell wr ⟨k, o, none⟩ x B (Ne.symm hk))
  refine ⟨by simpa using h.big, fun j hj => ?_, h.wide, fun i r hr j v hv => ?_⟩
  · have := h.room j hj
    rw [hc, World.frozen?_setCell]; exact this
  · rw [hc]; exact h.has i r hr j v hv
theorem HeldL.cell {wr : World} {B n c : Nat} {rows : List (List Value)} (h : HeldL wr B n c rows) {i j : Nat} {r : List Value} {v : Value} (hr : rows[i]? = some r) (hv : r[j]? = some v) : wr.cell? ⟨B, i * c + j, none⟩ = some v := h.has i r hr j v hv
theorem HeldL.free {wr : World} {B n c : Nat} {rows : List (List Value)} (h : HeldL wr B n c rows) {k j : Nat} (hk : k < n) (hj : j < c) : (∃ v, wr.cell? ⟨B, k * c + j, none⟩ = some v) ∧ wr.frozen? ⟨B, k * c + j, none⟩ = false := by
  have := h.room (k * c + j) (rows_room hk hj)
  simpa [Option.isSome_iff_exists] using this

theorem Filled.held {w wr : World} {B n : Nat} {l : List Tri} (h : Filled w wr B n l l.length) : HeldL wr B n 3 (l.map triRow) :=
  ⟨h.big, h.room, fun r hr => by obtain ⟨t, _, rfl⟩ := List.mem_map.1 hr; rfl, fun i r hr => by
    rw [List.getElem?_map] at hr
    cases ht : l[i]? with
    | none => rw [ht] at hr; cases hr
    | some t =>
      rw [ht] at hr; cases hr
      exact h.has i t (List.getElem?_eq_some_iff.1 ht).1 ht⟩
/-- A slice of kinds or points in a block of its own, from lo on. -/
def TrisOwn (lo : Nat) (w : World) (v : Value) (l : List Tri) : Prop := ∃ b, lo ≤ b ∧ v = .slice (some ⟨b, 0, none⟩) l.length l.length ∧ HeldL w b l.length 3 (l.map triRow)
theorem HeldL.tris {w : World} {b n : Nat} {l : List Tri} (h : HeldL w b n 3 (l.map triRow)) (hn : n = l.length) (cap : Nat) (hc : n ≤ cap) (hm : cap ≤ maxLen) : TrisAt w (.slice (some ⟨b, 0, none⟩) n cap) l :=
  ⟨_, cap, by rw [hn], by omega, hm, fun i t ht => ⟨b, 0, rfl, by
    have hr : (l.map triRow)[i]? = some (triRow t) := by rw [List.getElem?_map, ht]; rfl
    refine ⟨?_, ?_, ?_⟩
    · simpa using h.cell hr (j := 0) (v := .string t.s) rfl
    · simpa using h.cell hr (j := 1) (v := .int .i64 t.x) rfl
    · simpa using h.cell hr (j := 2) (v := .int .i64 t.y) rfl⟩⟩
theorem TrisOwn.at {lo : Nat} {w : World} {v : Value} {l : List Tri} (h : TrisOwn lo w v l) (hm : l.length ≤ 1048576) : TrisAt w v l := by
  obtain ⟨b, _, rfl, hh⟩ := h
  exact hh.tris rfl _ (Nat.le_refl _) (by unfold maxLen; omega)
theorem TrisOwn.keep {lo : Nat} {w w' : World} {v : Value} {l : List Tri} (h : TrisOwn lo w v l) (hb : Below w.heap.size w w') : TrisOwn lo w' v l := by
  obtain ⟨b, hl, hv, hh⟩ := h
  exact ⟨b, hl, hv, hh.keep hb⟩
theorem TrisOwn.mono {lo lo' : Nat} {w : World} {v : Value} {l : List Tri} (h : TrisOwn lo w v l) (hl : lo' ≤ lo) : TrisOwn lo' w v l := by
  obtain ⟨b, hb, hv, hh⟩ := h
  exact ⟨b, by omega, hv, hh⟩
theorem TrisOwn.other {lo : Nat} {w : World} {v : Value} {l : List Tri} (h : TrisOwn lo w v l) {k o : Nat} (hk : k < lo) (x : Value) : TrisOwn lo (w.setCell ⟨k, o, none⟩ x) v l := by
  obtain ⟨b, hl, hv, hh⟩ := h
  exact ⟨b, hl, hv, hh.other (by omega) x⟩
theorem Filled.ownT {w wr : World} {lo B : Nat} {l : List Tri} (h : Filled w wr B l.length l l.length) (hl : lo ≤ B) : TrisOwn lo wr (.slice (some ⟨B, 0, none⟩) l.length l.length) l := ⟨_, hl, rfl, h.held⟩

set_option maxHeartbeats 1600000 in
theorem toBase_own (vk vp : Value) (ks ps : List Tri) (w : World) (hk : TrisAt w vk ks) (hp : TrisAt w vp ps) (lk : ks.length ≤ 1048576) (lp : ps.length ≤ 1048576) :
    Calls Tryz.prog 29 #[.agg #[vk, vp]] w fun e w' => ∃ uk up, e = .returned (.agg #[uk, up]) ∧ TrisOwn (w.heap.size + 3) w' uk ks ∧ TrisOwn (w.heap.size + 3) w' up ps ∧ Below w.heap.size w w' := by
  have HK := hk; have HP := hp
  obtain ⟨ak, ck, rfl, -, -, -⟩ := hk
  obtain ⟨ap, cp, rfl, -, -, -⟩ := hp
  have HK1 : Hid (TrisAt w (.slice ak ks.length ck) ks) := HK
  have HP1 : Hid (TrisAt w (.slice ap ps.length cp) ps) := HP
  clear HK HP
  have HO0 : Hid (OwnAt w (((w.alloc (.cells #[.slice ak ks.length ck, .slice ap ps.length cp] 25)).alloc (.cells #[.slice none 0 0, .slice none 0 0] 36)).alloc (.cells #[.slice none 0 0, .slice none 0 0] 36)) [[.slice ak ks.length ck, .slice ap ps.length cp], [.slice none 0 0, .slice none 0 0], [.slice none 0 0, .slice none 0 0]]) :=
    (((OwnAt.start w).push rfl _ _).push (by simp) _ _).push (by simp) _ _
  go_enter Tryz.func29, Tryz.ntmps29
  go_wp2_with fail
  refine (toKinds_own _ ks _ (HK1.out.keep HO0.out.below) lk).mono ?_
  rintro e w1 ⟨rfl, hf1⟩
  have HO1 : Hid (OwnAt w w1 _) := HO0.out.call hf1.below
  simp only [World.size_alloc] at hf1 ⊢
  have HT1 : Hid (TrisOwn (w.heap.size + 3) w1 _ ks) := hf1.ownT (by omega)
  generalize Value.slice (some ⟨w.heap.size + 1 + 1 + 1, 0, none⟩) ks.length ks.length = uk at HT1 ⊢
  clear HO0 hf1
  have HU : Hid (∃ a n c, uk = .slice a n c) := by obtain ⟨b, _, e, _⟩ := HT1.out; exact ⟨_, _, _, e⟩
  obtain ⟨xa, xn, xc, hux⟩ := HU.out
  subst hux
  clear HU
  have HO2 : Hid (OwnAt w (w1.setCell ⟨w.heap.size + 1 + 1, 0, none⟩ (.slice xa xn xc)) [[.slice ak ks.length ck, .slice ap ps.length cp], [.slice none 0 0, .slice none 0 0], [.slice xa xn xc, .slice none 0 0]]) := HO1.out.set (i := 2) (j := 0) rfl (by simp) _
  have HT2 : Hid (TrisOwn (w.heap.size + 3) (w1.setCell ⟨w.heap.size + 1 + 1, 0, none⟩ (.slice xa xn xc)) (.slice xa xn xc) ks) := HT1.out.other (by omega) _
  have d0 : w1.cell? ⟨w.heap.size, 0, none⟩ = some (.slice ak ks.length ck) := (HO1.out.has 0 _ rfl 0 _ rfl).1
  have d1 : w1.cell? ⟨w.heap.size, 1, none⟩ = some (.slice ap ps.length cp) := (HO1.out.has 0 _ rfl 1 _ rfl).1
  have o0 : w1.cell? ⟨w.heap.size + 1 + 1, 0, none⟩ = some (.slice none 0 0) := (HO1.out.has 2 _ rfl 0 _ rfl).1
  have o1 : w1.cell? ⟨w.heap.size + 1 + 1, 1, none⟩ = some (.slice none 0 0) := (HO1.out.has 2 _ rfl 1 _ rfl).1
  have fo0 : w1.frozen? ⟨w.heap.size + 1 + 1, 0, none⟩ = false := (HO1.out.has 2 _ rfl 0 _ rfl).2
  go_wp2_with fail
  refine (toPoints_own _ ps _ (HP1.out.keep HO2.out.below) lp).mono ?_
  rintro e w2 ⟨rfl, hf2⟩
  have HO3 : Hid (OwnAt w w2 _) := HO2.out.call hf2.below
  have HT3 : Hid (TrisOwn (w.heap.size + 3) w2 _ ks) := HT2.out.keep hf2.below
  have hlo : w.heap.size + 3 ≤ (w1.setCell ⟨w.heap.size + 1 + 1, 0, none⟩ (.slice xa xn xc)).heap.size := HO2.out.big
  have HT4 : Hid (TrisOwn (w.heap.size + 3) w2 _ ps) := hf2.ownT hlo
  generalize (w1.setCell ⟨w.heap.size + 1 + 1, 0, none⟩ (.slice xa xn xc)).heap.size = B2 at *
  clear hf2 HO2 HT2 HO1 HT1 d0 d1 o0 o1 fo0 hlo
  have q0 : w2.cell? ⟨w.heap.size + 1, 0, none⟩ = some (.slice none 0 0) := (HO3.out.has 1 _ rfl 0 _ rfl).1
  have q1 : w2.cell? ⟨w.heap.size + 1, 1, none⟩ = some (.slice none 0 0) := (HO3.out.has 1 _ rfl 1 _ rfl).1
  have p0 : w2.cell? ⟨w.heap.size + 1 + 1, 0, none⟩ = some (.slice xa xn xc) := (HO3.out.has 2 _ rfl 0 _ rfl).1
  have p1 : w2.cell? ⟨w.heap.size + 1 + 1, 1, none⟩ = some (.slice none 0 0) := (HO3.out.has 2 _ rfl 1 _ rfl).1
  have g0 : w2.frozen? ⟨w.heap.size + 1, 0, none⟩ = false := (HO3.out.has 1 _ rfl 0 _ rfl).2
  have g1 : w2.frozen? ⟨w.heap.size + 1, 1, none⟩ = false := (HO3.out.has 1 _ rfl 1 _ rfl).2
  have g2 : w2.frozen? ⟨w.heap.size + 1 + 1, 1, none⟩ = false := (HO3.out.has 2 _ rfl 1 _ rfl).2
  go_wp2
  refine bodyPost_ret (v := .agg #[.slice xa xn xc, .slice (some ⟨B2, 0, none⟩) ps.length ps.length]) (by simp [results, Tryz.results29, go_sem, *]) rfl ⟨_, _, rfl, ((HT3.out.other (by omega) _).other (by omega) _).other (by omega) _, ((HT4.out.other (by omega) _).other (by omega) _).other (by omega) _, ?_⟩
  exact below_set (below_set (below_set HO3.out.below _ _ (by omega) _) _ _ (by omega) _) _ _ (by omega) _
end Go.Proofs.YtfjblenkcfdbiaaGreat
