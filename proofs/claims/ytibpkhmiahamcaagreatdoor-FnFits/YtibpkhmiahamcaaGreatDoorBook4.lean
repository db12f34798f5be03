/-
  Joined: Rows2, Book2, Own, Book3, Book4.
-/
import Derived.Test.YtibpkhmiahamcaaGreatDoorCopies
import Derived.Test.YtibpkhmiahamcaaGreatDoorBook1
import Derived.Test.YtibpkhmiahamcaaGreatDoorSpecKinds

/-
  A block that is filled row by row.
-/
namespace Go.Proofs.YtibpkhmiahamcaaGreatDoor
open Go.RowKit

/-- The rows lie in block B, which has room for n of c cells each; nothing that was in w has turned. -/
structure FilledL (w wr : World) (B n c : Nat) (rows : List (List Value)) : Prop where
  below : Below w.heap.size w wr
  big : B < wr.heap.size
  old : w.heap.size ≤ B
  room : wr.there B 0 (n * c)
  wide : ∀ r ∈ rows, r.length = c
  has : ∀ i r, rows[i]? = some r → wr.rangeAt B (i * c) r

theorem FilledL.call {w wr w1 : World} {B n c : Nat} {rows : List (List Value)} (h : FilledL w wr B n c rows) (hb : Below wr.heap.size wr w1) : FilledL w w1 B n c rows :=
  ⟨below_step h.below hb, Nat.lt_of_lt_of_le h.big hb.size, h.old, there_keep h.room hb h.big, h.wide, fun i r hr => range_keep (h.has i r hr) hb h.big⟩
theorem rows_room {k n c j : Nat} (hk : k < n) (hj : j < c) : k * c + j < n * c :=
  Nat.lt_of_lt_of_le (Nat.add_lt_add_left hj _) (by rw [← Nat.succ_mul]; exact Nat.mul_le_mul_right c hk)
theorem FilledL.store {w wr : World} {B n c : Nat} {rows : List (List Value)} (h : FilledL w wr B n c rows) (hk : rows.length < n) {r : List Value} (hr : r.length = c) :
    FilledL w (wr.setCells B (rows.length * c) r) B n c (rows ++ [r]) := by
  have hthere : wr.there B (rows.length * c) r.length := fun j hj => by
    have := h.room (rows.length * c + j) (rows_room hk (hr ▸ hj))
    simpa using this
  refine ⟨h.below.trans (setCells_below _ h.old), ?_, h.old, World.there_setCells h.room _ _ _, fun x hx => ?_, fun i x hx => ?_⟩
  · exact Nat.lt_of_lt_of_le h.big (setCells_below (w := wr) (B := B) (o := rows.length * c) (vs := r) 0 (Nat.zero_le _)).size
  · rcases List.mem_append.1 hx with hx | hx
    · exact h.wide x hx
    · simp at hx; subst hx; exact hr
  · by_cases e : i < rows.length
    · rw [List.getElem?_append_left e] at hx
      refine World.rangeAt_setCells_apart (h.has i x hx) _ _ _ (.inr (.inl ?_))
      have h1 := h.wide x (List.mem_of_getElem? hx)
      have h2 : (i + 1) * c ≤ rows.length * c := Nat.mul_le_mul_right c e
      rw [Nat.succ_mul] at h2
      omega
    · rw [List.getElem?_append_right (by omega)] at hx
      have hi0 : i - rows.length = 0 := by
        have := (List.getElem?_eq_some_iff.1 hx).1
        simp at this; omega
      rw [hi0] at hx
      simp at hx; subst hx
      have e1 : i = rows.length := by omega
      subst e1
      exact World.rangeAt_setCells_same _ _ _ _ hthere
theorem FilledL.start (w : World) (C : Array Value) (T n c : Nat) (hC : C.size = n * c) : FilledL w (w.alloc (.cells C T)) w.heap.size n c [] :=
  ⟨(Below.refl _ _).alloc (Nat.le_refl _) _, by simp, Nat.le_refl _, made_there w C T _ hC, fun r hr => by simp at hr, fun i r hr => by simp at hr⟩
/-- A cell's place in the block: it can be written. -/
theorem FilledL.free {w wr : World} {B n c : Nat} {rows : List (List Value)} (h : FilledL w wr B n c rows) {k j : Nat} (hk : k < n) (hj : j < c) : (∃ v, wr.cell? ⟨B, k * c + j, none⟩ = some v) ∧ wr.frozen? ⟨B, k * c + j, none⟩ = false := by
  have := h.room (k * c + j) (rows_room hk hj)
  simpa [Option.isSome_iff_exists] using this
theorem FilledL.cell {w wr : World} {B n c : Nat} {rows : List (List Value)} (h : FilledL w wr B n c rows) {i j : Nat} {r : List Value} {v : Value} (hr : rows[i]? = some r) (hv : r[j]? = some v) : wr.cell? ⟨B, i * c + j, none⟩ = some v := h.has i r hr j v hv
end Go.Proofs.YtibpkhmiahamcaaGreatDoor

/-
  Copies of lists of fields; entries: sizes, copies, comparisons.
-/
namespace Go.Proofs.YtibpkhmiahamcaaGreatDoor
open Go.RowKit

def fldRow (f : Fld) : List Value := [.int .i64 f.what, .int .i64 f.num, .string f.v]
theorem FilledL.flds {w wr : World} {B n : Nat} {l : List Fld} (h : FilledL w wr B n 3 (l.map fldRow)) (hn : l.length = n) (hm : n ≤ maxLen) : FldsAt wr (.slice (some ⟨B, 0, none⟩) n n) l :=
  ⟨some ⟨B, 0, none⟩, n, by rw [hn], by omega, hm, fun i f hf => ⟨B, 0, rfl, by
    have hr : (l.map fldRow)[i]? = some (fldRow f) := by rw [List.getElem?_map, hf]; rfl
    refine ⟨?_, ?_, ?_⟩
    · simpa using h.cell hr (j := 0) (v := .int .i64 f.what) rfl
    · simpa using h.cell hr (j := 1) (v := .int .i64 f.num) rfl
    · simpa using h.cell hr (j := 2) (v := .string f.v) rfl⟩⟩

theorem infoField : (Tryz.prog.info? 92).map (fun i => (i.zero, i.size, i.bytes)) = some (some (.agg #[.int .i64 0, .int .i64 0, .string ByteArray.empty]), 3, 32) := by kernel_rfl
theorem infoEntry : (Tryz.prog.info? 88).map (fun i => (i.zero, i.size, i.bytes)) = some (some (.agg #[.string ByteArray.empty, .slice none 0 0]), 2, 40) := by kernel_rfl

end Go.Proofs.YtibpkhmiahamcaaGreatDoor

/-
  Blocks of a call's own, one behind the other, that can be written; blocks filled with rows, wherever.
-/
namespace Go.Proofs.YtibpkhmiahamcaaGreatDoor
open Go.RowKit

structure OwnAt (w wr : World) (bs : List (List Value)) : Prop where
  below : Below w.heap.size w wr
  big : w.heap.size + bs.length ≤ wr.heap.size
  has : ∀ i b, bs[i]? = some b → ∀ j v, b[j]? = some v → wr.cell? ⟨w.heap.size + i, j, none⟩ = some v ∧ wr.frozen? ⟨w.heap.size + i, j, none⟩ = false
theorem OwnAt.call {w wr w' : World} {bs : List (List Value)} (h : OwnAt w wr bs) (hb : Below wr.heap.size wr w') : OwnAt w w' bs :=
  ⟨below_step h.below hb, Nat.le_trans h.big hb.size, fun i b hi j v hj => by
    have hlt : w.heap.size + i < wr.heap.size := by
      have := (List.getElem?_eq_some_iff.1 hi).1
      have := h.big; omega
    rw [hb.cell (p := ⟨w.heap.size + i, j, none⟩) hlt, hb.frozen (p := ⟨w.heap.size + i, j, none⟩) hlt]
    exact h.has i b hi j v hj⟩
theorem OwnAt.start (w : World) : OwnAt w w [] := ⟨Below.refl _ _, Nat.le_refl _, fun i b hi => by simp at hi⟩
theorem OwnAt.push {w wr : World} {bs : List (List Value)} (h : OwnAt w wr bs) (he : wr.heap.size = w.heap.size + bs.length) (C : Array Value) (T : TypeId) : OwnAt w (wr.alloc (.cells C T)) (bs ++ [C.toList]) := by
  refine ⟨h.below.alloc (by omega) _, by simp; omega, fun i b hi j v hj => ?_⟩
  by_cases e : i < bs.length
  · rw [List.getElem?_append_left e] at hi
    have hh := h.has i b hi j v hj
    have hb : Below wr.heap.size wr (wr.alloc (.cells C T)) := (Below.refl _ _).alloc (Nat.le_refl _) _
    rw [hb.cell (p := ⟨w.heap.size + i, j, none⟩) (show w.heap.size + i < _ by omega), hb.frozen (p := ⟨w.heap.size + i, j, none⟩) (show w.heap.size + i < _ by omega)]
    exact hh
  · rw [List.getElem?_append_right (by omega)] at hi
    have hi0 : i - bs.length = 0 := by
      have := (List.getElem?_eq_some_iff.1 hi).1
      simp at this; omega
    rw [hi0] at hi
    simp at hi; subst hi
    have e1 : w.heap.size + i = wr.heap.size := by omega
    rw [e1, World.cell?_alloc_at (w := wr) C T wr.heap.size j rfl, World.frozen?_alloc_at (w := wr) C T wr.heap.size j rfl]
    have hj' : j < C.size := by
      have := (List.getElem?_eq_some_iff.1 hj).1
      simpa using this
    refine ⟨by simpa using hj, ?_⟩
    simp
theorem OwnAt.set {w wr : World} {bs : List (List Value)} (h : OwnAt w wr bs) {i j : Nat} {b : List Value} (hi : bs[i]? = some b) (hj : j < b.length) (x : Value) : OwnAt w (wr.setCell ⟨w.heap.size + i, j, none⟩ x) (bs.set i (b.set j x)) := by
  have hil : i < bs.length := (List.getElem?_eq_some_iff.1 hi).1
  refine ⟨h.below.setCell (p := ⟨w.heap.size + i, j, none⟩) (by simp) _, by simp; have := h.big; omega, fun i' b' hi' j' v hj' => ?_⟩
  by_cases e : i' = i
  · subst e
    rw [List.getElem?_set_self hil] at hi'
    cases hi'
    by_cases ej : j' = j
    · subst ej
      rw [List.getElem?_set_self hj] at hj'
      cases hj'
      have hh := h.has i' b hi j' (b[j']) (by simp [hj])
      exact ⟨by simp [go_sem, hh.1], by simp [go_sem, hh.2]⟩
    · rw [List.getElem?_set_ne (Ne.symm ej)] at hj'
      have hh := h.has i' b hi j' v hj'
      refine ⟨?_, by simpa [go_sem] using hh.2⟩
      exact (World.cell?_setCell_other wr ⟨w.heap.size + i', j, none⟩ ⟨w.heap.size + i', j', none⟩ x (by simp <;> omega)).trans hh.1
  · rw [List.getElem?_set_ne (Ne.symm e)] at hi'
    have hh := h.has i' b' hi' j' v hj'
    refine ⟨?_, by simpa [go_sem] using hh.2⟩
    rw [World.cell?_of_block (w := wr) (Below.heap_setCell wr _ x _ (by simp; omega))]
    exact hh.1

/-- The rows lie in block B, and can be written. -/
structure HeldL (wr : World) (B n c : Nat) (rows : List (List Value)) : Prop where
  big : B < wr.heap.size
  room : wr.there B 0 (n * c)
  wide : ∀ r ∈ rows, r.length = c
  has : ∀ i r, rows[i]? = some r → wr.rangeAt B (i * c) r
theorem FilledL.held {w wr : World} {B n c : Nat} {rows : List (List Value)} (h : FilledL w wr B n c rows) : HeldL wr B n c rows := ⟨h.big, h.room, h.wide, h.has⟩
theorem HeldL.keep {wr w1 : World} {B n c : Nat} {rows : List (List Value)} (h : HeldL wr B n c rows) (hb : Below wr.heap.size wr w1) : HeldL w1 B n c rows :=
  ⟨Nat.lt_of_lt_of_le h.big hb.size, there_keep h.room hb h.big, h.wide, fun i r hr => range_keep (h.has i r hr) hb h.big⟩
theorem HeldL.other {wr : World} {B n c : Nat} {rows : List (List Value)} (h : HeldL wr B n c rows) {k o : Nat} (hk : k ≠ B) (x : Value) : HeldL (wr.setCell ⟨k, o, none⟩ x) B n c rows := by
  have hc : ∀ o', (wr.setCell ⟨k, o, none⟩ x).cell? ⟨B, o', none⟩ = wr.cell? ⟨B, o', none⟩ := fun o' => World.cell?_of_block (w := wr) (Below.heap_setCell wr ⟨k, o, none⟩ x B (Ne.symm hk))
  refine ⟨by simpa using h.big, fun j hj => ?_, h.wide, fun i r hr j v hv => ?_⟩
  · have := h.room j hj
    rw [hc, World.frozen?_setCell]; exact this
  · rw [hc]; exact h.has i r hr j v hv
theorem HeldL.cell {wr : World} {B n c : Nat} {rows : List (List Value)} (h : HeldL wr B n c rows) {i j : Nat} {r : List Value} {v : Value} (hr : rows[i]? = some r) (hv : r[j]? = some v) : wr.cell? ⟨B, i * c + j, none⟩ = some v := h.has i r hr j v hv
theorem HeldL.free {wr : World} {B n c : Nat} {rows : List (List Value)} (h : HeldL wr B n c rows) {k j : Nat} (hk : k < n) (hj : j < c) : (∃ v, wr.cell? ⟨B, k * c + j, none⟩ = some v) ∧ wr.frozen? ⟨B, k * c + j, none⟩ = false := by
  have := h.room (k * c + j) (rows_room hk hj)
  simpa [Option.isSome_iff_exists] using this

theorem Filled.held {w wr : World} {B n : Nat} {l : List Tri} (h : Filled w wr B n l l.length) : HeldL wr B n 3 (l.map triRow) :=
  ⟨h.big, h.room, fun r hr => by obtain ⟨t, _, rfl⟩ := List.mem_map.1 hr; rfl, fun i r hr => by
    rw [List.getElem?_map] at hr
    cases ht : l[i]? with
    | none => rw [ht] at hr; cases hr
    | some t =>
      rw [ht] at hr; cases hr
      exact h.has i t (List.getElem?_eq_some_iff.1 ht).1 ht⟩
/-- A slice of kinds or points in a block of its own, from lo on. -/
def TrisOwn (lo : Nat) (w : World) (v : Value) (l : List Tri) : Prop := ∃ b, lo ≤ b ∧ v = .slice (some ⟨b, 0, none⟩) l.length l.length ∧ HeldL w b l.length 3 (l.map triRow)
theorem HeldL.tris {w : World} {b n : Nat} {l : List Tri} (h : HeldL w b n 3 (l.map triRow)) (hn : n = l.length) (cap : Nat) (hc : n ≤ cap) (hm : cap ≤ maxLen) : TrisAt w (.slice (some ⟨b, 0, none⟩) n cap) l :=
  ⟨_, cap, by rw [hn], by omega, hm, fun i t ht => ⟨b, 0, rfl, by
    have hr : (l.map triRow)[i]? = some (triRow t) := by rw [List.getElem?_map, ht]; rfl
    refine ⟨?_, ?_, ?_⟩
    · simpa using h.cell hr (j := 0) (v := .string t.s) rfl
    · simpa using h.cell hr (j := 1) (v := .int .i64 t.x) rfl
    · simpa using h.cell hr (j := 2) (v := .int .i64 t.y) rfl⟩⟩
theorem TrisOwn.at {lo : Nat} {w : World} {v : Value} {l : List Tri} (h : TrisOwn lo w v l) (hm : l.length ≤ 1048576) : TrisAt w v l := by
  obtain ⟨b, _, rfl, hh⟩ := h
  exact hh.tris rfl _ (Nat.le_refl _) (by unfold maxLen; omega)
theorem TrisOwn.keep {lo : Nat} {w w' : World} {v : Value} {l : List Tri} (h : TrisOwn lo w v l) (hb : Below w.heap.size w w') : TrisOwn lo w' v l := by
  obtain ⟨b, hl, hv, hh⟩ := h
  exact ⟨b, hl, hv, hh.keep hb⟩
theorem TrisOwn.mono {lo lo' : Nat} {w : World} {v : Value} {l : List Tri} (h : TrisOwn lo w v l) (hl : lo' ≤ lo) : TrisOwn lo' w v l := by
  obtain ⟨b, hb, hv, hh⟩ := h
  exact ⟨b, by omega, hv, hh⟩
theorem TrisOwn.other {lo : Nat} {w : World} {v : Value} {l : List Tri} (h : TrisOwn lo w v l) {k o : Nat} (hk : k < lo) (x : Value) : TrisOwn lo (w.setCell ⟨k, o, none⟩ x) v l := by
  obtain ⟨b, hl, hv, hh⟩ := h
  exact ⟨b, hl, hv, hh.other (by omega) x⟩
theorem Filled.ownT {w wr : World} {lo B : Nat} {l : List Tri} (h : Filled w wr B l.length l l.length) (hl : lo ≤ B) : TrisOwn lo wr (.slice (some ⟨B, 0, none⟩) l.length l.length) l := ⟨_, hl, rfl, h.held⟩

end Go.Proofs.YtibpkhmiahamcaaGreatDoor

/-
  Copies of entries and of books; comparisons; sizes.
-/
namespace Go.Proofs.YtibpkhmiahamcaaGreatDoor
open Go.RowKit

/-- Entries in blocks of their own, from lo on. -/
def EntsOwn (lo : Nat) (w : World) (v : Value) (l : List Ent) : Prop :=
  ∃ (b : Nat) (rows : List (List Value)), lo ≤ b ∧ v = .slice (some ⟨b, 0, none⟩) l.length l.length ∧ HeldL w b l.length 2 rows ∧ rows.length = l.length ∧
    ∀ (i : Nat) (e : Ent), l[i]? = some e → ∃ fb : Nat, fb ≠ b ∧ lo ≤ fb ∧ rows[i]? = some [.string e.name, .slice (some ⟨fb, 0, none⟩) e.fs.length e.fs.length] ∧ HeldL w fb e.fs.length 3 (e.fs.map fldRow)
theorem HeldL.flds {wr : World} {B n : Nat} {l : List Fld} (h : HeldL wr B n 3 (l.map fldRow)) (hn : l.length = n) (cap : Nat) (hc : n ≤ cap) (hm : cap ≤ maxLen) : FldsAt wr (.slice (some ⟨B, 0, none⟩) n cap) l :=
  ⟨some ⟨B, 0, none⟩, cap, by rw [hn], by omega, hm, fun i f hf => ⟨B, 0, rfl, by
    have hr : (l.map fldRow)[i]? = some (fldRow f) := by rw [List.getElem?_map, hf]; rfl
    refine ⟨?_, ?_, ?_⟩
    · simpa using h.cell hr (j := 0) (v := .int .i64 f.what) rfl
    · simpa using h.cell hr (j := 1) (v := .int .i64 f.num) rfl
    · simpa using h.cell hr (j := 2) (v := .string f.v) rfl⟩⟩
theorem EntsOwn.at {lo : Nat} {w : World} {v : Value} {l : List Ent} (h : EntsOwn lo w v l) (hm : l.length ≤ 1048576) (hf : ∀ e ∈ l, e.fs.length ≤ 1048576) : EntsAt w v l := by
  obtain ⟨b, rows, _, rfl, hh, _, hr⟩ := h
  refine ⟨some ⟨b, 0, none⟩, l.length, rfl, Nat.le_refl _, by unfold maxLen; omega, fun i e he => ⟨b, 0, rfl, ?_⟩⟩
  obtain ⟨fb, _, _, h1, h2⟩ := hr i e he
  refine ⟨_, ?_, ?_, h2.flds rfl _ (Nat.le_refl _) (by have := hf e (List.mem_of_getElem? he); unfold maxLen; omega)⟩
  · simpa using hh.cell h1 (j := 0) rfl
  · simpa using hh.cell h1 (j := 1) rfl
theorem EntsOwn.keep {lo : Nat} {w w' : World} {v : Value} {l : List Ent} (h : EntsOwn lo w v l) (hb : Below w.heap.size w w') : EntsOwn lo w' v l := by
  obtain ⟨b, rows, hl, hv, hh, hn, hr⟩ := h
  refine ⟨b, rows, hl, hv, hh.keep hb, hn, fun i e he => ?_⟩
  obtain ⟨fb, h0, h1, h2, h3⟩ := hr i e he
  exact ⟨fb, h0, h1, h2, h3.keep hb⟩
theorem EntsOwn.other {lo : Nat} {w : World} {v : Value} {l : List Ent} (h : EntsOwn lo w v l) {k o : Nat} (hk : k < lo) (x : Value) : EntsOwn lo (w.setCell ⟨k, o, none⟩ x) v l := by
  obtain ⟨b, rows, hl, hv, hh, hn, hr⟩ := h
  refine ⟨b, rows, hl, hv, hh.other (by omega) x, hn, fun i e he => ?_⟩
  obtain ⟨fb, h0, h1, h2, h3⟩ := hr i e he
  exact ⟨fb, h0, h1, h2, h3.other (by omega) x⟩
theorem EntsOwn.mono {lo lo' : Nat} {w : World} {v : Value} {l : List Ent} (h : EntsOwn lo w v l) (hlo : lo' ≤ lo) : EntsOwn lo' w v l := by
  obtain ⟨b, rows, hl, hv, hh, hn, hr⟩ := h
  refine ⟨b, rows, by omega, hv, hh, hn, fun i e he => ?_⟩
  obtain ⟨fb, h0, h1, h2, h3⟩ := hr i e he
  exact ⟨fb, h0, by omega, h2, h3⟩

/-- The first k entries are copied. -/
structure EntsTo (w wr : World) (B : Nat) (l : List Ent) (k : Nat) (rows : List (List Value)) : Prop where
  fill : FilledL w wr B l.length 2 rows
  len : rows.length = k
  has : ∀ (i : Nat) (e : Ent), i < k → l[i]? = some e → ∃ fb : Nat, fb ≠ B ∧ w.heap.size ≤ fb ∧ rows[i]? = some [.string e.name, .slice (some ⟨fb, 0, none⟩) e.fs.length e.fs.length] ∧ HeldL wr fb e.fs.length 3 (e.fs.map fldRow)
theorem setCells_held {wr : World} {B o : Nat} {vs : List Value} {b n c : Nat} {rows : List (List Value)} (h : HeldL wr b n c rows) (hb : B ≠ b) : HeldL (wr.setCells B o vs) b n c rows := by
  induction vs generalizing wr o with
  | nil => exact h
  | cons v vs ih => exact ih (h.other hb v)
theorem EntsTo.next {w wr w1 : World} {B k fb : Nat} {l : List Ent} {rows : List (List Value)} {e : Ent} (h : EntsTo w wr B l k rows) (hk : k < l.length) (he : l[k]? = some e) (hb : Below wr.heap.size wr w1) (hfb : wr.heap.size ≤ fb) (hh : HeldL w1 fb e.fs.length 3 (e.fs.map fldRow)) :
    EntsTo w (w1.setCells B (k * 2) [.string e.name, .slice (some ⟨fb, 0, none⟩) e.fs.length e.fs.length]) B l (k + 1) (rows ++ [[.string e.name, .slice (some ⟨fb, 0, none⟩) e.fs.length e.fs.length]]) := by
  have hne : B ≠ fb := by have := h.fill.big; omega
  have hst := (h.fill.call hb).store (r := [.string e.name, .slice (some ⟨fb, 0, none⟩) e.fs.length e.fs.length]) (by rw [h.len]; exact hk) rfl
  rw [h.len] at hst
  refine ⟨hst, by simp [h.len], fun i e' hi he' => ?_⟩
  by_cases ei : i = k
  · subst ei
    rw [he] at he'; cases he'
    refine ⟨fb, Ne.symm hne, by have := h.fill.below.size; omega, ?_, setCells_held hh hne⟩
    rw [List.getElem?_append_right (by rw [h.len]; exact Nat.le_refl _), h.len]; simp
  · obtain ⟨fb', h0, h1, h2, h3⟩ := h.has i e' (by omega) he'
    refine ⟨fb', h0, h1, ?_, setCells_held (h3.keep hb) (Ne.symm h0)⟩
    rw [List.getElem?_append_left (by rw [h.len]; omega)]; exact h2
theorem EntsTo.done {w wr : World} {B lo : Nat} {l : List Ent} {rows : List (List Value)} (h : EntsTo w wr B l l.length rows) (hlo : lo ≤ w.heap.size) : EntsOwn lo wr (.slice (some ⟨B, 0, none⟩) l.length l.length) l :=
  ⟨B, rows, by have := h.fill.old; omega, rfl, h.fill.held, h.len, fun i e he => by
    obtain ⟨fb, h0, h1, h2, h3⟩ := h.has i e (List.getElem?_eq_some_iff.1 he).1 he
    exact ⟨fb, h0, by omega, h2, h3⟩⟩

end Go.Proofs.YtibpkhmiahamcaaGreatDoor

/-
  Books: sizes, copies, comparisons.
-/
namespace Go.Proofs.YtibpkhmiahamcaaGreatDoor
open Go.RowKit

/-- A book that lies in memory. -/
structure BookAt (w : World) (vk vp ve : Value) (ks ps : List Tri) (es : List Ent) : Prop where
  k : TrisAt w vk ks
  p : TrisAt w vp ps
  e : EntsAt w ve es
theorem BookAt.keep {w w' : World} {vk vp ve : Value} {ks ps : List Tri} {es : List Ent} (h : BookAt w vk vp ve ks ps es) (hb : Below w.heap.size w w') : BookAt w' vk vp ve ks ps es := ⟨h.k.keep hb, h.p.keep hb, h.e.keep hb⟩
structure BNames (ks ps : List Tri) (es : List Ent) : Prop where
  k : Names ks
  p : Names ps
  e : ENames es
/-- .. in blocks of its own. -/
structure BookOwn (lo : Nat) (w : World) (vk vp ve : Value) (ks ps : List Tri) (es : List Ent) : Prop where
  k : TrisOwn lo w vk ks
  p : TrisOwn lo w vp ps
  e : EntsOwn lo w ve es
  d : ∀ b n c b' n' c', vk = .slice (some ⟨b, 0, none⟩) n c ∨ vp = .slice (some ⟨b, 0, none⟩) n c → ve = .slice (some ⟨b', 0, none⟩) n' c' → b ≠ b'
theorem BookOwn.keep {lo : Nat} {w w' : World} {vk vp ve : Value} {ks ps : List Tri} {es : List Ent} (h : BookOwn lo w vk vp ve ks ps es) (hb : Below w.heap.size w w') : BookOwn lo w' vk vp ve ks ps es := ⟨h.k.keep hb, h.p.keep hb, h.e.keep hb, h.d⟩
def szBook (ks ps : List Tri) (es : List Ent) : Nat := szTris ks + szTris ps + szEnts es
/-- A book that is not too great: so its lists are not. -/
structure BSmall (ks ps : List Tri) (es : List Ent) : Prop where
  k : ks.length ≤ 1048576
  p : ps.length ≤ 1048576
  e : es.length ≤ 1048576
  f : ∀ e ∈ es, e.fs.length ≤ 1048576
  n : ∀ e ∈ es, e.name.size ≤ 1048576
  v : ∀ e ∈ es, ∀ f ∈ e.fs, f.v.size ≤ 1048576
theorem BSmall.of {ks ps : List Tri} {es : List Ent} (h : szBook ks ps es ≤ 1048576) : BSmall ks ps es := by
  unfold szBook szTris szEnts at h
  have one : ∀ e ∈ es, szEnt e ≤ 1048576 := fun e he => by have := sumN_mem szEnt es e he; omega
  refine ⟨by omega, by omega, by omega, fun e he => ?_, fun e he => ?_, fun e he f hf => ?_⟩
  · have := one e he; unfold szEnt szFlds at this; omega
  · have := one e he; unfold szEnt szFlds at this; omega
  · have := one e he; unfold szEnt szFlds at this; have h2 : f.v.size ≤ _ := sumN_mem (fun f : Fld => f.v.size) e.fs f hf; omega
theorem BookOwn.at {lo : Nat} {w : World} {vk vp ve : Value} {ks ps : List Tri} {es : List Ent} (h : BookOwn lo w vk vp ve ks ps es) (hs : BSmall ks ps es) : BookAt w vk vp ve ks ps es := ⟨h.k.at hs.k, h.p.at hs.p, h.e.at hs.e hs.f⟩

end Go.Proofs.YtibpkhmiahamcaaGreatDoor
