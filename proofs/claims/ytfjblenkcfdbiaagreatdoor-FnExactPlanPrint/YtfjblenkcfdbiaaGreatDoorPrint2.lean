
/-
  impl: a book as a text.
-/
import Derived.Test.YtfjblenkcfdbiaaGreatDoorPrint1
import Derived.Test.YtfjblenkcfdbiaaGreatDoorBook7
namespace Go.Proofs.YtfjblenkcfdbiaaGreatDoor
open Go.RowKit
attribute [local go_sem] Later.cell Later.frozen
set_option linter.unusedSimpArgs false
set_option linter.unusedVariables false

/-- The lines of a book. -/
def linesK (ks : List Tri) : List ByteArray := ks.map (namedS wKind)
def linesP (ps : List Tri) : List ByteArray := ps.map (namedS wPoint)
def linesC (cs : List Chg) : List ByteArray := cs.map theForm
def linesB (ks ps : List Tri) (cs : List Chg) : List ByteArray := linesK ks ++ linesP ps ++ linesC cs
theorem mapTake {α β : Type} (f : α → β) (l : List α) (k : Nat) (x : α) (h : l[k]? = some x) : (l.take (k + 1)).map f = (l.take k).map f ++ [f x] := by
  obtain ⟨hk, rfl⟩ := List.getElem?_eq_some_iff.1 h
  rw [List.take_succ_eq_append_getElem hk, List.map_append]; rfl
/-- A kind or a point whose line can be written. -/
structure LineOk (t : Tri) : Prop where
  s : t.s.size ≤ 1048576
  x0 : 0 ≤ t.x
  x1 : t.x < 10000000
  y0 : 0 ≤ t.y
  y1 : t.y < 10000000
theorem name_le {s : ByteArray} (h : nameB s = true) : s.size ≤ 8 := by
  unfold nameB inB at h
  simp at h
  omega
theorem names_at {l : List Tri} {m : Nat} (h : namesB l m = true) : ∀ i, i < l.length → nameB (at' l i).s = true := fun i hi => by
  unfold namesB at h
  rw [Bool.and_eq_true] at h
  have := allB_get h.2 i hi
  rw [Bool.and_eq_true] at this
  exact this.1
theorem kinds_line {ks : List Tri} (h : kindsB ks = true) : ∀ i, i < ks.length → LineOk (at' ks i) := fun i hi => by
  unfold kindsB at h
  rw [Bool.and_eq_true] at h
  have h1 := name_le (names_at h.1 i hi)
  have h2 := allB_get h.2 i hi
  unfold paceB at h2
  simp at h2
  exact ⟨by omega, by omega, by omega, by omega, by omega⟩
theorem points_line {ps : List Tri} (h : pointsB ps = true) : ∀ i, i < ps.length → LineOk (at' ps i) := fun i hi => by
  unfold pointsB at h
  rw [Bool.and_eq_true] at h
  have h1 := name_le (names_at h.1 i hi)
  have h2 := allB_get h.2 i hi
  rw [Bool.and_eq_true] at h2
  have h3 := h2.1
  unfold insideB inB at h3
  simp at h3
  exact ⟨by omega, by omega, by omega, by omega, by omega⟩
theorem joinL_bound {l : List ByteArray} {M : Nat} (h : ∀ s ∈ l, s.size + 1 ≤ M) : (joinL l).length ≤ l.length * M := by
  induction l with
  | nil => simp [joinL]
  | cons a l ih =>
    have h1 := h a (by simp)
    have h2 := ih fun s hs => h s (by simp [hs])
    simp only [joinL, List.length_append, List.length_singleton, List.length_cons, List.length_nil, bytes_length]
    rw [Nat.add_mul, Nat.one_mul]
    omega
theorem theForm_size {c : Chg} (hf : c.f.size ≤ 1048576) (hv : c.v.size ≤ 1048576) : (theForm c).size + 1 ≤ 3000000 := by
  unfold theForm
  cases h : formB c
  · show 0 + 1 ≤ 3000000
    omega
  · have hn : inB c.num 1 1000000 = true := by
      unfold formB at h
      simp only [Bool.and_eq_true] at h
      exact h.2.2.1
    have h1 : sSet.size = 4 := rfl
    have h2 : sSp.size = 1 := rfl
    have h3 := wordS_le c.what
    have h4 := decS_size c.num.toNat (by simp [inB] at hn; omega)
    simp only [cond_true, formS, cat_size]
    omega
theorem chgs_small {ks ps : List Tri} {es : List Ent} (h : BSmall ks ps es) : ∀ c ∈ chgsOf es, c.f.size ≤ 1048576 ∧ c.v.size ≤ 1048576 := fun c hc => by
  unfold chgsOf at hc
  rw [List.mem_flatMap] at hc
  obtain ⟨e, he, hc⟩ := hc
  rw [List.mem_map] at hc
  obtain ⟨f, hf, rfl⟩ := hc
  exact ⟨h.n e he, h.v e he f hf⟩
theorem named_le {word : ByteArray} {t : Tri} (hw : word.size ≤ 5) (h : LineOk t) : (namedS word t).size + 1 ≤ 3000000 := by
  have h0 := h.x0; have h1 := h.x1; have h2 := h.y0; have h3 := h.y1; have h4 := h.s
  have := named_size (word := word) (t := t) hw (by omega) (by omega)
  omega
theorem mem_at {l : List Tri} {t : Tri} (h : t ∈ l) : ∃ i, i < l.length ∧ at' l i = t := by
  obtain ⟨i, hi, rfl⟩ := List.getElem_of_mem h
  exact ⟨i, hi, by simp [at', hi]⟩
theorem linesB_le {ks ps : List Tri} {es : List Ent} (hk : ∀ i, i < ks.length → LineOk (at' ks i)) (hp : ∀ i, i < ps.length → LineOk (at' ps i)) (hs : BSmall ks ps es) : ∀ s ∈ linesB ks ps (chgsOf es), s.size + 1 ≤ 3000000 := fun s h => by
  unfold linesB at h
  rw [List.mem_append, List.mem_append] at h
  rcases h with (h | h) | h
  · obtain ⟨t, ht, rfl⟩ := List.mem_map.1 h
    obtain ⟨i, hi, rfl⟩ := mem_at ht
    exact named_le (by decide) (hk i hi)
  · obtain ⟨t, ht, rfl⟩ := List.mem_map.1 h
    obtain ⟨i, hi, rfl⟩ := mem_at ht
    exact named_le (by decide) (hp i hi)
  · obtain ⟨c, hc, rfl⟩ := List.mem_map.1 h
    have := chgs_small hs c hc
    exact theForm_size this.1 this.2
theorem linesB_total {ks ps : List Tri} {es : List Ent} (hk : ∀ i, i < ks.length → LineOk (at' ks i)) (hp : ∀ i, i < ps.length → LineOk (at' ps i)) (hs : BSmall ks ps es) (hl : (chgsOf es).length ≤ 1048576) : (joinL (linesB ks ps (chgsOf es))).length ≤ 70368744177664 := by
  refine Nat.le_trans (joinL_bound (linesB_le hk hp hs)) ?_
  have h1 := hs.k
  have h2 := hs.p
  have : (linesB ks ps (chgsOf es)).length ≤ 3145728 := by
    unfold linesB linesK linesP linesC
    simp only [List.length_append, List.length_map]
    omega
  have := Nat.mul_le_mul_right 3000000 this
  omega
/-- The text of a book. -/
def printS (ks ps : List Tri) (es : List Ent) : ByteArray := bif bookB ks ps es then ⟨(joinL (linesB ks ps (chgsOf es))).toArray⟩ else ⟨#[]⟩

/-- Lines of one's own. -/
def LinesNew (w : World) (base : Nat) (v : Value) (l : List ByteArray) : Prop := w.ownsRow base 9 1 v l.length (l.map Value.string)
end Go.Proofs.YtfjblenkcfdbiaaGreatDoor
