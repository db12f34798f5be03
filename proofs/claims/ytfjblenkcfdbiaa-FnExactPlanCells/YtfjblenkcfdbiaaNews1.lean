
/-
  Lists of changes; what a book says, change by change: impl's changesOf.
-/
import Derived.Test.YtfjblenkcfdbiaaBook6
namespace Go.Proofs.Ytfjblenkcfdbiaa
open Go.RowKit

def chgRow (c : Chg) : List Value := [.string c.f, .int .i64 c.what, .int .i64 c.num, .string c.v]
def chgRows (l : List Chg) : List Value := l.flatMap chgRow
theorem chgRows_len (l : List Chg) : (chgRows l).length = l.length * 4 := by
  induction l with
  | nil => rfl
  | cons c l ih => simp only [chgRows, List.flatMap_cons, List.length_append, List.length_cons] at *; simp only [chgRow, List.length_cons, List.length_nil]; omega
theorem chgRows_snoc (l : List Chg) (c : Chg) : chgRows (l ++ [c]) = chgRows l ++ chgRow c := by simp [chgRows]
/-- What a book says. -/
def chgsOf (es : List Ent) : List Chg := es.flatMap fun e => e.fs.map (chgOf e.name)
theorem chgsOf_take (es : List Ent) (k : Nat) (e : Ent) (h : es[k]? = some e) : chgsOf (es.take (k + 1)) = chgsOf (es.take k) ++ e.fs.map (chgOf e.name) := by
  obtain ⟨hk, rfl⟩ := List.getElem?_eq_some_iff.1 h
  rw [List.take_succ_eq_append_getElem hk]
  simp only [chgsOf, List.flatMap_append, List.flatMap_cons, List.flatMap_nil, List.append_nil]
theorem chgsOf_len (es : List Ent) : (chgsOf es).length = sumN (fun e => e.fs.length) es := by
  induction es with
  | nil => rfl
  | cons e es ih => simp only [chgsOf, List.flatMap_cons, List.length_append, sumN, List.length_map] at *; omega
theorem sum_fs_le (es : List Ent) : sumN (fun e => e.fs.length) es ≤ sumN szEnt es := by
  induction es with
  | nil => exact Nat.le_refl _
  | cons e es ih => simp only [sumN, szEnt, szFlds] at *; omega
/-- A slice of changes of the call's own. -/
def ChgsNew (w : World) (base : Nat) (v : Value) (l : List Chg) : Prop := w.ownsRow base 39 4 v l.length (chgRows l)
theorem infoChange : (Try.prog.info? 39).map (fun i => (i.zero, i.size, i.bytes)) = some (some (.agg #[.string ByteArray.empty, .int .i64 0, .int .i64 0, .string ByteArray.empty]), 4, 48) := by kernel_rfl

/-- A change's cells. -/
def ChgAt (w : World) (b o : Nat) (c : Chg) : Prop := w.cell? ⟨b, o, none⟩ = some (.string c.f) ∧ w.cell? ⟨b, o + 1, none⟩ = some (.int .i64 c.what) ∧ w.cell? ⟨b, o + 2, none⟩ = some (.int .i64 c.num) ∧ w.cell? ⟨b, o + 3, none⟩ = some (.string c.v)
def ChgsAt (w : World) (v : Value) (l : List Chg) : Prop :=
  ∃ a cap, v = .slice a l.length cap ∧ l.length ≤ cap ∧ cap ≤ maxLen ∧ ∀ i c, l[i]? = some c → ∃ b off, a = some ⟨b, off, none⟩ ∧ ChgAt w b (off + i * 4) c
theorem ChgAt.keep {w w' : World} {b o B : Nat} {c : Chg} (h : ChgAt w b o c) (hb : Below B w w') (hB : w.heap.size ≤ B) : ChgAt w' b o c :=
  ⟨cell_keep hb hB h.1, cell_keep hb hB h.2.1, cell_keep hb hB h.2.2.1, cell_keep hb hB h.2.2.2⟩
theorem ChgsAt.keep {w w' : World} {v : Value} {l : List Chg} (h : ChgsAt w v l) (hb : Below w.heap.size w w') : ChgsAt w' v l := by
  obtain ⟨a, cap, rfl, h1, h2, h3⟩ := h
  refine ⟨a, cap, rfl, h1, h2, fun i t ht => ?_⟩
  obtain ⟨b, off, ha, hc⟩ := h3 i t ht
  exact ⟨b, off, ha, hc.keep hb (Nat.le_refl _)⟩
theorem chgRows_at (l : List Chg) (i : Nat) (c : Chg) (h : l[i]? = some c) (j : Nat) (hj : j < 4) : (chgRows l)[i * 4 + j]? = (chgRow c)[j]? := by
  induction l generalizing i with
  | nil => simp at h
  | cons a l ih =>
    have e : chgRows (a :: l) = chgRow a ++ chgRows l := by simp [chgRows]
    rw [e]
    cases i with
    | zero =>
      simp at h; subst h
      rw [List.getElem?_append_left (by simp [chgRow]; omega)]; simp
    | succ i =>
      rw [List.getElem?_append_right (by simp [chgRow]; omega)]
      have : (i + 1) * 4 + j - (chgRow a).length = i * 4 + j := by simp [chgRow]; omega
      rw [this]
      exact ih i (by simpa using h)
theorem ChgsNew.at {w : World} {base : Nat} {v : Value} {l : List Chg} (h : ChgsNew w base v l) : ChgsAt w v l := by
  obtain ⟨h1, h2⟩ := h
  rcases h2 with ⟨rfl, h0⟩ | ⟨g, cap, cur, rfl, _, hb, hn, hc, hs, ht⟩
  · have : l = [] := List.length_eq_zero_iff.1 h0
    subst this
    exact ⟨none, 0, rfl, Nat.le_refl _, Nat.zero_le _, fun i c hc => by simp at hc⟩
  · refine ⟨some ⟨g, 0, none⟩, cap, rfl, hn, hc, fun i c hi => ⟨g, 0, rfl, ?_⟩⟩
    have hil : i < l.length := (List.getElem?_eq_some_iff.1 hi).1
    have one : ∀ j, j < 4 → w.cell? ⟨g, 0 + i * 4 + j, none⟩ = (chgRow c)[j]? := fun j hj => by
      rw [← chgRows_at l i c hi j hj, ← ht, List.getElem?_take]
      rw [if_pos (by omega)]
      simp [World.cell?, hb]
    refine ⟨?_, ?_, ?_, ?_⟩
    · simpa [chgRow] using one 0 (by omega)
    · simpa [chgRow] using one 1 (by omega)
    · simpa [chgRow] using one 2 (by omega)
    · simpa [chgRow] using one 3 (by omega)
def cat' (l : List Chg) (i : Nat) : Chg := l.getD i ⟨⟨#[]⟩, 0, 0, ⟨#[]⟩⟩
theorem cat_get {l : List Chg} {i : Nat} (h : i < l.length) : l[i]? = some (cat' l i) := by simp [cat', h]
theorem cell_four_new (w : World) (a b c d : Value) (t : TypeId) : ∀ j u, [a, b, c, d][j]? = some u → (w.alloc (.cells #[a, b, c, d] t)).cell? ((⟨w.heap.size, 0, none⟩ : Addr).add j) = some u := by
  intro j u hj
  match j, hj with
  | 0, hj => simp at hj; subst hj; simp [Addr.add]
  | 1, hj => simp at hj; subst hj; simp [Addr.add]
  | 2, hj => simp at hj; subst hj; simp [Addr.add]
  | 3, hj => simp at hj; subst hj; simp [Addr.add]
  | j + 4, hj => simp at hj
theorem ownsRow_keep {w w' : World} {base : Nat} {e : TypeId} {size : Nat} {v : Value} {n : Nat} {xs : List Value} (h : w.ownsRow base e size v n xs) (hb : Below w.heap.size w w') : w'.ownsRow base e size v n xs := by
  obtain ⟨h1, h2⟩ := h
  refine ⟨h1, ?_⟩
  rcases h2 with h2 | ⟨g, cap, cur, hv, hg, hh, rest⟩
  · exact .inl h2
  · exact .inr ⟨g, cap, cur, hv, hg, (hb.block g (Array.getElem?_eq_some_iff.1 hh).1).trans hh, rest⟩

/-- A block of another kind is not the row's. -/
theorem own_other {w : World} {base : Nat} {e : TypeId} {size : Nat} {v : Value} {n : Nat} {xs : List Value} {B : Nat} {C : Array Value} {t : TypeId} (h : w.ownsRow base e size v n xs) (hB : w.heap[B]? = some (.cells C t)) (hne : e ≠ t) : some B ≠ v.ownBlock := by
  intro hk
  rcases h.2 with ⟨rfl, _⟩ | ⟨g, cap, cur, rfl, _, hb, _⟩
  · cases hk
  · cases hk
    rw [hb] at hB
    injection hB with hB
    injection hB with h1 h2 h3
    exact hne h2

end Go.Proofs.Ytfjblenkcfdbiaa
