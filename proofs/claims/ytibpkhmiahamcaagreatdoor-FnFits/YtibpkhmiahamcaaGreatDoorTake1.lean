/-
  Joined: Ents0, Ents1, Ents2, Take1.
-/
import Derived.Test.YtibpkhmiahamcaaGreatDoorKeys2
import Derived.Test.YtibpkhmiahamcaaGreatDoorCbase2

/-
  Entries of one's own, in the making: each with a row of fields of its own.
-/
namespace Go.Proofs.YtibpkhmiahamcaaGreatDoor
open Go.RowKit
set_option linter.unusedSimpArgs false
set_option linter.unusedVariables false

abbrev EntV := Ent × Value
def pairRow (p : EntV) : List Value := [.string p.1.name, p.2]
def pairRows (l : List EntV) : List Value := l.flatMap pairRow
theorem pairRows_snoc (l : List EntV) (p : EntV) : pairRows (l ++ [p]) = pairRows l ++ pairRow p := by simp [pairRows]
theorem pairRows_length (l : List EntV) : (pairRows l).length = l.length * 2 := by
  induction l with
  | nil => rfl
  | cons a l ih => simp only [pairRows, List.flatMap_cons, List.length_append] at ih ⊢; rw [ih]; simp [pairRow]; omega
def fldRows (l : List Fld) : List Value := l.flatMap fldRow
theorem fldRows_snoc (l : List Fld) (f : Fld) : fldRows (l ++ [f]) = fldRows l ++ fldRow f := by simp [fldRows]
theorem infoEnt : (Tryz.prog.info? 88).map (fun i => (i.zero, i.size, i.bytes)) = some (some (.agg #[.string ByteArray.empty, .slice none 0 0]), 2, 40) := by kernel_rfl
theorem infoFld : (Tryz.prog.info? 92).map (fun i => (i.zero, i.size, i.bytes)) = some (some (.agg #[.int .i64 0, .int .i64 0, .string ByteArray.empty]), 3, 32) := by kernel_rfl
theorem own_lt {w : World} {base : Nat} {e : TypeId} {size : Nat} {v : Value} {n : Nat} {xs : List Value} (h : w.ownsRow base e size v n xs) : ∀ k, v.ownBlock = some k → k < w.heap.size := by
  intro k hk
  rcases h.2 with ⟨rfl, _⟩ | ⟨g, cap, cur, rfl, _, hc, _⟩
  · cases hk
  · cases hk; exact (Array.getElem?_eq_some_iff.1 hc).1

/-- The entries lie in a row of their own, the fields of each in one of its own. -/
structure PairsNew (w : World) (B : Nat) (o : Value) (l : List EntV) : Prop where
  row : w.ownsRow B 88 2 o l.length (pairRows l)
  flds : ∀ p ∈ l, w.ownsRow B 92 3 p.2 p.1.fs.length (fldRows p.1.fs)
  apart : l.Pairwise fun p q => ∀ k, p.2.ownBlock = some k → q.2.ownBlock ≠ some k
theorem PairsNew.nil (w : World) (B : Nat) : PairsNew w B (.slice none 0 0) [] := ⟨⟨rfl, .inl ⟨rfl, rfl⟩⟩, (fun p h => by cases h), List.Pairwise.nil⟩
theorem PairsNew.keep {w w' : World} {B : Nat} {o : Value} {l : List EntV} (h : PairsNew w B o l) (hb : Below w.heap.size w w') : PairsNew w' B o l :=
  ⟨ownsRow_keep h.row hb, fun p hp => ownsRow_keep (h.flds p hp) hb, h.apart⟩
theorem PairsNew.push {w2 w3 : World} {B : Nat} {o o' : Value} {l : List EntV} {n : ByteArray} {ob : Obj} (h : PairsNew w2 B o l) (hown : w3.ownsRow B 88 2 o' (l.length + 1) (pairRows l ++ [.string n, .slice none 0 0])) (hg : (w2.alloc ob).grownBy w3 o.ownBlock) : PairsNew w3 B o' (l ++ [(⟨n, []⟩, .slice none 0 0)]) := by
  refine ⟨?_, fun p hp => ?_, ?_⟩
  · rw [pairRows_snoc, List.length_append]; exact hown
  · rcases List.mem_append.1 hp with hp | hp
    · exact ownsRow_farF (ownsRow_keep (h.flds p hp) ((Below.refl _ _).alloc (Nat.le_refl _) ob)) hg (own_apart h.row (h.flds p hp) (by decide))
    · simp at hp; subst hp; exact ⟨rfl, .inl ⟨rfl, rfl⟩⟩
  · rw [List.pairwise_append]
    exact ⟨h.apart, by simp, fun p _ q hq k _ => by simp at hq; subst hq; simp [Value.ownBlock]⟩
/-- The last entry. -/
theorem PairsNew.last {w : World} {B : Nat} {o : Value} {l : List EntV} {e : Ent} {fv : Value} (h : PairsNew w B o (l ++ [(e, fv)])) : ∃ g cap, o = .slice (some ⟨g, 0, none⟩) (l.length + 1) cap ∧ w.cell? ⟨g, l.length * 2, none⟩ = some (.string e.name) ∧ w.cell? ⟨g, l.length * 2 + 1, none⟩ = some fv ∧ w.frozen? ⟨g, l.length * 2 + 1, none⟩ = false ∧ l.length + 1 ≤ cap ∧ cap ≤ maxLen := by
  rcases h.row.2 with ⟨_, h0⟩ | ⟨g, cap, cur, rfl, _, hb, hn, hc, hs, ht⟩
  · simp at h0
  · have hlen : (l ++ [(e, fv)]).length = l.length + 1 := by simp
    rw [hlen] at ht hn ⊢
    have hx : ∀ j, j < 2 → cur.toList[l.length * 2 + j]? = [Value.string e.name, fv][j]? := fun j hj => by
      have h1 : (cur.toList.take ((l.length + 1) * 2))[l.length * 2 + j]? = cur.toList[l.length * 2 + j]? := by
        rw [List.getElem?_take, if_pos (by omega)]
      rw [← h1, ht, pairRows_snoc, List.getElem?_append_right (by rw [pairRows_length]; omega), pairRows_length, Nat.add_sub_cancel_left]
      rfl
    have x0 := hx 0 (by omega)
    have x1 := hx 1 (by omega)
    simp only [Nat.add_zero] at x0
    refine ⟨g, cap, rfl, ?_, ?_, Lib.frozen_of_heap hb _, hn, hc⟩
    · simp only [World.cell?, hb, Option.isSome_none, Bool.false_eq_true, if_false]
      simpa using x0
    · simp only [World.cell?, hb, Option.isSome_none, Bool.false_eq_true, if_false]
      simpa using x1
theorem set_end {α : Type} (L : List α) (a b x : α) : (L ++ [a, b]).set (L.length + 1) x = L ++ [a, x] := by
  rw [List.set_append_right _ _ (by omega)]
  simp
/-- One more field of the last entry: appended, and the entry's list turned. -/
theorem PairsNew.more {w2 w3 : World} {B H : Nat} {g cap n fg fcap : Nat} {l : List EntV} {e : Ent} {fv : Value} {f : Fld} {ob : Obj} (h : PairsNew w2 B (.slice (some ⟨g, 0, none⟩) n cap) (l ++ [(e, fv)])) (hown : w3.ownsRow B 92 3 (.slice (some ⟨fg, 0, none⟩) (e.fs.length + 1) fcap) (e.fs.length + 1) (fldRows e.fs ++ fldRow f)) (hg : (w2.alloc ob).grownBy w3 fv.ownBlock) (hat : fv.ownBlock = some fg ∨ fg = H) (hH : w2.heap.size ≤ H) :
    PairsNew (w3.setCell ⟨g, l.length * 2 + 1, none⟩ (.slice (some ⟨fg, 0, none⟩) (e.fs.length + 1) fcap)) B (.slice (some ⟨g, 0, none⟩) n cap) (l ++ [(⟨e.name, e.fs ++ [f]⟩, .slice (some ⟨fg, 0, none⟩) (e.fs.length + 1) fcap)]) := by
  have hfl := h.flds (e, fv) (by simp)
  have hb1 : Below w2.heap.size w2 (w2.alloc ob) := (Below.refl _ _).alloc (Nat.le_refl _) ob
  have hrow3 : w3.ownsRow B 88 2 (.slice (some ⟨g, 0, none⟩) n cap) (l ++ [(e, fv)]).length (pairRows (l ++ [(e, fv)])) := ownsRow_farF (ownsRow_keep h.row hb1) hg (own_apart hfl h.row (by decide))
  have gs := grown_setF w3 g (l.length * 2 + 1) (.slice (some ⟨fg, 0, none⟩) (e.fs.length + 1) fcap)
  have hne : ∀ (p : EntV), w3.ownsRow B 92 3 p.2 p.1.fs.length (fldRows p.1.fs) → ∀ k, p.2.ownBlock = some k → some k ≠ some g := fun p hp => own_apart hrow3 hp (by decide)
  have hap := List.pairwise_append.1 h.apart
  refine ⟨?_, fun p hp => ?_, ?_⟩
  · obtain ⟨h1, h2⟩ := hrow3
    rcases h2 with ⟨h2, _⟩ | ⟨g', cap', cur, hv, hB, hb, hn, hc, hs, ht⟩
    · cases h2
    · cases hv
      have hlen : ∀ x : EntV, (l ++ [x]).length = l.length + 1 := fun x => by simp
      rw [hlen] at h1 hn ht
      refine ⟨by rw [pairRows_length], .inr ⟨g, cap, cur.setIfInBounds (l.length * 2 + 1) (.slice (some ⟨fg, 0, none⟩) (e.fs.length + 1) fcap), by simp, hB, ?_, by rw [hlen]; exact hn, hc, by simpa using hs, ?_⟩⟩
      · rw [Sort.setCell_eq]
        simp only [Sort.mapBlock, Array.getElem?_modify, if_true, hb, Option.map_some, Sort.onCells]
      · rw [hlen, Array.toList_setIfInBounds, List.take_set, ht, pairRows_snoc, pairRows_snoc]
        have := set_end (pairRows l) (.string e.name) fv (.slice (some ⟨fg, 0, none⟩) (e.fs.length + 1) fcap)
        rw [pairRows_length] at this
        exact this
  · rcases List.mem_append.1 hp with hp | hp
    · have hp2 := h.flds p (List.mem_append_left _ hp)
      have hp3 : w3.ownsRow B 92 3 p.2 p.1.fs.length (fldRows p.1.fs) := ownsRow_farF (ownsRow_keep hp2 hb1) hg (fun k hk ee => (hap.2.2 p hp (e, fv) (by simp) k hk) ee.symm)
      exact ownsRow_farF hp3 gs (hne p hp3)
    · simp at hp; subst hp
      have h3 : w3.ownsRow B 92 3 (.slice (some ⟨fg, 0, none⟩) (e.fs.length + 1) fcap) (e.fs ++ [f]).length (fldRows (e.fs ++ [f])) := by
        rw [fldRows_snoc, List.length_append]; exact hown
      exact ownsRow_farF h3 gs (hne (⟨e.name, e.fs ++ [f]⟩, _) h3)
  · rw [List.pairwise_append]
    refine ⟨hap.1, by simp, fun p hp q hq k hk => ?_⟩
    simp at hq; subst hq
    show some fg ≠ some k
    intro ee
    injection ee with ee
    subst ee
    rcases hat with hat | hat
    · exact hap.2.2 p hp (e, fv) (by simp) _ hk hat
    · have := own_lt (h.flds p (List.mem_append_left _ hp)) _ hk
      omega
/-- What the entries are. -/
def EntsNew (w : World) (B : Nat) (o : Value) (es : List Ent) : Prop := ∃ l : List EntV, l.map (·.1) = es ∧ PairsNew w B o l
end Go.Proofs.YtibpkhmiahamcaaGreatDoor

/-
  impl: the entries out of the map.
-/
namespace Go.Proofs.YtibpkhmiahamcaaGreatDoor
open Go.RowKit
set_option linter.unusedSimpArgs false
set_option linter.unusedVariables false

theorem getF_at {S : List Chg} {c : Chg} (hS : SortedC S) (hc : c ∈ S) : getF S c = fldC c := by
  unfold getF
  have : S.find? (fun a => keyEq a c) = some c := by
    induction S with
    | nil => cases hc
    | cons a l ih =>
      have h' := List.pairwise_cons.1 hS
      rcases List.mem_cons.1 hc with rfl | hc
      · simp [keyEq_self]
      · rw [List.find?_cons, keyLt_ne (h'.1 c hc)]
        exact ih h'.2 hc
  rw [this]
theorem add_step {S : List Chg} {k : Nat} (h : k < S.length) : (S.take (k + 1)).foldl addE [] = addE ((S.take k).foldl addE []) (cat' S k) := by
  have : S[k] = cat' S k := by simp [cat', h]
  rw [List.take_succ_eq_append_getElem h, List.foldl_append, this]; rfl
theorem key_cells {w : World} {B : Nat} {v : Value} {S : List Chg} (h : w.ownsRow B 99 2 v S.length (keyRows (S.map kyOf))) (k : Nat) (hk : k < S.length) : ∃ g cap, v = .slice (some ⟨g, 0, none⟩) S.length cap ∧ w.cell? ⟨g, k * 2, none⟩ = some (.string (cat' S k).f) ∧ w.cell? ⟨g, k * 2 + 1, none⟩ = some (.int .i64 (cat' S k).what) := by
  rcases h.2 with ⟨_, h0⟩ | ⟨g, cap, cur, rfl, _, hb, hn, hc, hs, ht⟩
  · omega
  · have hx : ∀ j, j < 2 → cur.toList[k * 2 + j]? = (keyRow (kyOf (cat' S k)))[j]? := fun j hj => by
      have h1 : (cur.toList.take (S.length * 2))[k * 2 + j]? = cur.toList[k * 2 + j]? := by
        rw [List.getElem?_take, if_pos (by omega)]
      have e1 : (k * 2 + j) / 2 = k := by omega
      have e2 : (k * 2 + j) % 2 = j := by omega
      rw [← h1, ht, keyRows_get, e1, e2, List.getElem?_map, cat_get hk]
      rfl
    have x0 := hx 0 (by omega)
    have x1 := hx 1 (by omega)
    simp only [Nat.add_zero] at x0
    refine ⟨g, cap, rfl, ?_, ?_⟩
    · simp only [World.cell?, hb, Option.isSome_none, Bool.false_eq_true, if_false]
      simpa [keyRow, kyOf] using x0
    · simp only [World.cell?, hb, Option.isSome_none, Bool.false_eq_true, if_false]
      simpa [keyRow, kyOf] using x1

theorem addE_len (es : List Ent) (c : Chg) : (addE es c).length ≤ es.length + 1 := by
  rcases List.eq_nil_or_concat es with rfl | ⟨l, e, rfl⟩
  · rw [addE_new (fun e he => by simp at he)]; simp
  · rw [List.concat_eq_append]
    by_cases h : e.name = c.f
    · rw [addE_more h]; simp
    · rw [addE_new (fun e' he => by simp at he; rw [← he]; exact h)]; simp
theorem fold_len : ∀ (L : List Chg) (es : List Ent), (L.foldl addE es).length ≤ es.length + L.length
  | [], es => Nat.le_refl _
  | c :: L, es => by
    have h1 := fold_len L (addE es c)
    have h2 := addE_len es c
    simp only [List.foldl_cons, List.length_cons]
    omega
theorem addE_fs (es : List Ent) (c : Chg) (M : Nat) (h : ∀ e ∈ es, e.fs.length ≤ M) : ∀ e ∈ addE es c, e.fs.length ≤ M + 1 := by
  rcases List.eq_nil_or_concat es with rfl | ⟨l, e0, rfl⟩
  · rw [addE_new (fun e he => by simp at he)]
    intro e he
    simp at he; subst he; simp
  · rw [List.concat_eq_append] at h ⊢
    by_cases hn : e0.name = c.f
    · rw [addE_more hn]
      intro e he
      rcases List.mem_append.1 he with he | he
      · have := h e (List.mem_append_left _ he); omega
      · simp at he; subst he
        have := h e0 (by simp)
        simp; exact this
    · rw [addE_new (fun e' he => by simp at he; rw [← he]; exact hn)]
      intro e he
      rcases List.mem_append.1 he with he | he
      · have := h e he; omega
      · simp at he; subst he; simp
theorem fold_fs : ∀ (L : List Chg) (es : List Ent) (M : Nat), (∀ e ∈ es, e.fs.length ≤ M) → ∀ e ∈ L.foldl addE es, e.fs.length ≤ M + L.length
  | [], es, M, h => h
  | c :: L, es, M, h => fun e he => by
    have := fold_fs L (addE es c) (M + 1) (addE_fs es c M h) e he
    simp only [List.length_cons]
    omega
/-- While the entries are made. -/
structure EL (w wr : World) (kv : Value) (S : List Chg) (o : Value) (k : Nat) : Prop where
  below : Below w.heap.size w wr
  keys : wr.ownsRow w.heap.size 99 2 kv S.length (keyRows (S.map kyOf))
  ents : EntsNew wr w.heap.size o ((S.take k).foldl addE [])
/-- .. with the entry at hand the last one. -/
structure EM (w wr : World) (kv : Value) (S : List Chg) (o : Value) (l : List EntV) (e : Ent) (fv : Value) : Prop where
  below : Below w.heap.size w wr
  keys : wr.ownsRow w.heap.size 99 2 kv S.length (keyRows (S.map kyOf))
  ents : PairsNew wr w.heap.size o (l ++ [(e, fv)])
theorem EM.call {w wr wy : World} {kv o fv : Value} {S : List Chg} {l : List EntV} {e : Ent} (h : EM w wr kv S o l e fv) (hb : Below wr.heap.size wr wy) : EM w wy kv S o l e fv :=
  ⟨below_step h.below hb, ownsRow_keep h.keys hb, h.ents.keep hb⟩
theorem EM.push {w w2 w3 : World} {kv o o' : Value} {S : List Chg} {l : List EntV} {n : ByteArray} {ob : Obj} (hb : Below w.heap.size w w2) (hk : w2.ownsRow w.heap.size 99 2 kv S.length (keyRows (S.map kyOf))) (h : PairsNew w2 w.heap.size o l) (hown : w3.ownsRow w.heap.size 88 2 o' (l.length + 1) (pairRows l ++ [.string n, .slice none 0 0])) (hg : (w2.alloc ob).grownBy w3 o.ownBlock) : EM w w3 kv S o' l ⟨n, []⟩ (.slice none 0 0) :=
  ⟨(hb.alloc hb.size ob).grown hg (by simp; have := hb.size; omega) (own_ge h.row), ownsRow_farF (ownsRow_keep hk ((Below.refl _ _).alloc (Nat.le_refl _) ob)) hg (own_apart h.row hk (by decide)), h.push hown hg⟩
theorem EM.next {w w2 w3 : World} {kv : Value} {S : List Chg} {g cap n fg fcap H k : Nat} {l : List EntV} {e : Ent} {fv : Value} {f : Fld} {ob : Obj} (h : EM w w2 kv S (.slice (some ⟨g, 0, none⟩) n cap) l e fv) (hown : w3.ownsRow w.heap.size 92 3 (.slice (some ⟨fg, 0, none⟩) (e.fs.length + 1) fcap) (e.fs.length + 1) (fldRows e.fs ++ fldRow f)) (hg : (w2.alloc ob).grownBy w3 fv.ownBlock) (hat : fv.ownBlock = some fg ∨ fg = H) (hH : w2.heap.size ≤ H) (hs : l.map (·.1) ++ [⟨e.name, e.fs ++ [f]⟩] = (S.take (k + 1)).foldl addE []) :
    EL w (w3.setCell ⟨g, l.length * 2 + 1, none⟩ (.slice (some ⟨fg, 0, none⟩) (e.fs.length + 1) fcap)) kv S (.slice (some ⟨g, 0, none⟩) n cap) (k + 1) := by
  have hfl := h.ents.flds (e, fv) (by simp)
  have hb3 : Below w.heap.size w w3 := (h.below.alloc h.below.size ob).grown hg (by simp; have := h.below.size; omega) (own_ge hfl)
  have hge : w.heap.size ≤ g := own_ge h.ents.row g rfl
  have hk3 : w3.ownsRow w.heap.size 99 2 kv S.length (keyRows (S.map kyOf)) := ownsRow_farF (ownsRow_keep h.keys ((Below.refl _ _).alloc (Nat.le_refl _) ob)) hg (own_apart hfl h.keys (by decide))
  have hr3 : w3.ownsRow w.heap.size 88 2 (.slice (some ⟨g, 0, none⟩) n cap) (l ++ [(e, fv)]).length (pairRows (l ++ [(e, fv)])) := ownsRow_farF (ownsRow_keep h.ents.row ((Below.refl _ _).alloc (Nat.le_refl _) ob)) hg (own_apart hfl h.ents.row (by decide))
  refine ⟨hb3.setCell (p := ⟨g, l.length * 2 + 1, none⟩) hge _, ownsRow_farF hk3 (grown_setF w3 g (l.length * 2 + 1) _) (own_apart hr3 hk3 (by decide)), _, ?_, h.ents.more hown hg hat hH⟩
  rw [← hs, List.map_append]; rfl
theorem addE_old {l : List EntV} {e : Ent} {fv : Value} {es : List Ent} {c : Chg} (h : (l ++ [(e, fv)]).map (·.1) = es) (hn : e.name = c.f) : l.map (·.1) ++ [⟨e.name, e.fs ++ [fldC c]⟩] = addE es c := by
  rw [← h, List.map_append]; exact (addE_more hn).symm
theorem addE_fresh {l : List EntV} {es : List Ent} {c : Chg} (h : l.map (·.1) = es) (hn : ∀ e, es.getLast? = some e → e.name ≠ c.f) : l.map (·.1) ++ [⟨c.f, [] ++ [fldC c]⟩] = addE es c := by
  rw [h]; exact (addE_new hn).symm

set_option maxRecDepth 100000 in
set_option maxHeartbeats 12800000 in
theorem entriesOf_any (b n : Nat) (S : List Chg) (w : World) (h : MapIs w b n S) (hS : SortedC S) (hfit : ∀ c ∈ S, KeyFit c) (hsm : ∀ c ∈ S, c.f.size ≤ 1048576 ∧ c.v.size ≤ 1048576) (hn : n ≤ 4194304) (hl : S.length ≤ 4194304) (hbw : b < w.heap.size) :
    Calls Tryz.prog 60 #[.map (some b)] w fun e w' => ∃ o, e = .returned o ∧ EntsNew w' w.heap.size o (S.foldl addE []) ∧ Below w.heap.size w w' := by
  obtain ⟨i0, hi, hz0, hz1, hz2⟩ := info_parts infoEnt
  obtain ⟨j0, hj, jz0, jz1, jz2⟩ := info_parts infoFld
  have HM : Hid (MapIs w b n S) := h
  have HF : Hid (∀ c ∈ S, KeyFit c) := hfit
  have HSM : Hid (∀ c ∈ S, c.f.size ≤ 1048576 ∧ c.v.size ≤ 1048576) := hsm
  have HSS : Hid (SortedC S) := hS
  clear h hfit hsm hS
  go_enter Tryz.func60, Tryz.ntmps60
  go_wp2_with fail
  refine (sortedKeys_any b n S _ HM.out HSS.out HF.out hn).mono ?_
  rintro e w1 ⟨kv, rfl, hk1, hb1⟩
  have HK1 : Hid (EL w w1 kv S (.slice none 0 0) 0) := ⟨hb1, hk1, [], rfl, PairsNew.nil _ _⟩
  obtain ⟨ka, kc, rfl⟩ : ∃ ka kc, kv = .slice ka S.length kc := by
    rcases hk1.2 with ⟨rfl, h0⟩ | ⟨g, cap, cur, rfl, _⟩
    · exact ⟨none, 0, by rw [h0]⟩
    · exact ⟨_, cap, rfl⟩
  clear hk1 hb1
  go_wp2
  go_loopw [3, 12] (fun o i wr => ∃ k : Nat, k ≤ S.length ∧ i = .int .i64 k ∧ EL w wr (.slice ka S.length kc) S o k) (fun _ i _ => S.length - (intOf i).toNat)
  case atStart => exact ⟨0, Nat.zero_le _, rfl, HK1.out⟩
  case round =>
    clear HK1
    obtain ⟨k, hk, rfl, hEL⟩ := hrel
    by_cases hlt : k < S.length
    · obtain ⟨kg, kcap, hkv, d0, d1⟩ := key_cells hEL.keys k hlt
      cases hkv
      have HC := List.mem_of_getElem? (cat_get hlt)
      have HQ : Hid (KeyFit (cat' S k) ∧ getF S (cat' S k) = fldC (cat' S k)) := ⟨HF.out _ HC, getF_at HSS.out HC⟩
      have hcs := (HSM.out _ HC).1
      have hcv := (HSM.out _ HC).2
      have HST : Hid ((S.take (k + 1)).foldl addE [] = addE ((S.take k).foldl addE []) (cat' S k)) := add_step hlt
      have HMR : Hid (MapIs wr b n S) := HM.out.kept (row := none) ⟨hEL.below.os, hEL.below.tape, hEL.below.output, hEL.below.size, fun j hj _ => hEL.below.block j hj⟩ (by simp)
      clear HC
      generalize cat' S k = c at *
      obtain ⟨l, hle, hP⟩ := hEL.ents
      have hk0 : (0 : Int) ≤ (k : Int) := by omega
      have hk1 : (k : Int) < (S.length : Int) := by omega
      have HE0 : Hid (Below w.heap.size w wr ∧ wr.ownsRow w.heap.size 99 2 (.slice (some ⟨kg, 0, none⟩) S.length kc) S.length (keyRows (S.map kyOf))) := ⟨hEL.below, hEL.keys⟩
      have hll : l.length ≤ 4194304 := by
        have : l.length = ((S.take k).foldl addE []).length := by rw [← hle, List.length_map]
        rw [this]
        refine Nat.le_trans (fold_len _ _) ?_
        simp; omega
      have BA : Hid (Below wr.heap.size wr (wr.alloc (.cells #[.string c.f, .int .i64 c.what] 99))) := (Below.refl _ _).alloc (Nat.le_refl _) _
      have XA : Hid ((wr.alloc (.cells #[.string c.f, .int .i64 c.what] 99)).heap[wr.heap.size]? = some (.cells #[.string c.f, .int .i64 c.what] 99)) := heap_newF wr _
      clear hEL
      have HOL : Hid (∃ oa oc, u3 = .slice oa l.length oc) := by
        rcases hP.row.2 with ⟨rfl, h0⟩ | ⟨g, cap, cur, rfl, _⟩
        · exact ⟨none, 0, by rw [h0]⟩
        · exact ⟨_, cap, rfl⟩
      obtain ⟨oa, oc, rfl⟩ := HOL.out
      clear HOL
      have HPP : Hid (PairsNew wr w.heap.size (.slice oa l.length oc) l) := hP
      have HLE : Hid (l.map (·.1) = (S.take k).foldl addE []) := hle
      clear hP hle
      rcases List.eq_nil_or_concat l with hnil | ⟨l', ⟨e, fv⟩, hcon⟩
      · have hw0 : IntKind.i64.wrap ((l.length : Int) - 1) = -1 := by rw [hnil]; rfl
        have HAD : Hid (l.map (·.1) ++ [⟨c.f, [] ++ [fldC c]⟩] = (S.take (k + 1)).foldl addE []) := by
          show _ = _
          rw [HST.out]
          exact addE_fresh HLE.out fun e he => by rw [← HLE.out, hnil] at he; simp at he
        clear hnil HLE
        go_upto_region 6 with fail
        clear hw0
        go_quiet (fail)
        go_wp2_with fail
        refine (clone_any c.f _ hcs).mono ?_
        rintro e1 w2 ⟨rfl, hb2'⟩
        have hb2 : Below wr.heap.size wr w2 := below_step BA.out ⟨hb2'.os, hb2'.tape, hb2'.output, hb2'.size, hb2'.block⟩
        have X2 : w2.heap[wr.heap.size]? = some (.cells #[.string c.f, .int .i64 c.what] 99) := (hb2'.block _ (by simp)).trans XA.out
        have ho2 := HPP.out.keep hb2
        have hzw2 := (below_step HE0.out.1 hb2).size
        have HNW2 : Hid (∀ (j : Nat) (u : Value), [Value.string c.f, .slice none 0 0][j]? = some u → (w2.alloc (.cells #[.string c.f, .slice none 0 0] 88)).cell? ((⟨w2.heap.size, 0, none⟩ : Addr).add j) = some u) := cell_two_new w2 _ _ _
        go_upto_region 8 with (at_builtin; go_loud (refine wpList_append_lies _ rfl _ _ 32 rfl w.heap.size 88 i0 (.agg #[.string ByteArray.empty, .slice none 0 0]) 2 40 Tryz.underlying32 hi hz0 hz1 hz2 rfl (by decide) _ l.length (pairRows l) rfl (ho2.row.alloc _) ⟨w2.heap.size, 0, none⟩ 1 1 [.string c.f, .slice none 0 0] rfl rfl HNW2.out (fun x hx => by simp at hx; rcases hx with rfl | rfl <;> rfl) (by decide) (by unfold maxLen; omega) (by omega) (by simp; omega) _ rfl ?_); intro g cap w3 hown3 hg3 hat3 hlt3)
        have hz23 : wr.heap.size < w2.heap.size := (Array.getElem?_eq_some_iff.1 X2).1
        have X3 : w3.heap[wr.heap.size]? = some (.cells #[.string c.f, .int .i64 c.what] 99) := (hg3.block _ (by simp; omega) (own_other ho2.row X2 (by decide))).trans ((Below.heap_alloc _ _ _ hz23).trans X2)
        have HEM0 : Hid (EM w w3 (.slice (some ⟨kg, 0, none⟩) S.length kc) S (.slice (some ⟨g, 0, none⟩) (l.length + 1) cap) l ⟨c.f, []⟩ (.slice none 0 0)) := EM.push (below_step HE0.out.1 hb2) (ownsRow_keep HE0.out.2 hb2) ho2 hown3 hg3
        obtain ⟨q, HQQ⟩ : ∃ q : Ent × Value, Hid (EM w w3 (.slice (some ⟨kg, 0, none⟩) S.length kc) S (.slice (some ⟨g, 0, none⟩) (l.length + 1) cap) l q.1 q.2 ∧ l.map (·.1) ++ [⟨q.1.name, q.1.fs ++ [fldC c]⟩] = (S.take (k + 1)).foldl addE [] ∧ q.1.fs.length ≤ 4194304) := ⟨(⟨c.f, []⟩, .slice none 0 0), HEM0.out, HAD.out, by simp⟩
        clear hown3 hg3 hat3 hlt3 hb2 X2 ho2 HNW2 BA XA HPP HEM0 HAD
        obtain ⟨e, fv⟩ := q
        obtain ⟨l', hl'⟩ : ∃ l' : List EntV, l' = l := ⟨_, rfl⟩
        rw [← hl'] at HQQ hll
        simp only [← hl']
        clear hl'
        have HEM : Hid (EM w w3 (.slice (some ⟨kg, 0, none⟩) S.length kc) S (.slice (some ⟨g, 0, none⟩) (l'.length + 1) cap) l' e fv) := HQQ.out.1
        have HAD : Hid (l'.map (·.1) ++ [⟨e.name, e.fs ++ [fldC c]⟩] = (S.take (k + 1)).foldl addE []) := HQQ.out.2.1
        have HFL : Hid (e.fs.length ≤ 4194304) := HQQ.out.2.2
        clear HQQ
        have HFB : Hid (∀ j, fv.ownBlock = some j → j < w3.heap.size) := own_lt (HEM.out.ents.flds (e, fv) (by simp))
        have HM3 : Hid (MapIs w3 b n S) := HM.out.kept (row := none) ⟨HEM.out.below.os, HEM.out.below.tape, HEM.out.below.output, HEM.out.below.size, fun j hj _ => HEM.out.below.block j hj⟩ (by simp)
        have hlk : (Instr.lookup 95 (.map (some b)) (.agg #[.string c.f, .int .i64 c.what]) false).run Tryz.prog w3 = .ok (.agg #[.int .i64 c.what, .int .i64 c.num, .string c.v]) w3 := by
          have h := HM3.out.lookup c HQ.out.1
          rw [HQ.out.2] at h
          exact h
        obtain ⟨p0, p1⟩ : w3.cell? ⟨wr.heap.size, 0, none⟩ = some (.string c.f) ∧ w3.cell? ⟨wr.heap.size, 1, none⟩ = some (.int .i64 c.what) := by simp [World.cell?, X3]
        go_wp2_with fail
        refine (clone_any c.v _ hcv).mono ?_
        rintro e5 w5 ⟨rfl, hb5⟩
        have X5 : w5.heap[w3.heap.size]? = some (.cells #[.int .i64 c.what, .int .i64 c.num, .string c.v] 92) := (hb5.block _ (by simp)).trans (heap_newF w3 _)
        have hb35 : Below w3.heap.size w3 w5 := below_step ((Below.refl _ _).alloc (Nat.le_refl _) _) hb5
        have hz5 : w3.heap.size < w5.heap.size := (Array.getElem?_eq_some_iff.1 X5).1
        obtain ⟨q0, q1, q2⟩ : w5.cell? ⟨w3.heap.size, 0, none⟩ = some (.int .i64 c.what) ∧ w5.cell? ⟨w3.heap.size, 1, none⟩ = some (.int .i64 c.num) ∧ w5.cell? ⟨w3.heap.size, 2, none⟩ = some (.string c.v) := by simp [World.cell?, X5]
        have qf : w5.frozen? ⟨w3.heap.size, 2, none⟩ = false := by simp [World.frozen?, X5]
        have HE6 : Hid (EM w (w5.setCell ⟨w3.heap.size, 2, none⟩ (.string c.v)) (.slice (some ⟨kg, 0, none⟩) S.length kc) S (.slice (some ⟨g, 0, none⟩) (l'.length + 1) cap) l' e fv) := HEM.out.call (below_set hb35 _ _ (Nat.le_refl _) _)
        have X6 : Hid ((w5.setCell ⟨w3.heap.size, 2, none⟩ (.string c.v)).heap[w3.heap.size]? = some (.cells #[.int .i64 c.what, .int .i64 c.num, .string c.v] 92) ∧ w3.heap.size < (w5.setCell ⟨w3.heap.size, 2, none⟩ (.string c.v)).heap.size) := by
          refine ⟨?_, by simpa using hz5⟩
          rw [setCell_eq_setRow _ _ _ _ _ _ _ X5]; exact setRow_heap _ _ _ _ _ _ X5
        have hL0 : (0 : Int) ≤ (l'.length : Int) := by omega
        have hL1 : (l'.length : Int) < (l'.length : Int) + 1 := by omega
        have hw1 : IntKind.i64.wrap ((l'.length : Int) + 1 - 1) = (l'.length : Int) := by rw [IntKind.wrap_i64]; omega
        clear hlk p0 p1 X3 hb5 hb35 HEM HM3
        go_upto_region 11 with fail
        generalize w5.setCell ⟨w3.heap.size, 2, none⟩ (.string c.v) = w6 at *
        clear q0 q1 q2 qf X5 hz5
        generalize w3.heap.size = fb at *
        obtain ⟨q0, q1, q2⟩ : w6.cell? ⟨fb, 0, none⟩ = some (.int .i64 c.what) ∧ w6.cell? ⟨fb, 1, none⟩ = some (.int .i64 c.num) ∧ w6.cell? ⟨fb, 2, none⟩ = some (.string c.v) := by simp [World.cell?, X6.out.1]
        obtain ⟨g', cap', hgo, y0, y1, yf, hcp, hcm⟩ := HE6.out.ents.last
        injection hgo with hgo1 hgo2 hgo3
        injection hgo1 with hgo1
        injection hgo1 with hgo1
        subst hgo1 hgo3
        have hfl := HE6.out.ents.flds (e, fv) (by simp)
        have hgz : g < w6.heap.size := lt_of_cell y0
        have HFO : Hid ((w6.alloc (.cells #[.int .i64 c.what, .int .i64 c.num, .string c.v] 92)).ownsRow w.heap.size 92 3 fv e.fs.length (fldRows e.fs)) := hfl.alloc _
        have HNW : Hid (∀ (j : Nat) (u : Value), (fldRow (fldC c))[j]? = some u → (w6.alloc (.cells #[.int .i64 c.what, .int .i64 c.num, .string c.v] 92)).cell? ((⟨w6.heap.size, 0, none⟩ : Addr).add j) = some u) := cell_three_new w6 _ _ _ _
        have HWZ : Hid (w.heap.size ≤ (w6.alloc (.cells #[.int .i64 c.what, .int .i64 c.num, .string c.v] 92)).heap.size) := by
          have := HE6.out.below.size
          show w.heap.size ≤ _
          simp; omega
        have HGF : Hid (fb ≠ g) := fun ee => own_other HE6.out.ents.row X6.out.1 (by decide) (by rw [ee]; rfl)
        have HCL : Hid (∀ wx : World, (w6.alloc (.cells #[.int .i64 c.what, .int .i64 c.num, .string c.v] 92)).grownBy wx fv.ownBlock → wx.cell? ⟨g, l'.length * 2 + 1, none⟩ = some fv ∧ wx.frozen? ⟨g, l'.length * 2 + 1, none⟩ = false ∧ wx.heap[fb]? = some (.cells #[.int .i64 c.what, .int .i64 c.num, .string c.v] 92)) := fun wx hgx => by
          have hg1 : wx.heap[g]? = w6.heap[g]? := (hgx.block g (by simp; omega) (own_apart hfl HE6.out.ents.row (by decide) g rfl)).trans (Below.heap_alloc _ _ _ hgz)
          have hf1 : wx.heap[fb]? = some (.cells #[.int .i64 c.what, .int .i64 c.num, .string c.v] 92) := (hgx.block fb (by have := X6.out.2; simp; omega) (fun ee => by have := HFB.out fb ee.symm; omega)).trans ((Below.heap_alloc _ _ _ X6.out.2).trans X6.out.1)
          exact ⟨(World.cell?_of_block (a := ⟨g, l'.length * 2 + 1, none⟩) hg1).trans y1, (World.frozen?_of_block (a := ⟨g, l'.length * 2 + 1, none⟩) hg1).trans yf, hf1⟩
        have hAL : Below w6.heap.size w6 (w6.alloc (.cells #[.int .i64 c.what, .int .i64 c.num, .string c.v] 92)) := (Below.refl _ _).alloc (Nat.le_refl _) _
        have HSA : Hid ((w6.alloc (.cells #[.int .i64 c.what, .int .i64 c.num, .string c.v] 92)).cell? ⟨fb, 0, none⟩ = some (.int .i64 c.what) ∧ (w6.alloc (.cells #[.int .i64 c.what, .int .i64 c.num, .string c.v] 92)).cell? ⟨fb, 1, none⟩ = some (.int .i64 c.num) ∧ (w6.alloc (.cells #[.int .i64 c.what, .int .i64 c.num, .string c.v] 92)).cell? ⟨fb, 2, none⟩ = some (.string c.v)) := ⟨cell_keep hAL (Nat.le_refl _) q0, cell_keep hAL (Nat.le_refl _) q1, cell_keep hAL (Nat.le_refl _) q2⟩
        clear hAL
        refine wp_region_noPanic ?_
        refine wp_region_held_drew (S := fun w' => w'.cell? ⟨fb, 0, none⟩ = some (.int .i64 c.what) ∧ w'.cell? ⟨fb, 1, none⟩ = some (.int .i64 c.num) ∧ w'.cell? ⟨fb, 2, none⟩ = some (.string c.v)) (by kernel_rfl) ?_ (fun hHeld => ?_)
        · exact ⟨q0, q1, q2⟩
        refine wpAnyH_take (i := 0) (v := ?_) rfl (by kernel_rfl) (by kernel_rfl) (by kernel_rfl) (fun _ _ _ h => h) (Or.inl ⟨by rfl, ?_⟩) (by assumption) ?_
        rotate_left
        · intro w hSw; (try dsimp only at hSw); go_simp; try with_reducible rfl
        simp only [Act.put, List.setIfInBounds_toArray, List.set_cons_zero, List.set_cons_succ, List.getElem_toArray, List.getElem_cons_succ, List.getElem_cons_zero]
        refine wpAnyH_take (i := 1) (v := ?_) rfl (by kernel_rfl) (by kernel_rfl) (by kernel_rfl) (fun _ _ _ h => h) (Or.inl ⟨by rfl, ?_⟩) (by assumption) ?_
        rotate_left
        · intro w hSw; (try dsimp only at hSw); go_simp; try with_reducible rfl
        simp only [Act.put, List.setIfInBounds_toArray, List.set_cons_zero, List.set_cons_succ, List.getElem_toArray, List.getElem_cons_succ, List.getElem_cons_zero]
        refine wpAnyH_take (i := 2) (v := ?_) rfl (by kernel_rfl) (by kernel_rfl) (by kernel_rfl) (fun _ _ _ h => h) (Or.inl ⟨by rfl, ?_⟩) (by assumption) ?_
        rotate_left
        · intro w hSw; (try dsimp only at hSw); go_simp; try with_reducible rfl
        simp only [Act.put, List.setIfInBounds_toArray, List.set_cons_zero, List.set_cons_succ, List.getElem_toArray, List.getElem_cons_succ, List.getElem_cons_zero]
        refine wpAnyH_take (i := 3) (v := ?_) rfl (by kernel_rfl) (by kernel_rfl) (by kernel_rfl) (fun _ _ _ h => h) (Or.inl ⟨by rfl, ?_⟩) (by assumption) ?_
        rotate_left
        · intro w hSw; (try dsimp only at hSw); go_simp; try with_reducible rfl
        simp only [Act.put, List.setIfInBounds_toArray, List.set_cons_zero, List.set_cons_succ, List.getElem_toArray, List.getElem_cons_succ, List.getElem_cons_zero]
        refine wpAnyH_take (i := 5) (v := ?_) rfl (by kernel_rfl) (by kernel_rfl) (by kernel_rfl) (fun _ _ _ h => h) (Or.inl ⟨by rfl, ?_⟩) (by assumption) ?_
        rotate_left
        · intro w hSw; (try dsimp only at hSw); go_simp; try with_reducible rfl
        simp only [Act.put, List.setIfInBounds_toArray, List.set_cons_zero, List.set_cons_succ, List.getElem_toArray, List.getElem_cons_succ, List.getElem_cons_zero]
        refine wpAnyH_ready (rs := [4, 6]) (by kernel_rfl) (by simp) ?_
        refine AllReadyH.cons rfl (fun K hK => ?_) (AllReadyH.cons rfl (fun K hK => ?_) AllReadyH.nil)
        · go_simp
          refine hK.out _ _ ⟨q0, q1, q2⟩ (fun hHeld4 => ?_)
          clear hK K
          refine wpAnyH_ready (rs := [6]) (by kernel_rfl) (by simp) ?_
          refine AllReadyH.cons rfl (fun K hK => ?_) AllReadyH.nil
          go_simp
          refine hK.out _ _ HSA.out (fun hHeld6 => ?_)
          clear hK K
          refine wpAnyH_ready (rs := [7]) (by kernel_rfl) (by simp) ?_
          refine AllReadyH.cons rfl (fun K hK => ?_) AllReadyH.nil
          refine step_append_lies _ rfl _ _ 86 rfl w.heap.size 92 j0 (.agg #[.int .i64 0, .int .i64 0, .string ByteArray.empty]) 3 32 Tryz.underlying86 hj jz0 jz1 jz2 rfl (by decide) fv e.fs.length (fldRows e.fs) rfl HFO.out ⟨w6.heap.size, 0, none⟩ 1 1 (fldRow (fldC c)) rfl rfl HNW.out (fun x hx => by simp [fldRow] at hx; rcases hx with rfl | rfl | rfl <;> rfl) (by decide) (by unfold maxLen; have := HFL.out; omega) (by have := HFL.out; omega) HWZ.out (w6.heap.size + 1) (by simp) ?_
          intro fg fcap w7 hown7 hg7 hat7 hlt7
          have HG7 : Hid ((w6.alloc (.cells #[.int .i64 c.what, .int .i64 c.num, .string c.v] 92)).grownBy w7 fv.ownBlock) := ⟨hg7.os, hg7.tape, hg7.output, hg7.size, hg7.block⟩
          have HNX : Hid (EL w (w7.setCell ⟨g, l'.length * 2 + 1, none⟩ (.slice (some ⟨fg, 0, none⟩) (e.fs.length + 1) fcap)) (.slice (some ⟨kg, 0, none⟩) S.length kc) S (.slice (some ⟨g, 0, none⟩) (l'.length + 1) cap) (k + 1)) := HE6.out.next hown7 HG7.out hat7 (Nat.le_succ _) HAD.out
          have hq7 := HCL.out w7 HG7.out
          have x1 := hq7.1
          have xf := hq7.2.1
          have HS7 : Hid (w7.cell? ⟨fb, 0, none⟩ = some (.int .i64 c.what) ∧ w7.cell? ⟨fb, 1, none⟩ = some (.int .i64 c.num) ∧ w7.cell? ⟨fb, 2, none⟩ = some (.string c.v)) := by
            have h := hq7.2.2
            show _ ∧ _ ∧ _
            simp [World.cell?, h]
          have HS8 : Hid ((w7.setCell ⟨g, l'.length * 2 + 1, none⟩ (.slice (some ⟨fg, 0, none⟩) (e.fs.length + 1) fcap)).cell? ⟨fb, 0, none⟩ = some (.int .i64 c.what) ∧ (w7.setCell ⟨g, l'.length * 2 + 1, none⟩ (.slice (some ⟨fg, 0, none⟩) (e.fs.length + 1) fcap)).cell? ⟨fb, 1, none⟩ = some (.int .i64 c.num) ∧ (w7.setCell ⟨g, l'.length * 2 + 1, none⟩ (.slice (some ⟨fg, 0, none⟩) (e.fs.length + 1) fcap)).cell? ⟨fb, 2, none⟩ = some (.string c.v)) := by
            have h := (Below.heap_setCell w7 ⟨g, l'.length * 2 + 1, none⟩ (.slice (some ⟨fg, 0, none⟩) (e.fs.length + 1) fcap) fb HGF.out).trans hq7.2.2
            show _ ∧ _ ∧ _
            simp only [World.cell?, h]
            exact ⟨rfl, rfl, rfl⟩
          clear hq7
          refine hK.out _ _ HS7.out (fun hHeld7 => ?_)
          clear hK K
          refine wpAnyH_take (i := 8) (v := ?_) rfl (by kernel_rfl) (by kernel_rfl) (by kernel_rfl) (fun _ _ _ h => h) (Or.inl ⟨by rfl, ?_⟩) (by assumption) ?_
          rotate_left
          · intro w hSw; (try dsimp only at hSw); go_simp; try with_reducible rfl
          simp only [Act.put, List.setIfInBounds_toArray, List.set_cons_zero, List.set_cons_succ, List.getElem_toArray, List.getElem_cons_succ, List.getElem_cons_zero]
          refine wpAnyH_take (i := 9) (v := ?_) rfl (by kernel_rfl) (by kernel_rfl) (by kernel_rfl) (fun _ _ _ h => h) (Or.inl ⟨by rfl, ?_⟩) (by assumption) ?_
          rotate_left
          · intro w hSw; (try dsimp only at hSw); go_simp; try with_reducible rfl
          simp only [Act.put, List.setIfInBounds_toArray, List.set_cons_zero, List.set_cons_succ, List.getElem_toArray, List.getElem_cons_succ, List.getElem_cons_zero]
          refine wpAnyH_ready (rs := [10]) (by kernel_rfl) (by simp) ?_
          refine AllReadyH.cons rfl (fun K hK => ?_) AllReadyH.nil
          go_simp
          refine hK.out _ _ HS8.out (fun hHeld9 => ?_)
          clear hK K
          refine wpAnyH_done (by kernel_rfl) ?_ _
          refine NoPanic.normal ?_
          go_wp2
          exact ⟨⟨k + 1, by omega, by go_num, HNX.out⟩, by simp [intOf]; omega⟩
        · go_simp
          refine hK.out _ _ HSA.out (fun hHeld4 => ?_)
          clear hK K
          refine wpAnyH_ready (rs := [4]) (by kernel_rfl) (by simp) ?_
          refine AllReadyH.cons rfl (fun K hK => ?_) AllReadyH.nil
          go_simp
          refine hK.out _ _ HSA.out (fun hHeld6 => ?_)
          clear hK K
          refine wpAnyH_ready (rs := [7]) (by kernel_rfl) (by simp) ?_
          refine AllReadyH.cons rfl (fun K hK => ?_) AllReadyH.nil
          refine step_append_lies _ rfl _ _ 86 rfl w.heap.size 92 j0 (.agg #[.int .i64 0, .int .i64 0, .string ByteArray.empty]) 3 32 Tryz.underlying86 hj jz0 jz1 jz2 rfl (by decide) fv e.fs.length (fldRows e.fs) rfl HFO.out ⟨w6.heap.size, 0, none⟩ 1 1 (fldRow (fldC c)) rfl rfl HNW.out (fun x hx => by simp [fldRow] at hx; rcases hx with rfl | rfl | rfl <;> rfl) (by decide) (by unfold maxLen; have := HFL.out; omega) (by have := HFL.out; omega) HWZ.out (w6.heap.size + 1) (by simp) ?_
          intro fg fcap w7 hown7 hg7 hat7 hlt7
          have HG7 : Hid ((w6.alloc (.cells #[.int .i64 c.what, .int .i64 c.num, .string c.v] 92)).grownBy w7 fv.ownBlock) := ⟨hg7.os, hg7.tape, hg7.output, hg7.size, hg7.block⟩
          have HNX : Hid (EL w (w7.setCell ⟨g, l'.length * 2 + 1, none⟩ (.slice (some ⟨fg, 0, none⟩) (e.fs.length + 1) fcap)) (.slice (some ⟨kg, 0, none⟩) S.length kc) S (.slice (some ⟨g, 0, none⟩) (l'.length + 1) cap) (k + 1)) := HE6.out.next hown7 HG7.out hat7 (Nat.le_succ _) HAD.out
          have hq7 := HCL.out w7 HG7.out
          have x1 := hq7.1
          have xf := hq7.2.1
          have HS7 : Hid (w7.cell? ⟨fb, 0, none⟩ = some (.int .i64 c.what) ∧ w7.cell? ⟨fb, 1, none⟩ = some (.int .i64 c.num) ∧ w7.cell? ⟨fb, 2, none⟩ = some (.string c.v)) := by
            have h := hq7.2.2
            show _ ∧ _ ∧ _
            simp [World.cell?, h]
          have HS8 : Hid ((w7.setCell ⟨g, l'.length * 2 + 1, none⟩ (.slice (some ⟨fg, 0, none⟩) (e.fs.length + 1) fcap)).cell? ⟨fb, 0, none⟩ = some (.int .i64 c.what) ∧ (w7.setCell ⟨g, l'.length * 2 + 1, none⟩ (.slice (some ⟨fg, 0, none⟩) (e.fs.length + 1) fcap)).cell? ⟨fb, 1, none⟩ = some (.int .i64 c.num) ∧ (w7.setCell ⟨g, l'.length * 2 + 1, none⟩ (.slice (some ⟨fg, 0, none⟩) (e.fs.length + 1) fcap)).cell? ⟨fb, 2, none⟩ = some (.string c.v)) := by
            have h := (Below.heap_setCell w7 ⟨g, l'.length * 2 + 1, none⟩ (.slice (some ⟨fg, 0, none⟩) (e.fs.length + 1) fcap) fb HGF.out).trans hq7.2.2
            show _ ∧ _ ∧ _
            simp only [World.cell?, h]
            exact ⟨rfl, rfl, rfl⟩
          clear hq7
          refine hK.out _ _ HS7.out (fun hHeld7 => ?_)
          clear hK K
          refine wpAnyH_take (i := 8) (v := ?_) rfl (by kernel_rfl) (by kernel_rfl) (by kernel_rfl) (fun _ _ _ h => h) (Or.inl ⟨by rfl, ?_⟩) (by assumption) ?_
          rotate_left
          · intro w hSw; (try dsimp only at hSw); go_simp; try with_reducible rfl
          simp only [Act.put, List.setIfInBounds_toArray, List.set_cons_zero, List.set_cons_succ, List.getElem_toArray, List.getElem_cons_succ, List.getElem_cons_zero]
          refine wpAnyH_take (i := 9) (v := ?_) rfl (by kernel_rfl) (by kernel_rfl) (by kernel_rfl) (fun _ _ _ h => h) (Or.inl ⟨by rfl, ?_⟩) (by assumption) ?_
          rotate_left
          · intro w hSw; (try dsimp only at hSw); go_simp; try with_reducible rfl
          simp only [Act.put, List.setIfInBounds_toArray, List.set_cons_zero, List.set_cons_succ, List.getElem_toArray, List.getElem_cons_succ, List.getElem_cons_zero]
          refine wpAnyH_ready (rs := [10]) (by kernel_rfl) (by simp) ?_
          refine AllReadyH.cons rfl (fun K hK => ?_) AllReadyH.nil
          go_simp
          refine hK.out _ _ HS8.out (fun hHeld9 => ?_)
          clear hK K
          refine wpAnyH_done (by kernel_rfl) ?_ _
          refine NoPanic.normal ?_
          go_wp2
          exact ⟨⟨k + 1, by omega, by go_num, HNX.out⟩, by simp [intOf]; omega⟩
      · rw [List.concat_eq_append] at hcon
        have hlen : l.length = l'.length + 1 := by rw [hcon]; simp
        have hw0 : IntKind.i64.wrap ((l.length : Int) - 1) = (l'.length : Int) := by rw [IntKind.wrap_i64]; omega
        have hx0 : (0 : Int) ≤ (l'.length : Int) := by omega
        have hx1 : (l'.length : Int) < (l.length : Int) := by omega
        have HPC : Hid (PairsNew wr w.heap.size (.slice oa l.length oc) (l' ++ [(e, fv)])) := by
          show PairsNew wr w.heap.size (.slice oa l.length oc) (l' ++ [(e, fv)])
          rw [← hcon]; exact HPP.out
        obtain ⟨g0, cap0, hgo, y0', y1', yf', hcp0, hcm0⟩ := HPC.out.last
        injection hgo with hgo1 hgo2 hgo3
        subst hgo1 hgo3
        by_cases hnm : e.name = c.f
        · have hq : (e.name.toList == c.f.toList) = true := str_eq hnm
          have hneg : decide ((l'.length : Int) < 0) = false := by simp
          have HAD : Hid (l'.map (·.1) ++ [⟨e.name, e.fs ++ [fldC c]⟩] = (S.take (k + 1)).foldl addE []) := by
            show _ = _
            rw [HST.out]
            exact addE_old (l := l') (e := e) (fv := fv) (by rw [← hcon]; exact HLE.out) hnm
          have HFL : Hid (e.fs.length ≤ 4194304) := by
            have hm : e ∈ (S.take k).foldl addE [] := by rw [← HLE.out, hcon]; simp
            have h := fold_fs (S.take k) [] 0 (fun e he => by cases he) e hm
            show _ ≤ _
            simp at h; omega
          have y0 := cell_keep BA.out (Nat.le_refl _) y0'
          obtain ⟨k0, k1⟩ : (wr.alloc (.cells #[.string c.f, .int .i64 c.what] 99)).cell? ⟨wr.heap.size, 0, none⟩ = some (.string c.f) ∧ (wr.alloc (.cells #[.string c.f, .int .i64 c.what] 99)).cell? ⟨wr.heap.size, 1, none⟩ = some (.int .i64 c.what) := ⟨by simp, by simp⟩
          have HEM0 : Hid (∀ nq, EM w ((wr.alloc (.cells #[.string c.f, .int .i64 c.what] 99)).drewN nq) (.slice (some ⟨kg, 0, none⟩) S.length kc) S (.slice (some ⟨g0, 0, none⟩) (l'.length + 1) oc) l' e fv) := fun nq => by
            have h : EM w wr (.slice (some ⟨kg, 0, none⟩) S.length kc) S (.slice (some ⟨g0, 0, none⟩) (l'.length + 1) oc) l' e fv := ⟨HE0.out.1, HE0.out.2, by rw [← hlen]; exact HPC.out⟩
            exact h.call (below_drewN BA.out nq)
          have hw2 : IntKind.i64.wrap ((l'.length : Int) + 1 - 1) = (l'.length : Int) := by rw [IntKind.wrap_i64]; omega
          have hx2 : (l'.length : Int) < (l'.length : Int) + 1 := by omega
          rw [hlen] at hll
          rw [hlen]
          clear hnm HLE HPC y1' yf' hcp0 hcm0 hw0 hx1
          go_upto_region 6 with fail
          go_quiet (fail)
          obtain ⟨w3, hw3⟩ : ∃ w3, w3 = (wr.alloc (.cells #[.string c.f, .int .i64 c.what] 99)).drewN nq := ⟨_, rfl⟩
          have HEM : Hid (EM w w3 (.slice (some ⟨kg, 0, none⟩) S.length kc) S (.slice (some ⟨g0, 0, none⟩) (l'.length + 1) oc) l' e fv) := by rw [hw3]; exact HEM0.out nq
          have X3 : w3.heap[wr.heap.size]? = some (.cells #[.string c.f, .int .i64 c.what] 99) := by rw [hw3]; exact XA.out
          rw [← hw3]
          clear hw3 HEM0 BA XA HPP y0 k0 k1
          obtain ⟨g, rfl⟩ : ∃ g, g = g0 := ⟨_, rfl⟩
          obtain ⟨cap, rfl⟩ : ∃ cap, cap = oc := ⟨_, rfl⟩
          have hz23 : wr.heap.size < w3.heap.size := (Array.getElem?_eq_some_iff.1 X3).1
          have HFB : Hid (∀ j, fv.ownBlock = some j → j < w3.heap.size) := own_lt (HEM.out.ents.flds (e, fv) (by simp))
          have HM3 : Hid (MapIs w3 b n S) := HM.out.kept (row := none) ⟨HEM.out.below.os, HEM.out.below.tape, HEM.out.below.output, HEM.out.below.size, fun j hj _ => HEM.out.below.block j hj⟩ (by simp)
          have hlk : (Instr.lookup 95 (.map (some b)) (.agg #[.string c.f, .int .i64 c.what]) false).run Tryz.prog w3 = .ok (.agg #[.int .i64 c.what, .int .i64 c.num, .string c.v]) w3 := by
            have h := HM3.out.lookup c HQ.out.1
            rw [HQ.out.2] at h
            exact h
          obtain ⟨p0, p1⟩ : w3.cell? ⟨wr.heap.size, 0, none⟩ = some (.string c.f) ∧ w3.cell? ⟨wr.heap.size, 1, none⟩ = some (.int .i64 c.what) := by simp [World.cell?, X3]
          go_wp2_with fail
          refine (clone_any c.v _ hcv).mono ?_
          rintro e5 w5 ⟨rfl, hb5⟩
          have X5 : w5.heap[w3.heap.size]? = some (.cells #[.int .i64 c.what, .int .i64 c.num, .string c.v] 92) := (hb5.block _ (by simp)).trans (heap_newF w3 _)
          have hb35 : Below w3.heap.size w3 w5 := below_step ((Below.refl _ _).alloc (Nat.le_refl _) _) hb5
          have hz5 : w3.heap.size < w5.heap.size := (Array.getElem?_eq_some_iff.1 X5).1
          obtain ⟨q0, q1, q2⟩ : w5.cell? ⟨w3.heap.size, 0, none⟩ = some (.int .i64 c.what) ∧ w5.cell? ⟨w3.heap.size, 1, none⟩ = some (.int .i64 c.num) ∧ w5.cell? ⟨w3.heap.size, 2, none⟩ = some (.string c.v) := by simp [World.cell?, X5]
          have qf : w5.frozen? ⟨w3.heap.size, 2, none⟩ = false := by simp [World.frozen?, X5]
          have HE6 : Hid (EM w (w5.setCell ⟨w3.heap.size, 2, none⟩ (.string c.v)) (.slice (some ⟨kg, 0, none⟩) S.length kc) S (.slice (some ⟨g, 0, none⟩) (l'.length + 1) cap) l' e fv) := HEM.out.call (below_set hb35 _ _ (Nat.le_refl _) _)
          have X6 : Hid ((w5.setCell ⟨w3.heap.size, 2, none⟩ (.string c.v)).heap[w3.heap.size]? = some (.cells #[.int .i64 c.what, .int .i64 c.num, .string c.v] 92) ∧ w3.heap.size < (w5.setCell ⟨w3.heap.size, 2, none⟩ (.string c.v)).heap.size) := by
            refine ⟨?_, by simpa using hz5⟩
            rw [setCell_eq_setRow _ _ _ _ _ _ _ X5]; exact setRow_heap _ _ _ _ _ _ X5
          have hL0 : (0 : Int) ≤ (l'.length : Int) := by omega
          have hL1 : (l'.length : Int) < (l'.length : Int) + 1 := by omega
          have hw1 : IntKind.i64.wrap ((l'.length : Int) + 1 - 1) = (l'.length : Int) := by rw [IntKind.wrap_i64]; omega
          clear hlk p0 p1 X3 hb5 hb35 HEM HM3
          go_upto_region 11 with fail
          generalize w5.setCell ⟨w3.heap.size, 2, none⟩ (.string c.v) = w6 at *
          clear q0 q1 q2 qf X5 hz5
          generalize w3.heap.size = fb at *
          obtain ⟨q0, q1, q2⟩ : w6.cell? ⟨fb, 0, none⟩ = some (.int .i64 c.what) ∧ w6.cell? ⟨fb, 1, none⟩ = some (.int .i64 c.num) ∧ w6.cell? ⟨fb, 2, none⟩ = some (.string c.v) := by simp [World.cell?, X6.out.1]
          obtain ⟨g', cap', hgo, y0, y1, yf, hcp, hcm⟩ := HE6.out.ents.last
          injection hgo with hgo1 hgo2 hgo3
          injection hgo1 with hgo1
          injection hgo1 with hgo1
          subst hgo1 hgo3
          have hfl := HE6.out.ents.flds (e, fv) (by simp)
          have hgz : g < w6.heap.size := lt_of_cell y0
          have HFO : Hid ((w6.alloc (.cells #[.int .i64 c.what, .int .i64 c.num, .string c.v] 92)).ownsRow w.heap.size 92 3 fv e.fs.length (fldRows e.fs)) := hfl.alloc _
          have HNW : Hid (∀ (j : Nat) (u : Value), (fldRow (fldC c))[j]? = some u → (w6.alloc (.cells #[.int .i64 c.what, .int .i64 c.num, .string c.v] 92)).cell? ((⟨w6.heap.size, 0, none⟩ : Addr).add j) = some u) := cell_three_new w6 _ _ _ _
          have HWZ : Hid (w.heap.size ≤ (w6.alloc (.cells #[.int .i64 c.what, .int .i64 c.num, .string c.v] 92)).heap.size) := by
            have := HE6.out.below.size
            show w.heap.size ≤ _
            simp; omega
          have HGF : Hid (fb ≠ g) := fun ee => own_other HE6.out.ents.row X6.out.1 (by decide) (by rw [ee]; rfl)
          have HCL : Hid (∀ wx : World, (w6.alloc (.cells #[.int .i64 c.what, .int .i64 c.num, .string c.v] 92)).grownBy wx fv.ownBlock → wx.cell? ⟨g, l'.length * 2 + 1, none⟩ = some fv ∧ wx.frozen? ⟨g, l'.length * 2 + 1, none⟩ = false ∧ wx.heap[fb]? = some (.cells #[.int .i64 c.what, .int .i64 c.num, .string c.v] 92)) := fun wx hgx => by
            have hg1 : wx.heap[g]? = w6.heap[g]? := (hgx.block g (by simp; omega) (own_apart hfl HE6.out.ents.row (by decide) g rfl)).trans (Below.heap_alloc _ _ _ hgz)
            have hf1 : wx.heap[fb]? = some (.cells #[.int .i64 c.what, .int .i64 c.num, .string c.v] 92) := (hgx.block fb (by have := X6.out.2; simp; omega) (fun ee => by have := HFB.out fb ee.symm; omega)).trans ((Below.heap_alloc _ _ _ X6.out.2).trans X6.out.1)
            exact ⟨(World.cell?_of_block (a := ⟨g, l'.length * 2 + 1, none⟩) hg1).trans y1, (World.frozen?_of_block (a := ⟨g, l'.length * 2 + 1, none⟩) hg1).trans yf, hf1⟩
          have hAL : Below w6.heap.size w6 (w6.alloc (.cells #[.int .i64 c.what, .int .i64 c.num, .string c.v] 92)) := (Below.refl _ _).alloc (Nat.le_refl _) _
          have HSA : Hid ((w6.alloc (.cells #[.int .i64 c.what, .int .i64 c.num, .string c.v] 92)).cell? ⟨fb, 0, none⟩ = some (.int .i64 c.what) ∧ (w6.alloc (.cells #[.int .i64 c.what, .int .i64 c.num, .string c.v] 92)).cell? ⟨fb, 1, none⟩ = some (.int .i64 c.num) ∧ (w6.alloc (.cells #[.int .i64 c.what, .int .i64 c.num, .string c.v] 92)).cell? ⟨fb, 2, none⟩ = some (.string c.v)) := ⟨cell_keep hAL (Nat.le_refl _) q0, cell_keep hAL (Nat.le_refl _) q1, cell_keep hAL (Nat.le_refl _) q2⟩
          clear hAL
          refine wp_region_noPanic ?_
          refine wp_region_held_drew (S := fun w' => w'.cell? ⟨fb, 0, none⟩ = some (.int .i64 c.what) ∧ w'.cell? ⟨fb, 1, none⟩ = some (.int .i64 c.num) ∧ w'.cell? ⟨fb, 2, none⟩ = some (.string c.v)) (by kernel_rfl) ?_ (fun hHeld => ?_)
          · exact ⟨q0, q1, q2⟩
          refine wpAnyH_take (i := 0) (v := ?_) rfl (by kernel_rfl) (by kernel_rfl) (by kernel_rfl) (fun _ _ _ h => h) (Or.inl ⟨by rfl, ?_⟩) (by assumption) ?_
          rotate_left
          · intro w hSw; (try dsimp only at hSw); go_simp; try with_reducible rfl
          simp only [Act.put, List.setIfInBounds_toArray, List.set_cons_zero, List.set_cons_succ, List.getElem_toArray, List.getElem_cons_succ, List.getElem_cons_zero]
          refine wpAnyH_take (i := 1) (v := ?_) rfl (by kernel_rfl) (by kernel_rfl) (by kernel_rfl) (fun _ _ _ h => h) (Or.inl ⟨by rfl, ?_⟩) (by assumption) ?_
          rotate_left
          · intro w hSw; (try dsimp only at hSw); go_simp; try with_reducible rfl
          simp only [Act.put, List.setIfInBounds_toArray, List.set_cons_zero, List.set_cons_succ, List.getElem_toArray, List.getElem_cons_succ, List.getElem_cons_zero]
          refine wpAnyH_take (i := 2) (v := ?_) rfl (by kernel_rfl) (by kernel_rfl) (by kernel_rfl) (fun _ _ _ h => h) (Or.inl ⟨by rfl, ?_⟩) (by assumption) ?_
          rotate_left
          · intro w hSw; (try dsimp only at hSw); go_simp; try with_reducible rfl
          simp only [Act.put, List.setIfInBounds_toArray, List.set_cons_zero, List.set_cons_succ, List.getElem_toArray, List.getElem_cons_succ, List.getElem_cons_zero]
          refine wpAnyH_take (i := 3) (v := ?_) rfl (by kernel_rfl) (by kernel_rfl) (by kernel_rfl) (fun _ _ _ h => h) (Or.inl ⟨by rfl, ?_⟩) (by assumption) ?_
          rotate_left
          · intro w hSw; (try dsimp only at hSw); go_simp; try with_reducible rfl
          simp only [Act.put, List.setIfInBounds_toArray, List.set_cons_zero, List.set_cons_succ, List.getElem_toArray, List.getElem_cons_succ, List.getElem_cons_zero]
          refine wpAnyH_take (i := 5) (v := ?_) rfl (by kernel_rfl) (by kernel_rfl) (by kernel_rfl) (fun _ _ _ h => h) (Or.inl ⟨by rfl, ?_⟩) (by assumption) ?_
          rotate_left
          · intro w hSw; (try dsimp only at hSw); go_simp; try with_reducible rfl
          simp only [Act.put, List.setIfInBounds_toArray, List.set_cons_zero, List.set_cons_succ, List.getElem_toArray, List.getElem_cons_succ, List.getElem_cons_zero]
          refine wpAnyH_ready (rs := [4, 6]) (by kernel_rfl) (by simp) ?_
          refine AllReadyH.cons rfl (fun K hK => ?_) (AllReadyH.cons rfl (fun K hK => ?_) AllReadyH.nil)
          · go_simp
            refine hK.out _ _ ⟨q0, q1, q2⟩ (fun hHeld4 => ?_)
            clear hK K
            refine wpAnyH_ready (rs := [6]) (by kernel_rfl) (by simp) ?_
            refine AllReadyH.cons rfl (fun K hK => ?_) AllReadyH.nil
            go_simp
            refine hK.out _ _ HSA.out (fun hHeld6 => ?_)
            clear hK K
            refine wpAnyH_ready (rs := [7]) (by kernel_rfl) (by simp) ?_
            refine AllReadyH.cons rfl (fun K hK => ?_) AllReadyH.nil
            refine step_append_lies _ rfl _ _ 86 rfl w.heap.size 92 j0 (.agg #[.int .i64 0, .int .i64 0, .string ByteArray.empty]) 3 32 Tryz.underlying86 hj jz0 jz1 jz2 rfl (by decide) fv e.fs.length (fldRows e.fs) rfl HFO.out ⟨w6.heap.size, 0, none⟩ 1 1 (fldRow (fldC c)) rfl rfl HNW.out (fun x hx => by simp [fldRow] at hx; rcases hx with rfl | rfl | rfl <;> rfl) (by decide) (by unfold maxLen; have := HFL.out; omega) (by have := HFL.out; omega) HWZ.out (w6.heap.size + 1) (by simp) ?_
            intro fg fcap w7 hown7 hg7 hat7 hlt7
            have HG7 : Hid ((w6.alloc (.cells #[.int .i64 c.what, .int .i64 c.num, .string c.v] 92)).grownBy w7 fv.ownBlock) := ⟨hg7.os, hg7.tape, hg7.output, hg7.size, hg7.block⟩
            have HNX : Hid (EL w (w7.setCell ⟨g, l'.length * 2 + 1, none⟩ (.slice (some ⟨fg, 0, none⟩) (e.fs.length + 1) fcap)) (.slice (some ⟨kg, 0, none⟩) S.length kc) S (.slice (some ⟨g, 0, none⟩) (l'.length + 1) cap) (k + 1)) := HE6.out.next hown7 HG7.out hat7 (Nat.le_succ _) HAD.out
            have hq7 := HCL.out w7 HG7.out
            have x1 := hq7.1
            have xf := hq7.2.1
            have HS7 : Hid (w7.cell? ⟨fb, 0, none⟩ = some (.int .i64 c.what) ∧ w7.cell? ⟨fb, 1, none⟩ = some (.int .i64 c.num) ∧ w7.cell? ⟨fb, 2, none⟩ = some (.string c.v)) := by
              have h := hq7.2.2
              show _ ∧ _ ∧ _
              simp [World.cell?, h]
            have HS8 : Hid ((w7.setCell ⟨g, l'.length * 2 + 1, none⟩ (.slice (some ⟨fg, 0, none⟩) (e.fs.length + 1) fcap)).cell? ⟨fb, 0, none⟩ = some (.int .i64 c.what) ∧ (w7.setCell ⟨g, l'.length * 2 + 1, none⟩ (.slice (some ⟨fg, 0, none⟩) (e.fs.length + 1) fcap)).cell? ⟨fb, 1, none⟩ = some (.int .i64 c.num) ∧ (w7.setCell ⟨g, l'.length * 2 + 1, none⟩ (.slice (some ⟨fg, 0, none⟩) (e.fs.length + 1) fcap)).cell? ⟨fb, 2, none⟩ = some (.string c.v)) := by
              have h := (Below.heap_setCell w7 ⟨g, l'.length * 2 + 1, none⟩ (.slice (some ⟨fg, 0, none⟩) (e.fs.length + 1) fcap) fb HGF.out).trans hq7.2.2
              show _ ∧ _ ∧ _
              simp only [World.cell?, h]
              exact ⟨rfl, rfl, rfl⟩
            clear hq7
            refine hK.out _ _ HS7.out (fun hHeld7 => ?_)
            clear hK K
            refine wpAnyH_take (i := 8) (v := ?_) rfl (by kernel_rfl) (by kernel_rfl) (by kernel_rfl) (fun _ _ _ h => h) (Or.inl ⟨by rfl, ?_⟩) (by assumption) ?_
            rotate_left
            · intro w hSw; (try dsimp only at hSw); go_simp; try with_reducible rfl
            simp only [Act.put, List.setIfInBounds_toArray, List.set_cons_zero, List.set_cons_succ, List.getElem_toArray, List.getElem_cons_succ, List.getElem_cons_zero]
            refine wpAnyH_take (i := 9) (v := ?_) rfl (by kernel_rfl) (by kernel_rfl) (by kernel_rfl) (fun _ _ _ h => h) (Or.inl ⟨by rfl, ?_⟩) (by assumption) ?_
            rotate_left
            · intro w hSw; (try dsimp only at hSw); go_simp; try with_reducible rfl
            simp only [Act.put, List.setIfInBounds_toArray, List.set_cons_zero, List.set_cons_succ, List.getElem_toArray, List.getElem_cons_succ, List.getElem_cons_zero]
            refine wpAnyH_ready (rs := [10]) (by kernel_rfl) (by simp) ?_
            refine AllReadyH.cons rfl (fun K hK => ?_) AllReadyH.nil
            go_simp
            refine hK.out _ _ HS8.out (fun hHeld9 => ?_)
            clear hK K
            refine wpAnyH_done (by kernel_rfl) ?_ _
            refine NoPanic.normal ?_
            go_wp2
            exact ⟨⟨k + 1, by omega, by go_num, HNX.out⟩, by simp [intOf]; omega⟩
          · go_simp
            refine hK.out _ _ HSA.out (fun hHeld4 => ?_)
            clear hK K
            refine wpAnyH_ready (rs := [4]) (by kernel_rfl) (by simp) ?_
            refine AllReadyH.cons rfl (fun K hK => ?_) AllReadyH.nil
            go_simp
            refine hK.out _ _ HSA.out (fun hHeld6 => ?_)
            clear hK K
            refine wpAnyH_ready (rs := [7]) (by kernel_rfl) (by simp) ?_
            refine AllReadyH.cons rfl (fun K hK => ?_) AllReadyH.nil
            refine step_append_lies _ rfl _ _ 86 rfl w.heap.size 92 j0 (.agg #[.int .i64 0, .int .i64 0, .string ByteArray.empty]) 3 32 Tryz.underlying86 hj jz0 jz1 jz2 rfl (by decide) fv e.fs.length (fldRows e.fs) rfl HFO.out ⟨w6.heap.size, 0, none⟩ 1 1 (fldRow (fldC c)) rfl rfl HNW.out (fun x hx => by simp [fldRow] at hx; rcases hx with rfl | rfl | rfl <;> rfl) (by decide) (by unfold maxLen; have := HFL.out; omega) (by have := HFL.out; omega) HWZ.out (w6.heap.size + 1) (by simp) ?_
            intro fg fcap w7 hown7 hg7 hat7 hlt7
            have HG7 : Hid ((w6.alloc (.cells #[.int .i64 c.what, .int .i64 c.num, .string c.v] 92)).grownBy w7 fv.ownBlock) := ⟨hg7.os, hg7.tape, hg7.output, hg7.size, hg7.block⟩
            have HNX : Hid (EL w (w7.setCell ⟨g, l'.length * 2 + 1, none⟩ (.slice (some ⟨fg, 0, none⟩) (e.fs.length + 1) fcap)) (.slice (some ⟨kg, 0, none⟩) S.length kc) S (.slice (some ⟨g, 0, none⟩) (l'.length + 1) cap) (k + 1)) := HE6.out.next hown7 HG7.out hat7 (Nat.le_succ _) HAD.out
            have hq7 := HCL.out w7 HG7.out
            have x1 := hq7.1
            have xf := hq7.2.1
            have HS7 : Hid (w7.cell? ⟨fb, 0, none⟩ = some (.int .i64 c.what) ∧ w7.cell? ⟨fb, 1, none⟩ = some (.int .i64 c.num) ∧ w7.cell? ⟨fb, 2, none⟩ = some (.string c.v)) := by
              have h := hq7.2.2
              show _ ∧ _ ∧ _
              simp [World.cell?, h]
            have HS8 : Hid ((w7.setCell ⟨g, l'.length * 2 + 1, none⟩ (.slice (some ⟨fg, 0, none⟩) (e.fs.length + 1) fcap)).cell? ⟨fb, 0, none⟩ = some (.int .i64 c.what) ∧ (w7.setCell ⟨g, l'.length * 2 + 1, none⟩ (.slice (some ⟨fg, 0, none⟩) (e.fs.length + 1) fcap)).cell? ⟨fb, 1, none⟩ = some (.int .i64 c.num) ∧ (w7.setCell ⟨g, l'.length * 2 + 1, none⟩ (.slice (some ⟨fg, 0, none⟩) (e.fs.length + 1) fcap)).cell? ⟨fb, 2, none⟩ = some (.string c.v)) := by
              have h := (Below.heap_setCell w7 ⟨g, l'.length * 2 + 1, none⟩ (.slice (some ⟨fg, 0, none⟩) (e.fs.length + 1) fcap) fb HGF.out).trans hq7.2.2
              show _ ∧ _ ∧ _
              simp only [World.cell?, h]
              exact ⟨rfl, rfl, rfl⟩
            clear hq7
            refine hK.out _ _ HS7.out (fun hHeld7 => ?_)
            clear hK K
            refine wpAnyH_take (i := 8) (v := ?_) rfl (by kernel_rfl) (by kernel_rfl) (by kernel_rfl) (fun _ _ _ h => h) (Or.inl ⟨by rfl, ?_⟩) (by assumption) ?_
            rotate_left
            · intro w hSw; (try dsimp only at hSw); go_simp; try with_reducible rfl
            simp only [Act.put, List.setIfInBounds_toArray, List.set_cons_zero, List.set_cons_succ, List.getElem_toArray, List.getElem_cons_succ, List.getElem_cons_zero]
            refine wpAnyH_take (i := 9) (v := ?_) rfl (by kernel_rfl) (by kernel_rfl) (by kernel_rfl) (fun _ _ _ h => h) (Or.inl ⟨by rfl, ?_⟩) (by assumption) ?_
            rotate_left
            · intro w hSw; (try dsimp only at hSw); go_simp; try with_reducible rfl
            simp only [Act.put, List.setIfInBounds_toArray, List.set_cons_zero, List.set_cons_succ, List.getElem_toArray, List.getElem_cons_succ, List.getElem_cons_zero]
            refine wpAnyH_ready (rs := [10]) (by kernel_rfl) (by simp) ?_
            refine AllReadyH.cons rfl (fun K hK => ?_) AllReadyH.nil
            go_simp
            refine hK.out _ _ HS8.out (fun hHeld9 => ?_)
            clear hK K
            refine wpAnyH_done (by kernel_rfl) ?_ _
            refine NoPanic.normal ?_
            go_wp2
            exact ⟨⟨k + 1, by omega, by go_num, HNX.out⟩, by simp [intOf]; omega⟩
        · have hq : (e.name.toList == c.f.toList) = false := str_ne hnm
          have hneg : decide ((l'.length : Int) < 0) = false := by simp
          have HAD : Hid (l.map (·.1) ++ [⟨c.f, [] ++ [fldC c]⟩] = (S.take (k + 1)).foldl addE []) := by
            show _ = _
            rw [HST.out]
            exact addE_fresh HLE.out fun e' he => by
              rw [← HLE.out, hcon, List.map_append] at he
              simp at he
              rw [← he]; exact hnm
          have y0 := cell_keep BA.out (Nat.le_refl _) y0'
          obtain ⟨k0, k1⟩ : (wr.alloc (.cells #[.string c.f, .int .i64 c.what] 99)).cell? ⟨wr.heap.size, 0, none⟩ = some (.string c.f) ∧ (wr.alloc (.cells #[.string c.f, .int .i64 c.what] 99)).cell? ⟨wr.heap.size, 1, none⟩ = some (.int .i64 c.what) := ⟨by simp, by simp⟩
          clear hnm HLE HPC y1' yf' hcp0 hcm0 hcon hlen hgo2
          go_upto_region 6 with fail
          clear hw0
          go_quiet (fail)
          go_wp2_with fail
          refine (clone_any c.f _ hcs).mono ?_
          rintro e1 w2 ⟨rfl, hb2'⟩
          have hb2 : Below wr.heap.size wr w2 := below_step BA.out ⟨hb2'.os, hb2'.tape, hb2'.output, hb2'.size, hb2'.block⟩
          have X2 : w2.heap[wr.heap.size]? = some (.cells #[.string c.f, .int .i64 c.what] 99) := (hb2'.block _ (by simp)).trans XA.out
          have ho2 := HPP.out.keep hb2
          have hzw2 := (below_step HE0.out.1 hb2).size
          have HNW2 : Hid (∀ (j : Nat) (u : Value), [Value.string c.f, .slice none 0 0][j]? = some u → (w2.alloc (.cells #[.string c.f, .slice none 0 0] 88)).cell? ((⟨w2.heap.size, 0, none⟩ : Addr).add j) = some u) := cell_two_new w2 _ _ _
          go_upto_region 8 with (at_builtin; go_loud (refine wpList_append_lies _ rfl _ _ 32 rfl w.heap.size 88 i0 (.agg #[.string ByteArray.empty, .slice none 0 0]) 2 40 Tryz.underlying32 hi hz0 hz1 hz2 rfl (by decide) _ l.length (pairRows l) rfl (ho2.row.alloc _) ⟨w2.heap.size, 0, none⟩ 1 1 [.string c.f, .slice none 0 0] rfl rfl HNW2.out (fun x hx => by simp at hx; rcases hx with rfl | rfl <;> rfl) (by decide) (by unfold maxLen; omega) (by omega) (by simp; omega) _ rfl ?_); intro g cap w3 hown3 hg3 hat3 hlt3)
          have hz23 : wr.heap.size < w2.heap.size := (Array.getElem?_eq_some_iff.1 X2).1
          have X3 : w3.heap[wr.heap.size]? = some (.cells #[.string c.f, .int .i64 c.what] 99) := (hg3.block _ (by simp; omega) (own_other ho2.row X2 (by decide))).trans ((Below.heap_alloc _ _ _ hz23).trans X2)
          have HEM0 : Hid (EM w w3 (.slice (some ⟨kg, 0, none⟩) S.length kc) S (.slice (some ⟨g, 0, none⟩) (l.length + 1) cap) l ⟨c.f, []⟩ (.slice none 0 0)) := EM.push (below_step HE0.out.1 hb2) (ownsRow_keep HE0.out.2 hb2) ho2 hown3 hg3
          obtain ⟨q, HQQ⟩ : ∃ q : Ent × Value, Hid (EM w w3 (.slice (some ⟨kg, 0, none⟩) S.length kc) S (.slice (some ⟨g, 0, none⟩) (l.length + 1) cap) l q.1 q.2 ∧ l.map (·.1) ++ [⟨q.1.name, q.1.fs ++ [fldC c]⟩] = (S.take (k + 1)).foldl addE [] ∧ q.1.fs.length ≤ 4194304) := ⟨(⟨c.f, []⟩, .slice none 0 0), HEM0.out, HAD.out, by simp⟩
          clear hown3 hg3 hat3 hlt3 hb2 X2 ho2 HNW2 BA XA HPP HEM0 HAD
          obtain ⟨e, fv⟩ := q
          obtain ⟨l', hl'⟩ : ∃ l' : List EntV, l' = l := ⟨_, rfl⟩
          rw [← hl'] at HQQ hll
          simp only [← hl']
          clear hl'
          have HEM : Hid (EM w w3 (.slice (some ⟨kg, 0, none⟩) S.length kc) S (.slice (some ⟨g, 0, none⟩) (l'.length + 1) cap) l' e fv) := HQQ.out.1
          have HAD : Hid (l'.map (·.1) ++ [⟨e.name, e.fs ++ [fldC c]⟩] = (S.take (k + 1)).foldl addE []) := HQQ.out.2.1
          have HFL : Hid (e.fs.length ≤ 4194304) := HQQ.out.2.2
          clear HQQ
          have HFB : Hid (∀ j, fv.ownBlock = some j → j < w3.heap.size) := own_lt (HEM.out.ents.flds (e, fv) (by simp))
          have HM3 : Hid (MapIs w3 b n S) := HM.out.kept (row := none) ⟨HEM.out.below.os, HEM.out.below.tape, HEM.out.below.output, HEM.out.below.size, fun j hj _ => HEM.out.below.block j hj⟩ (by simp)
          have hlk : (Instr.lookup 95 (.map (some b)) (.agg #[.string c.f, .int .i64 c.what]) false).run Tryz.prog w3 = .ok (.agg #[.int .i64 c.what, .int .i64 c.num, .string c.v]) w3 := by
            have h := HM3.out.lookup c HQ.out.1
            rw [HQ.out.2] at h
            exact h
          obtain ⟨p0, p1⟩ : w3.cell? ⟨wr.heap.size, 0, none⟩ = some (.string c.f) ∧ w3.cell? ⟨wr.heap.size, 1, none⟩ = some (.int .i64 c.what) := by simp [World.cell?, X3]
          go_wp2_with fail
          refine (clone_any c.v _ hcv).mono ?_
          rintro e5 w5 ⟨rfl, hb5⟩
          have X5 : w5.heap[w3.heap.size]? = some (.cells #[.int .i64 c.what, .int .i64 c.num, .string c.v] 92) := (hb5.block _ (by simp)).trans (heap_newF w3 _)
          have hb35 : Below w3.heap.size w3 w5 := below_step ((Below.refl _ _).alloc (Nat.le_refl _) _) hb5
          have hz5 : w3.heap.size < w5.heap.size := (Array.getElem?_eq_some_iff.1 X5).1
          obtain ⟨q0, q1, q2⟩ : w5.cell? ⟨w3.heap.size, 0, none⟩ = some (.int .i64 c.what) ∧ w5.cell? ⟨w3.heap.size, 1, none⟩ = some (.int .i64 c.num) ∧ w5.cell? ⟨w3.heap.size, 2, none⟩ = some (.string c.v) := by simp [World.cell?, X5]
          have qf : w5.frozen? ⟨w3.heap.size, 2, none⟩ = false := by simp [World.frozen?, X5]
          have HE6 : Hid (EM w (w5.setCell ⟨w3.heap.size, 2, none⟩ (.string c.v)) (.slice (some ⟨kg, 0, none⟩) S.length kc) S (.slice (some ⟨g, 0, none⟩) (l'.length + 1) cap) l' e fv) := HEM.out.call (below_set hb35 _ _ (Nat.le_refl _) _)
          have X6 : Hid ((w5.setCell ⟨w3.heap.size, 2, none⟩ (.string c.v)).heap[w3.heap.size]? = some (.cells #[.int .i64 c.what, .int .i64 c.num, .string c.v] 92) ∧ w3.heap.size < (w5.setCell ⟨w3.heap.size, 2, none⟩ (.string c.v)).heap.size) := by
            refine ⟨?_, by simpa using hz5⟩
            rw [setCell_eq_setRow _ _ _ _ _ _ _ X5]; exact setRow_heap _ _ _ _ _ _ X5
          have hL0 : (0 : Int) ≤ (l'.length : Int) := by omega
          have hL1 : (l'.length : Int) < (l'.length : Int) + 1 := by omega
          have hw1 : IntKind.i64.wrap ((l'.length : Int) + 1 - 1) = (l'.length : Int) := by rw [IntKind.wrap_i64]; omega
          clear hlk p0 p1 X3 hb5 hb35 HEM HM3
          go_upto_region 11 with fail
          generalize w5.setCell ⟨w3.heap.size, 2, none⟩ (.string c.v) = w6 at *
          clear q0 q1 q2 qf X5 hz5
          generalize w3.heap.size = fb at *
          obtain ⟨q0, q1, q2⟩ : w6.cell? ⟨fb, 0, none⟩ = some (.int .i64 c.what) ∧ w6.cell? ⟨fb, 1, none⟩ = some (.int .i64 c.num) ∧ w6.cell? ⟨fb, 2, none⟩ = some (.string c.v) := by simp [World.cell?, X6.out.1]
          obtain ⟨g', cap', hgo, y0, y1, yf, hcp, hcm⟩ := HE6.out.ents.last
          injection hgo with hgo1 hgo2 hgo3
          injection hgo1 with hgo1
          injection hgo1 with hgo1
          subst hgo1 hgo3
          have hfl := HE6.out.ents.flds (e, fv) (by simp)
          have hgz : g < w6.heap.size := lt_of_cell y0
          have HFO : Hid ((w6.alloc (.cells #[.int .i64 c.what, .int .i64 c.num, .string c.v] 92)).ownsRow w.heap.size 92 3 fv e.fs.length (fldRows e.fs)) := hfl.alloc _
          have HNW : Hid (∀ (j : Nat) (u : Value), (fldRow (fldC c))[j]? = some u → (w6.alloc (.cells #[.int .i64 c.what, .int .i64 c.num, .string c.v] 92)).cell? ((⟨w6.heap.size, 0, none⟩ : Addr).add j) = some u) := cell_three_new w6 _ _ _ _
          have HWZ : Hid (w.heap.size ≤ (w6.alloc (.cells #[.int .i64 c.what, .int .i64 c.num, .string c.v] 92)).heap.size) := by
            have := HE6.out.below.size
            show w.heap.size ≤ _
            simp; omega
          have HGF : Hid (fb ≠ g) := fun ee => own_other HE6.out.ents.row X6.out.1 (by decide) (by rw [ee]; rfl)
          have HCL : Hid (∀ wx : World, (w6.alloc (.cells #[.int .i64 c.what, .int .i64 c.num, .string c.v] 92)).grownBy wx fv.ownBlock → wx.cell? ⟨g, l'.length * 2 + 1, none⟩ = some fv ∧ wx.frozen? ⟨g, l'.length * 2 + 1, none⟩ = false ∧ wx.heap[fb]? = some (.cells #[.int .i64 c.what, .int .i64 c.num, .string c.v] 92)) := fun wx hgx => by
            have hg1 : wx.heap[g]? = w6.heap[g]? := (hgx.block g (by simp; omega) (own_apart hfl HE6.out.ents.row (by decide) g rfl)).trans (Below.heap_alloc _ _ _ hgz)
            have hf1 : wx.heap[fb]? = some (.cells #[.int .i64 c.what, .int .i64 c.num, .string c.v] 92) := (hgx.block fb (by have := X6.out.2; simp; omega) (fun ee => by have := HFB.out fb ee.symm; omega)).trans ((Below.heap_alloc _ _ _ X6.out.2).trans X6.out.1)
            exact ⟨(World.cell?_of_block (a := ⟨g, l'.length * 2 + 1, none⟩) hg1).trans y1, (World.frozen?_of_block (a := ⟨g, l'.length * 2 + 1, none⟩) hg1).trans yf, hf1⟩
          have hAL : Below w6.heap.size w6 (w6.alloc (.cells #[.int .i64 c.what, .int .i64 c.num, .string c.v] 92)) := (Below.refl _ _).alloc (Nat.le_refl _) _
          have HSA : Hid ((w6.alloc (.cells #[.int .i64 c.what, .int .i64 c.num, .string c.v] 92)).cell? ⟨fb, 0, none⟩ = some (.int .i64 c.what) ∧ (w6.alloc (.cells #[.int .i64 c.what, .int .i64 c.num, .string c.v] 92)).cell? ⟨fb, 1, none⟩ = some (.int .i64 c.num) ∧ (w6.alloc (.cells #[.int .i64 c.what, .int .i64 c.num, .string c.v] 92)).cell? ⟨fb, 2, none⟩ = some (.string c.v)) := ⟨cell_keep hAL (Nat.le_refl _) q0, cell_keep hAL (Nat.le_refl _) q1, cell_keep hAL (Nat.le_refl _) q2⟩
          clear hAL
          refine wp_region_noPanic ?_
          refine wp_region_held_drew (S := fun w' => w'.cell? ⟨fb, 0, none⟩ = some (.int .i64 c.what) ∧ w'.cell? ⟨fb, 1, none⟩ = some (.int .i64 c.num) ∧ w'.cell? ⟨fb, 2, none⟩ = some (.string c.v)) (by kernel_rfl) ?_ (fun hHeld => ?_)
          · exact ⟨q0, q1, q2⟩
          refine wpAnyH_take (i := 0) (v := ?_) rfl (by kernel_rfl) (by kernel_rfl) (by kernel_rfl) (fun _ _ _ h => h) (Or.inl ⟨by rfl, ?_⟩) (by assumption) ?_
          rotate_left
          · intro w hSw; (try dsimp only at hSw); go_simp; try with_reducible rfl
          simp only [Act.put, List.setIfInBounds_toArray, List.set_cons_zero, List.set_cons_succ, List.getElem_toArray, List.getElem_cons_succ, List.getElem_cons_zero]
          refine wpAnyH_take (i := 1) (v := ?_) rfl (by kernel_rfl) (by kernel_rfl) (by kernel_rfl) (fun _ _ _ h => h) (Or.inl ⟨by rfl, ?_⟩) (by assumption) ?_
          rotate_left
          · intro w hSw; (try dsimp only at hSw); go_simp; try with_reducible rfl
          simp only [Act.put, List.setIfInBounds_toArray, List.set_cons_zero, List.set_cons_succ, List.getElem_toArray, List.getElem_cons_succ, List.getElem_cons_zero]
          refine wpAnyH_take (i := 2) (v := ?_) rfl (by kernel_rfl) (by kernel_rfl) (by kernel_rfl) (fun _ _ _ h => h) (Or.inl ⟨by rfl, ?_⟩) (by assumption) ?_
          rotate_left
          · intro w hSw; (try dsimp only at hSw); go_simp; try with_reducible rfl
          simp only [Act.put, List.setIfInBounds_toArray, List.set_cons_zero, List.set_cons_succ, List.getElem_toArray, List.getElem_cons_succ, List.getElem_cons_zero]
          refine wpAnyH_take (i := 3) (v := ?_) rfl (by kernel_rfl) (by kernel_rfl) (by kernel_rfl) (fun _ _ _ h => h) (Or.inl ⟨by rfl, ?_⟩) (by assumption) ?_
          rotate_left
          · intro w hSw; (try dsimp only at hSw); go_simp; try with_reducible rfl
          simp only [Act.put, List.setIfInBounds_toArray, List.set_cons_zero, List.set_cons_succ, List.getElem_toArray, List.getElem_cons_succ, List.getElem_cons_zero]
          refine wpAnyH_take (i := 5) (v := ?_) rfl (by kernel_rfl) (by kernel_rfl) (by kernel_rfl) (fun _ _ _ h => h) (Or.inl ⟨by rfl, ?_⟩) (by assumption) ?_
          rotate_left
          · intro w hSw; (try dsimp only at hSw); go_simp; try with_reducible rfl
          simp only [Act.put, List.setIfInBounds_toArray, List.set_cons_zero, List.set_cons_succ, List.getElem_toArray, List.getElem_cons_succ, List.getElem_cons_zero]
          refine wpAnyH_ready (rs := [4, 6]) (by kernel_rfl) (by simp) ?_
          refine AllReadyH.cons rfl (fun K hK => ?_) (AllReadyH.cons rfl (fun K hK => ?_) AllReadyH.nil)
          · go_simp
            refine hK.out _ _ ⟨q0, q1, q2⟩ (fun hHeld4 => ?_)
            clear hK K
            refine wpAnyH_ready (rs := [6]) (by kernel_rfl) (by simp) ?_
            refine AllReadyH.cons rfl (fun K hK => ?_) AllReadyH.nil
            go_simp
            refine hK.out _ _ HSA.out (fun hHeld6 => ?_)
            clear hK K
            refine wpAnyH_ready (rs := [7]) (by kernel_rfl) (by simp) ?_
            refine AllReadyH.cons rfl (fun K hK => ?_) AllReadyH.nil
            refine step_append_lies _ rfl _ _ 86 rfl w.heap.size 92 j0 (.agg #[.int .i64 0, .int .i64 0, .string ByteArray.empty]) 3 32 Tryz.underlying86 hj jz0 jz1 jz2 rfl (by decide) fv e.fs.length (fldRows e.fs) rfl HFO.out ⟨w6.heap.size, 0, none⟩ 1 1 (fldRow (fldC c)) rfl rfl HNW.out (fun x hx => by simp [fldRow] at hx; rcases hx with rfl | rfl | rfl <;> rfl) (by decide) (by unfold maxLen; have := HFL.out; omega) (by have := HFL.out; omega) HWZ.out (w6.heap.size + 1) (by simp) ?_
            intro fg fcap w7 hown7 hg7 hat7 hlt7
            have HG7 : Hid ((w6.alloc (.cells #[.int .i64 c.what, .int .i64 c.num, .string c.v] 92)).grownBy w7 fv.ownBlock) := ⟨hg7.os, hg7.tape, hg7.output, hg7.size, hg7.block⟩
            have HNX : Hid (EL w (w7.setCell ⟨g, l'.length * 2 + 1, none⟩ (.slice (some ⟨fg, 0, none⟩) (e.fs.length + 1) fcap)) (.slice (some ⟨kg, 0, none⟩) S.length kc) S (.slice (some ⟨g, 0, none⟩) (l'.length + 1) cap) (k + 1)) := HE6.out.next hown7 HG7.out hat7 (Nat.le_succ _) HAD.out
            have hq7 := HCL.out w7 HG7.out
            have x1 := hq7.1
            have xf := hq7.2.1
            have HS7 : Hid (w7.cell? ⟨fb, 0, none⟩ = some (.int .i64 c.what) ∧ w7.cell? ⟨fb, 1, none⟩ = some (.int .i64 c.num) ∧ w7.cell? ⟨fb, 2, none⟩ = some (.string c.v)) := by
              have h := hq7.2.2
              show _ ∧ _ ∧ _
              simp [World.cell?, h]
            have HS8 : Hid ((w7.setCell ⟨g, l'.length * 2 + 1, none⟩ (.slice (some ⟨fg, 0, none⟩) (e.fs.length + 1) fcap)).cell? ⟨fb, 0, none⟩ = some (.int .i64 c.what) ∧ (w7.setCell ⟨g, l'.length * 2 + 1, none⟩ (.slice (some ⟨fg, 0, none⟩) (e.fs.length + 1) fcap)).cell? ⟨fb, 1, none⟩ = some (.int .i64 c.num) ∧ (w7.setCell ⟨g, l'.length * 2 + 1, none⟩ (.slice (some ⟨fg, 0, none⟩) (e.fs.length + 1) fcap)).cell? ⟨fb, 2, none⟩ = some (.string c.v)) := by
              have h := (Below.heap_setCell w7 ⟨g, l'.length * 2 + 1, none⟩ (.slice (some ⟨fg, 0, none⟩) (e.fs.length + 1) fcap) fb HGF.out).trans hq7.2.2
              show _ ∧ _ ∧ _
              simp only [World.cell?, h]
              exact ⟨rfl, rfl, rfl⟩
            clear hq7
            refine hK.out _ _ HS7.out (fun hHeld7 => ?_)
            clear hK K
            refine wpAnyH_take (i := 8) (v := ?_) rfl (by kernel_rfl) (by kernel_rfl) (by kernel_rfl) (fun _ _ _ h => h) (Or.inl ⟨by rfl, ?_⟩) (by assumption) ?_
            rotate_left
            · intro w hSw; (try dsimp only at hSw); go_simp; try with_reducible rfl
            simp only [Act.put, List.setIfInBounds_toArray, List.set_cons_zero, List.set_cons_succ, List.getElem_toArray, List.getElem_cons_succ, List.getElem_cons_zero]
            refine wpAnyH_take (i := 9) (v := ?_) rfl (by kernel_rfl) (by kernel_rfl) (by kernel_rfl) (fun _ _ _ h => h) (Or.inl ⟨by rfl, ?_⟩) (by assumption) ?_
            rotate_left
            · intro w hSw; (try dsimp only at hSw); go_simp; try with_reducible rfl
            simp only [Act.put, List.setIfInBounds_toArray, List.set_cons_zero, List.set_cons_succ, List.getElem_toArray, List.getElem_cons_succ, List.getElem_cons_zero]
            refine wpAnyH_ready (rs := [10]) (by kernel_rfl) (by simp) ?_
            refine AllReadyH.cons rfl (fun K hK => ?_) AllReadyH.nil
            go_simp
            refine hK.out _ _ HS8.out (fun hHeld9 => ?_)
            clear hK K
            refine wpAnyH_done (by kernel_rfl) ?_ _
            refine NoPanic.normal ?_
            go_wp2
            exact ⟨⟨k + 1, by omega, by go_num, HNX.out⟩, by simp [intOf]; omega⟩
          · go_simp
            refine hK.out _ _ HSA.out (fun hHeld4 => ?_)
            clear hK K
            refine wpAnyH_ready (rs := [4]) (by kernel_rfl) (by simp) ?_
            refine AllReadyH.cons rfl (fun K hK => ?_) AllReadyH.nil
            go_simp
            refine hK.out _ _ HSA.out (fun hHeld6 => ?_)
            clear hK K
            refine wpAnyH_ready (rs := [7]) (by kernel_rfl) (by simp) ?_
            refine AllReadyH.cons rfl (fun K hK => ?_) AllReadyH.nil
            refine step_append_lies _ rfl _ _ 86 rfl w.heap.size 92 j0 (.agg #[.int .i64 0, .int .i64 0, .string ByteArray.empty]) 3 32 Tryz.underlying86 hj jz0 jz1 jz2 rfl (by decide) fv e.fs.length (fldRows e.fs) rfl HFO.out ⟨w6.heap.size, 0, none⟩ 1 1 (fldRow (fldC c)) rfl rfl HNW.out (fun x hx => by simp [fldRow] at hx; rcases hx with rfl | rfl | rfl <;> rfl) (by decide) (by unfold maxLen; have := HFL.out; omega) (by have := HFL.out; omega) HWZ.out (w6.heap.size + 1) (by simp) ?_
            intro fg fcap w7 hown7 hg7 hat7 hlt7
            have HG7 : Hid ((w6.alloc (.cells #[.int .i64 c.what, .int .i64 c.num, .string c.v] 92)).grownBy w7 fv.ownBlock) := ⟨hg7.os, hg7.tape, hg7.output, hg7.size, hg7.block⟩
            have HNX : Hid (EL w (w7.setCell ⟨g, l'.length * 2 + 1, none⟩ (.slice (some ⟨fg, 0, none⟩) (e.fs.length + 1) fcap)) (.slice (some ⟨kg, 0, none⟩) S.length kc) S (.slice (some ⟨g, 0, none⟩) (l'.length + 1) cap) (k + 1)) := HE6.out.next hown7 HG7.out hat7 (Nat.le_succ _) HAD.out
            have hq7 := HCL.out w7 HG7.out
            have x1 := hq7.1
            have xf := hq7.2.1
            have HS7 : Hid (w7.cell? ⟨fb, 0, none⟩ = some (.int .i64 c.what) ∧ w7.cell? ⟨fb, 1, none⟩ = some (.int .i64 c.num) ∧ w7.cell? ⟨fb, 2, none⟩ = some (.string c.v)) := by
              have h := hq7.2.2
              show _ ∧ _ ∧ _
              simp [World.cell?, h]
            have HS8 : Hid ((w7.setCell ⟨g, l'.length * 2 + 1, none⟩ (.slice (some ⟨fg, 0, none⟩) (e.fs.length + 1) fcap)).cell? ⟨fb, 0, none⟩ = some (.int .i64 c.what) ∧ (w7.setCell ⟨g, l'.length * 2 + 1, none⟩ (.slice (some ⟨fg, 0, none⟩) (e.fs.length + 1) fcap)).cell? ⟨fb, 1, none⟩ = some (.int .i64 c.num) ∧ (w7.setCell ⟨g, l'.length * 2 + 1, none⟩ (.slice (some ⟨fg, 0, none⟩) (e.fs.length + 1) fcap)).cell? ⟨fb, 2, none⟩ = some (.string c.v)) := by
              have h := (Below.heap_setCell w7 ⟨g, l'.length * 2 + 1, none⟩ (.slice (some ⟨fg, 0, none⟩) (e.fs.length + 1) fcap) fb HGF.out).trans hq7.2.2
              show _ ∧ _ ∧ _
              simp only [World.cell?, h]
              exact ⟨rfl, rfl, rfl⟩
            clear hq7
            refine hK.out _ _ HS7.out (fun hHeld7 => ?_)
            clear hK K
            refine wpAnyH_take (i := 8) (v := ?_) rfl (by kernel_rfl) (by kernel_rfl) (by kernel_rfl) (fun _ _ _ h => h) (Or.inl ⟨by rfl, ?_⟩) (by assumption) ?_
            rotate_left
            · intro w hSw; (try dsimp only at hSw); go_simp; try with_reducible rfl
            simp only [Act.put, List.setIfInBounds_toArray, List.set_cons_zero, List.set_cons_succ, List.getElem_toArray, List.getElem_cons_succ, List.getElem_cons_zero]
            refine wpAnyH_take (i := 9) (v := ?_) rfl (by kernel_rfl) (by kernel_rfl) (by kernel_rfl) (fun _ _ _ h => h) (Or.inl ⟨by rfl, ?_⟩) (by assumption) ?_
            rotate_left
            · intro w hSw; (try dsimp only at hSw); go_simp; try with_reducible rfl
            simp only [Act.put, List.setIfInBounds_toArray, List.set_cons_zero, List.set_cons_succ, List.getElem_toArray, List.getElem_cons_succ, List.getElem_cons_zero]
            refine wpAnyH_ready (rs := [10]) (by kernel_rfl) (by simp) ?_
            refine AllReadyH.cons rfl (fun K hK => ?_) AllReadyH.nil
            go_simp
            refine hK.out _ _ HS8.out (fun hHeld9 => ?_)
            clear hK K
            refine wpAnyH_done (by kernel_rfl) ?_ _
            refine NoPanic.normal ?_
            go_wp2
            exact ⟨⟨k + 1, by omega, by go_num, HNX.out⟩, by simp [intOf]; omega⟩
    · have HFE : Hid (EntsNew wr w.heap.size u3 (S.foldl addE []) ∧ Below w.heap.size w wr) := by
        have h := hEL.ents
        rw [List.take_of_length_le (by omega)] at h
        exact ⟨h, hEL.below⟩
      clear hEL
      go_wp2
      go_ret
      exact ⟨_, rfl, HFE.out⟩
end Go.Proofs.YtibpkhmiahamcaaGreatDoor

/-
  impl: a book is made.
-/
namespace Go.Proofs.YtibpkhmiahamcaaGreatDoor
open Go.RowKit
set_option linter.unusedSimpArgs false
set_option linter.unusedVariables false

theorem PairsNew.far {w w' : World} {B r : Nat} {o : Value} {l : List EntV} (h : PairsNew w B o l) (hg : w.grownBy w' (some r)) (hr : r < B) : PairsNew w' B o l :=
  ⟨ownsRow_farF h.row hg (fun k hk e => by have := own_ge h.row k hk; injection e; omega), fun p hp => ownsRow_farF (h.flds p hp) hg (fun k hk e => by have := own_ge (h.flds p hp) k hk; injection e; omega), h.apart⟩
theorem own_mono {w : World} {base base' : Nat} {e : TypeId} {size : Nat} {v : Value} {n : Nat} {xs : List Value} (h : w.ownsRow base e size v n xs) (hb : base' ≤ base) : w.ownsRow base' e size v n xs := by
  refine ⟨h.1, ?_⟩
  rcases h.2 with h2 | ⟨g, cap, cur, hv, hg, rest⟩
  · exact .inl h2
  · exact .inr ⟨g, cap, cur, hv, by omega, rest⟩
theorem PairsNew.mono {w : World} {B B' : Nat} {o : Value} {l : List EntV} (h : PairsNew w B o l) (hb : B' ≤ B) : PairsNew w B' o l := ⟨own_mono h.row hb, fun p hp => own_mono (h.flds p hp) hb, h.apart⟩
/-- A book of one's own, from lo on. -/
structure BookNew (lo : Nat) (w : World) (x y z : Value) (ks ps : List Tri) (es : List Ent) : Prop where
  k : w.ownsRow lo 72 3 x ks.length (triRows ks)
  p : w.ownsRow lo 75 3 y ps.length (triRows ps)
  e : EntsNew w lo z es
theorem BookNew.keep {lo : Nat} {w w' : World} {x y z : Value} {ks ps : List Tri} {es : List Ent} (h : BookNew lo w x y z ks ps es) (hb : Below w.heap.size w w') : BookNew lo w' x y z ks ps es := by
  obtain ⟨h1, h2, l, h3, h4⟩ := h
  exact ⟨ownsRow_keep h1 hb, ownsRow_keep h2 hb, l, h3, h4.keep hb⟩
theorem BookNew.far {lo r : Nat} {w w' : World} {x y z : Value} {ks ps : List Tri} {es : List Ent} (h : BookNew lo w x y z ks ps es) (hg : w.grownBy w' (some r)) (hr : r < lo) : BookNew lo w' x y z ks ps es := by
  obtain ⟨h1, h2, l, h3, h4⟩ := h
  exact ⟨ownsRow_farF h1 hg (fun k hk e => by have := own_ge h1 k hk; injection e; omega), ownsRow_farF h2 hg (fun k hk e => by have := own_ge h2 k hk; injection e; omega), l, h3, h4.far hg hr⟩
theorem BookNew.mono {lo lo' : Nat} {w : World} {x y z : Value} {ks ps : List Tri} {es : List Ent} (h : BookNew lo w x y z ks ps es) (hl : lo' ≤ lo) : BookNew lo' w x y z ks ps es := by
  obtain ⟨h1, h2, l, h3, h4⟩ := h
  exact ⟨own_mono h1 hl, own_mono h2 hl, l, h3, h4.mono hl⟩
theorem own_slice {w : World} {base : Nat} {e : TypeId} {size : Nat} {v : Value} {n : Nat} {xs : List Value} (h : w.ownsRow base e size v n xs) : ∃ a c, v = .slice a n c := by
  rcases h.2 with ⟨rfl, h0⟩ | ⟨g, cap, cur, rfl, _⟩
  · exact ⟨none, 0, by rw [h0]⟩
  · exact ⟨_, cap, rfl⟩

theorem put_fit {P : Chg → Prop} : ∀ (L S : List Chg), (∀ c ∈ S, P c) → (∀ c ∈ L, P c) → ∀ c ∈ L.foldl putC S, P c
  | [], S, hS, _ => hS
  | a :: L, S, hS, hL => put_fit L (putC S a) (fun c hc => by
      rcases putC_mem hc with rfl | hc
      · exact hL _ (by simp)
      · exact hS c hc) (fun c hc => hL c (by simp [hc]))
theorem putC_len : ∀ (S : List Chg) (c : Chg), (putC S c).length ≤ S.length + 1
  | [], c => Nat.le_refl _
  | a :: l, c => by
    have := putC_len l c
    unfold putC
    repeat' split
    all_goals simp only [List.length_cons]
    all_goals omega
theorem put_len : ∀ (L S : List Chg), (L.foldl putC S).length ≤ S.length + L.length
  | [], S => Nat.le_refl _
  | a :: L, S => by
    have h1 := put_len L (putC S a)
    have h2 := putC_len S a
    simp only [List.foldl_cons, List.length_cons]
    omega

theorem bookOf_own (vk vp vl : Value) (ks ps : List Tri) (Ls : List (List Chg)) (w : World) (hk : TrisAt w vk ks) (hp : TrisAt w vp ps) (lk : ks.length ≤ 1048575) (lp : ps.length ≤ 1048575) (sk : ∀ t ∈ ks, t.s.size ≤ 1048576) (sp : ∀ t ∈ ps, t.s.size ≤ 1048576)
    (hL : ListsAt w vl Ls) (hlen : Ls.flatten.length ≤ 4194304) (hLl : Ls.length ≤ 1048576) (hLe : ∀ L ∈ Ls, L.length ≤ 2097152) (hfit : ∀ L ∈ Ls, ∀ c ∈ L, KeyFit c ∧ 1 ≤ c.num) (hsm : ∀ L ∈ Ls, ∀ c ∈ L, c.f.size ≤ 1048576 ∧ c.v.size ≤ 1048576) :
    Calls Tryz.prog 25 #[.agg #[vk, vp], vl] w fun e w' => ∃ x y z, e = .returned (.agg #[x, y, z]) ∧ BookNew (w.heap.size + 3) w' x y z ks ps ((Ls.flatten.foldl putC []).foldl addE []) ∧ Below w.heap.size w w' := by
  have hvk : ∃ a n c, vk = .slice a n c := by obtain ⟨a, c, h, _⟩ := hk; exact ⟨_, _, _, h⟩
  have hvp : ∃ a n c, vp = .slice a n c := by obtain ⟨a, c, h, _⟩ := hp; exact ⟨_, _, _, h⟩
  have hall : ∀ c ∈ Ls.flatten, (KeyFit c ∧ 1 ≤ c.num) ∧ (c.f.size ≤ 1048576 ∧ c.v.size ≤ 1048576) := fun c hc => by
    obtain ⟨L, h1, h2⟩ := List.mem_flatten.1 hc
    exact ⟨hfit L h1 c h2, hsm L h1 c h2⟩
  have hS := put_fit (P := fun c => (KeyFit c ∧ 1 ≤ c.num) ∧ (c.f.size ≤ 1048576 ∧ c.v.size ≤ 1048576)) Ls.flatten [] (fun c h => by cases h) hall
  have hSl : (Ls.flatten.foldl putC []).length ≤ 4194304 := by
    have := put_len Ls.flatten []
    rw [List.length_nil, Nat.zero_add] at this
    omega
  refine (bookOf_any vk vp vl Ls w hvk hvp hL hlen hLl hLe hfit (fun x y z w2 => BookNew (w.heap.size + 3) w2 x y z ks ps ((Ls.flatten.foldl putC []).foldl addE []) ∧ Below w.heap.size w w2 ∧ w.heap.size + 2 < w2.heap.size) ?_).mono ?_
  · intro wx n hn hF
    have hz := hF.z
    refine (copyBase_any vk vp ks ps wx (hk.keep hF.below) (hp.keep hF.below) lk lp sk sp).mono ?_
    rintro e w1 ⟨a1, n1, c1, a2, n2, c2, rfl, ⟨o1, o2⟩, hb1⟩
    have hF1 := hF.call hb1
    refine ⟨a1, n1, c1, a2, n2, c2, rfl, ?_⟩
    refine (entriesOf_any (w.heap.size + 2) n _ w1 hF1.m (putAll_sorted _ List.Pairwise.nil) (fun c hc => (hS c hc).1.1) (fun c hc => (hS c hc).2) (by omega) hSl (by have := hF1.z; omega)).mono ?_
    rintro e w2 ⟨o, rfl, ⟨l, hl1, hl2⟩, hb2⟩
    obtain ⟨a3, c3, rfl⟩ := own_slice hl2.row
    have hz1 := hF1.z
    refine ⟨a3, _, c3, rfl, (hb2.block _ (by omega)).trans hF1.r, ⟨own_mono (ownsRow_keep o1 hb2) (by omega), own_mono (ownsRow_keep o2 hb2) (by omega), l, hl1, hl2.mono (by omega)⟩, below_step hF1.below hb2, by have := hb2.size; omega⟩
  · rintro e w' ⟨x, y, z, w2, rfl, ⟨hB, hb, hz⟩, rfl⟩
    exact ⟨x, y, z, rfl, hB.far (grown_rowF w2 (w.heap.size + 1) _) (by omega), below_setRow hb (by omega) _⟩
end Go.Proofs.YtibpkhmiahamcaaGreatDoor

/-
  impl: a change taken into a book.
-/
namespace Go.Proofs.YtibpkhmiahamcaaGreatDoor
open Go.RowKit
set_option linter.unusedSimpArgs false
set_option linter.unusedVariables false

def takeC (ks ps : List Tri) (es : List Ent) (c : Chg) : Int := bif bookB ks ps es then (bif fitB ks ps c then (bif decide (12 < (putE es c.f (fldC c)).length) then 3 else 0) else 2) else 1
def takeE (ks ps : List Tri) (es : List Ent) (c : Chg) : List Ent := bif bookB ks ps es then (bif fitB ks ps c then (bif decide (12 < (putE es c.f (fldC c)).length) then es else putE es c.f (fldC c)) else es) else []
def takeT (ks ps : List Tri) (es : List Ent) (l : List Tri) : List Tri := bif bookB ks ps es then l else []

theorem wf_small {n : Int} (h0 : 0 ≤ n) (h1 : n ≤ 1000000) : (Lit.int .i64 n).wf = true := by
  simp [Lit.wf, IntKind.min, IntKind.max, IntKind.signed, IntKind.bits]
  omega
theorem fit_what {ks ps : List Tri} {c : Chg} (h : fitB ks ps c = true) : 1 ≤ c.what ∧ c.what ≤ 5 := by
  simp only [fitB, Bool.and_eq_true] at h
  have h2 := h.2.2
  unfold valB2 at h2
  repeat' split at h2
  all_goals (first | omega | cases h2)
theorem fit_key {ks ps : List Tri} {c : Chg} (h : fitB ks ps c = true) : KeyFit c ∧ 1 ≤ c.num := by
  have hw := fit_what h
  simp only [fitB, Bool.and_eq_true] at h
  have h1 := h.1
  have h2 := h.2.1
  simp [inB] at h2
  unfold nameB inB at h1
  simp at h1
  exact ⟨⟨by unfold maxLen; omega, wf_small (by omega) (by omega)⟩, h2.1⟩
theorem book_fit {ks ps : List Tri} {es : List Ent} (h : bookB ks ps es = true) : ∀ c ∈ chgsOf es, fitB ks ps c = true := fun c hc => by
  obtain ⟨e, he, hc⟩ := List.mem_flatMap.1 hc
  obtain ⟨f, hf, rfl⟩ := List.mem_map.1 hc
  exact fields_fit (book_fields h he) hf
theorem book_ne {ks ps : List Tri} {es : List Ent} (h : bookB ks ps es = true) : ∀ e ∈ es, e.fs ≠ [] := fun e he hn => by
  have := book_fields h he
  simp [fieldsB, hn] at this
theorem kinds_size {ks ps : List Tri} {es : List Ent} (h : bookB ks ps es = true) : (∀ t ∈ ks, t.s.size ≤ 1048576) ∧ ∀ t ∈ ps, t.s.size ≤ 1048576 := by
  have nm : ∀ (l : List Tri) (m : Nat), namesB l m = true → ∀ t ∈ l, t.s.size ≤ 1048576 := fun l m hl t ht => by
    obtain ⟨i, hi, rfl⟩ := List.getElem_of_mem ht
    unfold namesB at hl
    rw [Bool.and_eq_true] at hl
    have h1 := allB_get hl.2 i hi
    rw [Bool.and_eq_true] at h1
    have h2 := h1.1
    have e0 : at' l i = l[i] := by simp [at', hi]
    rw [e0] at h2
    unfold nameB inB at h2
    simp at h2
    omega
  unfold bookB baseB at h
  simp only [Bool.and_eq_true] at h
  have hk := h.1.1
  have hp := h.1.2
  unfold kindsB at hk
  unfold pointsB at hp
  rw [Bool.and_eq_true] at hk hp
  exact ⟨nm ks 6 hk.1, nm ps 16 hp.1⟩
theorem kinds_len {ks ps : List Tri} {es : List Ent} (h : bookB ks ps es = true) : ks.length ≤ 1048575 ∧ ps.length ≤ 1048575 := by
  unfold bookB baseB at h
  simp only [Bool.and_eq_true] at h
  have hk := h.1.1
  have hp := h.1.2
  unfold kindsB at hk
  unfold pointsB at hp
  rw [Bool.and_eq_true] at hk hp
  have h1 := hk.1
  have h2 := hp.1
  unfold namesB at h1 h2
  rw [Bool.and_eq_true, decide_eq_true_eq] at h1 h2
  exact ⟨by omega, by omega⟩
theorem fold_self {ks ps : List Tri} {es : List Ent} (h : bookB ks ps es = true) : (([chgsOf es] : List (List Chg)).flatten.foldl putC []).foldl addE [] = es := by
  have e1 : ([chgsOf es] : List (List Chg)).flatten = chgsOf es := by simp
  rw [e1, putAll_self (book_sorted h)]
  exact grp_self (book_ne h) (book_apart h)
theorem chg_self (c : Chg) : chgOf c.f (fldC c) = c := rfl
theorem fold_one {ks ps : List Tri} {es : List Ent} (c : Chg) (h : bookB ks ps es = true) : (([chgsOf es, [c]] : List (List Chg)).flatten.foldl putC []).foldl addE [] = putE es c.f (fldC c) := by
  have e1 : ([chgsOf es, [c]] : List (List Chg)).flatten = chgsOf es ++ [c] := by simp
  rw [e1, List.foldl_append, putAll_self (book_sorted h)]
  have := put_entries c.f (fldC c) (book_names h) (book_ne h)
  rw [chg_self] at this
  exact this
theorem chgs_smallT {ks ps : List Tri} {es : List Ent} (h : BSmall ks ps es) : ∀ c ∈ chgsOf es, c.f.size ≤ 1048576 ∧ c.v.size ≤ 1048576 := fun c hc => by
  unfold chgsOf at hc
  rw [List.mem_flatMap] at hc
  obtain ⟨e, he, hc⟩ := hc
  rw [List.mem_map] at hc
  obtain ⟨f, hf, rfl⟩ := hc
  exact ⟨h.n e he, h.v e he f hf⟩

theorem lists_one {w : World} {B : Nat} {v : Value} {L : List Chg} {t : TypeId} (hb : w.heap[B]? = some (.cells #[v] t (0, 0))) (hv : ChgsAt w v L) : ListsAt w (.slice (some ⟨B, 0, none⟩) 1 1) [L] := by
  refine ⟨_, 1, rfl, Nat.le_refl _, by unfold maxLen; omega, fun i M hM => ?_⟩
  match i, hM with
  | 0, hM => simp at hM; subst hM; exact ⟨B, 0, v, rfl, by simp [World.cell?, hb], hv⟩
  | n + 1, hM => simp at hM
theorem lists_two {w : World} {B : Nat} {v u : Value} {L K : List Chg} {t : TypeId} (hb : w.heap[B]? = some (.cells #[v, u] t (0, 0))) (hv : ChgsAt w v L) (hu : ChgsAt w u K) : ListsAt w (.slice (some ⟨B, 0, none⟩) 2 2) [L, K] := by
  refine ⟨_, 2, rfl, Nat.le_refl _, by unfold maxLen; omega, fun i M hM => ?_⟩
  match i, hM with
  | 0, hM => simp at hM; subst hM; exact ⟨B, 0, v, rfl, by simp [World.cell?, hb], hv⟩
  | 1, hM => simp at hM; subst hM; exact ⟨B, 0, u, rfl, by simp [World.cell?, hb], hu⟩
  | n + 2, hM => simp at hM
theorem chgs_single {w : World} {B : Nat} {c : Chg} {t : TypeId} (hb : w.heap[B]? = some (.cells #[.string c.f, .int .i64 c.what, .int .i64 c.num, .string c.v] t (0, 0))) : ChgsAt w (.slice (some ⟨B, 0, none⟩) 1 1) [c] := by
  refine ⟨_, 1, rfl, Nat.le_refl _, by unfold maxLen; omega, fun i d hd => ?_⟩
  match i, hd with
  | 0, hd => simp at hd; subst hd; exact ⟨B, 0, rfl, by simp [World.cell?, hb], by simp [World.cell?, hb], by simp [World.cell?, hb], by simp [World.cell?, hb]⟩
  | n + 1, hd => simp at hd
/-- Three blocks of a call's own. -/
structure Blk3 (w wr : World) (X Y Z : Obj) : Prop where
  below : Below w.heap.size w wr
  b0 : wr.heap[w.heap.size]? = some X
  b1 : wr.heap[w.heap.size + 1]? = some Y
  b2 : wr.heap[w.heap.size + 1 + 1]? = some Z
theorem Blk3.z {w wr : World} {X Y Z : Obj} (h : Blk3 w wr X Y Z) : w.heap.size + 2 < wr.heap.size := (Array.getElem?_eq_some_iff.1 h.b2).1
theorem Blk3.call {w wr wy : World} {X Y Z : Obj} (h : Blk3 w wr X Y Z) (hb : Below wr.heap.size wr wy) : Blk3 w wy X Y Z := by
  have hz := h.z
  exact ⟨below_step h.below hb, (hb.block _ (by omega)).trans h.b0, (hb.block _ (by omega)).trans h.b1, (hb.block _ (by omega)).trans h.b2⟩
theorem Blk3.start (w : World) (X Y Z : Obj) : Blk3 w (((w.alloc X).alloc Y).alloc Z) X Y Z := by
  have s1 : (w.alloc X).heap.size = w.heap.size + 1 := by simp
  have s2 : ((w.alloc X).alloc Y).heap.size = w.heap.size + 1 + 1 := by simp
  have h1 := heap_newF w X
  have h2 := heap_newF (w.alloc X) Y
  have h3 := heap_newF ((w.alloc X).alloc Y) Z
  rw [s1] at h2
  rw [s2] at h3
  refine ⟨(((Below.refl _ _).alloc (Nat.le_refl _) _).alloc (by simp) _).alloc (by simp; omega) _, ?_, ?_, h3⟩
  · exact (Below.heap_alloc _ _ _ (by omega)).trans ((Below.heap_alloc _ _ _ (by omega)).trans h1)
  · exact (Below.heap_alloc _ _ _ (by omega)).trans h2
theorem BookNew.none (lo : Nat) (w : World) : BookNew lo w (.slice none 0 0) (.slice none 0 0) (.slice none 0 0) [] [] [] := ⟨⟨rfl, .inl ⟨rfl, rfl⟩⟩, ⟨rfl, .inl ⟨rfl, rfl⟩⟩, [], rfl, PairsNew.nil _ _⟩
theorem BookNew.slices {lo : Nat} {w : World} {x y z : Value} {ks ps : List Tri} {es : List Ent} (h : BookNew lo w x y z ks ps es) : ∃ a1 c1 a2 c2 a3 c3, x = .slice a1 ks.length c1 ∧ y = .slice a2 ps.length c2 ∧ z = .slice a3 es.length c3 := by
  obtain ⟨h1, h2, l, h3, h4⟩ := h
  obtain ⟨a1, c1, rfl⟩ := own_slice h1
  obtain ⟨a2, c2, rfl⟩ := own_slice h2
  obtain ⟨a3, c3, rfl⟩ := own_slice h4.row
  exact ⟨a1, c1, a2, c2, a3, c3, rfl, rfl, by rw [← h3, List.length_map]⟩

set_option maxHeartbeats 6400000 in
theorem planTake_any (vk vp ve : Value) (ks ps : List Tri) (es : List Ent) (c : Chg) (w : World) (hB : BookAt w vk vp ve ks ps es) (nB : BNames ks ps es) (sB : BSmall ks ps es) (hsz : sumN (fun e => e.fs.length) es ≤ 1048576) (hcf : c.f.size ≤ 1048576) (hcv : c.v.size ≤ 1048576) :
    Calls Tryz.prog 7 #[.agg #[vk, vp, ve], .agg #[.string c.f, .int .i64 c.what, .int .i64 c.num, .string c.v]] w fun e w' => ∃ x y z, e = .returned (.tuple #[.agg #[x, y, z], .int .i64 (takeC ks ps es c)]) ∧ BookNew w.heap.size w' x y z (takeT ks ps es ks) (takeT ks ps es ps) (takeE ks ps es c) ∧ Below w.heap.size w w' := by
  have HB : Hid (BookAt w vk vp ve ks ps es) := hB
  have NB : Hid (BNames ks ps es) := nB
  have SB : Hid (BSmall ks ps es) := sB
  have HCO : Hid (∀ wx : World, Below w.heap.size w wx → Calls Tryz.prog 24 #[.agg #[vk, vp, ve]] wx fun e w' => ∃ v, e = .returned v ∧ ChgsNew w' wx.heap.size v (chgsOf es) ∧ Below wx.heap.size wx w') := fun wx hx => changesOf_any vk vp ve es wx (hB.keep hx).e hsz sB.e
  have HFT : Hid (∀ wx : World, Below w.heap.size w wx → Calls Tryz.prog 19 #[.agg #[vk, vp], .agg #[.string c.f, .int .i64 c.what, .int .i64 c.num, .string c.v]] wx fun e w' => e = .returned (.bool (fitB ks ps c)) ∧ Below wx.heap.size wx w') := fun wx hx => changeFits_any _ _ ks ps c wx (hB.k.keep hx) (hB.p.keep hx) hcf hcv
  have HCL : Hid ((chgsOf es).length ≤ 1048576) := by
    show (chgsOf es).length ≤ 1048576
    rw [chgsOf_len]; exact hsz
  have HBO : Hid (bookB ks ps es = true → ∀ (wx : World) (vl : Value) (Ls : List (List Chg)), Below w.heap.size w wx → ListsAt wx vl Ls → Ls.length ≤ 2 → Ls.flatten.length ≤ 1048577 → (∀ L ∈ Ls, L.length ≤ 1048576) → (∀ L ∈ Ls, ∀ c' ∈ L, fitB ks ps c' = true ∧ (c'.f.size ≤ 1048576 ∧ c'.v.size ≤ 1048576)) → Calls Tryz.prog 25 #[.agg #[vk, vp], vl] wx fun e w' => ∃ x y z, e = .returned (.agg #[x, y, z]) ∧ BookNew (wx.heap.size + 3) w' x y z ks ps ((Ls.flatten.foldl putC []).foldl addE []) ∧ Below wx.heap.size wx w') := fun hbb wx vl Ls hx hL h2 h3 h4 h5 =>
    bookOf_own vk vp vl ks ps Ls wx (hB.k.keep hx) (hB.p.keep hx) (kinds_len hbb).1 (kinds_len hbb).2 (kinds_size hbb).1 (kinds_size hbb).2 hL (by omega) (by omega) (fun L hL => by have := h4 L hL; omega) (fun L hL c' hc' => fit_key (h5 L hL c' hc').1) (fun L hL c' hc' => (h5 L hL c' hc').2)
  obtain ⟨⟨ak, ck, rfl, -, -, -⟩, ⟨ap, cp, rfl, -, -, -⟩, ⟨ae, ce, rfl, -, -, -⟩⟩ := hB
  clear nB sB
  go_enter Tryz.func7, Tryz.ntmps7
  have HX0 : Hid (Blk3 w _ _ _ _) := Blk3.start w (.cells #[.slice ak ks.length ck, .slice ap ps.length cp, .slice ae es.length ce] 34) (.cells #[.string c.f, .int .i64 c.what, .int .i64 c.num, .string c.v] 28) (.cells #[.slice none 0 0, .slice none 0 0, .slice none 0 0] 34)
  go_wp2_with fail
  refine (bookOk_any _ _ _ ks ps es _ (HB.out.keep HX0.out.below) NB.out SB.out).mono ?_
  rintro e w1 ⟨rfl, hb1⟩
  have HX1 : Hid (Blk3 w w1 (.cells #[.slice ak ks.length ck, .slice ap ps.length cp, .slice ae es.length ce] 34) (.cells #[.string c.f, .int .i64 c.what, .int .i64 c.num, .string c.v] 28) (.cells #[.slice none 0 0, .slice none 0 0, .slice none 0 0] 34)) := HX0.out.call hb1
  clear HX0 hb1
  obtain ⟨y0, y1, y2⟩ : w1.cell? ⟨w.heap.size, 0, none⟩ = some (.slice ak ks.length ck) ∧ w1.cell? ⟨w.heap.size, 1, none⟩ = some (.slice ap ps.length cp) ∧ w1.cell? ⟨w.heap.size, 2, none⟩ = some (.slice ae es.length ce) := by simp [World.cell?, HX1.out.b0]
  have hr1 := HX1.out.b2
  cases hbb : bookB ks ps es
  · have HE : Hid (takeC ks ps es c = 1 ∧ takeT ks ps es ks = [] ∧ takeT ks ps es ps = [] ∧ takeE ks ps es c = []) := by
      show _ ∧ _ ∧ _ ∧ _
      unfold takeC takeT takeE; rw [hbb]; exact ⟨rfl, rfl, rfl, rfl⟩
    clear hbb
    go_wp2_with (refine wpList_store_row rfl 34 _ _ rfl (w.heap.size + 1 + 1) #[.slice none 0 0, .slice none 0 0, .slice none 0 0] rfl rfl 34 _ hr1 (by kernel_rfl) rfl (by simp [Value.oneCell']) ?_)
    exact bodyPost_ret (v := .tuple #[.agg #[.slice none 0 0, .slice none 0 0, .slice none 0 0], .int .i64 1]) (by simp [results, Tryz.results7, go_sem, cell_setRow_same _ _ _ _ _ _ _ hr1]) rfl ⟨_, _, _, by rw [HE.out.1], by rw [HE.out.2.1, HE.out.2.2.1, HE.out.2.2.2]; exact BookNew.none _ _, below_setRow HX1.out.below (by omega) _⟩
  have HBB : Hid (bookB ks ps es = true) := hbb
  have HTK : Hid (takeT ks ps es ks = ks ∧ takeT ks ps es ps = ps) := by
    show _ ∧ _
    unfold takeT; rw [hbb]; exact ⟨rfl, rfl⟩
  clear hbb hr1
  go_wp2_with fail
  refine (HCO.out _ HX1.out.below).mono ?_
  rintro e w2 ⟨v, rfl, hv2, hb2⟩
  have HX2 : Hid (Blk3 w w2 (.cells #[.slice ak ks.length ck, .slice ap ps.length cp, .slice ae es.length ce] 34) (.cells #[.string c.f, .int .i64 c.what, .int .i64 c.num, .string c.v] 28) (.cells #[.slice none 0 0, .slice none 0 0, .slice none 0 0] 34)) := HX1.out.call hb2
  obtain ⟨va, vc, rfl⟩ := own_slice hv2
  have HV2 : Hid (ChgsAt w2 (.slice va (chgsOf es).length vc) (chgsOf es)) := hv2.at
  clear HX1 hb2 y0 y1 y2 hv2
  obtain ⟨y0, y1, y2⟩ : w2.cell? ⟨w.heap.size, 0, none⟩ = some (.slice ak ks.length ck) ∧ w2.cell? ⟨w.heap.size, 1, none⟩ = some (.slice ap ps.length cp) ∧ w2.cell? ⟨w.heap.size, 2, none⟩ = some (.slice ae es.length ce) := by simp [World.cell?, HX2.out.b0]
  obtain ⟨x0, x1, x2, x3⟩ : w2.cell? ⟨w.heap.size + 1, 0, none⟩ = some (.string c.f) ∧ w2.cell? ⟨w.heap.size + 1, 1, none⟩ = some (.int .i64 c.what) ∧ w2.cell? ⟨w.heap.size + 1, 2, none⟩ = some (.int .i64 c.num) ∧ w2.cell? ⟨w.heap.size + 1, 3, none⟩ = some (.string c.v) := by simp [World.cell?, HX2.out.b1]
  go_wp2_with fail
  refine (HFT.out _ HX2.out.below).mono ?_
  rintro e w3 ⟨rfl, hb3⟩
  have HX3 : Hid (Blk3 w w3 (.cells #[.slice ak ks.length ck, .slice ap ps.length cp, .slice ae es.length ce] 34) (.cells #[.string c.f, .int .i64 c.what, .int .i64 c.num, .string c.v] 28) (.cells #[.slice none 0 0, .slice none 0 0, .slice none 0 0] 34)) := HX2.out.call hb3
  have HV3 : Hid (ChgsAt w3 (.slice va (chgsOf es).length vc) (chgsOf es)) := HV2.out.keep hb3
  clear HX2 HV2 hb3 y0 y1 y2 x0 x1 x2 x3
  obtain ⟨y0, y1, y2⟩ : w3.cell? ⟨w.heap.size, 0, none⟩ = some (.slice ak ks.length ck) ∧ w3.cell? ⟨w.heap.size, 1, none⟩ = some (.slice ap ps.length cp) ∧ w3.cell? ⟨w.heap.size, 2, none⟩ = some (.slice ae es.length ce) := by simp [World.cell?, HX3.out.b0]
  obtain ⟨x0, x1, x2, x3⟩ : w3.cell? ⟨w.heap.size + 1, 0, none⟩ = some (.string c.f) ∧ w3.cell? ⟨w.heap.size + 1, 1, none⟩ = some (.int .i64 c.what) ∧ w3.cell? ⟨w.heap.size + 1, 2, none⟩ = some (.int .i64 c.num) ∧ w3.cell? ⟨w.heap.size + 1, 3, none⟩ = some (.string c.v) := by simp [World.cell?, HX3.out.b1]
  have HCS : Hid (∀ c' ∈ chgsOf es, fitB ks ps c' = true ∧ (c'.f.size ≤ 1048576 ∧ c'.v.size ≤ 1048576)) := fun c' h => ⟨book_fit HBB.out c' h, chgs_smallT SB.out c' h⟩
  have HONE : Hid (∀ wx : World, Blk3 w wx (.cells #[.slice ak ks.length ck, .slice ap ps.length cp, .slice ae es.length ce] 34) (.cells #[.string c.f, .int .i64 c.what, .int .i64 c.num, .string c.v] 28) (.cells #[.slice none 0 0, .slice none 0 0, .slice none 0 0] 34) → ChgsAt wx (.slice va (chgsOf es).length vc) (chgsOf es) → Calls Tryz.prog 25 #[.agg #[.slice ak ks.length ck, .slice ap ps.length cp], .slice (some ⟨wx.heap.size, 0, none⟩) 1 1] (wx.alloc (.cells #[.slice va (chgsOf es).length vc] 53)) fun e w' => ∃ x y z, e = .returned (.agg #[x, y, z]) ∧ BookNew w.heap.size w' x y z ks ps es ∧ Blk3 w w' (.cells #[.slice ak ks.length ck, .slice ap ps.length cp, .slice ae es.length ce] 34) (.cells #[.string c.f, .int .i64 c.what, .int .i64 c.num, .string c.v] 28) (.cells #[.slice none 0 0, .slice none 0 0, .slice none 0 0] 34) ∧ BookNew (w.heap.size + 3) w' x y z ks ps es) := fun wx hx hv => by
    have hz := hx.z
    have hal : Below wx.heap.size wx (wx.alloc (.cells #[.slice va (chgsOf es).length vc] 53)) := (Below.refl _ _).alloc (Nat.le_refl _) _
    refine (HBO.out HBB.out _ _ [chgsOf es] (below_step hx.below hal) (lists_one (heap_newF wx _) (hv.keep hal)) (by simp) (by have := HCL.out; simp; omega) (fun L h => by simp at h; subst h; exact HCL.out) (fun L h => by simp at h; subst h; exact HCS.out)).mono ?_
    rintro e w' ⟨x, y, z, rfl, hN, hb⟩
    rw [fold_self HBB.out] at hN
    have hs := hal.size
    exact ⟨x, y, z, rfl, hN.mono (by omega), (hx.call hal).call hb, hN.mono (by omega)⟩
  cases hff : fitB ks ps c
  · have HE : Hid (takeC ks ps es c = 2 ∧ takeE ks ps es c = es) := by
      show _ ∧ _
      unfold takeC takeE; rw [HBB.out, hff]; exact ⟨rfl, rfl⟩
    clear hff
    go_wp2_with fail
    refine (HONE.out w3 HX3.out HV3.out).mono ?_
    rintro e w4 ⟨x, y, z, rfl, hN, hX4, hN3⟩
    have hr4 := hX4.b2
    have HX4 : Hid (Below w.heap.size w w4 ∧ w.heap.size + 2 < w4.heap.size) := ⟨hX4.below, hX4.z⟩
    have HN4 : Hid (BookNew (w.heap.size + 3) w4 x y z ks ps es) := hN3
    obtain ⟨a1, c1, a2, c2, a3, c3, rfl, rfl, rfl⟩ := hN.slices
    clear hX4 hN hN3
    go_wp2_with (refine wpList_store_row rfl 34 _ _ rfl (w.heap.size + 1 + 1) #[.slice a1 ks.length c1, .slice a2 ps.length c2, .slice a3 es.length c3] rfl rfl 34 _ hr4 (by kernel_rfl) rfl (by simp [Value.oneCell']) ?_)
    exact bodyPost_ret (v := .tuple #[.agg #[.slice a1 ks.length c1, .slice a2 ps.length c2, .slice a3 es.length c3], .int .i64 2]) (by simp [results, Tryz.results7, go_sem, cell_setRow_same _ _ _ _ _ _ _ hr4]) rfl ⟨_, _, _, by rw [HE.out.1], by rw [HTK.out.1, HTK.out.2, HE.out.2]; exact (HN4.out.far (grown_rowF w4 (w.heap.size + 1 + 1) _) (by omega)).mono (by omega), below_setRow HX4.out.1 (by omega) _⟩
  · have HFF : Hid (fitB ks ps c = true) := hff
    clear hff
    have hal1 : Below w3.heap.size w3 (w3.alloc (.cells #[.string c.f, .int .i64 c.what, .int .i64 c.num, .string c.v] 28)) := (Below.refl _ _).alloc (Nat.le_refl _) _
    have hal2 : Below w3.heap.size w3 ((w3.alloc (.cells #[.string c.f, .int .i64 c.what, .int .i64 c.num, .string c.v] 28)).alloc (.cells #[.slice va (chgsOf es).length vc, .slice (some ⟨w3.heap.size, 0, none⟩) 1 1] 53)) := hal1.alloc hal1.size _
    have HTWO : Hid (Calls Tryz.prog 25 #[.agg #[.slice ak ks.length ck, .slice ap ps.length cp], .slice (some ⟨w3.heap.size + 1, 0, none⟩) 2 2] ((w3.alloc (.cells #[.string c.f, .int .i64 c.what, .int .i64 c.num, .string c.v] 28)).alloc (.cells #[.slice va (chgsOf es).length vc, .slice (some ⟨w3.heap.size, 0, none⟩) 1 1] 53)) fun e w' => ∃ x y z, e = .returned (.agg #[x, y, z]) ∧ BookNew (w.heap.size + 3) w' x y z ks ps (putE es c.f (fldC c)) ∧ Blk3 w w' (.cells #[.slice ak ks.length ck, .slice ap ps.length cp, .slice ae es.length ce] 34) (.cells #[.string c.f, .int .i64 c.what, .int .i64 c.num, .string c.v] 28) (.cells #[.slice none 0 0, .slice none 0 0, .slice none 0 0] 34) ∧ ChgsAt w' (.slice va (chgsOf es).length vc) (chgsOf es)) := by
      have hz := HX3.out.z
      have hb0 := heap_newF w3 (.cells #[.string c.f, .int .i64 c.what, .int .i64 c.num, .string c.v] 28)
      have hb1 := heap_newF (w3.alloc (.cells #[.string c.f, .int .i64 c.what, .int .i64 c.num, .string c.v] 28)) (.cells #[.slice va (chgsOf es).length vc, .slice (some ⟨w3.heap.size, 0, none⟩) 1 1] 53)
      rw [World.size_alloc] at hb1
      have hb0' := (Below.heap_alloc (w3.alloc (.cells #[.string c.f, .int .i64 c.what, .int .i64 c.num, .string c.v] 28)) (.cells #[.slice va (chgsOf es).length vc, .slice (some ⟨w3.heap.size, 0, none⟩) 1 1] 53) w3.heap.size (by simp)).trans hb0
      refine (HBO.out HBB.out _ _ [chgsOf es, [c]] (below_step HX3.out.below hal2) (lists_two hb1 (HV3.out.keep hal2) (chgs_single hb0')) (by simp) (by have := HCL.out; simp; omega) (fun L h => by simp at h; rcases h with rfl | rfl; exact HCL.out; simp) (fun L h => by simp at h; rcases h with rfl | rfl; exact HCS.out; exact fun c' h' => by simp at h'; subst h'; exact ⟨HFF.out, hcf, hcv⟩)).mono ?_
      rintro e w' ⟨x, y, z, rfl, hN, hb⟩
      rw [fold_one c HBB.out] at hN
      have hs := hal2.size
      exact ⟨x, y, z, rfl, hN.mono (by omega), (HX3.out.call hal2).call hb, (HV3.out.keep hal2).keep hb⟩
    clear hal1 hal2
    go_wp2_with fail
    refine HTWO.out.mono ?_
    rintro e w4 ⟨x, y, z, rfl, hN, hX4, hV4⟩
    have HX4 : Hid (Blk3 w w4 (.cells #[.slice ak ks.length ck, .slice ap ps.length cp, .slice ae es.length ce] 34) (.cells #[.string c.f, .int .i64 c.what, .int .i64 c.num, .string c.v] 28) (.cells #[.slice none 0 0, .slice none 0 0, .slice none 0 0] 34)) := hX4
    have HV4 : Hid (ChgsAt w4 (.slice va (chgsOf es).length vc) (chgsOf es)) := hV4
    have HN4 : Hid (BookNew (w.heap.size + 3) w4 x y z ks ps (putE es c.f (fldC c))) := hN
    obtain ⟨a1, c1, a2, c2, a3, c3, rfl, rfl, rfl⟩ := hN.slices
    have HC : Hid (takeC ks ps es c = (bif decide (12 < (putE es c.f (fldC c)).length) then 3 else 0) ∧ takeE ks ps es c = (bif decide (12 < (putE es c.f (fldC c)).length) then es else putE es c.f (fldC c))) := by
      show _ ∧ _
      unfold takeC takeE; rw [HBB.out, HFF.out]; exact ⟨rfl, rfl⟩
    clear hN hX4 hV4 HTWO HX3 HV3 y0 y1 y2 x0 x1 x2 x3
    obtain ⟨y0, y1, y2⟩ : w4.cell? ⟨w.heap.size, 0, none⟩ = some (.slice ak ks.length ck) ∧ w4.cell? ⟨w.heap.size, 1, none⟩ = some (.slice ap ps.length cp) ∧ w4.cell? ⟨w.heap.size, 2, none⟩ = some (.slice ae es.length ce) := by simp [World.cell?, HX4.out.b0]
    have hz4 : w.heap.size < w4.heap.size := by have := HX4.out.z; omega
    have hal : Below w4.heap.size w4 (w4.alloc (.cells #[.slice a1 ks.length c1, .slice a2 ps.length c2, .slice a3 (putE es c.f (fldC c)).length c3] 34)) := (Below.refl _ _).alloc (Nat.le_refl _) _
    have HX5 : Hid (Blk3 w _ _ _ _) := HX4.out.call hal
    have HV5 : Hid (ChgsAt (w4.alloc (.cells #[.slice a1 ks.length c1, .slice a2 ps.length c2, .slice a3 (putE es c.f (fldC c)).length c3] 34)) (.slice va (chgsOf es).length vc) (chgsOf es)) := HV4.out.keep hal
    have HN5 : Hid (BookNew (w.heap.size + 3) (w4.alloc (.cells #[.slice a1 ks.length c1, .slice a2 ps.length c2, .slice a3 (putE es c.f (fldC c)).length c3] 34)) (.slice a1 ks.length c1) (.slice a2 ps.length c2) (.slice a3 (putE es c.f (fldC c)).length c3) ks ps (putE es c.f (fldC c))) := HN4.out.keep hal
    have hr5 := HX5.out.b2
    clear hal HX4 HV4 HN4
    by_cases h12 : 12 < (putE es c.f (fldC c)).length
    · have h12' : (12 : Int) < ((putE es c.f (fldC c)).length : Int) := by omega
      have HE : Hid (takeC ks ps es c = 3 ∧ takeE ks ps es c = es) := by
        show _ ∧ _
        rw [HC.out.1, HC.out.2]; simp [h12]
      clear h12 HC
      have hone := HONE.out _ HX5.out HV5.out
      rw [World.size_alloc] at hone
      have HON5 := toHidF hone
      clear hone
      go_wp2_with fail
      refine HON5.out.mono ?_
      rintro e w6 ⟨x, y, z, rfl, hN, hX6, hN3⟩
      have hr6 := hX6.b2
      have HX6 : Hid (Below w.heap.size w w6 ∧ w.heap.size + 2 < w6.heap.size) := ⟨hX6.below, hX6.z⟩
      have HN6 : Hid (BookNew (w.heap.size + 3) w6 x y z ks ps es) := hN3
      obtain ⟨a4, c4, a5, c5, a6, c6, rfl, rfl, rfl⟩ := hN.slices
      clear hX6 hN hN3 hr5
      go_wp2_with (refine wpList_store_row rfl 34 _ _ rfl (w.heap.size + 1 + 1) #[.slice a4 ks.length c4, .slice a5 ps.length c5, .slice a6 es.length c6] rfl rfl 34 _ hr6 (by kernel_rfl) rfl (by simp [Value.oneCell']) ?_)
      exact bodyPost_ret (v := .tuple #[.agg #[.slice a4 ks.length c4, .slice a5 ps.length c5, .slice a6 es.length c6], .int .i64 3]) (by simp [results, Tryz.results7, go_sem, cell_setRow_same _ _ _ _ _ _ _ hr6]) rfl ⟨_, _, _, by rw [HE.out.1], by rw [HTK.out.1, HTK.out.2, HE.out.2]; exact (HN6.out.far (grown_rowF w6 (w.heap.size + 1 + 1) _) (by omega)).mono (by omega), below_setRow HX6.out.1 (by omega) _⟩
    · have h12' : ¬ (12 : Int) < ((putE es c.f (fldC c)).length : Int) := by omega
      have HE : Hid (takeC ks ps es c = 0 ∧ takeE ks ps es c = putE es c.f (fldC c)) := by
        show _ ∧ _
        rw [HC.out.1, HC.out.2]; simp [h12]
      clear h12 HC
      generalize putE es c.f (fldC c) = es' at *
      go_wp2_with (refine wpList_store_row rfl 34 _ _ rfl (w.heap.size + 1 + 1) #[.slice a1 ks.length c1, .slice a2 ps.length c2, .slice a3 es'.length c3] rfl rfl 34 _ hr5 (by kernel_rfl) rfl (by simp [Value.oneCell']) ?_)
      exact bodyPost_ret (v := .tuple #[.agg #[.slice a1 ks.length c1, .slice a2 ps.length c2, .slice a3 es'.length c3], .int .i64 0]) (by simp [results, Tryz.results7, go_sem, cell_setRow_same _ _ _ _ _ _ _ hr5]) rfl ⟨_, _, _, by rw [HE.out.1], by rw [HTK.out.1, HTK.out.2, HE.out.2]; exact (HN5.out.far (grown_rowF _ (w.heap.size + 1 + 1) _) (by omega)).mono (by omega), below_setRow HX5.out.below (by omega) _⟩
end Go.Proofs.YtibpkhmiahamcaaGreatDoor
