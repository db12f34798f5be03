/-
  For the proof of merge_holds: part 21 (Fld0, Bat, Bxs, Same, Mrg0).
-/
import Derived.Test.YtfjblenkcfdbiaaGreatRowMergeJ20
/-
  Fields put among others: plain facts; a row of one's own that is written in place.
-/
namespace Go.Proofs.YtfjblenkcfdbiaaGreat
open Go.RowKit
set_option linter.unusedSimpArgs false
set_option linter.unusedVariables false

theorem fat_succ (g : Fld) (l : List Fld) (i : Nat) : fat (g :: l) (i + 1) = fat l i := by simp [fat]
theorem putF_hit : ∀ (fs : List Fld) (f : Fld) (j : Nat), j < fs.length → (∀ i, i < j → (fat fs i).what < f.what) → (fat fs j).what = f.what → putF fs f = bif latF f (fat fs j) then fs.set j f else fs
  | [], f, j, hj, _, _ => by simp at hj
  | g :: l, f, 0, hj, hl, he => by
    have e0 : fat (g :: l) 0 = g := rfl
    rw [e0] at he ⊢
    rw [putF, if_neg (by omega), if_pos he]
    cases latF f g <;> rfl
  | g :: l, f, j + 1, hj, hl, he => by
    have h0 := hl 0 (by omega)
    have e0 : fat (g :: l) 0 = g := rfl
    rw [e0] at h0
    rw [fat_succ] at he ⊢
    rw [putF, if_pos h0, putF_hit l f j (by simpa using hj) (fun i hi => by have := hl (i + 1) (by omega); rwa [fat_succ] at this) he]
    cases latF f (fat l j) <;> rfl
theorem putF_in : ∀ (fs : List Fld) (f : Fld) (j : Nat), j ≤ fs.length → (∀ i, i < j → (fat fs i).what < f.what) → (j < fs.length → f.what < (fat fs j).what) → putF fs f = fs.take j ++ f :: fs.drop j
  | [], f, j, hj, _, _ => by
    have : j = 0 := by simpa using hj
    subst this; rfl
  | g :: l, f, 0, hj, hl, he => by
    have h0 := he (by simp)
    have e0 : fat (g :: l) 0 = g := rfl
    rw [e0] at h0
    rw [putF, if_neg (by omega), if_neg (by omega)]
    rfl
  | g :: l, f, j + 1, hj, hl, he => by
    have h0 := hl 0 (by omega)
    have e0 : fat (g :: l) 0 = g := rfl
    rw [e0] at h0
    rw [putF, if_pos h0, putF_in l f j (by simpa using hj) (fun i hi => by have := hl (i + 1) (by omega); rwa [fat_succ] at this) (fun hlt => by have := he (by simpa using hlt); rwa [fat_succ] at this)]
    rfl
theorem putF_len (fs : List Fld) (f : Fld) : (putF fs f).length ≤ fs.length + 1 := by
  induction fs with
  | nil => simp [putF]
  | cons g l ih =>
    rw [putF]
    split
    · simp; omega
    · split
      · split <;> simp
      · simp
theorem fldRows_app (a b : List Fld) : fldRows (a ++ b) = fldRows a ++ fldRows b := by simp [fldRows]
theorem fldRows_cons (a : Fld) (b : List Fld) : fldRows (a :: b) = fldRow a ++ fldRows b := by simp [fldRows]
theorem fldRows_set : ∀ (fs : List Fld) (f : Fld) (j : Nat), j < fs.length → fldRows (fs.set j f) = (((fldRows fs).set (j * 3) (.int .i64 f.what)).set (j * 3 + 1) (.int .i64 f.num)).set (j * 3 + 2) (.string f.v)
  | [], f, j, hj => by simp at hj
  | g :: l, f, 0, hj => by simp [fldRows, fldRow]
  | g :: l, f, j + 1, hj => by
    rw [List.set_cons_succ, fldRows_cons, fldRows_cons, fldRows_set l f j (by simpa using hj)]
    have h3 : (j + 1) * 3 = 3 + j * 3 := by omega
    have h4 : ∀ (x : List Value) (p : Nat) (v : Value), (fldRow g ++ x).set (3 + p) v = fldRow g ++ x.set p v := fun x p v => by
      rw [List.set_append_right _ _ (by simp [fldRow])]
      simp [fldRow]
    rw [h3, h4, Nat.add_assoc, h4, Nat.add_assoc, h4]
theorem own_set1 {w : World} {B : Nat} {e : TypeId} {size g n cap m : Nat} {xs : List Value} (h : w.ownsRow B e size (.slice (some ⟨g, 0, none⟩) n cap) m xs) (p : Nat) (v : Value) : (w.setCell ⟨g, p, none⟩ v).ownsRow B e size (.slice (some ⟨g, 0, none⟩) n cap) m (xs.set p v) := by
  obtain ⟨h1, h2⟩ := h
  rcases h2 with ⟨h2, _⟩ | ⟨g', cap', cur, hv, hB, hb, hn, hc, hs, ht⟩
  · cases h2
  · cases hv
    refine ⟨by simpa using h1, .inr ⟨g, cap, cur.setIfInBounds p v, rfl, hB, ?_, hn, hc, by simpa using hs, ?_⟩⟩
    · rw [setCell_eq_setRow _ _ _ _ _ _ _ hb]; exact setRow_heap _ _ _ _ _ _ hb
    · rw [Array.toList_setIfInBounds, List.take_set, ht]
theorem grownF_trans {w w1 w2 : World} {r : Option Nat} (h : w.grownBy w1 r) (k : w1.grownBy w2 r) : w.grownBy w2 r :=
  ⟨k.1.trans h.1, k.2.trans h.2, k.3.trans h.3, Nat.le_trans h.4 k.4, fun j hj hr => (k.5 j (Nat.lt_of_lt_of_le hj h.4) hr).trans (h.5 j hj hr)⟩
theorem grownF_below {w w' : World} (h : Below w.heap.size w w') (r : Option Nat) : w.grownBy w' r := ⟨h.1, h.2, h.3, h.4, fun k hk _ => h.5 k hk⟩
theorem own_fset {w : World} {lo g n cap : Nat} {fs : List Fld} {j : Nat} (f : Fld) (h : w.ownsRow lo 62 3 (.slice (some ⟨g, 0, none⟩) n cap) fs.length (fldRows fs)) (hj : j < fs.length) :
    (w.setCells g (j * 3) (fldRow f)).ownsRow lo 62 3 (.slice (some ⟨g, 0, none⟩) n cap) (fs.set j f).length (fldRows (fs.set j f)) ∧ w.grownBy (w.setCells g (j * 3) (fldRow f)) (some g) := by
  have e : w.setCells g (j * 3) (fldRow f) = ((w.setCell ⟨g, j * 3, none⟩ (.int .i64 f.what)).setCell ⟨g, j * 3 + 1, none⟩ (.int .i64 f.num)).setCell ⟨g, j * 3 + 2, none⟩ (.string f.v) := rfl
  rw [e]
  refine ⟨?_, grownF_trans (grownF_trans (grown_setF _ _ _ _) (grown_setF _ _ _ _)) (grown_setF _ _ _ _)⟩
  rw [fldRows_set fs f j hj, List.length_set]
  exact own_set1 (own_set1 (own_set1 h _ _) _ _) _ _
/-- A field of a row of one's own. -/
theorem own_fcells {w : World} {lo : Nat} {v : Value} {fs : List Fld} {j : Nat} (h : w.ownsRow lo 62 3 v fs.length (fldRows fs)) (hj : j < fs.length) :
    ∃ g cap, v = .slice (some ⟨g, 0, none⟩) fs.length cap ∧ lo ≤ g ∧ g < w.heap.size ∧ fs.length ≤ cap ∧ cap ≤ maxLen ∧ w.cell? ⟨g, j * 3, none⟩ = some (.int .i64 (fat fs j).what) ∧ w.cell? ⟨g, j * 3 + 1, none⟩ = some (.int .i64 (fat fs j).num) ∧ w.cell? ⟨g, j * 3 + 2, none⟩ = some (.string (fat fs j).v) ∧ w.there g (j * 3) 3 := by
  obtain ⟨h1, h2⟩ := h
  rcases h2 with ⟨_, h2⟩ | ⟨g, cap, cur, rfl, hB, hb, hn, hc, hs, ht⟩
  · omega
  · have hx : ∀ r, r < 3 → cur.toList[j * 3 + r]? = (fldRow (fat fs j))[r]? := fun r hr => by
      have e1 : (cur.toList.take (fs.length * 3))[j * 3 + r]? = cur.toList[j * 3 + r]? := by rw [List.getElem?_take, if_pos (by omega)]
      rw [← e1, ht]
      unfold fldRows
      rw [rows_idx fldRow 3 fldRow_len fs j r hr, fat_get hj]
      rfl
    have x0 := hx 0 (by omega)
    have x1 := hx 1 (by omega)
    have x2 := hx 2 (by omega)
    simp only [Nat.add_zero] at x0
    refine ⟨g, cap, rfl, hB, (Array.getElem?_eq_some_iff.1 hb).1, hn, hc, ?_, ?_, ?_, fun q hq => ?_⟩
    · simp only [World.cell?, hb, Option.isSome_none, Bool.false_eq_true, if_false]; simpa [fldRow] using x0
    · simp only [World.cell?, hb, Option.isSome_none, Bool.false_eq_true, if_false]; simpa [fldRow] using x1
    · simp only [World.cell?, hb, Option.isSome_none, Bool.false_eq_true, if_false]; simpa [fldRow] using x2
    · have hq' : j * 3 + q < cur.size := by rw [hs]; omega
      simp [World.cell?, World.frozen?, hb, hq']
end Go.Proofs.YtfjblenkcfdbiaaGreat

/-
  A book of one's own is a book; an entry's fields turned; an entry put in.
-/
namespace Go.Proofs.YtfjblenkcfdbiaaGreat
open Go.RowKit
set_option linter.unusedSimpArgs false
set_option linter.unusedVariables false

theorem own_rows {α : Type} {w : World} {B : Nat} {e : TypeId} {c : Nat} {v : Value} {l : List α} (f : α → List Value) (hf : ∀ x, (f x).length = c) (h : w.ownsRow B e c v l.length (l.flatMap f)) :
    ∃ a cap, v = .slice a l.length cap ∧ l.length ≤ cap ∧ cap ≤ maxLen ∧ ∀ i t, l[i]? = some t → ∃ g, a = some ⟨g, 0, none⟩ ∧ ∀ r u, (f t)[r]? = some u → w.cell? ⟨g, i * c + r, none⟩ = some u := by
  obtain ⟨h1, h2⟩ := h
  rcases h2 with ⟨rfl, h0⟩ | ⟨g, cap, cur, rfl, hB, hb, hn, hc, hs, ht⟩
  · refine ⟨none, 0, by rw [h0], by omega, Nat.zero_le _, fun i t hi => ?_⟩
    have := (List.getElem?_eq_some_iff.1 hi).1
    omega
  · refine ⟨_, cap, rfl, hn, hc, fun i t hi => ⟨g, rfl, fun r u hu => ?_⟩⟩
    have hil := (List.getElem?_eq_some_iff.1 hi).1
    have hr : r < c := by have := (List.getElem?_eq_some_iff.1 hu).1; rw [hf] at this; exact this
    have hx : cur.toList[i * c + r]? = some u := by
      have hlt : i * c + r < l.length * c := rows_room hil hr
      have e1 : (cur.toList.take (l.length * c))[i * c + r]? = cur.toList[i * c + r]? := by rw [List.getElem?_take, if_pos hlt]
      rw [← e1, ht, rows_idx f c hf l i r hr, hi]
      exact hu
    simp only [World.cell?, hb, Option.isSome_none, Bool.false_eq_true, if_false]
    simpa using hx
theorem tris_new {w : World} {B : Nat} {e : TypeId} {v : Value} {l : List Tri} (h : w.ownsRow B e 3 v l.length (triRows l)) : TrisAt w v l := by
  obtain ⟨a, cap, h1, h2, h3, h4⟩ := own_rows triRow triRow_len h
  refine ⟨a, cap, h1, h2, h3, fun i t ht => ?_⟩
  obtain ⟨g, ha, hc⟩ := h4 i t ht
  exact ⟨g, 0, ha, by simpa using hc 0 _ rfl, by simpa using hc 1 _ rfl, by simpa using hc 2 _ rfl⟩
theorem flds_new {w : World} {B : Nat} {e : TypeId} {v : Value} {l : List Fld} (h : w.ownsRow B e 3 v l.length (fldRows l)) : FldsAt w v l := by
  obtain ⟨a, cap, h1, h2, h3, h4⟩ := own_rows fldRow fldRow_len h
  refine ⟨a, cap, h1, h2, h3, fun i t ht => ?_⟩
  obtain ⟨g, ha, hc⟩ := h4 i t ht
  exact ⟨g, 0, ha, by simpa using hc 0 _ rfl, by simpa using hc 1 _ rfl, by simpa using hc 2 _ rfl⟩
theorem pairRow_len (p : EntV) : (pairRow p).length = 2 := rfl
theorem ents_new {w : World} {B : Nat} {o : Value} {es : List Ent} (h : EntsNew w B o es) : EntsAt w o es := by
  obtain ⟨l, rfl, h⟩ := h
  obtain ⟨a, cap, h1, h2, h3, h4⟩ := own_rows pairRow pairRow_len h.row
  refine ⟨a, cap, by rw [List.length_map]; exact h1, by rw [List.length_map]; exact h2, h3, fun i t ht => ?_⟩
  rw [List.getElem?_map] at ht
  cases hp : l[i]? with
  | none => rw [hp] at ht; cases ht
  | some p =>
    rw [hp] at ht
    cases ht
    obtain ⟨g, ha, hc⟩ := h4 i p hp
    exact ⟨g, 0, ha, p.2, by simpa using hc 0 _ rfl, by simpa using hc 1 _ rfl, flds_new (h.flds p (List.mem_of_getElem? hp))⟩
theorem BookNew.at {lo : Nat} {w : World} {x y z : Value} {ks ps : List Tri} {es : List Ent} (h : BookNew lo w x y z ks ps es) : BookAt w x y z ks ps es := ⟨tris_new h.k, tris_new h.p, ents_new h.e⟩

theorem eat_succ (g : Ent) (l : List Ent) (i : Nat) : eat (g :: l) (i + 1) = eat l i := by simp [eat]
theorem putE_hit : ∀ (es : List Ent) (n : ByteArray) (f : Fld) (k : Nat), (es.Pairwise fun a b => blS a.name b.name = true) → k < es.length → (eat es k).name = n → putE es n f = es.set k ⟨(eat es k).name, putF (eat es k).fs f⟩
  | [], n, f, k, _, hk, _ => by simp at hk
  | e :: es, n, f, 0, _, _, hn => by
    have e0 : eat (e :: es) 0 = e := rfl
    rw [e0] at hn ⊢
    rw [putE, if_pos hn]
    rfl
  | e :: es, n, f, k + 1, h, hk, hn => by
    have h' := List.pairwise_cons.1 h
    rw [eat_succ] at hn ⊢
    have hk' : k < es.length := by simpa using hk
    have hlt : blS e.name n = true := by
      rw [← hn]
      exact h'.1 _ (List.mem_of_getElem? (eat_get hk'))
    have hne : ¬ e.name = n := fun h => by rw [h] at hlt; exact absurd hlt (by rw [blS_irrefl]; simp)
    rw [putE, if_neg hne, if_pos hlt, putE_hit es n f k h'.2 hk' hn]
    rfl
theorem putE_in : ∀ (es : List Ent) (n : ByteArray) (f : Fld) (j : Nat), j ≤ es.length → (∀ e ∈ es, ¬ e.name = n) → (∀ i, i < j → blS (eat es i).name n = true) → (j < es.length → blS (eat es j).name n = false) → putE es n f = es.take j ++ ⟨n, [f]⟩ :: es.drop j
  | [], n, f, j, hj, _, _, _ => by
    have : j = 0 := by simpa using hj
    subst this; rfl
  | e :: es, n, f, 0, hj, hne, hl, he => by
    have h0 := he (by simp)
    have e0 : eat (e :: es) 0 = e := rfl
    rw [e0] at h0
    rw [putE, if_neg (hne e (by simp)), if_neg (by rw [h0]; simp)]
    rfl
  | e :: es, n, f, j + 1, hj, hne, hl, he => by
    have h0 := hl 0 (by omega)
    have e0 : eat (e :: es) 0 = e := rfl
    rw [e0] at h0
    rw [putE, if_neg (hne e (by simp)), if_pos h0, putE_in es n f j (by simpa using hj) (fun x hx => hne x (by simp [hx])) (fun i hi => by have := hl (i + 1) (by omega); rwa [eat_succ] at this) (fun hlt => by have := he (by simpa using hlt); rwa [eat_succ] at this)]
    rfl
theorem pairRows_set : ∀ (l : List EntV) (k : Nat) (p : EntV) (e : Ent) (v : Value), l[k]? = some p → e.name = p.1.name → pairRows (l.set k (e, v)) = (pairRows l).set (k * 2 + 1) v
  | [], k, p, e, v, hk, _ => by simp at hk
  | a :: l, 0, p, e, v, hk, hn => by
    have : a = p := by simpa using hk
    subst this
    simp [pairRows, pairRow, hn]
  | a :: l, k + 1, p, e, v, hk, hn => by
    have ih := pairRows_set l k p e v (by simpa using hk) hn
    have c : ∀ (x : EntV) (m : List EntV), pairRows (x :: m) = pairRow x ++ pairRows m := fun x m => by simp [pairRows]
    rw [List.set_cons_succ, c, c, ih, show (k + 1) * 2 + 1 = 2 + (k * 2 + 1) by omega, List.set_append_right _ _ (by simp [pairRow])]
    simp [pairRow]
/-- The fields of an entry turned. -/
theorem PairsNew.turn {w w1 : World} {B g n cap k : Nat} {l : List EntV} {e : Ent} {fv v : Value} {fs : List Fld} (h : PairsNew w B (.slice (some ⟨g, 0, none⟩) n cap) l) (hk : l[k]? = some (e, fv)) (hown : w1.ownsRow B 62 3 v fs.length (fldRows fs)) (hg : w.grownBy w1 fv.ownBlock) (hat : ∀ j, v.ownBlock = some j → fv.ownBlock = some j ∨ w.heap.size ≤ j) :
    PairsNew (w1.setCell ⟨g, k * 2 + 1, none⟩ v) B (.slice (some ⟨g, 0, none⟩) n cap) (l.set k (⟨e.name, fs⟩, v)) := by
  have hkl := (List.getElem?_eq_some_iff.1 hk).1
  have hfl := h.flds (e, fv) (List.mem_of_getElem? hk)
  have hrow1 : w1.ownsRow B 73 2 (.slice (some ⟨g, 0, none⟩) n cap) l.length (pairRows l) := ownsRow_farF h.row hg (own_apart hfl h.row (by decide))
  have gs := grown_setF w1 g (k * 2 + 1) v
  have hpw := List.pairwise_iff_getElem.1 h.apart
  have hdiff : ∀ (i : Nat) (q : EntV), i ≠ k → l[i]? = some q → ∀ b, q.2.ownBlock = some b → fv.ownBlock ≠ some b := fun i q hik hq b hb hb' => by
    obtain ⟨hi, rfl⟩ := List.getElem?_eq_some_iff.1 hq
    obtain ⟨hk', hke⟩ := List.getElem?_eq_some_iff.1 hk
    rcases Nat.lt_or_gt_of_ne hik with hlt | hgt
    · exact hpw i k hi hk' hlt b hb (by rw [hke]; exact hb')
    · exact hpw k i hk' hi hgt b (by rw [hke]; exact hb') hb
  have hold : ∀ (i : Nat) (q : EntV), i ≠ k → l[i]? = some q → w1.ownsRow B 62 3 q.2 q.1.fs.length (fldRows q.1.fs) := fun i q hik hq => ownsRow_farF (h.flds q (List.mem_of_getElem? hq)) hg (fun b hb e => hdiff i q hik hq b hb e.symm)
  refine ⟨?_, fun p hp => ?_, ?_⟩
  · rw [pairRows_set l k (e, fv) ⟨e.name, fs⟩ v hk rfl, List.length_set]
    exact own_set1 hrow1 _ _
  · obtain ⟨i, hi, rfl⟩ := List.getElem_of_mem hp
    rw [List.length_set] at hi
    by_cases e0 : i = k
    · subst e0
      rw [List.getElem_set_self]
      exact ownsRow_farF hown gs (own_apart hrow1 hown (by decide))
    · have hq : l[i]? = some l[i] := List.getElem?_eq_getElem hi
      rw [List.getElem_set_ne (Ne.symm e0)]
      have h1 := hold i _ e0 hq
      exact ownsRow_farF h1 gs (own_apart hrow1 h1 (by decide))
  · rw [List.pairwise_iff_getElem]
    intro i j hi0 hj0 hij b hb hb'
    have hi : i < l.length := by simpa using hi0
    have hj : j < l.length := by simpa using hj0
    by_cases ei : i = k
    · have ej : j ≠ k := by omega
      subst ei
      rw [List.getElem_set_self] at hb
      rw [List.getElem_set_ne (Ne.symm ej)] at hb'
      have hq : l[j]? = some l[j] := List.getElem?_eq_getElem hj
      rcases hat b hb with h1 | h1
      · exact hdiff j _ ej hq b hb' h1
      · have := own_lt (h.flds _ (List.mem_of_getElem? hq)) b hb'; omega
    · rw [List.getElem_set_ne (Ne.symm ei)] at hb
      have hq : l[i]? = some l[i] := List.getElem?_eq_getElem hi
      by_cases ej : j = k
      · subst ej
        rw [List.getElem_set_self] at hb'
        rcases hat b hb' with h1 | h1
        · exact hdiff i _ ei hq b hb h1
        · have := own_lt (h.flds _ (List.mem_of_getElem? hq)) b hb; omega
      · rw [List.getElem_set_ne (Ne.symm ej)] at hb'
        exact hpw i j hi hj hij b hb hb'
/-- An entry put in. -/
theorem PairsNew.ins {w w1 : World} {B j : Nat} {o o' fv : Value} {l : List EntV} {e : Ent} (h : PairsNew w B o l) (hb : Below w.heap.size w w1) (hf : w1.ownsRow B 62 3 fv e.fs.length (fldRows e.fs)) (hnew : ∀ q, fv.ownBlock = some q → w.heap.size ≤ q) (hown : w1.ownsRow B 73 2 o' (l.take j ++ (e, fv) :: l.drop j).length (pairRows (l.take j ++ (e, fv) :: l.drop j))) :
    PairsNew w1 B o' (l.take j ++ (e, fv) :: l.drop j) := by
  have hmem : ∀ p, p ∈ l.take j ∨ p ∈ l.drop j → p ∈ l := fun p hp => by
    rcases hp with hp | hp
    · exact List.mem_of_mem_take hp
    · exact List.mem_of_mem_drop hp
  have hfar : ∀ p ∈ l, ∀ q, p.2.ownBlock = some q → fv.ownBlock ≠ some q := fun p hp q h1 h2 => by
    have := own_lt (h.flds p hp) q h1
    have := hnew q h2
    omega
  have hsp : (l.take j ++ l.drop j).Pairwise fun p q => ∀ k, p.2.ownBlock = some k → q.2.ownBlock ≠ some k := by rw [List.take_append_drop]; exact h.apart
  have hsp' := List.pairwise_append.1 hsp
  refine ⟨hown, fun p hp => ?_, ?_⟩
  · rw [List.mem_append, List.mem_cons] at hp
    rcases hp with hp | rfl | hp
    · exact ownsRow_keep (h.flds p (hmem p (.inl hp))) hb
    · exact hf
    · exact ownsRow_keep (h.flds p (hmem p (.inr hp))) hb
  · rw [List.pairwise_append, List.pairwise_cons]
    refine ⟨hsp'.1, ⟨fun q hq k hk hk' => hfar q (hmem q (.inr hq)) k hk' hk, hsp'.2.1⟩, fun p hp q hq => ?_⟩
    rcases List.mem_cons.1 hq with rfl | hq
    · exact fun k hk => hfar p (hmem p (.inl hp)) k hk
    · exact hsp'.2.2 p hp q hq
theorem pairRows_app (a b : List EntV) : pairRows (a ++ b) = pairRows a ++ pairRows b := by simp [pairRows]
theorem pairRows_cons (a : EntV) (b : List EntV) : pairRows (a :: b) = pairRow a ++ pairRows b := by simp [pairRows]
theorem eat_map {l : List EntV} {k : Nat} (hk : k < l.length) : ∃ fv, l[k]? = some (eat (l.map (·.1)) k, fv) := by
  refine ⟨l[k].2, ?_⟩
  rw [List.getElem?_eq_getElem hk]
  simp [eat, hk]
end Go.Proofs.YtfjblenkcfdbiaaGreat

/-
  For laws over answers that are books: boxes of the law's own; what the marks leave alone.
-/
namespace Go.Proofs.YtfjblenkcfdbiaaGreat
open Go.RowKit
set_option linter.unusedSimpArgs false
set_option linter.unusedVariables false

/-- Boxes: a block, what lies in it, its type. -/
abbrev Bx := Nat × Array Value × TypeId
structure Bxs (w wr : World) (bs : List Bx) : Prop where
  below : Below w.heap.size w wr
  has : ∀ p ∈ bs, wr.heap[p.1]? = some (.cells p.2.1 p.2.2 (0, 0))
theorem Bxs.lt {w wr : World} {bs : List Bx} (h : Bxs w wr bs) {p : Bx} (hp : p ∈ bs) : p.1 < wr.heap.size := (Array.getElem?_eq_some_iff.1 (h.has p hp)).1
theorem Bxs.call {w wr wy : World} {bs : List Bx} (h : Bxs w wr bs) (hb : Below wr.heap.size wr wy) : Bxs w wy bs := ⟨below_step h.below hb, fun p hp => (hb.block _ (h.lt hp)).trans (h.has p hp)⟩
theorem Bxs.drew {w wr : World} {bs : List Bx} (h : Bxs w wr bs) : Bxs w wr.drew bs := ⟨h.below.drew, h.has⟩
theorem Bxs.push {w wr : World} {bs : List Bx} (h : Bxs w wr bs) {X : Nat} {C : Array Value} {T : TypeId} (hX : wr.heap[X]? = some (.cells C T (0, 0))) : Bxs w wr ((X, C, T) :: bs) :=
  ⟨h.below, fun p hp => by
    rcases List.mem_cons.1 hp with rfl | hp
    · exact hX
    · exact h.has p hp⟩
theorem Bxs.cell {w wr : World} {bs : List Bx} (h : Bxs w wr bs) (i : Nat) {X : Nat} {C : Array Value} {T : TypeId} (hi : bs[i]? = some (X, C, T)) (j : Nat) : wr.cell? ⟨X, j, none⟩ = C[j]? := by
  have := h.has _ (List.mem_of_getElem? hi)
  dsimp only at this
  simp [World.cell?, this]
theorem Bxs.same {w wr wy : World} {bs : List Bx} (h : Bxs w wr bs) (hb : Below w.heap.size w wy) (hs : ∀ p ∈ bs, wy.heap[p.1]? = wr.heap[p.1]?) : Bxs w wy bs := ⟨hb, fun p hp => (hs p hp).trans (h.has p hp)⟩
theorem Bxs.start2 (w : World) (A C : Array Value) (T U : TypeId) : Bxs w ((w.alloc (.cells A T)).alloc (.cells C U)) [(w.heap.size, A, T), (w.heap.size + 1, C, U)] := by
  have s1 : (w.alloc (.cells A T)).heap.size = w.heap.size + 1 := by simp
  have h1 := heap_newF w (.cells A T)
  have h2 := heap_newF (w.alloc (.cells A T)) (.cells C U)
  rw [s1] at h2
  refine ⟨((Below.refl _ _).alloc (Nat.le_refl _) _).alloc (by simp) _, fun p hp => ?_⟩
  simp only [List.mem_cons, List.not_mem_nil, or_false] at hp
  rcases hp with rfl | rfl
  · exact (Below.heap_alloc _ _ _ (by omega)).trans h1
  · exact h2
theorem BookNew.lt {lo : Nat} {w : World} {x y z : Value} {ks ps : List Tri} {es : List Ent} (h : BookNew lo w x y z ks ps es) {w' : World} (hs : ∀ k, lo ≤ k → k < w.heap.size → w'.heap[k]? = w.heap[k]?) : BookNew lo w' x y z ks ps es := by
  obtain ⟨h1, h2, l, h3, h4⟩ := h
  have go : ∀ {e : TypeId} {c : Nat} {v : Value} {n : Nat} {xs : List Value}, w.ownsRow lo e c v n xs → w'.ownsRow lo e c v n xs := fun h => ownsRow_sameM h (fun k hk hl => hs k (own_ge h k hk) hl)
  exact ⟨go h1, go h2, l, h3, go h4.row, fun p hp => go (h4.flds p hp), h4.apart⟩
theorem sumN_le_mul {α : Type} (g : α → Nat) (M : Nat) : ∀ l : List α, (∀ a ∈ l, g a ≤ M) → sumN g l ≤ l.length * M
  | [], _ => by simp [sumN]
  | a :: l, h => by
    have h1 := h a (by simp)
    have h2 := sumN_le_mul g M l (fun b hb => h b (by simp [hb]))
    simp only [sumN, List.length_cons, Nat.succ_mul]
    omega
end Go.Proofs.YtfjblenkcfdbiaaGreat

/-
  Two bases are the same: slices.Equal at kinds and points, both sides.
-/
namespace Go.Proofs.YtfjblenkcfdbiaaGreat
open Go.RowKit
attribute [local go_sem] Later.cell Later.frozen
set_option linter.unusedSimpArgs false
set_option linter.unusedVariables false

theorem ret_boolS {a b : Bool} (h : a = b) : Ending.returned (.bool a) = .returned (.bool b) := by rw [h]
def triEq (a b : Tri) : Bool := (a.s.toList == b.s.toList) && ((a.x == b.x) && (a.y == b.y))
def sameT (l m : List Tri) : Bool := (l.length == m.length) && allB l.length fun i => triEq (at' l i) (at' m i)
theorem sameT_stop {l m : List Tri} {k : Nat} (hk : k < l.length) (h : triEq (at' l k) (at' m k) = false) : sameT l m = false := by
  unfold sameT
  cases ha : allB l.length fun i => triEq (at' l i) (at' m i)
  · simp
  · have := allB_get ha k hk
    rw [h] at this
    cases this
theorem sameT_len {l m : List Tri} (h : ¬ l.length = m.length) : sameT l m = false := by simp [sameT, h]
theorem sameT_all {l m : List Tri} (h : l.length = m.length) (ha : ∀ i, i < l.length → triEq (at' l i) (at' m i) = true) : sameT l m = true := by
  unfold sameT
  rw [allB_true ha, h]
  simp
/-- How two that are not the same part. -/
theorem triEq_cases (a b : Tri) : (triEq a b = true ∧ (a.s.toList == b.s.toList) = true ∧ (a.x == b.x) = true ∧ (a.y == b.y) = true) ∨ (triEq a b = false ∧ ((a.s.toList == b.s.toList) = false ∨ ((a.s.toList == b.s.toList) = true ∧ (a.x == b.x) = false) ∨ ((a.s.toList == b.s.toList) = true ∧ (a.x == b.x) = true ∧ (a.y == b.y) = false))) := by
  unfold triEq
  cases (a.s.toList == b.s.toList) <;> cases (a.x == b.x) <;> cases (a.y == b.y) <;> simp
set_option maxHeartbeats 3200000 in
theorem equalKind_any (u v : Value) (l m : List Tri) (w : World) (hu : TrisAt w u l) (hv : TrisAt w v m) (hl : l.length ≤ 1048576) :
    Calls Tryz.prog 83 #[u, v] w fun e w' => e = .returned (.bool (sameT l m)) ∧ Below w.heap.size w w' := by
  obtain ⟨au, cu, rfl, -, hmu, hcu⟩ := hu
  obtain ⟨av, cv, rfl, -, hmv, hcv⟩ := hv
  have HU : Hid (∀ i t, l[i]? = some t → ∃ b off, au = some ⟨b, off, none⟩ ∧ w.cell? ⟨b, off + i * 3, none⟩ = some (.string t.s) ∧ w.cell? ⟨b, off + i * 3 + 1, none⟩ = some (.int .i64 t.x) ∧ w.cell? ⟨b, off + i * 3 + 2, none⟩ = some (.int .i64 t.y)) := hcu
  have HV : Hid (∀ i t, m[i]? = some t → ∃ b off, av = some ⟨b, off, none⟩ ∧ w.cell? ⟨b, off + i * 3, none⟩ = some (.string t.s) ∧ w.cell? ⟨b, off + i * 3 + 1, none⟩ = some (.int .i64 t.x) ∧ w.cell? ⟨b, off + i * 3 + 2, none⟩ = some (.int .i64 t.y)) := hcv
  unfold maxLen at hmu hmv
  clear hcu hcv
  by_cases hlen : l.length = m.length
  · have hq : (((l.length : Nat) : Int) != ((m.length : Nat) : Int)) = false := by simp [hlen]
    have HLEN : Hid (l.length = m.length) := hlen
    have hl1 : l.length ≤ m.length := by omega
    clear hlen
    go_enter Tryz.func83, Tryz.ntmps83
    go_wp2
    go_loopw [13, 5] (fun i _ wr => ∃ k : Nat, k ≤ l.length ∧ i = .int .i64 k ∧ Hid (∀ i, i < k → triEq (at' l i) (at' m i) = true) ∧ Hid (Below w.heap.size w wr)) (fun i _ _ => l.length - (intOf i).toNat)
    case atStart => exact ⟨0, Nat.zero_le _, rfl, fun i hi => absurd hi (Nat.not_lt_zero _), Below.refl _ _⟩
    case round =>
      obtain ⟨k, hk, rfl, HA, HB⟩ := hrel
      by_cases hlt : k < l.length
      · obtain ⟨b, off, rfl, d0, d1, d2⟩ := HU.out k _ (at_get hlt)
        obtain ⟨b', off', rfl, e0, e1, e2⟩ := HV.out k _ (at_get (show k < m.length by omega))
        have c0 := cell_keep HB.out (Nat.le_refl _) d0
        have c1 := cell_keep HB.out (Nat.le_refl _) d1
        have c2 := cell_keep HB.out (Nat.le_refl _) d2
        have f0 := cell_keep HB.out (Nat.le_refl _) e0
        have f1 := cell_keep HB.out (Nat.le_refl _) e1
        have f2 := cell_keep HB.out (Nat.le_refl _) e2
        have z1 := lt_of_cell c0
        have z2 := lt_of_cell f0
        clear d0 d1 d2 e0 e1 e2
        have hk0 : (0 : Int) ≤ (k : Int) := by omega
        have hk1 : (k : Int) < (l.length : Int) := by omega
        have hk2 : (k : Int) < (m.length : Int) := by omega
        have hne := Later.some wr
        rcases triEq_cases (at' l k) (at' m k) with ⟨ht, h1, h2, h3⟩ | ⟨ht, h1⟩
        · have HN : Hid (∀ i, i < k + 1 → triEq (at' l i) (at' m i) = true) := fun i hi => by
            by_cases e : i = k
            · subst e; exact ht
            · exact HA.out i (by omega)
          clear ht
          go_wp2
          refine wp_region_later (by kernel_rfl) (by kernel_rfl) ?_
          repeat (go_big_quiet_step (fail))
          refine wpQuiet_nil ?_
          rintro _ ⟨x, rfl⟩
          have HB2 : Hid (Below w.heap.size w x.val) := below_step HB.out x.below
          go_wp2
          exact ⟨⟨k + 1, by omega, by go_num, HN, HB2⟩, by simp [intOf]; omega⟩
        · have HS : Hid (sameT l m = false) := sameT_stop hlt ht
          clear ht
          rcases h1 with h1 | ⟨h1, h2⟩ | ⟨h1, h2, h3⟩
          all_goals
            go_wp2
            refine wp_region_later (by kernel_rfl) (by kernel_rfl) ?_
            repeat (go_big_quiet_step (fail))
            refine wpQuiet_nil ?_
            rintro _ ⟨x, rfl⟩
            have HB2 : Hid (Below w.heap.size w x.val) := below_step HB.out x.below
            go_wp2
            go_ret
            exact ⟨ret_boolS HS.out.symm, HB2.out⟩
      · have HS : Hid (sameT l m = true) := sameT_all HLEN.out (fun i hi => HA.out i (by omega))
        go_wp2
        go_ret
        exact ⟨ret_boolS HS.out.symm, HB.out⟩
  · have hq : (((l.length : Nat) : Int) != ((m.length : Nat) : Int)) = true := by simp; omega
    have HS : Hid (sameT l m = false) := sameT_len hlen
    clear hlen
    go_enter Tryz.func83, Tryz.ntmps83
    go_wp2
    go_ret
    exact ⟨ret_boolS HS.out.symm, Below.refl _ _⟩
set_option maxHeartbeats 3200000 in
theorem equalPoint_any (u v : Value) (l m : List Tri) (w : World) (hu : TrisAt w u l) (hv : TrisAt w v m) (hl : l.length ≤ 1048576) :
    Calls Tryz.prog 84 #[u, v] w fun e w' => e = .returned (.bool (sameT l m)) ∧ Below w.heap.size w w' := by
  obtain ⟨au, cu, rfl, -, hmu, hcu⟩ := hu
  obtain ⟨av, cv, rfl, -, hmv, hcv⟩ := hv
  have HU : Hid (∀ i t, l[i]? = some t → ∃ b off, au = some ⟨b, off, none⟩ ∧ w.cell? ⟨b, off + i * 3, none⟩ = some (.string t.s) ∧ w.cell? ⟨b, off + i * 3 + 1, none⟩ = some (.int .i64 t.x) ∧ w.cell? ⟨b, off + i * 3 + 2, none⟩ = some (.int .i64 t.y)) := hcu
  have HV : Hid (∀ i t, m[i]? = some t → ∃ b off, av = some ⟨b, off, none⟩ ∧ w.cell? ⟨b, off + i * 3, none⟩ = some (.string t.s) ∧ w.cell? ⟨b, off + i * 3 + 1, none⟩ = some (.int .i64 t.x) ∧ w.cell? ⟨b, off + i * 3 + 2, none⟩ = some (.int .i64 t.y)) := hcv
  unfold maxLen at hmu hmv
  clear hcu hcv
  by_cases hlen : l.length = m.length
  · have hq : (((l.length : Nat) : Int) != ((m.length : Nat) : Int)) = false := by simp [hlen]
    have HLEN : Hid (l.length = m.length) := hlen
    have hl1 : l.length ≤ m.length := by omega
    clear hlen
    go_enter Tryz.func84, Tryz.ntmps84
    go_wp2
    go_loopw [13, 5] (fun i _ wr => ∃ k : Nat, k ≤ l.length ∧ i = .int .i64 k ∧ Hid (∀ i, i < k → triEq (at' l i) (at' m i) = true) ∧ Hid (Below w.heap.size w wr)) (fun i _ _ => l.length - (intOf i).toNat)
    case atStart => exact ⟨0, Nat.zero_le _, rfl, fun i hi => absurd hi (Nat.not_lt_zero _), Below.refl _ _⟩
    case round =>
      obtain ⟨k, hk, rfl, HA, HB⟩ := hrel
      by_cases hlt : k < l.length
      · obtain ⟨b, off, rfl, d0, d1, d2⟩ := HU.out k _ (at_get hlt)
        obtain ⟨b', off', rfl, e0, e1, e2⟩ := HV.out k _ (at_get (show k < m.length by omega))
        have c0 := cell_keep HB.out (Nat.le_refl _) d0
        have c1 := cell_keep HB.out (Nat.le_refl _) d1
        have c2 := cell_keep HB.out (Nat.le_refl _) d2
        have f0 := cell_keep HB.out (Nat.le_refl _) e0
        have f1 := cell_keep HB.out (Nat.le_refl _) e1
        have f2 := cell_keep HB.out (Nat.le_refl _) e2
        have z1 := lt_of_cell c0
        have z2 := lt_of_cell f0
        clear d0 d1 d2 e0 e1 e2
        have hk0 : (0 : Int) ≤ (k : Int) := by omega
        have hk1 : (k : Int) < (l.length : Int) := by omega
        have hk2 : (k : Int) < (m.length : Int) := by omega
        have hne := Later.some wr
        rcases triEq_cases (at' l k) (at' m k) with ⟨ht, h1, h2, h3⟩ | ⟨ht, h1⟩
        · have HN : Hid (∀ i, i < k + 1 → triEq (at' l i) (at' m i) = true) := fun i hi => by
            by_cases e : i = k
            · subst e; exact ht
            · exact HA.out i (by omega)
          clear ht
          go_wp2
          refine wp_region_later (by kernel_rfl) (by kernel_rfl) ?_
          repeat (go_big_quiet_step (fail))
          refine wpQuiet_nil ?_
          rintro _ ⟨x, rfl⟩
          have HB2 : Hid (Below w.heap.size w x.val) := below_step HB.out x.below
          go_wp2
          exact ⟨⟨k + 1, by omega, by go_num, HN, HB2⟩, by simp [intOf]; omega⟩
        · have HS : Hid (sameT l m = false) := sameT_stop hlt ht
          clear ht
          rcases h1 with h1 | ⟨h1, h2⟩ | ⟨h1, h2, h3⟩
          all_goals
            go_wp2
            refine wp_region_later (by kernel_rfl) (by kernel_rfl) ?_
            repeat (go_big_quiet_step (fail))
            refine wpQuiet_nil ?_
            rintro _ ⟨x, rfl⟩
            have HB2 : Hid (Below w.heap.size w x.val) := below_step HB.out x.below
            go_wp2
            go_ret
            exact ⟨ret_boolS HS.out.symm, HB2.out⟩
      · have HS : Hid (sameT l m = true) := sameT_all HLEN.out (fun i hi => HA.out i (by omega))
        go_wp2
        go_ret
        exact ⟨ret_boolS HS.out.symm, HB.out⟩
  · have hq : (((l.length : Nat) : Int) != ((m.length : Nat) : Int)) = true := by simp; omega
    have HS : Hid (sameT l m = false) := sameT_len hlen
    clear hlen
    go_enter Tryz.func84, Tryz.ntmps84
    go_wp2
    go_ret
    exact ⟨ret_boolS HS.out.symm, Below.refl _ _⟩
def sameBs (ks ks' ps ps' : List Tri) : Bool := sameT ks ks' && sameT ps ps'
set_option maxHeartbeats 3200000 in
theorem sameBase_any (vk vp uk up : Value) (ks ps ks' ps' : List Tri) (w : World) (hk : TrisAt w vk ks) (hp : TrisAt w vp ps) (hk' : TrisAt w uk ks') (hp' : TrisAt w up ps') (lk : ks.length ≤ 1048576) (lp : ps.length ≤ 1048576) :
    Calls Tryz.prog 42 #[.agg #[vk, vp], .agg #[uk, up]] w fun e w' => e = .returned (.bool (sameBs ks ks' ps ps')) ∧ Below w.heap.size w w' := by
  have H1 : Hid (TrisAt w vk ks ∧ TrisAt w vp ps ∧ TrisAt w uk ks' ∧ TrisAt w up ps') := ⟨hk, hp, hk', hp'⟩
  obtain ⟨ak, ck, rfl, -, -, -⟩ := hk
  obtain ⟨ap, cp, rfl, -, -, -⟩ := hp
  obtain ⟨ak', ck', rfl, -, -, -⟩ := hk'
  obtain ⟨ap', cp', rfl, -, -, -⟩ := hp'
  have HX0 : Hid (OwnAt w ((w.alloc (.cells #[.slice ak ks.length ck, .slice ap ps.length cp] 36)).alloc (.cells #[.slice ak' ks'.length ck', .slice ap' ps'.length cp'] 36)) [[.slice ak ks.length ck, .slice ap ps.length cp], [.slice ak' ks'.length ck', .slice ap' ps'.length cp']]) := ((OwnAt.start w).push rfl _ _).push (by simp) _ _
  go_enter Tryz.func42, Tryz.ntmps42
  go_wp2_with fail
  refine (equalKind_any _ _ ks ks' _ (H1.out.1.keep HX0.out.below) (H1.out.2.2.1.keep HX0.out.below) lk).mono ?_
  rintro e w1 ⟨rfl, hb1⟩
  have HX1 : Hid (OwnAt w w1 _) := HX0.out.call hb1
  clear HX0 hb1
  cases hs : sameT ks ks'
  · have HE : Hid (sameBs ks ks' ps ps' = false) := by show _ = _; unfold sameBs; rw [hs]; rfl
    clear hs
    go_wp2
    go_ret
    exact ⟨ret_boolS HE.out.symm, HX1.out.below⟩
  · have HE : Hid (sameBs ks ks' ps ps' = sameT ps ps') := by show _ = _; unfold sameBs; rw [hs]; rfl
    clear hs
    have x0 : w1.cell? ⟨w.heap.size, 0, none⟩ = some (.slice ak ks.length ck) := (HX1.out.has 0 _ rfl 0 _ rfl).1
    have x1 : w1.cell? ⟨w.heap.size, 1, none⟩ = some (.slice ap ps.length cp) := (HX1.out.has 0 _ rfl 1 _ rfl).1
    have y0 : w1.cell? ⟨w.heap.size + 1, 0, none⟩ = some (.slice ak' ks'.length ck') := (HX1.out.has 1 _ rfl 0 _ rfl).1
    have y1 : w1.cell? ⟨w.heap.size + 1, 1, none⟩ = some (.slice ap' ps'.length cp') := (HX1.out.has 1 _ rfl 1 _ rfl).1
    go_wp2_with fail
    refine (equalPoint_any _ _ ps ps' _ (H1.out.2.1.keep HX1.out.below) (H1.out.2.2.2.keep HX1.out.below) lp).mono ?_
    rintro e w2 ⟨rfl, hb2⟩
    have HB2 : Hid (Below w.heap.size w w2) := below_step HX1.out.below hb2
    clear hb2
    go_wp2
    go_ret
    exact ⟨ret_boolS HE.out.symm, HB2.out⟩
end Go.Proofs.YtfjblenkcfdbiaaGreat

/-
  Two books together: what they come to, as both sides write it down.
-/
namespace Go.Proofs.YtfjblenkcfdbiaaGreat
open Go.RowKit
set_option linter.unusedSimpArgs false
set_option linter.unusedVariables false

def putEs (es : List Ent) (cs : List Chg) : List Ent := cs.foldl (fun E c => putE E c.f (fldC c)) es
theorem putEs_sorted : ∀ (cs : List Chg) (es : List Ent), (es.Pairwise fun a b => blS a.name b.name = true) → (putEs es cs).Pairwise fun a b => blS a.name b.name = true
  | [], es, h => h
  | c :: cs, es, h => putEs_sorted cs _ (putE_sorted c.f (fldC c) h)
theorem putEs_ne : ∀ (cs : List Chg) (es : List Ent), (∀ e ∈ es, e.fs ≠ []) → ∀ e ∈ putEs es cs, e.fs ≠ []
  | [], es, h => h
  | c :: cs, es, h => putEs_ne cs _ (putE_ne c.f (fldC c) h)
theorem putEs_chgs : ∀ (cs : List Chg) (es : List Ent), (es.Pairwise fun a b => blS a.name b.name = true) → chgsOf (putEs es cs) = cs.foldl putC (chgsOf es)
  | [], es, h => rfl
  | c :: cs, es, h => by
    have h1 := putEs_chgs cs _ (putE_sorted c.f (fldC c) h)
    show chgsOf (putEs (putE es c.f (fldC c)) cs) = cs.foldl putC (putC (chgsOf es) c)
    rw [h1, chgs_putE c.f (fldC c) h]
    rfl
theorem putEs_snoc (es : List Ent) (cs : List Chg) (c : Chg) : putEs es (cs ++ [c]) = putE (putEs es cs) c.f (fldC c) := by simp [putEs]
theorem putEs_app (es : List Ent) (cs ds : List Chg) : putEs es (cs ++ ds) = putEs (putEs es cs) ds := by simp [putEs]
theorem fold_two {ks ps ks' ps' : List Tri} {es es' : List Ent} (h : bookB ks ps es = true) (h' : bookB ks' ps' es' = true) : (([chgsOf es, chgsOf es'] : List (List Chg)).flatten.foldl putC []).foldl addE [] = putEs es (chgsOf es') := by
  have e1 : ([chgsOf es, chgsOf es'] : List (List Chg)).flatten = chgsOf es ++ chgsOf es' := by simp
  rw [e1, List.foldl_append, putAll_self (book_sorted h), ← putEs_chgs _ _ (book_names h)]
  exact grp_self (putEs_ne _ _ (book_ne h)) (putE_apart (putEs_sorted _ _ (book_names h)))
theorem putE_lenM (es : List Ent) (n : ByteArray) (f : Fld) : (putE es n f).length ≤ es.length + 1 := by
  induction es with
  | nil => simp [putE]
  | cons e es ih =>
    rw [putE]
    split
    · simp
    · split
      · simp; omega
      · simp
theorem putEs_len : ∀ (cs : List Chg) (es : List Ent), (putEs es cs).length ≤ es.length + cs.length
  | [], es => Nat.le_refl _
  | c :: cs, es => by
    have h1 := putEs_len cs (putE es c.f (fldC c))
    have h2 := putE_lenM es c.f (fldC c)
    show (putEs (putE es c.f (fldC c)) cs).length ≤ _
    simp only [List.length_cons]
    omega
theorem putF_lenM (fs : List Fld) (f : Fld) : (putF fs f).length ≤ fs.length + 1 := by
  induction fs with
  | nil => simp [putF]
  | cons g l ih =>
    rw [putF]
    split
    · simp; omega
    · split
      · split <;> simp
      · simp
theorem putE_fsM {es : List Ent} (n : ByteArray) (f : Fld) (M : Nat) (h : ∀ e ∈ es, e.fs.length ≤ M) : ∀ e ∈ putE es n f, e.fs.length ≤ M + 1 := by
  induction es with
  | nil => intro e he; simp [putE] at he; subst he; simp
  | cons x es ih =>
    intro e he
    rw [putE] at he
    split at he
    · rcases List.mem_cons.1 he with rfl | he
      · have := putF_lenM x.fs f
        have := h x (by simp)
        show (putF x.fs f).length ≤ _
        omega
      · have := h e (by simp [he]); omega
    · split at he
      · rcases List.mem_cons.1 he with rfl | he
        · have := h e (by simp); omega
        · exact ih (fun e he => h e (by simp [he])) e he
      · rcases List.mem_cons.1 he with rfl | he
        · simp
        · have := h e he; omega
theorem putEs_fs : ∀ (cs : List Chg) (es : List Ent) (M : Nat), (∀ e ∈ es, e.fs.length ≤ M) → ∀ e ∈ putEs es cs, e.fs.length ≤ M + cs.length
  | [], es, M, h => h
  | c :: cs, es, M, h => fun e he => by
    have := putEs_fs cs (putE es c.f (fldC c)) (M + 1) (putE_fsM c.f (fldC c) M h) e he
    simp only [List.length_cons]
    omega
def mrgC (ks ps ks' ps' : List Tri) (es es' : List Ent) : Int := bif bookB ks ps es && bookB ks' ps' es' then (bif sameBs ks ks' ps ps' then (bif decide (12 < (putEs es (chgsOf es')).length) then 3 else 0) else 2) else 1
def mrgOk (ks ps ks' ps' : List Tri) (es es' : List Ent) : Bool := (bookB ks ps es && bookB ks' ps' es') && (sameBs ks ks' ps ps' && !decide (12 < (putEs es (chgsOf es')).length))
def mrgT (ks ps ks' ps' : List Tri) (es es' : List Ent) (l : List Tri) : List Tri := bif mrgOk ks ps ks' ps' es es' then l else []
def mrgE (ks ps ks' ps' : List Tri) (es es' : List Ent) : List Ent := bif mrgOk ks ps ks' ps' es es' then putEs es (chgsOf es') else []
end Go.Proofs.YtfjblenkcfdbiaaGreat
