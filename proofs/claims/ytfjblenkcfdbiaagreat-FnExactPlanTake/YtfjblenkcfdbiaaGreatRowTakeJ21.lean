/-
  For the proof of take_holds: part 21 (Fld0, Bat, Bxs, Dec2, FitsS, FitsS2).
-/
import Derived.Test.YtfjblenkcfdbiaaGreatRowTakeJ20
/-
  Fields put among others: plain facts; a row of one's own that is written in place.
-/
namespace Go.Proofs.YtfjblenkcfdbiaaGreat
open Go.RowKit
set_option linter.unusedSimpArgs false
set_option linter.unusedVariables false

theorem fat_succ (g : Fld) (l : List Fld) (i : Nat) : fat (g :: l) (i + 1) = fat l i := by simp [fat]
theorem putF_hit : ∀ (fs : List Fld) (f : Fld) (j : Nat), j < fs.length → (∀ i, i < j → (fat fs i).what < f.what) → (fat fs j).what = f.what → putF fs f = bif latF f (fat fs j) then fs.set j f else fs
  | [], f, j, hj, _, _ => by simp at hj
  | g :: l, f, 0, hj, hl, he => by
    have e0 : fat (g :: l) 0 = g := rfl
    rw [e0] at he ⊢
    rw [putF, if_neg (by omega), if_pos he]
    cases latF f g <;> rfl
  | g :: l, f, j + 1, hj, hl, he => by
    have h0 := hl 0 (by omega)
    have e0 : fat (g :: l) 0 = g := rfl
    rw [e0] at h0
    rw [fat_succ] at he ⊢
    rw [putF, if_pos h0, putF_hit l f j (by simpa using hj) (fun i hi => by have := hl (i + 1) (by omega); rwa [fat_succ] at this) he]
    cases latF f (fat l j) <;> rfl
theorem putF_in : ∀ (fs : List Fld) (f : Fld) (j : Nat), j ≤ fs.length → (∀ i, i < j → (fat fs i).what < f.what) → (j < fs.length → f.what < (fat fs j).what) → putF fs f = fs.take j ++ f :: fs.drop j
  | [], f, j, hj, _, _ => by
    have : j = 0 := by simpa using hj
    subst this; rfl
  | g :: l, f, 0, hj, hl, he => by
    have h0 := he (by simp)
    have e0 : fat (g :: l) 0 = g := rfl
    rw [e0] at h0
    rw [putF, if_neg (by omega), if_neg (by omega)]
    rfl
  | g :: l, f, j + 1, hj, hl, he => by
    have h0 := hl 0 (by omega)
    have e0 : fat (g :: l) 0 = g := rfl
    rw [e0] at h0
    rw [putF, if_pos h0, putF_in l f j (by simpa using hj) (fun i hi => by have := hl (i + 1) (by omega); rwa [fat_succ] at this) (fun hlt => by have := he (by simpa using hlt); rwa [fat_succ] at this)]
    rfl
theorem putF_len (fs : List Fld) (f : Fld) : (putF fs f).length ≤ fs.length + 1 := by
  induction fs with
  | nil => simp [putF]
  | cons g l ih =>
    rw [putF]
    split
    · simp; omega
    · split
      · split <;> simp
      · simp
theorem fldRows_app (a b : List Fld) : fldRows (a ++ b) = fldRows a ++ fldRows b := by simp [fldRows]
theorem fldRows_cons (a : Fld) (b : List Fld) : fldRows (a :: b) = fldRow a ++ fldRows b := by simp [fldRows]
theorem fldRows_set : ∀ (fs : List Fld) (f : Fld) (j : Nat), j < fs.length → fldRows (fs.set j f) = (((fldRows fs).set (j * 3) (.int .i64 f.what)).set (j * 3 + 1) (.int .i64 f.num)).set (j * 3 + 2) (.string f.v)
  | [], f, j, hj => by simp at hj
  | g :: l, f, 0, hj => by simp [fldRows, fldRow]
  | g :: l, f, j + 1, hj => by
    rw [List.set_cons_succ, fldRows_cons, fldRows_cons, fldRows_set l f j (by simpa using hj)]
    have h3 : (j + 1) * 3 = 3 + j * 3 := by omega
    have h4 : ∀ (x : List Value) (p : Nat) (v : Value), (fldRow g ++ x).set (3 + p) v = fldRow g ++ x.set p v := fun x p v => by
      rw [List.set_append_right _ _ (by simp [fldRow])]
      simp [fldRow]
    rw [h3, h4, Nat.add_assoc, h4, Nat.add_assoc, h4]
theorem own_set1 {w : World} {B : Nat} {e : TypeId} {size g n cap m : Nat} {xs : List Value} (h : w.ownsRow B e size (.slice (some ⟨g, 0, none⟩) n cap) m xs) (p : Nat) (v : Value) : (w.setCell ⟨g, p, none⟩ v).ownsRow B e size (.slice (some ⟨g, 0, none⟩) n cap) m (xs.set p v) := by
  obtain ⟨h1, h2⟩ := h
  rcases h2 with ⟨h2, _⟩ | ⟨g', cap', cur, hv, hB, hb, hn, hc, hs, ht⟩
  · cases h2
  · cases hv
    refine ⟨by simpa using h1, .inr ⟨g, cap, cur.setIfInBounds p v, rfl, hB, ?_, hn, hc, by simpa using hs, ?_⟩⟩
    · rw [setCell_eq_setRow _ _ _ _ _ _ _ hb]; exact setRow_heap _ _ _ _ _ _ hb
    · rw [Array.toList_setIfInBounds, List.take_set, ht]
theorem grownF_trans {w w1 w2 : World} {r : Option Nat} (h : w.grownBy w1 r) (k : w1.grownBy w2 r) : w.grownBy w2 r :=
  ⟨k.1.trans h.1, k.2.trans h.2, k.3.trans h.3, Nat.le_trans h.4 k.4, fun j hj hr => (k.5 j (Nat.lt_of_lt_of_le hj h.4) hr).trans (h.5 j hj hr)⟩
theorem grownF_below {w w' : World} (h : Below w.heap.size w w') (r : Option Nat) : w.grownBy w' r := ⟨h.1, h.2, h.3, h.4, fun k hk _ => h.5 k hk⟩
theorem own_fset {w : World} {lo g n cap : Nat} {fs : List Fld} {j : Nat} (f : Fld) (h : w.ownsRow lo 62 3 (.slice (some ⟨g, 0, none⟩) n cap) fs.length (fldRows fs)) (hj : j < fs.length) :
    (w.setCells g (j * 3) (fldRow f)).ownsRow lo 62 3 (.slice (some ⟨g, 0, none⟩) n cap) (fs.set j f).length (fldRows (fs.set j f)) ∧ w.grownBy (w.setCells g (j * 3) (fldRow f)) (some g) := by
  have e : w.setCells g (j * 3) (fldRow f) = ((w.setCell ⟨g, j * 3, none⟩ (.int .i64 f.what)).setCell ⟨g, j * 3 + 1, none⟩ (.int .i64 f.num)).setCell ⟨g, j * 3 + 2, none⟩ (.string f.v) := rfl
  rw [e]
  refine ⟨?_, grownF_trans (grownF_trans (grown_setF _ _ _ _) (grown_setF _ _ _ _)) (grown_setF _ _ _ _)⟩
  rw [fldRows_set fs f j hj, List.length_set]
  exact own_set1 (own_set1 (own_set1 h _ _) _ _) _ _
/-- A field of a row of one's own. -/
theorem own_fcells {w : World} {lo : Nat} {v : Value} {fs : List Fld} {j : Nat} (h : w.ownsRow lo 62 3 v fs.length (fldRows fs)) (hj : j < fs.length) :
    ∃ g cap, v = .slice (some ⟨g, 0, none⟩) fs.length cap ∧ lo ≤ g ∧ g < w.heap.size ∧ fs.length ≤ cap ∧ cap ≤ maxLen ∧ w.cell? ⟨g, j * 3, none⟩ = some (.int .i64 (fat fs j).what) ∧ w.cell? ⟨g, j * 3 + 1, none⟩ = some (.int .i64 (fat fs j).num) ∧ w.cell? ⟨g, j * 3 + 2, none⟩ = some (.string (fat fs j).v) ∧ w.there g (j * 3) 3 := by
  obtain ⟨h1, h2⟩ := h
  rcases h2 with ⟨_, h2⟩ | ⟨g, cap, cur, rfl, hB, hb, hn, hc, hs, ht⟩
  · omega
  · have hx : ∀ r, r < 3 → cur.toList[j * 3 + r]? = (fldRow (fat fs j))[r]? := fun r hr => by
      have e1 : (cur.toList.take (fs.length * 3))[j * 3 + r]? = cur.toList[j * 3 + r]? := by rw [List.getElem?_take, if_pos (by omega)]
      rw [← e1, ht]
      unfold fldRows
      rw [rows_idx fldRow 3 fldRow_len fs j r hr, fat_get hj]
      rfl
    have x0 := hx 0 (by omega)
    have x1 := hx 1 (by omega)
    have x2 := hx 2 (by omega)
    simp only [Nat.add_zero] at x0
    refine ⟨g, cap, rfl, hB, (Array.getElem?_eq_some_iff.1 hb).1, hn, hc, ?_, ?_, ?_, fun q hq => ?_⟩
    · simp only [World.cell?, hb, Option.isSome_none, Bool.false_eq_true, if_false]; simpa [fldRow] using x0
    · simp only [World.cell?, hb, Option.isSome_none, Bool.false_eq_true, if_false]; simpa [fldRow] using x1
    · simp only [World.cell?, hb, Option.isSome_none, Bool.false_eq_true, if_false]; simpa [fldRow] using x2
    · have hq' : j * 3 + q < cur.size := by rw [hs]; omega
      simp [World.cell?, World.frozen?, hb, hq']
end Go.Proofs.YtfjblenkcfdbiaaGreat

/-
  A book of one's own is a book; an entry's fields turned; an entry put in.
-/
namespace Go.Proofs.YtfjblenkcfdbiaaGreat
open Go.RowKit
set_option linter.unusedSimpArgs false
set_option linter.unusedVariables false

theorem own_rows {α : Type} {w : World} {B : Nat} {e : TypeId} {c : Nat} {v : Value} {l : List α} (f : α → List Value) (hf : ∀ x, (f x).length = c) (h : w.ownsRow B e c v l.length (l.flatMap f)) :
    ∃ a cap, v = .slice a l.length cap ∧ l.length ≤ cap ∧ cap ≤ maxLen ∧ ∀ i t, l[i]? = some t → ∃ g, a = some ⟨g, 0, none⟩ ∧ ∀ r u, (f t)[r]? = some u → w.cell? ⟨g, i * c + r, none⟩ = some u := by
  obtain ⟨h1, h2⟩ := h
  rcases h2 with ⟨rfl, h0⟩ | ⟨g, cap, cur, rfl, hB, hb, hn, hc, hs, ht⟩
  · refine ⟨none, 0, by rw [h0], by omega, Nat.zero_le _, fun i t hi => ?_⟩
    have := (List.getElem?_eq_some_iff.1 hi).1
    omega
  · refine ⟨_, cap, rfl, hn, hc, fun i t hi => ⟨g, rfl, fun r u hu => ?_⟩⟩
    have hil := (List.getElem?_eq_some_iff.1 hi).1
    have hr : r < c := by have := (List.getElem?_eq_some_iff.1 hu).1; rw [hf] at this; exact this
    have hx : cur.toList[i * c + r]? = some u := by
      have hlt : i * c + r < l.length * c := rows_room hil hr
      have e1 : (cur.toList.take (l.length * c))[i * c + r]? = cur.toList[i * c + r]? := by rw [List.getElem?_take, if_pos hlt]
      rw [← e1, ht, rows_idx f c hf l i r hr, hi]
      exact hu
    simp only [World.cell?, hb, Option.isSome_none, Bool.false_eq_true, if_false]
    simpa using hx
theorem tris_new {w : World} {B : Nat} {e : TypeId} {v : Value} {l : List Tri} (h : w.ownsRow B e 3 v l.length (triRows l)) : TrisAt w v l := by
  obtain ⟨a, cap, h1, h2, h3, h4⟩ := own_rows triRow triRow_len h
  refine ⟨a, cap, h1, h2, h3, fun i t ht => ?_⟩
  obtain ⟨g, ha, hc⟩ := h4 i t ht
  exact ⟨g, 0, ha, by simpa using hc 0 _ rfl, by simpa using hc 1 _ rfl, by simpa using hc 2 _ rfl⟩
theorem flds_new {w : World} {B : Nat} {e : TypeId} {v : Value} {l : List Fld} (h : w.ownsRow B e 3 v l.length (fldRows l)) : FldsAt w v l := by
  obtain ⟨a, cap, h1, h2, h3, h4⟩ := own_rows fldRow fldRow_len h
  refine ⟨a, cap, h1, h2, h3, fun i t ht => ?_⟩
  obtain ⟨g, ha, hc⟩ := h4 i t ht
  exact ⟨g, 0, ha, by simpa using hc 0 _ rfl, by simpa using hc 1 _ rfl, by simpa using hc 2 _ rfl⟩
theorem pairRow_len (p : EntV) : (pairRow p).length = 2 := rfl
theorem ents_new {w : World} {B : Nat} {o : Value} {es : List Ent} (h : EntsNew w B o es) : EntsAt w o es := by
  obtain ⟨l, rfl, h⟩ := h
  obtain ⟨a, cap, h1, h2, h3, h4⟩ := own_rows pairRow pairRow_len h.row
  refine ⟨a, cap, by rw [List.length_map]; exact h1, by rw [List.length_map]; exact h2, h3, fun i t ht => ?_⟩
  rw [List.getElem?_map] at ht
  cases hp : l[i]? with
  | none => rw [hp] at ht; cases ht
  | some p =>
    rw [hp] at ht
    cases ht
    obtain ⟨g, ha, hc⟩ := h4 i p hp
    exact ⟨g, 0, ha, p.2, by simpa using hc 0 _ rfl, by simpa using hc 1 _ rfl, flds_new (h.flds p (List.mem_of_getElem? hp))⟩
theorem BookNew.at {lo : Nat} {w : World} {x y z : Value} {ks ps : List Tri} {es : List Ent} (h : BookNew lo w x y z ks ps es) : BookAt w x y z ks ps es := ⟨tris_new h.k, tris_new h.p, ents_new h.e⟩

theorem eat_succ (g : Ent) (l : List Ent) (i : Nat) : eat (g :: l) (i + 1) = eat l i := by simp [eat]
theorem putE_hit : ∀ (es : List Ent) (n : ByteArray) (f : Fld) (k : Nat), (es.Pairwise fun a b => blS a.name b.name = true) → k < es.length → (eat es k).name = n → putE es n f = es.set k ⟨(eat es k).name, putF (eat es k).fs f⟩
  | [], n, f, k, _, hk, _ => by simp at hk
  | e :: es, n, f, 0, _, _, hn => by
    have e0 : eat (e :: es) 0 = e := rfl
    rw [e0] at hn ⊢
    rw [putE, if_pos hn]
    rfl
  | e :: es, n, f, k + 1, h, hk, hn => by
    have h' := List.pairwise_cons.1 h
    rw [eat_succ] at hn ⊢
    have hk' : k < es.length := by simpa using hk
    have hlt : blS e.name n = true := by
      rw [← hn]
      exact h'.1 _ (List.mem_of_getElem? (eat_get hk'))
    have hne : ¬ e.name = n := fun h => by rw [h] at hlt; exact absurd hlt (by rw [blS_irrefl]; simp)
    rw [putE, if_neg hne, if_pos hlt, putE_hit es n f k h'.2 hk' hn]
    rfl
theorem putE_in : ∀ (es : List Ent) (n : ByteArray) (f : Fld) (j : Nat), j ≤ es.length → (∀ e ∈ es, ¬ e.name = n) → (∀ i, i < j → blS (eat es i).name n = true) → (j < es.length → blS (eat es j).name n = false) → putE es n f = es.take j ++ ⟨n, [f]⟩ :: es.drop j
  | [], n, f, j, hj, _, _, _ => by
    have : j = 0 := by simpa using hj
    subst this; rfl
  | e :: es, n, f, 0, hj, hne, hl, he => by
    have h0 := he (by simp)
    have e0 : eat (e :: es) 0 = e := rfl
    rw [e0] at h0
    rw [putE, if_neg (hne e (by simp)), if_neg (by rw [h0]; simp)]
    rfl
  | e :: es, n, f, j + 1, hj, hne, hl, he => by
    have h0 := hl 0 (by omega)
    have e0 : eat (e :: es) 0 = e := rfl
    rw [e0] at h0
    rw [putE, if_neg (hne e (by simp)), if_pos h0, putE_in es n f j (by simpa using hj) (fun x hx => hne x (by simp [hx])) (fun i hi => by have := hl (i + 1) (by omega); rwa [eat_succ] at this) (fun hlt => by have := he (by simpa using hlt); rwa [eat_succ] at this)]
    rfl
theorem pairRows_set : ∀ (l : List EntV) (k : Nat) (p : EntV) (e : Ent) (v : Value), l[k]? = some p → e.name = p.1.name → pairRows (l.set k (e, v)) = (pairRows l).set (k * 2 + 1) v
  | [], k, p, e, v, hk, _ => by simp at hk
  | a :: l, 0, p, e, v, hk, hn => by
    have : a = p := by simpa using hk
    subst this
    simp [pairRows, pairRow, hn]
  | a :: l, k + 1, p, e, v, hk, hn => by
    have ih := pairRows_set l k p e v (by simpa using hk) hn
    have c : ∀ (x : EntV) (m : List EntV), pairRows (x :: m) = pairRow x ++ pairRows m := fun x m => by simp [pairRows]
    rw [List.set_cons_succ, c, c, ih, show (k + 1) * 2 + 1 = 2 + (k * 2 + 1) by omega, List.set_append_right _ _ (by simp [pairRow])]
    simp [pairRow]
/-- The fields of an entry turned. -/
theorem PairsNew.turn {w w1 : World} {B g n cap k : Nat} {l : List EntV} {e : Ent} {fv v : Value} {fs : List Fld} (h : PairsNew w B (.slice (some ⟨g, 0, none⟩) n cap) l) (hk : l[k]? = some (e, fv)) (hown : w1.ownsRow B 62 3 v fs.length (fldRows fs)) (hg : w.grownBy w1 fv.ownBlock) (hat : ∀ j, v.ownBlock = some j → fv.ownBlock = some j ∨ w.heap.size ≤ j) :
    PairsNew (w1.setCell ⟨g, k * 2 + 1, none⟩ v) B (.slice (some ⟨g, 0, none⟩) n cap) (l.set k (⟨e.name, fs⟩, v)) := by
  have hkl := (List.getElem?_eq_some_iff.1 hk).1
  have hfl := h.flds (e, fv) (List.mem_of_getElem? hk)
  have hrow1 : w1.ownsRow B 73 2 (.slice (some ⟨g, 0, none⟩) n cap) l.length (pairRows l) := ownsRow_farF h.row hg (own_apart hfl h.row (by decide))
  have gs := grown_setF w1 g (k * 2 + 1) v
  have hpw := List.pairwise_iff_getElem.1 h.apart
  have hdiff : ∀ (i : Nat) (q : EntV), i ≠ k → l[i]? = some q → ∀ b, q.2.ownBlock = some b → fv.ownBlock ≠ some b := fun i q hik hq b hb hb' => by
    obtain ⟨hi, rfl⟩ := List.getElem?_eq_some_iff.1 hq
    obtain ⟨hk', hke⟩ := List.getElem?_eq_some_iff.1 hk
    rcases Nat.lt_or_gt_of_ne hik with hlt | hgt
    · exact hpw i k hi hk' hlt b hb (by rw [hke]; exact hb')
    · exact hpw k i hk' hi hgt b (by rw [hke]; exact hb') hb
  have hold : ∀ (i : Nat) (q : EntV), i ≠ k → l[i]? = some q → w1.ownsRow B 62 3 q.2 q.1.fs.length (fldRows q.1.fs) := fun i q hik hq => ownsRow_farF (h.flds q (List.mem_of_getElem? hq)) hg (fun b hb e => hdiff i q hik hq b hb e.symm)
  refine ⟨?_, fun p hp => ?_, ?_⟩
  · rw [pairRows_set l k (e, fv) ⟨e.name, fs⟩ v hk rfl, List.length_set]
    exact own_set1 hrow1 _ _
  · obtain ⟨i, hi, rfl⟩ := List.getElem_of_mem hp
    rw [List.length_set] at hi
    by_cases e0 : i = k
    · subst e0
      rw [List.getElem_set_self]
      exact ownsRow_farF hown gs (own_apart hrow1 hown (by decide))
    · have hq : l[i]? = some l[i] := List.getElem?_eq_getElem hi
      rw [List.getElem_set_ne (Ne.symm e0)]
      have h1 := hold i _ e0 hq
      exact ownsRow_farF h1 gs (own_apart hrow1 h1 (by decide))
  · rw [List.pairwise_iff_getElem]
    intro i j hi0 hj0 hij b hb hb'
    have hi : i < l.length := by simpa using hi0
    have hj : j < l.length := by simpa using hj0
    by_cases ei : i = k
    · have ej : j ≠ k := by omega
      subst ei
      rw [List.getElem_set_self] at hb
      rw [List.getElem_set_ne (Ne.symm ej)] at hb'
      have hq : l[j]? = some l[j] := List.getElem?_eq_getElem hj
      rcases hat b hb with h1 | h1
      · exact hdiff j _ ej hq b hb' h1
      · have := own_lt (h.flds _ (List.mem_of_getElem? hq)) b hb'; omega
    · rw [List.getElem_set_ne (Ne.symm ei)] at hb
      have hq : l[i]? = some l[i] := List.getElem?_eq_getElem hi
      by_cases ej : j = k
      · subst ej
        rw [List.getElem_set_self] at hb'
        rcases hat b hb' with h1 | h1
        · exact hdiff i _ ei hq b hb h1
        · have := own_lt (h.flds _ (List.mem_of_getElem? hq)) b hb; omega
      · rw [List.getElem_set_ne (Ne.symm ej)] at hb'
        exact hpw i j hi hj hij b hb hb'
/-- An entry put in. -/
theorem PairsNew.ins {w w1 : World} {B j : Nat} {o o' fv : Value} {l : List EntV} {e : Ent} (h : PairsNew w B o l) (hb : Below w.heap.size w w1) (hf : w1.ownsRow B 62 3 fv e.fs.length (fldRows e.fs)) (hnew : ∀ q, fv.ownBlock = some q → w.heap.size ≤ q) (hown : w1.ownsRow B 73 2 o' (l.take j ++ (e, fv) :: l.drop j).length (pairRows (l.take j ++ (e, fv) :: l.drop j))) :
    PairsNew w1 B o' (l.take j ++ (e, fv) :: l.drop j) := by
  have hmem : ∀ p, p ∈ l.take j ∨ p ∈ l.drop j → p ∈ l := fun p hp => by
    rcases hp with hp | hp
    · exact List.mem_of_mem_take hp
    · exact List.mem_of_mem_drop hp
  have hfar : ∀ p ∈ l, ∀ q, p.2.ownBlock = some q → fv.ownBlock ≠ some q := fun p hp q h1 h2 => by
    have := own_lt (h.flds p hp) q h1
    have := hnew q h2
    omega
  have hsp : (l.take j ++ l.drop j).Pairwise fun p q => ∀ k, p.2.ownBlock = some k → q.2.ownBlock ≠ some k := by rw [List.take_append_drop]; exact h.apart
  have hsp' := List.pairwise_append.1 hsp
  refine ⟨hown, fun p hp => ?_, ?_⟩
  · rw [List.mem_append, List.mem_cons] at hp
    rcases hp with hp | rfl | hp
    · exact ownsRow_keep (h.flds p (hmem p (.inl hp))) hb
    · exact hf
    · exact ownsRow_keep (h.flds p (hmem p (.inr hp))) hb
  · rw [List.pairwise_append, List.pairwise_cons]
    refine ⟨hsp'.1, ⟨fun q hq k hk hk' => hfar q (hmem q (.inr hq)) k hk' hk, hsp'.2.1⟩, fun p hp q hq => ?_⟩
    rcases List.mem_cons.1 hq with rfl | hq
    · exact fun k hk => hfar p (hmem p (.inl hp)) k hk
    · exact hsp'.2.2 p hp q hq
theorem pairRows_app (a b : List EntV) : pairRows (a ++ b) = pairRows a ++ pairRows b := by simp [pairRows]
theorem pairRows_cons (a : EntV) (b : List EntV) : pairRows (a :: b) = pairRow a ++ pairRows b := by simp [pairRows]
theorem eat_map {l : List EntV} {k : Nat} (hk : k < l.length) : ∃ fv, l[k]? = some (eat (l.map (·.1)) k, fv) := by
  refine ⟨l[k].2, ?_⟩
  rw [List.getElem?_eq_getElem hk]
  simp [eat, hk]
end Go.Proofs.YtfjblenkcfdbiaaGreat

/-
  For laws over answers that are books: boxes of the law's own; what the marks leave alone.
-/
namespace Go.Proofs.YtfjblenkcfdbiaaGreat
open Go.RowKit
set_option linter.unusedSimpArgs false
set_option linter.unusedVariables false

/-- Boxes: a block, what lies in it, its type. -/
abbrev Bx := Nat × Array Value × TypeId
structure Bxs (w wr : World) (bs : List Bx) : Prop where
  below : Below w.heap.size w wr
  has : ∀ p ∈ bs, wr.heap[p.1]? = some (.cells p.2.1 p.2.2 (0, 0))
theorem Bxs.lt {w wr : World} {bs : List Bx} (h : Bxs w wr bs) {p : Bx} (hp : p ∈ bs) : p.1 < wr.heap.size := (Array.getElem?_eq_some_iff.1 (h.has p hp)).1
theorem Bxs.call {w wr wy : World} {bs : List Bx} (h : Bxs w wr bs) (hb : Below wr.heap.size wr wy) : Bxs w wy bs := ⟨below_step h.below hb, fun p hp => (hb.block _ (h.lt hp)).trans (h.has p hp)⟩
theorem Bxs.drew {w wr : World} {bs : List Bx} (h : Bxs w wr bs) : Bxs w wr.drew bs := ⟨h.below.drew, h.has⟩
theorem Bxs.push {w wr : World} {bs : List Bx} (h : Bxs w wr bs) {X : Nat} {C : Array Value} {T : TypeId} (hX : wr.heap[X]? = some (.cells C T (0, 0))) : Bxs w wr ((X, C, T) :: bs) :=
  ⟨h.below, fun p hp => by
    rcases List.mem_cons.1 hp with rfl | hp
    · exact hX
    · exact h.has p hp⟩
theorem Bxs.cell {w wr : World} {bs : List Bx} (h : Bxs w wr bs) (i : Nat) {X : Nat} {C : Array Value} {T : TypeId} (hi : bs[i]? = some (X, C, T)) (j : Nat) : wr.cell? ⟨X, j, none⟩ = C[j]? := by
  have := h.has _ (List.mem_of_getElem? hi)
  dsimp only at this
  simp [World.cell?, this]
theorem Bxs.same {w wr wy : World} {bs : List Bx} (h : Bxs w wr bs) (hb : Below w.heap.size w wy) (hs : ∀ p ∈ bs, wy.heap[p.1]? = wr.heap[p.1]?) : Bxs w wy bs := ⟨hb, fun p hp => (hs p hp).trans (h.has p hp)⟩
theorem Bxs.start2 (w : World) (A C : Array Value) (T U : TypeId) : Bxs w ((w.alloc (.cells A T)).alloc (.cells C U)) [(w.heap.size, A, T), (w.heap.size + 1, C, U)] := by
  have s1 : (w.alloc (.cells A T)).heap.size = w.heap.size + 1 := by simp
  have h1 := heap_newF w (.cells A T)
  have h2 := heap_newF (w.alloc (.cells A T)) (.cells C U)
  rw [s1] at h2
  refine ⟨((Below.refl _ _).alloc (Nat.le_refl _) _).alloc (by simp) _, fun p hp => ?_⟩
  simp only [List.mem_cons, List.not_mem_nil, or_false] at hp
  rcases hp with rfl | rfl
  · exact (Below.heap_alloc _ _ _ (by omega)).trans h1
  · exact h2
theorem BookNew.lt {lo : Nat} {w : World} {x y z : Value} {ks ps : List Tri} {es : List Ent} (h : BookNew lo w x y z ks ps es) {w' : World} (hs : ∀ k, lo ≤ k → k < w.heap.size → w'.heap[k]? = w.heap[k]?) : BookNew lo w' x y z ks ps es := by
  obtain ⟨h1, h2, l, h3, h4⟩ := h
  have go : ∀ {e : TypeId} {c : Nat} {v : Value} {n : Nat} {xs : List Value}, w.ownsRow lo e c v n xs → w'.ownsRow lo e c v n xs := fun h => ownsRow_sameM h (fun k hk hl => hs k (own_ge h k hk) hl)
  exact ⟨go h1, go h2, l, h3, go h4.row, fun p hp => go (h4.flds p hp), h4.apart⟩
theorem sumN_le_mul {α : Type} (g : α → Nat) (M : Nat) : ∀ l : List α, (∀ a ∈ l, g a ≤ M) → sumN g l ≤ l.length * M
  | [], _ => by simp [sumN]
  | a :: l, h => by
    have h1 := h a (by simp)
    have h2 := sumN_le_mul g M l (fun b hb => h b (by simp [hb]))
    simp only [sumN, List.length_cons, Nat.succ_mul]
    omega
end Go.Proofs.YtfjblenkcfdbiaaGreat

/-
  The specification's l2Number.
-/
namespace Go.Proofs.YtfjblenkcfdbiaaGreat
open Go.RowKit

set_option maxHeartbeats 1600000 in
theorem l2Number_any (s : ByteArray) (w : World) (hs : s.size ≤ maxLen) :
    Calls Tryz.prog 97 #[.string s] w fun e w' => e = .returned (.int .i64 (bif decB s then (numTo s s.size : Int) else -1)) ∧ w' = w := by
  unfold maxLen at hs
  cases hin : inB s.size 1 7
  · have e : decB s = false := by simp [decB, hin]
    have HI : Hid (inB s.size 1 7 = false) := hin
    rw [e]; clear e hin
    go_enter Tryz.func97, Tryz.ntmps97
    go_wp2_with fail
    refine (l1In_any _ _ _ _).mono ?_
    rw [HI.out]
    rintro e w' ⟨rfl, rfl⟩
    go_wp2
    go_ret
    exact ⟨rfl, rfl⟩
  have HI : Hid (inB s.size 1 7 = true) := hin
  have hz : 0 < s.size := by simp [inB] at hin; omega
  have hsz7 : s.size ≤ 7 := by simp [inB] at hin; omega
  cases hl : leadB s
  · have e : decB s = digitsB s := by simp [decB, hin, hl]
    rw [e]; clear e hin
    by_cases h3 : (1 : Int) < s.size
    · have h4 : (((s[0].toNat : Nat) : Int) == 48) = false := by
        rw [u8_zero]
        have : 1 < s.size := by omega
        simp only [leadB, this, decide_true, Bool.true_and, getD_byte hz] at hl
        exact hl
      clear hl
      go_enter Tryz.func97, Tryz.ntmps97
      go_wp2_with fail
      refine (l1In_any _ _ _ _).mono ?_
      rw [HI.out]
      rintro e w' ⟨rfl, rfl⟩
      go_wp2
      go_loop [3, 4] (fun n i => ∃ k : Nat, k ≤ s.size ∧ i = .int .i64 k ∧ n = .int .i64 (numTo s k : Int) ∧ Hid (∀ j (hj : j < s.size), j < k → digB (s[j].toNat) = true)) (fun _ i => s.size - (intOf i).toNat)
      case atStart => exact ⟨0, Nat.zero_le _, rfl, rfl, fun j _ hj => absurd hj (Nat.not_lt_zero _)⟩
      case round =>
        obtain ⟨k, hk, rfl, rfl, HA⟩ := hrel
        by_cases hlt : k < s.size
        · have hn7 : numTo s k < 10000000 := numTo_seven k hsz7 hk HA.out
          have HS : Hid (numTo s (k + 1) = numTo s k * 10 + (s[k].toNat - 48)) := by
            show numTo s (k + 1) = _
            rw [numTo, getD_byte hlt]
          have hc8 : s[k].toNat < 256 := s[k].toNat_lt
          generalize numTo s k = nk at hn7 HS
          by_cases h5 : ((s[k].toNat : Nat) : Int) < 48
          · go_wp2
            go_ret
            have e : digitsB s = false := digitsB_false hlt (by simp [digB]; omega)
            rw [e]
            exact ⟨rfl, rfl⟩
          · by_cases h6 : (57 : Int) < ((s[k].toNat : Nat) : Int)
            · go_wp2
              go_ret
              have e : digitsB s = false := digitsB_false hlt (by simp [digB]; omega)
              rw [e]
              exact ⟨rfl, rfl⟩
            · go_wp2
              go_round
              case rel => exact ⟨k + 1, by omega, by go_num, by rw [HS.out]; congr 1; omega, fun j hj hjk => if h : j = k then by subst h; rw [digB_iff]; omega else HA.out j hj (by omega)⟩
              case measure => simp [intOf]; omega
        · have HT : Hid (digitsB s = true) := digitsB_true fun j hj => HA.out j hj (by omega)
          have HK : Hid (k = s.size) := by show k = s.size; omega
          go_wp2
          go_ret
          rw [HT.out, HK.out]
          exact ⟨rfl, rfl⟩
    · clear hl
      go_enter Tryz.func97, Tryz.ntmps97
      go_wp2_with fail
      refine (l1In_any _ _ _ _).mono ?_
      rw [HI.out]
      rintro e w' ⟨rfl, rfl⟩
      go_wp2
      go_loop [3, 4] (fun n i => ∃ k : Nat, k ≤ s.size ∧ i = .int .i64 k ∧ n = .int .i64 (numTo s k : Int) ∧ Hid (∀ j (hj : j < s.size), j < k → digB (s[j].toNat) = true)) (fun _ i => s.size - (intOf i).toNat)
      case atStart => exact ⟨0, Nat.zero_le _, rfl, rfl, fun j _ hj => absurd hj (Nat.not_lt_zero _)⟩
      case round =>
        obtain ⟨k, hk, rfl, rfl, HA⟩ := hrel
        by_cases hlt : k < s.size
        · have hn7 : numTo s k < 10000000 := numTo_seven k hsz7 hk HA.out
          have HS : Hid (numTo s (k + 1) = numTo s k * 10 + (s[k].toNat - 48)) := by
            show numTo s (k + 1) = _
            rw [numTo, getD_byte hlt]
          have hc8 : s[k].toNat < 256 := s[k].toNat_lt
          generalize numTo s k = nk at hn7 HS
          by_cases h5 : ((s[k].toNat : Nat) : Int) < 48
          · go_wp2
            go_ret
            have e : digitsB s = false := digitsB_false hlt (by simp [digB]; omega)
            rw [e]
            exact ⟨rfl, rfl⟩
          · by_cases h6 : (57 : Int) < ((s[k].toNat : Nat) : Int)
            · go_wp2
              go_ret
              have e : digitsB s = false := digitsB_false hlt (by simp [digB]; omega)
              rw [e]
              exact ⟨rfl, rfl⟩
            · go_wp2
              go_round
              case rel => exact ⟨k + 1, by omega, by go_num, by rw [HS.out]; congr 1; omega, fun j hj hjk => if h : j = k then by subst h; rw [digB_iff]; omega else HA.out j hj (by omega)⟩
              case measure => simp [intOf]; omega
        · have HT : Hid (digitsB s = true) := digitsB_true fun j hj => HA.out j hj (by omega)
          have HK : Hid (k = s.size) := by show k = s.size; omega
          go_wp2
          go_ret
          rw [HT.out, HK.out]
          exact ⟨rfl, rfl⟩
  · have e : decB s = false := by simp [decB, hl]
    have h3 : (1 : Int) < s.size := by
      have : 1 < s.size := by simp [leadB] at hl; exact hl.1
      omega
    have h4 : (((s[0].toNat : Nat) : Int) == 48) = true := by
      rw [u8_zero]
      simp only [leadB, Bool.and_eq_true, getD_byte hz] at hl
      exact hl.2
    rw [e]; clear e hl hin
    go_enter Tryz.func97, Tryz.ntmps97
    go_wp2_with fail
    refine (l1In_any _ _ _ _).mono ?_
    rw [HI.out]
    rintro e w' ⟨rfl, rfl⟩
    go_wp2
    go_ret
    exact ⟨rfl, rfl⟩
end Go.Proofs.YtfjblenkcfdbiaaGreat

/-
  The specification: where a kind or a point is; times, routes; what fits; a change that is ok.
-/
namespace Go.Proofs.YtfjblenkcfdbiaaGreat
open Go.RowKit
attribute [local go_sem] Later.cell Later.frozen

/-- Where it is; -1 if it is not there. -/
def atI (l : List Tri) (v : ByteArray) : Int := if memB l v = true then ((l.findIdx fun t => decide (t.s = v) : Nat) : Int) else -1
theorem atI_some {l : List Tri} {v : ByteArray} {k : Nat} (hk : k < l.length) (h : (at' l k).s = v) (hn : ∀ j, j < k → ¬ (at' l j).s = v) : atI l v = k := by
  unfold atI
  rw [if_pos (memB_true hk h)]
  have e : ∀ j (hj : j < l.length), at' l j = l[j] := fun j hj => by simp [at', hj]
  have : (l.findIdx fun t => decide (t.s = v)) = k := by
    rw [List.findIdx_eq hk]
    refine ⟨by rw [← e k hk]; simpa using h, fun j hj => by rw [← e j (by omega)]; simpa using hn j hj⟩
  rw [this]
theorem atI_none {l : List Tri} {v : ByteArray} (h : ∀ j, j < l.length → ¬ (at' l j).s = v) : atI l v = -1 := by
  unfold atI; rw [if_neg]; rw [memB_false h]; simp
theorem atI_has (l : List Tri) (v : ByteArray) : decide (0 ≤ atI l v) = memB l v := by
  unfold atI; cases memB l v <;> simp
theorem atI_no (l : List Tri) (v : ByteArray) : decide (atI l v < 0) = !memB l v := by
  unfold atI; cases memB l v <;> simp
theorem atI_ge (l : List Tri) (v : ByteArray) : -1 ≤ atI l v := by
  unfold atI; split <;> omega

set_option maxHeartbeats 800000 in
theorem l1Kind_any (vk vp : Value) (l : List Tri) (s : ByteArray) (w : World) (hv : TrisAt w vk l) :
    Calls Tryz.prog 95 #[.agg #[vk, vp], .string s] w fun e w' => e = .returned (.int .i64 (atI l s)) ∧ Below w.heap.size w w' := by
  obtain ⟨a, cap, rfl, hlc, hcm, hc⟩ := hv
  unfold maxLen at hcm
  have HC : Hid (∀ i t, l[i]? = some t → ∃ b off, a = some ⟨b, off, none⟩ ∧ TriAt w b (off + i * 3) t) := hc
  clear hc
  go_enter Tryz.func95, Tryz.ntmps95
  go_wp2
  go_loopw [5] (fun i wr => ∃ k : Nat, k ≤ l.length ∧ i = .int .i64 k ∧ Boxed w wr (.slice a l.length cap) vp ∧ Hid (∀ j, j < k → ¬ (at' l j).s = s)) (fun i _ => l.length - (intOf i).toNat)
  case atStart => exact ⟨0, Nat.zero_le _, rfl, Boxed.start _ _ _ _, fun j hj => absurd hj (Nat.not_lt_zero _)⟩
  case round =>
    obtain ⟨k, hk, rfl, hx, HA⟩ := hrel
    have x0 := hx.c0
    have x1 := hx.c1
    have HX : Hid (Boxed w wr (.slice a l.length cap) vp) := hx
    clear hx
    by_cases hlt : k < l.length
    · obtain ⟨b, off, rfl, hc⟩ := HC.out k _ (at_get hlt)
      obtain ⟨d0, d1, d2⟩ := hc.keep HX.out.below (Nat.le_refl _)
      have hk0 : (0 : Int) ≤ (k : Int) := by omega
      have hk1 : (k : Int) < (l.length : Int) := by omega
      by_cases hx : (at' l k).s = s
      · have h1 : ((at' l k).s.toList == s.toList) = true := str_eq hx
        have HH : Hid ((at' l k).s = s) := hx
        clear hx
        go_wp2
        go_ret
        exact ⟨ret_int (atI_some hlt HH.out HA.out).symm, HX.out.below⟩
      · have h1 : ((at' l k).s.toList == s.toList) = false := str_ne hx
        have HH : Hid (¬ (at' l k).s = s) := hx
        clear hx
        go_wp2
        exact ⟨⟨k + 1, by omega, by go_num, HX.out, fun j hj => if e : j = k then by rw [e]; exact HH.out else HA.out j (by omega)⟩, by simp [intOf]; omega⟩
    · go_wp2
      go_ret
      exact ⟨ret_int (atI_none fun j hj => HA.out j (by omega)).symm, HX.out.below⟩

set_option maxHeartbeats 800000 in
theorem l1Point_any (vk vp : Value) (l : List Tri) (s : ByteArray) (w : World) (hv : TrisAt w vp l) :
    Calls Tryz.prog 113 #[.agg #[vk, vp], .string s] w fun e w' => e = .returned (.int .i64 (atI l s)) ∧ Below w.heap.size w w' := by
  obtain ⟨a, cap, rfl, hlc, hcm, hc⟩ := hv
  unfold maxLen at hcm
  have HC : Hid (∀ i t, l[i]? = some t → ∃ b off, a = some ⟨b, off, none⟩ ∧ TriAt w b (off + i * 3) t) := hc
  clear hc
  go_enter Tryz.func113, Tryz.ntmps113
  go_wp2
  go_loopw [5] (fun i wr => ∃ k : Nat, k ≤ l.length ∧ i = .int .i64 k ∧ Boxed w wr vk (.slice a l.length cap) ∧ Hid (∀ j, j < k → ¬ (at' l j).s = s)) (fun i _ => l.length - (intOf i).toNat)
  case atStart => exact ⟨0, Nat.zero_le _, rfl, Boxed.start _ _ _ _, fun j hj => absurd hj (Nat.not_lt_zero _)⟩
  case round =>
    obtain ⟨k, hk, rfl, hx, HA⟩ := hrel
    have x0 := hx.c0
    have x1 := hx.c1
    have HX : Hid (Boxed w wr vk (.slice a l.length cap)) := hx
    clear hx
    by_cases hlt : k < l.length
    · obtain ⟨b, off, rfl, hc⟩ := HC.out k _ (at_get hlt)
      obtain ⟨d0, d1, d2⟩ := hc.keep HX.out.below (Nat.le_refl _)
      have hk0 : (0 : Int) ≤ (k : Int) := by omega
      have hk1 : (k : Int) < (l.length : Int) := by omega
      by_cases hx : (at' l k).s = s
      · have h1 : ((at' l k).s.toList == s.toList) = true := str_eq hx
        have HH : Hid ((at' l k).s = s) := hx
        clear hx
        go_wp2
        go_ret
        exact ⟨ret_int (atI_some hlt HH.out HA.out).symm, HX.out.below⟩
      · have h1 : ((at' l k).s.toList == s.toList) = false := str_ne hx
        have HH : Hid (¬ (at' l k).s = s) := hx
        clear hx
        go_wp2
        exact ⟨⟨k + 1, by omega, by go_num, HX.out, fun j hj => if e : j = k then by rw [e]; exact HH.out else HA.out j (by omega)⟩, by simp [intOf]; omega⟩
    · go_wp2
      go_ret
      exact ⟨ret_int (atI_none fun j hj => HA.out j (by omega)).symm, HX.out.below⟩


theorem numV_lt {x : ByteArray} (h : decB x = true) : numV x < 10000000 := by
  have h1 : inB x.size 1 7 = true := by simp only [decB, Bool.and_eq_true] at h; exact h.1
  have h2 : digitsB x = true := by simp only [decB, Bool.and_eq_true] at h; exact h.2.2
  have h3 : x.size ≤ 7 := by simp [inB] at h1; omega
  refine numTo_seven x.size h3 (Nat.le_refl _) fun j hj _ => ?_
  unfold digitsB at h2
  rw [List.all_eq_true] at h2
  exact h2 _ (by simp [ByteArray.getElem_eq_getElem_data])

/-- What l2Number answers. -/
def numI (x : ByteArray) : Int := bif decB x then (numV x : Int) else -1
theorem numI_yes {x : ByteArray} (h : decB x = true) : numI x = numV x := by unfold numI; rw [h]; rfl
theorem numI_no {x : ByteArray} (h : decB x = false) : numI x = -1 := by unfold numI; rw [h]; rfl
theorem time_num (x0 x1 : ByteArray) : (decB x0 && (decB x1 && (decide (numV x0 ≤ numV x1) && decide (numV x1 ≤ 10000)))) = (decide (0 ≤ numI x0) && inB (numI x1) (numI x0) 10000) := by
  cases h0 : decB x0
  · rw [numI_no h0]; rfl
  · rw [numI_yes h0]
    cases h1 : decB x1
    · rw [numI_no h1]; simp [inB]; omega
    · rw [numI_yes h1, Bool.eq_iff_iff]; simp [inB]; omega

set_option maxHeartbeats 1600000 in
theorem l2TimeOk_any (v : Value) (ws : List ByteArray) (w : World) (hv : StrsAt w v ws) (hz : ∀ x ∈ ws, x.size ≤ 1048576) :
    Calls Tryz.prog 96 #[v] w fun e w' => e = .returned (.bool (timeB ws)) ∧ Below w.heap.size w w' := by
  obtain ⟨g, off, cap, rfl, hlc, hcm, hc⟩ := hv
  unfold maxLen at hcm
  by_cases h2 : ws.length = 2
  · have h2' : (((ws.length : Nat) : Int) == 2) = true := by simp [h2]
    have h2i : (1 : Int) < ((ws.length : Nat) : Int) := by omega
    have h2j : 1 < ws.length := by omega
    have h2k : 0 < ws.length := by omega
    have c0 : w.cell? ⟨g, off, none⟩ = some (.string (wat ws 0)) := by simpa using hc 0 _ (wat_get h2k)
    have c1 : w.cell? ⟨g, off + 1, none⟩ = some (.string (wat ws 1)) := hc 1 _ (wat_get h2j)
    have hg : g < w.heap.size := lt_of_cell c0
    have Z0 : Hid ((wat ws 0).size ≤ 1048576) := hz _ (List.mem_of_getElem? (wat_get h2k))
    have Z1 : Hid ((wat ws 1).size ≤ 1048576) := hz _ (List.mem_of_getElem? (wat_get h2j))
    have HE : Hid (timeB ws = (decB (wat ws 0) && (decB (wat ws 1) && (decide (numV (wat ws 0) ≤ numV (wat ws 1)) && decide (numV (wat ws 1) ≤ 10000))))) := by show timeB ws = _; unfold timeB; simp [h2]
    clear hz hc h2
    generalize wat ws 0 = x0 at *
    generalize wat ws 1 = x1 at *
    have hne := Later.some w
    have GN : Hid (∀ (x : ByteArray), x.size ≤ 1048576 → ∀ y : Later w, Calls Tryz.prog 97 #[.string x] y.val fun e w'' => e = .returned (.int .i64 (numI x)) ∧ ∃ z : Later w, w'' = z.val) :=
      fun x hx y => Calls.later_same (l2Number_any x y.val (by unfold maxLen; omega))
    have GI : Hid (∀ (a b c : Int) (y : Later w), Calls Tryz.prog 57 #[.int .i64 a, .int .i64 b, .int .i64 c] y.val fun e w'' => e = .returned (.bool (inB a b c)) ∧ ∃ z : Later w, w'' = z.val) :=
      fun a b c y => Calls.later_same (l1In_any a b c y.val)
    have HE2 : Hid (timeB ws = (decide (0 ≤ numI x0) && inB (numI x1) (numI x0) 10000)) := by
      show timeB ws = _
      rw [HE.out]; exact time_num x0 x1
    clear HE
    by_cases hq : 0 ≤ numI x0
    · have hq' : decide (0 ≤ numI x0) = true := decide_eq_true hq
      have HE : Hid (timeB ws = inB (numI x1) (numI x0) 10000) := by show timeB ws = _; rw [HE2.out, hq']; rfl
      have z0 := Z0.out
      have z1 := Z1.out
      clear HE2 Z0 Z1
      go_enter Tryz.func96, Tryz.ntmps96
      go_wp2
      refine wp_region_later (by kernel_rfl) (by kernel_rfl) ?_
      repeat (go_big_quiet_step (first | (go_at_call 97; exact GN.out _ (by assumption) _) | (go_at_call 57; exact GI.out _ _ _ _)))
      refine wpQuiet_nil ?_
      rintro _ ⟨x, rfl⟩
      go_wp2
      go_ret
      exact ⟨ret_bool HE.out.symm, x.below⟩
    · have hq' : decide (0 ≤ numI x0) = false := decide_eq_false hq
      have HE : Hid (timeB ws = false) := by show timeB ws = _; rw [HE2.out, hq']; rfl
      have z0 := Z0.out
      clear HE2 Z0 Z1 hq
      go_enter Tryz.func96, Tryz.ntmps96
      go_wp2
      refine wp_region_later (by kernel_rfl) (by kernel_rfl) ?_
      repeat (go_big_quiet_step (first | (go_at_call 97; exact GN.out _ (by assumption) _)))
      refine wpQuiet_nil ?_
      rintro _ ⟨x, rfl⟩
      go_wp2
      go_ret
      exact ⟨ret_bool HE.out.symm, x.below⟩
  · have h2' : (((ws.length : Nat) : Int) == 2) = false := by simp; omega
    have e : timeB ws = false := by unfold timeB; simp [h2]
    have hne := Later.some w
    rw [e]; clear e hc hz
    go_enter Tryz.func96, Tryz.ntmps96
    go_wp2
    refine wp_region_later (by kernel_rfl) (by kernel_rfl) ?_
    repeat (go_big_quiet_step (fail))
    refine wpQuiet_nil ?_
    rintro _ ⟨x, rfl⟩
    go_wp2
    go_ret
    exact ⟨rfl, x.below⟩
end Go.Proofs.YtfjblenkcfdbiaaGreat

/-
  The specification: routes; what fits; a change that is ok.
-/
namespace Go.Proofs.YtfjblenkcfdbiaaGreat
open Go.RowKit
attribute [local go_sem] Later.cell Later.frozen

theorem StrsAt.cellS {w : World} {g off n cap : Nat} {ws : List ByteArray} (h : StrsAt w (.slice (some ⟨g, off, none⟩) n cap) ws) (i : Nat) (hi : i < ws.length) : w.cell? ⟨g, off + i, none⟩ = some (.string (wat ws i)) := by
  obtain ⟨g', off', cap', e, _, _, hc⟩ := h
  cases e
  exact hc i _ (wat_get hi)
theorem routeB_noS {ps : List Tri} {ws : List ByteArray} (h : inB ws.length 2 8 = false) : routeB ps ws = false := by unfold routeB; rw [h]; rfl
theorem routeB_yesS {ps : List Tri} {ws : List ByteArray} (h : inB ws.length 2 8 = true) : routeB ps ws = allB ws.length (stepB ps ws) := by unfold routeB; rw [h]; rfl

set_option maxHeartbeats 3200000 in
theorem l2RouteOk_any (vk vp v : Value) (ps : List Tri) (ws : List ByteArray) (w : World) (hp : TrisAt w vp ps) (hv : StrsAt w v ws) (hmem : ∀ x, memB ps x = hasB ps x) :
    Calls Tryz.prog 98 #[.agg #[vk, vp], v] w fun e w' => e = .returned (.bool (routeB ps ws)) ∧ Below w.heap.size w w' := by
  have HST : Hid (StrsAt w v ws) := hv
  have HP : Hid (TrisAt w vp ps) := hp
  have HMEM : Hid (∀ x, memB ps x = hasB ps x) := hmem
  obtain ⟨g, off, cap, rfl, hlc, hcm, -⟩ := hv
  clear hp hmem
  unfold maxLen at hcm
  cases hin : inB ws.length 2 8
  · have HI : Hid (inB ws.length 2 8 = false) := hin
    have e : routeB ps ws = false := routeB_noS hin
    rw [e]; clear e hin
    go_enter Tryz.func98, Tryz.ntmps98
    go_wp2_with fail
    refine (l1In_any _ _ _ _).mono ?_
    rw [HI.out]
    rintro e w1 ⟨rfl, rfl⟩
    go_wp2
    go_ret
    exact ⟨rfl, (Below.refl _ _).alloc (Nat.le_refl _) _⟩
  have HI : Hid (inB ws.length 2 8 = true) := hin
  have e : routeB ps ws = allB ws.length (stepB ps ws) := routeB_yesS hin
  have h8 : ws.length ≤ 8 := by simp [inB] at hin; omega
  rw [e]; clear e hin
  go_enter Tryz.func98, Tryz.ntmps98
  go_wp2_with fail
  refine (l1In_any _ _ _ _).mono ?_
  rw [HI.out]
  rintro e w1 ⟨rfl, rfl⟩
  go_wp2
  go_loopw [5] (fun i wr => ∃ k : Nat, k ≤ ws.length ∧ i = .int .i64 k ∧ Boxed w wr vk vp ∧ Hid (∀ j, j < k → stepB ps ws j = true)) (fun i _ => ws.length - (intOf i).toNat)
  case atStart => exact ⟨0, Nat.zero_le _, rfl, Boxed.start _ _ _ _, fun j hj => absurd hj (Nat.not_lt_zero _)⟩
  case round =>
    obtain ⟨k, hk, rfl, hx, HA⟩ := hrel
    have x0 := hx.c0
    have x1 := hx.c1
    have xz := hx.big
    have HX : Hid (Boxed w wr vk vp) := hx
    clear hx
    by_cases hlt : k < ws.length
    · have c0 : wr.cell? ⟨g, off + k, none⟩ = some (.string (wat ws k)) := (HST.out.keep HX.out.below).cellS k hlt
      have hgl : g < wr.heap.size := lt_of_cell c0
      have hk0 : (0 : Int) ≤ (k : Int) := by omega
      have hk1 : (k : Int) < (ws.length : Int) := by omega
      have hne := Later.some wr
      have GP : Hid (∀ (x : ByteArray) (y : Later wr), Calls Tryz.prog 113 #[.agg #[vk, vp], .string x] y.val fun e w'' => e = .returned (.int .i64 (atI ps x)) ∧ ∃ z : Later wr, w'' = z.val) :=
        fun x y => Calls.later (l1Point_any vk vp ps x y.val ((HP.out.keep HX.out.below).keep y.below))
      cases hh : hasB ps (wat ws k)
      · have hq : decide (atI ps (wat ws k) < 0) = true := by rw [atI_no, HMEM.out, hh]; rfl
        have HH : Hid (stepB ps ws k = false) := by show stepB ps ws k = false; unfold stepB; rw [hh]; rfl
        clear hh
        go_wp2
        refine wp_region_later (by kernel_rfl) (by kernel_rfl) ?_
        repeat (go_big_quiet_step (first | (go_at_call 113; exact GP.out _ _)))
        refine wpQuiet_nil ?_
        rintro _ ⟨x, rfl⟩
        go_wp2
        go_ret
        exact ⟨ret_bool (allB_false hlt HH.out).symm, below_step HX.out.below x.below⟩
      · have hq : decide (atI ps (wat ws k) < 0) = false := by rw [atI_no, HMEM.out, hh]; rfl
        have HH : Hid (hasB ps (wat ws k) = true) := hh
        clear hh
        by_cases hz : 0 < k
        · have hz' : decide (0 < k) = true := by simp [hz]
          have c1 : wr.cell? ⟨g, off + (k - 1), none⟩ = some (.string (wat ws (k - 1))) := (HST.out.keep HX.out.below).cellS (k - 1) (by omega)
          have hi0 : (0 : Int) ≤ (k : Int) - 1 := by omega
          have hi1 : (k : Int) - 1 < (ws.length : Int) := by omega
          by_cases hx : wat ws (k - 1) = wat ws k
          · have he : ((wat ws (k - 1)).toList == (wat ws k).toList) = true := str_eq hx
            have HF : Hid (stepB ps ws k = false) := by show stepB ps ws k = false; unfold stepB; simp [hx, hz]
            clear hx
            go_wp2
            refine wp_region_later (by kernel_rfl) (by kernel_rfl) ?_
            repeat (go_big_quiet_step (first | (go_at_call 113; exact GP.out _ _)))
            refine wpQuiet_nil ?_
            rintro _ ⟨x, rfl⟩
            go_wp2
            go_ret
            exact ⟨ret_bool (allB_false hlt HF.out).symm, below_step HX.out.below x.below⟩
          · have he : ((wat ws (k - 1)).toList == (wat ws k).toList) = false := str_ne hx
            have HF : Hid (stepB ps ws k = true) := by show stepB ps ws k = true; unfold stepB; rw [HH.out]; simp [hx]
            clear hx
            go_wp2
            refine wp_region_later (by kernel_rfl) (by kernel_rfl) ?_
            repeat (go_big_quiet_step (first | (go_at_call 113; exact GP.out _ _)))
            refine wpQuiet_nil ?_
            rintro _ ⟨x, rfl⟩
            go_wp2
            exact ⟨⟨k + 1, by omega, by go_num, HX.out.call x.below, fun j hj => if e : j = k then by rw [e]; exact HF.out else HA.out j (by omega)⟩, by simp [intOf]; omega⟩
        · have hz' : decide (0 < k) = false := by simp; omega
          have HF : Hid (stepB ps ws k = true) := by show stepB ps ws k = true; unfold stepB; rw [HH.out]; simp [hz]
          go_wp2
          refine wp_region_later (by kernel_rfl) (by kernel_rfl) ?_
          repeat (go_big_quiet_step (first | (go_at_call 113; exact GP.out _ _)))
          refine wpQuiet_nil ?_
          rintro _ ⟨x, rfl⟩
          go_wp2
          exact ⟨⟨k + 1, by omega, by go_num, HX.out.call x.below, fun j hj => if e : j = k then by rw [e]; exact HF.out else HA.out j (by omega)⟩, by simp [intOf]; omega⟩
    · go_wp2
      go_ret
      exact ⟨ret_bool (allB_true fun j hj => HA.out j (by omega)).symm, HX.out.below⟩

theorem open_listS : openS.toList = [111, 112, 101, 110] := by rw [ByteArray.toList_eq]; rfl
theorem closed_listS : closedS.toList = [99, 108, 111, 115, 101, 100] := by rw [ByteArray.toList_eq]; rfl
theorem level_num (s : ByteArray) : inB (numI s) 1 6 = levelB s := by
  unfold levelB
  cases h : decB s
  · rw [numI_no h]; rfl
  · rw [numI_yes h]; rfl

set_option maxHeartbeats 3200000 in
theorem specFits_any (vk vp : Value) (ks ps : List Tri) (what : Int) (s : ByteArray) (w : World) (hk : TrisAt w vk ks) (hp : TrisAt w vp ps) (nk : Names ks) (np : Names ps) (hs : s.size ≤ 1048576) :
    Calls Tryz.prog 58 #[.agg #[vk, vp], .int .i64 what, .string s] w fun e w' => e = .returned (.bool (baseB ks ps && valB2 ks ps what s)) ∧ Below w.heap.size w w' := by
  have HK := hk; have HP := hp
  obtain ⟨ak, ck, rfl, -, -, -⟩ := hk
  obtain ⟨ap, cp, rfl, -, -, -⟩ := hp
  have HK1 : Hid (TrisAt w (.slice ak ks.length ck) ks) := HK
  have HP1 : Hid (TrisAt w (.slice ap ps.length cp) ps) := HP
  have HB : Hid (∀ wx : World, Below w.heap.size w wx → Calls Tryz.prog 53 #[.agg #[.slice ak ks.length ck, .slice ap ps.length cp]] wx fun e w' => e = .returned (.bool (baseB ks ps)) ∧ Below wx.heap.size wx w') := fun wx hx => specBase_any _ _ ks ps wx (HK.keep hx) (HP.keep hx) nk np
  have HCUT : Hid (∀ wx : World, Calls Tryz.prog 94 #[.string s, .int .u8 32] wx fun e w' => ∃ v, e = .returned v ∧ StrsAt w' v (cutW s) ∧ Below wx.heap.size wx w') :=
    fun wx => (l2Cut_any s wx hs).mono fun e w' ⟨v, ws, he, hst, hm, hb⟩ => ⟨v, he, cutW_eq hm ▸ hst, hb⟩
  have HSZ : Hid (∀ x ∈ cutW s, x.size ≤ 1048576) := fun x hx => Nat.le_trans (cutW_size s x hx) hs
  clear HK HP nk np
  cases hbb : baseB ks ps
  · have HBB : Hid (baseB ks ps = false) := hbb
    rw [Bool.false_and]; clear hbb
    go_enter Tryz.func58, Tryz.ntmps58
    go_wp2_with fail
    refine (HB.out _ ((Below.refl _ _).alloc (Nat.le_refl _) _)).mono ?_
    rw [HBB.out]
    rintro e w1 ⟨rfl, hb1⟩
    go_wp2
    go_ret
    exact ⟨rfl, below_step ((Below.refl _ _).alloc (Nat.le_refl _) _) hb1⟩
  have HBB : Hid (baseB ks ps = true) := hbb
  have HKA : Hid (∀ i, i < ks.length → ascB ks i = true) := kinds_asc (by unfold baseB at hbb; rw [Bool.and_eq_true] at hbb; exact hbb.1)
  have HPA : Hid (∀ i, i < ps.length → ascB ps i = true) := points_asc (by unfold baseB at hbb; rw [Bool.and_eq_true] at hbb; exact hbb.2)
  rw [Bool.true_and]; clear hbb
  have HV : Hid (∀ k : Int, what = k → valB2 ks ps what s = valB2 ks ps k s) := fun k hk => by rw [hk]
  generalize hcw : cutW s = ws at *
  have E2 : Hid (valB2 ks ps 2 s = timeB ws) := by show _ = _; rw [← hcw]; rfl
  have E4 : Hid (valB2 ks ps 4 s = routeB ps ws) := by show _ = _; rw [← hcw]; rfl
  clear hcw
  have E1 : Hid (valB2 ks ps 1 s = hasB ks s) := rfl
  have E3 : Hid (valB2 ks ps 3 s = levelB s) := rfl
  have E5 : Hid (valB2 ks ps 5 s = stateB s) := rfl
  have E6 : Hid (¬ what = 1 → ¬ what = 2 → ¬ what = 3 → ¬ what = 4 → ¬ what = 5 → valB2 ks ps what s = false) := fun h1 h2 h3 h4 h5 => by simp [valB2, h1, h2, h3, h4, h5]
  go_enter Tryz.func58, Tryz.ntmps58
  go_wp2_with fail
  refine (HB.out _ ((Below.refl _ _).alloc (Nat.le_refl _) _)).mono ?_
  rw [HBB.out]
  rintro e w1 ⟨rfl, hb1⟩
  have hx1 : Boxed w w1 (.slice ak ks.length ck) (.slice ap ps.length cp) := (Boxed.start w _ _ _).call hb1
  have HX1 : Hid (Boxed w w1 (.slice ak ks.length ck) (.slice ap ps.length cp)) := hx1
  clear hx1 hb1
  go_wp2_with fail
  refine (HCUT.out _).mono ?_
  rintro e w2 ⟨v, rfl, hst, hb2⟩
  have hx2 := HX1.out.call hb2
  have x0 := hx2.c0
  have x1 := hx2.c1
  have HX2 : Hid (Boxed w w2 (.slice ak ks.length ck) (.slice ap ps.length cp)) := hx2
  have HST : Hid (StrsAt w2 v ws) := hst
  obtain ⟨g, off, cap, rfl, -, -, -⟩ := hst
  clear hx2 hb2 HX1 HB HCUT
  by_cases h1 : what = 1
  · subst h1
    go_wp2_with fail
    refine (l1Kind_any _ _ ks s _ (HK1.out.keep HX2.out.below)).mono ?_
    rintro e w3 ⟨rfl, hb3⟩
    go_wp2
    go_ret
    exact ⟨ret_bool (by rw [E1.out]; rw [atI_has]; exact (has_mem HKA.out).symm), below_step HX2.out.below hb3⟩
  have g1 : (what == 1) = false := by simp [h1]
  by_cases h2 : what = 2
  · subst h2
    go_wp2_with fail
    refine (l2TimeOk_any _ ws _ HST.out HSZ.out).mono ?_
    rintro e w3 ⟨rfl, hb3⟩
    go_wp2
    go_ret
    exact ⟨ret_bool E2.out.symm, below_step HX2.out.below hb3⟩
  have g2 : (what == 2) = false := by simp [h2]
  by_cases h3 : what = 3
  · subst h3
    go_wp2_with fail
    refine (l2Number_any s _ (by unfold maxLen; omega)).mono ?_
    rintro e w3 ⟨rfl, rfl⟩
    go_wp2_with fail
    refine (l1In_any _ _ _ _).mono ?_
    rintro e w4 ⟨rfl, rfl⟩
    go_wp2
    go_ret
    exact ⟨ret_bool (by rw [E3.out]; exact level_num s), HX2.out.below⟩
  have g3 : (what == 3) = false := by simp [h3]
  by_cases h4 : what = 4
  · subst h4
    go_wp2_with fail
    refine (l2RouteOk_any _ _ _ ps ws _ (HP1.out.keep HX2.out.below) HST.out fun x => (has_mem HPA.out).symm).mono ?_
    rintro e w3 ⟨rfl, hb3⟩
    go_wp2
    go_ret
    exact ⟨ret_bool E4.out.symm, below_step HX2.out.below hb3⟩
  have g4 : (what == 4) = false := by simp [h4]
  by_cases h5 : what = 5
  · subst h5
    by_cases q1 : s = openS
    · have r1 : (s.toList == [111, 112, 101, 110]) = true := open_listS ▸ str_eq q1
      have HF : Hid (stateB s = true) := by show stateB s = true; simp [stateB, q1]
      clear q1
      go_wp2
      go_ret
      exact ⟨ret_bool (by rw [E5.out, HF.out]), HX2.out.below⟩
    · have r1 : (s.toList == [111, 112, 101, 110]) = false := open_listS ▸ str_ne q1
      by_cases q2 : s = closedS
      · have r2 : (s.toList == [99, 108, 111, 115, 101, 100]) = true := closed_listS ▸ str_eq q2
        have HF : Hid (stateB s = true) := by show stateB s = true; simp [stateB, q2]
        clear q1 q2
        go_wp2
        go_ret
        exact ⟨ret_bool (by rw [E5.out, HF.out]), HX2.out.below⟩
      · have r2 : (s.toList == [99, 108, 111, 115, 101, 100]) = false := closed_listS ▸ str_ne q2
        have HF : Hid (stateB s = false) := by show stateB s = false; simp [stateB, q1, q2]
        clear q1 q2
        go_wp2
        go_ret
        exact ⟨ret_bool (by rw [E5.out, HF.out]), HX2.out.below⟩
  have g5 : (what == 5) = false := by simp [h5]
  have HF : Hid (valB2 ks ps what s = false) := E6.out h1 h2 h3 h4 h5
  clear h1 h2 h3 h4 h5
  go_wp2
  go_ret
  exact ⟨ret_bool HF.out.symm, HX2.out.below⟩

set_option maxHeartbeats 1600000 in
theorem specChangeOk_any (vk vp : Value) (ks ps : List Tri) (c : Chg) (w : World) (hk : TrisAt w vk ks) (hp : TrisAt w vp ps) (nk : Names ks) (np : Names ps) (hf : c.f.size ≤ 1048576) (hs : c.v.size ≤ 1048576) :
    Calls Tryz.prog 26 #[.agg #[vk, vp], .agg #[.string c.f, .int .i64 c.what, .int .i64 c.num, .string c.v]] w fun e w' => e = .returned (.bool (baseB ks ps && fitB ks ps c)) ∧ Below w.heap.size w w' := by
  have HK := hk; have HP := hp
  obtain ⟨ak, ck, rfl, -, -, -⟩ := hk
  obtain ⟨ap, cp, rfl, -, -, -⟩ := hp
  have HF : Hid (∀ wx : World, Below w.heap.size w wx → Calls Tryz.prog 58 #[.agg #[.slice ak ks.length ck, .slice ap ps.length cp], .int .i64 c.what, .string c.v] wx fun e w' => e = .returned (.bool (baseB ks ps && valB2 ks ps c.what c.v)) ∧ Below wx.heap.size wx w') := fun wx hx => specFits_any _ _ ks ps c.what c.v wx (HK.keep hx) (HP.keep hx) nk np hs
  clear HK HP nk np
  obtain ⟨f, what, num, v⟩ := c
  dsimp only at *
  have HE : Hid ((baseB ks ps && fitB ks ps ⟨f, what, num, v⟩) = (nameB f && (inB num 1 1000000 && (baseB ks ps && valB2 ks ps what v)))) := by
    show (baseB ks ps && (nameB f && (inB num 1 1000000 && valB2 ks ps what v))) = _
    cases baseB ks ps <;> cases nameB f <;> cases inB num 1 1000000 <;> rfl
  generalize (baseB ks ps && fitB ks ps ⟨f, what, num, v⟩) = res at *
  generalize (baseB ks ps && valB2 ks ps what v) = b3 at *
  go_enter Tryz.func26, Tryz.ntmps26
  go_wp2_with fail
  refine (l1NameOk_any f _ (by unfold maxLen; omega)).mono ?_
  generalize nameB f = b1 at *
  rintro e w1 ⟨rfl, rfl⟩
  cases b1
  · go_wp2
    go_ret
    exact ⟨ret_bool (by rw [HE.out]; rfl), ((Below.refl _ _).alloc (Nat.le_refl _) _).alloc (by simp) _⟩
  · go_wp2_with fail
    refine (l1In_any _ _ _ _).mono ?_
    generalize inB num 1 1000000 = b2 at *
    rintro e w2 ⟨rfl, rfl⟩
    cases b2
    · go_wp2
      go_ret
      exact ⟨ret_bool (by rw [HE.out]; rfl), ((Below.refl _ _).alloc (Nat.le_refl _) _).alloc (by simp) _⟩
    · go_wp2_with fail
      refine (HF.out _ (((Below.refl _ _).alloc (Nat.le_refl _) _).alloc (by simp) _)).mono ?_
      rintro e w3 ⟨rfl, hb3⟩
      go_wp2
      go_ret
      exact ⟨ret_bool (by rw [HE.out]; rfl), below_step (((Below.refl _ _).alloc (Nat.le_refl _) _).alloc (by simp) _) hb3⟩
end Go.Proofs.YtfjblenkcfdbiaaGreat
