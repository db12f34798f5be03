/-
  For the proof of merge_holds: part 10 (News0, Put0, Put1).
-/
import Derived.Test.YtfjblenkcfdbiaaGreatRowMergeJ9
/-
  Plain facts: the order of what books say; two books walked side by side.
-/
namespace Go.Proofs.YtfjblenkcfdbiaaGreat
open Go.RowKit

def keyLt (a b : Chg) : Bool := blS a.f b.f || (decide (a.f = b.f) && decide (a.what < b.what))
def keyEq (a b : Chg) : Bool := decide (a.f = b.f) && decide (a.what = b.what)
theorem keyEq_iff {a b : Chg} : keyEq a b = true ↔ a.f = b.f ∧ a.what = b.what := by simp [keyEq]
theorem keyLt_trans {a b c : Chg} (h : keyLt a b = true) (k : keyLt b c = true) : keyLt a c = true := by
  simp only [keyLt, Bool.or_eq_true, Bool.and_eq_true, decide_eq_true_eq] at h k ⊢
  rcases h with h | ⟨h1, h2⟩
  · rcases k with k | ⟨k1, k2⟩
    · exact .inl (blS_trans h k)
    · exact .inl (k1 ▸ h)
  · rcases k with k | ⟨k1, k2⟩
    · exact .inl (h1 ▸ k)
    · exact .inr ⟨h1.trans k1, by omega⟩
theorem keyLt_ne {a b : Chg} (h : keyLt a b = true) : keyEq a b = false := by
  cases hk : keyEq a b with
  | false => rfl
  | true =>
    obtain ⟨h1, h2⟩ := keyEq_iff.1 hk
    simp only [keyLt, h1, h2, blS_irrefl] at h
    simp at h
theorem keyEq_symm {a b : Chg} : keyEq a b = keyEq b a := by
  rw [Bool.eq_iff_iff, keyEq_iff, keyEq_iff]; exact ⟨fun h => ⟨h.1.symm, h.2.symm⟩, fun h => ⟨h.1.symm, h.2.symm⟩⟩
theorem keyLt_of_eq {a b c : Chg} (h : keyEq a b = true) (k : keyLt b c = true) : keyLt a c = true := by
  obtain ⟨h1, h2⟩ := keyEq_iff.1 h
  simp only [keyLt] at k ⊢
  rw [h1, h2]; exact k
theorem keyGt {a b : Chg} (h : keyLt a b = false) (k : keyEq a b = false) : keyLt b a = true := by
  simp only [keyLt, Bool.or_eq_false_iff] at h
  cases hb : blS b.f a.f with
  | true => simp [keyLt, hb]
  | false =>
    have e := blS_total h.1 hb
    simp only [e, decide_true, Bool.true_and, decide_eq_false_iff_not] at h
    simp only [keyEq, e, decide_true, Bool.true_and, decide_eq_false_iff_not] at k
    simp only [keyLt, e, decide_true, Bool.true_and, Bool.or_eq_true, decide_eq_true_eq]
    right; omega

/-- What one says is later. -/
def latC (x y : Chg) : Bool := if x.num = y.num then blS y.v x.v else decide (y.num < x.num)
def noC : Chg := ⟨⟨#[]⟩, 0, 0, ⟨#[]⟩⟩
theorem latC_new {x : Chg} (h : 1 ≤ x.num) : latC x noC = true := by
  unfold latC noC; dsimp only; rw [if_neg (by omega)]; simp; omega
theorem latC_none {y : Chg} (h : 1 ≤ y.num) : latC noC y = false := by
  unfold latC noC; dsimp only; rw [if_neg (by omega)]; simp; omega
/-- Two books, thing by thing. -/
def pairsW : List Chg → List Chg → List (Chg × Chg)
  | [], [] => []
  | a :: A, [] => (a, noC) :: pairsW A []
  | [], b :: B => (noC, b) :: pairsW [] B
  | a :: A, b :: B => if keyLt a b then (a, noC) :: pairsW A (b :: B) else if keyEq a b then (a, b) :: pairsW A B else (noC, b) :: pairsW (a :: A) B
termination_by A B => A.length + B.length
def pick (p : Chg × Chg) : Option Chg := if latC p.2 p.1 then some p.2 else none
/-- What b says is news to A. -/
def newB (A : List Chg) (b : Chg) : Bool := match A.find? fun a => keyEq a b with
  | some a => latC b a
  | none => true
theorem newB_nil (b : Chg) : newB [] b = true := rfl
theorem newB_skip {a b : Chg} {A : List Chg} (h : keyEq a b = false) : newB (a :: A) b = newB A b := by
  unfold newB; rw [List.find?_cons, h]
theorem newB_hit {a b : Chg} {A : List Chg} (h : keyEq a b = true) : newB (a :: A) b = latC b a := by
  unfold newB; rw [List.find?_cons, h]
theorem newB_past {b : Chg} : ∀ {A : List Chg}, (∀ a ∈ A, keyEq a b = false) → newB A b = true
  | [], _ => rfl
  | a :: A, h => by rw [newB_skip (h a (by simp)), newB_past fun x hx => h x (by simp [hx])]
def SortedC (l : List Chg) : Prop := l.Pairwise fun a b => keyLt a b = true
def NumsC (l : List Chg) : Prop := ∀ c ∈ l, 1 ≤ c.num

theorem pairs_news : ∀ (A B : List Chg), SortedC A → SortedC B → NumsC A → NumsC B → (pairsW A B).filterMap pick = B.filter (newB A)
  | [], [], _, _, _, _ => by simp [pairsW]
  | a :: A, [], hA, hB, nA, nB => by
    rw [pairsW, List.filterMap_cons]
    have : pick (a, noC) = none := by unfold pick; rw [latC_none (nA a (by simp))]; rfl
    rw [this, pairs_news A [] (List.pairwise_cons.1 hA).2 hB (fun c hc => nA c (by simp [hc])) nB]
    simp
  | [], b :: B, hA, hB, nA, nB => by
    rw [pairsW, List.filterMap_cons]
    have : pick (noC, b) = some b := by unfold pick; rw [latC_new (nB b (by simp))]; rfl
    rw [this, pairs_news [] B hA (List.pairwise_cons.1 hB).2 nA (fun c hc => nB c (by simp [hc]))]
    rw [List.filter_cons, newB_nil]; rfl
  | a :: A, b :: B, hA, hB, nA, nB => by
    have hA' := List.pairwise_cons.1 hA
    have hB' := List.pairwise_cons.1 hB
    have nA' : NumsC A := fun c hc => nA c (by simp [hc])
    have nB' : NumsC B := fun c hc => nB c (by simp [hc])
    rw [pairsW]
    cases hlt : keyLt a b with
    | true =>
      have hp : pick (a, noC) = none := by unfold pick; rw [latC_none (nA a (by simp))]; rfl
      have hskip : ∀ c ∈ b :: B, newB (a :: A) c = newB A c := fun c hc => newB_skip (by
        rcases List.mem_cons.1 hc with rfl | hc
        · exact keyLt_ne hlt
        · exact keyLt_ne (keyLt_trans hlt (hB'.1 c hc)))
      rw [if_pos rfl, List.filterMap_cons, hp, pairs_news A (b :: B) hA'.2 hB nA' nB, List.filter_congr fun c hc => (hskip c hc).symm]
    | false =>
      rw [if_neg (by simp)]
      cases heq : keyEq a b with
      | true =>
        have hskip : ∀ c ∈ B, newB (a :: A) c = newB A c := fun c hc => newB_skip (keyLt_ne (keyLt_of_eq heq (hB'.1 c hc)))
        rw [if_pos rfl, List.filterMap_cons, pairs_news A B hA'.2 hB'.2 nA' nB', List.filter_cons, newB_hit heq, List.filter_congr fun c hc => (hskip c hc).symm]
        unfold pick
        cases latC b a <;> rfl
      | false =>
        have hgt := keyGt hlt heq
        have hpast : newB (a :: A) b = true := newB_past fun x hx => by
          rw [keyEq_symm]
          rcases List.mem_cons.1 hx with rfl | hx
          · exact keyLt_ne hgt
          · exact keyLt_ne (keyLt_trans hgt (hA'.1 x hx))
        have hp : pick (noC, b) = some b := by unfold pick; rw [latC_new (nB b (by simp))]; rfl
        rw [if_neg (by simp), List.filterMap_cons, hp, pairs_news (a :: A) B hA hB'.2 nA nB', List.filter_cons, hpast]
        rfl
termination_by A B => A.length + B.length

/-- The specification's way to look something up. -/
def hasS (es : List Ent) (c : Chg) : Bool := match es.find? fun e => decide (e.name = c.f) with
  | none => false
  | some e => match e.fs.find? fun g => decide (g.what = c.what) with
    | none => false
    | some g => !latC c (chgOf e.name g)
theorem find_flds (n : ByteArray) (c : Chg) (h : n = c.f) : ∀ fs : List Fld, (fs.map (chgOf n)).find? (fun a => keyEq a c) = (fs.find? fun g => decide (g.what = c.what)).map (chgOf n)
  | [] => rfl
  | g :: fs => by
    rw [List.map_cons, List.find?_cons, List.find?_cons]
    have : keyEq (chgOf n g) c = decide (g.what = c.what) := by simp [keyEq, chgOf, h]
    rw [this]
    cases decide (g.what = c.what) with
    | true => rfl
    | false => exact find_flds n c h fs
theorem find_none (n : ByteArray) (c : Chg) (h : ¬ n = c.f) (fs : List Fld) : (fs.map (chgOf n)).find? (fun a => keyEq a c) = none := by
  rw [List.find?_eq_none]
  intro x hx
  obtain ⟨g, _, rfl⟩ := List.mem_map.1 hx
  simp [keyEq, chgOf, h]
theorem find_chgs (c : Chg) : ∀ es : List Ent, (es.Pairwise fun a b => ¬ a.name = b.name) → (chgsOf es).find? (fun a => keyEq a c) = (es.find? fun e => decide (e.name = c.f)).bind fun e => (e.fs.find? fun g => decide (g.what = c.what)).map (chgOf e.name)
  | [], _ => rfl
  | e :: es, hp => by
    have hp' := List.pairwise_cons.1 hp
    have e1 : chgsOf (e :: es) = e.fs.map (chgOf e.name) ++ chgsOf es := by simp [chgsOf]
    rw [e1, List.find?_append, List.find?_cons]
    by_cases h : e.name = c.f
    · have hz : (chgsOf es).find? (fun a => keyEq a c) = none := by
        rw [List.find?_eq_none]
        intro x hx
        obtain ⟨y, hy, hx⟩ := List.mem_flatMap.1 hx
        obtain ⟨g, _, rfl⟩ := List.mem_map.1 hx
        have : ¬ y.name = c.f := fun q => hp'.1 y hy (h.trans q.symm)
        simp [keyEq, chgOf, this]
      rw [hz, find_flds e.name c h]
      simp [h]
    · rw [find_none e.name c h, find_chgs c es hp'.2]
      simp [h]
theorem has_new (es : List Ent) (hp : es.Pairwise fun a b => ¬ a.name = b.name) (c : Chg) : (!hasS es c) = newB (chgsOf es) c := by
  unfold hasS newB
  rw [find_chgs c es hp]
  cases es.find? fun e => decide (e.name = c.f) with
  | none => rfl
  | some e =>
    dsimp only [Option.bind_some]
    cases e.fs.find? fun g => decide (g.what = c.what) with
    | none => rfl
    | some g => simp

theorem adj_pair {α : Type} {R : α → α → Prop} (ht : ∀ a b c, R a b → R b c → R a c) (l : List α) (h : ∀ i (hi : i + 1 < l.length), R (l[i]'(by omega)) l[i + 1]) : l.Pairwise R := by
  induction l with
  | nil => exact List.Pairwise.nil
  | cons a l ih =>
    have hl : l.Pairwise R := ih fun i hi => by
      have := h (i + 1) (by simp; omega)
      simpa using this
    refine List.pairwise_cons.2 ⟨fun b hb => ?_, hl⟩
    cases l with
    | nil => cases hb
    | cons c l =>
      have h0 : R a c := by simpa using h 0 (by simp)
      rcases List.mem_cons.1 hb with rfl | hb
      · exact h0
      · exact ht _ _ _ h0 ((List.pairwise_cons.1 hl).1 b hb)

/-- A book that is ok is in order, and its numbers are 1 or more. -/
theorem book_names {ks ps : List Tri} {es : List Ent} (h : bookB ks ps es = true) : es.Pairwise fun a b => blS a.name b.name = true := by
  simp only [bookB, Bool.and_eq_true] at h
  have hn : allB es.length (fun i => nameB (eat es i).name && ascE es i) = true := by
    have := h.2.1
    simp only [namesE, Bool.and_eq_true] at this
    exact this.2
  refine adj_pair (R := fun a b : Ent => blS a.name b.name = true) (fun a b c h k => blS_trans h k) es fun i hi => ?_
  have h1 := allB_get hn (i + 1) hi
  simp only [Bool.and_eq_true] at h1
  have h2 := h1.2
  rw [ascE_succ] at h2
  have e0 : eat es i = es[i] := by simp [eat, show i < es.length by omega]
  have e1 : eat es (i + 1) = es[i + 1] := by simp [eat, hi]
  rw [e0, e1] at h2
  simpa [geB, blS] using h2
theorem book_fields {ks ps : List Tri} {es : List Ent} (h : bookB ks ps es = true) {e : Ent} (he : e ∈ es) : fieldsB ks ps e.name e.fs = true := by
  simp only [bookB, Bool.and_eq_true] at h
  obtain ⟨i, hi, rfl⟩ := List.getElem_of_mem he
  have h1 := allB_get h.2.2 i hi
  have e0 : eat es i = es[i] := by simp [eat, hi]
  rw [e0] at h1; exact h1
theorem fields_sorted {ks ps : List Tri} {n : ByteArray} {l : List Fld} (h : fieldsB ks ps n l = true) : l.Pairwise fun a b => a.what < b.what := by
  simp only [fieldsB, Bool.and_eq_true] at h
  refine adj_pair (R := fun a b : Fld => a.what < b.what) (fun a b c h k => by omega) l fun i hi => ?_
  have h1 := allB_get h.1 (i + 1) hi
  simp only [Bool.and_eq_true] at h1
  have h2 := h1.1
  have e0 : fat l i = l[i] := by simp [fat, show i < l.length by omega]
  have e1 : fat l (i + 1) = l[i + 1] := by simp [fat, hi]
  simp only [ascF, Nat.add_sub_cancel, e0, e1] at h2
  simp at h2
  omega
theorem fields_fit {ks ps : List Tri} {n : ByteArray} {l : List Fld} (h : fieldsB ks ps n l = true) {f : Fld} (hf : f ∈ l) : fitB ks ps (chgOf n f) = true := by
  simp only [fieldsB, Bool.and_eq_true] at h
  obtain ⟨i, hi, rfl⟩ := List.getElem_of_mem hf
  have h1 := allB_get h.1 i hi
  simp only [Bool.and_eq_true] at h1
  have e0 : fat l i = l[i] := by simp [fat, hi]
  rw [e0] at h1; exact h1.2
theorem book_nums {ks ps : List Tri} {es : List Ent} (h : bookB ks ps es = true) : NumsC (chgsOf es) := fun c hc => by
  obtain ⟨e, he, hc⟩ := List.mem_flatMap.1 hc
  obtain ⟨f, hf, rfl⟩ := List.mem_map.1 hc
  have := fields_fit (book_fields h he) hf
  simp only [fitB, Bool.and_eq_true] at this
  have h2 := this.2.1
  simp [inB] at h2
  exact h2.1
theorem book_sorted {ks ps : List Tri} {es : List Ent} (h : bookB ks ps es = true) : SortedC (chgsOf es) := by
  have hn := book_names h
  have hf : ∀ e ∈ es, e.fs.Pairwise fun a b => a.what < b.what := fun e he => fields_sorted (book_fields h he)
  clear h
  induction es with
  | nil => exact List.Pairwise.nil
  | cons e es ih =>
    have hn' := List.pairwise_cons.1 hn
    have e1 : chgsOf (e :: es) = e.fs.map (chgOf e.name) ++ chgsOf es := by simp [chgsOf]
    unfold SortedC
    rw [e1, List.pairwise_append]
    refine ⟨?_, ih hn'.2 fun x hx => hf x (by simp [hx]), fun a ha b hb => ?_⟩
    · rw [List.pairwise_map]
      exact (hf e (by simp)).imp fun h => by simp [keyLt, chgOf, h]
    · obtain ⟨f, _, rfl⟩ := List.mem_map.1 ha
      obtain ⟨y, hy, hb⟩ := List.mem_flatMap.1 hb
      obtain ⟨g, _, rfl⟩ := List.mem_map.1 hb
      simp [keyLt, chgOf, hn'.1 y hy]
theorem book_apart {ks ps : List Tri} {es : List Ent} (h : bookB ks ps es = true) : es.Pairwise fun a b => ¬ a.name = b.name :=
  (book_names h).imp fun h e => by rw [e, blS_irrefl] at h; cases h
/-- The news of two books that are ok. -/
theorem news_eq {ks ps ks' ps' : List Tri} {a b : List Ent} (ha : bookB ks ps a = true) (hb : bookB ks' ps' b = true) :
    (pairsW (chgsOf a) (chgsOf b)).filterMap pick = (chgsOf b).filter fun c => !hasS a c := by
  rw [pairs_news _ _ (book_sorted ha) (book_sorted hb) (book_nums ha) (book_nums hb)]
  exact List.filter_congr fun c _ => (has_new a (book_apart ha) c).symm
end Go.Proofs.YtfjblenkcfdbiaaGreat

/-
  Plain facts: changes put in one by one, the latest of each thing kept; entries out of sorted changes.
-/
namespace Go.Proofs.YtfjblenkcfdbiaaGreat
open Go.RowKit

/-- A change is put among sorted ones; of two of one thing the later stays. -/
def putC : List Chg → Chg → List Chg
  | [], c => [c]
  | a :: l, c => if keyLt a c then a :: putC l c else if keyEq a c then (if latC c a then c :: l else a :: l) else c :: a :: l
theorem putC_mem {l : List Chg} {c x : Chg} (h : x ∈ putC l c) : x = c ∨ x ∈ l := by
  induction l with
  | nil => simp [putC] at h; exact .inl h
  | cons a l ih =>
    rw [putC] at h
    split at h
    · rcases List.mem_cons.1 h with rfl | h
      · exact .inr (by simp)
      · rcases ih h with h | h
        · exact .inl h
        · exact .inr (by simp [h])
    · split at h
      · split at h
        · rcases List.mem_cons.1 h with rfl | h
          · exact .inl rfl
          · exact .inr (by simp [h])
        · exact .inr h
      · rcases List.mem_cons.1 h with rfl | h
        · exact .inl rfl
        · exact .inr h
theorem putC_nums {l : List Chg} {c : Chg} (h : NumsC l) (hc : 1 ≤ c.num) : NumsC (putC l c) := fun x hx => by
  rcases putC_mem hx with rfl | hx
  · exact hc
  · exact h x hx
theorem keyLt_of_eq' {a b c : Chg} (h : keyEq b c = true) (k : keyLt a b = true) : keyLt a c = true := by
  obtain ⟨h1, h2⟩ := keyEq_iff.1 h
  simp only [keyLt, Bool.or_eq_true, Bool.and_eq_true, decide_eq_true_eq] at k ⊢
  rw [← h1, ← h2]; exact k
theorem putC_sorted {l : List Chg} (c : Chg) (h : SortedC l) : SortedC (putC l c) := by
  induction l with
  | nil => simp [putC, SortedC]
  | cons a l ih =>
    have h' := List.pairwise_cons.1 h
    rw [putC]
    cases hlt : keyLt a c with
    | true =>
      rw [if_pos rfl]
      refine List.pairwise_cons.2 ⟨fun x hx => ?_, ih h'.2⟩
      rcases putC_mem hx with rfl | hx
      · exact hlt
      · exact h'.1 x hx
    | false =>
      rw [if_neg (by simp)]
      cases heq : keyEq a c with
      | true =>
        rw [if_pos rfl]
        split
        · exact List.pairwise_cons.2 ⟨fun x hx => keyLt_of_eq (by rw [keyEq_symm]; exact heq) (h'.1 x hx), h'.2⟩
        · exact h
      | false =>
        rw [if_neg (by simp)]
        have hgt := keyGt hlt heq
        refine List.pairwise_cons.2 ⟨fun x hx => ?_, h⟩
        rcases List.mem_cons.1 hx with rfl | hx
        · exact hgt
        · exact keyLt_trans hgt (h'.1 x hx)
/-- Behind all that is there. -/
theorem putC_last {l : List Chg} {c : Chg} (h : ∀ a ∈ l, keyLt a c = true) : putC l c = l ++ [c] := by
  induction l with
  | nil => rfl
  | cons a l ih => rw [putC, if_pos (h a (by simp)), ih fun x hx => h x (by simp [hx])]; rfl
theorem putAll_app {l m : List Chg} (h : SortedC (l ++ m)) : m.foldl putC l = l ++ m := by
  induction m generalizing l with
  | nil => simp
  | cons c m ih =>
    rw [List.foldl_cons, putC_last, ih]
    · simp
    · simpa using h
    · have := (List.pairwise_append.1 h).2.2
      exact fun a ha => this a ha c (by simp)
theorem putAll_self {l : List Chg} (h : SortedC l) : l.foldl putC [] = l := by simpa using putAll_app (l := []) (by simpa using h)
/-- What is found behind it. -/
theorem putC_find {l : List Chg} (c k : Chg) (h : SortedC l) : (putC l c).find? (fun a => keyEq a k) = if keyEq c k then (if newB l c then some c else l.find? fun a => keyEq a k) else l.find? fun a => keyEq a k := by
  induction l with
  | nil => simp [putC, newB_nil]
  | cons a l ih =>
    have h' := List.pairwise_cons.1 h
    rw [putC]
    cases hlt : keyLt a c with
    | true =>
      rw [if_pos rfl, List.find?_cons, ih h'.2, newB_skip (keyLt_ne hlt)]
      cases hak : keyEq a k with
      | true =>
        have hck : keyEq c k = false := by
          cases hck : keyEq c k with
          | false => rfl
          | true =>
            obtain ⟨a1, a2⟩ := keyEq_iff.1 hak
            obtain ⟨c1, c2⟩ := keyEq_iff.1 hck
            have : keyEq a c = true := keyEq_iff.2 ⟨a1.trans c1.symm, a2.trans c2.symm⟩
            rw [keyLt_ne hlt] at this; cases this
        simp [hck, hak]
      | false => simp [hak]
    | false =>
      rw [if_neg (by simp)]
      cases heq : keyEq a c with
      | true =>
        rw [if_pos rfl, newB_hit heq]
        have hak : keyEq a k = keyEq c k := by
          obtain ⟨a1, a2⟩ := keyEq_iff.1 heq
          simp [keyEq, a1, a2]
        cases hl : latC c a with
        | true => rw [if_pos rfl, List.find?_cons, List.find?_cons, hak]; cases keyEq c k <;> simp
        | false => rw [if_neg (by simp)]; cases keyEq c k <;> simp
      | false =>
        have hgt := keyGt hlt heq
        have hpast : newB (a :: l) c = true := newB_past fun x hx => by
          rw [keyEq_symm]
          rcases List.mem_cons.1 hx with rfl | hx
          · exact keyLt_ne hgt
          · exact keyLt_ne (keyLt_trans hgt (h'.1 x hx))
        rw [if_neg (by simp), hpast, List.find?_cons]
        cases keyEq c k <;> simp

def fldC (c : Chg) : Fld := ⟨c.what, c.num, c.v⟩
/-- One more change behind entries. -/
def addE (es : List Ent) (c : Chg) : List Ent := match es.getLast? with
  | some e => if e.name = c.f then es.dropLast ++ [⟨e.name, e.fs ++ [fldC c]⟩] else es ++ [⟨c.f, [fldC c]⟩]
  | none => [⟨c.f, [fldC c]⟩]
theorem addE_new {es : List Ent} {c : Chg} (h : ∀ e, es.getLast? = some e → e.name ≠ c.f) : addE es c = es ++ [⟨c.f, [fldC c]⟩] := by
  unfold addE
  cases hl : es.getLast? with
  | none => rw [List.getLast?_eq_none_iff.1 hl]; rfl
  | some e => simp only []; rw [if_neg (h e hl)]
theorem addE_more {es : List Ent} {e : Ent} {c : Chg} (h : e.name = c.f) : addE (es ++ [e]) c = es ++ [⟨e.name, e.fs ++ [fldC c]⟩] := by
  unfold addE
  simp [h]
theorem addE_flds (n : ByteArray) (es : List Ent) (fs gs : List Fld) : (gs.map (chgOf n)).foldl addE (es ++ [⟨n, fs⟩]) = es ++ [⟨n, fs ++ gs⟩] := by
  induction gs generalizing fs with
  | nil => simp
  | cons g gs ih =>
    rw [List.map_cons, List.foldl_cons, addE_more (c := chgOf n g) rfl, ih]
    simp [fldC, chgOf]
theorem addE_ent {es : List Ent} {e : Ent} (hne : e.fs ≠ []) (h : ∀ x, es.getLast? = some x → x.name ≠ e.name) : (e.fs.map (chgOf e.name)).foldl addE es = es ++ [e] := by
  obtain ⟨n, fs⟩ := e
  cases fs with
  | nil => exact absurd rfl hne
  | cons f fs =>
    rw [List.map_cons, List.foldl_cons, addE_new (c := chgOf n f) h]
    exact addE_flds n es [f] fs
/-- Entries that are in order come back. -/
theorem grp_app {es xs : List Ent} (hne : ∀ e ∈ xs, e.fs ≠ []) (h : (es ++ xs).Pairwise fun a b => ¬ a.name = b.name) : (chgsOf xs).foldl addE es = es ++ xs := by
  induction xs generalizing es with
  | nil => simp [chgsOf]
  | cons x xs ih =>
    have e1 : chgsOf (x :: xs) = x.fs.map (chgOf x.name) ++ chgsOf xs := by simp [chgsOf]
    rw [e1, List.foldl_append, addE_ent (hne x (by simp)), ih (fun e he => hne e (by simp [he]))]
    · simp
    · simpa using h
    · intro y hy
      have hm : y ∈ es := List.mem_of_getLast? hy
      exact (List.pairwise_append.1 h).2.2 y hm x (by simp)
theorem grp_self {es : List Ent} (hne : ∀ e ∈ es, e.fs ≠ []) (h : es.Pairwise fun a b => ¬ a.name = b.name) : (chgsOf es).foldl addE [] = es := by simpa using grp_app (es := []) hne (by simpa using h)
end Go.Proofs.YtfjblenkcfdbiaaGreat

/-
  Plain facts: a field put into entries, as the specification does it, and as changes.
-/
namespace Go.Proofs.YtfjblenkcfdbiaaGreat
open Go.RowKit

def latF (f g : Fld) : Bool := latC (chgOf ⟨#[]⟩ f) (chgOf ⟨#[]⟩ g)
theorem latF_chg (n m : ByteArray) (f g : Fld) : latC (chgOf n f) (chgOf m g) = latF f g := rfl
/-- A field among sorted ones. -/
def putF : List Fld → Fld → List Fld
  | [], f => [f]
  | g :: l, f => if g.what < f.what then g :: putF l f else if g.what = f.what then (if latF f g then f :: l else g :: l) else f :: g :: l
/-- A field of a flight among sorted entries. -/
def putE : List Ent → ByteArray → Fld → List Ent
  | [], n, f => [⟨n, [f]⟩]
  | e :: es, n, f => if e.name = n then ⟨e.name, putF e.fs f⟩ :: es else if blS e.name n then e :: putE es n f else ⟨n, [f]⟩ :: e :: es
theorem putF_ne (l : List Fld) (f : Fld) : putF l f ≠ [] := by
  cases l with
  | nil => simp [putF]
  | cons g l => rw [putF]; split <;> (try split) <;> (try split) <;> simp
theorem putE_ne {es : List Ent} (n : ByteArray) (f : Fld) (h : ∀ e ∈ es, e.fs ≠ []) : ∀ e ∈ putE es n f, e.fs ≠ [] := by
  induction es with
  | nil => simp [putE]
  | cons x es ih =>
    have ih' := ih fun e he => h e (by simp [he])
    rw [putE]
    split
    · intro e he
      rcases List.mem_cons.1 he with rfl | he
      · exact putF_ne _ _
      · exact h e (by simp [he])
    · split
      · intro e he
        rcases List.mem_cons.1 he with rfl | he
        · exact h _ (by simp)
        · exact ih' e he
      · intro e he
        rcases List.mem_cons.1 he with rfl | he
        · simp
        · exact h e he
theorem putE_name {es : List Ent} {n : ByteArray} {f : Fld} {x : Ent} (h : x ∈ putE es n f) : x.name = n ∨ ∃ e ∈ es, e.name = x.name := by
  induction es with
  | nil => simp [putE] at h; exact .inl (by rw [h])
  | cons e es ih =>
    rw [putE] at h
    split at h
    · rename_i he
      rcases List.mem_cons.1 h with rfl | h
      · exact .inl he
      · exact .inr ⟨x, by simp [h], rfl⟩
    · split at h
      · rcases List.mem_cons.1 h with rfl | h
        · exact .inr ⟨x, by simp, rfl⟩
        · rcases ih h with h | ⟨y, hy, hn⟩
          · exact .inl h
          · exact .inr ⟨y, by simp [hy], hn⟩
      · rcases List.mem_cons.1 h with rfl | h
        · exact .inl rfl
        · exact .inr ⟨x, h, rfl⟩
theorem putE_sorted {es : List Ent} (n : ByteArray) (f : Fld) (h : es.Pairwise fun a b => blS a.name b.name = true) : (putE es n f).Pairwise fun a b => blS a.name b.name = true := by
  induction es with
  | nil => simp [putE]
  | cons e es ih =>
    have h' := List.pairwise_cons.1 h
    rw [putE]
    split
    · exact List.pairwise_cons.2 ⟨fun x hx => h'.1 x hx, h'.2⟩
    · rename_i hne
      split
      · rename_i hlt
        refine List.pairwise_cons.2 ⟨fun x hx => ?_, ih h'.2⟩
        rcases putE_name hx with hx | ⟨y, hy, hn⟩
        · rw [hx]; exact hlt
        · rw [← hn]; exact h'.1 y hy
      · rename_i hnl
        have hgt : blS n e.name = true := by
          cases hg : blS n e.name with
          | true => rfl
          | false => exact absurd (blS_total (by simpa using hnl) hg) hne
        refine List.pairwise_cons.2 ⟨fun x hx => ?_, h⟩
        rcases List.mem_cons.1 hx with rfl | hx
        · exact hgt
        · exact blS_trans hgt (h'.1 x hx)
theorem putE_apart {es : List Ent} (h : es.Pairwise fun a b => blS a.name b.name = true) : es.Pairwise fun a b => ¬ a.name = b.name :=
  h.imp fun h e => by rw [e, blS_irrefl] at h; cases h

theorem putC_skip {l m : List Chg} {c : Chg} (h : ∀ a ∈ l, keyLt a c = true) : putC (l ++ m) c = l ++ putC m c := by
  induction l with
  | nil => rfl
  | cons a l ih => rw [List.cons_append, putC, if_pos (h a (by simp)), ih fun x hx => h x (by simp [hx])]; rfl
theorem keyLt_not {a c : Chg} (h : keyLt c a = true) : keyLt a c = false ∧ keyEq a c = false := by
  refine ⟨?_, by rw [keyEq_symm]; exact keyLt_ne h⟩
  cases hk : keyLt a c with
  | false => rfl
  | true =>
    have := keyLt_ne (keyLt_trans h hk)
    simp [keyEq] at this
theorem putC_front {m : List Chg} {c : Chg} (h : ∀ a ∈ m, keyLt c a = true) : putC m c = c :: m := by
  cases m with
  | nil => rfl
  | cons a m => obtain ⟨h1, h2⟩ := keyLt_not (h a (by simp)); rw [putC, h1, h2]; simp
theorem putC_flds (n : ByteArray) (f : Fld) (m : List Chg) (hm : ∀ a ∈ m, keyLt (chgOf n f) a = true) : ∀ fs : List Fld, putC (fs.map (chgOf n) ++ m) (chgOf n f) = (putF fs f).map (chgOf n) ++ m
  | [] => by simpa [putF] using putC_front hm
  | g :: fs => by
    rw [List.map_cons, List.cons_append, putC, putF]
    have e1 : keyLt (chgOf n g) (chgOf n f) = decide (g.what < f.what) := by simp [keyLt, chgOf, blS_irrefl]; rfl
    have e2 : keyEq (chgOf n g) (chgOf n f) = decide (g.what = f.what) := by simp [keyEq, chgOf]; rfl
    rw [e1, e2, latF_chg, putC_flds n f m hm fs]
    by_cases h1 : g.what < f.what
    · simp [h1]
    · by_cases h2 : g.what = f.what
      · cases hl : latF f g <;> simp [h2]
      · simp [h1, h2]
theorem chgs_cons (e : Ent) (es : List Ent) : chgsOf (e :: es) = e.fs.map (chgOf e.name) ++ chgsOf es := by simp [chgsOf]
theorem chgs_above {n : ByteArray} {f : Fld} {es : List Ent} (h : ∀ e ∈ es, blS n e.name = true) : ∀ a ∈ chgsOf es, keyLt (chgOf n f) a = true := by
  intro a ha
  obtain ⟨e, he, ha⟩ := List.mem_flatMap.1 ha
  obtain ⟨g, _, rfl⟩ := List.mem_map.1 ha
  simp [keyLt, chgOf, h e he]
/-- Both ways come to one. -/
theorem chgs_putE {es : List Ent} (n : ByteArray) (f : Fld) (h : es.Pairwise fun a b => blS a.name b.name = true) : chgsOf (putE es n f) = putC (chgsOf es) (chgOf n f) := by
  induction es with
  | nil => simp [putE, chgsOf, putC]
  | cons e es ih =>
    have h' := List.pairwise_cons.1 h
    rw [putE, chgs_cons]
    split
    · rename_i he
      subst he
      rw [putC_flds _ _ _ (chgs_above h'.1), chgs_cons]
    · rename_i hne
      split
      · rename_i hlt
        rw [putC_skip, chgs_cons, ih h'.2]
        intro a ha
        obtain ⟨g, _, rfl⟩ := List.mem_map.1 ha
        simp [keyLt, chgOf, hlt]
      · rename_i hnl
        have hgt : blS n e.name = true := by
          cases hg : blS n e.name with
          | true => rfl
          | false => exact absurd (blS_total (by simpa using hnl) hg) hne
        rw [chgs_cons, putC_front]
        · rw [chgs_cons]; simp
        · rw [← chgs_cons]
          exact chgs_above (f := f) fun x hx => by
            rcases List.mem_cons.1 hx with rfl | hx
            · exact hgt
            · exact blS_trans hgt (h'.1 x hx)
/-- What the program writes down is what the specification writes down. -/
theorem put_entries {es : List Ent} (n : ByteArray) (f : Fld) (h : es.Pairwise fun a b => blS a.name b.name = true) (hne : ∀ e ∈ es, e.fs ≠ []) : (putC (chgsOf es) (chgOf n f)).foldl addE [] = putE es n f := by
  rw [← chgs_putE n f h]
  exact grp_self (putE_ne n f hne) (putE_apart (putE_sorted n f h))
/-- How many there are. -/
theorem putE_len {es : List Ent} (n : ByteArray) (f : Fld) (h : es.Pairwise fun a b => blS a.name b.name = true) : (putE es n f).length = if es.any (fun e => decide (e.name = n)) then es.length else es.length + 1 := by
  induction es with
  | nil => simp [putE]
  | cons e es ih =>
    have h' := List.pairwise_cons.1 h
    rw [putE]
    split
    · rename_i he; simp [he]
    · rename_i hne
      split
      · rw [List.length_cons, ih h'.2]; simp [hne]; split <;> simp
      · rename_i hnl
        have hgt : blS n e.name = true := by
          cases hg : blS n e.name with
          | true => rfl
          | false => exact absurd (blS_total (by simpa using hnl) hg) hne
        have hno : es.any (fun e => decide (e.name = n)) = false := by
          rw [List.any_eq_false]
          intro x hx hxn
          have hxn : x.name = n := by simpa using hxn
          have := blS_trans hgt (h'.1 x hx)
          rw [hxn, blS_irrefl] at this; cases this
        simp [hne, hno]
end Go.Proofs.YtfjblenkcfdbiaaGreat
