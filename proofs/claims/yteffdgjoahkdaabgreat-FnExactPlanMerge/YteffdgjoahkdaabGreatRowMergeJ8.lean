/-
  For the proof of merge_holds: part 8 (News0, Put0, Put1, Map0, Map1, Map2, Shelf, News2).
-/
import Derived.Maps.Own
import Derived.Maps.Views
import Derived.DeepKeys4
import Derived.Sort.KeysCollected
import Derived.Shelf.Small.Bits
import Derived.Shelf.Small.Strs
import Derived.Shelf.Strconv.Itoa0
import Derived.Shelf.LaysM
import Derived.Shelf.Strconv.Clone
import Derived.Ground.Names2Prog
import Derived.Shelf.Slices.SearchI
import Derived.Test.YteffdgjoahkdaabGreatProg
import Derived.Test.YteffdgjoahkdaabGreatRowMergeJ7
/-
  Plain facts: the order of what books say; two books walked side by side.
-/
namespace Go.Proofs.YteffdgjoahkdaabGreat
open Go.RowKit

def keyLt (a b : Chg) : Bool := blS a.f b.f || (decide (a.f = b.f) && decide (a.what < b.what))
def keyEq (a b : Chg) : Bool := decide (a.f = b.f) && decide (a.what = b.what)
theorem keyEq_iff {a b : Chg} : keyEq a b = true ↔ a.f = b.f ∧ a.what = b.what := by simp [keyEq]
theorem keyLt_trans {a b c : Chg} (h : keyLt a b = true) (k : keyLt b c = true) : keyLt a c = true := by
  simp only [keyLt, Bool.or_eq_true, Bool.and_eq_true, decide_eq_true_eq] at h k ⊢
  rcases h with h | ⟨h1, h2⟩
  · rcases k with k | ⟨k1, k2⟩
    · exact .inl (blS_trans h k)
    · exact .inl (k1 ▸ h)
  · rcases k with k | ⟨k1, k2⟩
    · exact .inl (h1 ▸ k)
    · exact .inr ⟨h1.trans k1, by omega⟩
theorem keyLt_ne {a b : Chg} (h : keyLt a b = true) : keyEq a b = false := by
  cases hk : keyEq a b with
  | false => rfl
  | true =>
    obtain ⟨h1, h2⟩ := keyEq_iff.1 hk
    simp only [keyLt, h1, h2, blS_irrefl] at h
    simp at h
theorem keyEq_symm {a b : Chg} : keyEq a b = keyEq b a := by
  rw [Bool.eq_iff_iff, keyEq_iff, keyEq_iff]; exact ⟨fun h => ⟨h.1.symm, h.2.symm⟩, fun h => ⟨h.1.symm, h.2.symm⟩⟩
theorem keyLt_of_eq {a b c : Chg} (h : keyEq a b = true) (k : keyLt b c = true) : keyLt a c = true := by
  obtain ⟨h1, h2⟩ := keyEq_iff.1 h
  simp only [keyLt] at k ⊢
  rw [h1, h2]; exact k
theorem keyGt {a b : Chg} (h : keyLt a b = false) (k : keyEq a b = false) : keyLt b a = true := by
  simp only [keyLt, Bool.or_eq_false_iff] at h
  cases hb : blS b.f a.f with
  | true => simp [keyLt, hb]
  | false =>
    have e := blS_total h.1 hb
    simp only [e, decide_true, Bool.true_and, decide_eq_false_iff_not] at h
    simp only [keyEq, e, decide_true, Bool.true_and, decide_eq_false_iff_not] at k
    simp only [keyLt, e, decide_true, Bool.true_and, Bool.or_eq_true, decide_eq_true_eq]
    right; omega

/-- What one says is later. -/
def latC (x y : Chg) : Bool := if x.num = y.num then blS y.v x.v else decide (y.num < x.num)
def noC : Chg := ⟨⟨#[]⟩, 0, 0, ⟨#[]⟩⟩
theorem latC_new {x : Chg} (h : 1 ≤ x.num) : latC x noC = true := by
  unfold latC noC; dsimp only; rw [if_neg (by omega)]; simp; omega
theorem latC_none {y : Chg} (h : 1 ≤ y.num) : latC noC y = false := by
  unfold latC noC; dsimp only; rw [if_neg (by omega)]; simp; omega
/-- Two books, thing by thing. -/
def pairsW : List Chg → List Chg → List (Chg × Chg)
  | [], [] => []
  | a :: A, [] => (a, noC) :: pairsW A []
  | [], b :: B => (noC, b) :: pairsW [] B
  | a :: A, b :: B => if keyLt a b then (a, noC) :: pairsW A (b :: B) else if keyEq a b then (a, b) :: pairsW A B else (noC, b) :: pairsW (a :: A) B
termination_by A B => A.length + B.length
def pick (p : Chg × Chg) : Option Chg := if latC p.2 p.1 then some p.2 else none
/-- What b says is news to A. -/
def newB (A : List Chg) (b : Chg) : Bool := match A.find? fun a => keyEq a b with
  | some a => latC b a
  | none => true
theorem newB_nil (b : Chg) : newB [] b = true := rfl
theorem newB_skip {a b : Chg} {A : List Chg} (h : keyEq a b = false) : newB (a :: A) b = newB A b := by
  unfold newB; rw [List.find?_cons, h]
theorem newB_hit {a b : Chg} {A : List Chg} (h : keyEq a b = true) : newB (a :: A) b = latC b a := by
  unfold newB; rw [List.find?_cons, h]
theorem newB_past {b : Chg} : ∀ {A : List Chg}, (∀ a ∈ A, keyEq a b = false) → newB A b = true
  | [], _ => rfl
  | a :: A, h => by rw [newB_skip (h a (by simp)), newB_past fun x hx => h x (by simp [hx])]
def SortedC (l : List Chg) : Prop := l.Pairwise fun a b => keyLt a b = true
def NumsC (l : List Chg) : Prop := ∀ c ∈ l, 1 ≤ c.num

theorem pairs_news : ∀ (A B : List Chg), SortedC A → SortedC B → NumsC A → NumsC B → (pairsW A B).filterMap pick = B.filter (newB A)
  | [], [], _, _, _, _ => by simp [pairsW]
  | a :: A, [], hA, hB, nA, nB => by
    rw [pairsW, List.filterMap_cons]
    have : pick (a, noC) = none := by unfold pick; rw [latC_none (nA a (by simp))]; rfl
    rw [this, pairs_news A [] (List.pairwise_cons.1 hA).2 hB (fun c hc => nA c (by simp [hc])) nB]
    simp
  | [], b :: B, hA, hB, nA, nB => by
    rw [pairsW, List.filterMap_cons]
    have : pick (noC, b) = some b := by unfold pick; rw [latC_new (nB b (by simp))]; rfl
    rw [this, pairs_news [] B hA (List.pairwise_cons.1 hB).2 nA (fun c hc => nB c (by simp [hc]))]
    rw [List.filter_cons, newB_nil]; rfl
  | a :: A, b :: B, hA, hB, nA, nB => by
    have hA' := List.pairwise_cons.1 hA
    have hB' := List.pairwise_cons.1 hB
    have nA' : NumsC A := fun c hc => nA c (by simp [hc])
    have nB' : NumsC B := fun c hc => nB c (by simp [hc])
    rw [pairsW]
    cases hlt : keyLt a b with
    | true =>
      have hp : pick (a, noC) = none := by unfold pick; rw [latC_none (nA a (by simp))]; rfl
      have hskip : ∀ c ∈ b :: B, newB (a :: A) c = newB A c := fun c hc => newB_skip (by
        rcases List.mem_cons.1 hc with rfl | hc
        · exact keyLt_ne hlt
        · exact keyLt_ne (keyLt_trans hlt (hB'.1 c hc)))
      rw [if_pos rfl, List.filterMap_cons, hp, pairs_news A (b :: B) hA'.2 hB nA' nB, List.filter_congr fun c hc => (hskip c hc).symm]
    | false =>
      rw [if_neg (by simp)]
      cases heq : keyEq a b with
      | true =>
        have hskip : ∀ c ∈ B, newB (a :: A) c = newB A c := fun c hc => newB_skip (keyLt_ne (keyLt_of_eq heq (hB'.1 c hc)))
        rw [if_pos rfl, List.filterMap_cons, pairs_news A B hA'.2 hB'.2 nA' nB', List.filter_cons, newB_hit heq, List.filter_congr fun c hc => (hskip c hc).symm]
        unfold pick
        cases latC b a <;> rfl
      | false =>
        have hgt := keyGt hlt heq
        have hpast : newB (a :: A) b = true := newB_past fun x hx => by
          rw [keyEq_symm]
          rcases List.mem_cons.1 hx with rfl | hx
          · exact keyLt_ne hgt
          · exact keyLt_ne (keyLt_trans hgt (hA'.1 x hx))
        have hp : pick (noC, b) = some b := by unfold pick; rw [latC_new (nB b (by simp))]; rfl
        rw [if_neg (by simp), List.filterMap_cons, hp, pairs_news (a :: A) B hA hB'.2 nA nB', List.filter_cons, hpast]
        rfl
termination_by A B => A.length + B.length

/-- The specification's way to look something up. -/
def hasS (es : List Ent) (c : Chg) : Bool := match es.find? fun e => decide (e.name = c.f) with
  | none => false
  | some e => match e.fs.find? fun g => decide (g.what = c.what) with
    | none => false
    | some g => !latC c (chgOf e.name g)
theorem find_flds (n : ByteArray) (c : Chg) (h : n = c.f) : ∀ fs : List Fld, (fs.map (chgOf n)).find? (fun a => keyEq a c) = (fs.find? fun g => decide (g.what = c.what)).map (chgOf n)
  | [] => rfl
  | g :: fs => by
    rw [List.map_cons, List.find?_cons, List.find?_cons]
    have : keyEq (chgOf n g) c = decide (g.what = c.what) := by simp [keyEq, chgOf, h]
    rw [this]
    cases decide (g.what = c.what) with
    | true => rfl
    | false => exact find_flds n c h fs
theorem find_none (n : ByteArray) (c : Chg) (h : ¬ n = c.f) (fs : List Fld) : (fs.map (chgOf n)).find? (fun a => keyEq a c) = none := by
  rw [List.find?_eq_none]
  intro x hx
  obtain ⟨g, _, rfl⟩ := List.mem_map.1 hx
  simp [keyEq, chgOf, h]
theorem find_chgs (c : Chg) : ∀ es : List Ent, (es.Pairwise fun a b => ¬ a.name = b.name) → (chgsOf es).find? (fun a => keyEq a c) = (es.find? fun e => decide (e.name = c.f)).bind fun e => (e.fs.find? fun g => decide (g.what = c.what)).map (chgOf e.name)
  | [], _ => rfl
  | e :: es, hp => by
    have hp' := List.pairwise_cons.1 hp
    have e1 : chgsOf (e :: es) = e.fs.map (chgOf e.name) ++ chgsOf es := by simp [chgsOf]
    rw [e1, List.find?_append, List.find?_cons]
    by_cases h : e.name = c.f
    · have hz : (chgsOf es).find? (fun a => keyEq a c) = none := by
        rw [List.find?_eq_none]
        intro x hx
        obtain ⟨y, hy, hx⟩ := List.mem_flatMap.1 hx
        obtain ⟨g, _, rfl⟩ := List.mem_map.1 hx
        have : ¬ y.name = c.f := fun q => hp'.1 y hy (h.trans q.symm)
        simp [keyEq, chgOf, this]
      rw [hz, find_flds e.name c h]
      simp [h]
    · rw [find_none e.name c h, find_chgs c es hp'.2]
      simp [h]
theorem has_new (es : List Ent) (hp : es.Pairwise fun a b => ¬ a.name = b.name) (c : Chg) : (!hasS es c) = newB (chgsOf es) c := by
  unfold hasS newB
  rw [find_chgs c es hp]
  cases es.find? fun e => decide (e.name = c.f) with
  | none => rfl
  | some e =>
    dsimp only [Option.bind_some]
    cases e.fs.find? fun g => decide (g.what = c.what) with
    | none => rfl
    | some g => simp

theorem adj_pair {α : Type} {R : α → α → Prop} (ht : ∀ a b c, R a b → R b c → R a c) (l : List α) (h : ∀ i (hi : i + 1 < l.length), R (l[i]'(by omega)) l[i + 1]) : l.Pairwise R := by
  induction l with
  | nil => exact List.Pairwise.nil
  | cons a l ih =>
    have hl : l.Pairwise R := ih fun i hi => by
      have := h (i + 1) (by simp; omega)
      simpa using this
    refine List.pairwise_cons.2 ⟨fun b hb => ?_, hl⟩
    cases l with
    | nil => cases hb
    | cons c l =>
      have h0 : R a c := by simpa using h 0 (by simp)
      rcases List.mem_cons.1 hb with rfl | hb
      · exact h0
      · exact ht _ _ _ h0 ((List.pairwise_cons.1 hl).1 b hb)

/-- A book that is ok is in order, and its numbers are 1 or more. -/
theorem book_names {ks ps : List Tri} {es : List Ent} (h : bookB ks ps es = true) : es.Pairwise fun a b => blS a.name b.name = true := by
  simp only [bookB, Bool.and_eq_true] at h
  have hn : allB es.length (fun i => nameB (eat es i).name && ascE es i) = true := by
    have := h.2.1
    simp only [namesE, Bool.and_eq_true] at this
    exact this.2
  refine adj_pair (R := fun a b : Ent => blS a.name b.name = true) (fun a b c h k => blS_trans h k) es fun i hi => ?_
  have h1 := allB_get hn (i + 1) hi
  simp only [Bool.and_eq_true] at h1
  have h2 := h1.2
  rw [ascE_succ] at h2
  have e0 : eat es i = es[i] := by simp [eat, show i < es.length by omega]
  have e1 : eat es (i + 1) = es[i + 1] := by simp [eat, hi]
  rw [e0, e1] at h2
  simpa [geB, blS] using h2
theorem book_fields {ks ps : List Tri} {es : List Ent} (h : bookB ks ps es = true) {e : Ent} (he : e ∈ es) : fieldsB ks ps e.name e.fs = true := by
  simp only [bookB, Bool.and_eq_true] at h
  obtain ⟨i, hi, rfl⟩ := List.getElem_of_mem he
  have h1 := allB_get h.2.2 i hi
  have e0 : eat es i = es[i] := by simp [eat, hi]
  rw [e0] at h1; exact h1
theorem fields_sorted {ks ps : List Tri} {n : ByteArray} {l : List Fld} (h : fieldsB ks ps n l = true) : l.Pairwise fun a b => a.what < b.what := by
  simp only [fieldsB, Bool.and_eq_true] at h
  refine adj_pair (R := fun a b : Fld => a.what < b.what) (fun a b c h k => by omega) l fun i hi => ?_
  have h1 := allB_get h.1 (i + 1) hi
  simp only [Bool.and_eq_true] at h1
  have h2 := h1.1
  have e0 : fat l i = l[i] := by simp [fat, show i < l.length by omega]
  have e1 : fat l (i + 1) = l[i + 1] := by simp [fat, hi]
  simp only [ascF, Nat.add_sub_cancel, e0, e1] at h2
  simp at h2
  omega
theorem fields_fit {ks ps : List Tri} {n : ByteArray} {l : List Fld} (h : fieldsB ks ps n l = true) {f : Fld} (hf : f ∈ l) : fitB ks ps (chgOf n f) = true := by
  simp only [fieldsB, Bool.and_eq_true] at h
  obtain ⟨i, hi, rfl⟩ := List.getElem_of_mem hf
  have h1 := allB_get h.1 i hi
  simp only [Bool.and_eq_true] at h1
  have e0 : fat l i = l[i] := by simp [fat, hi]
  rw [e0] at h1; exact h1.2
theorem book_nums {ks ps : List Tri} {es : List Ent} (h : bookB ks ps es = true) : NumsC (chgsOf es) := fun c hc => by
  obtain ⟨e, he, hc⟩ := List.mem_flatMap.1 hc
  obtain ⟨f, hf, rfl⟩ := List.mem_map.1 hc
  have := fields_fit (book_fields h he) hf
  simp only [fitB, Bool.and_eq_true] at this
  have h2 := this.2.1
  simp [inB] at h2
  exact h2.1
theorem book_sorted {ks ps : List Tri} {es : List Ent} (h : bookB ks ps es = true) : SortedC (chgsOf es) := by
  have hn := book_names h
  have hf : ∀ e ∈ es, e.fs.Pairwise fun a b => a.what < b.what := fun e he => fields_sorted (book_fields h he)
  clear h
  induction es with
  | nil => exact List.Pairwise.nil
  | cons e es ih =>
    have hn' := List.pairwise_cons.1 hn
    have e1 : chgsOf (e :: es) = e.fs.map (chgOf e.name) ++ chgsOf es := by simp [chgsOf]
    unfold SortedC
    rw [e1, List.pairwise_append]
    refine ⟨?_, ih hn'.2 fun x hx => hf x (by simp [hx]), fun a ha b hb => ?_⟩
    · rw [List.pairwise_map]
      exact (hf e (by simp)).imp fun h => by simp [keyLt, chgOf, h]
    · obtain ⟨f, _, rfl⟩ := List.mem_map.1 ha
      obtain ⟨y, hy, hb⟩ := List.mem_flatMap.1 hb
      obtain ⟨g, _, rfl⟩ := List.mem_map.1 hb
      simp [keyLt, chgOf, hn'.1 y hy]
theorem book_apart {ks ps : List Tri} {es : List Ent} (h : bookB ks ps es = true) : es.Pairwise fun a b => ¬ a.name = b.name :=
  (book_names h).imp fun h e => by rw [e, blS_irrefl] at h; cases h
/-- The news of two books that are ok. -/
theorem news_eq {ks ps ks' ps' : List Tri} {a b : List Ent} (ha : bookB ks ps a = true) (hb : bookB ks' ps' b = true) :
    (pairsW (chgsOf a) (chgsOf b)).filterMap pick = (chgsOf b).filter fun c => !hasS a c := by
  rw [pairs_news _ _ (book_sorted ha) (book_sorted hb) (book_nums ha) (book_nums hb)]
  exact List.filter_congr fun c _ => (has_new a (book_apart ha) c).symm
end Go.Proofs.YteffdgjoahkdaabGreat

/-
  Plain facts: changes put in one by one, the latest of each thing kept; entries out of sorted changes.
-/
namespace Go.Proofs.YteffdgjoahkdaabGreat
open Go.RowKit

/-- A change is put among sorted ones; of two of one thing the later stays. -/
def putC : List Chg → Chg → List Chg
  | [], c => [c]
  | a :: l, c => if keyLt a c then a :: putC l c else if keyEq a c then (if latC c a then c :: l else a :: l) else c :: a :: l
theorem putC_mem {l : List Chg} {c x : Chg} (h : x ∈ putC l c) : x = c ∨ x ∈ l := by
  induction l with
  | nil => simp [putC] at h; exact .inl h
  | cons a l ih =>
    rw [putC] at h
    split at h
    · rcases List.mem_cons.1 h with rfl | h
      · exact .inr (by simp)
      · rcases ih h with h | h
        · exact .inl h
        · exact .inr (by simp [h])
    · split at h
      · split at h
        · rcases List.mem_cons.1 h with rfl | h
          · exact .inl rfl
          · exact .inr (by simp [h])
        · exact .inr h
      · rcases List.mem_cons.1 h with rfl | h
        · exact .inl rfl
        · exact .inr h
theorem putC_nums {l : List Chg} {c : Chg} (h : NumsC l) (hc : 1 ≤ c.num) : NumsC (putC l c) := fun x hx => by
  rcases putC_mem hx with rfl | hx
  · exact hc
  · exact h x hx
theorem keyLt_of_eq' {a b c : Chg} (h : keyEq b c = true) (k : keyLt a b = true) : keyLt a c = true := by
  obtain ⟨h1, h2⟩ := keyEq_iff.1 h
  simp only [keyLt, Bool.or_eq_true, Bool.and_eq_true, decide_eq_true_eq] at k ⊢
  rw [← h1, ← h2]; exact k
theorem putC_sorted {l : List Chg} (c : Chg) (h : SortedC l) : SortedC (putC l c) := by
  induction l with
  | nil => simp [putC, SortedC]
  | cons a l ih =>
    have h' := List.pairwise_cons.1 h
    rw [putC]
    cases hlt : keyLt a c with
    | true =>
      rw [if_pos rfl]
      refine List.pairwise_cons.2 ⟨fun x hx => ?_, ih h'.2⟩
      rcases putC_mem hx with rfl | hx
      · exact hlt
      · exact h'.1 x hx
    | false =>
      rw [if_neg (by simp)]
      cases heq : keyEq a c with
      | true =>
        rw [if_pos rfl]
        split
        · exact List.pairwise_cons.2 ⟨fun x hx => keyLt_of_eq (by rw [keyEq_symm]; exact heq) (h'.1 x hx), h'.2⟩
        · exact h
      | false =>
        rw [if_neg (by simp)]
        have hgt := keyGt hlt heq
        refine List.pairwise_cons.2 ⟨fun x hx => ?_, h⟩
        rcases List.mem_cons.1 hx with rfl | hx
        · exact hgt
        · exact keyLt_trans hgt (h'.1 x hx)
/-- Behind all that is there. -/
theorem putC_last {l : List Chg} {c : Chg} (h : ∀ a ∈ l, keyLt a c = true) : putC l c = l ++ [c] := by
  induction l with
  | nil => rfl
  | cons a l ih => rw [putC, if_pos (h a (by simp)), ih fun x hx => h x (by simp [hx])]; rfl
theorem putAll_app {l m : List Chg} (h : SortedC (l ++ m)) : m.foldl putC l = l ++ m := by
  induction m generalizing l with
  | nil => simp
  | cons c m ih =>
    rw [List.foldl_cons, putC_last, ih]
    · simp
    · simpa using h
    · have := (List.pairwise_append.1 h).2.2
      exact fun a ha => this a ha c (by simp)
theorem putAll_self {l : List Chg} (h : SortedC l) : l.foldl putC [] = l := by simpa using putAll_app (l := []) (by simpa using h)
/-- What is found behind it. -/
theorem putC_find {l : List Chg} (c k : Chg) (h : SortedC l) : (putC l c).find? (fun a => keyEq a k) = if keyEq c k then (if newB l c then some c else l.find? fun a => keyEq a k) else l.find? fun a => keyEq a k := by
  induction l with
  | nil => simp [putC, newB_nil]
  | cons a l ih =>
    have h' := List.pairwise_cons.1 h
    rw [putC]
    cases hlt : keyLt a c with
    | true =>
      rw [if_pos rfl, List.find?_cons, ih h'.2, newB_skip (keyLt_ne hlt)]
      cases hak : keyEq a k with
      | true =>
        have hck : keyEq c k = false := by
          cases hck : keyEq c k with
          | false => rfl
          | true =>
            obtain ⟨a1, a2⟩ := keyEq_iff.1 hak
            obtain ⟨c1, c2⟩ := keyEq_iff.1 hck
            have : keyEq a c = true := keyEq_iff.2 ⟨a1.trans c1.symm, a2.trans c2.symm⟩
            rw [keyLt_ne hlt] at this; cases this
        simp [hck, hak]
      | false => simp [hak]
    | false =>
      rw [if_neg (by simp)]
      cases heq : keyEq a c with
      | true =>
        rw [if_pos rfl, newB_hit heq]
        have hak : keyEq a k = keyEq c k := by
          obtain ⟨a1, a2⟩ := keyEq_iff.1 heq
          simp [keyEq, a1, a2]
        cases hl : latC c a with
        | true => rw [if_pos rfl, List.find?_cons, List.find?_cons, hak]; cases keyEq c k <;> simp
        | false => rw [if_neg (by simp)]; cases keyEq c k <;> simp
      | false =>
        have hgt := keyGt hlt heq
        have hpast : newB (a :: l) c = true := newB_past fun x hx => by
          rw [keyEq_symm]
          rcases List.mem_cons.1 hx with rfl | hx
          · exact keyLt_ne hgt
          · exact keyLt_ne (keyLt_trans hgt (h'.1 x hx))
        rw [if_neg (by simp), hpast, List.find?_cons]
        cases keyEq c k <;> simp

def fldC (c : Chg) : Fld := ⟨c.what, c.num, c.v⟩
/-- One more change behind entries. -/
def addE (es : List Ent) (c : Chg) : List Ent := match es.getLast? with
  | some e => if e.name = c.f then es.dropLast ++ [⟨e.name, e.fs ++ [fldC c]⟩] else es ++ [⟨c.f, [fldC c]⟩]
  | none => [⟨c.f, [fldC c]⟩]
theorem addE_new {es : List Ent} {c : Chg} (h : ∀ e, es.getLast? = some e → e.name ≠ c.f) : addE es c = es ++ [⟨c.f, [fldC c]⟩] := by
  unfold addE
  cases hl : es.getLast? with
  | none => rw [List.getLast?_eq_none_iff.1 hl]; rfl
  | some e => simp only []; rw [if_neg (h e hl)]
theorem addE_more {es : List Ent} {e : Ent} {c : Chg} (h : e.name = c.f) : addE (es ++ [e]) c = es ++ [⟨e.name, e.fs ++ [fldC c]⟩] := by
  unfold addE
  simp [h]
theorem addE_flds (n : ByteArray) (es : List Ent) (fs gs : List Fld) : (gs.map (chgOf n)).foldl addE (es ++ [⟨n, fs⟩]) = es ++ [⟨n, fs ++ gs⟩] := by
  induction gs generalizing fs with
  | nil => simp
  | cons g gs ih =>
    rw [List.map_cons, List.foldl_cons, addE_more (c := chgOf n g) rfl, ih]
    simp [fldC, chgOf]
theorem addE_ent {es : List Ent} {e : Ent} (hne : e.fs ≠ []) (h : ∀ x, es.getLast? = some x → x.name ≠ e.name) : (e.fs.map (chgOf e.name)).foldl addE es = es ++ [e] := by
  obtain ⟨n, fs⟩ := e
  cases fs with
  | nil => exact absurd rfl hne
  | cons f fs =>
    rw [List.map_cons, List.foldl_cons, addE_new (c := chgOf n f) h]
    exact addE_flds n es [f] fs
/-- Entries that are in order come back. -/
theorem grp_app {es xs : List Ent} (hne : ∀ e ∈ xs, e.fs ≠ []) (h : (es ++ xs).Pairwise fun a b => ¬ a.name = b.name) : (chgsOf xs).foldl addE es = es ++ xs := by
  induction xs generalizing es with
  | nil => simp [chgsOf]
  | cons x xs ih =>
    have e1 : chgsOf (x :: xs) = x.fs.map (chgOf x.name) ++ chgsOf xs := by simp [chgsOf]
    rw [e1, List.foldl_append, addE_ent (hne x (by simp)), ih (fun e he => hne e (by simp [he]))]
    · simp
    · simpa using h
    · intro y hy
      have hm : y ∈ es := List.mem_of_getLast? hy
      exact (List.pairwise_append.1 h).2.2 y hm x (by simp)
theorem grp_self {es : List Ent} (hne : ∀ e ∈ es, e.fs ≠ []) (h : es.Pairwise fun a b => ¬ a.name = b.name) : (chgsOf es).foldl addE [] = es := by simpa using grp_app (es := []) hne (by simpa using h)
end Go.Proofs.YteffdgjoahkdaabGreat

/-
  Plain facts: a field put into entries, as the specification does it, and as changes.
-/
namespace Go.Proofs.YteffdgjoahkdaabGreat
open Go.RowKit

def latF (f g : Fld) : Bool := latC (chgOf ⟨#[]⟩ f) (chgOf ⟨#[]⟩ g)
theorem latF_chg (n m : ByteArray) (f g : Fld) : latC (chgOf n f) (chgOf m g) = latF f g := rfl
/-- A field among sorted ones. -/
def putF : List Fld → Fld → List Fld
  | [], f => [f]
  | g :: l, f => if g.what < f.what then g :: putF l f else if g.what = f.what then (if latF f g then f :: l else g :: l) else f :: g :: l
/-- A field of a flight among sorted entries. -/
def putE : List Ent → ByteArray → Fld → List Ent
  | [], n, f => [⟨n, [f]⟩]
  | e :: es, n, f => if e.name = n then ⟨e.name, putF e.fs f⟩ :: es else if blS e.name n then e :: putE es n f else ⟨n, [f]⟩ :: e :: es
theorem putF_ne (l : List Fld) (f : Fld) : putF l f ≠ [] := by
  cases l with
  | nil => simp [putF]
  | cons g l => rw [putF]; split <;> (try split) <;> (try split) <;> simp
theorem putE_ne {es : List Ent} (n : ByteArray) (f : Fld) (h : ∀ e ∈ es, e.fs ≠ []) : ∀ e ∈ putE es n f, e.fs ≠ [] := by
  induction es with
  | nil => simp [putE]
  | cons x es ih =>
    have ih' := ih fun e he => h e (by simp [he])
    rw [putE]
    split
    · intro e he
      rcases List.mem_cons.1 he with rfl | he
      · exact putF_ne _ _
      · exact h e (by simp [he])
    · split
      · intro e he
        rcases List.mem_cons.1 he with rfl | he
        · exact h _ (by simp)
        · exact ih' e he
      · intro e he
        rcases List.mem_cons.1 he with rfl | he
        · simp
        · exact h e he
theorem putE_name {es : List Ent} {n : ByteArray} {f : Fld} {x : Ent} (h : x ∈ putE es n f) : x.name = n ∨ ∃ e ∈ es, e.name = x.name := by
  induction es with
  | nil => simp [putE] at h; exact .inl (by rw [h])
  | cons e es ih =>
    rw [putE] at h
    split at h
    · rename_i he
      rcases List.mem_cons.1 h with rfl | h
      · exact .inl he
      · exact .inr ⟨x, by simp [h], rfl⟩
    · split at h
      · rcases List.mem_cons.1 h with rfl | h
        · exact .inr ⟨x, by simp, rfl⟩
        · rcases ih h with h | ⟨y, hy, hn⟩
          · exact .inl h
          · exact .inr ⟨y, by simp [hy], hn⟩
      · rcases List.mem_cons.1 h with rfl | h
        · exact .inl rfl
        · exact .inr ⟨x, h, rfl⟩
theorem putE_sorted {es : List Ent} (n : ByteArray) (f : Fld) (h : es.Pairwise fun a b => blS a.name b.name = true) : (putE es n f).Pairwise fun a b => blS a.name b.name = true := by
  induction es with
  | nil => simp [putE]
  | cons e es ih =>
    have h' := List.pairwise_cons.1 h
    rw [putE]
    split
    · exact List.pairwise_cons.2 ⟨fun x hx => h'.1 x hx, h'.2⟩
    · rename_i hne
      split
      · rename_i hlt
        refine List.pairwise_cons.2 ⟨fun x hx => ?_, ih h'.2⟩
        rcases putE_name hx with hx | ⟨y, hy, hn⟩
        · rw [hx]; exact hlt
        · rw [← hn]; exact h'.1 y hy
      · rename_i hnl
        have hgt : blS n e.name = true := by
          cases hg : blS n e.name with
          | true => rfl
          | false => exact absurd (blS_total (by simpa using hnl) hg) hne
        refine List.pairwise_cons.2 ⟨fun x hx => ?_, h⟩
        rcases List.mem_cons.1 hx with rfl | hx
        · exact hgt
        · exact blS_trans hgt (h'.1 x hx)
theorem putE_apart {es : List Ent} (h : es.Pairwise fun a b => blS a.name b.name = true) : es.Pairwise fun a b => ¬ a.name = b.name :=
  h.imp fun h e => by rw [e, blS_irrefl] at h; cases h

theorem putC_skip {l m : List Chg} {c : Chg} (h : ∀ a ∈ l, keyLt a c = true) : putC (l ++ m) c = l ++ putC m c := by
  induction l with
  | nil => rfl
  | cons a l ih => rw [List.cons_append, putC, if_pos (h a (by simp)), ih fun x hx => h x (by simp [hx])]; rfl
theorem keyLt_not {a c : Chg} (h : keyLt c a = true) : keyLt a c = false ∧ keyEq a c = false := by
  refine ⟨?_, by rw [keyEq_symm]; exact keyLt_ne h⟩
  cases hk : keyLt a c with
  | false => rfl
  | true =>
    have := keyLt_ne (keyLt_trans h hk)
    simp [keyEq] at this
theorem putC_front {m : List Chg} {c : Chg} (h : ∀ a ∈ m, keyLt c a = true) : putC m c = c :: m := by
  cases m with
  | nil => rfl
  | cons a m => obtain ⟨h1, h2⟩ := keyLt_not (h a (by simp)); rw [putC, h1, h2]; simp
theorem putC_flds (n : ByteArray) (f : Fld) (m : List Chg) (hm : ∀ a ∈ m, keyLt (chgOf n f) a = true) : ∀ fs : List Fld, putC (fs.map (chgOf n) ++ m) (chgOf n f) = (putF fs f).map (chgOf n) ++ m
  | [] => by simpa [putF] using putC_front hm
  | g :: fs => by
    rw [List.map_cons, List.cons_append, putC, putF]
    have e1 : keyLt (chgOf n g) (chgOf n f) = decide (g.what < f.what) := by simp [keyLt, chgOf, blS_irrefl]; rfl
    have e2 : keyEq (chgOf n g) (chgOf n f) = decide (g.what = f.what) := by simp [keyEq, chgOf]; rfl
    rw [e1, e2, latF_chg, putC_flds n f m hm fs]
    by_cases h1 : g.what < f.what
    · simp [h1]
    · by_cases h2 : g.what = f.what
      · cases hl : latF f g <;> simp [h2]
      · simp [h1, h2]
theorem chgs_cons (e : Ent) (es : List Ent) : chgsOf (e :: es) = e.fs.map (chgOf e.name) ++ chgsOf es := by simp [chgsOf]
theorem chgs_above {n : ByteArray} {f : Fld} {es : List Ent} (h : ∀ e ∈ es, blS n e.name = true) : ∀ a ∈ chgsOf es, keyLt (chgOf n f) a = true := by
  intro a ha
  obtain ⟨e, he, ha⟩ := List.mem_flatMap.1 ha
  obtain ⟨g, _, rfl⟩ := List.mem_map.1 ha
  simp [keyLt, chgOf, h e he]
/-- Both ways come to one. -/
theorem chgs_putE {es : List Ent} (n : ByteArray) (f : Fld) (h : es.Pairwise fun a b => blS a.name b.name = true) : chgsOf (putE es n f) = putC (chgsOf es) (chgOf n f) := by
  induction es with
  | nil => simp [putE, chgsOf, putC]
  | cons e es ih =>
    have h' := List.pairwise_cons.1 h
    rw [putE, chgs_cons]
    split
    · rename_i he
      subst he
      rw [putC_flds _ _ _ (chgs_above h'.1), chgs_cons]
    · rename_i hne
      split
      · rename_i hlt
        rw [putC_skip, chgs_cons, ih h'.2]
        intro a ha
        obtain ⟨g, _, rfl⟩ := List.mem_map.1 ha
        simp [keyLt, chgOf, hlt]
      · rename_i hnl
        have hgt : blS n e.name = true := by
          cases hg : blS n e.name with
          | true => rfl
          | false => exact absurd (blS_total (by simpa using hnl) hg) hne
        rw [chgs_cons, putC_front]
        · rw [chgs_cons]; simp
        · rw [← chgs_cons]
          exact chgs_above (f := f) fun x hx => by
            rcases List.mem_cons.1 hx with rfl | hx
            · exact hgt
            · exact blS_trans hgt (h'.1 x hx)
/-- What the program writes down is what the specification writes down. -/
theorem put_entries {es : List Ent} (n : ByteArray) (f : Fld) (h : es.Pairwise fun a b => blS a.name b.name = true) (hne : ∀ e ∈ es, e.fs ≠ []) : (putC (chgsOf es) (chgOf n f)).foldl addE [] = putE es n f := by
  rw [← chgs_putE n f h]
  exact grp_self (putE_ne n f hne) (putE_apart (putE_sorted n f h))
/-- How many there are. -/
theorem putE_len {es : List Ent} (n : ByteArray) (f : Fld) (h : es.Pairwise fun a b => blS a.name b.name = true) : (putE es n f).length = if es.any (fun e => decide (e.name = n)) then es.length else es.length + 1 := by
  induction es with
  | nil => simp [putE]
  | cons e es ih =>
    have h' := List.pairwise_cons.1 h
    rw [putE]
    split
    · rename_i he; simp [he]
    · rename_i hne
      split
      · rw [List.length_cons, ih h'.2]; simp [hne]; split <;> simp
      · rename_i hnl
        have hgt : blS n e.name = true := by
          cases hg : blS n e.name with
          | true => rfl
          | false => exact absurd (blS_total (by simpa using hnl) hg) hne
        have hno : es.any (fun e => decide (e.name = n)) = false := by
          rw [List.any_eq_false]
          intro x hx hxn
          have hxn : x.name = n := by simpa using hxn
          have := blS_trans hgt (h'.1 x hx)
          rw [hxn, blS_irrefl] at this; cases this
        simp [hne, hno]
end Go.Proofs.YteffdgjoahkdaabGreat

/-
  The map of what a book says: its keys, its elements, what it holds.
-/
namespace Go.Proofs.YteffdgjoahkdaabGreat
open Go.RowKit

theorem laidOutM : laidOutB Tryz.prog = true := by kernel_rfl
theorem rowK : (115 : TypeId) < Tryz.prog.types.size := of_decide_eq_true (by kernel_rfl)
theorem sizeP : 0 < Tryz.prog.types.size := of_decide_eq_true (by kernel_rfl)
theorem deepK : Tryz.prog.keyType 115 = true := by kernel_rfl
theorem wideK : (match Tryz.prog.underlying 115 with | some (.array _ _) | some (.struct _) => true | _ => false) = true := by kernel_rfl
set_option maxRecDepth 100000 in
theorem lawK : WideMaps.KeyLaw Tryz.prog 115 := deep_law_laid laidOutM (m := 2) (by omega) rowK (by kernel_rfl) wideK
theorem keyedK : Maps.Keyed Tryz.prog 115 := Maps.Keyed.of_law lawK
theorem cellsK : Tryz.prog.cellsOf 115 = 2 := by kernel_rfl
theorem cellsS : Tryz.prog.cellsOf 9 = 1 := by kernel_rfl
theorem cellsI : Tryz.prog.cellsOf 3 = 1 := by kernel_rfl
/-- What a key reads as. -/
def klK (f : ByteArray) (n : Int) : Lit := .string (keyBytes [.string f.data.toList, .int .i64 n])
theorem keyOf_K {f : ByteArray} {n : Int} (hf : f.size ≤ maxLen) (hn : (Lit.int .i64 n).wf = true) : keyOf Tryz.prog 115 (.agg #[.string f, .int .i64 n]) = some (klK f n) := by
  obtain ⟨m, hm⟩ : ∃ m, Tryz.prog.types.size = m + 1 := by
    have h := sizeP
    generalize Tryz.prog.types.size = N at h ⊢
    exact ⟨N - 1, by omega⟩
  have hfm : (Tryz.prog.keyType 115 && (Value.agg #[.string f, .int .i64 n]).formed Tryz.prog 115) = true := by
    rw [deepK]; simp [Value.formed, Tryz.underlying115, cellsK]
  have hl : Tryz.prog.keyLits (Tryz.prog.types.size + 1) 115 [.string f, .int .i64 n] = some [.string f.data.toList, .int .i64 n] := by
    rw [hm]
    simp [Program.keyLits, Tryz.underlying115, Tryz.underlying9, Tryz.underlying3, cellsK, cellsS, cellsI, hf, hn]
  unfold keyOf
  rw [Tryz.underlying115]
  simp only []
  rw [if_pos hfm]
  have e : (Value.agg #[.string f, .int .i64 n]).cells.toList = [.string f, .int .i64 n] := rfl
  rw [e, hl]
  rfl
theorem klK_inj {f g : ByteArray} {n m : Int} (hf : f.size ≤ maxLen) (hn : (Lit.int .i64 n).wf = true) (hg : g.size ≤ maxLen) (hm : (Lit.int .i64 m).wf = true) (h : klK f n = klK g m) : f = g ∧ n = m := by
  have h1 := keyedK.inj (keyOf_K hf hn) (h ▸ keyOf_K hg hm)
  simp at h1
  exact h1
end Go.Proofs.YteffdgjoahkdaabGreat

/-
  The map of what a book says, by the sorted changes that it holds: read, written.
-/
namespace Go.Proofs.YteffdgjoahkdaabGreat
open Go.RowKit

/-- How an element reads. -/
def fldD (f : Fld) : DataW Unit := .agg [.lit (.int .i64 f.what), .lit (.int .i64 f.num), .lit (.string f.v.data.toList)]
def RFL : List Value → Option (DataW Unit × List MemPlace)
  | [.int .i64 a, .int .i64 b, .string s] => some (fldD ⟨a, b, s⟩, [])
  | _ => none
def RF : Value → Option (DataW Unit × List MemPlace)
  | .agg cs => RFL cs.toList
  | _ => none
theorem RF_mk (f : Fld) : RF (.agg #[.int .i64 f.what, .int .i64 f.num, .string f.v]) = some (fldD f, []) := rfl
theorem fldD_inj {f g : Fld} (h : fldD f = fldD g) : f = g := by
  obtain ⟨a, b, s⟩ := f
  obtain ⟨a', b', s'⟩ := g
  simp only [fldD, DataW.agg.injEq, List.cons.injEq, DataW.lit.injEq, Lit.int.injEq, Lit.string.injEq, true_and, and_true] at h
  obtain ⟨rfl, rfl, h⟩ := h
  rw [bytes_inj h]
theorem RFL_inv {l : List Value} {f : Fld} {ps : List MemPlace} (h : RFL l = some (fldD f, ps)) : l = [.int .i64 f.what, .int .i64 f.num, .string f.v] := by
  unfold RFL at h
  split at h
  · simp only [Option.some.injEq, Prod.mk.injEq] at h
    have := fldD_inj h.1
    subst this
    rfl
  · cases h
theorem RF_inv {v : Value} {f : Fld} {ps : List MemPlace} (h : RF v = some (fldD f, ps)) : v = .agg #[.int .i64 f.what, .int .i64 f.num, .string f.v] := by
  cases v
  case agg cs =>
    have := RFL_inv h
    rw [← Array.toArray_toList (xs := cs), this]
  all_goals cases h
def noF : Fld := ⟨0, 0, ⟨#[]⟩⟩
/-- What one thing's field is among changes. -/
def getF (S : List Chg) (k : Chg) : Fld := match S.find? fun a => keyEq a k with
  | some a => fldC a
  | none => noF
/-- A change whose key can be one. -/
def KeyFit (c : Chg) : Prop := c.f.size ≤ maxLen ∧ (Lit.int .i64 c.what).wf = true
/-- Block b is a map that holds just these changes. -/
def MapIs (w : World) (b n : Nat) (S : List Chg) : Prop := ∃ D : DataW Unit, w.ownsMap Tryz.prog 115 RF b n D ∧ Maps.IsMap D ∧
  ∀ k : Chg, KeyFit k → ∀ z, D.atKey (klK k.f k.what) z = match S.find? fun a => keyEq a k with
    | some a => fldD (fldC a)
    | none => z
theorem MapIs.made (w : World) : MapIs (w.alloc (.map #[] 0)) w.heap.size 0 [] := ⟨.map [], World.ownsMap_made w _ _ _, Maps.isMap_empty, fun k _ z => by simp [DataW.atKey]⟩
theorem MapIs.kept {w w' : World} {b n : Nat} {S : List Chg} {row : Option Nat} (h : MapIs w b n S) (hg : w.grownBy w' row) (hne : some b ≠ row) : MapIs w' b n S := by
  obtain ⟨D, h1, h2, h3⟩ := h
  exact ⟨D, h1.kept hg hne, h2, h3⟩
theorem zeroF (w : World) : (zeroValue 71).run Tryz.prog w = .ok (.agg #[.int .i64 0, .int .i64 0, .string ⟨#[]⟩]) w := by kernel_rfl
theorem MapIs.lookup {w : World} {b n : Nat} {S : List Chg} (h : MapIs w b n S) (k : Chg) (hk : KeyFit k) :
    (Instr.lookup 113 (.map (some b)) (.agg #[.string k.f, .int .i64 k.what]) false).run Tryz.prog w = .ok (.agg #[.int .i64 (getF S k).what, .int .i64 (getF S k).num, .string (getF S k).v]) w := by
  obtain ⟨D, h1, _, h3⟩ := h
  obtain ⟨v, ps, hr, hv⟩ := h1.lookup keyedK Tryz.underlying113 (zeroF w) (RF_mk noF) (keyOf_K hk.1 hk.2)
  have e : D.atKey (klK k.f k.what) (fldD noF) = fldD (getF S k) := by
    rw [h3 k hk]
    unfold getF
    cases S.find? fun a => keyEq a k <;> rfl
  rw [e] at hv
  rw [hr, RF_inv hv]
theorem MapIs.update {w : World} {b n : Nat} {S : List Chg} (h : MapIs w b n S) (c : Chg) (hc : KeyFit c) (hS : SortedC S) (hn : n < maxLen) (hnew : newB S c = true) :
    ∃ w', (Instr.mapUpdate 113 (.map (some b)) (.agg #[.string c.f, .int .i64 c.what]) (.agg #[.int .i64 c.what, .int .i64 c.num, .string c.v])).run Tryz.prog w = .ok () w' ∧ MapIs w' b (n + 1) (putC S c) ∧ w.grownBy w' (some b) := by
  obtain ⟨D, h1, h2, h3⟩ := h
  obtain ⟨w', hr, h4, hg⟩ := h1.update keyedK Tryz.underlying113 hn (keyOf_K hc.1 hc.2) (RF_mk (fldC c))
  refine ⟨w', hr, ⟨_, h4, h2.put _ _, fun k hk z => ?_⟩, hg⟩
  rw [putC_find c k hS]
  cases hck : keyEq c k with
  | true =>
    obtain ⟨e1, e2⟩ := keyEq_iff.1 hck
    rw [← e1, ← e2, Maps.atKey_put_same h2 (keyedK.key (keyOf_K hc.1 hc.2)), hnew]
    rfl
  | false =>
    rw [Maps.atKey_put_other, h3 k hk z]
    · rfl
    · intro e
      obtain ⟨e1, e2⟩ := klK_inj hk.1 hk.2 hc.1 hc.2 e
      rw [keyEq_iff.2 ⟨e1.symm, e2.symm⟩] at hck
      cases hck
end Go.Proofs.YteffdgjoahkdaabGreat

/-
  The map's keys.
-/
namespace Go.Proofs.YteffdgjoahkdaabGreat
open Go.RowKit

theorem lits_str {P : Program} {d : Nat} {t : TypeId} {x : Value} {ls : List Lit} (u : P.underlying t = some .string) (h : P.keyLits (d + 1) t [x] = some ls) : ∃ f : ByteArray, x = .string f ∧ f.size ≤ maxLen ∧ ls = [.string f.data.toList] := by
  unfold Program.keyLits at h
  rw [u] at h
  cases x <;> simp at h
  rename_i s
  exact ⟨s, rfl, h.1, h.2.symm⟩
theorem lits_int {P : Program} {d : Nat} {t : TypeId} {x : Value} {ls : List Lit} (u : P.underlying t = some (.int .i64)) (h : P.keyLits (d + 1) t [x] = some ls) : ∃ n : Int, x = .int .i64 n ∧ (Lit.int .i64 n).wf = true ∧ ls = [.int .i64 n] := by
  unfold Program.keyLits at h
  rw [u] at h
  cases x <;> simp at h
  rename_i q n
  obtain ⟨⟨rfl, hw⟩, rfl⟩ := h
  exact ⟨n, rfl, hw, rfl⟩
theorem keyOf_inv2 {P : Program} {k : TypeId} {f0 f1 : Field} (hu : P.underlying k = some (.struct #[f0, f1])) (hc : P.cellsOf k = 2) (o0 : f0.offset = 0) (o1 : f1.offset = 1) (c0 : P.cellsOf f0.type = 1) (c1 : P.cellsOf f1.type = 1) (u0 : P.underlying f0.type = some .string) (u1 : P.underlying f1.type = some (.int .i64)) (hsz : 0 < P.types.size)
    {v : Value} {l : Lit} (h : keyOf P k v = some l) : ∃ (f : ByteArray) (n : Int), v = .agg #[.string f, .int .i64 n] ∧ f.size ≤ maxLen ∧ (Lit.int .i64 n).wf = true ∧ l = klK f n := by
  obtain ⟨m, hm⟩ : ∃ m, P.types.size = m + 1 := ⟨P.types.size - 1, by omega⟩
  unfold keyOf at h
  rw [hu] at h
  simp only [] at h
  split at h
  · rename_i hf
    rw [Bool.and_eq_true] at hf
    have hfo := hf.2
    cases v <;> simp [Value.formed, hu, hc] at hfo
    rename_i cs
    obtain ⟨x, y, hxy⟩ : ∃ x y, cs = #[x, y] := by
      match cs, hfo with
      | ⟨[x, y]⟩, _ => exact ⟨x, y, rfl⟩
    subst hxy
    rw [Option.map_eq_some_iff] at h
    obtain ⟨ls, h1, rfl⟩ := h
    rw [hm] at h1
    unfold Program.keyLits at h1
    rw [hu] at h1
    simp [Value.cells, hc, o0, o1, c0, c1, List.mapM_cons] at h1
    obtain ⟨_, h2⟩ := h1
    cases hx : P.keyLits (m + 1) f0.type [x] with
    | none => rw [hx] at h2; cases h2
    | some l0 =>
      rw [hx] at h2
      cases hy : P.keyLits (m + 1) f1.type [y] with
      | none => rw [hy] at h2; cases h2
      | some l1 =>
        rw [hy] at h2
        obtain ⟨f, rfl, hf1, rfl⟩ := lits_str u0 hx
        obtain ⟨n, rfl, hn1, rfl⟩ := lits_int u1 hy
        simp at h2
        subst h2
        exact ⟨f, n, rfl, hf1, hn1, rfl⟩
  · cases h
theorem keyOf_inv {v : Value} {l : Lit} (h : keyOf Tryz.prog 115 v = some l) : ∃ (f : ByteArray) (n : Int), v = .agg #[.string f, .int .i64 n] ∧ f.size ≤ maxLen ∧ (Lit.int .i64 n).wf = true ∧ l = klK f n :=
  keyOf_inv2 Tryz.underlying115 cellsK rfl rfl cellsS cellsI Tryz.underlying9 Tryz.underlying3 sizeP h
/-- What the map has. -/
theorem MapIs.has {D : DataW Unit} {S : List Chg} (h : ∀ k : Chg, KeyFit k → ∀ z, D.atKey (klK k.f k.what) z = match S.find? fun a => keyEq a k with | some a => fldD (fldC a) | none => z) (k : Chg) (hk : KeyFit k) : Maps.has D (klK k.f k.what) = S.any fun a => keyEq a k := by
  cases hf : S.find? fun a => keyEq a k with
  | none =>
    rw [Maps.has_false_of_atKey (fun z => by rw [h k hk z, hf])]
    rw [List.find?_eq_none] at hf
    exact (List.any_eq_false.2 (fun a ha => by simpa using hf a ha)).symm
  | some a =>
    rw [Maps.has_true_of_atKey (y := fldD (fldC a)) (fun z => by rw [h k hk z, hf])]
    exact (List.any_eq_true.2 ⟨a, List.mem_of_find?_eq_some hf, List.find?_some (p := fun a => keyEq a k) hf⟩).symm
end Go.Proofs.YteffdgjoahkdaabGreat

/-
  DERIVED: THE SHELF's CONTRACTS AT THIS DUMP, IN PLAIN WORDS (tools/lay-plain.mjs out of 'TryzShelf.lean', which tools/lay-shelf.mjs wrote): THE SAME DECLARATIONS UNDER THE SAME NAMES: 'import', 'namespace', 'open', 'def', 'theorem' AND NOTHING ELSE: no command of the shelf's: FOR A HAND-IN. Each laying: the table of numbers ('.._ren') and one theorem, a field a fact of the dump's own or the kernel's comparison; each contract: ONE APPLICATION.
-/
namespace Go.Proofs
open Go.Shelf
def Tryz.lays213_ren : Go.Shelf.Ren := ⟨fun | 213 => 138 | 265 => 150 | n => n, fun | 9 => 9 | 3 => 3 | n => n, fun | n => n⟩
theorem Tryz.lays213 : Go.Proofs.Lays.n213 Tryz.prog Tryz.lays213_ren := {
  mixed := by kernel_rfl
  f213 := Tryz.func138.trans (congrArg some (by kernel_rfl))
  f265 := Tryz.func150.trans (congrArg some (by kernel_rfl))
  t3 := Tryz.underlying3
  a3 := Tryz.isAgg3
  z3 := Tryz.sizeOf3
  v3 := Tryz.zeroValue3
  t9 := Tryz.underlying9
  a9 := Tryz.isAgg9
  z9 := Tryz.sizeOf9
  v9 := Tryz.zeroValue9 }
def Tryz.lays106_ren : Go.Shelf.Ren := ⟨fun | 106 => 133 | 213 => 138 | 265 => 150 | n => n, fun | 9 => 9 | 3 => 3 | n => n, fun | n => n⟩
theorem Tryz.lays106 : Go.Proofs.Lays.n106 Tryz.prog Tryz.lays106_ren := {
  mixed := by kernel_rfl
  f106 := Tryz.func133.trans (congrArg some (by kernel_rfl))
  f213 := Tryz.func138.trans (congrArg some (by kernel_rfl))
  f265 := Tryz.func150.trans (congrArg some (by kernel_rfl))
  t3 := Tryz.underlying3
  a3 := Tryz.isAgg3
  z3 := Tryz.sizeOf3
  v3 := Tryz.zeroValue3
  t9 := Tryz.underlying9
  a9 := Tryz.isAgg9
  z9 := Tryz.sizeOf9
  v9 := Tryz.zeroValue9 }
def Tryz.laysM316_ren : Go.Shelf.Ren := ⟨fun | 316 => 119 | n => n, fun | 9 => 9 | 3 => 3 | 4 => 4 | 37 => 131 | 0 => 0 | 127 => 180 | 5 => 5 | n => n, fun | n => n⟩
theorem Tryz.laysM316 : Go.Proofs.LaysM.n316 Tryz.prog Tryz.laysM316_ren := {
  mixed := by kernel_rfl
  f316 := Tryz.func119.trans (congrArg some (by kernel_rfl))
  t0 := Tryz.underlying0
  a0 := Tryz.isAgg0
  z0 := Tryz.sizeOf0
  v0 := Tryz.zeroValue0
  t3 := Tryz.underlying3
  a3 := Tryz.isAgg3
  z3 := Tryz.sizeOf3
  v3 := Tryz.zeroValue3
  t4 := Tryz.underlying4
  a4 := Tryz.isAgg4
  z4 := Tryz.sizeOf4
  v4 := Tryz.zeroValue4
  t9 := Tryz.underlying9
  a9 := Tryz.isAgg9
  z9 := Tryz.sizeOf9
  v9 := Tryz.zeroValue9
  t37 := Tryz.underlying131
  a37 := Tryz.isAgg131
  z37 := Tryz.sizeOf131
  v37 := Tryz.zeroValue131
  t127 := Tryz.underlying180
  a127 := Tryz.isAgg180
  z127 := Tryz.sizeOf180
  v127 := Tryz.zeroValue180
  t5 := Tryz.underlying5
  a5 := Tryz.isAgg5
  z5 := Tryz.sizeOf5
  v5 := Tryz.zeroValue5
  i0 := by kernel_rfl
  i3 := by kernel_rfl
  i4 := by kernel_rfl
  i5 := by kernel_rfl
  i9 := by kernel_rfl
  i37 := by kernel_rfl
  i127 := by kernel_rfl }
open Go.RowKit in
theorem Tryz.stringslite_Clone (s : ByteArray) (w : World) (hlim : s.size ≤ 281474976710656) :
    Calls Tryz.prog 119 #[.string s] w fun e w' => e = .returned (.string s) ∧ Below w.heap.size w w' := Any.stringslite_Clone Tryz.laysM316 s w hlim
open Go.RowKit in
theorem Tryz.strings_Compare (a b : ByteArray) (w : World) :
    Calls Tryz.prog 133 #[.string a, .string b] w fun e w' => e = .returned (.int .i64 (Lib.compareBytes a.data.toList b.data.toList)) ∧ w' = w := Any.strings_Compare Tryz.lays106 a b w
end Go.Proofs

/-
  impl: keys and their order; what is later; copies of changes.
-/
namespace Go.Proofs.YteffdgjoahkdaabGreat
open Go.RowKit
attribute [local go_sem] Later.cell Later.frozen

theorem cmp_lt : ∀ a b : List UInt8, Lib.compareBytes a b = if Op.bytesLess a b then -1 else if a = b then 0 else 1
  | [], [] => rfl
  | [], _ :: _ => rfl
  | _ :: _, [] => rfl
  | a :: x, b :: y => by
    rw [Lib.compareBytes, cmp_lt x y]
    by_cases h : a < b
    · simp [Op.bytesLess, h]
    · by_cases k : b < a
      · have hne : ¬ a = b := fun e => by rw [e] at k; exact UInt8.lt_irrefl b k
        simp [Op.bytesLess, h, k, hne]
      · have e : a = b := UInt8.le_antisymm (UInt8.not_lt.1 k) (UInt8.not_lt.1 h)
        subst e
        simp [Op.bytesLess, h]
/-- What compareKeys answers. -/
def cmpS (a b : ByteArray) : Int := if blS a b then -1 else if a = b then 0 else 1
def cmpN (a b : Int) : Int := if a < b then -1 else if b < a then 1 else 0
def cmpK (a b : Chg) : Int := if cmpS a.f b.f ≠ 0 then cmpS a.f b.f else cmpN a.what b.what
theorem cmpS_eq (a b : ByteArray) : Lib.compareBytes a.data.toList b.data.toList = cmpS a b := by
  rw [cmp_lt]; unfold cmpS blS
  rw [ByteArray.toList_eq, ByteArray.toList_eq]
  have : (a.data.toList = b.data.toList) ↔ a = b := ⟨fun h => bytes_inj h, fun h => by rw [h]⟩
  simp only [this]
theorem cmpK_eq (a b : Chg) : cmpK a b = if keyLt a b then -1 else if keyEq a b then 0 else 1 := by
  unfold cmpK cmpS cmpN keyLt keyEq
  by_cases h : blS a.f b.f = true
  · simp [h]
  · by_cases e : a.f = b.f
    · simp only [e, if_true]
      rw [e] at h
      by_cases h1 : a.what < b.what
      · simp [h, h1]
      · by_cases h2 : b.what < a.what
        · have : ¬ a.what = b.what := by omega
          simp [h, h1, h2, this]
        · have : a.what = b.what := by omega
          simp [h, this]
    · simp [h, e]

theorem strCompare_any (a b : ByteArray) (w : World) : Calls Tryz.prog 133 #[.string a, .string b] w fun e w' => e = .returned (.int .i64 (cmpS a b)) ∧ w' = w := by
  have := Tryz.strings_Compare a b w
  rw [cmpS_eq] at this; exact this
theorem isNaN_any (a : Int) (w : World) : Calls Tryz.prog 139 #[.int .i64 a] w fun e w' => e = .returned (.bool false) ∧ w' = w := by
  have h : (a != a) = false := by simp
  go_enter Tryz.func139, Tryz.ntmps139
  go_wp2
  go_ret
  exact ⟨rfl, rfl⟩
set_option maxHeartbeats 800000 in
theorem cmpCompare_any (a b : Int) (w : World) : Calls Tryz.prog 134 #[.int .i64 a, .int .i64 b] w fun e w' => e = .returned (.int .i64 (cmpN a b)) ∧ w' = w := by
  by_cases h1 : a < b
  · have e : cmpN a b = -1 := if_pos h1
    rw [e]; clear e
    go_enter Tryz.func134, Tryz.ntmps134
    go_wp2_with (go_at_call 139; refine (isNaN_any _ _).mono ?_; rintro e w' ⟨rfl, rfl⟩)
    go_ret
    exact ⟨rfl, rfl⟩
  · by_cases h2 : b < a
    · have e : cmpN a b = 1 := by unfold cmpN; rw [if_neg h1, if_pos h2]
      rw [e]; clear e
      go_enter Tryz.func134, Tryz.ntmps134
      go_wp2_with (go_at_call 139; refine (isNaN_any _ _).mono ?_; rintro e w' ⟨rfl, rfl⟩)
      go_ret
      exact ⟨rfl, rfl⟩
    · have e : cmpN a b = 0 := by unfold cmpN; rw [if_neg h1, if_neg h2]
      rw [e]; clear e
      go_enter Tryz.func134, Tryz.ntmps134
      go_wp2_with (go_at_call 139; refine (isNaN_any _ _).mono ?_; rintro e w' ⟨rfl, rfl⟩)
      go_ret
      exact ⟨rfl, rfl⟩

def orI (a b : Int) : Int := if a ≠ 0 then a else b
set_option maxHeartbeats 1600000 in
theorem cmpOr_any (B : Nat) (a b : Int) (w : World) (h0 : w.cell? ⟨B, 0, none⟩ = some (.int .i64 a)) (h1 : w.cell? ⟨B, 1, none⟩ = some (.int .i64 b)) :
    Calls Tryz.prog 132 #[.slice (some ⟨B, 0, none⟩) 2 2] w fun e w' => e = .returned (.int .i64 (orI a b)) ∧ w' = w := by
  go_enter Tryz.func132, Tryz.ntmps132
  go_wp2
  go_loopw [5, 8] (fun _ i wr => wr = w ∧ (i = .int .i64 0 ∨ (i = .int .i64 1 ∧ a = 0) ∨ (i = .int .i64 2 ∧ a = 0 ∧ b = 0))) (fun _ i _ => 2 - (intOf i).toNat)
  case atStart => exact ⟨rfl, .inl rfl⟩
  case round =>
    obtain ⟨rfl, rfl | ⟨rfl, ha⟩ | ⟨rfl, ha, hb⟩⟩ := hrel
    · by_cases hz : a = 0
      · have hq : (a != 0) = false := by simp [hz]
        have HZ : Hid (a = 0) := hz
        clear hz
        go_wp2
        exact ⟨⟨by trivial, .inr (.inl ⟨by go_num, HZ.out⟩)⟩, by simp [intOf]⟩
      · have hq : (a != 0) = true := by simp [hz]
        have HZ : Hid (¬ a = 0) := hz
        clear hz
        go_wp2
        go_ret
        exact ⟨ret_int (by unfold orI; rw [if_pos HZ.out]), rfl⟩
    · have HA : Hid (a = 0) := ha
      clear ha
      by_cases hz : b = 0
      · have hq : (b != 0) = false := by simp [hz]
        have HZ : Hid (b = 0) := hz
        clear hz
        go_wp2
        exact ⟨⟨by trivial, .inr (.inr ⟨by go_num, HA.out, HZ.out⟩)⟩, by simp [intOf]⟩
      · have hq : (b != 0) = true := by simp [hz]
        have HZ : Hid (¬ b = 0) := hz
        clear hz
        go_wp2
        go_ret
        exact ⟨ret_int (by unfold orI; rw [if_neg (by simp [HA.out])]), rfl⟩
    · have HA : Hid (a = 0 ∧ b = 0) := ⟨ha, hb⟩
      clear ha hb
      go_wp2
      go_ret
      exact ⟨ret_int (by unfold orI; rw [if_neg (by simp [HA.out.1]), HA.out.2]), rfl⟩

theorem gt_bl (a b : ByteArray) : (!Op.bytesLess a.toList b.toList && !a.toList == b.toList) = blS b a := by
  unfold blS
  cases h : Op.bytesLess b.toList a.toList with
  | true =>
    have h1 : Op.bytesLess a.toList b.toList = false := by
      cases h1 : Op.bytesLess a.toList b.toList with
      | false => rfl
      | true => have := bl_trans _ _ _ h h1; rw [bl_irrefl] at this; cases this
    have h2 : (a.toList == b.toList) = false := by
      rw [beq_eq_false_iff_ne]
      intro e; rw [e, bl_irrefl] at h; cases h
    rw [h1, h2]; rfl
  | false =>
    cases h1 : Op.bytesLess a.toList b.toList with
    | true => rfl
    | false =>
      have e := bl_total _ _ h1 h
      rw [e]; simp
theorem keyOf_any (c : Chg) (w : World) : Calls Tryz.prog 79 #[.agg #[.string c.f, .int .i64 c.what, .int .i64 c.num, .string c.v]] w fun e w' => e = .returned (.agg #[.string c.f, .int .i64 c.what]) ∧ Below w.heap.size w w' := by
  go_enter Tryz.func79, Tryz.ntmps79
  go_wp2
  exact bodyPost_ret (v := .agg #[.string c.f, .int .i64 c.what]) (by simp [results, Tryz.results79, go_sem]) rfl ⟨rfl, ((Below.refl _ _).alloc (Nat.le_refl _) _).alloc (by simp) _⟩
theorem fieldOf_any (c : Chg) (w : World) : Calls Tryz.prog 53 #[.agg #[.string c.f, .int .i64 c.what, .int .i64 c.num, .string c.v]] w fun e w' => e = .returned (.agg #[.int .i64 c.what, .int .i64 c.num, .string c.v]) ∧ Below w.heap.size w w' := by
  go_enter Tryz.func53, Tryz.ntmps53
  go_wp2
  exact bodyPost_ret (v := .agg #[.int .i64 c.what, .int .i64 c.num, .string c.v]) (by simp [results, Tryz.results53, go_sem]) rfl ⟨rfl, ((Below.refl _ _).alloc (Nat.le_refl _) _).alloc (by simp) _⟩
set_option maxHeartbeats 800000 in
theorem later_any (x y : Chg) (w : World) : Calls Tryz.prog 54 #[.agg #[.int .i64 x.what, .int .i64 x.num, .string x.v], .agg #[.int .i64 y.what, .int .i64 y.num, .string y.v]] w fun e w' => e = .returned (.bool (latC x y)) ∧ Below w.heap.size w w' := by
  have HB : Hid (∀ o o' : Obj, Below w.heap.size w ((w.alloc o).alloc o')) := fun o o' => ((Below.refl _ _).alloc (Nat.le_refl _) _).alloc (by simp) _
  by_cases h : x.num = y.num
  · have e : latC x y = blS y.v x.v := by unfold latC; rw [if_pos h]
    have hq : (x.num != y.num) = false := by simp [h]
    rw [e]; clear e h
    go_enter Tryz.func54, Tryz.ntmps54
    go_wp2
    go_ret
    exact ⟨ret_bool (gt_bl _ _), HB.out _ _⟩
  · have e : latC x y = decide (y.num < x.num) := by unfold latC; rw [if_neg h]
    have hq : (x.num != y.num) = true := by simp [h]
    rw [e]; clear e h
    go_enter Tryz.func54, Tryz.ntmps54
    go_wp2
    go_ret
    exact ⟨rfl, HB.out _ _⟩
set_option maxHeartbeats 800000 in
theorem l3Later_any (x y : Chg) (w : World) : Calls Tryz.prog 93 #[.agg #[.int .i64 x.what, .int .i64 x.num, .string x.v], .agg #[.int .i64 y.what, .int .i64 y.num, .string y.v]] w fun e w' => e = .returned (.bool (latC x y)) ∧ Below w.heap.size w w' := by
  have HB : Hid (∀ o o' : Obj, Below w.heap.size w ((w.alloc o).alloc o')) := fun o o' => ((Below.refl _ _).alloc (Nat.le_refl _) _).alloc (by simp) _
  by_cases h : x.num = y.num
  · have e : latC x y = blS y.v x.v := by unfold latC; rw [if_pos h]
    have hq : (x.num != y.num) = false := by simp [h]
    rw [e]; clear e h
    go_enter Tryz.func93, Tryz.ntmps93
    go_wp2
    go_ret
    exact ⟨ret_bool (gt_bl _ _), HB.out _ _⟩
  · have e : latC x y = decide (y.num < x.num) := by unfold latC; rw [if_neg h]
    have hq : (x.num != y.num) = true := by simp [h]
    rw [e]; clear e h
    go_enter Tryz.func93, Tryz.ntmps93
    go_wp2
    go_ret
    exact ⟨rfl, HB.out _ _⟩
theorem clone_any (s : ByteArray) (w : World) (hs : s.size ≤ 1048576) :
    Calls Tryz.prog 96 #[.string s] w fun e w' => e = .returned (.string s) ∧ Below w.heap.size w w' := by
  go_enter Tryz.func96, Tryz.ntmps96
  go_wp2_with fail
  refine (Tryz.stringslite_Clone s _ (by omega)).mono ?_
  rintro e w' ⟨rfl, hb⟩
  go_wp2
  go_ret
  exact ⟨rfl, hb⟩

set_option maxHeartbeats 1600000 in
theorem compareKeys_any (a b : Chg) (w : World) : Calls Tryz.prog 118 #[.agg #[.string a.f, .int .i64 a.what], .agg #[.string b.f, .int .i64 b.what]] w fun e w' => e = .returned (.int .i64 (cmpK a b)) ∧ Below w.heap.size w w' := by
  have HK : Hid (cmpK a b = orI (cmpS a.f b.f) (cmpN a.what b.what)) := rfl
  have HX0 : Hid (OwnAt w ((w.alloc (.cells #[.string a.f, .int .i64 a.what] 115)).alloc (.cells #[.string b.f, .int .i64 b.what] 115)) [[.string a.f, .int .i64 a.what], [.string b.f, .int .i64 b.what]]) := ((OwnAt.start w).push rfl _ _).push (by simp) _ _
  go_enter Tryz.func118, Tryz.ntmps118
  go_wp2
  generalize (w.alloc (.cells #[.string a.f, .int .i64 a.what] 115)).alloc (.cells #[.string b.f, .int .i64 b.what] 115) = w1 at *
  go_region_held3 (fun w' => (w'.cell? ⟨w.heap.size, 0, none⟩ = some (.string a.f) ∧ w'.cell? ⟨w.heap.size, 1, none⟩ = some (.int .i64 a.what) ∧ w'.cell? ⟨w.heap.size + 1, 0, none⟩ = some (.string b.f) ∧ w'.cell? ⟨w.heap.size + 1, 1, none⟩ = some (.int .i64 b.what)) ∧ OwnAt w w' [[.string a.f, .int .i64 a.what], [.string b.f, .int .i64 b.what]])
    (first | (have ha := HX0.out.call (Below.refl _ w1).drew; exact ⟨⟨(ha.has 0 _ rfl 0 _ rfl).1, (ha.has 0 _ rfl 1 _ rfl).1, (ha.has 1 _ rfl 0 _ rfl).1, (ha.has 1 _ rfl 1 _ rfl).1⟩, ha⟩) | (have ha := HX0.out.call ((Below.refl _ w1).alloc (Nat.le_refl _) (.cells #[.int .i64 (cmpS a.f b.f), .int .i64 (cmpN a.what b.what)] 3)).drew; exact ⟨⟨(ha.has 0 _ rfl 0 _ rfl).1, (ha.has 0 _ rfl 1 _ rfl).1, (ha.has 1 _ rfl 0 _ rfl).1, (ha.has 1 _ rfl 1 _ rfl).1⟩, ha⟩) | (exact ‹_ ∧ OwnAt w _ _›))
    (first | (go_at_call 133; refine (strCompare_any _ _ _).mono ?_; rintro e w3 ⟨rfl, rfl⟩) | (go_at_call 134; refine (cmpCompare_any _ _ _).mono ?_; rintro e w3 ⟨rfl, rfl⟩) | (go_at_call 132; refine (cmpOr_any w1.heap.size (cmpS a.f b.f) (cmpN a.what b.what) _ (by simp [go_sem]) (by simp [go_sem])).mono ?_; rintro e w3 ⟨rfl, rfl⟩))
  all_goals go_wp2
  all_goals go_ret
  all_goals exact ⟨ret_int HK.out.symm, (‹_ ∧ OwnAt w _ _›).2.below⟩

/-- Which list has the next thing. -/
def nextC : List Chg → List Chg → Int
  | [], _ => 1
  | _ :: _, [] => -1
  | a :: _, b :: _ => cmpK a b
set_option maxHeartbeats 1600000 in
theorem compareNext_any (v u : Value) (A B : List Chg) (w : World) (hv : ChgsAt w v A) (hu : ChgsAt w u B) :
    Calls Tryz.prog 95 #[v, u] w fun e w' => e = .returned (.int .i64 (nextC A B)) ∧ Below w.heap.size w w' := by
  obtain ⟨av, cv, rfl, hlc, hcm, hc⟩ := hv
  obtain ⟨au, cu, rfl, hlc', hcm', hc'⟩ := hu
  unfold maxLen at hcm hcm'
  cases A with
  | nil =>
    have e : nextC [] B = 1 := by cases B <;> rfl
    rw [e]; clear e
    go_enter Tryz.func95, Tryz.ntmps95
    go_wp2
    go_ret
    exact ⟨rfl, Below.refl _ _⟩
  | cons a A =>
    have hz : ((((a :: A).length : Nat) : Int) == 0) = false := by rw [beq_eq_false_iff_ne, List.length_cons]; omega
    have hz1 : (0 : Int) < (((a :: A).length : Nat) : Int) := by rw [List.length_cons]; omega
    have hz2 : 0 < (a :: A).length := by simp
    obtain ⟨b0, o0, rfl, d0, d1, d2, d3⟩ := hc 0 a rfl
    simp only [Nat.zero_mul, Nat.add_zero] at d0 d1 d2 d3
    generalize hla : (a :: A).length = la at *
    clear hla hc
    cases B with
    | nil =>
      have e : nextC (a :: A) [] = -1 := rfl
      rw [e]; clear e
      go_enter Tryz.func95, Tryz.ntmps95
      go_wp2
      go_ret
      exact ⟨rfl, Below.refl _ _⟩
    | cons b B =>
      have hy : ((((b :: B).length : Nat) : Int) == 0) = false := by rw [beq_eq_false_iff_ne, List.length_cons]; omega
      have hy1 : (0 : Int) < (((b :: B).length : Nat) : Int) := by rw [List.length_cons]; omega
      have hy2 : 0 < (b :: B).length := by simp
      have e : nextC (a :: A) (b :: B) = cmpK a b := rfl
      rw [e]; clear e
      obtain ⟨b1, o1, rfl, e0, e1, e2, e3⟩ := hc' 0 b rfl
      simp only [Nat.zero_mul, Nat.add_zero] at e0 e1 e2 e3
      generalize hlb : (b :: B).length = lb at *
      clear hlb hc'
      have z0 : b0 < w.heap.size := lt_of_cell d0
      have z1 : b1 < w.heap.size := lt_of_cell e0
      have hne := Later.some w
      have GK : Hid (∀ (c : Chg) (y : Later w), Calls Tryz.prog 79 #[.agg #[.string c.f, .int .i64 c.what, .int .i64 c.num, .string c.v]] y.val fun e w'' => e = .returned (.agg #[.string c.f, .int .i64 c.what]) ∧ ∃ z : Later w, w'' = z.val) := fun c y => Calls.later (keyOf_any c y.val)
      have GC : Hid (∀ (y : Later w), Calls Tryz.prog 118 #[.agg #[.string a.f, .int .i64 a.what], .agg #[.string b.f, .int .i64 b.what]] y.val fun e w'' => e = .returned (.int .i64 (cmpK a b)) ∧ ∃ z : Later w, w'' = z.val) := fun y => Calls.later (compareKeys_any a b y.val)
      go_enter Tryz.func95, Tryz.ntmps95
      go_wp2
      refine wp_region_later (by kernel_rfl) (by kernel_rfl) ?_
      repeat (go_big_quiet_step (first | (go_at_call 79; exact GK.out _ _) | (go_at_call 118; exact GC.out _)))
      refine wpQuiet_nil ?_
      rintro _ ⟨x, rfl⟩
      go_wp2
      go_ret
      exact ⟨rfl, x.below⟩
end Go.Proofs.YteffdgjoahkdaabGreat
