
/-
  Plain facts: the order of what books say; two books walked side by side.
-/
import Derived.Test.YtfjblenkcfdbiaaGreatNews1
import Derived.Test.YtfjblenkcfdbiaaGreatBl
namespace Go.Proofs.YtfjblenkcfdbiaaGreat
open Go.RowKit

def keyLt (a b : Chg) : Bool := blS a.f b.f || (decide (a.f = b.f) && decide (a.what < b.what))
def keyEq (a b : Chg) : Bool := decide (a.f = b.f) && decide (a.what = b.what)
theorem keyEq_iff {a b : Chg} : keyEq a b = true ↔ a.f = b.f ∧ a.what = b.what := by simp [keyEq]
theorem keyLt_trans {a b c : Chg} (h : keyLt a b = true) (k : keyLt b c = true) : keyLt a c = true := by
  simp only [keyLt, Bool.or_eq_true, Bool.and_eq_true, decide_eq_true_eq] at h k ⊢
  rcases h with h | ⟨h1, h2⟩
  · rcases k with k | ⟨k1, k2⟩
    · exact .inl (blS_trans h k)
    · exact .inl (k1 ▸ h)
  · rcases k with k | ⟨k1, k2⟩
    · exact .inl (h1 ▸ k)
    · exact .inr ⟨h1.trans k1, by omega⟩
theorem keyLt_ne {a b : Chg} (h : keyLt a b = true) : keyEq a b = false := by
  cases hk : keyEq a b with
  | false => rfl
  | true =>
    obtain ⟨h1, h2⟩ := keyEq_iff.1 hk
    simp only [keyLt, h1, h2, blS_irrefl] at h
    simp at h
theorem keyEq_symm {a b : Chg} : keyEq a b = keyEq b a := by
  rw [Bool.eq_iff_iff, keyEq_iff, keyEq_iff]; exact ⟨fun h => ⟨h.1.symm, h.2.symm⟩, fun h => ⟨h.1.symm, h.2.symm⟩⟩
theorem keyLt_of_eq {a b c : Chg} (h : keyEq a b = true) (k : keyLt b c = true) : keyLt a c = true := by
  obtain ⟨h1, h2⟩ := keyEq_iff.1 h
  simp only [keyLt] at k ⊢
  rw [h1, h2]; exact k
theorem keyGt {a b : Chg} (h : keyLt a b = false) (k : keyEq a b = false) : keyLt b a = true := by
  simp only [keyLt, Bool.or_eq_false_iff] at h
  cases hb : blS b.f a.f with
  | true => simp [keyLt, hb]
  | false =>
    have e := blS_total h.1 hb
    simp only [e, decide_true, Bool.true_and, decide_eq_false_iff_not] at h
    simp only [keyEq, e, decide_true, Bool.true_and, decide_eq_false_iff_not] at k
    simp only [keyLt, e, decide_true, Bool.true_and, Bool.or_eq_true, decide_eq_true_eq]
    right; omega

/-- What one says is later. -/
def latC (x y : Chg) : Bool := if x.num = y.num then blS y.v x.v else decide (y.num < x.num)
def noC : Chg := ⟨⟨#[]⟩, 0, 0, ⟨#[]⟩⟩
theorem latC_new {x : Chg} (h : 1 ≤ x.num) : latC x noC = true := by
  unfold latC noC; dsimp only; rw [if_neg (by omega)]; simp; omega
theorem latC_none {y : Chg} (h : 1 ≤ y.num) : latC noC y = false := by
  unfold latC noC; dsimp only; rw [if_neg (by omega)]; simp; omega
/-- Two books, thing by thing. -/
def pairsW : List Chg → List Chg → List (Chg × Chg)
  | [], [] => []
  | a :: A, [] => (a, noC) :: pairsW A []
  | [], b :: B => (noC, b) :: pairsW [] B
  | a :: A, b :: B => if keyLt a b then (a, noC) :: pairsW A (b :: B) else if keyEq a b then (a, b) :: pairsW A B else (noC, b) :: pairsW (a :: A) B
termination_by A B => A.length + B.length
def pick (p : Chg × Chg) : Option Chg := if latC p.2 p.1 then some p.2 else none
/-- What b says is news to A. -/
def newB (A : List Chg) (b : Chg) : Bool := match A.find? fun a => keyEq a b with
  | some a => latC b a
  | none => true
theorem newB_nil (b : Chg) : newB [] b = true := rfl
theorem newB_skip {a b : Chg} {A : List Chg} (h : keyEq a b = false) : newB (a :: A) b = newB A b := by
  unfold newB; rw [List.find?_cons, h]
theorem newB_hit {a b : Chg} {A : List Chg} (h : keyEq a b = true) : newB (a :: A) b = latC b a := by
  unfold newB; rw [List.find?_cons, h]
theorem newB_past {b : Chg} : ∀ {A : List Chg}, (∀ a ∈ A, keyEq a b = false) → newB A b = true
  | [], _ => rfl
  | a :: A, h => by rw [newB_skip (h a (by simp)), newB_past fun x hx => h x (by simp [hx])]
def SortedC (l : List Chg) : Prop := l.Pairwise fun a b => keyLt a b = true
def NumsC (l : List Chg) : Prop := ∀ c ∈ l, 1 ≤ c.num

theorem pairs_news : ∀ (A B : List Chg), SortedC A → SortedC B → NumsC A → NumsC B → (pairsW A B).filterMap pick = B.filter (newB A)
  | [], [], _, _, _, _ => by simp [pairsW]
  | a :: A, [], hA, hB, nA, nB => by
    rw [pairsW, List.filterMap_cons]
    have : pick (a, noC) = none := by unfold pick; rw [latC_none (nA a (by simp))]; rfl
    rw [this, pairs_news A [] (List.pairwise_cons.1 hA).2 hB (fun c hc => nA c (by simp [hc])) nB]
    simp
  | [], b :: B, hA, hB, nA, nB => by
    rw [pairsW, List.filterMap_cons]
    have : pick (noC, b) = some b := by unfold pick; rw [latC_new (nB b (by simp))]; rfl
    rw [this, pairs_news [] B hA (List.pairwise_cons.1 hB).2 nA (fun c hc => nB c (by simp [hc]))]
    rw [List.filter_cons, newB_nil]; rfl
  | a :: A, b :: B, hA, hB, nA, nB => by
    have hA' := List.pairwise_cons.1 hA
    have hB' := List.pairwise_cons.1 hB
    have nA' : NumsC A := fun c hc => nA c (by simp [hc])
    have nB' : NumsC B := fun c hc => nB c (by simp [hc])
    rw [pairsW]
    cases hlt : keyLt a b with
    | true =>
      have hp : pick (a, noC) = none := by unfold pick; rw [latC_none (nA a (by simp))]; rfl
      have hskip : ∀ c ∈ b :: B, newB (a :: A) c = newB A c := fun c hc => newB_skip (by
        rcases List.mem_cons.1 hc with rfl | hc
        · exact keyLt_ne hlt
        · exact keyLt_ne (keyLt_trans hlt (hB'.1 c hc)))
      rw [if_pos rfl, List.filterMap_cons, hp, pairs_news A (b :: B) hA'.2 hB nA' nB, List.filter_congr fun c hc => (hskip c hc).symm]
    | false =>
      rw [if_neg (by simp)]
      cases heq : keyEq a b with
      | true =>
        have hskip : ∀ c ∈ B, newB (a :: A) c = newB A c := fun c hc => newB_skip (keyLt_ne (keyLt_of_eq heq (hB'.1 c hc)))
        rw [if_pos rfl, List.filterMap_cons, pairs_news A B hA'.2 hB'.2 nA' nB', List.filter_cons, newB_hit heq, List.filter_congr fun c hc => (hskip c hc).symm]
        unfold pick
        cases latC b a <;> rfl
      | false =>
        have hgt := keyGt hlt heq
        have hpast : newB (a :: A) b = true := newB_past fun x hx => by
          rw [keyEq_symm]
          rcases List.mem_cons.1 hx with rfl | hx
          · exact keyLt_ne hgt
          · exact keyLt_ne (keyLt_trans hgt (hA'.1 x hx))
        have hp : pick (noC, b) = some b := by unfold pick; rw [latC_new (nB b (by simp))]; rfl
        rw [if_neg (by simp), List.filterMap_cons, hp, pairs_news (a :: A) B hA hB'.2 nA nB', List.filter_cons, hpast]
        rfl
termination_by A B => A.length + B.length

/-- The specification's way to look something up. -/
def hasS (es : List Ent) (c : Chg) : Bool := match es.find? fun e => decide (e.name = c.f) with
  | none => false
  | some e => match e.fs.find? fun g => decide (g.what = c.what) with
    | none => false
    | some g => !latC c (chgOf e.name g)
theorem find_flds (n : ByteArray) (c : Chg) (h : n = c.f) : ∀ fs : List Fld, (fs.map (chgOf n)).find? (fun a => keyEq a c) = (fs.find? fun g => decide (g.what = c.what)).map (chgOf n)
  | [] => rfl
  | g :: fs => by
    rw [List.map_cons, List.find?_cons, List.find?_cons]
    have : keyEq (chgOf n g) c = decide (g.what = c.what) := by simp [keyEq, chgOf, h]
    rw [this]
    cases decide (g.what = c.what) with
    | true => rfl
    | false => exact find_flds n c h fs
theorem find_none (n : ByteArray) (c : Chg) (h : ¬ n = c.f) (fs : List Fld) : (fs.map (chgOf n)).find? (fun a => keyEq a c) = none := by
  rw [List.find?_eq_none]
  intro x hx
  obtain ⟨g, _, rfl⟩ := List.mem_map.1 hx
  simp [keyEq, chgOf, h]
theorem find_chgs (c : Chg) : ∀ es : List Ent, (es.Pairwise fun a b => ¬ a.name = b.name) → (chgsOf es).find? (fun a => keyEq a c) = (es.find? fun e => decide (e.name = c.f)).bind fun e => (e.fs.find? fun g => decide (g.what = c.what)).map (chgOf e.name)
  | [], _ => rfl
  | e :: es, hp => by
    have hp' := List.pairwise_cons.1 hp
    have e1 : chgsOf (e :: es) = e.fs.map (chgOf e.name) ++ chgsOf es := by simp [chgsOf]
    rw [e1, List.find?_append, List.find?_cons]
    by_cases h : e.name = c.f
    · have hz : (chgsOf es).find? (fun a => keyEq a c) = none := by
        rw [List.find?_eq_none]
        intro x hx
        obtain ⟨y, hy, hx⟩ := List.mem_flatMap.1 hx
        obtain ⟨g, _, rfl⟩ := List.mem_map.1 hx
        have : ¬ y.name = c.f := fun q => hp'.1 y hy (h.trans q.symm)
        simp [keyEq, chgOf, this]
      rw [hz, find_flds e.name c h]
      simp [h]
    · rw [find_none e.name c h, find_chgs c es hp'.2]
      simp [h]
theorem has_new (es : List Ent) (hp : es.Pairwise fun a b => ¬ a.name = b.name) (c : Chg) : (!hasS es c) = newB (chgsOf es) c := by
  unfold hasS newB
  rw [find_chgs c es hp]
  cases es.find? fun e => decide (e.name = c.f) with
  | none => rfl
  | some e =>
    dsimp only [Option.bind_some]
    cases e.fs.find? fun g => decide (g.what = c.what) with
    | none => rfl
    | some g => simp

theorem adj_pair {α : Type} {R : α → α → Prop} (ht : ∀ a b c, R a b → R b c → R a c) (l : List α) (h : ∀ i (hi : i + 1 < l.length), R (l[i]'(by omega)) l[i + 1]) : l.Pairwise R := by
  induction l with
  | nil => exact List.Pairwise.nil
  | cons a l ih =>
    have hl : l.Pairwise R := ih fun i hi => by
      have := h (i + 1) (by simp; omega)
      simpa using this
    refine List.pairwise_cons.2 ⟨fun b hb => ?_, hl⟩
    cases l with
    | nil => cases hb
    | cons c l =>
      have h0 : R a c := by simpa using h 0 (by simp)
      rcases List.mem_cons.1 hb with rfl | hb
      · exact h0
      · exact ht _ _ _ h0 ((List.pairwise_cons.1 hl).1 b hb)

/-- A book that is ok is in order, and its numbers are 1 or more. -/
theorem book_names {ks ps : List Tri} {es : List Ent} (h : bookB ks ps es = true) : es.Pairwise fun a b => blS a.name b.name = true := by
  simp only [bookB, Bool.and_eq_true] at h
  have hn : allB es.length (fun i => nameB (eat es i).name && ascE es i) = true := by
    have := h.2.1
    simp only [namesE, Bool.and_eq_true] at this
    exact this.2
  refine adj_pair (R := fun a b : Ent => blS a.name b.name = true) (fun a b c h k => blS_trans h k) es fun i hi => ?_
  have h1 := allB_get hn (i + 1) hi
  simp only [Bool.and_eq_true] at h1
  have h2 := h1.2
  rw [ascE_succ] at h2
  have e0 : eat es i = es[i] := by simp [eat, show i < es.length by omega]
  have e1 : eat es (i + 1) = es[i + 1] := by simp [eat, hi]
  rw [e0, e1] at h2
  simpa [geB, blS] using h2
theorem book_fields {ks ps : List Tri} {es : List Ent} (h : bookB ks ps es = true) {e : Ent} (he : e ∈ es) : fieldsB ks ps e.name e.fs = true := by
  simp only [bookB, Bool.and_eq_true] at h
  obtain ⟨i, hi, rfl⟩ := List.getElem_of_mem he
  have h1 := allB_get h.2.2 i hi
  have e0 : eat es i = es[i] := by simp [eat, hi]
  rw [e0] at h1; exact h1
theorem fields_sorted {ks ps : List Tri} {n : ByteArray} {l : List Fld} (h : fieldsB ks ps n l = true) : l.Pairwise fun a b => a.what < b.what := by
  simp only [fieldsB, Bool.and_eq_true] at h
  refine adj_pair (R := fun a b : Fld => a.what < b.what) (fun a b c h k => by omega) l fun i hi => ?_
  have h1 := allB_get h.1 (i + 1) hi
  simp only [Bool.and_eq_true] at h1
  have h2 := h1.1
  have e0 : fat l i = l[i] := by simp [fat, show i < l.length by omega]
  have e1 : fat l (i + 1) = l[i + 1] := by simp [fat, hi]
  simp only [ascF, Nat.add_sub_cancel, e0, e1] at h2
  simp at h2
  omega
theorem fields_fit {ks ps : List Tri} {n : ByteArray} {l : List Fld} (h : fieldsB ks ps n l = true) {f : Fld} (hf : f ∈ l) : fitB ks ps (chgOf n f) = true := by
  simp only [fieldsB, Bool.and_eq_true] at h
  obtain ⟨i, hi, rfl⟩ := List.getElem_of_mem hf
  have h1 := allB_get h.1 i hi
  simp only [Bool.and_eq_true] at h1
  have e0 : fat l i = l[i] := by simp [fat, hi]
  rw [e0] at h1; exact h1.2
theorem book_nums {ks ps : List Tri} {es : List Ent} (h : bookB ks ps es = true) : NumsC (chgsOf es) := fun c hc => by
  obtain ⟨e, he, hc⟩ := List.mem_flatMap.1 hc
  obtain ⟨f, hf, rfl⟩ := List.mem_map.1 hc
  have := fields_fit (book_fields h he) hf
  simp only [fitB, Bool.and_eq_true] at this
  have h2 := this.2.1
  simp [inB] at h2
  exact h2.1
theorem book_sorted {ks ps : List Tri} {es : List Ent} (h : bookB ks ps es = true) : SortedC (chgsOf es) := by
  have hn := book_names h
  have hf : ∀ e ∈ es, e.fs.Pairwise fun a b => a.what < b.what := fun e he => fields_sorted (book_fields h he)
  clear h
  induction es with
  | nil => exact List.Pairwise.nil
  | cons e es ih =>
    have hn' := List.pairwise_cons.1 hn
    have e1 : chgsOf (e :: es) = e.fs.map (chgOf e.name) ++ chgsOf es := by simp [chgsOf]
    unfold SortedC
    rw [e1, List.pairwise_append]
    refine ⟨?_, ih hn'.2 fun x hx => hf x (by simp [hx]), fun a ha b hb => ?_⟩
    · rw [List.pairwise_map]
      exact (hf e (by simp)).imp fun h => by simp [keyLt, chgOf, h]
    · obtain ⟨f, _, rfl⟩ := List.mem_map.1 ha
      obtain ⟨y, hy, hb⟩ := List.mem_flatMap.1 hb
      obtain ⟨g, _, rfl⟩ := List.mem_map.1 hb
      simp [keyLt, chgOf, hn'.1 y hy]
theorem book_apart {ks ps : List Tri} {es : List Ent} (h : bookB ks ps es = true) : es.Pairwise fun a b => ¬ a.name = b.name :=
  (book_names h).imp fun h e => by rw [e, blS_irrefl] at h; cases h
/-- The news of two books that are ok. -/
theorem news_eq {ks ps ks' ps' : List Tri} {a b : List Ent} (ha : bookB ks ps a = true) (hb : bookB ks' ps' b = true) :
    (pairsW (chgsOf a) (chgsOf b)).filterMap pick = (chgsOf b).filter fun c => !hasS a c := by
  rw [pairs_news _ _ (book_sorted ha) (book_sorted hb) (book_nums ha) (book_nums hb)]
  exact List.filter_congr fun c _ => (has_new a (book_apart ha) c).symm
end Go.Proofs.YtfjblenkcfdbiaaGreat
