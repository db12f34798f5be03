import Derived.Test.YtibpkhmiahamcaaGreatAllS
set_option linter.unusedSimpArgs false
set_option linter.unusedVariables false
namespace Go.Proofs.YtibpkhmiahamcaaGreat
open Go.RowKit
def fnd (l : List Chg) (k : Chg) : Option Chg := l.find? fun a => keyEq a k
def btr (o : Option Chg) (c : Chg) : Option Chg := match o with
 | none => some c
 | some a => if latC c a then some c else some a
theorem keyEq_fun {c k : Chg} (h : keyEq c k = true) : (fun a => keyEq a c) = fun a => keyEq a k := by
 obtain ⟨h1, h2⟩ := keyEq_iff.1 h
 funext a
 simp [keyEq, h1, h2]
theorem fnd_put {l : List Chg} (c k : Chg) (h : SortedC l) : fnd (putC l c) k = if keyEq c k then btr (fnd l k) c else fnd l k := by
 unfold fnd
 rw [putC_find c k h]
 cases hk : keyEq c k
 ·rfl
 ·have hf := keyEq_fun hk
  simp only [if_true]
  unfold newB
  rw [hf]
  cases l.find? fun a => keyEq a k with
  | none => rfl
  | some a => rfl
theorem fnd_some {l : List Chg} {k a : Chg} (h : fnd l k = some a) : a ∈ l ∧ keyEq a k = true := ⟨List.mem_of_find?_eq_some h, by simpa using List.find?_some h⟩
theorem fnd_self {l : List Chg} {a : Chg} (h : SortedC l) (ha : a ∈ l) : fnd l a = some a := find_sorted h ha a.num a.v
theorem keyLt_self (a : Chg) : keyLt a a = false := keyLt_irrefl a
theorem sorted_ext : ∀ {l m : List Chg}, SortedC l → SortedC m → (∀ k, fnd l k = fnd m k) → l = m
 | [], [], _, _, _ => rfl
 | [], b :: m, _, hm, h => by
  have h1 := fnd_self hm (a := b) (by simp)
  rw [← h b] at h1
  cases h1
 | a :: l, [], hl, _, h => by
  have h1 := fnd_self hl (a := a) (by simp)
  rw [h a] at h1
  cases h1
 | a :: l, b :: m, hl, hm, h => by
  have hl' := List.pairwise_cons.1 hl
  have hm' := List.pairwise_cons.1 hm
  have h1 := fnd_self hl (a := a) (by simp)
  rw [h a] at h1
  have h2 := fnd_self hm (a := b) (by simp)
  rw [← h b] at h2
  have e : a = b := by
   rcases List.mem_cons.1 (fnd_some h1).1 with e | e
   ·exact e
   ·rcases List.mem_cons.1 (fnd_some h2).1 with e2 | e2
    ·exact e2.symm
    ·have h3 := keyLt_trans (hm'.1 a e) (hl'.1 b e2)
     rw [keyLt_self] at h3
     cases h3
  subst e
  have ht : ∀ k, fnd l k = fnd m k := fun k => by
   cases hk : keyEq a k
   ·have h3 := h k
    unfold fnd at h3 ⊢
    rw [List.find?_cons_of_neg (by simp [hk]), List.find?_cons_of_neg (by simp [hk])] at h3
    exact h3
   ·have no : ∀ {x : List Chg}, (∀ y ∈ x, keyLt a y = true) → fnd x k = none := fun {x} hx => by
     unfold fnd
     refine List.find?_eq_none.2 fun y hy => ?_
     have h4 := keyLt_ne (hx y hy)
     intro h5
     obtain ⟨q1, q2⟩ := keyEq_iff.1 hk
     obtain ⟨r1, r2⟩ := keyEq_iff.1 (by simpa using h5)
     rw [keyEq_iff.2 ⟨q1.trans r1.symm, q2.trans r2.symm⟩] at h4
     cases h4
    rw [no hl'.1, no hm'.1]
  rw [sorted_ext hl'.2 hm'.2 ht]
theorem latC_trans {a b c : Chg} (h : latC a b = true) (k : latC b c = true) : latC a c = true := by
 unfold latC at *
 split at h
 ·rename_i e1
  split at k
  ·rename_i e2
   rw [if_pos (e1.trans e2)]
   exact blS_trans k h
  ·rename_i e2
   rw [if_neg (by rw [e1]; exact e2), e1]
   exact k
 ·rename_i e1
  have h1 : b.num < a.num := of_decide_eq_true h
  split at k
  ·rename_i e2
   rw [if_neg (by omega)]
   exact decide_eq_true (by omega)
  ·have h2 : c.num < b.num := of_decide_eq_true k
   rw [if_neg (by omega)]
   exact decide_eq_true (by omega)
theorem latC_asymm {a b : Chg} (h : latC a b = true) : latC b a = false := by
 cases k : latC b a
 ·rfl
 ·have := latC_trans h k
  rw [latC_irrefl] at this
  cases this
theorem latC_total {a b : Chg} (hk : keyEq a b = true) (h : latC a b = false) (k : latC b a = false) : a = b := by
 obtain ⟨h1, h2⟩ := keyEq_iff.1 hk
 obtain ⟨f, wh, n, v⟩ := a
 obtain ⟨f', wh', n', v'⟩ := b
 dsimp only at h1 h2
 subst h1
 subst h2
 unfold latC at h k
 dsimp only at h k
 by_cases e : n = n'
 ·subst e
  rw [if_pos rfl] at h k
  rw [blS_total h k]
 ·rw [if_neg e] at h
  rw [if_neg (fun q => e q.symm)] at k
  have := of_decide_eq_false h
  have := of_decide_eq_false k
  omega
theorem btr_comm (o : Option Chg) {a b : Chg} (hk : keyEq a b = true) : btr (btr o a) b = btr (btr o b) a := by
 have two : (if latC b a = true then some b else some a) = if latC a b = true then some a else some b := by
  cases h1 : latC a b
  ·cases h2 : latC b a
   ·rw [latC_total hk h1 h2]
   ·rfl
  ·rw [latC_asymm h1]; rfl
 cases o with
 | none => exact two
 | some x =>
  unfold btr
  cases h1 : latC a x
  ·cases h2 : latC b x
   ·simp [h1, h2]
   ·have h3 : latC a b = false := by
     cases h3 : latC a b
     ·rfl
     ·rw [latC_trans h3 h2] at h1; cases h1
    simp [h1, h2, h3]
  ·cases h2 : latC b x
   ·have h3 : latC b a = false := by
     cases h3 : latC b a
     ·rfl
     ·rw [latC_trans h3 h1] at h2; cases h2
    simp [h1, h2, h3]
   ·simpa [h1, h2] using two
theorem putC_comm {l : List Chg} (h : SortedC l) (a b : Chg) : putC (putC l a) b = putC (putC l b) a := by
 refine sorted_ext (putC_sorted _ (putC_sorted _ h)) (putC_sorted _ (putC_sorted _ h)) fun k => ?_
 rw [fnd_put b k (putC_sorted _ h), fnd_put a k h, fnd_put a k (putC_sorted _ h), fnd_put b k h]
 cases ha : keyEq a k
 ·cases hb : keyEq b k <;> simp
 ·cases hb : keyEq b k
  ·simp
  ·have hab : keyEq a b = true := by
    obtain ⟨q1, q2⟩ := keyEq_iff.1 ha
    obtain ⟨r1, r2⟩ := keyEq_iff.1 hb
    exact keyEq_iff.2 ⟨q1.trans r1.symm, q2.trans r2.symm⟩
   simpa using btr_comm _ hab
theorem fold_sorted : ∀ (L : List Chg) {l : List Chg}, SortedC l → SortedC (L.foldl putC l)
 | [], l, h => h
 | c :: L, l, h => fold_sorted L (putC_sorted c h)
theorem fold_perm {L M : List Chg} (hp : L.Perm M) : ∀ {l : List Chg}, SortedC l → L.foldl putC l = M.foldl putC l := by
 induction hp with
 | nil => intro l _; rfl
 | cons x _ ih => intro l h; exact ih (putC_sorted x h)
 | swap x y L => intro l h; show L.foldl putC (putC (putC l y) x) = L.foldl putC (putC (putC l x) y); rw [putC_comm h]
 | trans _ _ i1 i2 => intro l h; exact (i1 h).trans (i2 h)
theorem newB_fnd (l : List Chg) (c : Chg) : newB l c = match fnd l c with | some a => latC c a | none => true := rfl
theorem put_old {l : List Chg} {c : Chg} (h : SortedC l) (hn : newB l c = false) : putC l c = l := by
 refine sorted_ext (putC_sorted c h) h fun k => ?_
 rw [fnd_put c k h]
 cases hk : keyEq c k
 ·rfl
 ·simp only [if_true]
  rw [newB_fnd] at hn
  have e : fnd l c = fnd l k := by unfold fnd; rw [keyEq_fun hk]
  rw [e] at hn
  cases hf : fnd l k with
  | none => rw [hf] at hn; cases hn
  | some a =>
   rw [hf] at hn
   have hn' : latC c a = false := hn
   simp [btr, hn']
theorem newB_put {l : List Chg} (c : Chg) (h : SortedC l) : newB (putC l c) c = false := by
 rw [newB_fnd, fnd_put c c h, if_pos (keyEq_iff.2 ⟨rfl, rfl⟩)]
 cases fnd l c with
 | none => exact latC_irrefl c
 | some a =>
  unfold btr
  cases h1 : latC c a
  ·simp only [h1, Bool.false_eq_true, if_false]
  ·simp only [h1, if_true, latC_irrefl]
theorem newB_mono {l : List Chg} {c : Chg} (d : Chg) (h : SortedC l) (hn : newB l c = false) : newB (putC l d) c = false := by
 rw [newB_fnd] at hn ⊢
 rw [fnd_put d c h]
 cases hk : keyEq d c
 ·exact hn
 ·simp only [if_true]
  cases hf : fnd l c with
  | none => rw [hf] at hn; cases hn
  | some a =>
   rw [hf] at hn
   have hn' : latC c a = false := hn
   unfold btr
   cases h1 : latC d a
   ·simp only [h1, Bool.false_eq_true, if_false, hn']
   ·simp only [h1, if_true]
    cases h2 : latC c d
    ·rfl
    ·rw [latC_trans h2 h1] at hn'; cases hn'
theorem newB_keep : ∀ (L : List Chg) {l : List Chg} {c : Chg}, SortedC l → newB l c = false → newB (L.foldl putC l) c = false
 | [], l, c, _, hn => hn
 | d :: L, l, c, h, hn => newB_keep L (putC_sorted d h) (newB_mono d h hn)
theorem newB_fold : ∀ (L : List Chg) {l : List Chg} {c : Chg}, SortedC l → c ∈ L → newB (L.foldl putC l) c = false
 | d :: L, l, c, h, hc => by
  rcases List.mem_cons.1 hc with rfl | hc
  ·exact newB_keep L (putC_sorted c h) (newB_put c h)
  ·exact newB_fold L (putC_sorted d h) hc
theorem fold_old : ∀ (L : List Chg) {l : List Chg}, SortedC l → (∀ c ∈ L, newB l c = false) → L.foldl putC l = l
 | [], l, _, _ => rfl
 | c :: L, l, h, hn => by
  show L.foldl putC (putC l c) = l
  rw [put_old h (hn c (by simp))]
  exact fold_old L h (fun d hd => hn d (by simp [hd]))
theorem fold_again (L : List Chg) {l : List Chg} (h : SortedC l) : L.foldl putC (L.foldl putC l) = L.foldl putC l := fold_old L (fold_sorted L h) (fun c hc => newB_fold L h hc)
theorem fold_filter (p : Chg → Bool) : ∀ (L : List Chg) {l : List Chg}, SortedC l → (∀ c ∈ L, p c = false → newB l c = false) → (L.filter p).foldl putC l = L.foldl putC l
 | [], l, _, _ => rfl
 | c :: L, l, h, hn => by
  rw [List.filter_cons]
  have hn' : ∀ d ∈ L, p d = false → newB (putC l c) d = false := fun d hd hp => newB_mono c h (hn d (by simp [hd]) hp)
  cases hp : p c
  ·have e := put_old h (hn c (by simp) hp)
   simp only [Bool.false_eq_true, if_false]
   show _ = L.foldl putC (putC l c)
   rw [e] at hn' ⊢
   exact fold_filter p L h hn'
  ·exact fold_filter p L (putC_sorted c h) hn'
theorem ents_eq {es es' : List Ent} (h1 : es.Pairwise fun a b => blS a.name b.name = true) (n1 : ∀ e ∈ es, e.fs ≠ []) (h2 : es'.Pairwise fun a b => blS a.name b.name = true) (n2 : ∀ e ∈ es', e.fs ≠ []) (h : chgsOf es = chgsOf es') : es = es' := by
 rw [← grp_self n1 (putE_apart h1), ← grp_self n2 (putE_apart h2), h]
theorem putEs_eq {es es' : List Ent} {L M : List Chg} (h1 : es.Pairwise fun a b => blS a.name b.name = true) (n1 : ∀ e ∈ es, e.fs ≠ []) (h2 : es'.Pairwise fun a b => blS a.name b.name = true) (n2 : ∀ e ∈ es', e.fs ≠ []) (h : L.foldl putC (chgsOf es) = M.foldl putC (chgsOf es')) : putEs es L = putEs es' M :=
 ents_eq (putEs_sorted _ _ h1) (putEs_ne _ _ n1) (putEs_sorted _ _ h2) (putEs_ne _ _ n2) (by rw [putEs_chgs _ _ h1, putEs_chgs _ _ h2, h])
theorem putE_grow (es : List Ent) (n : ByteArray) (f : Fld) : es.length ≤ (putE es n f).length := by
 induction es with
 | nil => exact Nat.zero_le _
 | cons e es ih =>
  rw [putE]
  split
  ·simp
  ·split
   ·simp only [List.length_cons]; omega
   ·simp
theorem putEs_grow : ∀ (cs : List Chg) (es : List Ent), es.length ≤ (putEs es cs).length
 | [], es => Nat.le_refl _
 | c :: cs, es => Nat.le_trans (putE_grow es c.f (fldC c)) (putEs_grow cs _)
theorem steps_put {ks ps : List Tri} : ∀ (L : List Chg) {es : List Ent}, bookB ks ps es = true → (putEs es (L.filter (fitB ks ps))).length ≤ 12 → stepsBk (ks, ps, es) L = (ks, ps, putEs es (L.filter (fitB ks ps))) ∧ bookB ks ps (putEs es (L.filter (fitB ks ps))) = true
 | [], es, h, _ => ⟨rfl, h⟩
 | c :: L, es, h, hl => by
  have hs : stepBk (ks, ps, es) c = (ks, ps, takeE ks ps es c) := by simp only [stepBk, takeT_ok h]
  show stepsBk (stepBk (ks, ps, es) c) L = _ ∧ _
  rw [hs]
  rw [List.filter_cons] at hl ⊢
  cases hf : fitB ks ps c
  ·have e : takeE ks ps es c = es := by unfold takeE; rw [h, hf]; rfl
   simp only [hf, Bool.false_eq_true, if_false] at hl ⊢
   rw [e]
   exact steps_put L h hl
  ·simp only [hf, if_true] at hl ⊢
   have hl2 : (putE es c.f (fldC c)).length ≤ 12 := Nat.le_trans (putEs_grow _ _) hl
   have e : takeE ks ps es c = putE es c.f (fldC c) := by
    unfold takeE
    rw [h, hf]
    simp only [cond_true, decide_eq_false (show ¬ 12 < (putE es c.f (fldC c)).length by omega), cond_false]
   rw [e]
   exact steps_put L (book_put h hf hl2) hl
theorem putEs_book {ks ps : List Tri} {es : List Ent} {L : List Chg} (h : bookB ks ps es = true) (hf : ∀ c ∈ L, fitB ks ps c = true) (hl : (putEs es L).length ≤ 12) : bookB ks ps (putEs es L) = true := by
 have e : L.filter (fitB ks ps) = L := List.filter_eq_self.2 hf
 have h1 := (steps_put L h (by rw [e]; exact hl)).2
 rw [e] at h1
 exact h1
theorem book_fitC {ks ps : List Tri} {es : List Ent} (h : bookB ks ps es = true) {c : Chg} (hc : c ∈ chgsOf es) : fitB ks ps c = true := by
 obtain ⟨e, he, hc⟩ := List.mem_flatMap.1 hc
 obtain ⟨f, hf, rfl⟩ := List.mem_map.1 hc
 exact fields_fit (book_fields h he) hf
theorem fold_start {es : List Ent} {ks ps : List Tri} (h : bookB ks ps es = true) (L : List Chg) : L.foldl putC (chgsOf es) = (chgsOf es ++ L).foldl putC [] := by
 rw [List.foldl_append, putAll_self (book_sorted h)]
theorem nil_sorted : SortedC [] := List.Pairwise.nil
theorem mrg_comm {ks ps ks' ps' : List Tri} {es es' : List Ent} (h : bookB ks ps es = true) (h' : bookB ks' ps' es' = true) : putEs es (chgsOf es') = putEs es' (chgsOf es) := by
 refine putEs_eq (book_names h) (book_ne h) (book_names h') (book_ne h') ?_
 rw [fold_start h, fold_start h']
 exact fold_perm List.perm_append_comm nil_sorted
theorem mrg_again {ks ps : List Tri} {es : List Ent} (h : bookB ks ps es = true) (L : List Chg) : putEs (putEs es L) L = putEs es L := by
 rw [← putEs_app]
 refine putEs_eq (book_names h) (book_ne h) (book_names h) (book_ne h) ?_
 rw [List.foldl_append, fold_again L (book_sorted h)]
theorem mrg_assoc {ks ps ks' ps' : List Tri} {es es' et : List Ent} (h : bookB ks ps es = true) (h' : bookB ks' ps' es' = true) : putEs (putEs es (chgsOf es')) (chgsOf et) = putEs es (chgsOf (putEs es' (chgsOf et))) := by
 rw [← putEs_app]
 refine putEs_eq (book_names h) (book_ne h) (book_names h) (book_ne h) ?_
 rw [putEs_chgs _ _ (book_names h'), fold_start h', fold_start h, fold_start h]
 have hs : SortedC ((chgsOf es' ++ chgsOf et).foldl putC []) := fold_sorted _ nil_sorted
 generalize chgsOf es' ++ chgsOf et = L at *
 have e1 := fold_perm (List.perm_append_comm (l₁ := chgsOf es) (l₂ := L)) nil_sorted
 have e2 := fold_perm (List.perm_append_comm (l₁ := chgsOf es) (l₂ := L.foldl putC [])) nil_sorted
 rw [e1, e2, List.foldl_append, List.foldl_append, putAll_self hs]
theorem mrg_news {ks ps : List Tri} {es es' : List Ent} (h : bookB ks ps es = true) : putEs es ((chgsOf es').filter (newB (chgsOf es))) = putEs es (chgsOf es') :=
 putEs_eq (book_names h) (book_ne h) (book_names h) (book_ne h) (fold_filter _ _ (book_sorted h) (fun c _ hc => hc))
theorem mrg_none1 {ks ps : List Tri} {es es' : List Ent} (h : bookB ks ps es = true) : (chgsOf es').filter (newB (chgsOf (putEs es (chgsOf es')))) = [] := by
 rw [putEs_chgs _ _ (book_names h)]
 refine List.filter_eq_nil_iff.2 fun c hc => ?_
 rw [newB_fold _ (book_sorted h) hc]
 simp
theorem mrg_none2 {ks ps : List Tri} {es es' : List Ent} (h : bookB ks ps es = true) : (chgsOf es).filter (newB (chgsOf (putEs es (chgsOf es')))) = [] := by
 rw [putEs_chgs _ _ (book_names h)]
 refine List.filter_eq_nil_iff.2 fun c hc => ?_
 have h1 : newB (chgsOf es) c = false := by
  have h2 := newB_fold (chgsOf es) nil_sorted hc
  rw [putAll_self (book_sorted h)] at h2
  exact h2
 rw [newB_keep _ (book_sorted h) h1]
 simp
theorem triEq_eq {a b : Tri} (h : triEq a b = true) : a = b := by
 obtain ⟨s, x, y⟩ := a
 obtain ⟨s', x', y'⟩ := b
 unfold triEq at h
 simp only [Bool.and_eq_true, beq_iff_eq] at h
 obtain ⟨h1, rfl, rfl⟩ := h
 have e : s = s' := by
  cases s; cases s'
  rw [ByteArray.toList_eq, ByteArray.toList_eq] at h1
  dsimp only at h1
  rw [Array.toList_inj.1 h1]
 rw [e]
theorem sameT_eq {l m : List Tri} (h : sameT l m = true) : l = m := by
 unfold sameT at h
 rw [Bool.and_eq_true, beq_iff_eq] at h
 refine List.ext_getElem h.1 fun i h1 h2 => ?_
 have h3 := triEq_eq (allB_get h.2 i h1)
 simpa [at', h1, h2] using h3
theorem sameBs_eq {ks ks' ps ps' : List Tri} (h : sameBs ks ks' ps ps' = true) : ks = ks' ∧ ps = ps' := by
 unfold sameBs at h
 rw [Bool.and_eq_true] at h
 exact ⟨sameT_eq h.1, sameT_eq h.2⟩
open Go.RowKit
def mrgK (a b : Bk) : Int := mrgC a.1 a.2.1 b.1 b.2.1 a.2.2 b.2.2
def mrgB (a b : Bk) : Bk := (mrgT a.1 a.2.1 b.1 b.2.1 a.2.2 b.2.2 a.1, mrgT a.1 a.2.1 b.1 b.2.1 a.2.2 b.2.2 a.2.1, mrgE a.1 a.2.1 b.1 b.2.1 a.2.2 b.2.2)
def newsB (a b : Bk) : List Chg := bif bookB a.1 a.2.1 a.2.2 && bookB b.1 b.2.1 b.2.2 then (chgsOf b.2.2).filter fun c => !hasS a.2.2 c else []
def okB (a : Bk) : Bool := bookB a.1 a.2.1 a.2.2
theorem sameT_self (l : List Tri) : sameT l l = true := sameT_all rfl (fun i _ => by simp [triEq])
theorem sameBs_self (ks ps : List Tri) : sameBs ks ks ps ps = true := by unfold sameBs; rw [sameT_self, sameT_self]; rfl
theorem sameBs_comm (ks ks' ps ps' : List Tri) : sameBs ks ks' ps ps' = sameBs ks' ks ps' ps := by
 have go : ∀ {a a' b b' : List Tri}, sameBs a a' b b' = true → sameBs a' a b' b = true := fun h => by
  obtain ⟨rfl, rfl⟩ := sameBs_eq h
  exact h
 cases h : sameBs ks ks' ps ps'
 ·cases h' : sameBs ks' ks ps' ps
  ·rfl
  ·rw [go h'] at h; cases h
 ·exact (go h).symm
theorem mrgK_zero {a b : Bk} (h : mrgK a b = 0) : okB a = true ∧ okB b = true ∧ a.1 = b.1 ∧ a.2.1 = b.2.1 ∧ (putEs a.2.2 (chgsOf b.2.2)).length ≤ 12 ∧ mrgB a b = (a.1, a.2.1, putEs a.2.2 (chgsOf b.2.2)) ∧ okB (mrgB a b) = true := by
 obtain ⟨ks, ps, es⟩ := a
 obtain ⟨ks', ps', es'⟩ := b
 unfold mrgK mrgC at h
 unfold okB
 dsimp only at h ⊢
 cases h1 : bookB ks ps es
 ·rw [h1] at h; simp at h
 ·cases h2 : bookB ks' ps' es'
  ·rw [h1, h2] at h; simp at h
  ·cases h3 : sameBs ks ks' ps ps'
   ·rw [h1, h2, h3] at h; simp at h
   ·obtain ⟨e1, e2⟩ := sameBs_eq h3
    subst e1
    subst e2
    by_cases h4 : 12 < (putEs es (chgsOf es')).length
    ·rw [h1, h2, h3, decide_eq_true h4] at h; simp at h
    ·have hk : mrgOk ks ps ks ps es es' = true := by unfold mrgOk; rw [h1, h2, h3, decide_eq_false h4]; rfl
     have hb : mrgB (ks, ps, es) (ks, ps, es') = (ks, ps, putEs es (chgsOf es')) := by unfold mrgB mrgT mrgE; simp only [hk, cond_true]
     refine ⟨rfl, rfl, rfl, rfl, by omega, hb, ?_⟩
     rw [hb]
     exact putEs_book h1 (fun c hc => book_fitC h2 hc) (by omega)
theorem mrgK_of {a b : Bk} (h1 : okB a = true) (h2 : okB b = true) (e1 : a.1 = b.1) (e2 : a.2.1 = b.2.1) (hl : (putEs a.2.2 (chgsOf b.2.2)).length ≤ 12) : mrgK a b = 0 := by
 obtain ⟨ks, ps, es⟩ := a
 obtain ⟨ks', ps', es'⟩ := b
 dsimp only at e1 e2 hl
 subst e1
 subst e2
 unfold mrgK mrgC
 unfold okB at h1 h2
 dsimp only at h1 h2 ⊢
 rw [h1, h2, sameBs_self, decide_eq_false (by omega)]
 rfl
theorem mrgK_comm (a b : Bk) : mrgK b a = mrgK a b ∧ mrgB b a = mrgB a b := by
 obtain ⟨ks, ps, es⟩ := a
 obtain ⟨ks', ps', es'⟩ := b
 unfold mrgK mrgB mrgT mrgE mrgC mrgOk
 dsimp only
 rw [sameBs_comm ks' ks ps' ps]
 cases h1 : bookB ks ps es
 ·cases h2 : bookB ks' ps' es' <;> simp
 ·cases h2 : bookB ks' ps' es'
  ·simp
  ·cases h3 : sameBs ks ks' ps ps'
   ·simp
   ·obtain ⟨e1, e2⟩ := sameBs_eq h3
    subst e1
    subst e2
    rw [mrg_comm h2 h1]
    simp
theorem mrgB_none {a b : Bk} (h : mrgK a b ≠ 0) : mrgB a b = ([], [], []) := by
 obtain ⟨ks, ps, es⟩ := a
 obtain ⟨ks', ps', es'⟩ := b
 unfold mrgK mrgC at h
 dsimp only at h
 have hk : mrgOk ks ps ks' ps' es es' = false := by
  unfold mrgOk
  cases h1 : bookB ks ps es && bookB ks' ps' es'
  ·rfl
  ·cases h3 : sameBs ks ks' ps ps'
   ·rfl
   ·by_cases h4 : 12 < (putEs es (chgsOf es')).length
    ·simp [h4]
    ·rw [h1, h3, decide_eq_false h4] at h
     exact absurd rfl h
 unfold mrgB mrgT mrgE
 simp only [hk, cond_false]
theorem sm_none : SmB ([], [], []) := ⟨⟨(fun t ht => by cases ht), (fun t ht => by cases ht), (fun e he => by cases he)⟩, ⟨Nat.zero_le _, Nat.zero_le _, Nat.zero_le _, (fun e he => by cases he), (fun e he => by cases he), (fun e he => by cases he)⟩, Nat.zero_le _⟩
theorem putEs_all : ∀ (L : List Chg) {es : List Ent} {P : ByteArray → Prop} {Q : Fld → Prop}, (∀ e ∈ es, P e.name ∧ ∀ x ∈ e.fs, Q x) → (∀ c ∈ L, P c.f ∧ Q (fldC c)) → ∀ e ∈ putEs es L, P e.name ∧ ∀ x ∈ e.fs, Q x
 | [], es, P, Q, h, _ => h
 | c :: L, es, P, Q, h, hl => putEs_all L (putE_all c.f (fldC c) h (hl c (by simp)).1 (hl c (by simp)).2) (fun d hd => hl d (by simp [hd]))
theorem sm_ok {ks ps : List Tri} {es : List Ent} (h : bookB ks ps es = true) (hk : Names ks) (hp : Names ps) (lk : ks.length ≤ 1048576) (lp : ps.length ≤ 1048576) (ha : ∀ e ∈ es, e.name.size ≤ 1048576 ∧ ∀ x ∈ e.fs, x.v.size ≤ 1048576) : SmB (ks, ps, es) := by
 have h5 := book_fs5 h
 have h12 := book_len h
 have hs := sumN_le_mul (fun e : Ent => e.fs.length) 5 es h5
 have hm := Nat.mul_le_mul_right 5 h12
 refine ⟨⟨hk, hp, fun e he => ⟨Nat.le_trans (ha e he).1 (by unfold maxLen; omega), fun f hf => Nat.le_trans ((ha e he).2 f hf) (by unfold maxLen; omega)⟩⟩, ⟨lk, lp, by show es.length ≤ _; omega, fun e he => Nat.le_trans (h5 e he) (by omega), fun e he => (ha e he).1, fun e he => (ha e he).2⟩, ?_⟩
 show sumN _ es ≤ 1048576
 omega
theorem chgs_small {a : Bk} (h : SmB a) : ∀ c ∈ chgsOf a.2.2, c.f.size ≤ 1048576 ∧ c.v.size ≤ 1048576 := fun c hc => by
 obtain ⟨e, he, hc⟩ := List.mem_flatMap.1 hc
 obtain ⟨f, hf, rfl⟩ := List.mem_map.1 hc
 exact ⟨h.s.n e he, h.s.v e he f hf⟩
theorem mrgB_small {a b : Bk} (ha : SmB a) (hb : SmB b) : SmB (mrgB a b) := by
 by_cases h : mrgK a b = 0
 ·obtain ⟨h1, h2, -, -, -, h3, h4⟩ := mrgK_zero h
  rw [h3] at h4 ⊢
  refine sm_ok h4 ha.n.k ha.n.p ha.s.k ha.s.p (putEs_all _ (P := fun n => n.size ≤ 1048576) (Q := fun x => x.v.size ≤ 1048576) (fun e he => ⟨ha.s.n e he, ha.s.v e he⟩) (fun c hc => ?_))
  exact chgs_small hb c hc
 ·rw [mrgB_none h]
  exact sm_none
theorem allR_sm {ks ps : List Tri} {es : List Ent} {L : List Chg} (hS : SmB (ks, ps, es)) (hL : ∀ c ∈ L, c.f.size ≤ 1048576 ∧ c.v.size ≤ 1048576) : SmB (allR ks ps es L) := by
 unfold allR
 cases bookB ks ps es
 ·exact sm_none
 ·exact hS.steps hL
theorem newsB_small {a b : Bk} (hb : SmB b) : (∀ c ∈ newsB a b, c.f.size ≤ 1048576 ∧ c.v.size ≤ 1048576) ∧ (newsB a b).length ≤ 1048576 := by
 unfold newsB
 cases bookB a.1 a.2.1 a.2.2 && bookB b.1 b.2.1 b.2.2
 ·exact ⟨fun c hc => (by simp at hc), Nat.zero_le _⟩
 ·refine ⟨fun c hc => chgs_small hb c (List.mem_filter.1 hc).1, Nat.le_trans (List.length_filter_le _ _) ?_⟩
  rw [chgsOf_len]
  exact hb.u
theorem newsB_eq {a b : Bk} (h : mrgK a b = 0) : newsB a b = (chgsOf b.2.2).filter (newB (chgsOf a.2.2)) := by
 obtain ⟨h1, h2, -⟩ := mrgK_zero h
 unfold okB at h1 h2
 unfold newsB
 rw [h1, h2]
 exact List.filter_congr fun c _ => has_new _ (book_apart h1) c
theorem mrg_take {a b : Bk} (h : mrgK a b = 0) : allR a.1 a.2.1 a.2.2 (newsB a b) = mrgB a b ∧ (allC a.1 a.2.1 a.2.2 (newsB a b)).length = (newsB a b).length := by
 have hn := newsB_eq h
 obtain ⟨h1, h2, e1, e2, hl, h3, -⟩ := mrgK_zero h
 unfold okB at h1 h2
 have hf : (newsB a b).filter (fitB a.1 a.2.1) = newsB a b := List.filter_eq_self.2 fun c hc => by
  rw [hn] at hc
  rw [e1, e2]
  exact book_fitC h2 (List.mem_filter.1 hc).1
 have hp : putEs a.2.2 (newsB a b) = putEs a.2.2 (chgsOf b.2.2) := by rw [hn]; exact mrg_news h1
 unfold allR allC
 rw [h1]
 simp only [cond_true]
 refine ⟨?_, codesBk_len _ _⟩
 have h4 := (steps_put (newsB a b) h1 (by rw [hf, hp]; exact hl)).1
 rw [hf, hp] at h4
 rw [h3]
 exact h4
theorem mrg_x {a b : Bk} (h : mrgK a b = 0) : mrgK (mrgB a b) b = 0 ∧ mrgB (mrgB a b) b = mrgB a b ∧ newsB (mrgB a b) b = [] ∧ newsB (mrgB a b) a = [] := by
 obtain ⟨h1, h2, e1, e2, hl, h3, h4⟩ := mrgK_zero h
 have h1' := h1
 unfold okB at h1'
 have hz : mrgK (mrgB a b) b = 0 := by
  refine mrgK_of h4 h2 (by rw [h3]; exact e1) (by rw [h3]; exact e2) ?_
  rw [h3]
  show (putEs (putEs a.2.2 (chgsOf b.2.2)) (chgsOf b.2.2)).length ≤ 12
  rw [mrg_again h1']
  exact hl
 have hw : okB (mrgB a b) = true := h4
 unfold okB at hw
 have h2' := h2
 unfold okB at h2'
 refine ⟨hz, ?_, ?_, ?_⟩
 ·obtain ⟨-, -, -, -, -, h5, -⟩ := mrgK_zero hz
  rw [h5, h3]
  show (a.1, a.2.1, putEs (putEs a.2.2 (chgsOf b.2.2)) (chgsOf b.2.2)) = _
  rw [mrg_again h1']
 ·rw [newsB_eq hz, h3]
  exact mrg_none1 h1'
 ·unfold newsB
  rw [hw, h1']
  show (chgsOf a.2.2).filter _ = []
  rw [List.filter_congr fun c _ => has_new _ (book_apart hw) c, h3]
  exact mrg_none2 h1'
theorem mrg_three {a b t : Bk} (h : mrgK a b = 0) (h1 : mrgK (mrgB a b) t = 0) (h2 : mrgK b t = 0) (h3 : mrgK a (mrgB b t) = 0) : mrgB (mrgB a b) t = mrgB a (mrgB b t) := by
 obtain ⟨oa, ob, -, -, -, q1, -⟩ := mrgK_zero h
 obtain ⟨-, -, -, -, -, q2, -⟩ := mrgK_zero h1
 obtain ⟨-, -, -, -, -, q3, -⟩ := mrgK_zero h2
 obtain ⟨-, -, -, -, -, q4, -⟩ := mrgK_zero h3
 unfold okB at oa ob
 rw [q2, q4, q3, q1]
 show (a.1, a.2.1, putEs (putEs a.2.2 (chgsOf b.2.2)) (chgsOf t.2.2)) = (a.1, a.2.1, putEs a.2.2 (chgsOf (putEs b.2.2 (chgsOf t.2.2))))
 rw [mrg_assoc oa ob]
end Go.Proofs.YtibpkhmiahamcaaGreat
