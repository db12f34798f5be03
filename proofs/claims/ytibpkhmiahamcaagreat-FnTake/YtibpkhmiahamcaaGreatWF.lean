/-
  Joined: Mrg0, Bxs, All0, Tk0, WF.
-/
import Derived.Test.YtibpkhmiahamcaaGreatTake1
import Derived.Test.YtibpkhmiahamcaaGreatSame
import Derived.Test.YtibpkhmiahamcaaGreatBat
import Derived.Test.YtibpkhmiahamcaaGreatBook5
import Derived.Test.YtibpkhmiahamcaaGreatTakeS
import Derived.Test.YtibpkhmiahamcaaGreatWBk

/-
 Two books together: what they come to, as both sides write it down.
-/
namespace Go.Proofs.YtibpkhmiahamcaaGreat
open Go.RowKit
set_option linter.unusedSimpArgs false
set_option linter.unusedVariables false

theorem putF_lenM (fs : List Fld) (f : Fld) : (putF fs f).length ≤ fs.length + 1 := by
 induction fs with
 | nil => simp [putF]
 | cons g l ih =>
  rw [putF]
  split
  ·simp; omega
  ·split
   ·split <;> simp
   ·simp
theorem putE_fsM {es : List Ent} (n : ByteArray) (f : Fld) (M : Nat) (h : ∀ e ∈ es, e.fs.length ≤ M) : ∀ e ∈ putE es n f, e.fs.length ≤ M + 1 := by
 induction es with
 | nil => intro e he; simp [putE] at he; subst he; simp
 | cons x es ih =>
  intro e he
  rw [putE] at he
  split at he
  ·rcases List.mem_cons.1 he with rfl | he
   ·have := putF_lenM x.fs f
    have := h x (by simp)
    show (putF x.fs f).length ≤ _
    omega
   ·have := h e (by simp [he]); omega
  ·split at he
   ·rcases List.mem_cons.1 he with rfl | he
    ·have := h e (by simp); omega
    ·exact ih (fun e he => h e (by simp [he])) e he
   ·rcases List.mem_cons.1 he with rfl | he
    ·simp
    ·have := h e he; omega
end Go.Proofs.YtibpkhmiahamcaaGreat

/-
 For laws over answers that are books: boxes of the law's own; what the marks leave alone.
-/
namespace Go.Proofs.YtibpkhmiahamcaaGreat
open Go.RowKit
set_option linter.unusedSimpArgs false
set_option linter.unusedVariables false

/-- Boxes: a block, what lies in it, its type. -/
abbrev Bx := Nat × Array Value × TypeId
structure Bxs (w wr : World) (bs : List Bx) : Prop where
 below : Below w.heap.size w wr
 has : ∀ p ∈ bs, wr.heap[p.1]? = some (.cells p.2.1 p.2.2 (0, 0))
theorem Bxs.lt {w wr : World} {bs : List Bx} (h : Bxs w wr bs) {p : Bx} (hp : p ∈ bs) : p.1 < wr.heap.size := (Array.getElem?_eq_some_iff.1 (h.has p hp)).1
theorem Bxs.call {w wr wy : World} {bs : List Bx} (h : Bxs w wr bs) (hb : Below wr.heap.size wr wy) : Bxs w wy bs := ⟨below_step h.below hb, fun p hp => (hb.block _ (h.lt hp)).trans (h.has p hp)⟩
theorem Bxs.drew {w wr : World} {bs : List Bx} (h : Bxs w wr bs) : Bxs w wr.drew bs := ⟨h.below.drew, h.has⟩
theorem Bxs.push {w wr : World} {bs : List Bx} (h : Bxs w wr bs) {X : Nat} {C : Array Value} {T : TypeId} (hX : wr.heap[X]? = some (.cells C T (0, 0))) : Bxs w wr ((X, C, T) :: bs) :=
 ⟨h.below, fun p hp => by
  rcases List.mem_cons.1 hp with rfl | hp
  ·exact hX
  ·exact h.has p hp⟩
theorem Bxs.cell {w wr : World} {bs : List Bx} (h : Bxs w wr bs) (i : Nat) {X : Nat} {C : Array Value} {T : TypeId} (hi : bs[i]? = some (X, C, T)) (j : Nat) : wr.cell? ⟨X, j, none⟩ = C[j]? := by
 have := h.has _ (List.mem_of_getElem? hi)
 dsimp only at this
 simp [World.cell?, this]
theorem Bxs.same {w wr wy : World} {bs : List Bx} (h : Bxs w wr bs) (hb : Below w.heap.size w wy) (hs : ∀ p ∈ bs, wy.heap[p.1]? = wr.heap[p.1]?) : Bxs w wy bs := ⟨hb, fun p hp => (hs p hp).trans (h.has p hp)⟩
theorem Bxs.start2 (w : World) (A C : Array Value) (T U : TypeId) : Bxs w ((w.alloc (.cells A T)).alloc (.cells C U)) [(w.heap.size, A, T), (w.heap.size + 1, C, U)] := by
 have s1 : (w.alloc (.cells A T)).heap.size = w.heap.size + 1 := by simp
 have h1 := heap_newF w (.cells A T)
 have h2 := heap_newF (w.alloc (.cells A T)) (.cells C U)
 rw [s1] at h2
 refine ⟨((Below.refl _ _).alloc (Nat.le_refl _) _).alloc (by simp) _, fun p hp => ?_⟩
 simp only [List.mem_cons, List.not_mem_nil, or_false] at hp
 rcases hp with rfl | rfl
 ·exact (Below.heap_alloc _ _ _ (by omega)).trans h1
 ·exact h2
theorem BookNew.lt {lo : Nat} {w : World} {x y z : Value} {ks ps : List Tri} {es : List Ent} (h : BookNew lo w x y z ks ps es) {w' : World} (hs : ∀ k, lo ≤ k → k < w.heap.size → w'.heap[k]? = w.heap[k]?) : BookNew lo w' x y z ks ps es := by
 obtain ⟨h1, h2, l, h3, h4⟩ := h
 have go : ∀ {e : TypeId} {c : Nat} {v : Value} {n : Nat} {xs : List Value}, w.ownsRow lo e c v n xs → w'.ownsRow lo e c v n xs := fun h => ownsRow_sameM h (fun k hk hl => hs k (own_ge h k hk) hl)
 exact ⟨go h1, go h2, l, h3, go h4.row, fun p hp => go (h4.flds p hp), h4.apart⟩
theorem sumN_le_mul {α : Type} (g : α → Nat) (M : Nat) : ∀ l : List α, (∀ a ∈ l, g a ≤ M) → sumN g l ≤ l.length * M
 | [], _ => by simp [sumN]
 | a :: l, h => by
  have h1 := h a (by simp)
  have h2 := sumN_le_mul g M l (fun b hb => h b (by simp [hb]))
  simp only [sumN, List.length_cons, Nat.succ_mul]
  omega
end Go.Proofs.YtibpkhmiahamcaaGreat

/-
 Changes taken in one after the other: plain facts.
-/
namespace Go.Proofs.YtibpkhmiahamcaaGreat
open Go.RowKit
set_option linter.unusedSimpArgs false
set_option linter.unusedVariables false

abbrev Bk := List Tri × List Tri × List Ent
def stepBk (b : Bk) (c : Chg) : Bk := (takeT b.1 b.2.1 b.2.2 b.1, takeT b.1 b.2.1 b.2.2 b.2.1, takeE b.1 b.2.1 b.2.2 c)
def codeBk (b : Bk) (c : Chg) : Int := takeC b.1 b.2.1 b.2.2 c
def stepsBk (b : Bk) (L : List Chg) : Bk := L.foldl stepBk b
def codesBk : Bk → List Chg → List Int
 | _, [] => []
 | b, c :: L => codeBk b c :: codesBk (stepBk b c) L
theorem stepsBk_snoc (b : Bk) (L : List Chg) (c : Chg) : stepsBk b (L ++ [c]) = stepBk (stepsBk b L) c := by simp [stepsBk]
theorem codesBk_snoc : ∀ (L : List Chg) (b : Bk) (c : Chg), codesBk b (L ++ [c]) = codesBk b L ++ [codeBk (stepsBk b L) c]
 | [], b, c => rfl
 | d :: L, b, c => by
  show codeBk b d :: codesBk (stepBk b d) (L ++ [c]) = _
  rw [codesBk_snoc L (stepBk b d) c]
  rfl
theorem codesBk_len : ∀ (L : List Chg) (b : Bk), (codesBk b L).length = L.length
 | [], b => rfl
 | c :: L, b => by show (codesBk (stepBk b c) L).length + 1 = _; rw [codesBk_len L]; rfl
theorem take_snocC {L : List Chg} {k : Nat} (h : k < L.length) : L.take (k + 1) = L.take k ++ [cat' L k] := by
 rw [List.take_succ_eq_append_getElem h]
 simp [cat', h]
/-- A book of which each step can be taken. -/
structure SmB (b : Bk) : Prop where
 n : BNames b.1 b.2.1 b.2.2
 s : BSmall b.1 b.2.1 b.2.2
 u : sumN (fun e => e.fs.length) b.2.2 ≤ 1048576
theorem putF_mem {fs : List Fld} {f x : Fld} (h : x ∈ putF fs f) : x = f ∨ x ∈ fs := by
 induction fs with
 | nil => simp [putF] at h; exact .inl h
 | cons g l ih =>
  rw [putF] at h
  split at h
  ·rcases List.mem_cons.1 h with rfl | h
   ·exact .inr (by simp)
   ·rcases ih h with h | h
    ·exact .inl h
    ·exact .inr (by simp [h])
  ·split at h
   ·split at h
    ·rcases List.mem_cons.1 h with rfl | h
     ·exact .inl rfl
     ·exact .inr (by simp [h])
    ·exact .inr h
   ·rcases List.mem_cons.1 h with rfl | h
    ·exact .inl rfl
    ·exact .inr h
theorem putE_all {es : List Ent} (n : ByteArray) (f : Fld) {P : ByteArray → Prop} {Q : Fld → Prop} (h : ∀ e ∈ es, P e.name ∧ ∀ x ∈ e.fs, Q x) (hn : P n) (hf : Q f) : ∀ e ∈ putE es n f, P e.name ∧ ∀ x ∈ e.fs, Q x := by
 induction es with
 | nil => intro e he; simp [putE] at he; subst he; exact ⟨hn, fun x hx => by simp at hx; subst hx; exact hf⟩
 | cons y es ih =>
  intro e he
  rw [putE] at he
  split at he
  ·rcases List.mem_cons.1 he with rfl | he
   ·refine ⟨(h y (by simp)).1, fun x hx => ?_⟩
    rcases putF_mem hx with rfl | hx
    ·exact hf
    ·exact (h y (by simp)).2 x hx
   ·exact h e (by simp [he])
  ·split at he
   ·rcases List.mem_cons.1 he with rfl | he
    ·exact h e (by simp)
    ·exact ih (fun e he => h e (by simp [he])) e he
   ·rcases List.mem_cons.1 he with rfl | he
    ·exact ⟨hn, fun x hx => by simp at hx; subst hx; exact hf⟩
    ·exact h e he
theorem takeE_all (ks ps : List Tri) (es : List Ent) (c : Chg) {P : ByteArray → Prop} {Q : Fld → Prop} (h : ∀ e ∈ es, P e.name ∧ ∀ x ∈ e.fs, Q x) (hn : P c.f) (hf : Q (fldC c)) : ∀ e ∈ takeE ks ps es c, P e.name ∧ ∀ x ∈ e.fs, Q x := by
 unfold takeE
 cases bookB ks ps es
 ·intro e he; cases he
 ·cases fitB ks ps c
  ·exact h
  ·cases decide (12 < (putE es c.f (fldC c)).length)
   ·exact putE_all c.f (fldC c) h hn hf
   ·exact h
theorem takeT_mem {ks ps : List Tri} {es : List Ent} {l : List Tri} {t : Tri} (h : t ∈ takeT ks ps es l) : t ∈ l := by
 unfold takeT at h
 cases hb : bookB ks ps es
 ·rw [hb] at h; cases h
 ·rw [hb] at h; exact h
theorem takeE_fs (ks ps : List Tri) (es : List Ent) (c : Chg) (h : ∀ e ∈ es, e.fs.length ≤ 1048576) : ∀ e ∈ takeE ks ps es c, e.fs.length ≤ 1048576 := by
 unfold takeE
 cases hb : bookB ks ps es
 ·intro e he; cases he
 ·cases fitB ks ps c
  ·exact h
  ·cases decide (12 < (putE es c.f (fldC c)).length)
   ·intro e he
    have := putE_fsM c.f (fldC c) 5 (book_fs5 hb) e he
    omega
   ·exact h
theorem takeE_len13 (ks ps : List Tri) (es : List Ent) (c : Chg) : (takeE ks ps es c).length ≤ 13 ∧ sumN (fun e => e.fs.length) (takeE ks ps es c) ≤ 1048576 := by
 have go : ∀ l : List Ent, l.length ≤ 13 → (∀ e ∈ l, e.fs.length ≤ 6) → l.length ≤ 13 ∧ sumN (fun e => e.fs.length) l ≤ 1048576 := fun l h1 h2 => by
  have := sumN_le_mul (fun e : Ent => e.fs.length) 6 l h2
  have := Nat.mul_le_mul_right 6 h1
  exact ⟨h1, by omega⟩
 unfold takeE
 cases hb : bookB ks ps es
 ·exact go [] (by simp) (fun e he => by cases he)
 ·have h12 := book_len hb
  have h5 := book_fs5 hb
  have hes := go es (by omega) (fun e he => by have := h5 e he; omega)
  have hput := go (putE es c.f (fldC c)) (by rw [putE_len c.f (fldC c) (book_names hb)]; split <;> omega) (fun e he => putE_fsM c.f (fldC c) 5 h5 e he)
  cases fitB ks ps c
  ·exact hes
  ·cases decide (12 < (putE es c.f (fldC c)).length)
   ·exact hput
   ·exact hes
theorem takeT_len (ks ps : List Tri) (es : List Ent) (l : List Tri) : (takeT ks ps es l).length ≤ l.length := by
 unfold takeT
 cases bookB ks ps es
 ·simp
 ·exact Nat.le_refl _
theorem SmB.step {b : Bk} {c : Chg} (h : SmB b) (hf : c.f.size ≤ 1048576) (hv : c.v.size ≤ 1048576) : SmB (stepBk b c) := by
 obtain ⟨ks, ps, es⟩ := b
 have h13 := takeE_len13 ks ps es c
 have hall := takeE_all ks ps es c (P := fun n => n.size ≤ 1048576) (Q := fun f => f.v.size ≤ 1048576) (fun e he => ⟨h.s.n e he, h.s.v e he⟩) hf hv
 have hall2 := takeE_all ks ps es c (P := fun n => n.size ≤ maxLen) (Q := fun f => f.v.size ≤ maxLen) (fun e he => ⟨(h.n.e e he).1, (h.n.e e he).2⟩) (by unfold maxLen; omega) (by show c.v.size ≤ _; unfold maxLen; omega)
 refine ⟨⟨fun t ht => h.n.k t (takeT_mem ht), fun t ht => h.n.p t (takeT_mem ht), fun e he => ⟨(hall2 e he).1, (hall2 e he).2⟩⟩, ⟨Nat.le_trans (takeT_len _ _ _ _) h.s.k, Nat.le_trans (takeT_len _ _ _ _) h.s.p, ?_, takeE_fs ks ps es c h.s.f, fun e he => (hall e he).1, fun e he => (hall e he).2⟩, h13.2⟩
 show (takeE ks ps es c).length ≤ 1048576
 omega
theorem SmB.steps {L : List Chg} : ∀ {b : Bk}, SmB b → (∀ c ∈ L, c.f.size ≤ 1048576 ∧ c.v.size ≤ 1048576) → SmB (stepsBk b L) := by
 induction L with
 | nil => intro b h _; exact h
 | cons c L ih => intro b h hc; exact ih (h.step (hc c (by simp)).1 (hc c (by simp)).2) (fun d hd => hc d (by simp [hd]))
end Go.Proofs.YtibpkhmiahamcaaGreat

/-
 Plain facts: what is taken in keeps a book ok; taken in again it changes nothing; what a book says of a thing.
-/
namespace Go.Proofs.YtibpkhmiahamcaaGreat
open Go.RowKit
set_option linter.unusedSimpArgs false
set_option linter.unusedVariables false

theorem book_of {ks ps : List Tri} {es : List Ent} (hb : baseB ks ps = true) (hl : es.length ≤ 12) (hnm : ∀ e ∈ es, nameB e.name = true) (hp : es.Pairwise fun a b => blS a.name b.name = true) (hf : ∀ e ∈ es, fieldsB ks ps e.name e.fs = true) : bookB ks ps es = true := by
 unfold bookB namesE
 have eE : ∀ i, i < es.length → eat es i ∈ es := fun i hi => List.mem_of_getElem? (eat_get hi)
 rw [hb, decide_eq_true hl, Bool.true_and, Bool.true_and, Bool.and_eq_true]
 refine ⟨allB_true fun i hi => ?_, allB_true fun i hi => hf _ (eE i hi)⟩
 rw [hnm _ (eE i hi), Bool.true_and]
 unfold ascE
 cases i with
 | zero => rfl
 | succ i =>
  have h := List.pairwise_iff_getElem.1 hp i (i + 1) (by omega) hi (by omega)
  have e0 : eat es i = es[i] := by simp [eat, show i < es.length by omega]
  have e1 : eat es (i + 1) = es[i + 1] := by simp [eat, hi]
  rw [Nat.add_sub_cancel, e0, e1]
  simp only [geB]
  unfold blS at h
  rw [h]
  simp
theorem fields_of {ks ps : List Tri} {n : ByteArray} {l : List Fld} (hne : l ≠ []) (hs : l.Pairwise fun a b => a.what < b.what) (hf : ∀ f ∈ l, fitB ks ps (chgOf n f) = true) : fieldsB ks ps n l = true := by
 unfold fieldsB
 rw [Bool.and_eq_true]
 refine ⟨allB_true fun i hi => ?_, decide_eq_true (List.length_pos_iff.2 hne)⟩
 rw [hf _ (List.mem_of_getElem? (fat_get hi)), Bool.and_true]
 unfold ascF
 cases i with
 | zero => rfl
 | succ i =>
  have h := List.pairwise_iff_getElem.1 hs i (i + 1) (by omega) hi (by omega)
  have e0 : fat l i = l[i] := by simp [fat, show i < l.length by omega]
  have e1 : fat l (i + 1) = l[i + 1] := by simp [fat, hi]
  rw [Nat.add_sub_cancel, e0, e1]
  simp
  omega
theorem putF_sorted {l : List Fld} (f : Fld) (h : l.Pairwise fun a b => a.what < b.what) : (putF l f).Pairwise fun a b => a.what < b.what := by
 induction l with
 | nil => simp [putF]
 | cons g l ih =>
  have h' := List.pairwise_cons.1 h
  rw [putF]
  split
  ·rename_i hlt
   refine List.pairwise_cons.2 ⟨fun x hx => ?_, ih h'.2⟩
   rcases putF_mem hx with rfl | hx
   ·exact hlt
   ·exact h'.1 x hx
  ·split
   ·rename_i he
    split
    ·exact List.pairwise_cons.2 ⟨fun x hx => by rw [← he]; exact h'.1 x hx, h'.2⟩
    ·exact h
   ·rename_i h1 h2
    refine List.pairwise_cons.2 ⟨fun x hx => ?_, h⟩
    rcases List.mem_cons.1 hx with rfl | hx
    ·omega
    ·have := h'.1 x hx
     omega
theorem putE_each {es : List Ent} (n : ByteArray) (f : Fld) : ∀ e ∈ putE es n f, e ∈ es ∨ e = ⟨n, [f]⟩ ∨ ∃ e' ∈ es, e'.name = n ∧ e = ⟨n, putF e'.fs f⟩ := by
 induction es with
 | nil => intro e he; simp [putE] at he; exact .inr (.inl he)
 | cons y es ih =>
  intro e he
  rw [putE] at he
  split at he
  ·rename_i hy
   rcases List.mem_cons.1 he with rfl | he
   ·exact .inr (.inr ⟨y, by simp, hy, by rw [hy]⟩)
   ·exact .inl (by simp [he])
  ·split at he
   ·rcases List.mem_cons.1 he with rfl | he
    ·exact .inl (by simp)
    ·rcases ih e he with h | h | ⟨e', h1, h2, h3⟩
     ·exact .inl (by simp [h])
     ·exact .inr (.inl h)
     ·exact .inr (.inr ⟨e', by simp [h1], h2, h3⟩)
   ·rcases List.mem_cons.1 he with rfl | he
    ·exact .inr (.inl rfl)
    ·exact .inl he
theorem book_nm {ks ps : List Tri} {es : List Ent} (h : bookB ks ps es = true) {e : Ent} (he : e ∈ es) : nameB e.name = true := by
 simp only [bookB, namesE, Bool.and_eq_true] at h
 obtain ⟨i, hi, rfl⟩ := List.getElem_of_mem he
 have h1 := allB_get h.2.1.2 i hi
 simp only [Bool.and_eq_true] at h1
 have e0 : eat es i = es[i] := by simp [eat, hi]
 rw [e0] at h1
 exact h1.1
/-- What is put in keeps a book ok. -/
theorem book_put {ks ps : List Tri} {es : List Ent} {c : Chg} (h : bookB ks ps es = true) (hc : fitB ks ps c = true) (hl : (putE es c.f (fldC c)).length ≤ 12) : bookB ks ps (putE es c.f (fldC c)) = true := by
 have hcn : nameB c.f = true := by
  simp only [fitB, Bool.and_eq_true] at hc
  exact hc.1
 refine book_of (book_base h) hl (fun e he => ?_) (putE_sorted _ _ (book_names h)) (fun e he => ?_)
 ·rcases putE_each _ _ e he with h1 | rfl | ⟨e', h1, h2, rfl⟩
  ·exact book_nm h h1
  ·exact hcn
  ·exact hcn
 ·rcases putE_each _ _ e he with h1 | rfl | ⟨e', h1, h2, rfl⟩
  ·exact book_fields h h1
  ·exact fields_of (by simp) (by simp) (fun f hf => by simp at hf; subst hf; exact hc)
  ·have h3 := book_fields h h1
   refine fields_of (putF_ne _ _) (putF_sorted _ (fields_sorted h3)) (fun f hf => ?_)
   rcases putF_mem hf with rfl | hf
   ·exact hc
   ·rw [← h2]; exact fields_fit h3 hf
theorem take_book {ks ps : List Tri} {es : List Ent} (c : Chg) (h : bookB ks ps es = true) : bookB ks ps (takeE ks ps es c) = true := by
 unfold takeE
 rw [h]
 simp only [cond_true]
 cases hf : fitB ks ps c
 ·exact h
 ·simp only [cond_true]
  by_cases hl : 12 < (putE es c.f (fldC c)).length
  ·simp only [decide_eq_true hl, cond_true]; exact h
  ·simp only [decide_eq_false hl, cond_false]; exact book_put h hf (by omega)
theorem takeT_ok {ks ps : List Tri} {es : List Ent} (h : bookB ks ps es = true) (l : List Tri) : takeT ks ps es l = l := by
 unfold takeT
 rw [h]
 rfl
theorem steps_ok {ks ps : List Tri} : ∀ (L : List Chg) {es : List Ent}, bookB ks ps es = true → ∃ es', stepsBk (ks, ps, es) L = (ks, ps, es') ∧ bookB ks ps es' = true
 | [], es, h => ⟨es, rfl, h⟩
 | c :: L, es, h => by
  obtain ⟨es', h1, h2⟩ := steps_ok L (take_book c h)
  refine ⟨es', ?_, h2⟩
  show stepsBk (stepBk (ks, ps, es) c) L = _
  rw [show stepBk (ks, ps, es) c = (ks, ps, takeE ks ps es c) by simp only [stepBk, takeT_ok h]]
  exact h1
/-- Once more: nothing changes. -/
theorem latC_irrefl (c : Chg) : latC c c = false := by
 unfold latC
 rw [if_pos rfl]
 exact blS_irrefl _
theorem keyLt_irrefl (c : Chg) : keyLt c c = false := by simp [keyLt, blS_irrefl]
theorem putC_again (l : List Chg) (c : Chg) : putC (putC l c) c = putC l c := by
 induction l with
 | nil => simp [putC, keyLt_irrefl, keyEq_self, latC_irrefl]
 | cons a l ih =>
  by_cases h1 : keyLt a c = true
  ·simp only [putC, h1, if_true, ih]
  ·by_cases h2 : keyEq a c = true
   ·by_cases h3 : latC c a = true
    ·simp [putC, h1, h2, h3, keyLt_irrefl, keyEq_self, latC_irrefl]
    ·simp [putC, h1, h2, h3]
   ·simp [putC, h1, h2, keyLt_irrefl, keyEq_self, latC_irrefl]
theorem putE_again {es : List Ent} (n : ByteArray) (f : Fld) (h : es.Pairwise fun a b => blS a.name b.name = true) (hne : ∀ e ∈ es, e.fs ≠ []) : putE (putE es n f) n f = putE es n f := by
 have h1 := put_entries n f (putE_sorted n f h) (putE_ne n f hne)
 rw [chgs_putE n f h, putC_again, put_entries n f h hne] at h1
 exact h1.symm
theorem take_again {ks ps : List Tri} {es : List Ent} {c : Chg} (h : takeC ks ps es c = 0) : takeE ks ps es c = putE es c.f (fldC c) ∧ bookB ks ps es = true ∧ fitB ks ps c = true ∧ bookB ks ps (putE es c.f (fldC c)) = true ∧ takeE ks ps (putE es c.f (fldC c)) c = putE es c.f (fldC c) := by
 unfold takeC at h
 cases hb : bookB ks ps es
 ·rw [hb] at h; simp at h
 ·rw [hb] at h
  cases hf : fitB ks ps c
  ·rw [hf] at h; simp at h
  ·rw [hf] at h
   by_cases hl : 12 < (putE es c.f (fldC c)).length
   ·simp only [decide_eq_true hl, cond_true] at h
    simp at h
   ·have hb2 := book_put hb hf (by omega)
    refine ⟨?_, rfl, rfl, hb2, ?_⟩
    ·unfold takeE
     simp only [hb, hf, decide_eq_false hl, cond_true, cond_false]
    ·unfold takeE
     rw [putE_again _ _ (book_names hb) (book_ne hb)]
     simp only [hb2, hf, cond_true, decide_eq_false hl, cond_false]
/-- What a book says of a thing. -/
def saysC (es : List Ent) (n : ByteArray) (wh : Int) : Option Chg := (chgsOf es).find? fun a => keyEq a ⟨n, wh, 0, ⟨#[]⟩⟩
theorem find_sorted {l : List Chg} (h : SortedC l) {c : Chg} (hc : c ∈ l) (n : Int) (v : ByteArray) : l.find? (fun a => keyEq a ⟨c.f, c.what, n, v⟩) = some c := by
 induction l with
 | nil => cases hc
 | cons a l ih =>
  have h' := List.pairwise_cons.1 h
  rcases List.mem_cons.1 hc with rfl | hc'
  ·rw [List.find?_cons_of_pos]
   exact keyEq_iff.2 ⟨rfl, rfl⟩
  ·rw [List.find?_cons_of_neg]
   ·exact ih h'.2 hc'
   ·have h1 := keyLt_ne (h'.1 c hc')
    intro h2
    have h3 := keyEq_iff.1 h2
    rw [show keyEq a c = true from keyEq_iff.2 ⟨h3.1, h3.2⟩] at h1
    cases h1
theorem says_put {ks ps : List Tri} {es : List Ent} {c : Chg} (h : bookB ks ps es = true) {e : Ent} (he : e ∈ es) {f : Fld} (hf : f ∈ e.fs) : ∃ g : Chg, saysC (putE es c.f (fldC c)) e.name f.what = some g ∧ (fldC g = f ∨ (e.name = c.f ∧ f.what = c.what ∧ g.num = c.num ∧ g.v = c.v ∧ f.num ≤ c.num)) := by
 have hs := book_sorted h
 have hm : chgOf e.name f ∈ chgsOf es := List.mem_flatMap.2 ⟨e, he, List.mem_map.2 ⟨f, hf, rfl⟩⟩
 have h1 := find_sorted hs hm 0 ⟨#[]⟩
 unfold saysC
 rw [chgs_putE _ _ (book_names h), putC_find _ _ hs]
 by_cases hk : keyEq (chgOf c.f (fldC c)) ⟨e.name, f.what, 0, ⟨#[]⟩⟩ = true
 ·rw [if_pos hk]
  obtain ⟨k1, k2⟩ := keyEq_iff.1 hk
  have k1' : c.f = e.name := k1
  have k2' : c.what = f.what := k2
  have hn : newB (chgsOf es) (chgOf c.f (fldC c)) = latC (chgOf c.f (fldC c)) (chgOf e.name f) := by
   have h2 := find_sorted hs hm c.num c.v
   unfold newB
   rw [show (chgOf c.f (fldC c)) = ⟨(chgOf e.name f).f, (chgOf e.name f).what, c.num, c.v⟩ by rw [← show c.f = (chgOf e.name f).f from k1', ← show c.what = (chgOf e.name f).what from k2']; rfl, h2]
  by_cases hl : newB (chgsOf es) (chgOf c.f (fldC c)) = true
  ·rw [if_pos hl]
   refine ⟨_, rfl, .inr ⟨k1'.symm, k2'.symm, rfl, rfl, ?_⟩⟩
   rw [hn] at hl
   unfold latC at hl
   split at hl
   ·rename_i h5
    have h6 : c.num = f.num := h5
    omega
   ·have h6 : f.num < c.num := of_decide_eq_true hl
    omega
  ·rw [if_neg hl]
   exact ⟨_, h1, .inl rfl⟩
 ·rw [if_neg hk]
  exact ⟨_, h1, .inl rfl⟩
end Go.Proofs.YtibpkhmiahamcaaGreat

/-
 The law: what a book says last of something.
-/
namespace Go.Proofs.YtibpkhmiahamcaaGreat
open Go.RowKit
attribute [local go_sem] Later.cell Later.frozen
set_option linter.unusedSimpArgs false
set_option linter.unusedVariables false

theorem toHidW {P : Prop} (h : P) : Hid P := h

theorem says_all {es : List Ent} {n : ByteArray} {wh : Int} {g : Chg} (hs : SortedC (chgsOf es)) (h : saysC es n wh = some g) : (∀ i, i < es.length → ∀ l, l < (eat es i).fs.length → (eat es i).name = n → (fat (eat es i).fs l).what = wh → fat (eat es i).fs l = fldC g) ∧ ∃ i l, i < es.length ∧ l < (eat es i).fs.length ∧ (eat es i).name = n ∧ (fat (eat es i).fs l).what = wh := by
 have hm := List.mem_of_find?_eq_some h
 have hk := List.find?_some h
 obtain ⟨k1, k2⟩ := keyEq_iff.1 hk
 refine ⟨fun i hi l hl h1 h2 => ?_, ?_⟩
 ·have hc : chgOf (eat es i).name (fat (eat es i).fs l) ∈ chgsOf es := List.mem_flatMap.2 ⟨_, List.mem_of_getElem? (eat_get hi), List.mem_map.2 ⟨_, List.mem_of_getElem? (fat_get hl), rfl⟩⟩
  have h3 := find_sorted hs hc 0 ⟨#[]⟩
  rw [show (chgOf (eat es i).name (fat (eat es i).fs l)).f = n from h1, show (chgOf (eat es i).name (fat (eat es i).fs l)).what = wh from h2] at h3
  have h4 := h3.symm.trans h
  injection h4 with h4
  rw [← h4]
  rfl
 ·obtain ⟨e, he, hc⟩ := List.mem_flatMap.1 hm
  obtain ⟨f, hf, rfl⟩ := List.mem_map.1 hc
  obtain ⟨i, hi, rfl⟩ := List.getElem_of_mem he
  obtain ⟨l, hl, rfl⟩ := List.getElem_of_mem hf
  have e0 : eat es i = es[i] := by simp [eat, hi]
  refine ⟨i, l, hi, by rw [e0]; exact hl, by rw [e0]; exact k1, ?_⟩
  rw [e0, show fat es[i].fs l = es[i].fs[l] by simp [fat, hl]]
  exact k2

set_option maxRecDepth 100000 in
set_option maxHeartbeats 6400000 in
theorem wField_hit (vk vp ve : Value) (ks ps : List Tri) (es : List Ent) (n : ByteArray) (wh : Int) (g : Fld) (w : World) (hB : BookAt w vk vp ve ks ps es) (sB : BSmall ks ps es)
  (hu : ∀ i, i < es.length → ∀ l, l < (eat es i).fs.length → (eat es i).name = n → (fat (eat es i).fs l).what = wh → fat (eat es i).fs l = g) (hex : ∃ i l, i < es.length ∧ l < (eat es i).fs.length ∧ (eat es i).name = n ∧ (fat (eat es i).fs l).what = wh) :
  Calls Tryz.prog 11 #[.agg #[vk, vp, ve], .string n, .int .i64 wh] w fun e w' => e = .returned (.tuple #[.agg #[.int .i64 g.what, .int .i64 g.num, .string g.v], .bool true]) ∧ Below w.heap.size w w' := by
 have le := sB.e
 have HL : Hid (∀ e ∈ es, e.fs.length ≤ 1048576) := sB.f
 have HU : Hid (∀ i, i < es.length → ∀ l, l < (eat es i).fs.length → (eat es i).name = n → (fat (eat es i).fs l).what = wh → fat (eat es i).fs l = g) := hu
 have HEX : Hid (∃ i l, i < es.length ∧ l < (eat es i).fs.length ∧ (eat es i).name = n ∧ (fat (eat es i).fs l).what = wh) := hex
 clear sB hu hex
 obtain ⟨⟨ak, ck, rfl, -, m1, -⟩, ⟨ap, cp, rfl, -, m2, -⟩, ⟨ae, ce, rfl, -, m3, h3⟩⟩ := hB
 unfold maxLen at m1 m2 m3
 have HE : Hid (∀ i e, es[i]? = some e → ∃ b off, ae = some ⟨b, off, none⟩ ∧ EntAt w b (off + i * 2) e) := h3
 clear h3
 have HX0 : Hid (OwnAt w ((w.alloc (.cells #[.slice ak ks.length ck, .slice ap ps.length cp, .slice ae es.length ce] 29)).alloc (.cells #[.int .i64 0, .int .i64 0, .string ⟨#[]⟩] 42)) [[.slice ak ks.length ck, .slice ap ps.length cp, .slice ae es.length ce], [.int .i64 0, .int .i64 0, .string ⟨#[]⟩]]) := ((OwnAt.start w).push rfl _ _).push (by simp) _ _
 have HR0 : Hid (((w.alloc (.cells #[.slice ak ks.length ck, .slice ap ps.length cp, .slice ae es.length ce] 29)).alloc (.cells #[.int .i64 0, .int .i64 0, .string ⟨#[]⟩] 42)).heap[w.heap.size + 1]? = some (.cells #[.int .i64 0, .int .i64 0, .string ⟨#[]⟩] 42 (0, 0))) := by
  have h := heap_newF (w.alloc (.cells #[.slice ak ks.length ck, .slice ap ps.length cp, .slice ae es.length ce] 29)) (.cells #[.int .i64 0, .int .i64 0, .string ⟨#[]⟩] 42)
  rw [show (w.alloc (.cells #[.slice ak ks.length ck, .slice ap ps.length cp, .slice ae es.length ce] 29)).heap.size = w.heap.size + 1 by simp] at h
  exact h
 have HZ : Hid (∀ wr : World, OwnAt w wr [[.slice ak ks.length ck, .slice ap ps.length cp, .slice ae es.length ce], [.int .i64 0, .int .i64 0, .string ⟨#[]⟩]] → wr.cell? ⟨w.heap.size, 2, none⟩ = some (.slice ae es.length ce)) := fun wr h => (h.has 0 _ rfl 2 _ rfl).1
 go_enter Tryz.func11, Tryz.ntmps11
 go_wp2
 generalize ((w.alloc (.cells #[.slice ak ks.length ck, .slice ap ps.length cp, .slice ae es.length ce] 29)).alloc (.cells #[.int .i64 0, .int .i64 0, .string ⟨#[]⟩] 42)) = w0 at *
 go_loopw [8] (fun i wr => ∃ k : Nat, k ≤ es.length ∧ i = .int .i64 k ∧ Hid (wr = w0) ∧ Hid (∀ i, i < k → ∀ l, l < (eat es i).fs.length → ¬ ((eat es i).name = n ∧ (fat (eat es i).fs l).what = wh))) (fun i _ => es.length - (intOf i).toNat)
 case atStart => exact ⟨0, Nat.zero_le _, rfl, rfl, fun i hi => absurd hi (Nat.not_lt_zero _)⟩
 case round =>
  obtain ⟨k, hk, rfl, HWR, HN⟩ := hrel
  have hwr := HWR.out
  subst hwr
  have x2 := HZ.out _ HX0.out
  have hxz : w.heap.size < wr.heap.size := lt_of_cell x2
  by_cases hlt : k < es.length
  ·obtain ⟨b, off, rfl, fv, d0, d1, hf⟩ := HE.out k _ (eat_get hlt)
   have HFL := HL.out _ (List.mem_of_getElem? (eat_get hlt))
   have HUK : Hid (∀ l, l < (eat es k).fs.length → (eat es k).name = n → (fat (eat es k).fs l).what = wh → fat (eat es k).fs l = g) := HU.out k hlt
   have HNK : Hid ((∀ l, l < (eat es k).fs.length → ¬ ((eat es k).name = n ∧ (fat (eat es k).fs l).what = wh)) → ∀ i, i < k + 1 → ∀ l, l < (eat es i).fs.length → ¬ ((eat es i).name = n ∧ (fat (eat es i).fs l).what = wh)) := fun h i hi => by
    by_cases e : i = k
    ·subst e; exact h
    ·exact HN.out i (by omega)
   generalize eat es k = en at *
   obtain ⟨fa, fc, rfl, -, fm, hf3⟩ := hf
   unfold maxLen at fm
   have HF : Hid (∀ i f, en.fs[i]? = some f → ∃ b off, fa = some ⟨b, off, none⟩ ∧ FldAt w b (off + i * 3) f) := hf3
   clear hf3 HN
   have c0 := cell_keep HX0.out.below (Nat.le_refl _) d0
   have c1 := cell_keep HX0.out.below (Nat.le_refl _) d1
   have z1 := lt_of_cell c0
   clear d0 d1
   have hk0 : (0 : Int) ≤ (k : Int) := by omega
   have hk1 : (k : Int) < (es.length : Int) := by omega
   go_wp2
   go_loopw [9] (fun i wx => ∃ j : Nat, j ≤ en.fs.length ∧ i = .int .i64 j ∧ Hid (wx = wr) ∧ Hid (∀ l, l < j → ¬ (en.name = n ∧ (fat en.fs l).what = wh))) (fun i _ => en.fs.length - (intOf i).toNat)
   case atStart => exact ⟨0, Nat.zero_le _, rfl, rfl, fun i hi => absurd hi (Nat.not_lt_zero _)⟩
   case round =>
    obtain ⟨j, hj, rfl, HWX, HJ⟩ := hrel
    have hwx := HWX.out
    subst hwx
    clear HWX
    by_cases hjl : j < en.fs.length
    ·obtain ⟨bf, o, hga, g0, g1, g2⟩ := HF.out j _ (fat_get hjl)
     subst hga
     have HUJ : Hid (en.name = n → (fat en.fs j).what = wh → fat en.fs j = g) := HUK.out j hjl
     have HJ1 : Hid (¬ (en.name = n ∧ (fat en.fs j).what = wh) → ∀ l, l < j + 1 → ¬ (en.name = n ∧ (fat en.fs l).what = wh)) := fun h l hl => by
      by_cases e : l = j
      ·subst e; exact h
      ·exact HJ.out l (by omega)
     generalize fat en.fs j = fd at *
     have s0 := cell_keep HX0.out.below (Nat.le_refl _) g0
     have s1 := cell_keep HX0.out.below (Nat.le_refl _) g1
     have s2 := cell_keep HX0.out.below (Nat.le_refl _) g2
     have z3 := lt_of_cell s0
     clear g0 g1 g2
     have hj0 : (0 : Int) ≤ (j : Int) := by omega
     have hj1 : (j : Int) < (en.fs.length : Int) := by omega
     by_cases hn : en.name = n
     ·have hnb : (en.name.toList == n.toList) = true := str_eq hn
      by_cases hw : fd.what = wh
      ·have hwb : (fd.what == wh) = true := by simp [hw]
       have HG : Hid (fd = g) := HUJ.out hn hw
       have hR9 := HR0.out
       have HB := toHidW HX0.out.below
       clear hn hw HJ HJ1 HUJ
       go_wp2_with (refine wpList_store_row rfl 42 _ _ rfl (w.heap.size + 1) #[.int .i64 fd.what, .int .i64 fd.num, .string fd.v] rfl rfl 42 _ hR9 (by kernel_rfl) rfl (by simp [Value.oneCell']) ?_)
       refine bodyPost_ret (v := .tuple #[.agg #[.int .i64 fd.what, .int .i64 fd.num, .string fd.v], .bool true]) (by simp [results, Tryz.results11, go_sem, cell_setRow_same _ _ _ _ _ _ _ hR9]) rfl ⟨by rw [HG.out], ?_⟩
       exact ⟨HB.out.1, HB.out.2, HB.out.3, by have := HB.out.4; simp; exact this, fun q hq => (setRow_other _ _ _ _ (by omega)).trans (HB.out.5 q hq)⟩
      ·have hwb : (fd.what == wh) = false := by simp [hw]
       have HNX := toHidW (HJ1.out (fun h => hw h.2))
       clear hn hw HJ HJ1 HUJ
       go_wp2
       exact ⟨⟨j + 1, by omega, by go_num, toHidW trivial, HNX⟩, by simp [intOf]; omega⟩
     ·have hnb : (en.name.toList == n.toList) = false := str_ne hn
      have HNX := toHidW (HJ1.out (fun h => hn h.1))
      clear hn HJ HJ1 HUJ
      go_wp2
      exact ⟨⟨j + 1, by omega, by go_num, toHidW trivial, HNX⟩, by simp [intOf]; omega⟩
    ·have hje : j = en.fs.length := by omega
     have HNX := toHidW (HNK.out (fun l hl => HJ.out l (by omega)))
     subst hje
     go_wp2
     exact ⟨⟨k + 1, by omega, by go_num, toHidW trivial, HNX⟩, by simp [intOf]; omega⟩
  ·exfalso
   obtain ⟨i, l, h1, h2, h3, h4⟩ := HEX.out
   exact HN.out i (by omega) l h2 ⟨h3, h4⟩
end Go.Proofs.YtibpkhmiahamcaaGreat
