import Derived.Test.YtcmgddnckohdaaaGreatDoorTakeS
import Derived.Test.YtcmgddnckohdaaaGreatDoorNm1
set_option linter.unusedSimpArgs false
set_option linter.unusedVariables false
namespace Go.Proofs.YtcmgddnckohdaaaGreatDoor
open Go.RowKit
theorem putF_lenM (fs : List Fld) (f : Fld) : (putF fs f).length ≤ fs.length + 1 := by
 induction fs with
 | nil => simp [putF]
 | cons g l ih =>
  rw [putF]
  split
  ·simp; omega
  ·split
   ·split <;> simp
   ·simp
theorem putE_fsM {es : List Ent} (n : ByteArray) (f : Fld) (M : Nat) (h : ∀ e ∈ es, e.fs.length ≤ M) : ∀ e ∈ putE es n f, e.fs.length ≤ M + 1 := by
 induction es with
 | nil => intro e he; simp [putE] at he; subst he; simp
 | cons x es ih =>
  intro e he
  rw [putE] at he
  split at he
  ·rcases List.mem_cons.1 he with rfl | he
   ·have := putF_lenM x.fs f
    have := h x (by simp)
    show (putF x.fs f).length ≤ _
    omega
   ·have := h e (by simp [he]); omega
  ·split at he
   ·rcases List.mem_cons.1 he with rfl | he
    ·have := h e (by simp); omega
    ·exact ih (fun e he => h e (by simp [he])) e he
   ·rcases List.mem_cons.1 he with rfl | he
    ·simp
    ·have := h e he; omega
open Go.RowKit
abbrev Bx := Nat × Array Value × TypeId
structure Bxs (w wr : World) (bs : List Bx) : Prop where
 below : Below w.heap.size w wr
 has : ∀ p ∈ bs, wr.heap[p.1]? = some (.cells p.2.1 p.2.2 (0, 0))
theorem Bxs.lt {w wr : World} {bs : List Bx} (h : Bxs w wr bs) {p : Bx} (hp : p ∈ bs) : p.1 < wr.heap.size := (Array.getElem?_eq_some_iff.1 (h.has p hp)).1
theorem Bxs.call {w wr wy : World} {bs : List Bx} (h : Bxs w wr bs) (hb : Below wr.heap.size wr wy) : Bxs w wy bs := ⟨below_step h.below hb, fun p hp => (hb.block _ (h.lt hp)).trans (h.has p hp)⟩
theorem Bxs.drew {w wr : World} {bs : List Bx} (h : Bxs w wr bs) : Bxs w wr.drew bs := ⟨h.below.drew, h.has⟩
theorem Bxs.push {w wr : World} {bs : List Bx} (h : Bxs w wr bs) {X : Nat} {C : Array Value} {T : TypeId} (hX : wr.heap[X]? = some (.cells C T (0, 0))) : Bxs w wr ((X, C, T) :: bs) :=
 ⟨h.below, fun p hp => by
  rcases List.mem_cons.1 hp with rfl | hp
  ·exact hX
  ·exact h.has p hp⟩
theorem Bxs.cell {w wr : World} {bs : List Bx} (h : Bxs w wr bs) (i : Nat) {X : Nat} {C : Array Value} {T : TypeId} (hi : bs[i]? = some (X, C, T)) (j : Nat) : wr.cell? ⟨X, j, none⟩ = C[j]? := by
 have := h.has _ (List.mem_of_getElem? hi)
 dsimp only at this
 simp [World.cell?, this]
theorem BookNew.lt {lo : Nat} {w : World} {x y z : Value} {ks ps : List Tri} {es : List Ent} (h : BookNew lo w x y z ks ps es) {w' : World} (hs : ∀ k, lo ≤ k → k < w.heap.size → w'.heap[k]? = w.heap[k]?) : BookNew lo w' x y z ks ps es := by
 obtain ⟨h1, h2, l, h3, h4⟩ := h
 have go : ∀ {e : TypeId} {c : Nat} {v : Value} {n : Nat} {xs : List Value}, w.ownsRow lo e c v n xs → w'.ownsRow lo e c v n xs := fun h => ownsRow_sameM h (fun k hk hl => hs k (own_ge h k hk) hl)
 exact ⟨go h1, go h2, l, h3, go h4.row, fun p hp => go (h4.flds p hp), h4.apart⟩
theorem sumN_le_mul {α : Type} (g : α → Nat) (M : Nat) : ∀ l : List α, (∀ a ∈ l, g a ≤ M) → sumN g l ≤ l.length * M
 | [], _ => by simp [sumN]
 | a :: l, h => by
  have h1 := h a (by simp)
  have h2 := sumN_le_mul g M l (fun b hb => h b (by simp [hb]))
  simp only [sumN, List.length_cons, Nat.succ_mul]
  omega
open Go.RowKit
abbrev Bk := List Tri × List Tri × List Ent
def stepBk (b : Bk) (c : Chg) : Bk := (takeT b.1 b.2.1 b.2.2 b.1, takeT b.1 b.2.1 b.2.2 b.2.1, takeE b.1 b.2.1 b.2.2 c)
structure SmB (b : Bk) : Prop where
 n : BNames b.1 b.2.1 b.2.2
 s : BSmall b.1 b.2.1 b.2.2
 u : sumN (fun e => e.fs.length) b.2.2 ≤ 1048576
theorem putF_mem {fs : List Fld} {f x : Fld} (h : x ∈ putF fs f) : x = f ∨ x ∈ fs := by
 induction fs with
 | nil => simp [putF] at h; exact .inl h
 | cons g l ih =>
  rw [putF] at h
  split at h
  ·rcases List.mem_cons.1 h with rfl | h
   ·exact .inr (by simp)
   ·rcases ih h with h | h
    ·exact .inl h
    ·exact .inr (by simp [h])
  ·split at h
   ·split at h
    ·rcases List.mem_cons.1 h with rfl | h
     ·exact .inl rfl
     ·exact .inr (by simp [h])
    ·exact .inr h
   ·rcases List.mem_cons.1 h with rfl | h
    ·exact .inl rfl
    ·exact .inr h
theorem putE_all {es : List Ent} (n : ByteArray) (f : Fld) {P : ByteArray → Prop} {Q : Fld → Prop} (h : ∀ e ∈ es, P e.name ∧ ∀ x ∈ e.fs, Q x) (hn : P n) (hf : Q f) : ∀ e ∈ putE es n f, P e.name ∧ ∀ x ∈ e.fs, Q x := by
 induction es with
 | nil => intro e he; simp [putE] at he; subst he; exact ⟨hn, fun x hx => by simp at hx; subst hx; exact hf⟩
 | cons y es ih =>
  intro e he
  rw [putE] at he
  split at he
  ·rcases List.mem_cons.1 he with rfl | he
   ·refine ⟨(h y (by simp)).1, fun x hx => ?_⟩
    rcases putF_mem hx with rfl | hx
    ·exact hf
    ·exact (h y (by simp)).2 x hx
   ·exact h e (by simp [he])
  ·split at he
   ·rcases List.mem_cons.1 he with rfl | he
    ·exact h e (by simp)
    ·exact ih (fun e he => h e (by simp [he])) e he
   ·rcases List.mem_cons.1 he with rfl | he
    ·exact ⟨hn, fun x hx => by simp at hx; subst hx; exact hf⟩
    ·exact h e he
theorem takeE_all (ks ps : List Tri) (es : List Ent) (c : Chg) {P : ByteArray → Prop} {Q : Fld → Prop} (h : ∀ e ∈ es, P e.name ∧ ∀ x ∈ e.fs, Q x) (hn : P c.f) (hf : Q (fldC c)) : ∀ e ∈ takeE ks ps es c, P e.name ∧ ∀ x ∈ e.fs, Q x := by
 unfold takeE
 cases bookB ks ps es
 ·intro e he; cases he
 ·cases fitB ks ps c
  ·exact h
  ·cases decide (12 < (putE es c.f (fldC c)).length)
   ·exact putE_all c.f (fldC c) h hn hf
   ·exact h
theorem takeT_mem {ks ps : List Tri} {es : List Ent} {l : List Tri} {t : Tri} (h : t ∈ takeT ks ps es l) : t ∈ l := by
 unfold takeT at h
 cases hb : bookB ks ps es
 ·rw [hb] at h; cases h
 ·rw [hb] at h; exact h
theorem takeE_fs (ks ps : List Tri) (es : List Ent) (c : Chg) (h : ∀ e ∈ es, e.fs.length ≤ 1048576) : ∀ e ∈ takeE ks ps es c, e.fs.length ≤ 1048576 := by
 unfold takeE
 cases hb : bookB ks ps es
 ·intro e he; cases he
 ·cases fitB ks ps c
  ·exact h
  ·cases decide (12 < (putE es c.f (fldC c)).length)
   ·intro e he
    have := putE_fsM c.f (fldC c) 5 (book_fs5 hb) e he
    omega
   ·exact h
theorem takeE_len13 (ks ps : List Tri) (es : List Ent) (c : Chg) : (takeE ks ps es c).length ≤ 13 ∧ sumN (fun e => e.fs.length) (takeE ks ps es c) ≤ 1048576 := by
 have go : ∀ l : List Ent, l.length ≤ 13 → (∀ e ∈ l, e.fs.length ≤ 6) → l.length ≤ 13 ∧ sumN (fun e => e.fs.length) l ≤ 1048576 := fun l h1 h2 => by
  have := sumN_le_mul (fun e : Ent => e.fs.length) 6 l h2
  have := Nat.mul_le_mul_right 6 h1
  exact ⟨h1, by omega⟩
 unfold takeE
 cases hb : bookB ks ps es
 ·exact go [] (by simp) (fun e he => by cases he)
 ·have h12 := book_len hb
  have h5 := book_fs5 hb
  have hes := go es (by omega) (fun e he => by have := h5 e he; omega)
  have hput := go (putE es c.f (fldC c)) (by rw [putE_len c.f (fldC c) (book_names hb)]; split <;> omega) (fun e he => putE_fsM c.f (fldC c) 5 h5 e he)
  cases fitB ks ps c
  ·exact hes
  ·cases decide (12 < (putE es c.f (fldC c)).length)
   ·exact hput
   ·exact hes
theorem takeT_len (ks ps : List Tri) (es : List Ent) (l : List Tri) : (takeT ks ps es l).length ≤ l.length := by
 unfold takeT
 cases bookB ks ps es
 ·simp
 ·exact Nat.le_refl _
theorem SmB.step {b : Bk} {c : Chg} (h : SmB b) (hf : c.f.size ≤ 1048576) (hv : c.v.size ≤ 1048576) : SmB (stepBk b c) := by
 obtain ⟨ks, ps, es⟩ := b
 have h13 := takeE_len13 ks ps es c
 have hall := takeE_all ks ps es c (P := fun n => n.size ≤ 1048576) (Q := fun f => f.v.size ≤ 1048576) (fun e he => ⟨h.s.n e he, h.s.v e he⟩) hf hv
 have hall2 := takeE_all ks ps es c (P := fun n => n.size ≤ maxLen) (Q := fun f => f.v.size ≤ maxLen) (fun e he => ⟨(h.n.e e he).1, (h.n.e e he).2⟩) (by unfold maxLen; omega) (by show c.v.size ≤ _; unfold maxLen; omega)
 refine ⟨⟨fun t ht => h.n.k t (takeT_mem ht), fun t ht => h.n.p t (takeT_mem ht), fun e he => ⟨(hall2 e he).1, (hall2 e he).2⟩⟩, ⟨Nat.le_trans (takeT_len _ _ _ _) h.s.k, Nat.le_trans (takeT_len _ _ _ _) h.s.p, ?_, takeE_fs ks ps es c h.s.f, fun e he => (hall e he).1, fun e he => (hall e he).2⟩, h13.2⟩
 show (takeE ks ps es c).length ≤ 1048576
 omega
open Go.RowKit
def numW (s : ByteArray) : Int := bif decB s then (numTo s s.size : Int) else -1
def triW (ws : List ByteArray) : Tri := ⟨wat ws 1, numW (wat ws 2), numW (wat ws 3)⟩
def insT (l : List Tri) (i : Nat) (t : Tri) : List Tri := l.take i ++ t :: l.drop i
def kindC (ks : List Tri) (ws : List ByteArray) : Int :=
 bif decide (ws.length = 4) && (nameB (triW ws).s && paceB (triW ws)) then
  (bif hasB ks (triW ws).s then 4 else bif decide (6 ≤ ks.length) then 6 else 0)
 else 3
def anyCell (ps : List Tri) (t : Tri) : Bool := ps.any fun p => decide (p.x = t.x) && decide (p.y = t.y)
def pointC (ps : List Tri) (ws : List ByteArray) : Int :=
 bif decide (ws.length = 4) && (nameB (triW ws).s && insideB (triW ws)) then
  (bif hasB ps (triW ws).s then 4 else bif anyCell ps (triW ws) then 5 else bif decide (16 ≤ ps.length) then 6 else 0)
 else 3
def setC (b : Bk) (r : Chg × Bool) : Int :=
 bif r.2 then (if takeC b.1 b.2.1 b.2.2 r.1 = 2 then 7 else if takeC b.1 b.2.1 b.2.2 r.1 = 3 then 6 else 0) else 3
def kindS : ByteArray := ⟨#[107, 105, 110, 100]⟩
def pointS : ByteArray := ⟨#[112, 111, 105, 110, 116]⟩
def setS : ByteArray := ⟨#[115, 101, 116]⟩
def lineC (rd : ByteArray → Chg × Bool) (b : Bk) (l : ByteArray) : Int :=
 if wat (cutW l) 0 = kindS then kindC b.1 (cutW l) else if wat (cutW l) 0 = pointS then pointC b.2.1 (cutW l) else if wat (cutW l) 0 = setS then setC b (rd l) else 2
def lineB (rd : ByteArray → Chg × Bool) (b : Bk) (l : ByteArray) : Bk :=
 if wat (cutW l) 0 = kindS then (insT b.1 (plc b.1 (triW (cutW l)).s) (triW (cutW l)), b.2.1, b.2.2)
 else if wat (cutW l) 0 = pointS then (b.1, insT b.2.1 (plc b.2.1 (triW (cutW l)).s) (triW (cutW l)), b.2.2)
 else (takeT b.1 b.2.1 b.2.2 b.1, takeT b.1 b.2.1 b.2.2 b.2.1, takeE b.1 b.2.1 b.2.2 (rd l).1)
def parseL (rd : ByteArray → Chg × Bool) : Bk → Nat → List ByteArray → Bk × Nat × Int
 | b, _, [] => (b, 0, 0)
 | b, i, l :: r => if lineC rd b l = 0 then parseL rd (lineB rd b l) (i + 1) r else (([], [], []), i + 1, lineC rd b l)
theorem parseL_hit {rd : ByteArray → Chg × Bool} {b : Bk} {i : Nat} {l : ByteArray} {r : List ByteArray} (h : lineC rd b l = 0) : parseL rd b i (l :: r) = parseL rd (lineB rd b l) (i + 1) r := by
 rw [parseL, if_pos h]
theorem parseL_bad {rd : ByteArray → Chg × Bool} {b : Bk} {i : Nat} {l : ByteArray} {r : List ByteArray} (h : lineC rd b l ≠ 0) : parseL rd b i (l :: r) = (([], [], []), i + 1, lineC rd b l) := by
 rw [parseL, if_neg h]
open Go.RowKit
theorem at_idx {l : List Tri} {i : Nat} (h : i < l.length) : at' l i = l[i] := by simp [at', h]
theorem names_iff (l : List Tri) (m : Nat) : namesB l m = true ↔ l.length ≤ m ∧ (∀ t ∈ l, nameB t.s = true) ∧ l.Pairwise fun a b => blS a.s b.s = true := by
 constructor
 ·intro h
  have ha := names_asc h
  unfold namesB at h
  simp only [Bool.and_eq_true, decide_eq_true_eq, allB, List.all_eq_true, List.mem_range] at h
  refine ⟨h.1, fun t ht => ?_, ?_⟩
  ·obtain ⟨i, hi, rfl⟩ := List.getElem_of_mem ht
   have := (h.2 i hi).1
   rwa [at_idx hi] at this
  ·rw [List.pairwise_iff_getElem]
   intro i j hi hj hij
   have := asc_lt ha i j hij hj
   rwa [at_idx hi, at_idx hj] at this
 ·rintro ⟨h1, h2, h3⟩
  unfold namesB
  simp only [Bool.and_eq_true, decide_eq_true_eq, allB, List.all_eq_true, List.mem_range]
  refine ⟨h1, fun i hi => ⟨by rw [at_idx hi]; exact h2 _ (List.getElem_mem hi), ?_⟩⟩
  unfold ascB
  by_cases h0 : 0 < i
  ·have := List.pairwise_iff_getElem.1 h3 (i - 1) i (by omega) hi (by omega)
   rw [at_idx hi, at_idx (by omega), geB_bl, this]
   simp
  ·simp [h0]
theorem kinds_iff (l : List Tri) : kindsB l = true ↔ l.length ≤ 6 ∧ (∀ t ∈ l, nameB t.s = true ∧ paceB t = true) ∧ l.Pairwise fun a b => blS a.s b.s = true := by
 unfold kindsB
 rw [Bool.and_eq_true, names_iff]
 simp only [allB, List.all_eq_true, List.mem_range]
 constructor
 ·rintro ⟨⟨h1, h2, h3⟩, h4⟩
  refine ⟨h1, fun t ht => ⟨h2 t ht, ?_⟩, h3⟩
  obtain ⟨i, hi, rfl⟩ := List.getElem_of_mem ht
  have := h4 i hi
  rwa [at_idx hi] at this
 ·rintro ⟨h1, h2, h3⟩
  exact ⟨⟨h1, fun t ht => (h2 t ht).1, h3⟩, fun i hi => by rw [at_idx hi]; exact (h2 _ (List.getElem_mem hi)).2⟩
theorem sameB_comm (a b : Tri) : sameB a b = sameB b a := by unfold sameB; rw [Bool.eq_iff_iff]; simp; constructor <;> (rintro ⟨h, k⟩; exact ⟨h.symm, k.symm⟩)
theorem points_iff (l : List Tri) : pointsB l = true ↔ l.length ≤ 16 ∧ (∀ t ∈ l, nameB t.s = true ∧ insideB t = true) ∧ (l.Pairwise fun a b => blS a.s b.s = true) ∧ l.Pairwise fun a b => sameB a b = false := by
 unfold pointsB
 rw [Bool.and_eq_true, names_iff]
 simp only [takenB, allB, List.all_eq_true, List.mem_range, Bool.and_eq_true, Bool.not_not]
 constructor
 ·rintro ⟨⟨h1, h2, h3⟩, h4⟩
  refine ⟨h1, fun t ht => ⟨h2 t ht, ?_⟩, h3, ?_⟩
  ·obtain ⟨i, hi, rfl⟩ := List.getElem_of_mem ht
   have := (h4 i hi).1
   rwa [at_idx hi] at this
  ·rw [List.pairwise_iff_getElem]
   intro i j hi hj hij
   have := (h4 j hj).2 i hij
   rw [at_idx hi, at_idx hj] at this
   simpa using this
 ·rintro ⟨h1, h2, h3, h5⟩
  refine ⟨⟨h1, fun t ht => (h2 t ht).1, h3⟩, fun i hi => ⟨by rw [at_idx hi]; exact (h2 _ (List.getElem_mem hi)).2, fun j hj => ?_⟩⟩
  have := List.pairwise_iff_getElem.1 h5 j i (by omega) hi hj
  rw [at_idx hi, at_idx (by omega), this]
  rfl
theorem mem_ins {l : List Tri} {i : Nat} {t y : Tri} : y ∈ insT l i t ↔ y = t ∨ y ∈ l := by
 have : y ∈ l ↔ y ∈ l.take i ∨ y ∈ l.drop i := by rw [← List.mem_append, List.take_append_drop]
 unfold insT
 rw [this]
 simp only [List.mem_append, List.mem_cons]
 constructor
 ·rintro (h | h | h) <;> simp [h]
 ·rintro (h | h | h) <;> simp [h]
theorem ins_perm (l : List Tri) (i : Nat) (t : Tri) : (insT l i t).Perm (t :: l) := by
 unfold insT
 refine List.perm_middle.trans ?_
 rw [List.take_append_drop]
theorem ins_len (l : List Tri) (i : Nat) (t : Tri) : (insT l i t).length = l.length + 1 := (ins_perm l i t).length_eq
theorem plc_le (l : List Tri) (v : ByteArray) : plc l v ≤ l.length := List.findIdx_le_length
theorem ins_cons (x t : Tri) (r : List Tri) (v : ByteArray) : insT (x :: r) (plc (x :: r) v) t = if geB x.s v = true then t :: x :: r else x :: insT r (plc r v) t := by
 unfold insT plc
 rw [List.findIdx_cons]
 cases geB x.s v <;> simp
theorem mem_names {l : List Tri} {v : ByteArray} : memB l v = true ↔ ∃ t ∈ l, t.s = v := by
 constructor
 ·intro h
  unfold memB at h
  simp only [allB, Bool.not_eq_true', List.all_eq_false, List.mem_range] at h
  obtain ⟨i, hi, h⟩ := h
  rw [at_idx hi] at h
  exact ⟨_, List.getElem_mem hi, by simpa using h⟩
 ·rintro ⟨t, ht, rfl⟩
  obtain ⟨i, hi, rfl⟩ := List.getElem_of_mem ht
  exact memB_true hi (by rw [at_idx hi])
theorem sorted_asc {l : List Tri} (h : l.Pairwise fun a b => blS a.s b.s = true) : ∀ i, i < l.length → ascB l i = true := fun i hi => by
 unfold ascB
 by_cases h0 : 0 < i
 ·have := List.pairwise_iff_getElem.1 h (i - 1) i (by omega) hi (by omega)
  rw [at_idx hi, at_idx (by omega), geB_bl, this]
  simp
 ·simp [h0]
theorem has_iff {l : List Tri} (h : l.Pairwise fun a b => blS a.s b.s = true) (v : ByteArray) : hasB l v = true ↔ ∃ t ∈ l, t.s = v := by
 rw [has_mem (sorted_asc h), mem_names]
theorem ins_sorted : ∀ {l : List Tri} {t : Tri}, (l.Pairwise fun a b => blS a.s b.s = true) → (∀ x ∈ l, x.s ≠ t.s) → (insT l (plc l t.s) t).Pairwise fun a b => blS a.s b.s = true
 | [], t, _, _ => by simp [insT, plc]
 | x :: r, t, h, hn => by
  rw [ins_cons]
  have hx := List.pairwise_cons.1 h
  split
  ·rename_i hg
   have h1 : blS t.s x.s = true := by
    rw [geB_bl] at hg
    cases h2 : blS t.s x.s
    ·exact absurd (blS_total (by simpa using hg) h2) (hn x (by simp))
    ·rfl
   refine List.pairwise_cons.2 ⟨fun y hy => ?_, h⟩
   rcases List.mem_cons.1 hy with rfl | hy
   ·exact h1
   ·exact blS_trans h1 (hx.1 y hy)
  ·rename_i hg
   refine List.pairwise_cons.2 ⟨fun y hy => ?_, ins_sorted hx.2 (fun y hy => hn y (by simp [hy]))⟩
   rcases mem_ins.1 hy with rfl | hy
   ·rw [geB_bl] at hg
    simpa using hg
   ·exact hx.1 y hy
theorem any_taken (l : List Tri) (t : Tri) : takenB l l.length t = anyCell l t := by
 rw [Bool.eq_iff_iff]
 unfold takenB anyCell
 simp only [allB, Bool.not_eq_true', List.all_eq_false, List.mem_range, List.any_eq_true]
 constructor
 ·rintro ⟨i, hi, h⟩
  rw [at_idx hi] at h
  refine ⟨_, List.getElem_mem hi, ?_⟩
  simpa [sameB] using h
 ·rintro ⟨p, hp, h⟩
  obtain ⟨i, hi, rfl⟩ := List.getElem_of_mem hp
  refine ⟨i, hi, ?_⟩
  rw [at_idx hi]
  simpa [sameB] using h
theorem kindC_zero {ks : List Tri} {ws : List ByteArray} (h : kindC ks ws = 0) : ws.length = 4 ∧ nameB (triW ws).s = true ∧ paceB (triW ws) = true ∧ hasB ks (triW ws).s = false ∧ ks.length < 6 := by
 unfold kindC at h
 cases h1 : (decide (ws.length = 4) && (nameB (triW ws).s && paceB (triW ws)))
 ·rw [h1] at h; simp at h
 ·rw [h1] at h
  simp only [Bool.and_eq_true, decide_eq_true_eq] at h1
  cases h2 : hasB ks (triW ws).s
  ·rw [h2] at h
   cases h3 : decide (6 ≤ ks.length)
   ·exact ⟨h1.1, h1.2.1, h1.2.2, rfl, by simpa using h3⟩
   ·rw [h3] at h; simp at h
  ·rw [h2] at h; simp at h
theorem pointC_zero {ps : List Tri} {ws : List ByteArray} (h : pointC ps ws = 0) : ws.length = 4 ∧ nameB (triW ws).s = true ∧ insideB (triW ws) = true ∧ hasB ps (triW ws).s = false ∧ anyCell ps (triW ws) = false ∧ ps.length < 16 := by
 unfold pointC at h
 cases h1 : (decide (ws.length = 4) && (nameB (triW ws).s && insideB (triW ws)))
 ·rw [h1] at h; simp at h
 ·rw [h1] at h
  simp only [Bool.and_eq_true, decide_eq_true_eq] at h1
  cases h2 : hasB ps (triW ws).s
  ·rw [h2] at h
   cases h4 : anyCell ps (triW ws)
   ·rw [h4] at h
    cases h3 : decide (16 ≤ ps.length)
    ·exact ⟨h1.1, h1.2.1, h1.2.2, rfl, rfl, by simpa using h3⟩
    ·rw [h3] at h; simp at h
   ·rw [h4] at h; simp at h
  ·rw [h2] at h; simp at h
theorem kinds_ins {ks : List Tri} {t : Tri} (hk : kindsB ks = true) (hl : ks.length < 6) (hn : nameB t.s = true) (hp : paceB t = true) (hh : hasB ks t.s = false) : kindsB (insT ks (plc ks t.s) t) = true := by
 obtain ⟨h1, h2, h3⟩ := (kinds_iff ks).1 hk
 have hno : ∀ x ∈ ks, x.s ≠ t.s := fun x hx e => by
  rw [(has_iff h3 _).2 ⟨x, hx, e⟩] at hh
  cases hh
 refine (kinds_iff _).2 ⟨by rw [ins_len]; omega, fun y hy => ?_, ins_sorted h3 hno⟩
 rcases mem_ins.1 hy with rfl | hy
 ·exact ⟨hn, hp⟩
 ·exact h2 y hy
theorem points_ins {ps : List Tri} {t : Tri} (hk : pointsB ps = true) (hl : ps.length < 16) (hn : nameB t.s = true) (hp : insideB t = true) (hh : hasB ps t.s = false) (ht : anyCell ps t = false) : pointsB (insT ps (plc ps t.s) t) = true := by
 obtain ⟨h1, h2, h3, h4⟩ := (points_iff ps).1 hk
 have hno : ∀ x ∈ ps, x.s ≠ t.s := fun x hx e => by
  rw [(has_iff h3 _).2 ⟨x, hx, e⟩] at hh
  cases hh
 refine (points_iff _).2 ⟨by rw [ins_len]; omega, fun y hy => ?_, ins_sorted h3 hno, ?_⟩
 ·rcases mem_ins.1 hy with rfl | hy
  ·exact ⟨hn, hp⟩
  ·exact h2 y hy
 ·refine ((ins_perm ps _ t).pairwise_iff (fun {a b} h => by rw [sameB_comm]; exact h)).2 (List.pairwise_cons.2 ⟨fun y hy => ?_, h4⟩)
  have := List.any_eq_false.1 ht y hy
  rw [sameB_comm]
  simpa [sameB] using this
theorem named_kind (ws : List ByteArray) (n : ByteArray → Int) (hn : ∀ x, n x = bif decB x then (numTo x x.size : Int) else 0) (M : Nat) (hM : ∀ i, i < ws.length → (wat ws i).size ≤ M) : ∃ (t : Tri) (ok : Bool), (bif decide (ws.length = 4) then Value.tuple #[.string (wat ws 1), .int .i64 (n (wat ws 2)), .int .i64 (n (wat ws 3)), .bool (decB (wat ws 2) && decB (wat ws 3))] else .tuple #[.string ⟨#[]⟩, .int .i64 0, .int .i64 0, .bool false]) = .tuple #[.string t.s, .int .i64 t.x, .int .i64 t.y, .bool ok] ∧ t.s.size ≤ M ∧
  (ok && kindsB [t]) = (decide (ws.length = 4) && (nameB (triW ws).s && paceB (triW ws))) ∧ (ok && pointsB [t]) = (decide (ws.length = 4) && (nameB (triW ws).s && insideB (triW ws))) ∧ (ok = true → t = triW ws) := by
 by_cases h4 : ws.length = 4
 ·refine ⟨⟨wat ws 1, n (wat ws 2), n (wat ws 3)⟩, (decB (wat ws 2) && decB (wat ws 3)), by rw [decide_eq_true h4]; rfl, hM 1 (by omega), ?_, ?_, ?_⟩
  all_goals
   have e2 := hn (wat ws 2)
   have e3 := hn (wat ws 3)
  ·rw [decide_eq_true h4, Bool.true_and]
   have hk1 : kindsB [(⟨wat ws 1, n (wat ws 2), n (wat ws 3)⟩ : Tri)] = (nameB (wat ws 1) && paceB ⟨wat ws 1, n (wat ws 2), n (wat ws 3)⟩) := by
    rw [Bool.eq_iff_iff, kinds_iff]
    simp
   rw [hk1]
   unfold triW numW paceB
   cases h2 : decB (wat ws 2) <;> cases h3 : decB (wat ws 3) <;> rw [h2] at e2 <;> rw [h3] at e3 <;> simp only [e2, e3, cond_true, cond_false, Bool.true_and, Bool.false_and, Bool.and_false]
   ·rw [eq_comm, Bool.and_eq_false_iff]; right; simp
   ·rw [eq_comm, Bool.and_eq_false_iff]; right; simp
   ·rw [eq_comm, Bool.and_eq_false_iff]; right; simp; omega
  ·rw [decide_eq_true h4, Bool.true_and]
   have hk1 : pointsB [(⟨wat ws 1, n (wat ws 2), n (wat ws 3)⟩ : Tri)] = (nameB (wat ws 1) && insideB ⟨wat ws 1, n (wat ws 2), n (wat ws 3)⟩) := by
    rw [Bool.eq_iff_iff, points_iff]
    simp
   rw [hk1]
   unfold triW numW insideB inB
   cases h2 : decB (wat ws 2) <;> cases h3 : decB (wat ws 3) <;> rw [h2] at e2 <;> rw [h3] at e3 <;> simp only [e2, e3, cond_true, cond_false, Bool.true_and, Bool.false_and, Bool.and_false]
   ·rw [eq_comm, Bool.and_eq_false_iff]; right; simp
   ·rw [eq_comm, Bool.and_eq_false_iff]; right; simp
   ·rw [eq_comm, Bool.and_eq_false_iff]; right; simp
  ·intro h
   rw [Bool.and_eq_true] at h
   unfold triW numW
   rw [h.1, h.2, cond_true, cond_true]
   rw [h.1, cond_true] at e2
   rw [h.2, cond_true] at e3
   rw [e2, e3]
 ·refine ⟨⟨⟨#[]⟩, 0, 0⟩, false, by rw [decide_eq_false h4]; rfl, Nat.zero_le _, ?_, ?_, ?_⟩
  ·rw [decide_eq_false h4]; rfl
  ·rw [decide_eq_false h4]; rfl
  ·intro h; cases h
open Go.RowKit
structure Gd (b : Bk) : Prop where
 sm : SmB b
 k : kindsB b.1 = true
 p : pointsB b.2.1 = true
theorem Gd.none : Gd ([], [], []) :=
 ⟨⟨⟨(fun t h => by cases h), (fun t h => by cases h), (fun e h => by cases h)⟩, ⟨by simp, by simp, by simp, (fun e h => by cases h), (fun e h => by cases h), (fun e h => by cases h)⟩, by simp [sumN]⟩, (kinds_iff []).2 ⟨by simp, (fun t h => by cases h), List.Pairwise.nil⟩, (points_iff []).2 ⟨by simp, (fun t h => by cases h), List.Pairwise.nil, List.Pairwise.nil⟩⟩
theorem Gd.klen {b : Bk} (h : Gd b) : b.1.length ≤ 6 := ((kinds_iff _).1 h.k).1
theorem Gd.plen {b : Bk} (h : Gd b) : b.2.1.length ≤ 16 := ((points_iff _).1 h.p).1
theorem Gd.insK {ks ps : List Tri} {es : List Ent} {t : Tri} (h : Gd (ks, ps, es)) (hl : ks.length < 6) (hn : nameB t.s = true) (hp : paceB t = true) (hh : hasB ks t.s = false) (hs : t.s.size ≤ 1048576) : Gd (insT ks (plc ks t.s) t, ps, es) := by
 obtain ⟨⟨⟨n1, n2, n3⟩, ⟨s1, s2, s3, s4, s5, s6⟩, u⟩, k, p⟩ := h
 refine ⟨⟨⟨fun x hx => ?_, n2, n3⟩, ⟨?_, s2, s3, s4, s5, s6⟩, u⟩, kinds_ins k hl hn hp hh, p⟩
 ·rcases mem_ins.1 hx with rfl | hx
  ·unfold maxLen; omega
  ·exact n1 x hx
 ·show (insT ks (plc ks t.s) t).length ≤ 1048576
  rw [ins_len]; omega
theorem Gd.insP {ks ps : List Tri} {es : List Ent} {t : Tri} (h : Gd (ks, ps, es)) (hl : ps.length < 16) (hn : nameB t.s = true) (hp : insideB t = true) (hh : hasB ps t.s = false) (ht : anyCell ps t = false) (hs : t.s.size ≤ 1048576) : Gd (ks, insT ps (plc ps t.s) t, es) := by
 obtain ⟨⟨⟨n1, n2, n3⟩, ⟨s1, s2, s3, s4, s5, s6⟩, u⟩, k, p⟩ := h
 refine ⟨⟨⟨n1, fun x hx => ?_, n3⟩, ⟨s1, ?_, s3, s4, s5, s6⟩, u⟩, k, points_ins p hl hn hp hh ht⟩
 ·rcases mem_ins.1 hx with rfl | hx
  ·unfold maxLen; omega
  ·exact n2 x hx
 ·show (insT ps (plc ps t.s) t).length ≤ 1048576
  rw [ins_len]; omega
theorem Gd.take {ks ps : List Tri} {es : List Ent} {c : Chg} (h : Gd (ks, ps, es)) (hf : c.f.size ≤ 1048576) (hv : c.v.size ≤ 1048576) : Gd (takeT ks ps es ks, takeT ks ps es ps, takeE ks ps es c) := by
 refine ⟨h.sm.step hf hv, ?_, ?_⟩
 ·show kindsB (takeT ks ps es ks) = true
  unfold takeT
  cases bookB ks ps es
  ·exact Gd.none.k
  ·exact h.k
 ·show pointsB (takeT ks ps es ps) = true
  unfold takeT
  cases bookB ks ps es
  ·exact Gd.none.p
  ·exact h.p
theorem Gd.line {rd : ByteArray → Chg × Bool} {b : Bk} {l : ByteArray} (h : Gd b) (hl : l.size ≤ 1048576) (hr : (rd l).1.f.size ≤ l.size ∧ (rd l).1.v.size ≤ l.size) (h0 : lineC rd b l = 0) : Gd (lineB rd b l) := by
 obtain ⟨ks, ps, es⟩ := b
 unfold lineC at h0
 unfold lineB
 have hz : ∀ i, i < (cutW l).length → (wat (cutW l) i).size ≤ 1048576 := fun i hi => Nat.le_trans (wat_size hi) hl
 by_cases h1 : wat (cutW l) 0 = kindS
 ·rw [if_pos h1] at h0 ⊢
  obtain ⟨e1, e2, e3, e4, e5⟩ := kindC_zero h0
  exact h.insK e5 e2 e3 e4 (hz 1 (by omega))
 ·rw [if_neg h1] at h0 ⊢
  by_cases h2 : wat (cutW l) 0 = pointS
  ·rw [if_pos h2] at h0 ⊢
   obtain ⟨e1, e2, e3, e4, e5, e6⟩ := pointC_zero h0
   exact h.insP e6 e2 e3 e4 e5 (hz 1 (by omega))
  ·rw [if_neg h2] at h0 ⊢
   exact h.take (by omega) (by omega)
theorem BookNew.kinds {lo n : Nat} {w w' : World} {x y z u : Value} {ks ps l : List Tri} {es : List Ent} (h : BookNew lo w x y z ks ps es) (hlo : lo ≤ w.heap.size) (hb : Below w.heap.size w w') (hu : w'.ownsRow w.heap.size 69 3 u n (triRows l)) (hn : n = l.length) : BookNew lo w' u y z l ps es := by
 obtain ⟨-, h2, h3⟩ := h.keep hb
 subst hn
 exact ⟨own_mono hu hlo, h2, h3⟩
theorem BookNew.points {lo n : Nat} {w w' : World} {x y z u : Value} {ks ps l : List Tri} {es : List Ent} (h : BookNew lo w x y z ks ps es) (hlo : lo ≤ w.heap.size) (hb : Below w.heap.size w w') (hu : w'.ownsRow w.heap.size 72 3 u n (triRows l)) (hn : n = l.length) : BookNew lo w' x u z ks l es := by
 obtain ⟨h1, -, h3⟩ := h.keep hb
 subst hn
 exact ⟨h1, own_mono hu hlo, h3⟩
end Go.Proofs.YtcmgddnckohdaaaGreatDoor
namespace Go.Proofs.YtcmgddnckohdaaaGreatDoor.Tx
open Go.RowKit Go.Proofs.YtcmgddnckohdaaaGreatDoor Go.Proofs.YtcmgddnckohdaaaGreatDoor.Sd
theorem cut_word (s : ByteArray) : (⟨(Lib.cut s.data.toList spS.data.toList).1.toArray⟩ : ByteArray) = wat (cutW s) 0 := by
 have hi : Lib.index s.data.toList spS.data.toList = Lib.indexByte (bytes s) 32 := Lib.index_one _ _
 unfold Lib.cut
 rw [hi]
 rcases first_sp (bytes s) with h | ⟨a, r, hs, h⟩
 ·rw [idx_none _ h, if_neg (by decide)]
  unfold cutW
  rw [cut_none _ _ h]
  simp [wat]
  rfl
 ·rw [hs, idx_some _ _ h, if_pos (by omega)]
  unfold cutW
  rw [hs, cut_some _ _ _ h]
  have e : s.data.toList = a ++ 32 :: r := hs
  simp [wat, e]
def fK : Value := .func (.func 155) #[] #[]
def fP : Value := .func (.func 156) #[] #[]
def fS : Value := .func (.func 157) #[] #[]
open Classical in
noncomputable def elF (v : Value) : Option (DataW Nat × List MemPlace) :=
 if v = fK then some (.lit (.int .i64 1), []) else if v = fP then some (.lit (.int .i64 2), []) else if v = fS then some (.lit (.int .i64 3), []) else some (.lit (.int .i64 0), [])
theorem elF_inv {v : Value} {n : Int} {ps : List MemPlace} (h : elF v = some (.lit (.int .i64 n), ps)) : (n = 1 ∧ v = fK) ∨ (n = 2 ∧ v = fP) ∨ (n = 3 ∧ v = fS) ∨ n = 0 := by
 unfold elF at h
 split at h
 ·rename_i e; simp at h; exact .inl ⟨h.1.symm, e⟩
 ·split at h
  ·rename_i e; simp at h; exact .inr (.inl ⟨h.1.symm, e⟩)
  ·split at h
   ·rename_i e; simp at h; exact .inr (.inr (.inl ⟨h.1.symm, e⟩))
   ·simp at h; exact .inr (.inr (.inr h.1.symm))
end Go.Proofs.YtcmgddnckohdaaaGreatDoor.Tx
namespace Go.Proofs.YtcmgddnckohdaaaGreatDoor.Tx
open Go.RowKit Go.Proofs.YtcmgddnckohdaaaGreatDoor
theorem cell_row3 {w : World} {X : Nat} {T : TypeId} {u1 u2 u3 : Value} {a1 a2 a3 : Option Addr} {n1 n2 n3 c1 c2 c3 : Nat} (hX : w.heap[X]? = some (.cells #[.slice a1 n1 c1, .slice a2 n2 c2, .slice a3 n3 c3] T (0, 0))) (C : Array Value) {b o : Nat} {s : ByteArray} (hc : w.cell? ⟨b, o, none⟩ = some (.string s)) : (w.setRow X C).heap[b]? = w.heap[b]? := by
 refine setRow_other _ _ _ _ (fun e => ?_)
 subst e
 simp only [World.cell?, hX] at hc
 rcases o with - | - | - | o <;> simp at hc
theorem cell_same {w w' : World} {b o : Nat} {u : Value} (hb : w'.heap[b]? = w.heap[b]?) (hc : w.cell? ⟨b, o, none⟩ = some u) : w'.cell? ⟨b, o, none⟩ = some u := by
 rw [World.cell?_of_block (w := w) hb]
 exact hc
theorem TrisAt_str {w w' : World} {v : Value} {l : List Tri} (h : TrisAt w v l) (hs : ∀ b o s, w.cell? ⟨b, o, none⟩ = some (.string s) → w'.heap[b]? = w.heap[b]?) : TrisAt w' v l := by
 obtain ⟨a, cap, rfl, h1, h2, h3⟩ := h
 refine ⟨a, cap, rfl, h1, h2, fun i t ht => ?_⟩
 obtain ⟨b, off, e, d0, d1, d2⟩ := h3 i t ht
 have hb := hs _ _ _ d0
 exact ⟨b, off, e, cell_same hb d0, cell_same hb d1, cell_same hb d2⟩
theorem FldsAt_str {w w' : World} {v : Value} {l : List Fld} (h : FldsAt w v l) (hs : ∀ b o s, w.cell? ⟨b, o, none⟩ = some (.string s) → w'.heap[b]? = w.heap[b]?) : FldsAt w' v l := by
 obtain ⟨a, cap, rfl, h1, h2, h3⟩ := h
 refine ⟨a, cap, rfl, h1, h2, fun i t ht => ?_⟩
 obtain ⟨b, off, e, d0, d1, d2⟩ := h3 i t ht
 have hb := hs _ _ _ d2
 exact ⟨b, off, e, cell_same hb d0, cell_same hb d1, cell_same hb d2⟩
theorem EntsAt_str {w w' : World} {v : Value} {l : List Ent} (h : EntsAt w v l) (hs : ∀ b o s, w.cell? ⟨b, o, none⟩ = some (.string s) → w'.heap[b]? = w.heap[b]?) : EntsAt w' v l := by
 obtain ⟨a, cap, rfl, h1, h2, h3⟩ := h
 refine ⟨a, cap, rfl, h1, h2, fun i t ht => ?_⟩
 obtain ⟨b, off, e, fv, d0, d1, hf⟩ := h3 i t ht
 have hb := hs _ _ _ d0
 exact ⟨b, off, e, fv, cell_same hb d0, cell_same hb d1, FldsAt_str hf hs⟩
theorem BookAt_str {w w' : World} {vk vp ve : Value} {ks ps : List Tri} {es : List Ent} (h : BookAt w vk vp ve ks ps es) (hs : ∀ b o s, w.cell? ⟨b, o, none⟩ = some (.string s) → w'.heap[b]? = w.heap[b]?) : BookAt w' vk vp ve ks ps es :=
 ⟨TrisAt_str h.k hs, TrisAt_str h.p hs, EntsAt_str h.e hs⟩
theorem BookAt_row3 {w : World} {X : Nat} {T : TypeId} {a1 a2 a3 : Option Addr} {n1 n2 n3 c1 c2 c3 : Nat} {vk vp ve : Value} {ks ps : List Tri} {es : List Ent} (h : BookAt w vk vp ve ks ps es) (hX : w.heap[X]? = some (.cells #[.slice a1 n1 c1, .slice a2 n2 c2, .slice a3 n3 c3] T (0, 0))) (C : Array Value) : BookAt (w.setRow X C) vk vp ve ks ps es :=
 BookAt_str h (fun b o s hc => cell_row3 (u1 := .slice none 0 0) (u2 := .slice none 0 0) (u3 := .slice none 0 0) hX C hc)
theorem BookAt_int2 {w : World} {X : Nat} {T : TypeId} {a b : Int} {vk vp ve : Value} {ks ps : List Tri} {es : List Ent} (h : BookAt w vk vp ve ks ps es) (hX : w.heap[X]? = some (.cells #[.int .i64 a, .int .i64 b] T (0, 0))) (C : Array Value) : BookAt (w.setRow X C) vk vp ve ks ps es :=
 BookAt_str h (fun b o s hc => setRow_other _ _ _ _ (fun e => by
  subst e
  simp only [World.cell?, hX] at hc
  rcases o with - | - | o <;> simp at hc))
theorem kindS_list : kindS.toList = [107, 105, 110, 100] := by rw [ByteArray.toList_eq]; rfl
theorem pointS_list : pointS.toList = [112, 111, 105, 110, 116] := by rw [ByteArray.toList_eq]; rfl
theorem setS_list : setS.toList = [115, 101, 116] := by rw [ByteArray.toList_eq]; rfl
end Go.Proofs.YtcmgddnckohdaaaGreatDoor.Tx
