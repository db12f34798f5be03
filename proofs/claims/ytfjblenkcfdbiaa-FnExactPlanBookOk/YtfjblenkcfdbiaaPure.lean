
/-
  Plain facts, no Go in sight: what a name is, when a base is ok, sizes; what it is that a slice of kinds or points lies in memory.
-/
import Derived.WalkKit
import Derived.WalkSpells
import Derived.WalkLawsBesides
namespace Go.Proofs.Ytfjblenkcfdbiaa
open Go.RowKit

/-- A kind or a point: a name and two numbers. -/
structure Tri where
  s : ByteArray
  x : Int
  y : Int
/-- v is a slice of these, in w. -/
def TrisAt (w : World) (v : Value) (l : List Tri) : Prop :=
  ∃ a cap, v = .slice a l.length cap ∧ l.length ≤ cap ∧ cap ≤ maxLen ∧ ∀ i t, l[i]? = some t → ∃ b off, a = some ⟨b, off, none⟩ ∧
    w.cell? ⟨b, off + i * 3, none⟩ = some (.string t.s) ∧ w.cell? ⟨b, off + i * 3 + 1, none⟩ = some (.int .i64 t.x) ∧ w.cell? ⟨b, off + i * 3 + 2, none⟩ = some (.int .i64 t.y)

theorem lt_of_cell {w : World} {b o : Nat} {v : Value} (h : w.cell? ⟨b, o, none⟩ = some v) : b < w.heap.size := by
  by_cases hb : b < w.heap.size
  · exact hb
  · exfalso
    have hn : w.heap[b]? = none := by simp; omega
    simp [World.cell?, hn] at h

theorem cell_keep {w w' : World} {B b o : Nat} {v : Value} (hb : Below B w w') (hB : w.heap.size ≤ B) (h : w.cell? ⟨b, o, none⟩ = some v) : w'.cell? ⟨b, o, none⟩ = some v := by
  rw [hb.cell (p := ⟨b, o, none⟩) (Nat.lt_of_lt_of_le (lt_of_cell h) hB)]; exact h

theorem TrisAt.keep {w w' : World} {v : Value} {l : List Tri} (h : TrisAt w v l) (hb : Below w.heap.size w w') : TrisAt w' v l := by
  obtain ⟨a, cap, rfl, h1, h2, h3⟩ := h
  refine ⟨a, cap, rfl, h1, h2, fun i t ht => ?_⟩
  obtain ⟨b, off, ha, c0, c1, c2⟩ := h3 i t ht
  exact ⟨b, off, ha, cell_keep hb (Nat.le_refl _) c0, cell_keep hb (Nat.le_refl _) c1, cell_keep hb (Nat.le_refl _) c2⟩

/-- One behind the other. -/
theorem below_step {w w1 w2 : World} (h : Below w.heap.size w w1) (k : Below w1.heap.size w1 w2) : Below w.heap.size w w2 :=
  h.trans (k.mono h.size)

def sumS : List Tri → Nat
  | [] => 0
  | t :: r => t.s.size + sumS r
theorem sumS_append (l r : List Tri) : sumS (l ++ r) = sumS l + sumS r := by
  induction l with
  | nil => simp [sumS]
  | cons a l ih => simp [sumS, ih]; omega
theorem sumS_take_succ (l : List Tri) (k : Nat) (h : k < l.length) : sumS (l.take (k + 1)) = sumS (l.take k) + (l[k]).s.size := by
  rw [List.take_succ_eq_append_getElem h, sumS_append]; simp [sumS]
theorem sumS_take_le (l : List Tri) (k : Nat) : sumS (l.take k) ≤ sumS l := by
  conv => rhs; rw [← List.take_append_drop k l, sumS_append]
  omega
/-- What a list of these takes off. -/
def szTris (l : List Tri) : Nat := l.length + sumS l

/-- What is left; -1, if it is not enough. -/
def szR (tot : Nat) (left : Int) : Int := if (tot : Int) ≤ left then left - tot else -1
theorem szR_pos {tot : Nat} {left : Int} (h : (tot : Int) ≤ left) : szR tot left = left - tot := if_pos h
theorem szR_neg {tot : Nat} {left : Int} (h : ¬ (tot : Int) ≤ left) : szR tot left = -1 := if_neg h
theorem szR_le (tot : Nat) (left : Int) (h : 0 ≤ left) : szR tot left ≤ left ∧ -1 ≤ szR tot left := by
  unfold szR; split <;> omega

def inB (n lo hi : Int) : Bool := decide (lo ≤ n) && decide (n ≤ hi)
def chB (c : Int) : Bool := (decide (97 ≤ c) && decide (c ≤ 122)) || ((decide (48 ≤ c) && decide (c ≤ 57)) || decide (c = 45))
def charsB (s : ByteArray) : Bool := s.data.toList.all fun c => chB c.toNat
def nameB (s : ByteArray) : Bool := inB s.size 1 8 && charsB s
def geB (s t : ByteArray) : Bool := !Op.bytesLess s.toList t.toList

theorem charsB_true {s : ByteArray} (h : ∀ k (hk : k < s.size), chB (s[k].toNat) = true) : charsB s = true := by
  unfold charsB
  rw [List.all_eq_true]
  intro c hc
  obtain ⟨k, hk, rfl⟩ := List.getElem_of_mem hc
  exact h k (by simpa using hk)
theorem charsB_false {s : ByteArray} {k : Nat} (hk : k < s.size) (h : chB (s[k].toNat) = false) : charsB s = false := by
  unfold charsB
  rw [List.all_eq_false]
  exact ⟨s[k], by simp [ByteArray.getElem_eq_getElem_data], by simp [h]⟩

def allB (n : Nat) (P : Nat → Bool) : Bool := (List.range n).all P
theorem allB_true {n : Nat} {P : Nat → Bool} (h : ∀ j, j < n → P j = true) : allB n P = true := by
  simp [allB]; exact h
theorem allB_false {n : Nat} {P : Nat → Bool} {j : Nat} (hj : j < n) (h : P j = false) : allB n P = false := by
  simp [allB]; exact ⟨j, hj, h⟩
theorem allB_get {n : Nat} {P : Nat → Bool} (h : allB n P = true) : ∀ j, j < n → P j = true := by
  simpa [allB] using h
theorem allB_and (n : Nat) (P Q : Nat → Bool) : allB n (fun j => P j && Q j) = (allB n P && allB n Q) := by
  rw [Bool.eq_iff_iff]; simp [allB]
  exact ⟨fun h => ⟨fun j hj => (h j hj).1, fun j hj => (h j hj).2⟩, fun h j hj => ⟨h.1 j hj, h.2 j hj⟩⟩
theorem allB_congr {n : Nat} {P Q : Nat → Bool} (h : ∀ j, j < n → P j = Q j) : allB n P = allB n Q := by
  rw [Bool.eq_iff_iff]; simp [allB]
  exact ⟨fun k j hj => (h j hj) ▸ k j hj, fun k j hj => (h j hj).symm ▸ k j hj⟩

/-- The element at a place; something there, wherever. -/
def at' (l : List Tri) (i : Nat) : Tri := l.getD i ⟨ByteArray.empty, 0, 0⟩
theorem at_get {l : List Tri} {i : Nat} (h : i < l.length) : l[i]? = some (at' l i) := by
  simp [at', h]

/-- It stands behind the one ahead of it. -/
def ascB (l : List Tri) (i : Nat) : Bool := !(decide (0 < i) && geB (at' l (i - 1)).s (at' l i).s)
def paceB (t : Tri) : Bool := decide (1 ≤ t.x) && (decide (t.x ≤ t.y) && decide (t.y ≤ 50))
def insideB (t : Tri) : Bool := inB t.x 0 15 && inB t.y 0 15
def sameB (t u : Tri) : Bool := decide (t.x = u.x) && decide (t.y = u.y)
def takenB (l : List Tri) (i : Nat) (t : Tri) : Bool := !allB i fun k => !sameB (at' l k) t

def namesB (l : List Tri) (most : Nat) : Bool := decide (l.length ≤ most) && allB l.length fun i => nameB (at' l i).s && ascB l i
def kindsB (l : List Tri) : Bool := namesB l 6 && allB l.length fun i => paceB (at' l i)
def pointsB (l : List Tri) : Bool := namesB l 16 && allB l.length fun i => insideB (at' l i) && !takenB l i (at' l i)

def kindOkB (t : Tri) : Bool := nameB t.s && paceB t
def pointOkB (t : Tri) : Bool := nameB t.s && insideB t

/-- The specification's way through a base comes to the same. -/
theorem kindsB_eq (l : List Tri) : kindsB l = (decide (l.length ≤ 6) && allB l.length fun i => kindOkB (at' l i) && ascB l i) := by
  unfold kindsB namesB
  rw [Bool.and_assoc, ← allB_and]
  congr 1
  refine allB_congr fun j _ => ?_
  unfold kindOkB
  cases nameB (at' l j).s <;> cases ascB l j <;> cases paceB (at' l j) <;> rfl
theorem pointsB_eq (l : List Tri) : pointsB l = (decide (l.length ≤ 16) && allB l.length fun i => (pointOkB (at' l i) && ascB l i) && allB i fun k => !sameB (at' l k) (at' l i)) := by
  unfold pointsB namesB
  rw [Bool.and_assoc, ← allB_and]
  congr 1
  refine allB_congr fun j _ => ?_
  unfold pointOkB takenB
  cases nameB (at' l j).s <;> cases ascB l j <;> cases insideB (at' l j) <;> simp
end Go.Proofs.Ytfjblenkcfdbiaa
