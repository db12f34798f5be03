/-
  For the proof of takeall_holds: part 1 (Pure, App, Leaf, Tri, Slices, Copies).
-/
import Derived.WalkKit
import Derived.WalkSpells
import Derived.WalkLawsBesides
import Derived.Deep.AppendLies
import Derived.Test.YteffdgjoahkdaabGreatRows
import Derived.Lib.OthersKept
import Derived.Deep.MidRow
import Derived.Deep.RegionHeld3
/-
  Plain facts, no Go in sight: what a name is, when a base is ok, sizes; what it is that a slice of kinds or points lies in memory.
-/
namespace Go.Proofs.YteffdgjoahkdaabGreat
open Go.RowKit

/-- A kind or a point: a name and two numbers. -/
structure Tri where
  s : ByteArray
  x : Int
  y : Int
/-- v is a slice of these, in w. -/
def TrisAt (w : World) (v : Value) (l : List Tri) : Prop :=
  ∃ a cap, v = .slice a l.length cap ∧ l.length ≤ cap ∧ cap ≤ maxLen ∧ ∀ i t, l[i]? = some t → ∃ b off, a = some ⟨b, off, none⟩ ∧
    w.cell? ⟨b, off + i * 3, none⟩ = some (.string t.s) ∧ w.cell? ⟨b, off + i * 3 + 1, none⟩ = some (.int .i64 t.x) ∧ w.cell? ⟨b, off + i * 3 + 2, none⟩ = some (.int .i64 t.y)

theorem lt_of_cell {w : World} {b o : Nat} {v : Value} (h : w.cell? ⟨b, o, none⟩ = some v) : b < w.heap.size := by
  by_cases hb : b < w.heap.size
  · exact hb
  · exfalso
    have hn : w.heap[b]? = none := by simp; omega
    simp [World.cell?, hn] at h

theorem cell_keep {w w' : World} {B b o : Nat} {v : Value} (hb : Below B w w') (hB : w.heap.size ≤ B) (h : w.cell? ⟨b, o, none⟩ = some v) : w'.cell? ⟨b, o, none⟩ = some v := by
  rw [hb.cell (p := ⟨b, o, none⟩) (Nat.lt_of_lt_of_le (lt_of_cell h) hB)]; exact h

theorem TrisAt.keep {w w' : World} {v : Value} {l : List Tri} (h : TrisAt w v l) (hb : Below w.heap.size w w') : TrisAt w' v l := by
  obtain ⟨a, cap, rfl, h1, h2, h3⟩ := h
  refine ⟨a, cap, rfl, h1, h2, fun i t ht => ?_⟩
  obtain ⟨b, off, ha, c0, c1, c2⟩ := h3 i t ht
  exact ⟨b, off, ha, cell_keep hb (Nat.le_refl _) c0, cell_keep hb (Nat.le_refl _) c1, cell_keep hb (Nat.le_refl _) c2⟩

/-- One behind the other. -/
theorem below_step {w w1 w2 : World} (h : Below w.heap.size w w1) (k : Below w1.heap.size w1 w2) : Below w.heap.size w w2 :=
  h.trans (k.mono h.size)

def sumS : List Tri → Nat
  | [] => 0
  | t :: r => t.s.size + sumS r
theorem sumS_append (l r : List Tri) : sumS (l ++ r) = sumS l + sumS r := by
  induction l with
  | nil => simp [sumS]
  | cons a l ih => simp [sumS, ih]; omega
theorem sumS_take_succ (l : List Tri) (k : Nat) (h : k < l.length) : sumS (l.take (k + 1)) = sumS (l.take k) + (l[k]).s.size := by
  rw [List.take_succ_eq_append_getElem h, sumS_append]; simp [sumS]
theorem sumS_take_le (l : List Tri) (k : Nat) : sumS (l.take k) ≤ sumS l := by
  conv => rhs; rw [← List.take_append_drop k l, sumS_append]
  omega
/-- What a list of these takes off. -/
def szTris (l : List Tri) : Nat := l.length + sumS l

/-- What is left; -1, if it is not enough. -/
def szR (tot : Nat) (left : Int) : Int := if (tot : Int) ≤ left then left - tot else -1
theorem szR_pos {tot : Nat} {left : Int} (h : (tot : Int) ≤ left) : szR tot left = left - tot := if_pos h
theorem szR_neg {tot : Nat} {left : Int} (h : ¬ (tot : Int) ≤ left) : szR tot left = -1 := if_neg h
theorem szR_le (tot : Nat) (left : Int) (h : 0 ≤ left) : szR tot left ≤ left ∧ -1 ≤ szR tot left := by
  unfold szR; split <;> omega

def inB (n lo hi : Int) : Bool := decide (lo ≤ n) && decide (n ≤ hi)
def chB (c : Int) : Bool := (decide (97 ≤ c) && decide (c ≤ 122)) || ((decide (48 ≤ c) && decide (c ≤ 57)) || decide (c = 45))
def charsB (s : ByteArray) : Bool := s.data.toList.all fun c => chB c.toNat
def nameB (s : ByteArray) : Bool := inB s.size 1 8 && charsB s
def geB (s t : ByteArray) : Bool := !Op.bytesLess s.toList t.toList

theorem charsB_true {s : ByteArray} (h : ∀ k (hk : k < s.size), chB (s[k].toNat) = true) : charsB s = true := by
  unfold charsB
  rw [List.all_eq_true]
  intro c hc
  obtain ⟨k, hk, rfl⟩ := List.getElem_of_mem hc
  exact h k (by simpa using hk)
theorem charsB_false {s : ByteArray} {k : Nat} (hk : k < s.size) (h : chB (s[k].toNat) = false) : charsB s = false := by
  unfold charsB
  rw [List.all_eq_false]
  exact ⟨s[k], by simp [ByteArray.getElem_eq_getElem_data], by simp [h]⟩

def allB (n : Nat) (P : Nat → Bool) : Bool := (List.range n).all P
theorem allB_true {n : Nat} {P : Nat → Bool} (h : ∀ j, j < n → P j = true) : allB n P = true := by
  simp [allB]; exact h
theorem allB_false {n : Nat} {P : Nat → Bool} {j : Nat} (hj : j < n) (h : P j = false) : allB n P = false := by
  simp [allB]; exact ⟨j, hj, h⟩
theorem allB_get {n : Nat} {P : Nat → Bool} (h : allB n P = true) : ∀ j, j < n → P j = true := by
  simpa [allB] using h
theorem allB_and (n : Nat) (P Q : Nat → Bool) : allB n (fun j => P j && Q j) = (allB n P && allB n Q) := by
  rw [Bool.eq_iff_iff]; simp [allB]
  exact ⟨fun h => ⟨fun j hj => (h j hj).1, fun j hj => (h j hj).2⟩, fun h j hj => ⟨h.1 j hj, h.2 j hj⟩⟩
theorem allB_congr {n : Nat} {P Q : Nat → Bool} (h : ∀ j, j < n → P j = Q j) : allB n P = allB n Q := by
  rw [Bool.eq_iff_iff]; simp [allB]
  exact ⟨fun k j hj => (h j hj) ▸ k j hj, fun k j hj => (h j hj).symm ▸ k j hj⟩

/-- The element at a place; something there, wherever. -/
def at' (l : List Tri) (i : Nat) : Tri := l.getD i ⟨ByteArray.empty, 0, 0⟩
theorem at_get {l : List Tri} {i : Nat} (h : i < l.length) : l[i]? = some (at' l i) := by
  simp [at', h]

/-- It stands behind the one ahead of it. -/
def ascB (l : List Tri) (i : Nat) : Bool := !(decide (0 < i) && geB (at' l (i - 1)).s (at' l i).s)
def paceB (t : Tri) : Bool := decide (1 ≤ t.x) && (decide (t.x ≤ t.y) && decide (t.y ≤ 50))
def insideB (t : Tri) : Bool := inB t.x 0 15 && inB t.y 0 15
def sameB (t u : Tri) : Bool := decide (t.x = u.x) && decide (t.y = u.y)
def takenB (l : List Tri) (i : Nat) (t : Tri) : Bool := !allB i fun k => !sameB (at' l k) t

def namesB (l : List Tri) (most : Nat) : Bool := decide (l.length ≤ most) && allB l.length fun i => nameB (at' l i).s && ascB l i
def kindsB (l : List Tri) : Bool := namesB l 6 && allB l.length fun i => paceB (at' l i)
def pointsB (l : List Tri) : Bool := namesB l 16 && allB l.length fun i => insideB (at' l i) && !takenB l i (at' l i)

def kindOkB (t : Tri) : Bool := nameB t.s && paceB t
def pointOkB (t : Tri) : Bool := nameB t.s && insideB t

/-- The specification's way through a base comes to the same. -/
theorem kindsB_eq (l : List Tri) : kindsB l = (decide (l.length ≤ 6) && allB l.length fun i => kindOkB (at' l i) && ascB l i) := by
  unfold kindsB namesB
  rw [Bool.and_assoc, ← allB_and]
  congr 1
  refine allB_congr fun j _ => ?_
  unfold kindOkB
  cases nameB (at' l j).s <;> cases ascB l j <;> cases paceB (at' l j) <;> rfl
theorem pointsB_eq (l : List Tri) : pointsB l = (decide (l.length ≤ 16) && allB l.length fun i => (pointOkB (at' l i) && ascB l i) && allB i fun k => !sameB (at' l k) (at' l i)) := by
  unfold pointsB namesB
  rw [Bool.and_assoc, ← allB_and]
  congr 1
  refine allB_congr fun j _ => ?_
  unfold pointOkB takenB
  cases nameB (at' l j).s <;> cases ascB l j <;> cases insideB (at' l j) <;> simp
end Go.Proofs.YteffdgjoahkdaabGreat

/-
  append of whatever slice (nil too) onto a row of one's own.
-/
namespace Go.Proofs.YteffdgjoahkdaabGreat
open Go.RowKit
set_option linter.unusedSimpArgs false
set_option linter.unusedVariables false

section
variable {P : Program} (w : World)

theorem run_append_any (base : Nat) (t ty e : TypeId) (i : TypeInfo) (z : Value) (size bytes : Nat) (ht : P.underlying t = some (.slice e)) (hi : P.info? e = some i) (hz : i.zero = some z)
    (hsize : i.size = size) (hby : i.bytes = bytes) (hzs : z.cells.size = size) (hsz : 0 < size)
    (v : Value) (n : Nat) (xs : List Value) (hown : w.ownsRow base e size v n xs)
    (ao : Option Addr) (m c : Nat) (news : List Value) (hsrc : m = 0 ∨ ∃ ad, ao = some ad ∧ ∀ j u, news[j]? = some u → w.cell? (ad.add j) = some u) (hl : news.length = m * size) (h1 : ∀ u ∈ news, u.oneCell' = true)
    (h63 : n + m ≤ maxLen) (hbytes : (n + m) * bytes ≤ 140737488355328) (hbase : base ≤ w.heap.size) :
    ∃ v' w', (Builtin.append_ #[t, t] ty #[v, .slice ao m c]).run P w = .ok v' w' ∧ w'.ownsRow base e size v' (n + m) (xs ++ news) ∧ w.grownBy w' v.ownBlock ∧ (v'.ownBlock = v.ownBlock ∨ v'.ownBlock = some w.heap.size) := by
  have hnil : m = 0 → news = [] := fun h0 => List.eq_nil_of_length_eq_zero (by rw [hl, h0, Nat.zero_mul])
  cases ao with
  | some ad =>
    obtain ⟨v', w', h2, h3, h4, _, h5⟩ := run_append_own_at (P := P) w base t ty e i z size bytes ht hi hz hsize hby hzs hsz v n xs hown ad m c news hl (by
      rcases hsrc with h0 | ⟨ad', h0, h⟩
      · rw [hnil h0]; intro j u hu; simp at hu
      · cases h0; exact h) h1 h63 hbytes hbase
    exact ⟨v', w', h2, h3, h4, h5⟩
  | none =>
    rcases hsrc with rfl | ⟨_, h0, _⟩
    · refine ⟨v, w, ?_, by rw [hnil rfl, List.append_nil, Nat.add_zero]; exact hown, ⟨rfl, rfl, rfl, Nat.le_refl _, fun _ _ _ => rfl⟩, .inl rfl⟩
      rcases hown.2 with ⟨rfl, rfl⟩ | ⟨g, cap, cur, rfl, hbg, hg, hnc, hcm, hcs, htake⟩
      · simp [Builtin.append_, run_underlying ht, sizeOf, typeInfo, hi, Builtin.lenOf, Builtin.firstCells, loadCells, loadCellsFrom]
      · simp [Builtin.append_, run_underlying ht, sizeOf, typeInfo, hi, Builtin.lenOf, Builtin.firstCells, loadCells, loadCellsFrom, storeCells, hnc]
    · cases h0

theorem wp_append_any {o : Oper} {a : Act} {K : Act → World → Prop} {Q : Exit → Act → World → Prop} (s x : Operand) (t : TypeId)
    (ho : o.op = .call { callee := .builtin .append, args := #[s, x], argTypes := #[t, t] })
    (base : Nat) (e : TypeId) (i : TypeInfo) (z : Value) (size bytes : Nat) (ht : P.underlying t = some (.slice e)) (hi : P.info? e = some i) (hz : i.zero = some z)
    (hsize : i.size = size) (hby : i.bytes = bytes) (hzs : z.cells.size = size) (hsz : 0 < size)
    (v : Value) (n : Nat) (xs : List Value) (hs : a.eval s = v) (hown : w.ownsRow base e size v n xs)
    (ao : Option Addr) (m c : Nat) (news : List Value) (hx : a.eval x = .slice ao m c) (hsrc : m = 0 ∨ ∃ ad, ao = some ad ∧ ∀ j u, news[j]? = some u → w.cell? (ad.add j) = some u) (hl : news.length = m * size) (h1 : ∀ u ∈ news, u.oneCell' = true)
    (h63 : n + m ≤ maxLen) (hbytes : (n + m) * bytes ≤ 140737488355328) (hbase : base ≤ w.heap.size)
    (h : ∀ v' w', w'.ownsRow base e size v' (n + m) (xs ++ news) → w.grownBy w' v.ownBlock → (v'.ownBlock = v.ownBlock ∨ v'.ownBlock = some w.heap.size) → K (a.put o.dst v') w') : o.wp P a w K Q := by
  obtain ⟨v', w', hr, h2, h3, h4⟩ := run_append_any (P := P) w base t o.type e i z size bytes ht hi hz hsize hby hzs hsz v n xs hown ao m c news hsrc hl h1 h63 hbytes hbase
  unfold Oper.wp execOp
  simp only [ho, resolve, invoke, builtin, Sem.run_bind, Sem.run_pure, Result.andThen_ok, List.map_toArray, List.map_cons, List.map_nil, hs, hx, hr]
  exact h v' w' h2 h3 h4

theorem wpList_append_any {ops : Array Oper} {rest : List Oper} {o : Oper} {a : Act} {Q : Exit → Act → World → Prop} (hgd : o.guard = none) (s x : Operand) (t : TypeId)
    (ho : o.op = .call { callee := .builtin .append, args := #[s, x], argTypes := #[t, t] })
    (base : Nat) (e : TypeId) (i : TypeInfo) (z : Value) (size bytes : Nat) (ht : P.underlying t = some (.slice e)) (hi : P.info? e = some i) (hz : i.zero = some z)
    (hsize : i.size = size) (hby : i.bytes = bytes) (hzs : z.cells.size = size) (hsz : 0 < size)
    (v : Value) (n : Nat) (xs : List Value) (hs : a.eval s = v) (hown : w.ownsRow base e size v n xs)
    (ao : Option Addr) (m c : Nat) (news : List Value) (hx : a.eval x = .slice ao m c) (hsrc : m = 0 ∨ ∃ ad, ao = some ad ∧ ∀ j u, news[j]? = some u → w.cell? (ad.add j) = some u) (hl : news.length = m * size) (h1 : ∀ u ∈ news, u.oneCell' = true)
    (h63 : n + m ≤ maxLen) (hbytes : (n + m) * bytes ≤ 140737488355328) (hbase : base ≤ w.heap.size)
    (h : ∀ v' w', w'.ownsRow base e size v' (n + m) (xs ++ news) → w.grownBy w' v.ownBlock → (v'.ownBlock = v.ownBlock ∨ v'.ownBlock = some w.heap.size) → wpList P ops Q rest (a.put o.dst v') w') : wpList P ops Q (o :: rest) a w :=
  wpList_plain hgd fun _ hK => wp_append_any w s x t ho base e i z size bytes ht hi hz hsize hby hzs hsz v n xs hs hown ao m c news hx hsrc hl h1 h63 hbytes hbase fun v' w' h2 h3 h4 => hK _ _ (h v' w' h2 h3 h4)

theorem step_append_any {ops : Array Oper} {o : Oper} {a : Act} {K : Act → World → Prop} {Q : Exit → Act → World → Prop} {E : Prop} (hgd : o.guard = none) (s x : Operand) (t : TypeId)
    (ho : o.op = .call { callee := .builtin .append, args := #[s, x], argTypes := #[t, t] })
    (base : Nat) (e : TypeId) (i : TypeInfo) (z : Value) (size bytes : Nat) (ht : P.underlying t = some (.slice e)) (hi : P.info? e = some i) (hz : i.zero = some z)
    (hsize : i.size = size) (hby : i.bytes = bytes) (hzs : z.cells.size = size) (hsz : 0 < size)
    (v : Value) (n : Nat) (xs : List Value) (hs : a.eval s = v) (hown : w.ownsRow base e size v n xs)
    (ao : Option Addr) (m c : Nat) (news : List Value) (hx : a.eval x = .slice ao m c) (hsrc : m = 0 ∨ ∃ ad, ao = some ad ∧ ∀ j u, news[j]? = some u → w.cell? (ad.add j) = some u) (hl : news.length = m * size) (h1 : ∀ u ∈ news, u.oneCell' = true)
    (h63 : n + m ≤ maxLen) (hbytes : (n + m) * bytes ≤ 140737488355328) (hbase : base ≤ w.heap.size)
    (h : ∀ v' w', w'.ownsRow base e size v' (n + m) (xs ++ news) → w.grownBy w' v.ownBlock → (v'.ownBlock = v.ownBlock ∨ v'.ownBlock = some w.heap.size) → K (a.put o.dst v') w') :
    if Region.wanted o (yielded ops a.tmps) = true then Oper.wp P o a w K Q else E := by
  have hw : Region.wanted o (yielded ops a.tmps) = true := by simp [Region.wanted, hgd]
  rw [if_pos hw]
  exact wp_append_any w s x t ho base e i z size bytes ht hi hz hsize hby hzs hsz v n xs hs hown ao m c news hx hsrc hl h1 h63 hbytes hbase h
theorem step_store_rowC {ops : Array Oper} {o : Oper} {a : Act} {w : World} {K : Act → World → Prop} {Q : Exit → Act → World → Prop} {E : Prop} (hgd : o.guard = none) (ty : TypeId) (x y : Operand) (ho : o.op = .store ty x y)
    (g : Nat) (cells : Array Value) (hx : a.eval x = .pointer (some ⟨g, 0, none⟩)) (hy : a.eval y = .agg cells)
    (t : TypeId) (old : Array Value) (hg : w.heap[g]? = some (.cells old t (0, 0))) (hi : (P.info? ty).map (·.size) = some cells.size)
    (hold : old.size = cells.size) (h1 : cells.all (·.oneCell') = true)
    (h : K (a.put o.dst undef) (w.setRow g cells)) : if Region.wanted o (yielded ops a.tmps) = true then Oper.wp P o a w K Q else E := by
  have hw : Region.wanted o (yielded ops a.tmps) = true := by simp [Region.wanted, hgd]
  rw [if_pos hw]
  exact wp_store_row ty x y ho g cells hx hy t old hg hi hold h1 h
end
end Go.Proofs.YteffdgjoahkdaabGreat

/-
  The small functions: what each answers, at every argument; nothing that was there is turned.
-/
namespace Go.Proofs.YteffdgjoahkdaabGreat
open Go.RowKit

theorem ret_bool {a b : Bool} (h : a = b) : Ending.returned (.bool a) = .returned (.bool b) := by rw [h]
theorem ret_int {k : IntKind} {a b : Int} (h : a = b) : Ending.returned (.int k a) = .returned (.int k b) := by rw [h]

set_option maxHeartbeats 400000 in
theorem l1In_any (n lo hi : Int) (w : World) :
    Calls Tryz.prog 65 #[.int .i64 n, .int .i64 lo, .int .i64 hi] w fun e w' => e = .returned (.bool (inB n lo hi)) ∧ w' = w := by
  by_cases h1 : lo ≤ n
  · by_cases h2 : n ≤ hi
    · have e : inB n lo hi = true := by simp [inB, h1, h2]
      rw [e]; clear e
      go_enter Tryz.func65, Tryz.ntmps65
      go_wp2
      go_ret
      exact ⟨rfl, rfl⟩
    · have e : inB n lo hi = false := by simp [inB, h1, h2]
      rw [e]; clear e
      go_enter Tryz.func65, Tryz.ntmps65
      go_wp2
      go_ret
      exact ⟨rfl, rfl⟩
  · have e : inB n lo hi = false := by simp [inB, h1]
    rw [e]; clear e
    go_enter Tryz.func65, Tryz.ntmps65
    go_wp2
    go_ret
    exact ⟨rfl, rfl⟩

set_option maxHeartbeats 400000 in
theorem onSide_any (n : Int) (w : World) :
    Calls Tryz.prog 135 #[.int .i64 n] w fun e w' => e = .returned (.bool (inB n 0 15)) ∧ w' = w := by
  by_cases h1 : 0 ≤ n
  · by_cases h2 : n < 16
    · have e : inB n 0 15 = true := by simp [inB, h1]; omega
      rw [e]; clear e
      go_enter Tryz.func135, Tryz.ntmps135
      go_wp2
      go_ret
      exact ⟨rfl, rfl⟩
    · have e : inB n 0 15 = false := by simp [inB, h1]; omega
      rw [e]; clear e
      go_enter Tryz.func135, Tryz.ntmps135
      go_wp2
      go_ret
      exact ⟨rfl, rfl⟩
  · have e : inB n 0 15 = false := by simp [inB, h1]
    rw [e]; clear e
    go_enter Tryz.func135, Tryz.ntmps135
    go_wp2
    go_ret
    exact ⟨rfl, rfl⟩

set_option maxHeartbeats 800000 in
theorem nameRune_any (c : Int) (w : World) :
    Calls Tryz.prog 112 #[.int .i32 c] w fun e w' => e = .returned (.bool (chB c)) ∧ w' = w := by
  by_cases h1 : 97 ≤ c
  · by_cases h2 : c ≤ 122
    · have e : chB c = true := by simp [chB, h1, h2]
      rw [e]; clear e
      go_enter Tryz.func112, Tryz.ntmps112
      go_wp2
      go_ret
      exact ⟨rfl, rfl⟩
    · have e : chB c = false := by simp [chB, h1, h2]; omega
      rw [e]; clear e
      have h3 : 48 ≤ c := by omega
      have h4 : ¬ c ≤ 57 := by omega
      have h5 : (c == 45) = false := by simp; omega
      go_enter Tryz.func112, Tryz.ntmps112
      go_wp2
      go_ret
      exact ⟨rfl, rfl⟩
  · by_cases h3 : 48 ≤ c
    · by_cases h4 : c ≤ 57
      · have e : chB c = true := by simp [chB, h1, h3, h4]
        rw [e]; clear e
        go_enter Tryz.func112, Tryz.ntmps112
        go_wp2
        go_ret
        exact ⟨rfl, rfl⟩
      · have e : chB c = false := by simp [chB, h1, h4]; omega
        rw [e]; clear e
        have h5 : (c == 45) = false := by simp; omega
        go_enter Tryz.func112, Tryz.ntmps112
        go_wp2
        go_ret
        exact ⟨rfl, rfl⟩
    · by_cases h5 : c = 45
      · subst h5
        go_enter Tryz.func112, Tryz.ntmps112
        go_wp2
        go_ret
        exact ⟨rfl, rfl⟩
      · have e : chB c = false := by simp [chB, h1, h3, h5]
        rw [e]; clear e
        have h6 : (c == 45) = false := by simp; omega
        go_enter Tryz.func112, Tryz.ntmps112
        go_wp2
        go_ret
        exact ⟨rfl, rfl⟩

theorem below_iter (w : World) (s : ByteArray) (k : Nat) : Below w.heap.size w (w.iter s k) := (Below.refl _ _).alloc (Nat.le_refl _) _

set_option maxHeartbeats 800000 in
theorem nameOk_any (s : ByteArray) (w : World) (hs : s.size ≤ maxLen) :
    Calls Tryz.prog 76 #[.string s] w fun e w' => e = .returned (.bool (nameB s)) ∧ Below w.heap.size w w' := by
  unfold maxLen at hs
  by_cases h1 : (s.size : Int) < 1
  · have e : nameB s = false := by simp [nameB, inB]; omega
    rw [e]; clear e
    go_enter Tryz.func76, Tryz.ntmps76
    go_wp2
    go_ret
    exact ⟨rfl, Below.refl _ _⟩
  by_cases h2 : (8 : Int) < s.size
  · have e : nameB s = false := by simp [nameB, inB]; omega
    rw [e]; clear e
    go_enter Tryz.func76, Tryz.ntmps76
    go_wp2
    go_ret
    exact ⟨rfl, Below.refl _ _⟩
  have e : nameB s = charsB s := by
    have : inB s.size 1 8 = true := by simp [inB]; omega
    simp [nameB, this]
  rw [e]; clear e
  go_enter Tryz.func76, Tryz.ntmps76
  go_wp2
  go_loopw [4] (fun _ wr => ∃ k : Nat, k ≤ s.size ∧ wr = w.iter s k ∧ Hid (∀ j (hj : j < s.size), j < k → chB (s[j].toNat) = true)) (fun _ wr => s.size - wr.iterPos w.heap.size)
  case atStart => exact ⟨0, Nat.zero_le _, rfl, fun j _ hj => absurd hj (Nat.not_lt_zero _)⟩
  case round =>
    obtain ⟨k, hk, rfl, HA⟩ := hrel
    by_cases hlt : k < s.size
    · by_cases ha : (s[k].toNat) < 128
      · have hnx : ∀ ty, (Instr.next (.pointer (some ⟨w.heap.size, 0, none⟩)) true ty).run Tryz.prog (w.iter s k) = _ := fun ty => run_next_ascii w s k ty hlt ha
        cases hch : chB (s[k].toNat)
        · have HC : Hid (chB (s[k].toNat) = false) := hch
          clear hch
          go_wp2_with (go_at_call 112; refine (nameRune_any _ _).mono ?_; rw [HC.out]; rintro e w' ⟨rfl, rfl⟩)
          go_ret
          exact ⟨ret_bool (charsB_false hlt HC.out).symm, below_iter _ _ _⟩
        · have HC : Hid (chB (s[k].toNat) = true) := hch
          clear hch
          go_wp2_with (go_at_call 112; refine (nameRune_any _ _).mono ?_; rw [HC.out]; rintro e w' ⟨rfl, rfl⟩)
          go_roundw
          case rel => exact ⟨k + 1, by omega, rfl, fun j hj hjk => if h : j = k then by subst h; exact HC.out else HA.out j hj (by omega)⟩
          case measure => simp; omega
      · have hnx : ∀ ty, (Instr.next (.pointer (some ⟨w.heap.size, 0, none⟩)) true ty).run Tryz.prog (w.iter s k) = _ := fun ty => run_next_any w s k ty hlt
        have hd := (decode_high s k hlt (by omega)).1
        generalize Utf8.decode s k = d at hnx hd
        have HC : Hid (chB (d.1 : Int) = false) := by
          show chB (d.1 : Int) = false
          simp [chB]; omega
        have HD : Hid (chB (s[k].toNat) = false) := by
          show chB (s[k].toNat) = false
          simp [chB]; omega
        go_wp2_with (go_at_call 112; refine (nameRune_any _ _).mono ?_; rw [HC.out]; rintro e w' ⟨rfl, rfl⟩)
        go_ret
        exact ⟨ret_bool (charsB_false hlt HD.out).symm, below_iter _ _ _⟩
    · have hnx : ∀ ty, (Instr.next (.pointer (some ⟨w.heap.size, 0, none⟩)) true ty).run Tryz.prog (w.iter s k) = _ := fun ty => run_next_end w s k ty hlt
      go_wp2
      go_ret
      exact ⟨ret_bool (charsB_true fun j hj => HA.out j hj (by omega)).symm, below_iter _ _ _⟩

set_option maxHeartbeats 1600000 in
theorem l1NameOk_any (s : ByteArray) (w : World) (hs : s.size ≤ maxLen) :
    Calls Tryz.prog 64 #[.string s] w fun e w' => e = .returned (.bool (nameB s)) ∧ w' = w := by
  unfold maxLen at hs
  cases hin : inB s.size 1 8
  · have e : nameB s = false := by simp [nameB, hin]
    rw [e]; clear e
    have HI : Hid (inB s.size 1 8 = false) := hin
    clear hin
    go_enter Tryz.func64, Tryz.ntmps64
    go_wp2_with (go_at_call 65; refine (l1In_any _ _ _ _).mono ?_; rw [HI.out]; rintro e w' ⟨rfl, rfl⟩)
    go_ret
    exact ⟨rfl, rfl⟩
  · have e : nameB s = charsB s := by simp [nameB, hin]
    rw [e]; clear e
    have HI : Hid (inB s.size 1 8 = true) := hin
    clear hin
    go_enter Tryz.func64, Tryz.ntmps64
    go_wp2_with (go_at_call 65; refine (l1In_any _ _ _ _).mono ?_; rw [HI.out]; rintro e w' ⟨rfl, rfl⟩)
    go_loop [3, 4] (fun i _ => ∃ k : Nat, k ≤ s.size ∧ i = .int .i64 k ∧ Hid (∀ j (hj : j < s.size), j < k → chB (s[j].toNat) = true)) (fun i _ => s.size - (intOf i).toNat)
    case atStart => exact ⟨0, Nat.zero_le _, rfl, fun j _ hj => absurd hj (Nat.not_lt_zero _)⟩
    case round =>
      obtain ⟨k, hk, rfl, HA⟩ := hrel
      by_cases hlt : k < s.size
      · have fin : Hid (chB (s[k].toNat) = true → ∀ j (hj : j < s.size), j < k + 1 → chB (s[j].toNat) = true) := fun h j hj hjk => if e : j = k then by subst e; exact h else HA.out j hj (by omega)
        have bad : Hid (chB (s[k].toNat) = false → charsB s = false) := fun h => charsB_false hlt h
        have hx : ∃ c : Nat, c = s[k].toNat := ⟨_, rfl⟩
        by_cases h1 : (97 : Int) ≤ (s[k].toNat : Int)
        · by_cases h2 : (s[k].toNat : Int) ≤ 122
          · go_wp2
            go_round
            case rel => exact ⟨k + 1, by omega, by go_num, fin.out (by simp [chB]; omega)⟩
            case measure => simp [intOf]; omega
          · have h3 : (48 : Int) ≤ (s[k].toNat : Int) := by omega
            have h4 : ¬ (s[k].toNat : Int) ≤ 57 := by omega
            have h5 : ((s[k].toNat : Int) == 45) = false := by simp; omega
            go_wp2
            go_ret
            exact ⟨ret_bool (bad.out (by simp [chB]; omega)).symm, rfl⟩
        · by_cases h3 : (48 : Int) ≤ (s[k].toNat : Int)
          · by_cases h4 : (s[k].toNat : Int) ≤ 57
            · go_wp2
              go_round
              case rel => exact ⟨k + 1, by omega, by go_num, fin.out (by simp [chB]; omega)⟩
              case measure => simp [intOf]; omega
            · have h5 : ((s[k].toNat : Int) == 45) = false := by simp; omega
              go_wp2
              go_ret
              exact ⟨ret_bool (bad.out (by simp [chB]; omega)).symm, rfl⟩
          · by_cases h5 : (s[k].toNat : Int) = 45
            · have h6 : ((s[k].toNat : Int) == 45) = true := by simp [h5]
              have H5 : Hid ((s[k].toNat : Int) = 45) := h5
              clear h5
              go_wp2
              go_round
              case rel => exact ⟨k + 1, by omega, by go_num, fin.out (by have := H5.out; simp [chB]; omega)⟩
              case measure => simp [intOf]; omega
            · have h6 : ((s[k].toNat : Int) == 45) = false := by simp; omega
              go_wp2
              go_ret
              exact ⟨ret_bool (bad.out (by simp [chB]; omega)).symm, rfl⟩
      · go_wp2
        go_ret
        exact ⟨ret_bool (charsB_true fun j hj => HA.out j hj (by omega)).symm, rfl⟩
end Go.Proofs.YteffdgjoahkdaabGreat

/-
  Kinds and points one by one: sizes, copies, comparisons, names.
-/
namespace Go.Proofs.YteffdgjoahkdaabGreat
open Go.RowKit

set_option maxHeartbeats 400000 in
theorem szKind_any (t : Tri) (left : Int) (w : World) (hs : t.s.size ≤ maxLen) (hl : 0 ≤ left) (hl' : left ≤ 1048576) :
    Calls Tryz.prog 97 #[.agg #[.string t.s, .int .i64 t.x, .int .i64 t.y], .int .i64 left] w fun e w' => e = .returned (.int .i64 (szR t.s.size left)) ∧ Below w.heap.size w w' := by
  unfold maxLen at hs
  by_cases h : left - (t.s.size : Int) < 0
  · rw [szR_neg (by omega)]
    go_enter Tryz.func97, Tryz.ntmps97
    go_wp2
    go_ret
    exact ⟨rfl, (Below.refl _ _).alloc (Nat.le_refl _) _⟩
  · rw [szR_pos (by omega)]
    go_enter Tryz.func97, Tryz.ntmps97
    go_wp2
    go_ret
    exact ⟨rfl, (Below.refl _ _).alloc (Nat.le_refl _) _⟩

set_option maxHeartbeats 400000 in
theorem toKind_any (t : Tri) (w : World) :
    Calls Tryz.prog 107 #[.agg #[.string t.s, .int .i64 t.x, .int .i64 t.y]] w fun e w' => e = .returned (.agg #[.string t.s, .int .i64 t.x, .int .i64 t.y]) ∧ Below w.heap.size w w' := by
  go_enter Tryz.func107, Tryz.ntmps107
  go_wp2
  exact bodyPost_ret (v := .agg #[.string t.s, .int .i64 t.x, .int .i64 t.y]) (by simp [results, Tryz.results107, go_sem]) rfl ⟨rfl, (((Below.refl _ _).alloc (Nat.le_refl _) _).alloc (by simp) _).alloc (by simp; omega) _⟩

set_option maxHeartbeats 400000 in
theorem eqKind_any (t : Tri) (w : World) :
    Calls Tryz.prog 115 #[.agg #[.string t.s, .int .i64 t.x, .int .i64 t.y], .agg #[.string t.s, .int .i64 t.x, .int .i64 t.y]] w fun e w' => e = .returned (.bool true) ∧ Below w.heap.size w w' := by
  go_enter Tryz.func115, Tryz.ntmps115
  go_wp2
  all_goals go_ret
  all_goals exact ⟨rfl, ((Below.refl _ _).alloc (Nat.le_refl _) _).alloc (by simp) _⟩
set_option maxHeartbeats 400000 in
theorem szPoint_any (t : Tri) (left : Int) (w : World) (hs : t.s.size ≤ maxLen) (hl : 0 ≤ left) (hl' : left ≤ 1048576) :
    Calls Tryz.prog 98 #[.agg #[.string t.s, .int .i64 t.x, .int .i64 t.y], .int .i64 left] w fun e w' => e = .returned (.int .i64 (szR t.s.size left)) ∧ Below w.heap.size w w' := by
  unfold maxLen at hs
  by_cases h : left - (t.s.size : Int) < 0
  · rw [szR_neg (by omega)]
    go_enter Tryz.func98, Tryz.ntmps98
    go_wp2
    go_ret
    exact ⟨rfl, (Below.refl _ _).alloc (Nat.le_refl _) _⟩
  · rw [szR_pos (by omega)]
    go_enter Tryz.func98, Tryz.ntmps98
    go_wp2
    go_ret
    exact ⟨rfl, (Below.refl _ _).alloc (Nat.le_refl _) _⟩

set_option maxHeartbeats 400000 in
theorem toPoint_any (t : Tri) (w : World) :
    Calls Tryz.prog 108 #[.agg #[.string t.s, .int .i64 t.x, .int .i64 t.y]] w fun e w' => e = .returned (.agg #[.string t.s, .int .i64 t.x, .int .i64 t.y]) ∧ Below w.heap.size w w' := by
  go_enter Tryz.func108, Tryz.ntmps108
  go_wp2
  exact bodyPost_ret (v := .agg #[.string t.s, .int .i64 t.x, .int .i64 t.y]) (by simp [results, Tryz.results108, go_sem]) rfl ⟨rfl, (((Below.refl _ _).alloc (Nat.le_refl _) _).alloc (by simp) _).alloc (by simp; omega) _⟩

set_option maxHeartbeats 400000 in
theorem eqPoint_any (t : Tri) (w : World) :
    Calls Tryz.prog 116 #[.agg #[.string t.s, .int .i64 t.x, .int .i64 t.y], .agg #[.string t.s, .int .i64 t.x, .int .i64 t.y]] w fun e w' => e = .returned (.bool true) ∧ Below w.heap.size w w' := by
  go_enter Tryz.func116, Tryz.ntmps116
  go_wp2
  all_goals go_ret
  all_goals exact ⟨rfl, ((Below.refl _ _).alloc (Nat.le_refl _) _).alloc (by simp) _⟩

set_option maxHeartbeats 400000 in
theorem kindName_any (t : Tri) (w : World) :
    Calls Tryz.prog 124 #[.agg #[.string t.s, .int .i64 t.x, .int .i64 t.y]] w fun e w' => e = .returned (.string t.s) ∧ Below w.heap.size w w' := by
  go_enter Tryz.func124, Tryz.ntmps124
  go_wp2
  go_ret
  exact ⟨rfl, (Below.refl _ _).alloc (Nat.le_refl _) _⟩
set_option maxHeartbeats 400000 in
theorem pointName_any (t : Tri) (w : World) :
    Calls Tryz.prog 127 #[.agg #[.string t.s, .int .i64 t.x, .int .i64 t.y]] w fun e w' => e = .returned (.string t.s) ∧ Below w.heap.size w w' := by
  go_enter Tryz.func127, Tryz.ntmps127
  go_wp2
  go_ret
  exact ⟨rfl, (Below.refl _ _).alloc (Nat.le_refl _) _⟩

set_option maxHeartbeats 400000 in
theorem paceOk_any (t : Tri) (w : World) :
    Calls Tryz.prog 125 #[.agg #[.string t.s, .int .i64 t.x, .int .i64 t.y]] w fun e w' => e = .returned (.bool (paceB t)) ∧ Below w.heap.size w w' := by
  obtain ⟨s, x, y⟩ := t
  dsimp only
  by_cases h1 : 1 ≤ x
  · by_cases h2 : x ≤ y
    · by_cases h3 : y ≤ 50
      · have e : paceB ⟨s, x, y⟩ = true := by simp [paceB, h1, h2, h3]
        rw [e]; clear e
        go_enter Tryz.func125, Tryz.ntmps125
        go_wp2
        go_ret
        exact ⟨rfl, (Below.refl _ _).alloc (Nat.le_refl _) _⟩
      · have e : paceB ⟨s, x, y⟩ = false := by simp [paceB, h3]
        rw [e]; clear e
        go_enter Tryz.func125, Tryz.ntmps125
        go_wp2
        go_ret
        exact ⟨rfl, (Below.refl _ _).alloc (Nat.le_refl _) _⟩
    · have e : paceB ⟨s, x, y⟩ = false := by simp [paceB, h2]
      rw [e]; clear e
      go_enter Tryz.func125, Tryz.ntmps125
      go_wp2
      go_ret
      exact ⟨rfl, (Below.refl _ _).alloc (Nat.le_refl _) _⟩
  · have e : paceB ⟨s, x, y⟩ = false := by simp [paceB, h1]
    rw [e]; clear e
    go_enter Tryz.func125, Tryz.ntmps125
    go_wp2
    go_ret
    exact ⟨rfl, (Below.refl _ _).alloc (Nat.le_refl _) _⟩

set_option maxHeartbeats 400000 in
theorem inside_any (t : Tri) (w : World) :
    Calls Tryz.prog 128 #[.agg #[.string t.s, .int .i64 t.x, .int .i64 t.y]] w fun e w' => e = .returned (.bool (insideB t)) ∧ Below w.heap.size w w' := by
  obtain ⟨s, x, y⟩ := t
  dsimp only
  cases h1 : inB x 0 15
  · have e : insideB ⟨s, x, y⟩ = false := by simp [insideB, h1]
    rw [e]; clear e
    have H1 : Hid (inB x 0 15 = false) := h1
    clear h1
    go_enter Tryz.func128, Tryz.ntmps128
    go_wp2_with (go_at_call 135; refine (onSide_any _ _).mono ?_; rw [H1.out]; rintro e w' ⟨rfl, rfl⟩)
    go_ret
    exact ⟨rfl, (Below.refl _ _).alloc (Nat.le_refl _) _⟩
  · have H1 : Hid (inB x 0 15 = true) := h1
    have e : insideB ⟨s, x, y⟩ = inB y 0 15 := by simp [insideB, h1]
    rw [e]; clear e h1
    go_enter Tryz.func128, Tryz.ntmps128
    go_wp2_with fail
    refine (onSide_any _ _).mono ?_; rw [H1.out]; rintro e w' ⟨rfl, rfl⟩
    go_wp2_with fail
    refine (onSide_any _ _).mono ?_; rintro e w' ⟨rfl, rfl⟩
    go_wp2
    go_ret
    exact ⟨rfl, (Below.refl _ _).alloc (Nat.le_refl _) _⟩

set_option maxHeartbeats 400000 in
theorem l1KindOk_any (t : Tri) (w : World) (hs : t.s.size ≤ maxLen) :
    Calls Tryz.prog 100 #[.agg #[.string t.s, .int .i64 t.x, .int .i64 t.y]] w fun e w' => e = .returned (.bool (kindOkB t)) ∧ Below w.heap.size w w' := by
  obtain ⟨s, x, y⟩ := t
  dsimp only at hs ⊢
  cases h0 : nameB s
  · have e : kindOkB ⟨s, x, y⟩ = false := by simp [kindOkB, h0]
    have H0 : Hid (nameB s = false) := h0
    rw [e]; clear e h0
    go_enter Tryz.func100, Tryz.ntmps100
    go_wp2_with fail
    refine (l1NameOk_any _ _ hs).mono ?_; rw [H0.out]; rintro e w' ⟨rfl, rfl⟩
    go_wp2
    go_ret
    exact ⟨rfl, (Below.refl _ _).alloc (Nat.le_refl _) _⟩
  · have H0 : Hid (nameB s = true) := h0
    cases h1 : inB x 1 y
    · have H1 : Hid (inB x 1 y = false) := h1
      have e : kindOkB ⟨s, x, y⟩ = false := by simp [kindOkB, paceB]; simp [inB] at h1; omega
      rw [e]; clear e h0 h1
      go_enter Tryz.func100, Tryz.ntmps100
      go_wp2_with fail
      refine (l1NameOk_any _ _ hs).mono ?_; rw [H0.out]; rintro e w' ⟨rfl, rfl⟩
      go_wp2_with fail
      refine (l1In_any _ _ _ _).mono ?_; rw [H1.out]; rintro e w' ⟨rfl, rfl⟩
      go_wp2
      go_ret
      exact ⟨rfl, (Below.refl _ _).alloc (Nat.le_refl _) _⟩
    · have H1 : Hid (inB x 1 y = true) := h1
      have e : kindOkB ⟨s, x, y⟩ = decide (y ≤ 50) := by simp [inB] at h1; simp [kindOkB, paceB, h0, h1]
      rw [e]; clear e h0 h1
      go_enter Tryz.func100, Tryz.ntmps100
      go_wp2_with fail
      refine (l1NameOk_any _ _ hs).mono ?_; rw [H0.out]; rintro e w' ⟨rfl, rfl⟩
      go_wp2_with fail
      refine (l1In_any _ _ _ _).mono ?_; rw [H1.out]; rintro e w' ⟨rfl, rfl⟩
      go_wp2
      go_ret
      exact ⟨rfl, (Below.refl _ _).alloc (Nat.le_refl _) _⟩

set_option maxHeartbeats 400000 in
theorem l1PointOk_any (t : Tri) (w : World) (hs : t.s.size ≤ maxLen) :
    Calls Tryz.prog 101 #[.agg #[.string t.s, .int .i64 t.x, .int .i64 t.y]] w fun e w' => e = .returned (.bool (pointOkB t)) ∧ Below w.heap.size w w' := by
  obtain ⟨s, x, y⟩ := t
  dsimp only at hs ⊢
  cases h0 : nameB s
  · have e : pointOkB ⟨s, x, y⟩ = false := by simp [pointOkB, h0]
    have H0 : Hid (nameB s = false) := h0
    rw [e]; clear e h0
    go_enter Tryz.func101, Tryz.ntmps101
    go_wp2_with fail
    refine (l1NameOk_any _ _ hs).mono ?_; rw [H0.out]; rintro e w' ⟨rfl, rfl⟩
    go_wp2
    go_ret
    exact ⟨rfl, (Below.refl _ _).alloc (Nat.le_refl _) _⟩
  · have H0 : Hid (nameB s = true) := h0
    cases h1 : inB x 0 15
    · have H1 : Hid (inB x 0 15 = false) := h1
      have e : pointOkB ⟨s, x, y⟩ = false := by simp [pointOkB, insideB, h1]
      rw [e]; clear e h0 h1
      go_enter Tryz.func101, Tryz.ntmps101
      go_wp2_with fail
      refine (l1NameOk_any _ _ hs).mono ?_; rw [H0.out]; rintro e w' ⟨rfl, rfl⟩
      go_wp2_with fail
      refine (l1In_any _ _ _ _).mono ?_; rw [H1.out]; rintro e w' ⟨rfl, rfl⟩
      go_wp2
      go_ret
      exact ⟨rfl, (Below.refl _ _).alloc (Nat.le_refl _) _⟩
    · have H1 : Hid (inB x 0 15 = true) := h1
      have e : pointOkB ⟨s, x, y⟩ = inB y 0 15 := by simp [pointOkB, insideB, h0, h1]
      rw [e]; clear e h0 h1
      go_enter Tryz.func101, Tryz.ntmps101
      go_wp2_with fail
      refine (l1NameOk_any _ _ hs).mono ?_; rw [H0.out]; rintro e w' ⟨rfl, rfl⟩
      go_wp2_with fail
      refine (l1In_any _ _ _ _).mono ?_; rw [H1.out]; rintro e w' ⟨rfl, rfl⟩
      go_wp2_with fail
      refine (l1In_any _ _ _ _).mono ?_; rintro e w' ⟨rfl, rfl⟩
      go_wp2
      go_ret
      exact ⟨rfl, (Below.refl _ _).alloc (Nat.le_refl _) _⟩
end Go.Proofs.YteffdgjoahkdaabGreat

/-
  Lists of kinds and of points: sizes, copies, comparisons.
-/
namespace Go.Proofs.YteffdgjoahkdaabGreat
open Go.RowKit

set_option maxHeartbeats 800000 in
theorem szKinds_any (v : Value) (l : List Tri) (left : Int) (w : World) (hv : TrisAt w v l) (hs : ∀ t ∈ l, t.s.size ≤ maxLen) (hl : 0 ≤ left) (hl' : left ≤ 1048576) :
    Calls Tryz.prog 58 #[v, .int .i64 left] w fun e w' => e = .returned (.int .i64 (szR (szTris l) left)) ∧ Below w.heap.size w w' := by
  have hv0 := hv
  obtain ⟨a, cap, rfl, hlc, hcm, hc⟩ := hv
  unfold maxLen at hcm
  by_cases hn : left - (l.length : Int) < 0
  · rw [szR_neg (by unfold szTris; omega)]
    clear hc
    go_enter Tryz.func58, Tryz.ntmps58
    go_wp2
    go_ret
    exact ⟨rfl, Below.refl _ _⟩
  · have HC : Hid (∀ i t, l[i]? = some t → ∃ b off, a = some ⟨b, off, none⟩ ∧
      w.cell? ⟨b, off + i * 3, none⟩ = some (.string t.s) ∧ w.cell? ⟨b, off + i * 3 + 1, none⟩ = some (.int .i64 t.x) ∧ w.cell? ⟨b, off + i * 3 + 2, none⟩ = some (.int .i64 t.y)) := hc
    have HS : Hid (∀ t ∈ l, t.s.size ≤ maxLen) := hs
    clear hc hs hv0
    go_enter Tryz.func58, Tryz.ntmps58
    go_wp2
    go_loopw [1, 5] (fun lf i w' => ∃ k : Nat, k ≤ l.length ∧ i = .int .i64 k ∧ lf = .int .i64 (left - l.length - sumS (l.take k)) ∧ 0 ≤ left - l.length - sumS (l.take k) ∧ Below w.heap.size w w') (fun _ i _ => l.length - (intOf i).toNat)
    case atStart => exact ⟨0, Nat.zero_le _, rfl, by simp [sumS], by simp [sumS]; omega, Below.refl _ _⟩
    case round =>
      obtain ⟨k, hk, rfl, rfl, hge, hb⟩ := hrel
      by_cases hlt : k < l.length
      · obtain ⟨b, off, rfl, c0, c1, c2⟩ := HC.out k l[k] (by simp [hlt])
        have d0 := cell_keep hb (Nat.le_refl _) c0
        have d1 := cell_keep hb (Nat.le_refl _) c1
        have d2 := cell_keep hb (Nat.le_refl _) c2
        have HT : Hid (sumS (l.take (k + 1)) = sumS (l.take k) + (l[k]).s.size) := sumS_take_succ l k hlt
        have HT' : Hid (sumS (l.take (k + 1)) ≤ sumS l) := sumS_take_le l (k + 1)
        have hsk : (l[k]).s.size ≤ maxLen := HS.out _ (List.getElem_mem hlt)
        clear c0 c1 c2 HC HS
        generalize l[k] = t at *
        have hq : 0 ≤ (sumS (l.take k) : Int) := by omega
        generalize hsum : sumS (l.take k) = sk at *
        have HQ : Hid (sumS (l.take k) = sk) := hsum
        clear hsum
        go_wp2_with fail
        refine (szKind_any t _ _ hsk (by omega) (by omega)).mono ?_
        rintro e w1 ⟨rfl, hb1⟩
        by_cases hneg : left - (l.length : Int) - (sk : Int) - (t.s.size : Int) < 0
        · rw [szR_neg (by omega)]
          go_wp2
          go_ret
          refine ⟨ret_int (szR_neg ?_).symm, below_step hb hb1⟩
          have h1 := HT.out; have h2 := HT'.out
          unfold szTris; omega
        · rw [szR_pos (by omega)]
          have hge1 : 0 ≤ left - (l.length : Int) - (sk : Int) - (t.s.size : Int) := by omega
          go_wp2
          go_roundw
          case rel => exact ⟨k + 1, by omega, by go_num, by rw [HT.out]; congr 1; omega, by rw [HT.out]; omega, below_step hb hb1⟩
          case measure => simp [intOf]; omega
      · go_wp2
        go_ret
        refine ⟨ret_int ?_, hb⟩
        rw [List.take_of_length_le (by omega)] at hge ⊢
        rw [szR_pos (by unfold szTris; omega)]
        unfold szTris
        omega

set_option maxHeartbeats 800000 in
theorem eqKinds_any (v v' : Value) (l : List Tri) (w : World) (hv : TrisAt w v l) (hv' : TrisAt w v' l) :
    Calls Tryz.prog 82 #[v, v'] w fun e w' => e = .returned (.bool true) ∧ Below w.heap.size w w' := by
  obtain ⟨a, cap, rfl, hlc, hcm, hc⟩ := hv
  obtain ⟨a', cap', rfl, hlc', hcm', hc'⟩ := hv'
  unfold maxLen at hcm hcm'
  have HC : Hid (∀ i t, l[i]? = some t → ∃ b off, a = some ⟨b, off, none⟩ ∧
      w.cell? ⟨b, off + i * 3, none⟩ = some (.string t.s) ∧ w.cell? ⟨b, off + i * 3 + 1, none⟩ = some (.int .i64 t.x) ∧ w.cell? ⟨b, off + i * 3 + 2, none⟩ = some (.int .i64 t.y)) := hc
  have HC' : Hid (∀ i t, l[i]? = some t → ∃ b off, a' = some ⟨b, off, none⟩ ∧
      w.cell? ⟨b, off + i * 3, none⟩ = some (.string t.s) ∧ w.cell? ⟨b, off + i * 3 + 1, none⟩ = some (.int .i64 t.x) ∧ w.cell? ⟨b, off + i * 3 + 2, none⟩ = some (.int .i64 t.y)) := hc'
  clear hc hc'
  go_enter Tryz.func82, Tryz.ntmps82
  go_wp2
  go_loopw [5] (fun i w' => ∃ k : Nat, k ≤ l.length ∧ i = .int .i64 k ∧ Below w.heap.size w w') (fun i _ => l.length - (intOf i).toNat)
  case atStart => exact ⟨0, Nat.zero_le _, rfl, Below.refl _ _⟩
  case round =>
    obtain ⟨k, hk, rfl, hb⟩ := hrel
    by_cases hlt : k < l.length
    · obtain ⟨b, off, rfl, c0, c1, c2⟩ := HC.out k l[k] (by simp [hlt])
      obtain ⟨b', off', rfl, c0', c1', c2'⟩ := HC'.out k l[k] (by simp [hlt])
      have d0 := cell_keep hb (Nat.le_refl _) c0
      have d1 := cell_keep hb (Nat.le_refl _) c1
      have d2 := cell_keep hb (Nat.le_refl _) c2
      have d0' := cell_keep hb (Nat.le_refl _) c0'
      have d1' := cell_keep hb (Nat.le_refl _) c1'
      have d2' := cell_keep hb (Nat.le_refl _) c2'
      clear c0 c1 c2 c0' c1' c2' HC HC'
      generalize l[k] = t at *
      have hk0 : (0 : Int) ≤ (k : Int) := by omega
      have hk1 : (k : Int) < (l.length : Int) := by omega
      go_wp2
      go_region_held3 (fun w' => w'.cell? ⟨b, off + k * 3, none⟩ = some (.string t.s) ∧ w'.cell? ⟨b, off + k * 3 + 1, none⟩ = some (.int .i64 t.x) ∧ w'.cell? ⟨b, off + k * 3 + 2, none⟩ = some (.int .i64 t.y) ∧
          w'.cell? ⟨b', off' + k * 3, none⟩ = some (.string t.s) ∧ w'.cell? ⟨b', off' + k * 3 + 1, none⟩ = some (.int .i64 t.x) ∧ w'.cell? ⟨b', off' + k * 3 + 2, none⟩ = some (.int .i64 t.y))
        (first | (simp [*, go_sem]; done) | (refine ⟨cell_keep hb1 (by simp) ?_, cell_keep hb1 (by simp) ?_, cell_keep hb1 (by simp) ?_, cell_keep hb1 (by simp) ?_, cell_keep hb1 (by simp) ?_, cell_keep hb1 (by simp) ?_⟩ <;> simp [*, go_sem]))
        (first | (go_at_call 115; refine (eqKind_any t _).mono ?_; rintro e w1 ⟨rfl, hb1⟩))
      go_wp2
      exact ⟨⟨k + 1, by omega, by go_num, below_step hb.drew hb1⟩, by simp [intOf]; omega⟩
    · go_wp2
      go_ret
      exact ⟨rfl, hb⟩
set_option maxHeartbeats 800000 in
theorem szPoints_any (v : Value) (l : List Tri) (left : Int) (w : World) (hv : TrisAt w v l) (hs : ∀ t ∈ l, t.s.size ≤ maxLen) (hl : 0 ≤ left) (hl' : left ≤ 1048576) :
    Calls Tryz.prog 59 #[v, .int .i64 left] w fun e w' => e = .returned (.int .i64 (szR (szTris l) left)) ∧ Below w.heap.size w w' := by
  have hv0 := hv
  obtain ⟨a, cap, rfl, hlc, hcm, hc⟩ := hv
  unfold maxLen at hcm
  by_cases hn : left - (l.length : Int) < 0
  · rw [szR_neg (by unfold szTris; omega)]
    clear hc
    go_enter Tryz.func59, Tryz.ntmps59
    go_wp2
    go_ret
    exact ⟨rfl, Below.refl _ _⟩
  · have HC : Hid (∀ i t, l[i]? = some t → ∃ b off, a = some ⟨b, off, none⟩ ∧
      w.cell? ⟨b, off + i * 3, none⟩ = some (.string t.s) ∧ w.cell? ⟨b, off + i * 3 + 1, none⟩ = some (.int .i64 t.x) ∧ w.cell? ⟨b, off + i * 3 + 2, none⟩ = some (.int .i64 t.y)) := hc
    have HS : Hid (∀ t ∈ l, t.s.size ≤ maxLen) := hs
    clear hc hs hv0
    go_enter Tryz.func59, Tryz.ntmps59
    go_wp2
    go_loopw [1, 5] (fun lf i w' => ∃ k : Nat, k ≤ l.length ∧ i = .int .i64 k ∧ lf = .int .i64 (left - l.length - sumS (l.take k)) ∧ 0 ≤ left - l.length - sumS (l.take k) ∧ Below w.heap.size w w') (fun _ i _ => l.length - (intOf i).toNat)
    case atStart => exact ⟨0, Nat.zero_le _, rfl, by simp [sumS], by simp [sumS]; omega, Below.refl _ _⟩
    case round =>
      obtain ⟨k, hk, rfl, rfl, hge, hb⟩ := hrel
      by_cases hlt : k < l.length
      · obtain ⟨b, off, rfl, c0, c1, c2⟩ := HC.out k l[k] (by simp [hlt])
        have d0 := cell_keep hb (Nat.le_refl _) c0
        have d1 := cell_keep hb (Nat.le_refl _) c1
        have d2 := cell_keep hb (Nat.le_refl _) c2
        have HT : Hid (sumS (l.take (k + 1)) = sumS (l.take k) + (l[k]).s.size) := sumS_take_succ l k hlt
        have HT' : Hid (sumS (l.take (k + 1)) ≤ sumS l) := sumS_take_le l (k + 1)
        have hsk : (l[k]).s.size ≤ maxLen := HS.out _ (List.getElem_mem hlt)
        clear c0 c1 c2 HC HS
        generalize l[k] = t at *
        have hq : 0 ≤ (sumS (l.take k) : Int) := by omega
        generalize hsum : sumS (l.take k) = sk at *
        have HQ : Hid (sumS (l.take k) = sk) := hsum
        clear hsum
        go_wp2_with fail
        refine (szPoint_any t _ _ hsk (by omega) (by omega)).mono ?_
        rintro e w1 ⟨rfl, hb1⟩
        by_cases hneg : left - (l.length : Int) - (sk : Int) - (t.s.size : Int) < 0
        · rw [szR_neg (by omega)]
          go_wp2
          go_ret
          refine ⟨ret_int (szR_neg ?_).symm, below_step hb hb1⟩
          have h1 := HT.out; have h2 := HT'.out
          unfold szTris; omega
        · rw [szR_pos (by omega)]
          have hge1 : 0 ≤ left - (l.length : Int) - (sk : Int) - (t.s.size : Int) := by omega
          go_wp2
          go_roundw
          case rel => exact ⟨k + 1, by omega, by go_num, by rw [HT.out]; congr 1; omega, by rw [HT.out]; omega, below_step hb hb1⟩
          case measure => simp [intOf]; omega
      · go_wp2
        go_ret
        refine ⟨ret_int ?_, hb⟩
        rw [List.take_of_length_le (by omega)] at hge ⊢
        rw [szR_pos (by unfold szTris; omega)]
        unfold szTris
        omega

set_option maxHeartbeats 800000 in
theorem eqPoints_any (v v' : Value) (l : List Tri) (w : World) (hv : TrisAt w v l) (hv' : TrisAt w v' l) :
    Calls Tryz.prog 83 #[v, v'] w fun e w' => e = .returned (.bool true) ∧ Below w.heap.size w w' := by
  obtain ⟨a, cap, rfl, hlc, hcm, hc⟩ := hv
  obtain ⟨a', cap', rfl, hlc', hcm', hc'⟩ := hv'
  unfold maxLen at hcm hcm'
  have HC : Hid (∀ i t, l[i]? = some t → ∃ b off, a = some ⟨b, off, none⟩ ∧
      w.cell? ⟨b, off + i * 3, none⟩ = some (.string t.s) ∧ w.cell? ⟨b, off + i * 3 + 1, none⟩ = some (.int .i64 t.x) ∧ w.cell? ⟨b, off + i * 3 + 2, none⟩ = some (.int .i64 t.y)) := hc
  have HC' : Hid (∀ i t, l[i]? = some t → ∃ b off, a' = some ⟨b, off, none⟩ ∧
      w.cell? ⟨b, off + i * 3, none⟩ = some (.string t.s) ∧ w.cell? ⟨b, off + i * 3 + 1, none⟩ = some (.int .i64 t.x) ∧ w.cell? ⟨b, off + i * 3 + 2, none⟩ = some (.int .i64 t.y)) := hc'
  clear hc hc'
  go_enter Tryz.func83, Tryz.ntmps83
  go_wp2
  go_loopw [5] (fun i w' => ∃ k : Nat, k ≤ l.length ∧ i = .int .i64 k ∧ Below w.heap.size w w') (fun i _ => l.length - (intOf i).toNat)
  case atStart => exact ⟨0, Nat.zero_le _, rfl, Below.refl _ _⟩
  case round =>
    obtain ⟨k, hk, rfl, hb⟩ := hrel
    by_cases hlt : k < l.length
    · obtain ⟨b, off, rfl, c0, c1, c2⟩ := HC.out k l[k] (by simp [hlt])
      obtain ⟨b', off', rfl, c0', c1', c2'⟩ := HC'.out k l[k] (by simp [hlt])
      have d0 := cell_keep hb (Nat.le_refl _) c0
      have d1 := cell_keep hb (Nat.le_refl _) c1
      have d2 := cell_keep hb (Nat.le_refl _) c2
      have d0' := cell_keep hb (Nat.le_refl _) c0'
      have d1' := cell_keep hb (Nat.le_refl _) c1'
      have d2' := cell_keep hb (Nat.le_refl _) c2'
      clear c0 c1 c2 c0' c1' c2' HC HC'
      generalize l[k] = t at *
      have hk0 : (0 : Int) ≤ (k : Int) := by omega
      have hk1 : (k : Int) < (l.length : Int) := by omega
      go_wp2
      go_region_held3 (fun w' => w'.cell? ⟨b, off + k * 3, none⟩ = some (.string t.s) ∧ w'.cell? ⟨b, off + k * 3 + 1, none⟩ = some (.int .i64 t.x) ∧ w'.cell? ⟨b, off + k * 3 + 2, none⟩ = some (.int .i64 t.y) ∧
          w'.cell? ⟨b', off' + k * 3, none⟩ = some (.string t.s) ∧ w'.cell? ⟨b', off' + k * 3 + 1, none⟩ = some (.int .i64 t.x) ∧ w'.cell? ⟨b', off' + k * 3 + 2, none⟩ = some (.int .i64 t.y))
        (first | (simp [*, go_sem]; done) | (refine ⟨cell_keep hb1 (by simp) ?_, cell_keep hb1 (by simp) ?_, cell_keep hb1 (by simp) ?_, cell_keep hb1 (by simp) ?_, cell_keep hb1 (by simp) ?_, cell_keep hb1 (by simp) ?_⟩ <;> simp [*, go_sem]))
        (first | (go_at_call 116; refine (eqPoint_any t _).mono ?_; rintro e w1 ⟨rfl, hb1⟩))
      go_wp2
      exact ⟨⟨k + 1, by omega, by go_num, below_step hb.drew hb1⟩, by simp [intOf]; omega⟩
    · go_wp2
      go_ret
      exact ⟨rfl, hb⟩
end Go.Proofs.YteffdgjoahkdaabGreat

/-
  Copies of lists of kinds and of points: new memory that reads the same.
-/
namespace Go.Proofs.YteffdgjoahkdaabGreat
open Go.RowKit

def triRow (t : Tri) : List Value := [.string t.s, .int .i64 t.x, .int .i64 t.y]

/-- The first k of l lie in block B, which has room for n of them. -/
structure Filled (w wr : World) (B n : Nat) (l : List Tri) (k : Nat) : Prop where
  below : Below w.heap.size w wr
  big : B < wr.heap.size
  old : w.heap.size ≤ B
  room : wr.there B 0 (n * 3)
  has : ∀ i t, i < k → l[i]? = some t → wr.rangeAt B (i * 3) (triRow t)

theorem there_keep {w w' : World} {B o n : Nat} (h : w.there B o n) (hb : Below w.heap.size w w') (hB : B < w.heap.size) : w'.there B o n := fun j hj => by
  rw [hb.cell (p := ⟨B, o + j, none⟩) hB, hb.frozen (p := ⟨B, o + j, none⟩) hB]; exact h j hj
theorem range_keep {w w' : World} {B o : Nat} {cs : List Value} (h : w.rangeAt B o cs) (hb : Below w.heap.size w w') (hB : B < w.heap.size) : w'.rangeAt B o cs := fun j v hv => by
  rw [hb.cell (p := ⟨B, o + j, none⟩) hB]; exact h j v hv

theorem Filled.call {w wr w1 : World} {B n : Nat} {l : List Tri} {k : Nat} (h : Filled w wr B n l k) (hb : Below wr.heap.size wr w1) : Filled w w1 B n l k :=
  ⟨below_step h.below hb, Nat.lt_of_lt_of_le h.big hb.size, h.old, there_keep h.room hb h.big, fun i t hi ht => range_keep (h.has i t hi ht) hb h.big⟩

theorem setCells_below {w : World} {B o : Nat} {vs : List Value} (C : Nat) (h : C ≤ B) : Below C w (w.setCells B o vs) := by
  induction vs generalizing w o with
  | nil => exact Below.refl _ _
  | cons v vs ih =>
    have := (Below.setCell (p := ⟨B, o, none⟩) (Below.refl C w) h v).trans (ih (w := w.setCell ⟨B, o, none⟩ v) (o := o + 1))
    simpa [World.setCells] using this

theorem Filled.store {w wr : World} {B n : Nat} {l : List Tri} {k : Nat} (h : Filled w wr B n l k) (hk : k < n) {t : Tri} (ht : l[k]? = some t) :
    Filled w (wr.setCells B (k * 3) (triRow t)) B n l (k + 1) := by
  have hthere : wr.there B (k * 3) (triRow t).length := fun j hj => by
    have := h.room (k * 3 + j) (by simp [triRow] at hj; omega)
    simpa using this
  refine ⟨h.below.trans (setCells_below _ h.old), ?_, h.old, World.there_setCells h.room _ _ _, fun i u hi hu => ?_⟩
  · exact Nat.lt_of_lt_of_le h.big (setCells_below (w := wr) (B := B) (o := k * 3) (vs := triRow t) 0 (Nat.zero_le _)).size
  · by_cases e : i = k
    · subst e
      rw [ht] at hu; cases hu
      exact World.rangeAt_setCells_same _ _ _ _ hthere
    · exact World.rangeAt_setCells_apart (h.has i u (by omega) hu) _ _ _ (.inr (.inl (by simp [triRow]; omega)))

theorem Filled.tris {w wr : World} {B : Nat} {l : List Tri} (h : Filled w wr B l.length l l.length) (hm : l.length ≤ maxLen) : TrisAt wr (.slice (some ⟨B, 0, none⟩) l.length l.length) l :=
  ⟨_, _, rfl, Nat.le_refl _, hm, fun i t ht => by
    have hi : i < l.length := (List.getElem?_eq_some_iff.1 ht).1
    have hr := h.has i t hi ht
    refine ⟨B, 0, rfl, ?_, ?_, ?_⟩
    · simpa using hr 0 (.string t.s) rfl
    · simpa using hr 1 (.int .i64 t.x) rfl
    · simpa using hr 2 (.int .i64 t.y) rfl⟩

theorem made_there (w : World) (C : Array Value) (T n : Nat) (hC : C.size = n) : (w.alloc (.cells C T)).there w.heap.size 0 n := fun j hj => by
  have h1 := World.cell?_alloc_at (w := w) C T w.heap.size j rfl
  have h2 := World.frozen?_alloc_at (w := w) C T w.heap.size j rfl
  simp only [Nat.zero_add]
  rw [h1, h2]
  simp; omega

theorem Filled.start (w : World) (C : Array Value) (T n : Nat) (l : List Tri) (hC : C.size = n * 3) : Filled w (w.alloc (.cells C T)) w.heap.size n l 0 :=
  ⟨(Below.refl _ _).alloc (Nat.le_refl _) _, by simp, Nat.le_refl _, made_there w C T _ hC, fun i _ hi => absurd hi (Nat.not_lt_zero _)⟩

theorem infoKind : (Tryz.prog.info? 125).map (fun i => (i.zero, i.size, i.bytes)) = some (some (.agg #[.string ByteArray.empty, .int .i64 0, .int .i64 0]), 3, 32) := by kernel_rfl

set_option maxHeartbeats 800000 in
theorem toKinds_own (v : Value) (l : List Tri) (w : World) (hv : TrisAt w v l) (hn : l.length ≤ 1048576) :
    Calls Tryz.prog 68 #[v] w fun e w' => e = .returned (.slice (some ⟨w.heap.size, 0, none⟩) l.length l.length) ∧ Filled w w' w.heap.size l.length l l.length := by
  obtain ⟨a, cap, rfl, hlc, hcm, hc⟩ := hv
  unfold maxLen at hcm
  have HC : Hid (∀ i t, l[i]? = some t → ∃ b off, a = some ⟨b, off, none⟩ ∧
      w.cell? ⟨b, off + i * 3, none⟩ = some (.string t.s) ∧ w.cell? ⟨b, off + i * 3 + 1, none⟩ = some (.int .i64 t.x) ∧ w.cell? ⟨b, off + i * 3 + 2, none⟩ = some (.int .i64 t.y)) := hc
  clear hc
  obtain ⟨i0, hi, hz0, hz1, hz2⟩ := info_parts infoKind
  have hmk : ∀ w : World, (Instr.makeSlice 33 (.int .i64 (l.length : Int)) (.int .i64 (l.length : Int))).run Tryz.prog w = .ok (.slice (some ⟨w.heap.size, 0, none⟩) l.length l.length) (w.alloc (.cells (madeCells (Value.agg #[.string ByteArray.empty, .int .i64 0, .int .i64 0]).cells (l.length * 3)) 125)) := fun w => by
    have h := run_make (P := Tryz.prog) w 33 125 i0 _ Tryz.underlying33 hi hz0 .i64 .i64 l.length l.length (by omega) (by omega) (by rw [hz2]; omega) (by omega)
    rw [hz1] at h
    simpa using h
  have HM : Hid ((madeCells (Value.agg #[.string ByteArray.empty, .int .i64 0, .int .i64 0]).cells (l.length * 3)).size = l.length * 3) := size_madeCells _ _
  generalize madeCells (Value.agg #[.string ByteArray.empty, .int .i64 0, .int .i64 0]).cells (l.length * 3) = C at hmk HM
  clear hi hz0 hz1 hz2
  go_enter Tryz.func68, Tryz.ntmps68
  go_wp2
  go_loopw [4] (fun i wr => ∃ k : Nat, k ≤ l.length ∧ i = .int .i64 k ∧ Filled w wr w.heap.size l.length l k) (fun i _ => l.length - (intOf i).toNat)
  case atStart => exact ⟨0, Nat.zero_le _, rfl, Filled.start w C _ _ l HM.out⟩
  case round =>
    obtain ⟨k, hk, rfl, hf⟩ := hrel
    by_cases hlt : k < l.length
    · have hk? : l[k]? = some (at' l k) := at_get hlt
      obtain ⟨b, off, rfl, c0, c1, c2⟩ := HC.out k _ hk?
      have HK : Hid (l[k]? = some (at' l k)) := hk?
      have d0 := cell_keep hf.below (Nat.le_refl _) c0
      have d1 := cell_keep hf.below (Nat.le_refl _) c1
      have d2 := cell_keep hf.below (Nat.le_refl _) c2
      clear c0 c1 c2 HC hk?
      generalize at' l k = t at *
      have hk0 : (0 : Int) ≤ (k : Int) := by omega
      have hk1 : (k : Int) < (l.length : Int) := by omega
      go_wp2_with fail
      refine (toKind_any t _).mono ?_
      rintro e w1 ⟨rfl, hb1⟩
      have hf1 := hf.call hb1
      have e0 := hf1.room (k * 3) (by omega)
      have e1 := hf1.room (k * 3 + 1) (by omega)
      have e2 := hf1.room (k * 3 + 2) (by omega)
      simp only [Nat.zero_add, Option.isSome_iff_exists] at e0 e1 e2
      obtain ⟨⟨v0, e0⟩, f0⟩ := e0
      obtain ⟨⟨v1, e1⟩, f1⟩ := e1
      obtain ⟨⟨v2, e2⟩, f2⟩ := e2
      go_wp2
      exact ⟨⟨k + 1, by omega, by go_num, hf1.store hlt HK.out⟩, by simp [intOf]; omega⟩
    · go_wp2
      go_ret
      obtain rfl : k = l.length := by omega
      exact ⟨rfl, hf⟩
theorem toKinds_any (v : Value) (l : List Tri) (w : World) (hv : TrisAt w v l) (hn : l.length ≤ 1048576) :
    Calls Tryz.prog 68 #[v] w fun e w' => e = .returned (.slice (some ⟨w.heap.size, 0, none⟩) l.length l.length) ∧ TrisAt w' (.slice (some ⟨w.heap.size, 0, none⟩) l.length l.length) l ∧ Below w.heap.size w w' ∧ w.heap.size < w'.heap.size :=
  (toKinds_own v l w hv hn).mono fun _ _ ⟨he, hf⟩ => ⟨he, hf.tris (by unfold maxLen; omega), hf.below, hf.big⟩
theorem infoPoint : (Tryz.prog.info? 127).map (fun i => (i.zero, i.size, i.bytes)) = some (some (.agg #[.string ByteArray.empty, .int .i64 0, .int .i64 0]), 3, 32) := by kernel_rfl

set_option maxHeartbeats 800000 in
theorem toPoints_own (v : Value) (l : List Tri) (w : World) (hv : TrisAt w v l) (hn : l.length ≤ 1048576) :
    Calls Tryz.prog 69 #[v] w fun e w' => e = .returned (.slice (some ⟨w.heap.size, 0, none⟩) l.length l.length) ∧ Filled w w' w.heap.size l.length l l.length := by
  obtain ⟨a, cap, rfl, hlc, hcm, hc⟩ := hv
  unfold maxLen at hcm
  have HC : Hid (∀ i t, l[i]? = some t → ∃ b off, a = some ⟨b, off, none⟩ ∧
      w.cell? ⟨b, off + i * 3, none⟩ = some (.string t.s) ∧ w.cell? ⟨b, off + i * 3 + 1, none⟩ = some (.int .i64 t.x) ∧ w.cell? ⟨b, off + i * 3 + 2, none⟩ = some (.int .i64 t.y)) := hc
  clear hc
  obtain ⟨i0, hi, hz0, hz1, hz2⟩ := info_parts infoPoint
  have hmk : ∀ w : World, (Instr.makeSlice 34 (.int .i64 (l.length : Int)) (.int .i64 (l.length : Int))).run Tryz.prog w = .ok (.slice (some ⟨w.heap.size, 0, none⟩) l.length l.length) (w.alloc (.cells (madeCells (Value.agg #[.string ByteArray.empty, .int .i64 0, .int .i64 0]).cells (l.length * 3)) 127)) := fun w => by
    have h := run_make (P := Tryz.prog) w 34 127 i0 _ Tryz.underlying34 hi hz0 .i64 .i64 l.length l.length (by omega) (by omega) (by rw [hz2]; omega) (by omega)
    rw [hz1] at h
    simpa using h
  have HM : Hid ((madeCells (Value.agg #[.string ByteArray.empty, .int .i64 0, .int .i64 0]).cells (l.length * 3)).size = l.length * 3) := size_madeCells _ _
  generalize madeCells (Value.agg #[.string ByteArray.empty, .int .i64 0, .int .i64 0]).cells (l.length * 3) = C at hmk HM
  clear hi hz0 hz1 hz2
  go_enter Tryz.func69, Tryz.ntmps69
  go_wp2
  go_loopw [4] (fun i wr => ∃ k : Nat, k ≤ l.length ∧ i = .int .i64 k ∧ Filled w wr w.heap.size l.length l k) (fun i _ => l.length - (intOf i).toNat)
  case atStart => exact ⟨0, Nat.zero_le _, rfl, Filled.start w C _ _ l HM.out⟩
  case round =>
    obtain ⟨k, hk, rfl, hf⟩ := hrel
    by_cases hlt : k < l.length
    · have hk? : l[k]? = some (at' l k) := at_get hlt
      obtain ⟨b, off, rfl, c0, c1, c2⟩ := HC.out k _ hk?
      have HK : Hid (l[k]? = some (at' l k)) := hk?
      have d0 := cell_keep hf.below (Nat.le_refl _) c0
      have d1 := cell_keep hf.below (Nat.le_refl _) c1
      have d2 := cell_keep hf.below (Nat.le_refl _) c2
      clear c0 c1 c2 HC hk?
      generalize at' l k = t at *
      have hk0 : (0 : Int) ≤ (k : Int) := by omega
      have hk1 : (k : Int) < (l.length : Int) := by omega
      go_wp2_with fail
      refine (toPoint_any t _).mono ?_
      rintro e w1 ⟨rfl, hb1⟩
      have hf1 := hf.call hb1
      have e0 := hf1.room (k * 3) (by omega)
      have e1 := hf1.room (k * 3 + 1) (by omega)
      have e2 := hf1.room (k * 3 + 2) (by omega)
      simp only [Nat.zero_add, Option.isSome_iff_exists] at e0 e1 e2
      obtain ⟨⟨v0, e0⟩, f0⟩ := e0
      obtain ⟨⟨v1, e1⟩, f1⟩ := e1
      obtain ⟨⟨v2, e2⟩, f2⟩ := e2
      go_wp2
      exact ⟨⟨k + 1, by omega, by go_num, hf1.store hlt HK.out⟩, by simp [intOf]; omega⟩
    · go_wp2
      go_ret
      obtain rfl : k = l.length := by omega
      exact ⟨rfl, hf⟩
theorem toPoints_any (v : Value) (l : List Tri) (w : World) (hv : TrisAt w v l) (hn : l.length ≤ 1048576) :
    Calls Tryz.prog 69 #[v] w fun e w' => e = .returned (.slice (some ⟨w.heap.size, 0, none⟩) l.length l.length) ∧ TrisAt w' (.slice (some ⟨w.heap.size, 0, none⟩) l.length l.length) l ∧ Below w.heap.size w w' ∧ w.heap.size < w'.heap.size :=
  (toPoints_own v l w hv hn).mono fun _ _ ⟨he, hf⟩ => ⟨he, hf.tris (by unfold maxLen; omega), hf.below, hf.big⟩
end Go.Proofs.YteffdgjoahkdaabGreat
