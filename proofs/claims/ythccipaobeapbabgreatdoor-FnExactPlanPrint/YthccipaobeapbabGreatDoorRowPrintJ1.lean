/-
  For the proof of print_card: part 1 (Pure, Leaf, Chg, Later, Shelf, Form1, Form2, Form3, Form4).
-/
import Derived.WalkKit
import Derived.WalkSpells
import Derived.WalkLawsBesides
import Derived.Test.YthccipaobeapbabGreatDoorRows
import Derived.Lib.OthersKept
import Derived.Deep.QuietTactic
import Derived.BigQuiet
import Derived.Shelf.Strings.Builder1
import Derived.Shelf.Small.Bits
import Derived.Shelf.Small.Strs
import Derived.Shelf.Utf8.RuneCount
import Derived.Shelf.Strconv.Itoa0
import Derived.Shelf.Strconv.Itoa1
import Derived.Shelf.LaysM
import Derived.Shelf.Strconv.Itoa2
import Derived.Shelf.Strconv.Itoa3
import Derived.Shelf.Strconv.Clone
import Derived.Shelf.Strings.Search1
import Derived.Shelf.Strings.Search2
import Derived.Shelf.Strings.Search3
import Derived.Shelf.Strings.Cut
import Derived.Shelf.Strings.Count
import Derived.Shelf.Strings.Shaped
import Derived.Shelf.Strings.Split
import Derived.Shelf.Strings.SplitShaped
import Derived.Shelf.Unicode.Decode
import Derived.Shelf.Strings.RuneCount
import Derived.Shelf.Strings.Explode
import Derived.Shelf.Unicode.DecodeSlow
import Derived.Shelf.Unicode.DecodeAny
import Derived.Ground.Names2Prog
import Derived.Shelf.Slices.SearchI
import Derived.Test.YthccipaobeapbabGreatDoorProg
import Derived.Lib.ItoaMem
import Derived.Deep.RegionHeld3
import Derived.Lib.LaidTab
/-
  Plain facts, no Go in sight: what a name is, when a base is ok, sizes; what it is that a slice of kinds or points lies in memory.
-/
namespace Go.Proofs.YthccipaobeapbabGreatDoor
open Go.RowKit

/-- A kind or a point: a name and two numbers. -/
structure Tri where
  s : ByteArray
  x : Int
  y : Int
/-- v is a slice of these, in w. -/
def TrisAt (w : World) (v : Value) (l : List Tri) : Prop :=
  ∃ a cap, v = .slice a l.length cap ∧ l.length ≤ cap ∧ cap ≤ maxLen ∧ ∀ i t, l[i]? = some t → ∃ b off, a = some ⟨b, off, none⟩ ∧
    w.cell? ⟨b, off + i * 3, none⟩ = some (.string t.s) ∧ w.cell? ⟨b, off + i * 3 + 1, none⟩ = some (.int .i64 t.x) ∧ w.cell? ⟨b, off + i * 3 + 2, none⟩ = some (.int .i64 t.y)

theorem lt_of_cell {w : World} {b o : Nat} {v : Value} (h : w.cell? ⟨b, o, none⟩ = some v) : b < w.heap.size := by
  by_cases hb : b < w.heap.size
  · exact hb
  · exfalso
    have hn : w.heap[b]? = none := by simp; omega
    simp [World.cell?, hn] at h

theorem cell_keep {w w' : World} {B b o : Nat} {v : Value} (hb : Below B w w') (hB : w.heap.size ≤ B) (h : w.cell? ⟨b, o, none⟩ = some v) : w'.cell? ⟨b, o, none⟩ = some v := by
  rw [hb.cell (p := ⟨b, o, none⟩) (Nat.lt_of_lt_of_le (lt_of_cell h) hB)]; exact h

theorem TrisAt.keep {w w' : World} {v : Value} {l : List Tri} (h : TrisAt w v l) (hb : Below w.heap.size w w') : TrisAt w' v l := by
  obtain ⟨a, cap, rfl, h1, h2, h3⟩ := h
  refine ⟨a, cap, rfl, h1, h2, fun i t ht => ?_⟩
  obtain ⟨b, off, ha, c0, c1, c2⟩ := h3 i t ht
  exact ⟨b, off, ha, cell_keep hb (Nat.le_refl _) c0, cell_keep hb (Nat.le_refl _) c1, cell_keep hb (Nat.le_refl _) c2⟩

/-- One behind the other. -/
theorem below_step {w w1 w2 : World} (h : Below w.heap.size w w1) (k : Below w1.heap.size w1 w2) : Below w.heap.size w w2 :=
  h.trans (k.mono h.size)

def sumS : List Tri → Nat
  | [] => 0
  | t :: r => t.s.size + sumS r
theorem sumS_append (l r : List Tri) : sumS (l ++ r) = sumS l + sumS r := by
  induction l with
  | nil => simp [sumS]
  | cons a l ih => simp [sumS, ih]; omega
theorem sumS_take_succ (l : List Tri) (k : Nat) (h : k < l.length) : sumS (l.take (k + 1)) = sumS (l.take k) + (l[k]).s.size := by
  rw [List.take_succ_eq_append_getElem h, sumS_append]; simp [sumS]
theorem sumS_take_le (l : List Tri) (k : Nat) : sumS (l.take k) ≤ sumS l := by
  conv => rhs; rw [← List.take_append_drop k l, sumS_append]
  omega
/-- What a list of these takes off. -/
def szTris (l : List Tri) : Nat := l.length + sumS l

/-- What is left; -1, if it is not enough. -/
def szR (tot : Nat) (left : Int) : Int := if (tot : Int) ≤ left then left - tot else -1
theorem szR_pos {tot : Nat} {left : Int} (h : (tot : Int) ≤ left) : szR tot left = left - tot := if_pos h
theorem szR_neg {tot : Nat} {left : Int} (h : ¬ (tot : Int) ≤ left) : szR tot left = -1 := if_neg h
theorem szR_le (tot : Nat) (left : Int) (h : 0 ≤ left) : szR tot left ≤ left ∧ -1 ≤ szR tot left := by
  unfold szR; split <;> omega

def inB (n lo hi : Int) : Bool := decide (lo ≤ n) && decide (n ≤ hi)
def chB (c : Int) : Bool := (decide (97 ≤ c) && decide (c ≤ 122)) || ((decide (48 ≤ c) && decide (c ≤ 57)) || decide (c = 45))
def charsB (s : ByteArray) : Bool := s.data.toList.all fun c => chB c.toNat
def nameB (s : ByteArray) : Bool := inB s.size 1 8 && charsB s
def geB (s t : ByteArray) : Bool := !Op.bytesLess s.toList t.toList

theorem charsB_true {s : ByteArray} (h : ∀ k (hk : k < s.size), chB (s[k].toNat) = true) : charsB s = true := by
  unfold charsB
  rw [List.all_eq_true]
  intro c hc
  obtain ⟨k, hk, rfl⟩ := List.getElem_of_mem hc
  exact h k (by simpa using hk)
theorem charsB_false {s : ByteArray} {k : Nat} (hk : k < s.size) (h : chB (s[k].toNat) = false) : charsB s = false := by
  unfold charsB
  rw [List.all_eq_false]
  exact ⟨s[k], by simp [ByteArray.getElem_eq_getElem_data], by simp [h]⟩

def allB (n : Nat) (P : Nat → Bool) : Bool := (List.range n).all P
theorem allB_true {n : Nat} {P : Nat → Bool} (h : ∀ j, j < n → P j = true) : allB n P = true := by
  simp [allB]; exact h
theorem allB_false {n : Nat} {P : Nat → Bool} {j : Nat} (hj : j < n) (h : P j = false) : allB n P = false := by
  simp [allB]; exact ⟨j, hj, h⟩
theorem allB_get {n : Nat} {P : Nat → Bool} (h : allB n P = true) : ∀ j, j < n → P j = true := by
  simpa [allB] using h
theorem allB_and (n : Nat) (P Q : Nat → Bool) : allB n (fun j => P j && Q j) = (allB n P && allB n Q) := by
  rw [Bool.eq_iff_iff]; simp [allB]
  exact ⟨fun h => ⟨fun j hj => (h j hj).1, fun j hj => (h j hj).2⟩, fun h j hj => ⟨h.1 j hj, h.2 j hj⟩⟩
theorem allB_congr {n : Nat} {P Q : Nat → Bool} (h : ∀ j, j < n → P j = Q j) : allB n P = allB n Q := by
  rw [Bool.eq_iff_iff]; simp [allB]
  exact ⟨fun k j hj => (h j hj) ▸ k j hj, fun k j hj => (h j hj).symm ▸ k j hj⟩

/-- The element at a place; something there, wherever. -/
def at' (l : List Tri) (i : Nat) : Tri := l.getD i ⟨ByteArray.empty, 0, 0⟩
theorem at_get {l : List Tri} {i : Nat} (h : i < l.length) : l[i]? = some (at' l i) := by
  simp [at', h]

/-- It stands behind the one ahead of it. -/
def ascB (l : List Tri) (i : Nat) : Bool := !(decide (0 < i) && geB (at' l (i - 1)).s (at' l i).s)
def paceB (t : Tri) : Bool := decide (1 ≤ t.x) && (decide (t.x ≤ t.y) && decide (t.y ≤ 50))
def insideB (t : Tri) : Bool := inB t.x 0 15 && inB t.y 0 15
def sameB (t u : Tri) : Bool := decide (t.x = u.x) && decide (t.y = u.y)
def takenB (l : List Tri) (i : Nat) (t : Tri) : Bool := !allB i fun k => !sameB (at' l k) t

def namesB (l : List Tri) (most : Nat) : Bool := decide (l.length ≤ most) && allB l.length fun i => nameB (at' l i).s && ascB l i
def kindsB (l : List Tri) : Bool := namesB l 6 && allB l.length fun i => paceB (at' l i)
def pointsB (l : List Tri) : Bool := namesB l 16 && allB l.length fun i => insideB (at' l i) && !takenB l i (at' l i)

def kindOkB (t : Tri) : Bool := nameB t.s && paceB t
def pointOkB (t : Tri) : Bool := nameB t.s && insideB t

/-- The specification's way through a base comes to the same. -/
theorem kindsB_eq (l : List Tri) : kindsB l = (decide (l.length ≤ 6) && allB l.length fun i => kindOkB (at' l i) && ascB l i) := by
  unfold kindsB namesB
  rw [Bool.and_assoc, ← allB_and]
  congr 1
  refine allB_congr fun j _ => ?_
  unfold kindOkB
  cases nameB (at' l j).s <;> cases ascB l j <;> cases paceB (at' l j) <;> rfl
theorem pointsB_eq (l : List Tri) : pointsB l = (decide (l.length ≤ 16) && allB l.length fun i => (pointOkB (at' l i) && ascB l i) && allB i fun k => !sameB (at' l k) (at' l i)) := by
  unfold pointsB namesB
  rw [Bool.and_assoc, ← allB_and]
  congr 1
  refine allB_congr fun j _ => ?_
  unfold pointOkB takenB
  cases nameB (at' l j).s <;> cases ascB l j <;> cases insideB (at' l j) <;> simp
end Go.Proofs.YthccipaobeapbabGreatDoor

/-
  The small functions: what each answers, at every argument; nothing that was there is turned.
-/
namespace Go.Proofs.YthccipaobeapbabGreatDoor
open Go.RowKit

theorem ret_bool {a b : Bool} (h : a = b) : Ending.returned (.bool a) = .returned (.bool b) := by rw [h]
theorem ret_int {k : IntKind} {a b : Int} (h : a = b) : Ending.returned (.int k a) = .returned (.int k b) := by rw [h]

set_option maxHeartbeats 400000 in
theorem l1In_any (n lo hi : Int) (w : World) :
    Calls Tryz.prog 84 #[.int .i64 n, .int .i64 lo, .int .i64 hi] w fun e w' => e = .returned (.bool (inB n lo hi)) ∧ w' = w := by
  by_cases h1 : lo ≤ n
  · by_cases h2 : n ≤ hi
    · have e : inB n lo hi = true := by simp [inB, h1, h2]
      rw [e]; clear e
      go_enter Tryz.func84, Tryz.ntmps84
      go_wp2
      go_ret
      exact ⟨rfl, rfl⟩
    · have e : inB n lo hi = false := by simp [inB, h1, h2]
      rw [e]; clear e
      go_enter Tryz.func84, Tryz.ntmps84
      go_wp2
      go_ret
      exact ⟨rfl, rfl⟩
  · have e : inB n lo hi = false := by simp [inB, h1]
    rw [e]; clear e
    go_enter Tryz.func84, Tryz.ntmps84
    go_wp2
    go_ret
    exact ⟨rfl, rfl⟩

set_option maxHeartbeats 400000 in
theorem onSide_any (n : Int) (w : World) :
    Calls Tryz.prog 185 #[.int .i64 n] w fun e w' => e = .returned (.bool (inB n 0 15)) ∧ w' = w := by
  by_cases h1 : 0 ≤ n
  · by_cases h2 : n < 16
    · have e : inB n 0 15 = true := by simp [inB, h1]; omega
      rw [e]; clear e
      go_enter Tryz.func185, Tryz.ntmps185
      go_wp2
      go_ret
      exact ⟨rfl, rfl⟩
    · have e : inB n 0 15 = false := by simp [inB, h1]; omega
      rw [e]; clear e
      go_enter Tryz.func185, Tryz.ntmps185
      go_wp2
      go_ret
      exact ⟨rfl, rfl⟩
  · have e : inB n 0 15 = false := by simp [inB, h1]
    rw [e]; clear e
    go_enter Tryz.func185, Tryz.ntmps185
    go_wp2
    go_ret
    exact ⟨rfl, rfl⟩

set_option maxHeartbeats 800000 in
theorem nameRune_any (c : Int) (w : World) :
    Calls Tryz.prog 134 #[.int .i32 c] w fun e w' => e = .returned (.bool (chB c)) ∧ w' = w := by
  by_cases h1 : 97 ≤ c
  · by_cases h2 : c ≤ 122
    · have e : chB c = true := by simp [chB, h1, h2]
      rw [e]; clear e
      go_enter Tryz.func134, Tryz.ntmps134
      go_wp2
      go_ret
      exact ⟨rfl, rfl⟩
    · have e : chB c = false := by simp [chB, h1, h2]; omega
      rw [e]; clear e
      have h3 : 48 ≤ c := by omega
      have h4 : ¬ c ≤ 57 := by omega
      have h5 : (c == 45) = false := by simp; omega
      go_enter Tryz.func134, Tryz.ntmps134
      go_wp2
      go_ret
      exact ⟨rfl, rfl⟩
  · by_cases h3 : 48 ≤ c
    · by_cases h4 : c ≤ 57
      · have e : chB c = true := by simp [chB, h1, h3, h4]
        rw [e]; clear e
        go_enter Tryz.func134, Tryz.ntmps134
        go_wp2
        go_ret
        exact ⟨rfl, rfl⟩
      · have e : chB c = false := by simp [chB, h1, h4]; omega
        rw [e]; clear e
        have h5 : (c == 45) = false := by simp; omega
        go_enter Tryz.func134, Tryz.ntmps134
        go_wp2
        go_ret
        exact ⟨rfl, rfl⟩
    · by_cases h5 : c = 45
      · subst h5
        go_enter Tryz.func134, Tryz.ntmps134
        go_wp2
        go_ret
        exact ⟨rfl, rfl⟩
      · have e : chB c = false := by simp [chB, h1, h3, h5]
        rw [e]; clear e
        have h6 : (c == 45) = false := by simp; omega
        go_enter Tryz.func134, Tryz.ntmps134
        go_wp2
        go_ret
        exact ⟨rfl, rfl⟩

theorem below_iter (w : World) (s : ByteArray) (k : Nat) : Below w.heap.size w (w.iter s k) := (Below.refl _ _).alloc (Nat.le_refl _) _

set_option maxHeartbeats 800000 in
theorem nameOk_any (s : ByteArray) (w : World) (hs : s.size ≤ maxLen) :
    Calls Tryz.prog 96 #[.string s] w fun e w' => e = .returned (.bool (nameB s)) ∧ Below w.heap.size w w' := by
  unfold maxLen at hs
  by_cases h1 : (s.size : Int) < 1
  · have e : nameB s = false := by simp [nameB, inB]; omega
    rw [e]; clear e
    go_enter Tryz.func96, Tryz.ntmps96
    go_wp2
    go_ret
    exact ⟨rfl, Below.refl _ _⟩
  by_cases h2 : (8 : Int) < s.size
  · have e : nameB s = false := by simp [nameB, inB]; omega
    rw [e]; clear e
    go_enter Tryz.func96, Tryz.ntmps96
    go_wp2
    go_ret
    exact ⟨rfl, Below.refl _ _⟩
  have e : nameB s = charsB s := by
    have : inB s.size 1 8 = true := by simp [inB]; omega
    simp [nameB, this]
  rw [e]; clear e
  go_enter Tryz.func96, Tryz.ntmps96
  go_wp2
  go_loopw [4] (fun _ wr => ∃ k : Nat, k ≤ s.size ∧ wr = w.iter s k ∧ Hid (∀ j (hj : j < s.size), j < k → chB (s[j].toNat) = true)) (fun _ wr => s.size - wr.iterPos w.heap.size)
  case atStart => exact ⟨0, Nat.zero_le _, rfl, fun j _ hj => absurd hj (Nat.not_lt_zero _)⟩
  case round =>
    obtain ⟨k, hk, rfl, HA⟩ := hrel
    by_cases hlt : k < s.size
    · by_cases ha : (s[k].toNat) < 128
      · have hnx : ∀ ty, (Instr.next (.pointer (some ⟨w.heap.size, 0, none⟩)) true ty).run Tryz.prog (w.iter s k) = _ := fun ty => run_next_ascii w s k ty hlt ha
        cases hch : chB (s[k].toNat)
        · have HC : Hid (chB (s[k].toNat) = false) := hch
          clear hch
          go_wp2_with (go_at_call 134; refine (nameRune_any _ _).mono ?_; rw [HC.out]; rintro e w' ⟨rfl, rfl⟩)
          go_ret
          exact ⟨ret_bool (charsB_false hlt HC.out).symm, below_iter _ _ _⟩
        · have HC : Hid (chB (s[k].toNat) = true) := hch
          clear hch
          go_wp2_with (go_at_call 134; refine (nameRune_any _ _).mono ?_; rw [HC.out]; rintro e w' ⟨rfl, rfl⟩)
          go_roundw
          case rel => exact ⟨k + 1, by omega, rfl, fun j hj hjk => if h : j = k then by subst h; exact HC.out else HA.out j hj (by omega)⟩
          case measure => simp; omega
      · have hnx : ∀ ty, (Instr.next (.pointer (some ⟨w.heap.size, 0, none⟩)) true ty).run Tryz.prog (w.iter s k) = _ := fun ty => run_next_any w s k ty hlt
        have hd := (decode_high s k hlt (by omega)).1
        generalize Utf8.decode s k = d at hnx hd
        have HC : Hid (chB (d.1 : Int) = false) := by
          show chB (d.1 : Int) = false
          simp [chB]; omega
        have HD : Hid (chB (s[k].toNat) = false) := by
          show chB (s[k].toNat) = false
          simp [chB]; omega
        go_wp2_with (go_at_call 134; refine (nameRune_any _ _).mono ?_; rw [HC.out]; rintro e w' ⟨rfl, rfl⟩)
        go_ret
        exact ⟨ret_bool (charsB_false hlt HD.out).symm, below_iter _ _ _⟩
    · have hnx : ∀ ty, (Instr.next (.pointer (some ⟨w.heap.size, 0, none⟩)) true ty).run Tryz.prog (w.iter s k) = _ := fun ty => run_next_end w s k ty hlt
      go_wp2
      go_ret
      exact ⟨ret_bool (charsB_true fun j hj => HA.out j hj (by omega)).symm, below_iter _ _ _⟩

set_option maxHeartbeats 1600000 in
theorem l1NameOk_any (s : ByteArray) (w : World) (hs : s.size ≤ maxLen) :
    Calls Tryz.prog 83 #[.string s] w fun e w' => e = .returned (.bool (nameB s)) ∧ w' = w := by
  unfold maxLen at hs
  cases hin : inB s.size 1 8
  · have e : nameB s = false := by simp [nameB, hin]
    rw [e]; clear e
    have HI : Hid (inB s.size 1 8 = false) := hin
    clear hin
    go_enter Tryz.func83, Tryz.ntmps83
    go_wp2_with (go_at_call 84; refine (l1In_any _ _ _ _).mono ?_; rw [HI.out]; rintro e w' ⟨rfl, rfl⟩)
    go_ret
    exact ⟨rfl, rfl⟩
  · have e : nameB s = charsB s := by simp [nameB, hin]
    rw [e]; clear e
    have HI : Hid (inB s.size 1 8 = true) := hin
    clear hin
    go_enter Tryz.func83, Tryz.ntmps83
    go_wp2_with (go_at_call 84; refine (l1In_any _ _ _ _).mono ?_; rw [HI.out]; rintro e w' ⟨rfl, rfl⟩)
    go_loop [3, 4] (fun i _ => ∃ k : Nat, k ≤ s.size ∧ i = .int .i64 k ∧ Hid (∀ j (hj : j < s.size), j < k → chB (s[j].toNat) = true)) (fun i _ => s.size - (intOf i).toNat)
    case atStart => exact ⟨0, Nat.zero_le _, rfl, fun j _ hj => absurd hj (Nat.not_lt_zero _)⟩
    case round =>
      obtain ⟨k, hk, rfl, HA⟩ := hrel
      by_cases hlt : k < s.size
      · have fin : Hid (chB (s[k].toNat) = true → ∀ j (hj : j < s.size), j < k + 1 → chB (s[j].toNat) = true) := fun h j hj hjk => if e : j = k then by subst e; exact h else HA.out j hj (by omega)
        have bad : Hid (chB (s[k].toNat) = false → charsB s = false) := fun h => charsB_false hlt h
        have hx : ∃ c : Nat, c = s[k].toNat := ⟨_, rfl⟩
        by_cases h1 : (97 : Int) ≤ (s[k].toNat : Int)
        · by_cases h2 : (s[k].toNat : Int) ≤ 122
          · go_wp2
            go_round
            case rel => exact ⟨k + 1, by omega, by go_num, fin.out (by simp [chB]; omega)⟩
            case measure => simp [intOf]; omega
          · have h3 : (48 : Int) ≤ (s[k].toNat : Int) := by omega
            have h4 : ¬ (s[k].toNat : Int) ≤ 57 := by omega
            have h5 : ((s[k].toNat : Int) == 45) = false := by simp; omega
            go_wp2
            go_ret
            exact ⟨ret_bool (bad.out (by simp [chB]; omega)).symm, rfl⟩
        · by_cases h3 : (48 : Int) ≤ (s[k].toNat : Int)
          · by_cases h4 : (s[k].toNat : Int) ≤ 57
            · go_wp2
              go_round
              case rel => exact ⟨k + 1, by omega, by go_num, fin.out (by simp [chB]; omega)⟩
              case measure => simp [intOf]; omega
            · have h5 : ((s[k].toNat : Int) == 45) = false := by simp; omega
              go_wp2
              go_ret
              exact ⟨ret_bool (bad.out (by simp [chB]; omega)).symm, rfl⟩
          · by_cases h5 : (s[k].toNat : Int) = 45
            · have h6 : ((s[k].toNat : Int) == 45) = true := by simp [h5]
              have H5 : Hid ((s[k].toNat : Int) = 45) := h5
              clear h5
              go_wp2
              go_round
              case rel => exact ⟨k + 1, by omega, by go_num, fin.out (by have := H5.out; simp [chB]; omega)⟩
              case measure => simp [intOf]; omega
            · have h6 : ((s[k].toNat : Int) == 45) = false := by simp; omega
              go_wp2
              go_ret
              exact ⟨ret_bool (bad.out (by simp [chB]; omega)).symm, rfl⟩
      · go_wp2
        go_ret
        exact ⟨ret_bool (charsB_true fun j hj => HA.out j hj (by omega)).symm, rfl⟩
end Go.Proofs.YthccipaobeapbabGreatDoor

/-
  A change: its number, its size, its copy.
-/
namespace Go.Proofs.YthccipaobeapbabGreatDoor
open Go.RowKit

/-- A change. -/
structure Chg where
  f : ByteArray
  what : Int
  num : Int
  v : ByteArray

set_option maxHeartbeats 400000 in
theorem numberOk_any (n : Int) (w : World) :
    Calls Tryz.prog 97 #[.int .i64 n] w fun e w' => e = .returned (.bool (inB n 1 1000000)) ∧ w' = w := by
  by_cases h1 : 1 ≤ n
  · by_cases h2 : n ≤ 1000000
    · have e : inB n 1 1000000 = true := by simp [inB, h1, h2]
      rw [e]; clear e
      go_enter Tryz.func97, Tryz.ntmps97
      go_wp2
      go_ret
      exact ⟨rfl, rfl⟩
    · have e : inB n 1 1000000 = false := by simp [inB, h1, h2]
      rw [e]; clear e
      go_enter Tryz.func97, Tryz.ntmps97
      go_wp2
      go_ret
      exact ⟨rfl, rfl⟩
  · have e : inB n 1 1000000 = false := by simp [inB, h1]
    rw [e]; clear e
    go_enter Tryz.func97, Tryz.ntmps97
    go_wp2
    go_ret
    exact ⟨rfl, rfl⟩

end Go.Proofs.YthccipaobeapbabGreatDoor

/-
  A region that draws its order, whose operations read what was there and whose calls only make new memory and answer plain values: one walk in the text's order serves every order (the library's theorem on quiet regions, at the class of the worlds in which nothing that was there has turned).
-/
namespace Go.Proofs.YthccipaobeapbabGreatDoor
open Go.RowKit

/-- A world behind w in which nothing that was there has turned. -/
structure Later (w : World) where
  val : World
  below : Below w.heap.size w val

theorem Later.some (w : World) : Nonempty (Later w) := ⟨⟨w, Below.refl _ _⟩⟩
theorem Later.cell {w : World} (x : Later w) (b o : Nat) (h : b < w.heap.size) : x.val.cell? ⟨b, o, none⟩ = w.cell? ⟨b, o, none⟩ := x.below.cell (p := ⟨b, o, none⟩) h
theorem Later.frozen {w : World} (x : Later w) (b o : Nat) (h : b < w.heap.size) : x.val.frozen? ⟨b, o, none⟩ = w.frozen? ⟨b, o, none⟩ := x.below.frozen (p := ⟨b, o, none⟩) h

theorem wp_region_later {P : Program} {id : Nat} {Q : Exit → Act → World → Prop} {a : Act} {w : World} {l : List Oper} (hm : P.follows .mixedOrders = true) (hB : Region.lexB .any l.toArray = true)
    (h : wpQuiet P l.toArray (fun w' => ∃ x : Later w, w' = x.val) (fun a' => ∀ w', (∃ x : Later w, w' = x.val) → Q .normal a' w') l a) : (Code.region id l.toArray true).wp P Q a w :=
  wp_region_quiet (C := fun w' => ∃ x : Later w, w' = x.val) hm hB ⟨⟨_, (Below.refl _ _).drew⟩, rfl⟩ (by simpa using h)

/-- A call that only makes new memory, in such a world. -/
theorem Calls.later {P : Program} {f : FuncId} {args : Array Value} {w : World} {x : Later w} {v : Value}
    (h : Calls P f args x.val fun e w' => e = .returned v ∧ Below x.val.heap.size x.val w') : Calls P f args x.val fun e w'' => e = .returned v ∧ ∃ y : Later w, w'' = y.val :=
  h.mono fun _ _ ⟨he, hb⟩ => ⟨he, ⟨_, below_step x.below hb⟩, rfl⟩
theorem Calls.later_same {P : Program} {f : FuncId} {args : Array Value} {w : World} {x : Later w} {v : Value}
    (h : Calls P f args x.val fun e w' => e = .returned v ∧ w' = x.val) : Calls P f args x.val fun e w'' => e = .returned v ∧ ∃ y : Later w, w'' = y.val :=
  h.mono fun _ _ ⟨he, hb⟩ => ⟨he, x, hb⟩
end Go.Proofs.YthccipaobeapbabGreatDoor

/-
  DERIVED: THE SHELF's CONTRACTS AT THIS DUMP, IN PLAIN WORDS (tools/lay-plain.mjs out of 'TryzShelf.lean', which tools/lay-shelf.mjs wrote): THE SAME DECLARATIONS UNDER THE SAME NAMES: 'import', 'namespace', 'open', 'def', 'theorem' AND NOTHING ELSE: no command of the shelf's: FOR A HAND-IN. Each laying: the table of numbers ('.._ren') and one theorem, a field a fact of the dump's own or the kernel's comparison; each contract: ONE APPLICATION.
-/
namespace Go.Proofs
open Go.Shelf
def Tryz.laysM171_ren : Go.Shelf.Ren := ⟨fun | 171 => 93 | 243 => 133 | 246 => 162 | 283 => 187 | 284 => 188 | 285 => 189 | 286 => 190 | 129 => 208 | 317 => 207 | 318 => 209 | 319 => 210 | 320 => 211 | 337 => 222 | 338 => 223 | n => n, fun | 3 => 3 | 9 => 9 | 2 => 2 | 4 => 4 | 171 => 274 | 0 => 0 | 53 => 275 | 37 => 128 | 5 => 5 | 173 => 278 | 212 => 296 | 51 => 297 | 20 => 20 | 213 => 298 | 46 => 284 | 232 => 320 | 233 => 321 | n => n, fun | 17 => 4 | 18 => 7 | 19 => 8 | n => n⟩
theorem Tryz.laysM171 : Go.Proofs.LaysM.n171 Tryz.prog Tryz.laysM171_ren := {
  mixed := by kernel_rfl
  f129 := Tryz.func208.trans (congrArg some (by kernel_rfl))
  f171 := Tryz.func93.trans (congrArg some (by kernel_rfl))
  f243 := Tryz.func133.trans (congrArg some (by kernel_rfl))
  f246 := Tryz.func162.trans (congrArg some (by kernel_rfl))
  f283 := Tryz.func187.trans (congrArg some (by kernel_rfl))
  f284 := Tryz.func188.trans (congrArg some (by kernel_rfl))
  f285 := Tryz.func189.trans (congrArg some (by kernel_rfl))
  f286 := Tryz.func190.trans (congrArg some (by kernel_rfl))
  f317 := Tryz.func207.trans (congrArg some (by kernel_rfl))
  f318 := Tryz.func209.trans (congrArg some (by kernel_rfl))
  f319 := Tryz.func210.trans (congrArg some (by kernel_rfl))
  f320 := Tryz.func211.trans (congrArg some (by kernel_rfl))
  f337 := Tryz.func222.trans (congrArg some (by kernel_rfl))
  f338 := Tryz.func223.trans (congrArg some (by kernel_rfl))
  t0 := Tryz.underlying0
  a0 := Tryz.isAgg0
  z0 := Tryz.sizeOf0
  v0 := Tryz.zeroValue0
  t2 := Tryz.underlying2
  a2 := Tryz.isAgg2
  z2 := Tryz.sizeOf2
  v2 := Tryz.zeroValue2
  t3 := Tryz.underlying3
  a3 := Tryz.isAgg3
  z3 := Tryz.sizeOf3
  v3 := Tryz.zeroValue3
  t4 := Tryz.underlying4
  a4 := Tryz.isAgg4
  z4 := Tryz.sizeOf4
  v4 := Tryz.zeroValue4
  t5 := Tryz.underlying5
  a5 := Tryz.isAgg5
  z5 := Tryz.sizeOf5
  v5 := Tryz.zeroValue5
  t9 := Tryz.underlying9
  a9 := Tryz.isAgg9
  z9 := Tryz.sizeOf9
  v9 := Tryz.zeroValue9
  t20 := Tryz.underlying20
  a20 := Tryz.isAgg20
  z20 := Tryz.sizeOf20
  v20 := Tryz.zeroValue20
  t37 := Tryz.underlying128
  a37 := Tryz.isAgg128
  z37 := Tryz.sizeOf128
  v37 := Tryz.zeroValue128
  t46 := Tryz.underlying284
  a46 := Tryz.isAgg284
  z46 := Tryz.sizeOf284
  v46 := Tryz.zeroValue284
  t51 := Tryz.underlying297
  a51 := Tryz.isAgg297
  z51 := Tryz.sizeOf297
  v51 := Tryz.zeroValue297
  t53 := Tryz.underlying275
  a53 := Tryz.isAgg275
  z53 := Tryz.sizeOf275
  v53 := Tryz.zeroValue275
  t171 := Tryz.underlying274
  a171 := Tryz.isAgg274
  z171 := Tryz.sizeOf274
  v171 := Tryz.zeroValue274
  t173 := Tryz.underlying278
  a173 := Tryz.isAgg278
  z173 := Tryz.sizeOf278
  v173 := Tryz.zeroValue278
  t212 := Tryz.underlying296
  a212 := Tryz.isAgg296
  z212 := Tryz.sizeOf296
  v212 := Tryz.zeroValue296
  t213 := Tryz.underlying298
  a213 := Tryz.isAgg298
  z213 := Tryz.sizeOf298
  t232 := Tryz.underlying320
  a232 := Tryz.isAgg320
  z232 := Tryz.sizeOf320
  v232 := Tryz.zeroValue320
  t233 := Tryz.underlying321
  a233 := Tryz.isAgg321
  z233 := Tryz.sizeOf321
  v233 := Tryz.zeroValue321
  g17 := by kernel_rfl
  g18 := by kernel_rfl
  g19 := by kernel_rfl
  i0 := by kernel_rfl
  i2 := by kernel_rfl
  i3 := by kernel_rfl
  i4 := by kernel_rfl
  i5 := by kernel_rfl
  i9 := by kernel_rfl
  i20 := by kernel_rfl
  i37 := by kernel_rfl
  i46 := by kernel_rfl
  i51 := by kernel_rfl
  i53 := by kernel_rfl
  i171 := by kernel_rfl
  i173 := by kernel_rfl
  i212 := by kernel_rfl
  i232 := by kernel_rfl
  i233 := by kernel_rfl
  m17 := by kernel_rfl
  m18 := by kernel_rfl
  m19 := by kernel_rfl }
def Tryz.lays144_ren : Go.Shelf.Ren := ⟨fun | 144 => 135 | 143 => 163 | 219 => 173 | 217 => 196 | 225 => 197 | 224 => 198 | 267 => 199 | 266 => 213 | 314 => 214 | n => n, fun | 9 => 9 | 4 => 4 | 3 => 3 | 5 => 5 | 46 => 284 | 146 => 300 | 51 => 297 | n => n, fun | 1 => 3 | n => n⟩
theorem Tryz.lays144 : Go.Proofs.Lays.n144 Tryz.prog Tryz.lays144_ren := {
  mixed := by kernel_rfl
  f143 := Tryz.func163.trans (congrArg some (by kernel_rfl))
  f144 := Tryz.func135.trans (congrArg some (by kernel_rfl))
  f217 := Tryz.func196.trans (congrArg some (by kernel_rfl))
  f219 := Tryz.func173.trans (congrArg some (by kernel_rfl))
  f224 := Tryz.func198.trans (congrArg some (by kernel_rfl))
  f225 := Tryz.func197.trans (congrArg some (by kernel_rfl))
  f266 := Tryz.func213.trans (congrArg some (by kernel_rfl))
  f267 := Tryz.func199.trans (congrArg some (by kernel_rfl))
  f314 := Tryz.func214.trans (congrArg some (by kernel_rfl))
  t3 := Tryz.underlying3
  a3 := Tryz.isAgg3
  z3 := Tryz.sizeOf3
  v3 := Tryz.zeroValue3
  t4 := Tryz.underlying4
  a4 := Tryz.isAgg4
  z4 := Tryz.sizeOf4
  v4 := Tryz.zeroValue4
  t5 := Tryz.underlying5
  a5 := Tryz.isAgg5
  z5 := Tryz.sizeOf5
  v5 := Tryz.zeroValue5
  t9 := Tryz.underlying9
  a9 := Tryz.isAgg9
  z9 := Tryz.sizeOf9
  v9 := Tryz.zeroValue9
  t46 := Tryz.underlying284
  a46 := Tryz.isAgg284
  z46 := Tryz.sizeOf284
  v46 := Tryz.zeroValue284
  t51 := Tryz.underlying297
  a51 := Tryz.isAgg297
  z51 := Tryz.sizeOf297
  v51 := Tryz.zeroValue297
  t146 := Tryz.underlying300
  a146 := Tryz.isAgg300
  z146 := Tryz.sizeOf300
  v146 := Tryz.zeroValue300
  g1 := by kernel_rfl }
open Go.RowKit Go.Sort Go.Lib in
theorem Tryz.strconv_Itoa (n : Int) (h0 : -9223372036854775808 ≤ n) (h1 : n ≤ 9223372036854775807) (w : World) (htab : Lib.TabIs Tryz.prog w "internal/strconv.uint64pow10" .u64 Lib.pow10Tab) :
    Calls Tryz.prog 93 #[.int .i64 n] w fun e w' => e = .returned (.string ⟨(Lib.itoa n).toArray⟩) ∧ ∃ k os, w' = grow (w.drewN k) os := Any.strconv_Itoa Tryz.laysM171 n h0 h1 w htab
open Go.RowKit Go.Lib in
theorem Tryz.strings_Contains_one (s : ByteArray) (c : UInt8) (w : World) :
    Calls Tryz.prog 135 #[.string s, .string ⟨#[c]⟩] w fun e w' => e = .returned (.bool (decide (0 ≤ Lib.indexByte s.data.toList c))) ∧ w' = w := Any.strings_Contains_one Tryz.lays144 s c w
end Go.Proofs

/-
  The small functions under PlanForm: sizes and copies of a change, numbers, values, decimals, words.
-/
namespace Go.Proofs.YthccipaobeapbabGreatDoor
open Go.RowKit
attribute [local go_sem] Later.cell Later.frozen

/-- It has a newline in it. -/
def oddB (s : ByteArray) : Bool := s.data.toList.any fun c => c == 10
theorem oddB_true {s : ByteArray} {k : Nat} (hk : k < s.size) (h : s[k] = 10) : oddB s = true := by
  unfold oddB
  rw [List.any_eq_true]
  exact ⟨s[k], by simp [ByteArray.getElem_eq_getElem_data], by simp [h]⟩
theorem oddB_false {s : ByteArray} (h : ∀ k (hk : k < s.size), s[k] ≠ 10) : oddB s = false := by
  unfold oddB
  rw [List.any_eq_false]
  intro c hc
  obtain ⟨k, hk, rfl⟩ := List.getElem_of_mem hc
  have := h k (by simpa using hk)
  simpa [ByteArray.getElem_eq_getElem_data] using this
theorem u8_ten (c : UInt8) : (((c.toNat : Nat) : Int) == 10) = (c == 10) := by
  rw [Bool.eq_iff_iff]
  simp only [beq_iff_eq]
  constructor
  · intro h
    apply UInt8.toNat_inj.1
    have : c.toNat = 10 := by omega
    simpa using this
  · rintro rfl; rfl

set_option maxHeartbeats 400000 in
theorem l2Odd_any (s : ByteArray) (w : World) (hs : s.size ≤ maxLen) :
    Calls Tryz.prog 85 #[.string s] w fun e w' => e = .returned (.bool (oddB s)) ∧ w' = w := by
  unfold maxLen at hs
  go_enter Tryz.func85, Tryz.ntmps85
  go_wp2
  go_loop [3] (fun i => ∃ k : Nat, k ≤ s.size ∧ i = .int .i64 k ∧ Hid (∀ j (hj : j < s.size), j < k → s[j] ≠ 10)) (fun i => s.size - (intOf i).toNat)
  case atStart => exact ⟨0, Nat.zero_le _, rfl, fun j _ hj => absurd hj (Nat.not_lt_zero _)⟩
  case round =>
    obtain ⟨k, hk, rfl, HA⟩ := hrel
    by_cases hlt : k < s.size
    · by_cases hc : s[k] = 10
      · have h1 : (((s[k].toNat : Nat) : Int) == 10) = true := by rw [u8_ten]; simpa using hc
        have HC : Hid (s[k] = 10) := hc
        clear hc
        go_wp2
        go_ret
        exact ⟨ret_bool (oddB_true hlt HC.out).symm, rfl⟩
      · have h1 : (((s[k].toNat : Nat) : Int) == 10) = false := by rw [u8_ten]; simpa using hc
        have HC : Hid (¬ s[k] = 10) := hc
        clear hc
        go_wp2
        go_round
        case rel => exact ⟨k + 1, by omega, by go_num, fun j hj hjk => if e : j = k then by subst e; exact HC.out else HA.out j hj (by omega)⟩
        case measure => simp [intOf]; omega
    · go_wp2
      go_ret
      exact ⟨ret_bool (oddB_false fun j hj => HA.out j hj (by omega)).symm, rfl⟩

theorem index_iff (l : List UInt8) : 0 ≤ Lib.indexByte l 10 ↔ (l.any fun c => c == 10) = true := by
  induction l with
  | nil => simp [Lib.indexByte]
  | cons b l ih =>
    have hg := Lib.indexByte_ge l 10
    rw [Lib.indexByte, List.any_cons]
    by_cases h : b = 10
    · simp [h]
    · have hb : (b == 10) = false := by simpa using h
      rw [hb, Bool.false_or, ← ih]
      simp only [Bool.false_eq_true, if_false]
      split
      · rename_i h2
        have : Lib.indexByte l 10 = -1 := by simpa using h2
        omega
      · rename_i h2
        have : Lib.indexByte l 10 ≠ -1 := by simpa using h2
        omega
theorem index_odd (s : ByteArray) : decide (0 ≤ Lib.indexByte s.data.toList 10) = oddB s := by
  rw [Bool.eq_iff_iff, decide_eq_true_iff]
  exact index_iff _

/-- A value that has a form. -/
def valB (s : ByteArray) : Bool := !s.toList.isEmpty && !oddB s

set_option maxHeartbeats 400000 in
theorem valueHasForm_any (s : ByteArray) (w : World) :
    Calls Tryz.prog 98 #[.string s] w fun e w' => e = .returned (.bool (valB s)) ∧ w' = w := by
  cases h1 : s.toList.isEmpty
  · have e : valB s = !oddB s := by simp [valB, h1]
    rw [e]; clear e
    go_enter Tryz.func98, Tryz.ntmps98
    go_wp2_with fail
    refine (Tryz.strings_Contains_one s 10 _).mono ?_
    rw [index_odd]
    rintro e w' ⟨rfl, rfl⟩
    go_wp2
    go_ret
    exact ⟨rfl, rfl⟩
  · have e : valB s = false := by simp [valB, h1]
    rw [e]; clear e
    go_enter Tryz.func98, Tryz.ntmps98
    go_wp2
    go_ret
    exact ⟨rfl, rfl⟩

end Go.Proofs.YthccipaobeapbabGreatDoor

/-
  Decimals of the specification.
-/
namespace Go.Proofs.YthccipaobeapbabGreatDoor
open Go.RowKit

theorem ret_str {a b : ByteArray} (h : a = b) : Ending.returned (.string a) = .returned (.string b) := by rw [h]

/-- A number in decimals. -/
def decS (n : Nat) : ByteArray := ⟨(Lib.decDigits n).toArray⟩
/-- The text of one byte. -/
def oneS (n : Int) : ByteArray := ⟨#[UInt8.ofNat n.toNat]⟩
theorem oneS_size (n : Int) : (oneS n).size = 1 := rfl
theorem dec_small {n : Nat} (h : n < 10) : decS n = oneS (48 + (n : Int)) := by
  unfold decS oneS
  rw [Lib.decDigits_one h, show ((48 : Int) + n).toNat = 48 + n by omega]
theorem dec_big {n : Nat} (h : ¬ n < 10) : decS n = decS (n / 10) ++ oneS (48 + (n : Int) % 10) := by
  unfold decS oneS
  rw [Lib.decDigits, dif_neg h, show ((48 : Int) + (n : Int) % 10).toNat = 48 + n % 10 by omega]
  apply ByteArray.ext
  simp [ByteArray.data_append]
theorem nDigits_le : ∀ (k n : Nat), n < 10 ^ (k + 1) → Lib.nDigits n ≤ k + 1
  | 0, n, h => by rw [Lib.nDigits_small (by simpa using h)]; omega
  | k + 1, n, h => by
    by_cases hs : n < 10
    · rw [Lib.nDigits_small hs]; omega
    · rw [Lib.nDigits_big hs]
      have := nDigits_le k (n / 10) (by rw [Nat.pow_succ] at h; omega)
      omega
theorem decS_size (n : Nat) (h : n < 10000000) : (decS n).size ≤ 7 := by
  have h1 := nDigits_le 6 n (by omega)
  show (Lib.decDigits n).toArray.size ≤ 7
  rw [List.size_toArray, Lib.decDigits_length]; exact h1

/-- A text out of one byte. -/
theorem conv1 (w : World) (b : Nat) (n : Int) (h : w.cell? ⟨b, 0, none⟩ = some (.int .u8 n)) :
    (convert 128 9 (.slice (some ⟨b, 0, none⟩) 1 1)).run Tryz.prog w = .ok (.string (oneS n)) w := by
  have := run_convert_bytes_arg (P := Tryz.prog) w 128 5 Tryz.underlying128 Tryz.underlying5 b 0 1 1 [n] rfl (fun i hi => by
    obtain rfl : i = 0 := by omega
    simpa using h) 9 Tryz.underlying9
  simpa [strOfNums, oneS] using this

set_option maxHeartbeats 800000 in
theorem l2Dec_small (n : Nat) (h : n < 10) (w : World) :
    Calls Tryz.prog 41 #[.int .i64 n] w fun e w' => e = .returned (.string (decS n)) ∧ Below w.heap.size w w' := by
  rw [dec_small h]
  have h1 : (n : Int) < 10 := by omega
  have kc := conv1
  go_enter Tryz.func41, Tryz.ntmps41
  go_wp2
  go_ret
  exact ⟨rfl, (Below.refl _ _).alloc (Nat.le_refl _) _⟩

set_option maxHeartbeats 1600000 in
theorem l2Dec_step (n : Nat) (h : ¬ n < 10) (hn : n ≤ 9999999) (ih : ∀ w, Calls Tryz.prog 41 #[.int .i64 ((n : Int) / 10)] w fun e w' => e = .returned (.string (decS (n / 10))) ∧ Below w.heap.size w w') (w : World) :
    Calls Tryz.prog 41 #[.int .i64 n] w fun e w' => e = .returned (.string (decS n)) ∧ Below w.heap.size w w' := by
  rw [dec_big h]
  have h1 : ¬ (n : Int) < 10 := by omega
  have kc := conv1
  have IH : Hid (∀ w, Calls Tryz.prog 41 #[.int .i64 ((n : Int) / 10)] w fun e w' => e = .returned (.string (decS (n / 10))) ∧ Below w.heap.size w w') := ih
  clear ih
  have hsz : ¬ 9223372036854775807 < (decS (n / 10)).size + (oneS (48 + (n : Int) % 10)).size := by
    have := decS_size (n / 10) (by omega)
    rw [oneS_size]; omega
  generalize decS (n / 10) = ds at IH hsz
  have hw1 : IntKind.i64.wrap ((n : Int) / 10) = (n : Int) / 10 := by rw [IntKind.wrap_i64]; omega
  have hw3 : IntKind.i64.wrap (48 + (n : Int).tmod 10) = 48 + (n : Int) % 10 := by rw [Int.tmod_eq_emod_of_nonneg (by omega), IntKind.wrap_i64]; omega
  have hw4 : IntKind.u8.wrap (48 + (n : Int) % 10) = 48 + (n : Int) % 10 := by rw [IntKind.wrap_u8]; omega
  go_enter Tryz.func41, Tryz.ntmps41
  go_wp2
  go_region_with (go_at_call 41; refine (IH.out _).mono ?_; rintro e w1 ⟨rfl, hb1⟩; have hc1 := fun b o h => hb1.cell (p := ⟨b, o, none⟩) h)
  all_goals go_wp2
  all_goals go_ret
  all_goals first | exact ⟨rfl, (below_step (Below.refl _ _).drew hb1).alloc (below_step (Below.refl w.heap.size w).drew hb1).size _⟩ | exact ⟨rfl, below_step ((Below.refl _ _).alloc (Nat.le_refl _) _).drew hb1⟩

theorem l2Dec_any : ∀ (n : Nat), n ≤ 9999999 → ∀ w, Calls Tryz.prog 41 #[.int .i64 n] w fun e w' => e = .returned (.string (decS n)) ∧ Below w.heap.size w w' := by
  intro n
  induction n using Nat.strongRecOn with
  | ind n ih =>
    intro hn w
    by_cases h : n < 10
    · exact l2Dec_small n h w
    · refine l2Dec_step n h hn (fun w => ?_) w
      have := ih (n / 10) (by omega) (by omega) w
      simpa using this
end Go.Proofs.YthccipaobeapbabGreatDoor

/-
  The words of what is said: impl's table, and the specification's list.
-/
namespace Go.Proofs.YthccipaobeapbabGreatDoor
open Go.RowKit

def wKind : ByteArray := ⟨#[107, 105, 110, 100]⟩
def wTime : ByteArray := ⟨#[116, 105, 109, 101]⟩
def wLevel : ByteArray := ⟨#[108, 101, 118, 101, 108]⟩
def wRoute : ByteArray := ⟨#[114, 111, 117, 116, 101]⟩
def wState : ByteArray := ⟨#[115, 116, 97, 116, 101]⟩
def wordAt : Nat → ByteArray
  | 0 => wKind
  | 1 => wTime
  | 2 => wLevel
  | 3 => wRoute
  | 4 => wState
  | _ => ⟨#[]⟩
/-- The word of what is said; nothing for what isn't on the table. -/
def wordS (what : Int) : ByteArray := if 1 ≤ what then wordAt (what - 1).toNat else ⟨#[]⟩
theorem wordS_at (k : Nat) : wordS ((k : Int) + 1) = wordAt k := by
  unfold wordS
  rw [if_pos (by omega), show ((k : Int) + 1 - 1).toNat = k by omega]
theorem wordS_none {what : Int} (h : inB what 1 5 = false) : wordS what = ⟨#[]⟩ := by
  unfold wordS
  split
  · have : ¬ what ≤ 5 := by simp [inB] at h; omega
    obtain ⟨k, hk⟩ : ∃ k, (what - 1).toNat = k + 5 := ⟨(what - 1).toNat - 5, by omega⟩
    rw [hk]; rfl
  · rfl

/-- What the table holds, cell by cell. -/
def saidC : Array Value := #[.int .i64 1, .string wKind, .int .i64 2, .string wTime, .int .i64 3, .string wLevel, .int .i64 4, .string wRoute, .int .i64 5, .string wState]
/-- The package's table lies in w. -/
def SaidIn (w : World) : Prop := ∃ t fr, w.heap[1]? = some (.cells saidC t fr)
theorem SaidIn.lt {w : World} (h : SaidIn w) : 1 < w.heap.size := by
  obtain ⟨t, fr, h⟩ := h
  exact (Array.getElem?_eq_some_iff.1 h).1
theorem SaidIn.keep {w w' : World} (h : SaidIn w) (hb : Below w.heap.size w w') : SaidIn w' := by
  have hl := h.lt
  obtain ⟨t, fr, h⟩ := h
  exact ⟨t, fr, by rw [hb.block _ hl]; exact h⟩

theorem idx0 (w : World) : (Instr.index 197 (.agg saidC) (.int .i64 0)).run Tryz.prog w = .ok (.agg #[.int .i64 1, .string wKind]) w := by kernel_rfl
theorem idx1 (w : World) : (Instr.index 197 (.agg saidC) (.int .i64 1)).run Tryz.prog w = .ok (.agg #[.int .i64 2, .string wTime]) w := by kernel_rfl
theorem idx2 (w : World) : (Instr.index 197 (.agg saidC) (.int .i64 2)).run Tryz.prog w = .ok (.agg #[.int .i64 3, .string wLevel]) w := by kernel_rfl
theorem idx3 (w : World) : (Instr.index 197 (.agg saidC) (.int .i64 3)).run Tryz.prog w = .ok (.agg #[.int .i64 4, .string wRoute]) w := by kernel_rfl
theorem idx4 (w : World) : (Instr.index 197 (.agg saidC) (.int .i64 4)).run Tryz.prog w = .ok (.agg #[.int .i64 5, .string wState]) w := by kernel_rfl
theorem idx (k : Nat) (hk : k < 5) (w : World) : (Instr.index 197 (.agg saidC) (.int .i64 (k : Int))).run Tryz.prog w = .ok (.agg #[.int .i64 ((k : Int) + 1), .string (wordAt k)]) w := by
  have : k = 0 ∨ k = 1 ∨ k = 2 ∨ k = 3 ∨ k = 4 := by omega
  rcases this with rfl | rfl | rfl | rfl | rfl
  · exact idx0 w
  · exact idx1 w
  · exact idx2 w
  · exact idx3 w
  · exact idx4 w

set_option maxHeartbeats 800000 in
theorem wordOf_any (what : Int) (w : World) (hs : SaidIn w) :
    Calls Tryz.prog 95 #[.int .i64 what] w fun e w' => e = .returned (.tuple #[.string (wordS what), .bool (inB what 1 5)]) ∧ Below w.heap.size w w' := by
  obtain ⟨tt, fr, hg⟩ := hs
  go_enter Tryz.func95, Tryz.ntmps95
  go_wp2_with (refine wpList_load_row rfl 197 _ rfl 1 rfl tt saidC fr _ hg Tryz.underlying197 rfl (by kernel_rfl) ?_)
  go_loopw [5, 7] (fun _ i wr => ∃ k : Nat, k ≤ 5 ∧ i = .int .i64 k ∧ Below w.heap.size w wr ∧ Hid (∀ j : Nat, j < k → ¬ what = (j : Int) + 1)) (fun _ i _ => 5 - (intOf i).toNat)
  case atStart => exact ⟨0, Nat.zero_le _, rfl, Below.refl _ _, fun j hj => absurd hj (Nat.not_lt_zero _)⟩
  case round =>
    obtain ⟨k, hk, rfl, hb, HA⟩ := hrel
    by_cases hlt : k < 5
    · have hi := idx k hlt
      have hk5 : (k : Int) < 5 := by omega
      by_cases hw : what = (k : Int) + 1
      · have h1 : ((k : Int) + 1 == what) = true := by simp [hw]
        have HW : Hid (what = (k : Int) + 1) := hw
        clear hw
        go_wp2
        go_ret2
        have e1 : inB what 1 5 = true := by have := HW.out; simp [inB]; omega
        have e2 : wordS what = wordAt k := by rw [HW.out]; exact wordS_at k
        rw [e1, e2]
        exact ⟨rfl, hb.alloc hb.size _⟩
      · have h1 : ((k : Int) + 1 == what) = false := by simp; omega
        have HW : Hid (¬ what = (k : Int) + 1) := hw
        clear hw
        go_wp2
        exact ⟨⟨k + 1, by omega, by go_num, hb.alloc hb.size _, fun j hj => if e : j = k then by rw [e]; exact HW.out else HA.out j (by omega)⟩, by simp [intOf]; omega⟩
    · have hk5 : ¬ (k : Int) < 5 := by omega
      have e1 : inB what 1 5 = false := by
        have h0 := HA.out 0 (by omega); have h1 := HA.out 1 (by omega); have h2 := HA.out 2 (by omega); have h3 := HA.out 3 (by omega); have h4 := HA.out 4 (by omega)
        simp [inB]; omega
      have H1 : Hid (inB what 1 5 = false) := e1
      have H2 : Hid (wordS what = ⟨#[]⟩) := wordS_none e1
      clear e1
      go_wp2
      go_ret2
      rw [H1.out, H2.out]
      exact ⟨rfl, hb⟩

set_option maxHeartbeats 400000 in
theorem l2Words_any (w : World) :
    Calls Tryz.prog 86 #[] w fun e w' => e = .returned (.slice (some ⟨w.heap.size, 0, none⟩) 5 5) ∧ w' = w.alloc (.cells #[.string wKind, .string wTime, .string wLevel, .string wRoute, .string wState] 9) := by
  go_enter Tryz.func86, Tryz.ntmps86
  go_wp2
  go_ret
  exact ⟨rfl, rfl⟩
end Go.Proofs.YthccipaobeapbabGreatDoor

/-
  impl: PlanForm.
-/
namespace Go.Proofs.YthccipaobeapbabGreatDoor
open Go.RowKit
attribute [local go_sem] Later.cell Later.frozen

/-- One text behind the other. -/
def cat (a b : ByteArray) : ByteArray := a ++ b
theorem cat_size (a b : ByteArray) : (cat a b).size = a.size + b.size := by unfold cat; exact ByteArray.size_append
/-- Far from the greatest size. -/
def Small (s : ByteArray) : Prop := s.size ≤ 4611686018427387903
theorem add_small (P : Program) (a b : ByteArray) (w : World) (ha : Small a) (hb : Small b) : (Op.stringOp .add a b).run P w = .ok (.string (cat a b)) w := by
  unfold Small at ha hb
  exact run_string_add_sum w a b (by omega)

theorem grow_below (w : World) (k : Nat) (os : Array Obj) : Below w.heap.size w (Sort.grow (w.drewN k) os) :=
  ⟨rfl, rfl, rfl, by simp [Sort.grow], fun i hi => by simp [Sort.grow, Array.getElem?_append_left hi]⟩
theorem itoa_any (n : Int) (h0 : 0 ≤ n) (h1 : n ≤ 9223372036854775807) (w : World) (ht : Lib.TabIs Tryz.prog w "internal/strconv.uint64pow10" .u64 Lib.pow10Tab) :
    Calls Tryz.prog 93 #[.int .i64 n] w fun e w' => e = .returned (.string (decS n.toNat)) ∧ Below w.heap.size w w' := by
  refine (Tryz.strconv_Itoa n (by omega) h1 w ht).mono ?_
  rintro e w' ⟨rfl, k, os, rfl⟩
  refine ⟨ret_str ?_, grow_below w k os⟩
  obtain ⟨m, rfl⟩ := Int.eq_ofNat_of_zero_le h0
  rw [Lib.itoa_nonneg, Int.toNat_natCast]; rfl
theorem gPow : Tryz.prog.globalNamed "internal/strconv.uint64pow10" = some 4 := by kernel_rfl
theorem tab_keep {w w' : World} (h : Lib.TabIs Tryz.prog w "internal/strconv.uint64pow10" .u64 Lib.pow10Tab) (hb : Below w.heap.size w w') : Lib.TabIs Tryz.prog w' "internal/strconv.uint64pow10" .u64 Lib.pow10Tab := by
  have hc := h.cell gPow 0 (by decide)
  exact var?_below hb gPow (lt_of_cell hc) h

def sSet : ByteArray := ⟨#[115, 101, 116, 32]⟩
def sSp : ByteArray := ⟨#[32]⟩

/-- It has a form. -/
def formB (c : Chg) : Bool := inB c.what 1 5 && (nameB c.f && (inB c.num 1 1000000 && valB c.v))
/-- The form. -/
def formS (c : Chg) : ByteArray := cat (cat (cat (cat (cat (cat (cat sSet c.f) sSp) (wordS c.what)) sSp) (decS c.num.toNat)) sSp) c.v

structure Smalls (c : Chg) : Prop where
  s0 : Small sSet
  s1 : Small c.f
  s2 : Small (cat sSet c.f)
  s3 : Small sSp
  s4 : Small (cat (cat sSet c.f) sSp)
  s5 : Small (wordS c.what)
  s6 : Small (cat (cat (cat sSet c.f) sSp) (wordS c.what))
  s7 : Small (cat (cat (cat (cat sSet c.f) sSp) (wordS c.what)) sSp)
  s8 : Small (decS c.num.toNat)
  s9 : Small (cat (cat (cat (cat (cat sSet c.f) sSp) (wordS c.what)) sSp) (decS c.num.toNat))
  sA : Small (cat (cat (cat (cat (cat (cat sSet c.f) sSp) (wordS c.what)) sSp) (decS c.num.toNat)) sSp)
  sB : Small c.v
theorem word_le (k : Nat) : (wordAt k).size ≤ 5 := by
  match k with
  | 0 | 1 | 2 | 3 | 4 => decide
  | k + 5 => exact Nat.zero_le _
theorem wordS_le (what : Int) : (wordS what).size ≤ 5 := by
  unfold wordS; split
  · exact word_le _
  · exact Nat.zero_le _
theorem Smalls.of (c : Chg) (hf : c.f.size ≤ 1048576) (hv : c.v.size ≤ 1048576) (hn : inB c.num 1 1000000 = true) : Smalls c := by
  have h1 : sSet.size = 4 := rfl
  have h2 : sSp.size = 1 := rfl
  have h3 := wordS_le c.what
  have h4 := decS_size c.num.toNat (by simp [inB] at hn; omega)
  constructor <;> unfold Small <;> (try simp only [cat_size]) <;> omega

set_option maxHeartbeats 1600000 in
theorem planForm_any (c : Chg) (w : World) (hs : SaidIn w) (ht : Lib.TabIs Tryz.prog w "internal/strconv.uint64pow10" .u64 Lib.pow10Tab) (hf : c.f.size ≤ 1048576) (hv : c.v.size ≤ 1048576) :
    Calls Tryz.prog 48 #[.agg #[.string c.f, .int .i64 c.what, .int .i64 c.num, .string c.v]] w fun e w' => e = .returned (.string (bif formB c then formS c else ⟨#[]⟩)) ∧ Below w.heap.size w w' := by
  have hfm : c.f.size ≤ maxLen := by unfold maxLen; omega
  have HS : Hid (SaidIn w) := hs
  have HT : Hid (Lib.TabIs Tryz.prog w "internal/strconv.uint64pow10" .u64 Lib.pow10Tab) := ht
  have HSM : Hid (inB c.num 1 1000000 = true → Smalls c) := Smalls.of c hf hv
  clear hs ht hf hv
  obtain ⟨f, what, num, v⟩ := c
  dsimp only at hfm ⊢
  cases hk : inB what 1 5
  · have e : (bif formB ⟨f, what, num, v⟩ then formS ⟨f, what, num, v⟩ else ⟨#[]⟩) = ⟨#[]⟩ := by simp [formB, hk]
    have HK : Hid (inB what 1 5 = false) := hk
    rw [e]; clear e hk
    go_enter Tryz.func48, Tryz.ntmps48
    go_wp2_with fail
    refine (wordOf_any _ _ (HS.out.keep ((Below.refl _ _).alloc (Nat.le_refl _) _))).mono ?_
    rw [HK.out]
    rintro e w1 ⟨rfl, hb1⟩
    go_wp2
    go_ret
    exact ⟨rfl, below_step ((Below.refl _ _).alloc (Nat.le_refl _) _) hb1⟩
  have HK : Hid (inB what 1 5 = true) := hk
  clear hk
  cases hn : nameB f
  · have e : (bif formB ⟨f, what, num, v⟩ then formS ⟨f, what, num, v⟩ else ⟨#[]⟩) = ⟨#[]⟩ := by simp [formB, hn]
    have HN : Hid (nameB f = false) := hn
    rw [e]; clear e hn
    go_enter Tryz.func48, Tryz.ntmps48
    go_wp2_with fail
    refine (wordOf_any _ _ (HS.out.keep ((Below.refl _ _).alloc (Nat.le_refl _) _))).mono ?_
    rw [HK.out]
    rintro e w1 ⟨rfl, hb1⟩
    have c0 : w1.cell? ⟨w.heap.size, 0, none⟩ = some (.string f) := cell_keep hb1 (Nat.le_refl _) (by simp [go_sem])
    have hbw := below_step ((Below.refl _ _).alloc (Nat.le_refl _) _) hb1
    go_wp2_with fail
    refine (nameOk_any f _ hfm).mono ?_
    rw [HN.out]
    rintro e w2 ⟨rfl, hb2⟩
    go_wp2
    go_ret
    exact ⟨rfl, below_step hbw hb2⟩
  have HN : Hid (nameB f = true) := hn
  clear hn
  cases hu : inB num 1 1000000
  · have e : (bif formB ⟨f, what, num, v⟩ then formS ⟨f, what, num, v⟩ else ⟨#[]⟩) = ⟨#[]⟩ := by simp [formB, hu]
    have HU : Hid (inB num 1 1000000 = false) := hu
    rw [e]; clear e hu
    go_enter Tryz.func48, Tryz.ntmps48
    go_wp2_with fail
    refine (wordOf_any _ _ (HS.out.keep ((Below.refl _ _).alloc (Nat.le_refl _) _))).mono ?_
    rw [HK.out]
    rintro e w1 ⟨rfl, hb1⟩
    have c0 : w1.cell? ⟨w.heap.size, 0, none⟩ = some (.string f) := cell_keep hb1 (Nat.le_refl _) (by simp [go_sem])
    have c2 : w1.cell? ⟨w.heap.size, 2, none⟩ = some (.int .i64 num) := cell_keep hb1 (Nat.le_refl _) (by simp [go_sem])
    have hbw := below_step ((Below.refl _ _).alloc (Nat.le_refl _) _) hb1
    go_wp2_with fail
    refine (nameOk_any f _ hfm).mono ?_
    rw [HN.out]
    rintro e w2 ⟨rfl, hb2⟩
    have d0 := cell_keep hb2 (Nat.le_refl _) c0
    have d2 := cell_keep hb2 (Nat.le_refl _) c2
    go_wp2_with fail
    refine (numberOk_any _ _).mono ?_
    rw [HU.out]
    rintro e w3 ⟨rfl, rfl⟩
    go_wp2
    go_ret
    exact ⟨rfl, below_step hbw hb2⟩
  have SM := HSM.out hu
  have HU : Hid (inB num 1 1000000 = true) := hu
  have hn0 : 0 ≤ num := by simp [inB] at hu; omega
  have hn1 : num ≤ 9223372036854775807 := by simp [inB] at hu; omega
  clear hu
  cases hval : valB v
  · have e : (bif formB ⟨f, what, num, v⟩ then formS ⟨f, what, num, v⟩ else ⟨#[]⟩) = ⟨#[]⟩ := by simp [formB, hval]
    have HV : Hid (valB v = false) := hval
    rw [e]; clear e hval
    go_enter Tryz.func48, Tryz.ntmps48
    go_wp2_with fail
    refine (wordOf_any _ _ (HS.out.keep ((Below.refl _ _).alloc (Nat.le_refl _) _))).mono ?_
    rw [HK.out]
    rintro e w1 ⟨rfl, hb1⟩
    have c0 : w1.cell? ⟨w.heap.size, 0, none⟩ = some (.string f) := cell_keep hb1 (Nat.le_refl _) (by simp [go_sem])
    have c2 : w1.cell? ⟨w.heap.size, 2, none⟩ = some (.int .i64 num) := cell_keep hb1 (Nat.le_refl _) (by simp [go_sem])
    have c3 : w1.cell? ⟨w.heap.size, 3, none⟩ = some (.string v) := cell_keep hb1 (Nat.le_refl _) (by simp [go_sem])
    have hbw := below_step ((Below.refl _ _).alloc (Nat.le_refl _) _) hb1
    go_wp2_with fail
    refine (nameOk_any f _ hfm).mono ?_
    rw [HN.out]
    rintro e w2 ⟨rfl, hb2⟩
    have d0 := cell_keep hb2 (Nat.le_refl _) c0
    have d2 := cell_keep hb2 (Nat.le_refl _) c2
    have d3 := cell_keep hb2 (Nat.le_refl _) c3
    go_wp2_with fail
    refine (numberOk_any _ _).mono ?_
    rw [HU.out]
    rintro e w3 ⟨rfl, rfl⟩
    go_wp2_with fail
    refine (valueHasForm_any _ _).mono ?_
    rw [HV.out]
    rintro e w3 ⟨rfl, rfl⟩
    go_wp2
    go_ret
    exact ⟨rfl, below_step hbw hb2⟩
  · have e : (bif formB ⟨f, what, num, v⟩ then formS ⟨f, what, num, v⟩ else ⟨#[]⟩) = formS ⟨f, what, num, v⟩ := by simp [formB, hval, HK.out, HN.out, HU.out]
    have HV : Hid (valB v = true) := hval
    rw [e]; clear e hval
    have hadd := add_small Tryz.prog
    obtain ⟨s0, s1, s2, s3, s4, s5, s6, s7, s8, s9, sA, sB⟩ := SM
    dsimp only at s1 s2 s4 s5 s6 s7 s8 s9 sA sB
    have HF : Hid (formS ⟨f, what, num, v⟩ = cat (cat (cat (cat (cat (cat (cat sSet f) sSp) (wordS what)) sSp) (decS num.toNat)) sSp) v) := rfl
    go_enter Tryz.func48, Tryz.ntmps48
    go_wp2_with fail
    refine (wordOf_any _ _ (HS.out.keep ((Below.refl _ _).alloc (Nat.le_refl _) _))).mono ?_
    rw [HK.out]
    rintro e w1 ⟨rfl, hb1⟩
    have c0 : w1.cell? ⟨w.heap.size, 0, none⟩ = some (.string f) := cell_keep hb1 (Nat.le_refl _) (by simp [go_sem])
    have c2 : w1.cell? ⟨w.heap.size, 2, none⟩ = some (.int .i64 num) := cell_keep hb1 (Nat.le_refl _) (by simp [go_sem])
    have c3 : w1.cell? ⟨w.heap.size, 3, none⟩ = some (.string v) := cell_keep hb1 (Nat.le_refl _) (by simp [go_sem])
    have hbw := below_step ((Below.refl _ _).alloc (Nat.le_refl _) _) hb1
    go_wp2_with fail
    refine (nameOk_any f _ hfm).mono ?_
    rw [HN.out]
    rintro e w2 ⟨rfl, hb2⟩
    have d0 := cell_keep hb2 (Nat.le_refl _) c0
    have d2 := cell_keep hb2 (Nat.le_refl _) c2
    have d3 := cell_keep hb2 (Nat.le_refl _) c3
    have hbl : w.heap.size < w2.heap.size := lt_of_cell d0
    have HB2 : Hid (Below w.heap.size w w2) := below_step hbw hb2
    clear c0 c2 c3 hb1 hb2 hbw
    go_wp2_with fail
    refine (numberOk_any _ _).mono ?_
    rw [HU.out]
    rintro e w3 ⟨rfl, rfl⟩
    go_wp2_with fail
    refine (valueHasForm_any _ _).mono ?_
    rw [HV.out]
    rintro e w3 ⟨rfl, rfl⟩
    go_wp2
    have hne := Later.some w3
    have GO : Hid (∀ x : Later w3, Calls Tryz.prog 93 #[.int .i64 num] x.val fun e w'' => e = .returned (.string (decS num.toNat)) ∧ ∃ y : Later w3, w'' = y.val) :=
      fun x => Calls.later (itoa_any num hn0 hn1 x.val (tab_keep HT.out (below_step HB2.out x.below)))
    simp only [sSet, sSp] at s0 s2 s3 s4 s6 s7 s9 sA
    refine wp_region_later (by kernel_rfl) (by kernel_rfl) ?_
    repeat (go_big_quiet_step (exact GO.out _))
    refine wpQuiet_nil ?_
    rintro _ ⟨x, rfl⟩
    go_wp2
    go_ret
    exact ⟨rfl, below_step HB2.out x.below⟩
end Go.Proofs.YthccipaobeapbabGreatDoor
