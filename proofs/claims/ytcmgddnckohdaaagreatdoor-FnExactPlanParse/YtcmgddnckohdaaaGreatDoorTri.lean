import Derived.WalkSpells
import Derived.WalkLawsBesides
import Derived.Test.YtcmgddnckohdaaaGreatDoorRows

namespace Go.Proofs.YtcmgddnckohdaaaGreatDoor
open Go.RowKit
structure Tri where
 s : ByteArray
 x : Int
 y : Int
def TrisAt (w : World) (v : Value) (l : List Tri) : Prop :=
 ∃ a cap, v = .slice a l.length cap ∧ l.length ≤ cap ∧ cap ≤ maxLen ∧ ∀ i t, l[i]? = some t → ∃ b off, a = some ⟨b, off, none⟩ ∧
  w.cell? ⟨b, off + i * 3, none⟩ = some (.string t.s) ∧ w.cell? ⟨b, off + i * 3 + 1, none⟩ = some (.int .i64 t.x) ∧ w.cell? ⟨b, off + i * 3 + 2, none⟩ = some (.int .i64 t.y)
theorem lt_of_cell {w : World} {b o : Nat} {v : Value} (h : w.cell? ⟨b, o, none⟩ = some v) : b < w.heap.size := by
 by_cases hb : b < w.heap.size
 ·exact hb
 ·exfalso
  have hn : w.heap[b]? = none := by simp; omega
  simp [World.cell?, hn] at h
theorem cell_keep {w w' : World} {B b o : Nat} {v : Value} (hb : Below B w w') (hB : w.heap.size ≤ B) (h : w.cell? ⟨b, o, none⟩ = some v) : w'.cell? ⟨b, o, none⟩ = some v := by
 rw [hb.cell (p := ⟨b, o, none⟩) (Nat.lt_of_lt_of_le (lt_of_cell h) hB)]; exact h
theorem TrisAt.keep {w w' : World} {v : Value} {l : List Tri} (h : TrisAt w v l) (hb : Below w.heap.size w w') : TrisAt w' v l := by
 obtain ⟨a, cap, rfl, h1, h2, h3⟩ := h
 refine ⟨a, cap, rfl, h1, h2, fun i t ht => ?_⟩
 obtain ⟨b, off, ha, c0, c1, c2⟩ := h3 i t ht
 exact ⟨b, off, ha, cell_keep hb (Nat.le_refl _) c0, cell_keep hb (Nat.le_refl _) c1, cell_keep hb (Nat.le_refl _) c2⟩
theorem below_step {w w1 w2 : World} (h : Below w.heap.size w w1) (k : Below w1.heap.size w1 w2) : Below w.heap.size w w2 :=
 h.trans (k.mono h.size)
def sumS : List Tri → Nat
 | [] => 0
 | t :: r => t.s.size + sumS r
def szTris (l : List Tri) : Nat := l.length + sumS l
def inB (n lo hi : Int) : Bool := decide (lo ≤ n) && decide (n ≤ hi)
def chB (c : Int) : Bool := (decide (97 ≤ c) && decide (c ≤ 122)) || ((decide (48 ≤ c) && decide (c ≤ 57)) || decide (c = 45))
def charsB (s : ByteArray) : Bool := s.data.toList.all fun c => chB c.toNat
def nameB (s : ByteArray) : Bool := inB s.size 1 8 && charsB s
def geB (s t : ByteArray) : Bool := !Op.bytesLess s.toList t.toList
theorem charsB_true {s : ByteArray} (h : ∀ k (hk : k < s.size), chB (s[k].toNat) = true) : charsB s = true := by
 unfold charsB
 rw [List.all_eq_true]
 intro c hc
 obtain ⟨k, hk, rfl⟩ := List.getElem_of_mem hc
 exact h k (by simpa using hk)
theorem charsB_false {s : ByteArray} {k : Nat} (hk : k < s.size) (h : chB (s[k].toNat) = false) : charsB s = false := by
 unfold charsB
 rw [List.all_eq_false]
 exact ⟨s[k], by simp [ByteArray.getElem_eq_getElem_data], by simp [h]⟩
def allB (n : Nat) (P : Nat → Bool) : Bool := (List.range n).all P
theorem allB_true {n : Nat} {P : Nat → Bool} (h : ∀ j, j < n → P j = true) : allB n P = true := by
 simp [allB]; exact h
theorem allB_false {n : Nat} {P : Nat → Bool} {j : Nat} (hj : j < n) (h : P j = false) : allB n P = false := by
 simp [allB]; exact ⟨j, hj, h⟩
theorem allB_get {n : Nat} {P : Nat → Bool} (h : allB n P = true) : ∀ j, j < n → P j = true := by
 simpa [allB] using h
theorem allB_and (n : Nat) (P Q : Nat → Bool) : allB n (fun j => P j && Q j) = (allB n P && allB n Q) := by
 rw [Bool.eq_iff_iff]; simp [allB]
 exact ⟨fun h => ⟨fun j hj => (h j hj).1, fun j hj => (h j hj).2⟩, fun h j hj => ⟨h.1 j hj, h.2 j hj⟩⟩
theorem allB_congr {n : Nat} {P Q : Nat → Bool} (h : ∀ j, j < n → P j = Q j) : allB n P = allB n Q := by
 rw [Bool.eq_iff_iff]; simp [allB]
 exact ⟨fun k j hj => (h j hj) ▸ k j hj, fun k j hj => (h j hj).symm ▸ k j hj⟩
def at' (l : List Tri) (i : Nat) : Tri := l.getD i ⟨ByteArray.empty, 0, 0⟩
theorem at_get {l : List Tri} {i : Nat} (h : i < l.length) : l[i]? = some (at' l i) := by
 simp [at', h]
def ascB (l : List Tri) (i : Nat) : Bool := !(decide (0 < i) && geB (at' l (i - 1)).s (at' l i).s)
def paceB (t : Tri) : Bool := decide (1 ≤ t.x) && (decide (t.x ≤ t.y) && decide (t.y ≤ 50))
def insideB (t : Tri) : Bool := inB t.x 0 15 && inB t.y 0 15
def sameB (t u : Tri) : Bool := decide (t.x = u.x) && decide (t.y = u.y)
def takenB (l : List Tri) (i : Nat) (t : Tri) : Bool := !allB i fun k => !sameB (at' l k) t
def namesB (l : List Tri) (most : Nat) : Bool := decide (l.length ≤ most) && allB l.length fun i => nameB (at' l i).s && ascB l i
def kindsB (l : List Tri) : Bool := namesB l 6 && allB l.length fun i => paceB (at' l i)
def pointsB (l : List Tri) : Bool := namesB l 16 && allB l.length fun i => insideB (at' l i) && !takenB l i (at' l i)
def kindOkB (t : Tri) : Bool := nameB t.s && paceB t
def pointOkB (t : Tri) : Bool := nameB t.s && insideB t
theorem kindsB_eq (l : List Tri) : kindsB l = (decide (l.length ≤ 6) && allB l.length fun i => kindOkB (at' l i) && ascB l i) := by
 unfold kindsB namesB
 rw [Bool.and_assoc, ← allB_and]
 congr 1
 refine allB_congr fun j _ => ?_
 unfold kindOkB
 cases nameB (at' l j).s <;> cases ascB l j <;> cases paceB (at' l j) <;> rfl
theorem pointsB_eq (l : List Tri) : pointsB l = (decide (l.length ≤ 16) && allB l.length fun i => (pointOkB (at' l i) && ascB l i) && allB i fun k => !sameB (at' l k) (at' l i)) := by
 unfold pointsB namesB
 rw [Bool.and_assoc, ← allB_and]
 congr 1
 refine allB_congr fun j _ => ?_
 unfold pointOkB takenB
 cases nameB (at' l j).s <;> cases ascB l j <;> cases insideB (at' l j) <;> simp
end Go.Proofs.YtcmgddnckohdaaaGreatDoor
namespace Go.Proofs.YtcmgddnckohdaaaGreatDoor
open Go.RowKit
theorem ret_bool {a b : Bool} (h : a = b) : Ending.returned (.bool a) = .returned (.bool b) := by rw [h]
theorem ret_int {k : IntKind} {a b : Int} (h : a = b) : Ending.returned (.int k a) = .returned (.int k b) := by rw [h]
set_option maxHeartbeats 400000 in
theorem l1In_any (n lo hi : Int) (w : World) :
  Calls Tryz.prog 84 #[.int .i64 n, .int .i64 lo, .int .i64 hi] w fun e w' => e = .returned (.bool (inB n lo hi)) ∧ w' = w := by
 by_cases h1 : lo ≤ n
 ·by_cases h2 : n ≤ hi
  ·have e : inB n lo hi = true := by simp [inB, h1, h2]
   rw [e]; clear e
   go_enter Tryz.func84, Tryz.ntmps84
   go_wp2
   go_ret
   exact ⟨rfl, rfl⟩
  ·have e : inB n lo hi = false := by simp [inB, h1, h2]
   rw [e]; clear e
   go_enter Tryz.func84, Tryz.ntmps84
   go_wp2
   go_ret
   exact ⟨rfl, rfl⟩
 ·have e : inB n lo hi = false := by simp [inB, h1]
  rw [e]; clear e
  go_enter Tryz.func84, Tryz.ntmps84
  go_wp2
  go_ret
  exact ⟨rfl, rfl⟩
set_option maxHeartbeats 400000 in
theorem onSide_any (n : Int) (w : World) :
  Calls Tryz.prog 164 #[.int .i64 n] w fun e w' => e = .returned (.bool (inB n 0 15)) ∧ w' = w := by
 by_cases h1 : 0 ≤ n
 ·by_cases h2 : n < 16
  ·have e : inB n 0 15 = true := by simp [inB, h1]; omega
   rw [e]; clear e
   go_enter Tryz.func164, Tryz.ntmps164
   go_wp2
   go_ret
   exact ⟨rfl, rfl⟩
  ·have e : inB n 0 15 = false := by simp [inB, h1]; omega
   rw [e]; clear e
   go_enter Tryz.func164, Tryz.ntmps164
   go_wp2
   go_ret
   exact ⟨rfl, rfl⟩
 ·have e : inB n 0 15 = false := by simp [inB, h1]
  rw [e]; clear e
  go_enter Tryz.func164, Tryz.ntmps164
  go_wp2
  go_ret
  exact ⟨rfl, rfl⟩
set_option maxHeartbeats 800000 in
theorem nameRune_any (c : Int) (w : World) :
  Calls Tryz.prog 125 #[.int .i32 c] w fun e w' => e = .returned (.bool (chB c)) ∧ w' = w := by
 by_cases h1 : 97 ≤ c
 ·by_cases h2 : c ≤ 122
  ·have e : chB c = true := by simp [chB, h1, h2]
   rw [e]; clear e
   go_enter Tryz.func125, Tryz.ntmps125
   go_wp2
   go_ret
   exact ⟨rfl, rfl⟩
  ·have e : chB c = false := by simp [chB, h1, h2]; omega
   rw [e]; clear e
   have h3 : 48 ≤ c := by omega
   have h4 : ¬ c ≤ 57 := by omega
   have h5 : (c == 45) = false := by simp; omega
   go_enter Tryz.func125, Tryz.ntmps125
   go_wp2
   go_ret
   exact ⟨rfl, rfl⟩
 ·by_cases h3 : 48 ≤ c
  ·by_cases h4 : c ≤ 57
   ·have e : chB c = true := by simp [chB, h1, h3, h4]
    rw [e]; clear e
    go_enter Tryz.func125, Tryz.ntmps125
    go_wp2
    go_ret
    exact ⟨rfl, rfl⟩
   ·have e : chB c = false := by simp [chB, h1, h4]; omega
    rw [e]; clear e
    have h5 : (c == 45) = false := by simp; omega
    go_enter Tryz.func125, Tryz.ntmps125
    go_wp2
    go_ret
    exact ⟨rfl, rfl⟩
  ·by_cases h5 : c = 45
   ·subst h5
    go_enter Tryz.func125, Tryz.ntmps125
    go_wp2
    go_ret
    exact ⟨rfl, rfl⟩
   ·have e : chB c = false := by simp [chB, h1, h3, h5]
    rw [e]; clear e
    have h6 : (c == 45) = false := by simp; omega
    go_enter Tryz.func125, Tryz.ntmps125
    go_wp2
    go_ret
    exact ⟨rfl, rfl⟩
theorem below_iter (w : World) (s : ByteArray) (k : Nat) : Below w.heap.size w (w.iter s k) := (Below.refl _ _).alloc (Nat.le_refl _) _
set_option maxHeartbeats 800000 in
theorem nameOk_any (s : ByteArray) (w : World) (hs : s.size ≤ maxLen) :
  Calls Tryz.prog 74 #[.string s] w fun e w' => e = .returned (.bool (nameB s)) ∧ Below w.heap.size w w' := by
 unfold maxLen at hs
 by_cases h1 : (s.size : Int) < 1
 ·have e : nameB s = false := by simp [nameB, inB]; omega
  rw [e]; clear e
  go_enter Tryz.func74, Tryz.ntmps74
  go_wp2
  go_ret
  exact ⟨rfl, Below.refl _ _⟩
 by_cases h2 : (8 : Int) < s.size
 ·have e : nameB s = false := by simp [nameB, inB]; omega
  rw [e]; clear e
  go_enter Tryz.func74, Tryz.ntmps74
  go_wp2
  go_ret
  exact ⟨rfl, Below.refl _ _⟩
 have e : nameB s = charsB s := by
  have : inB s.size 1 8 = true := by simp [inB]; omega
  simp [nameB, this]
 rw [e]; clear e
 go_enter Tryz.func74, Tryz.ntmps74
 go_wp2
 go_loopw [4] (fun _ wr => ∃ k : Nat, k ≤ s.size ∧ wr = w.iter s k ∧ Hid (∀ j (hj : j < s.size), j < k → chB (s[j].toNat) = true)) (fun _ wr => s.size - wr.iterPos w.heap.size)
 case atStart => exact ⟨0, Nat.zero_le _, rfl, fun j _ hj => absurd hj (Nat.not_lt_zero _)⟩
 case round =>
  obtain ⟨k, hk, rfl, HA⟩ := hrel
  by_cases hlt : k < s.size
  ·by_cases ha : (s[k].toNat) < 128
   ·have hnx : ∀ ty, (Instr.next (.pointer (some ⟨w.heap.size, 0, none⟩)) true ty).run Tryz.prog (w.iter s k) = _ := fun ty => run_next_ascii w s k ty hlt ha
    cases hch : chB (s[k].toNat)
    ·have HC : Hid (chB (s[k].toNat) = false) := hch
     clear hch
     go_wp2_with (go_at_call 125; refine (nameRune_any _ _).mono ?_; rw [HC.out]; rintro e w' ⟨rfl, rfl⟩)
     go_ret
     exact ⟨ret_bool (charsB_false hlt HC.out).symm, below_iter _ _ _⟩
    ·have HC : Hid (chB (s[k].toNat) = true) := hch
     clear hch
     go_wp2_with (go_at_call 125; refine (nameRune_any _ _).mono ?_; rw [HC.out]; rintro e w' ⟨rfl, rfl⟩)
     go_roundw
     case rel => exact ⟨k + 1, by omega, rfl, fun j hj hjk => if h : j = k then by subst h; exact HC.out else HA.out j hj (by omega)⟩
     case measure => simp; omega
   ·have hnx : ∀ ty, (Instr.next (.pointer (some ⟨w.heap.size, 0, none⟩)) true ty).run Tryz.prog (w.iter s k) = _ := fun ty => run_next_any w s k ty hlt
    have hd := (decode_high s k hlt (by omega)).1
    generalize Utf8.decode s k = d at hnx hd
    have HC : Hid (chB (d.1 : Int) = false) := by
     show chB (d.1 : Int) = false
     simp [chB]; omega
    have HD : Hid (chB (s[k].toNat) = false) := by
     show chB (s[k].toNat) = false
     simp [chB]; omega
    go_wp2_with (go_at_call 125; refine (nameRune_any _ _).mono ?_; rw [HC.out]; rintro e w' ⟨rfl, rfl⟩)
    go_ret
    exact ⟨ret_bool (charsB_false hlt HD.out).symm, below_iter _ _ _⟩
  ·have hnx : ∀ ty, (Instr.next (.pointer (some ⟨w.heap.size, 0, none⟩)) true ty).run Tryz.prog (w.iter s k) = _ := fun ty => run_next_end w s k ty hlt
   go_wp2
   go_ret
   exact ⟨ret_bool (charsB_true fun j hj => HA.out j hj (by omega)).symm, below_iter _ _ _⟩
set_option maxHeartbeats 1600000 in
theorem l1NameOk_any (s : ByteArray) (w : World) (hs : s.size ≤ maxLen) :
  Calls Tryz.prog 83 #[.string s] w fun e w' => e = .returned (.bool (nameB s)) ∧ w' = w := by
 unfold maxLen at hs
 cases hin : inB s.size 1 8
 ·have e : nameB s = false := by simp [nameB, hin]
  rw [e]; clear e
  have HI : Hid (inB s.size 1 8 = false) := hin
  clear hin
  go_enter Tryz.func83, Tryz.ntmps83
  go_wp2_with (go_at_call 84; refine (l1In_any _ _ _ _).mono ?_; rw [HI.out]; rintro e w' ⟨rfl, rfl⟩)
  go_ret
  exact ⟨rfl, rfl⟩
 ·have e : nameB s = charsB s := by simp [nameB, hin]
  rw [e]; clear e
  have HI : Hid (inB s.size 1 8 = true) := hin
  clear hin
  go_enter Tryz.func83, Tryz.ntmps83
  go_wp2_with (go_at_call 84; refine (l1In_any _ _ _ _).mono ?_; rw [HI.out]; rintro e w' ⟨rfl, rfl⟩)
  go_loop [3, 4] (fun i _ => ∃ k : Nat, k ≤ s.size ∧ i = .int .i64 k ∧ Hid (∀ j (hj : j < s.size), j < k → chB (s[j].toNat) = true)) (fun i _ => s.size - (intOf i).toNat)
  case atStart => exact ⟨0, Nat.zero_le _, rfl, fun j _ hj => absurd hj (Nat.not_lt_zero _)⟩
  case round =>
   obtain ⟨k, hk, rfl, HA⟩ := hrel
   by_cases hlt : k < s.size
   ·have fin : Hid (chB (s[k].toNat) = true → ∀ j (hj : j < s.size), j < k + 1 → chB (s[j].toNat) = true) := fun h j hj hjk => if e : j = k then by subst e; exact h else HA.out j hj (by omega)
    have bad : Hid (chB (s[k].toNat) = false → charsB s = false) := fun h => charsB_false hlt h
    have hx : ∃ c : Nat, c = s[k].toNat := ⟨_, rfl⟩
    by_cases h1 : (97 : Int) ≤ (s[k].toNat : Int)
    ·by_cases h2 : (s[k].toNat : Int) ≤ 122
     ·go_wp2
      go_round
      case rel => exact ⟨k + 1, by omega, by go_num, fin.out (by simp [chB]; omega)⟩
      case measure => simp [intOf]; omega
     ·have h3 : (48 : Int) ≤ (s[k].toNat : Int) := by omega
      have h4 : ¬ (s[k].toNat : Int) ≤ 57 := by omega
      have h5 : ((s[k].toNat : Int) == 45) = false := by simp; omega
      go_wp2
      go_ret
      exact ⟨ret_bool (bad.out (by simp [chB]; omega)).symm, rfl⟩
    ·by_cases h3 : (48 : Int) ≤ (s[k].toNat : Int)
     ·by_cases h4 : (s[k].toNat : Int) ≤ 57
      ·go_wp2
       go_round
       case rel => exact ⟨k + 1, by omega, by go_num, fin.out (by simp [chB]; omega)⟩
       case measure => simp [intOf]; omega
      ·have h5 : ((s[k].toNat : Int) == 45) = false := by simp; omega
       go_wp2
       go_ret
       exact ⟨ret_bool (bad.out (by simp [chB]; omega)).symm, rfl⟩
     ·by_cases h5 : (s[k].toNat : Int) = 45
      ·have h6 : ((s[k].toNat : Int) == 45) = true := by simp [h5]
       have H5 : Hid ((s[k].toNat : Int) = 45) := h5
       clear h5
       go_wp2
       go_round
       case rel => exact ⟨k + 1, by omega, by go_num, fin.out (by have := H5.out; simp [chB]; omega)⟩
       case measure => simp [intOf]; omega
      ·have h6 : ((s[k].toNat : Int) == 45) = false := by simp; omega
       go_wp2
       go_ret
       exact ⟨ret_bool (bad.out (by simp [chB]; omega)).symm, rfl⟩
   ·go_wp2
    go_ret
    exact ⟨ret_bool (charsB_true fun j hj => HA.out j hj (by omega)).symm, rfl⟩
open Go.RowKit
set_option maxHeartbeats 400000 in
theorem eqKind_any (t : Tri) (w : World) :
  Calls Tryz.prog 148 #[.agg #[.string t.s, .int .i64 t.x, .int .i64 t.y], .agg #[.string t.s, .int .i64 t.x, .int .i64 t.y]] w fun e w' => e = .returned (.bool true) ∧ Below w.heap.size w w' := by
 go_enter Tryz.func148, Tryz.ntmps148
 go_wp2
 all_goals go_ret
 all_goals exact ⟨rfl, ((Below.refl _ _).alloc (Nat.le_refl _) _).alloc (by simp) _⟩
set_option maxHeartbeats 400000 in
theorem eqPoint_any (t : Tri) (w : World) :
  Calls Tryz.prog 149 #[.agg #[.string t.s, .int .i64 t.x, .int .i64 t.y], .agg #[.string t.s, .int .i64 t.x, .int .i64 t.y]] w fun e w' => e = .returned (.bool true) ∧ Below w.heap.size w w' := by
 go_enter Tryz.func149, Tryz.ntmps149
 go_wp2
 all_goals go_ret
 all_goals exact ⟨rfl, ((Below.refl _ _).alloc (Nat.le_refl _) _).alloc (by simp) _⟩
set_option maxHeartbeats 400000 in
theorem kindName_any (t : Tri) (w : World) :
  Calls Tryz.prog 129 #[.agg #[.string t.s, .int .i64 t.x, .int .i64 t.y]] w fun e w' => e = .returned (.string t.s) ∧ Below w.heap.size w w' := by
 go_enter Tryz.func129, Tryz.ntmps129
 go_wp2
 go_ret
 exact ⟨rfl, (Below.refl _ _).alloc (Nat.le_refl _) _⟩
set_option maxHeartbeats 400000 in
theorem pointName_any (t : Tri) (w : World) :
  Calls Tryz.prog 132 #[.agg #[.string t.s, .int .i64 t.x, .int .i64 t.y]] w fun e w' => e = .returned (.string t.s) ∧ Below w.heap.size w w' := by
 go_enter Tryz.func132, Tryz.ntmps132
 go_wp2
 go_ret
 exact ⟨rfl, (Below.refl _ _).alloc (Nat.le_refl _) _⟩
set_option maxHeartbeats 400000 in
theorem paceOk_any (t : Tri) (w : World) :
  Calls Tryz.prog 130 #[.agg #[.string t.s, .int .i64 t.x, .int .i64 t.y]] w fun e w' => e = .returned (.bool (paceB t)) ∧ Below w.heap.size w w' := by
 obtain ⟨s, x, y⟩ := t
 dsimp only
 by_cases h1 : 1 ≤ x
 ·by_cases h2 : x ≤ y
  ·by_cases h3 : y ≤ 50
   ·have e : paceB ⟨s, x, y⟩ = true := by simp [paceB, h1, h2, h3]
    rw [e]; clear e
    go_enter Tryz.func130, Tryz.ntmps130
    go_wp2
    go_ret
    exact ⟨rfl, (Below.refl _ _).alloc (Nat.le_refl _) _⟩
   ·have e : paceB ⟨s, x, y⟩ = false := by simp [paceB, h3]
    rw [e]; clear e
    go_enter Tryz.func130, Tryz.ntmps130
    go_wp2
    go_ret
    exact ⟨rfl, (Below.refl _ _).alloc (Nat.le_refl _) _⟩
  ·have e : paceB ⟨s, x, y⟩ = false := by simp [paceB, h2]
   rw [e]; clear e
   go_enter Tryz.func130, Tryz.ntmps130
   go_wp2
   go_ret
   exact ⟨rfl, (Below.refl _ _).alloc (Nat.le_refl _) _⟩
 ·have e : paceB ⟨s, x, y⟩ = false := by simp [paceB, h1]
  rw [e]; clear e
  go_enter Tryz.func130, Tryz.ntmps130
  go_wp2
  go_ret
  exact ⟨rfl, (Below.refl _ _).alloc (Nat.le_refl _) _⟩
set_option maxHeartbeats 400000 in
theorem inside_any (t : Tri) (w : World) :
  Calls Tryz.prog 133 #[.agg #[.string t.s, .int .i64 t.x, .int .i64 t.y]] w fun e w' => e = .returned (.bool (insideB t)) ∧ Below w.heap.size w w' := by
 obtain ⟨s, x, y⟩ := t
 dsimp only
 cases h1 : inB x 0 15
 ·have e : insideB ⟨s, x, y⟩ = false := by simp [insideB, h1]
  rw [e]; clear e
  have H1 : Hid (inB x 0 15 = false) := h1
  clear h1
  go_enter Tryz.func133, Tryz.ntmps133
  go_wp2_with (go_at_call 164; refine (onSide_any _ _).mono ?_; rw [H1.out]; rintro e w' ⟨rfl, rfl⟩)
  go_ret
  exact ⟨rfl, (Below.refl _ _).alloc (Nat.le_refl _) _⟩
 ·have H1 : Hid (inB x 0 15 = true) := h1
  have e : insideB ⟨s, x, y⟩ = inB y 0 15 := by simp [insideB, h1]
  rw [e]; clear e h1
  go_enter Tryz.func133, Tryz.ntmps133
  go_wp2_with fail
  refine (onSide_any _ _).mono ?_; rw [H1.out]; rintro e w' ⟨rfl, rfl⟩
  go_wp2_with fail
  refine (onSide_any _ _).mono ?_; rintro e w' ⟨rfl, rfl⟩
  go_wp2
  go_ret
  exact ⟨rfl, (Below.refl _ _).alloc (Nat.le_refl _) _⟩
set_option maxHeartbeats 400000 in
theorem l1KindOk_any (t : Tri) (w : World) (hs : t.s.size ≤ maxLen) :
  Calls Tryz.prog 87 #[.agg #[.string t.s, .int .i64 t.x, .int .i64 t.y]] w fun e w' => e = .returned (.bool (kindOkB t)) ∧ Below w.heap.size w w' := by
 obtain ⟨s, x, y⟩ := t
 dsimp only at hs ⊢
 cases h0 : nameB s
 ·have e : kindOkB ⟨s, x, y⟩ = false := by simp [kindOkB, h0]
  have H0 : Hid (nameB s = false) := h0
  rw [e]; clear e h0
  go_enter Tryz.func87, Tryz.ntmps87
  go_wp2_with fail
  refine (l1NameOk_any _ _ hs).mono ?_; rw [H0.out]; rintro e w' ⟨rfl, rfl⟩
  go_wp2
  go_ret
  exact ⟨rfl, (Below.refl _ _).alloc (Nat.le_refl _) _⟩
 ·have H0 : Hid (nameB s = true) := h0
  cases h1 : inB x 1 y
  ·have H1 : Hid (inB x 1 y = false) := h1
   have e : kindOkB ⟨s, x, y⟩ = false := by simp [kindOkB, paceB]; simp [inB] at h1; omega
   rw [e]; clear e h0 h1
   go_enter Tryz.func87, Tryz.ntmps87
   go_wp2_with fail
   refine (l1NameOk_any _ _ hs).mono ?_; rw [H0.out]; rintro e w' ⟨rfl, rfl⟩
   go_wp2_with fail
   refine (l1In_any _ _ _ _).mono ?_; rw [H1.out]; rintro e w' ⟨rfl, rfl⟩
   go_wp2
   go_ret
   exact ⟨rfl, (Below.refl _ _).alloc (Nat.le_refl _) _⟩
  ·have H1 : Hid (inB x 1 y = true) := h1
   have e : kindOkB ⟨s, x, y⟩ = decide (y ≤ 50) := by simp [inB] at h1; simp [kindOkB, paceB, h0, h1]
   rw [e]; clear e h0 h1
   go_enter Tryz.func87, Tryz.ntmps87
   go_wp2_with fail
   refine (l1NameOk_any _ _ hs).mono ?_; rw [H0.out]; rintro e w' ⟨rfl, rfl⟩
   go_wp2_with fail
   refine (l1In_any _ _ _ _).mono ?_; rw [H1.out]; rintro e w' ⟨rfl, rfl⟩
   go_wp2
   go_ret
   exact ⟨rfl, (Below.refl _ _).alloc (Nat.le_refl _) _⟩
set_option maxHeartbeats 400000 in
theorem l1PointOk_any (t : Tri) (w : World) (hs : t.s.size ≤ maxLen) :
  Calls Tryz.prog 88 #[.agg #[.string t.s, .int .i64 t.x, .int .i64 t.y]] w fun e w' => e = .returned (.bool (pointOkB t)) ∧ Below w.heap.size w w' := by
 obtain ⟨s, x, y⟩ := t
 dsimp only at hs ⊢
 cases h0 : nameB s
 ·have e : pointOkB ⟨s, x, y⟩ = false := by simp [pointOkB, h0]
  have H0 : Hid (nameB s = false) := h0
  rw [e]; clear e h0
  go_enter Tryz.func88, Tryz.ntmps88
  go_wp2_with fail
  refine (l1NameOk_any _ _ hs).mono ?_; rw [H0.out]; rintro e w' ⟨rfl, rfl⟩
  go_wp2
  go_ret
  exact ⟨rfl, (Below.refl _ _).alloc (Nat.le_refl _) _⟩
 ·have H0 : Hid (nameB s = true) := h0
  cases h1 : inB x 0 15
  ·have H1 : Hid (inB x 0 15 = false) := h1
   have e : pointOkB ⟨s, x, y⟩ = false := by simp [pointOkB, insideB, h1]
   rw [e]; clear e h0 h1
   go_enter Tryz.func88, Tryz.ntmps88
   go_wp2_with fail
   refine (l1NameOk_any _ _ hs).mono ?_; rw [H0.out]; rintro e w' ⟨rfl, rfl⟩
   go_wp2_with fail
   refine (l1In_any _ _ _ _).mono ?_; rw [H1.out]; rintro e w' ⟨rfl, rfl⟩
   go_wp2
   go_ret
   exact ⟨rfl, (Below.refl _ _).alloc (Nat.le_refl _) _⟩
  ·have H1 : Hid (inB x 0 15 = true) := h1
   have e : pointOkB ⟨s, x, y⟩ = inB y 0 15 := by simp [pointOkB, insideB, h0, h1]
   rw [e]; clear e h0 h1
   go_enter Tryz.func88, Tryz.ntmps88
   go_wp2_with fail
   refine (l1NameOk_any _ _ hs).mono ?_; rw [H0.out]; rintro e w' ⟨rfl, rfl⟩
   go_wp2_with fail
   refine (l1In_any _ _ _ _).mono ?_; rw [H1.out]; rintro e w' ⟨rfl, rfl⟩
   go_wp2_with fail
   refine (l1In_any _ _ _ _).mono ?_; rintro e w' ⟨rfl, rfl⟩
   go_wp2
   go_ret
   exact ⟨rfl, (Below.refl _ _).alloc (Nat.le_refl _) _⟩
end Go.Proofs.YtcmgddnckohdaaaGreatDoor
