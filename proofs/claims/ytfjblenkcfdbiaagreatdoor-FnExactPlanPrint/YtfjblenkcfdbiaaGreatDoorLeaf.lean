
/-
  The small functions: what each answers, at every argument; nothing that was there is turned.
-/
import Derived.Test.YtfjblenkcfdbiaaGreatDoorRows
import Derived.Test.YtfjblenkcfdbiaaGreatDoorPure
import Derived.Lib.OthersKept
namespace Go.Proofs.YtfjblenkcfdbiaaGreatDoor
open Go.RowKit

theorem ret_bool {a b : Bool} (h : a = b) : Ending.returned (.bool a) = .returned (.bool b) := by rw [h]
theorem ret_int {k : IntKind} {a b : Int} (h : a = b) : Ending.returned (.int k a) = .returned (.int k b) := by rw [h]

set_option maxHeartbeats 400000 in
theorem l1In_any (n lo hi : Int) (w : World) :
    Calls Tryz.prog 47 #[.int .i64 n, .int .i64 lo, .int .i64 hi] w fun e w' => e = .returned (.bool (inB n lo hi)) ∧ w' = w := by
  by_cases h1 : lo ≤ n
  · by_cases h2 : n ≤ hi
    · have e : inB n lo hi = true := by simp [inB, h1, h2]
      rw [e]; clear e
      go_enter Tryz.func47, Tryz.ntmps47
      go_wp2
      go_ret
      exact ⟨rfl, rfl⟩
    · have e : inB n lo hi = false := by simp [inB, h1, h2]
      rw [e]; clear e
      go_enter Tryz.func47, Tryz.ntmps47
      go_wp2
      go_ret
      exact ⟨rfl, rfl⟩
  · have e : inB n lo hi = false := by simp [inB, h1]
    rw [e]; clear e
    go_enter Tryz.func47, Tryz.ntmps47
    go_wp2
    go_ret
    exact ⟨rfl, rfl⟩

set_option maxHeartbeats 400000 in
theorem onSide_any (n : Int) (w : World) :
    Calls Tryz.prog 123 #[.int .i64 n] w fun e w' => e = .returned (.bool (inB n 0 15)) ∧ w' = w := by
  by_cases h1 : 0 ≤ n
  · by_cases h2 : n < 16
    · have e : inB n 0 15 = true := by simp [inB, h1]; omega
      rw [e]; clear e
      go_enter Tryz.func123, Tryz.ntmps123
      go_wp2
      go_ret
      exact ⟨rfl, rfl⟩
    · have e : inB n 0 15 = false := by simp [inB, h1]; omega
      rw [e]; clear e
      go_enter Tryz.func123, Tryz.ntmps123
      go_wp2
      go_ret
      exact ⟨rfl, rfl⟩
  · have e : inB n 0 15 = false := by simp [inB, h1]
    rw [e]; clear e
    go_enter Tryz.func123, Tryz.ntmps123
    go_wp2
    go_ret
    exact ⟨rfl, rfl⟩

set_option maxHeartbeats 800000 in
theorem nameRune_any (c : Int) (w : World) :
    Calls Tryz.prog 92 #[.int .i32 c] w fun e w' => e = .returned (.bool (chB c)) ∧ w' = w := by
  by_cases h1 : 97 ≤ c
  · by_cases h2 : c ≤ 122
    · have e : chB c = true := by simp [chB, h1, h2]
      rw [e]; clear e
      go_enter Tryz.func92, Tryz.ntmps92
      go_wp2
      go_ret
      exact ⟨rfl, rfl⟩
    · have e : chB c = false := by simp [chB, h1, h2]; omega
      rw [e]; clear e
      have h3 : 48 ≤ c := by omega
      have h4 : ¬ c ≤ 57 := by omega
      have h5 : (c == 45) = false := by simp; omega
      go_enter Tryz.func92, Tryz.ntmps92
      go_wp2
      go_ret
      exact ⟨rfl, rfl⟩
  · by_cases h3 : 48 ≤ c
    · by_cases h4 : c ≤ 57
      · have e : chB c = true := by simp [chB, h1, h3, h4]
        rw [e]; clear e
        go_enter Tryz.func92, Tryz.ntmps92
        go_wp2
        go_ret
        exact ⟨rfl, rfl⟩
      · have e : chB c = false := by simp [chB, h1, h4]; omega
        rw [e]; clear e
        have h5 : (c == 45) = false := by simp; omega
        go_enter Tryz.func92, Tryz.ntmps92
        go_wp2
        go_ret
        exact ⟨rfl, rfl⟩
    · by_cases h5 : c = 45
      · subst h5
        go_enter Tryz.func92, Tryz.ntmps92
        go_wp2
        go_ret
        exact ⟨rfl, rfl⟩
      · have e : chB c = false := by simp [chB, h1, h3, h5]
        rw [e]; clear e
        have h6 : (c == 45) = false := by simp; omega
        go_enter Tryz.func92, Tryz.ntmps92
        go_wp2
        go_ret
        exact ⟨rfl, rfl⟩

theorem below_iter (w : World) (s : ByteArray) (k : Nat) : Below w.heap.size w (w.iter s k) := (Below.refl _ _).alloc (Nat.le_refl _) _

set_option maxHeartbeats 800000 in
theorem nameOk_any (s : ByteArray) (w : World) (hs : s.size ≤ maxLen) :
    Calls Tryz.prog 59 #[.string s] w fun e w' => e = .returned (.bool (nameB s)) ∧ Below w.heap.size w w' := by
  unfold maxLen at hs
  by_cases h1 : (s.size : Int) < 1
  · have e : nameB s = false := by simp [nameB, inB]; omega
    rw [e]; clear e
    go_enter Tryz.func59, Tryz.ntmps59
    go_wp2
    go_ret
    exact ⟨rfl, Below.refl _ _⟩
  by_cases h2 : (8 : Int) < s.size
  · have e : nameB s = false := by simp [nameB, inB]; omega
    rw [e]; clear e
    go_enter Tryz.func59, Tryz.ntmps59
    go_wp2
    go_ret
    exact ⟨rfl, Below.refl _ _⟩
  have e : nameB s = charsB s := by
    have : inB s.size 1 8 = true := by simp [inB]; omega
    simp [nameB, this]
  rw [e]; clear e
  go_enter Tryz.func59, Tryz.ntmps59
  go_wp2
  go_loopw [4] (fun _ wr => ∃ k : Nat, k ≤ s.size ∧ wr = w.iter s k ∧ Hid (∀ j (hj : j < s.size), j < k → chB (s[j].toNat) = true)) (fun _ wr => s.size - wr.iterPos w.heap.size)
  case atStart => exact ⟨0, Nat.zero_le _, rfl, fun j _ hj => absurd hj (Nat.not_lt_zero _)⟩
  case round =>
    obtain ⟨k, hk, rfl, HA⟩ := hrel
    by_cases hlt : k < s.size
    · by_cases ha : (s[k].toNat) < 128
      · have hnx : ∀ ty, (Instr.next (.pointer (some ⟨w.heap.size, 0, none⟩)) true ty).run Tryz.prog (w.iter s k) = _ := fun ty => run_next_ascii w s k ty hlt ha
        cases hch : chB (s[k].toNat)
        · have HC : Hid (chB (s[k].toNat) = false) := hch
          clear hch
          go_wp2_with (go_at_call 92; refine (nameRune_any _ _).mono ?_; rw [HC.out]; rintro e w' ⟨rfl, rfl⟩)
          go_ret
          exact ⟨ret_bool (charsB_false hlt HC.out).symm, below_iter _ _ _⟩
        · have HC : Hid (chB (s[k].toNat) = true) := hch
          clear hch
          go_wp2_with (go_at_call 92; refine (nameRune_any _ _).mono ?_; rw [HC.out]; rintro e w' ⟨rfl, rfl⟩)
          go_roundw
          case rel => exact ⟨k + 1, by omega, rfl, fun j hj hjk => if h : j = k then by subst h; exact HC.out else HA.out j hj (by omega)⟩
          case measure => simp; omega
      · have hnx : ∀ ty, (Instr.next (.pointer (some ⟨w.heap.size, 0, none⟩)) true ty).run Tryz.prog (w.iter s k) = _ := fun ty => run_next_any w s k ty hlt
        have hd := (decode_high s k hlt (by omega)).1
        generalize Utf8.decode s k = d at hnx hd
        have HC : Hid (chB (d.1 : Int) = false) := by
          show chB (d.1 : Int) = false
          simp [chB]; omega
        have HD : Hid (chB (s[k].toNat) = false) := by
          show chB (s[k].toNat) = false
          simp [chB]; omega
        go_wp2_with (go_at_call 92; refine (nameRune_any _ _).mono ?_; rw [HC.out]; rintro e w' ⟨rfl, rfl⟩)
        go_ret
        exact ⟨ret_bool (charsB_false hlt HD.out).symm, below_iter _ _ _⟩
    · have hnx : ∀ ty, (Instr.next (.pointer (some ⟨w.heap.size, 0, none⟩)) true ty).run Tryz.prog (w.iter s k) = _ := fun ty => run_next_end w s k ty hlt
      go_wp2
      go_ret
      exact ⟨ret_bool (charsB_true fun j hj => HA.out j hj (by omega)).symm, below_iter _ _ _⟩

set_option maxHeartbeats 1600000 in
theorem l1NameOk_any (s : ByteArray) (w : World) (hs : s.size ≤ maxLen) :
    Calls Tryz.prog 46 #[.string s] w fun e w' => e = .returned (.bool (nameB s)) ∧ w' = w := by
  unfold maxLen at hs
  cases hin : inB s.size 1 8
  · have e : nameB s = false := by simp [nameB, hin]
    rw [e]; clear e
    have HI : Hid (inB s.size 1 8 = false) := hin
    clear hin
    go_enter Tryz.func46, Tryz.ntmps46
    go_wp2_with (go_at_call 47; refine (l1In_any _ _ _ _).mono ?_; rw [HI.out]; rintro e w' ⟨rfl, rfl⟩)
    go_ret
    exact ⟨rfl, rfl⟩
  · have e : nameB s = charsB s := by simp [nameB, hin]
    rw [e]; clear e
    have HI : Hid (inB s.size 1 8 = true) := hin
    clear hin
    go_enter Tryz.func46, Tryz.ntmps46
    go_wp2_with (go_at_call 47; refine (l1In_any _ _ _ _).mono ?_; rw [HI.out]; rintro e w' ⟨rfl, rfl⟩)
    go_loop [3, 4] (fun i _ => ∃ k : Nat, k ≤ s.size ∧ i = .int .i64 k ∧ Hid (∀ j (hj : j < s.size), j < k → chB (s[j].toNat) = true)) (fun i _ => s.size - (intOf i).toNat)
    case atStart => exact ⟨0, Nat.zero_le _, rfl, fun j _ hj => absurd hj (Nat.not_lt_zero _)⟩
    case round =>
      obtain ⟨k, hk, rfl, HA⟩ := hrel
      by_cases hlt : k < s.size
      · have fin : Hid (chB (s[k].toNat) = true → ∀ j (hj : j < s.size), j < k + 1 → chB (s[j].toNat) = true) := fun h j hj hjk => if e : j = k then by subst e; exact h else HA.out j hj (by omega)
        have bad : Hid (chB (s[k].toNat) = false → charsB s = false) := fun h => charsB_false hlt h
        have hx : ∃ c : Nat, c = s[k].toNat := ⟨_, rfl⟩
        by_cases h1 : (97 : Int) ≤ (s[k].toNat : Int)
        · by_cases h2 : (s[k].toNat : Int) ≤ 122
          · go_wp2
            go_round
            case rel => exact ⟨k + 1, by omega, by go_num, fin.out (by simp [chB]; omega)⟩
            case measure => simp [intOf]; omega
          · have h3 : (48 : Int) ≤ (s[k].toNat : Int) := by omega
            have h4 : ¬ (s[k].toNat : Int) ≤ 57 := by omega
            have h5 : ((s[k].toNat : Int) == 45) = false := by simp; omega
            go_wp2
            go_ret
            exact ⟨ret_bool (bad.out (by simp [chB]; omega)).symm, rfl⟩
        · by_cases h3 : (48 : Int) ≤ (s[k].toNat : Int)
          · by_cases h4 : (s[k].toNat : Int) ≤ 57
            · go_wp2
              go_round
              case rel => exact ⟨k + 1, by omega, by go_num, fin.out (by simp [chB]; omega)⟩
              case measure => simp [intOf]; omega
            · have h5 : ((s[k].toNat : Int) == 45) = false := by simp; omega
              go_wp2
              go_ret
              exact ⟨ret_bool (bad.out (by simp [chB]; omega)).symm, rfl⟩
          · by_cases h5 : (s[k].toNat : Int) = 45
            · have h6 : ((s[k].toNat : Int) == 45) = true := by simp [h5]
              have H5 : Hid ((s[k].toNat : Int) = 45) := h5
              clear h5
              go_wp2
              go_round
              case rel => exact ⟨k + 1, by omega, by go_num, fin.out (by have := H5.out; simp [chB]; omega)⟩
              case measure => simp [intOf]; omega
            · have h6 : ((s[k].toNat : Int) == 45) = false := by simp; omega
              go_wp2
              go_ret
              exact ⟨ret_bool (bad.out (by simp [chB]; omega)).symm, rfl⟩
      · go_wp2
        go_ret
        exact ⟨ret_bool (charsB_true fun j hj => HA.out j hj (by omega)).symm, rfl⟩
end Go.Proofs.YtfjblenkcfdbiaaGreatDoor
