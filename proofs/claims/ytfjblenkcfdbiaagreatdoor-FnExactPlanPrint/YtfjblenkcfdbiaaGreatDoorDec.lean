
/-
  Decimals read: impl's readDecimal and the specification's l2Number.
-/
import Derived.Test.YtfjblenkcfdbiaaGreatDoorLeaf
namespace Go.Proofs.YtfjblenkcfdbiaaGreatDoor
open Go.RowKit

def digB (c : Int) : Bool := decide (48 ≤ c) && decide (c ≤ 57)
/-- The number of the first k digits. -/
def numTo (s : ByteArray) : Nat → Nat
  | 0 => 0
  | k + 1 => numTo s k * 10 + ((s.data.toList.getD k 0).toNat - 48)
def digitsB (s : ByteArray) : Bool := s.data.toList.all fun c => digB c.toNat
def leadB (s : ByteArray) : Bool := decide (1 < s.size) && (s.data.toList.getD 0 0).toNat == 48
/-- A decimal of at most seven digits. -/
def decB (s : ByteArray) : Bool := inB s.size 1 7 && (!leadB s && digitsB s)

theorem getD_byte {s : ByteArray} {k : Nat} (hk : k < s.size) : s.data.toList.getD k 0 = s[k] := by
  have h : k < s.data.size := hk
  rw [List.getD, Array.getElem?_toList, Array.getElem?_eq_getElem h]; rfl
theorem digitsB_true {s : ByteArray} (h : ∀ k (hk : k < s.size), digB (s[k].toNat) = true) : digitsB s = true := by
  unfold digitsB
  rw [List.all_eq_true]
  intro c hc
  obtain ⟨k, hk, rfl⟩ := List.getElem_of_mem hc
  exact h k (by simpa using hk)
theorem digitsB_false {s : ByteArray} {k : Nat} (hk : k < s.size) (h : digB (s[k].toNat) = false) : digitsB s = false := by
  unfold digitsB
  rw [List.all_eq_false]
  exact ⟨s[k], by simp [ByteArray.getElem_eq_getElem_data], by simp [h]⟩
theorem digB_iff {c : Int} : digB c = true ↔ 48 ≤ c ∧ c ≤ 57 := by simp [digB]
theorem numTo_lt {s : ByteArray} : ∀ (k : Nat), k ≤ s.size → (∀ j (hj : j < s.size), j < k → digB (s[j].toNat) = true) → numTo s k < 10 ^ k
  | 0, _, _ => by simp [numTo]
  | k + 1, hk, h => by
    have ih := numTo_lt k (by omega) (fun j hj hjk => h j hj (by omega))
    have hd := digB_iff.1 (h k (by omega) (by omega))
    rw [numTo, getD_byte (by omega), Nat.pow_succ]
    omega
theorem numTo_seven {s : ByteArray} (k : Nat) (hs : s.size ≤ 7) (hk : k ≤ s.size) (h : ∀ j (hj : j < s.size), j < k → digB (s[j].toNat) = true) : numTo s k < 10000000 :=
  Nat.lt_of_lt_of_le (numTo_lt k hk h) (Nat.pow_le_pow_right (by omega) (by omega : k ≤ 7))

theorem u8_zero (c : UInt8) : (((c.toNat : Nat) : Int) == 48) = (c.toNat == 48) := by
  rw [Bool.eq_iff_iff]; simp only [beq_iff_eq]; omega

set_option maxHeartbeats 1600000 in
theorem readDecimal_any (s : ByteArray) (w : World) (hs : s.size ≤ maxLen) :
    Calls Tryz.prog 118 #[.string s] w fun e w' => e = .returned (.tuple #[.int .i64 (bif decB s then (numTo s s.size : Int) else 0), .bool (decB s)]) ∧ Below w.heap.size w w' := by
  unfold maxLen at hs
  by_cases h1 : (s.size : Int) < 1
  · have e : decB s = false := by simp [decB, inB]; omega
    rw [e]; clear e
    go_enter Tryz.func118, Tryz.ntmps118
    go_wp2
    go_ret2
    exact ⟨rfl, Below.refl _ _⟩
  by_cases h2 : (7 : Int) < s.size
  · have e : decB s = false := by simp [decB, inB]; omega
    rw [e]; clear e
    go_enter Tryz.func118, Tryz.ntmps118
    go_wp2
    go_ret2
    exact ⟨rfl, Below.refl _ _⟩
  have hin : inB s.size 1 7 = true := by simp [inB]; omega
  have hz : 0 < s.size := by omega
  cases hl : leadB s
  · have e : decB s = digitsB s := by simp [decB, hin, hl]
    have HL : Hid (leadB s = false) := hl
    rw [e]; clear e hin
    have hsz7 : s.size ≤ 7 := by omega
    by_cases h3 : (1 : Int) < s.size
    · have h4 : (((s[0].toNat : Nat) : Int) == 48) = false := by
        rw [u8_zero]
        have : 1 < s.size := by omega
        simp only [leadB, this, decide_true, Bool.true_and, getD_byte hz] at hl
        exact hl
      clear hl
      go_enter Tryz.func118, Tryz.ntmps118
      go_wp2
      go_loopw [4, 6] (fun n _ wr => ∃ k : Nat, k ≤ s.size ∧ wr = w.iter s k ∧ n = .int .i64 (numTo s k : Int) ∧ Hid (∀ j (hj : j < s.size), j < k → digB (s[j].toNat) = true)) (fun _ _ wr => s.size - wr.iterPos w.heap.size)
      case atStart => exact ⟨0, Nat.zero_le _, rfl, rfl, fun j _ hj => absurd hj (Nat.not_lt_zero _)⟩
      case round =>
        obtain ⟨k, hk, rfl, rfl, HA⟩ := hrel
        by_cases hlt : k < s.size
        · have hn7 : numTo s k < 10000000 := numTo_seven k hsz7 hk HA.out
          have HS : Hid (numTo s (k + 1) = numTo s k * 10 + (s[k].toNat - 48)) := by
            show numTo s (k + 1) = _
            rw [numTo, getD_byte hlt]
          by_cases ha : s[k].toNat < 128
          · have hnx : ∀ ty, (Instr.next (.pointer (some ⟨w.heap.size, 0, none⟩)) true ty).run Tryz.prog (w.iter s k) = _ := fun ty => run_next_ascii w s k ty hlt ha
            generalize hc : s[k].toNat = c at hnx ha HS
            have HC : Hid (s[k].toNat = c) := hc
            clear hc
            generalize numTo s k = nk at hn7 HS
            by_cases h5 : (c : Int) < 48
            · go_wp2
              go_ret2
              have e : digitsB s = false := digitsB_false hlt (by rw [HC.out]; simp [digB]; omega)
              rw [e]
              exact ⟨rfl, below_iter _ _ _⟩
            · by_cases h6 : (57 : Int) < (c : Int)
              · go_wp2
                go_ret2
                have e : digitsB s = false := digitsB_false hlt (by rw [HC.out]; simp [digB]; omega)
                rw [e]
                exact ⟨rfl, below_iter _ _ _⟩
              · go_wp2
                go_roundw
                case rel => exact ⟨k + 1, by omega, rfl, by rw [HS.out]; congr 1; omega, fun j hj hjk => if h : j = k then by subst h; rw [HC.out, digB_iff]; omega else HA.out j hj (by omega)⟩
                case measure => simp; omega
          · have hnx : ∀ ty, (Instr.next (.pointer (some ⟨w.heap.size, 0, none⟩)) true ty).run Tryz.prog (w.iter s k) = _ := fun ty => run_next_any w s k ty hlt
            have hd := (decode_high s k hlt (by omega)).1
            generalize Utf8.decode s k = d at hnx hd
            have h5 : ¬ (d.1 : Int) < 48 := by omega
            have h6 : (57 : Int) < (d.1 : Int) := by omega
            have HD : Hid (digitsB s = false) := digitsB_false hlt (by simp [digB]; omega)
            go_wp2
            go_ret2
            rw [HD.out]
            exact ⟨rfl, below_iter _ _ _⟩
        · have hnx : ∀ ty, (Instr.next (.pointer (some ⟨w.heap.size, 0, none⟩)) true ty).run Tryz.prog (w.iter s k) = _ := fun ty => run_next_end w s k ty hlt
          have HT : Hid (digitsB s = true) := digitsB_true fun j hj => HA.out j hj (by omega)
          have HK : Hid (k = s.size) := by show k = s.size; omega
          go_wp2
          go_ret2
          rw [HT.out, HK.out]
          exact ⟨rfl, below_iter _ _ _⟩
    · clear hl
      go_enter Tryz.func118, Tryz.ntmps118
      go_wp2
      go_loopw [4, 6] (fun n _ wr => ∃ k : Nat, k ≤ s.size ∧ wr = w.iter s k ∧ n = .int .i64 (numTo s k : Int) ∧ Hid (∀ j (hj : j < s.size), j < k → digB (s[j].toNat) = true)) (fun _ _ wr => s.size - wr.iterPos w.heap.size)
      case atStart => exact ⟨0, Nat.zero_le _, rfl, rfl, fun j _ hj => absurd hj (Nat.not_lt_zero _)⟩
      case round =>
        obtain ⟨k, hk, rfl, rfl, HA⟩ := hrel
        by_cases hlt : k < s.size
        · have hn7 : numTo s k < 10000000 := numTo_seven k hsz7 hk HA.out
          have HS : Hid (numTo s (k + 1) = numTo s k * 10 + (s[k].toNat - 48)) := by
            show numTo s (k + 1) = _
            rw [numTo, getD_byte hlt]
          by_cases ha : s[k].toNat < 128
          · have hnx : ∀ ty, (Instr.next (.pointer (some ⟨w.heap.size, 0, none⟩)) true ty).run Tryz.prog (w.iter s k) = _ := fun ty => run_next_ascii w s k ty hlt ha
            generalize hc : s[k].toNat = c at hnx ha HS
            have HC : Hid (s[k].toNat = c) := hc
            clear hc
            generalize numTo s k = nk at hn7 HS
            by_cases h5 : (c : Int) < 48
            · go_wp2
              go_ret2
              have e : digitsB s = false := digitsB_false hlt (by rw [HC.out]; simp [digB]; omega)
              rw [e]
              exact ⟨rfl, below_iter _ _ _⟩
            · by_cases h6 : (57 : Int) < (c : Int)
              · go_wp2
                go_ret2
                have e : digitsB s = false := digitsB_false hlt (by rw [HC.out]; simp [digB]; omega)
                rw [e]
                exact ⟨rfl, below_iter _ _ _⟩
              · go_wp2
                go_roundw
                case rel => exact ⟨k + 1, by omega, rfl, by rw [HS.out]; congr 1; omega, fun j hj hjk => if h : j = k then by subst h; rw [HC.out, digB_iff]; omega else HA.out j hj (by omega)⟩
                case measure => simp; omega
          · have hnx : ∀ ty, (Instr.next (.pointer (some ⟨w.heap.size, 0, none⟩)) true ty).run Tryz.prog (w.iter s k) = _ := fun ty => run_next_any w s k ty hlt
            have hd := (decode_high s k hlt (by omega)).1
            generalize Utf8.decode s k = d at hnx hd
            have h5 : ¬ (d.1 : Int) < 48 := by omega
            have h6 : (57 : Int) < (d.1 : Int) := by omega
            have HD : Hid (digitsB s = false) := digitsB_false hlt (by simp [digB]; omega)
            go_wp2
            go_ret2
            rw [HD.out]
            exact ⟨rfl, below_iter _ _ _⟩
        · have hnx : ∀ ty, (Instr.next (.pointer (some ⟨w.heap.size, 0, none⟩)) true ty).run Tryz.prog (w.iter s k) = _ := fun ty => run_next_end w s k ty hlt
          have HT : Hid (digitsB s = true) := digitsB_true fun j hj => HA.out j hj (by omega)
          have HK : Hid (k = s.size) := by show k = s.size; omega
          go_wp2
          go_ret2
          rw [HT.out, HK.out]
          exact ⟨rfl, below_iter _ _ _⟩
  · have e : decB s = false := by simp [decB, hl]
    have h3 : (1 : Int) < s.size := by
      have : 1 < s.size := by simp [leadB] at hl; exact hl.1
      omega
    have h4 : (((s[0].toNat : Nat) : Int) == 48) = true := by
      rw [u8_zero]
      simp only [leadB, Bool.and_eq_true, getD_byte hz] at hl
      exact hl.2
    rw [e]; clear e hl hin
    go_enter Tryz.func118, Tryz.ntmps118
    go_wp2
    go_ret2
    exact ⟨rfl, Below.refl _ _⟩
end Go.Proofs.YtfjblenkcfdbiaaGreatDoor
