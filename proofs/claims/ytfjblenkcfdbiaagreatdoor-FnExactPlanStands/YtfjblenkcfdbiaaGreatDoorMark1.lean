
/-
  The law's marks: the text of a mark.
-/
import Derived.Test.YtfjblenkcfdbiaaGreatDoorOwn
import Derived.Deep.RegionHeld3
namespace Go.Proofs.YtfjblenkcfdbiaaGreatDoor
open Go.RowKit

def oneM (n : Int) : ByteArray := ⟨#[UInt8.ofNat n.toNat]⟩
theorem oneM_size (n : Int) : (oneM n).size = 1 := rfl
theorem convM (w : World) (b : Nat) (n : Int) (h : w.cell? ⟨b, 0, none⟩ = some (.int .u8 n)) :
    (convert 93 9 (.slice (some ⟨b, 0, none⟩) 1 1)).run Tryz.prog w = .ok (.string (oneM n)) w := by
  have := run_convert_bytes_arg (P := Tryz.prog) w 93 5 Tryz.underlying93 Tryz.underlying5 b 0 1 1 [n] rfl (fun i hi => by
    obtain rfl : i = 0 := by omega
    simpa using h) 9 Tryz.underlying9
  simpa [strOfNums, oneM] using this
/-- The digits ahead of what is there. -/
def mkD (k : Nat) (out : ByteArray) : ByteArray := if _h : k = 0 then out else mkD (k / 10) (oneM (48 + (k : Int) % 10) ++ out)
termination_by k
decreasing_by omega
theorem mkD_zero (out : ByteArray) : mkD 0 out = out := by rw [mkD]; simp
theorem mkD_step {k : Nat} (h : ¬ k = 0) (out : ByteArray) : mkD k out = mkD (k / 10) (oneM (48 + (k : Int) % 10) ++ out) := by rw [mkD, dif_neg h]
/-- The text of a mark. -/
def mkT (k : Nat) : ByteArray := if k = 0 then ⟨#[109, 48]⟩ else ⟨#[109]⟩ ++ mkD k ⟨#[]⟩

theorem ret_strM {a b : ByteArray} (h : a = b) : Ending.returned (.string a) = .returned (.string b) := by rw [h]

set_option maxHeartbeats 1600000 in
theorem markText_any (k0 : Nat) (hk : k0 < 10000000000) (w : World) :
    Calls Tryz.prog 77 #[.int .i64 k0] w fun e w' => e = .returned (.string (mkT k0)) ∧ Below w.heap.size w w' := by
  have kc := convM
  by_cases hz : k0 = 0
  · subst hz
    go_enter Tryz.func77, Tryz.ntmps77
    go_wp2
    go_ret
    exact ⟨rfl, Below.refl _ _⟩
  have e : mkT k0 = ⟨#[109]⟩ ++ mkD k0 ⟨#[]⟩ := by unfold mkT; rw [if_neg hz]
  have hz' : ¬ (k0 : Int) ≤ 0 := by omega
  rw [e]; clear e hz
  have HD : Hid (∀ o : ByteArray, o = mkD k0 ⟨#[]⟩ → Ending.returned (.string (⟨#[109]⟩ ++ o)) = .returned (.string (⟨#[109]⟩ ++ mkD k0 ⟨#[]⟩))) := fun o h => by rw [h]
  go_enter Tryz.func77, Tryz.ntmps77
  go_wp2
  go_loopw [0, 3] (fun kk out wr => ∃ (k j : Nat) (o : ByteArray), kk = .int .i64 k ∧ out = .string o ∧ k < 10 ^ j ∧ j ≤ 10 ∧ o.size + j ≤ 10 ∧ Hid (mkD k o = mkD k0 ⟨#[]⟩) ∧ Below w.heap.size w wr) (fun kk _ _ => (intOf kk).toNat)
  case atStart => exact ⟨k0, 10, ⟨#[]⟩, rfl, rfl, by omega, by omega, by decide, rfl, Below.refl _ _⟩
  case round =>
    obtain ⟨k, j, o, rfl, rfl, hj, hj10, ho, HM, hb⟩ := hrel
    by_cases hk0 : k = 0
    · subst hk0
      have HF : Hid (o = mkD k0 ⟨#[]⟩) := by
        have := HM.out; rw [mkD_zero] at this; exact this
      have hsz : ¬ 9223372036854775807 < (⟨#[109]⟩ : ByteArray).size + o.size := by
        have : (⟨#[109]⟩ : ByteArray).size = 1 := rfl
        omega
      go_wp2
      go_ret
      exact ⟨HD.out _ HF.out, hb⟩
    · have hj0 : 0 < j := by
        rcases Nat.eq_zero_or_pos j with rfl | h
        · simp at hj; omega
        · exact h
      have hpos : (0 : Int) < (k : Int) := by omega
      have hkb : k < 10000000000 := Nat.lt_of_lt_of_le hj (by have := Nat.pow_le_pow_right (show 0 < 10 by omega) hj10; omega)
      have HS : Hid (mkD (k / 10) (oneM (48 + (k : Int) % 10) ++ o) = mkD k0 ⟨#[]⟩) := by show _ = _; rw [← mkD_step hk0]; exact HM.out
      have hsz : ¬ 9223372036854775807 < (oneM (48 + (k : Int) % 10)).size + o.size := by rw [oneM_size]; omega
      have hw1 : IntKind.i64.wrap ((k : Int) / 10) = (k : Int) / 10 := by rw [IntKind.wrap_i64]; omega
      have hw3 : IntKind.i64.wrap (48 + (k : Int).tmod 10) = 48 + (k : Int) % 10 := by rw [Int.tmod_eq_emod_of_nonneg (by omega), IntKind.wrap_i64]; omega
      have hw4 : IntKind.u8.wrap (48 + (k : Int) % 10) = 48 + (k : Int) % 10 := by rw [IntKind.wrap_u8]; omega
      have HJ : Hid (k / 10 < 10 ^ (j - 1)) := by
        show _ < _
        obtain ⟨m, rfl⟩ : ∃ m, j = m + 1 := ⟨j - 1, by omega⟩
        rw [Nat.pow_succ] at hj
        simp only [Nat.add_sub_cancel]; omega
      clear hj hk0
      go_wp2
      exact ⟨⟨k / 10, j - 1, _, by simp, rfl, HJ.out, by omega, by rw [ByteArray.size_append, oneM_size]; omega, HS.out, hb.alloc hb.size _⟩, by simp [intOf]; omega⟩
end Go.Proofs.YtfjblenkcfdbiaaGreatDoor
