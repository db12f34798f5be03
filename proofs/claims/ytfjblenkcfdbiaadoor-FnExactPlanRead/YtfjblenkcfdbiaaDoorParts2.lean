
/-
  Plain facts: a decimal that is read and written again is the same text; a form that is read is the form of what is read.
-/
import Derived.Test.YtfjblenkcfdbiaaDoorParts
namespace Go.Proofs.YtfjblenkcfdbiaaDoor
open Go.RowKit

theorem what_cases (b : ByteArray) : (whatI b = 0 ∧ b ≠ wKind ∧ b ≠ wTime ∧ b ≠ wLevel ∧ b ≠ wRoute ∧ b ≠ wState) ∨ (whatI b = 1 ∧ b = wKind) ∨ (whatI b = 2 ∧ b = wTime) ∨ (whatI b = 3 ∧ b = wLevel) ∨ (whatI b = 4 ∧ b = wRoute) ∨ (whatI b = 5 ∧ b = wState) := by
  unfold whatI
  split
  · exact .inr (.inl ⟨rfl, by assumption⟩)
  split
  · exact .inr (.inr (.inl ⟨rfl, by assumption⟩))
  split
  · exact .inr (.inr (.inr (.inl ⟨rfl, by assumption⟩)))
  split
  · exact .inr (.inr (.inr (.inr (.inl ⟨rfl, by assumption⟩))))
  split
  · exact .inr (.inr (.inr (.inr (.inr ⟨rfl, by assumption⟩))))
  · exact .inl ⟨rfl, by assumption, by assumption, by assumption, by assumption, by assumption⟩
theorem what_word {b : ByteArray} (h : inB (whatI b) 1 5 = true) : wordS (whatI b) = b := by
  rcases what_cases b with ⟨e, _⟩ | ⟨e, rfl⟩ | ⟨e, rfl⟩ | ⟨e, rfl⟩ | ⟨e, rfl⟩ | ⟨e, rfl⟩
  · rw [e] at h; cases h
  all_goals (rw [e]; rfl)

theorem dec_step (m d : Nat) (hm : 1 ≤ m) (hd : d < 10) : Lib.decDigits (m * 10 + d) = Lib.decDigits m ++ [UInt8.ofNat (48 + d)] := by
  rw [Lib.decDigits, dif_neg (by omega), show (m * 10 + d) / 10 = m by omega, show (m * 10 + d) % 10 = d by omega]
theorem u8_back (c : UInt8) (h : 48 ≤ c.toNat) : UInt8.ofNat (48 + (c.toNat - 48)) = c := by
  rw [show 48 + (c.toNat - 48) = c.toNat by omega]
  exact UInt8.ofNat_toNat
theorem take_one (s : ByteArray) (k : Nat) (h : k < s.size) : (bytes s).take (k + 1) = (bytes s).take k ++ [s[k]] := by
  have hl : k < (bytes s).length := by rw [bytes_length]; exact h
  rw [List.take_succ_eq_append_getElem hl]
  rfl
theorem dec_num_to {s : ByteArray} (hd : ∀ j (hj : j < s.size), digB (s[j].toNat) = true) (hl : 1 < s.size → ∀ h0 : 0 < s.size, s[0].toNat ≠ 48) : ∀ k, k + 1 ≤ s.size → Lib.decDigits (numTo s (k + 1)) = (bytes s).take (k + 1) ∧ (1 < s.size → 1 ≤ numTo s (k + 1))
  | 0, h => by
    have hb := digB_iff.1 (hd 0 (by omega))
    rw [numTo, numTo, getD_byte (by omega : 0 < s.size), take_one s 0 (by omega)]
    constructor
    · rw [Lib.decDigits_one (by omega), show 48 + (0 * 10 + (s[0].toNat - 48)) = 48 + (s[0].toNat - 48) by omega, u8_back _ (by omega)]
      rfl
    · intro h1
      have := hl h1 (by omega)
      omega
  | k + 1, h => by
    obtain ⟨ih, ih1⟩ := dec_num_to hd hl k (by omega)
    have hb := digB_iff.1 (hd (k + 1) (by omega))
    rw [numTo, getD_byte (by omega : k + 1 < s.size), take_one s (k + 1) (by omega)]
    have h1 := ih1 (by omega)
    refine ⟨?_, fun _ => by omega⟩
    rw [dec_step _ _ h1 (by omega), ih, u8_back _ (by omega)]
theorem digits_at {s : ByteArray} (h : digitsB s = true) : ∀ j (hj : j < s.size), digB (s[j].toNat) = true := by
  intro j hj
  unfold digitsB at h
  rw [List.all_eq_true] at h
  exact h s[j] (by simp [ByteArray.getElem_eq_getElem_data])
theorem dec_num {s : ByteArray} (h : decB s = true) : decS (numTo s s.size) = s := by
  simp only [decB, Bool.and_eq_true, Bool.not_eq_true'] at h
  obtain ⟨hin, hl, hd⟩ := h
  have hz : 0 < s.size := by simp [inB] at hin; omega
  have h1 := (dec_num_to (digits_at hd) (fun h1 h0 e => by
    have : leadB s = true := by
      simp only [leadB, Bool.and_eq_true, getD_byte h0]
      exact ⟨by simpa using h1, by simpa using e⟩
    rw [this] at hl; cases hl) (s.size - 1) (by omega)).1
  rw [show s.size - 1 + 1 = s.size by omega] at h1
  apply bytes_inj
  show Lib.decDigits (numTo s s.size) = bytes s
  rw [h1, List.take_of_length_le (by rw [bytes_length]; omega)]

/-- The number of a decimal; -1 of any other text. -/
def numR (b : ByteArray) : Int := bif decB b then (numTo b b.size : Int) else -1
theorem numR_dec {b : ByteArray} (h : inB (numR b) 1 1000000 = true) : decB b = true := by
  unfold numR at h
  cases hd : decB b
  · rw [hd] at h; cases h
  · rfl
theorem numR_text {b : ByteArray} (h : inB (numR b) 1 1000000 = true) : decS (numR b).toNat = b := by
  have hd := numR_dec h
  unfold numR
  rw [hd]
  exact dec_num hd

def setL : List UInt8 := [115, 101, 116]
theorem bytes_cat (a b : ByteArray) : bytes (cat a b) = bytes a ++ bytes b := by simp [bytes, cat, ByteArray.data_append]
theorem bytes_form (c : Chg) : bytes (formS c) = setL ++ 32 :: (bytes c.f ++ 32 :: (bytes (wordS c.what) ++ 32 :: (bytes (decS c.num.toNat) ++ 32 :: bytes c.v))) := by
  unfold formS
  simp only [bytes_cat]
  have h1 : bytes sSet = [115, 101, 116, 32] := rfl
  have h2 : bytes sSp = [32] := rfl
  rw [h1, h2]
  simp [setL]

/-- Is it a form? -/
def okR (a0 a1 a2 a3 r : List UInt8) : Bool := decide (a0 = setL) && formB ⟨mkS a1, whatI (mkS a2), numR (mkS a3), mkS r⟩

theorem form_iff {s : ByteArray} {a0 a1 a2 a3 r : List UInt8} (hs : bytes s = a0 ++ 32 :: (a1 ++ 32 :: (a2 ++ 32 :: (a3 ++ 32 :: r)))) (h0 : NoSp a0) :
    (theForm ⟨mkS a1, whatI (mkS a2), numR (mkS a3), mkS r⟩ = s) ↔ okR a0 a1 a2 a3 r = true := by
  unfold okR theForm
  cases hf : formB ⟨mkS a1, whatI (mkS a2), numR (mkS a3), mkS r⟩
  · simp only [cond_false, Bool.and_false]
    refine ⟨fun h => ?_, fun h => by cases h⟩
    have := congrArg bytes h
    rw [hs] at this
    simp [bytes] at this
  · simp only [cond_true, Bool.and_true, decide_eq_true_eq]
    have hparts := hf
    simp only [formB, Bool.and_eq_true] at hparts
    obtain ⟨hk, _, hn, _⟩ := hparts
    have e1 := what_word hk
    have e2 := numR_text hn
    constructor
    · intro h
      have hb := congrArg bytes h
      rw [bytes_form, hs] at hb
      exact (sp_inj (by intro c hc; simp [setL] at hc; rcases hc with rfl | rfl | rfl <;> decide) h0 hb).1.symm
    · intro h
      apply bytes_inj
      rw [bytes_form, hs, h]
      simp only [e1, e2, bytes_mkS]
end Go.Proofs.YtfjblenkcfdbiaaDoor
