/-
  Joined: Parts, Parts2.
-/
import Derived.Test.YtibpkhmiahamcaaGreatDoorBl
import Derived.Test.YtibpkhmiahamcaaGreatDoorForm6
import Derived.Lib.Split
import Derived.Lib.CutLaws
import Derived.Lib.IndexBytes

/-
  Plain facts on texts cut at spaces, on decimals written and read, on forms written and read.
-/
namespace Go.Proofs.YtibpkhmiahamcaaGreatDoor
open Go.RowKit

def NoSp (l : List UInt8) : Prop := ∀ c ∈ l, c ≠ 32
theorem first_sp : ∀ l : List UInt8, NoSp l ∨ ∃ a r, l = a ++ 32 :: r ∧ NoSp a
  | [] => .inl (fun c hc => by cases hc)
  | c :: l => by
    by_cases h : c = 32
    · exact .inr ⟨[], l, by simp [h], fun c hc => by cases hc⟩
    · rcases first_sp l with hl | ⟨a, r, rfl, ha⟩
      · exact .inl (fun x hx => (List.mem_cons.1 hx).elim (fun e => by rw [e]; exact h) (hl x))
      · exact .inr ⟨c :: a, r, rfl, fun x hx => (List.mem_cons.1 hx).elim (fun e => by rw [e]; exact h) (ha x)⟩
theorem sp_inj : ∀ {a b r t : List UInt8}, NoSp a → NoSp b → a ++ 32 :: r = b ++ 32 :: t → a = b ∧ r = t
  | [], [], r, t, _, _, h => by simpa using h
  | [], c :: b, r, t, _, hb, h => by
    simp at h
    exact absurd h.1.symm (hb c (by simp))
  | c :: a, [], r, t, ha, _, h => by
    simp at h
    exact absurd h.1 (ha c (by simp))
  | c :: a, d :: b, r, t, ha, hb, h => by
    simp at h
    obtain ⟨rfl, h⟩ := h
    obtain ⟨rfl, rfl⟩ := sp_inj (fun x hx => ha x (by simp [hx])) (fun x hx => hb x (by simp [hx])) h
    exact ⟨rfl, rfl⟩
theorem cut_none : ∀ (l cur : List UInt8), NoSp l → cutA cur l = [cur ++ l]
  | [], cur, _ => by simp [cutA]
  | c :: l, cur, h => by
    rw [cutA, if_neg (h c (by simp)), cut_none l _ (fun x hx => h x (by simp [hx]))]
    simp
theorem cut_some : ∀ (a cur r : List UInt8), NoSp a → cutA cur (a ++ 32 :: r) = (cur ++ a) :: cutA [] r
  | [], cur, r, _ => by simp [cutA]
  | c :: a, cur, r, h => by
    rw [List.cons_append, cutA, if_neg (h c (by simp)), cut_some a _ r (fun x hx => h x (by simp [hx]))]
    simp
theorem cut_pos : ∀ (l cur : List UInt8), 1 ≤ (cutA cur l).length
  | [], _ => by simp [cutA]
  | c :: l, cur => by
    rw [cutA]
    split
    · simp
    · exact cut_pos l _

/-- Either there are fewer than four spaces, or these parts. -/
theorem five (l : List UInt8) : (cutA [] l).length < 5 ∨ ∃ a0 a1 a2 a3 r, l = a0 ++ 32 :: (a1 ++ 32 :: (a2 ++ 32 :: (a3 ++ 32 :: r))) ∧ NoSp a0 ∧ NoSp a1 ∧ NoSp a2 ∧ NoSp a3 := by
  rcases first_sp l with h | ⟨a0, r0, rfl, h0⟩
  · left; rw [cut_none _ _ h]; simp
  rcases first_sp r0 with h | ⟨a1, r1, rfl, h1⟩
  · left; rw [cut_some _ _ _ h0, cut_none _ _ h]; simp
  rcases first_sp r1 with h | ⟨a2, r2, rfl, h2⟩
  · left; rw [cut_some _ _ _ h0, cut_some _ _ _ h1, cut_none _ _ h]; simp
  rcases first_sp r2 with h | ⟨a3, r3, rfl, h3⟩
  · left; rw [cut_some _ _ _ h0, cut_some _ _ _ h1, cut_some _ _ _ h2, cut_none _ _ h]; simp
  exact .inr ⟨a0, a1, a2, a3, r3, rfl, h0, h1, h2, h3⟩

def mkS (l : List UInt8) : ByteArray := ⟨l.toArray⟩
theorem bytes_mkS (l : List UInt8) : bytes (mkS l) = l := rfl
theorem mkS_bytes (s : ByteArray) : mkS (bytes s) = s := bytes_inj (bytes_mkS _)
theorem mkS_size (l : List UInt8) : (mkS l).size = l.length := by rw [← bytes_length]; rfl

theorem idx_none : ∀ l : List UInt8, NoSp l → Lib.indexByte l 32 = -1
  | [], _ => rfl
  | c :: l, h => by
    have hc : (c == 32) = false := by simpa using h c (by simp)
    rw [Lib.indexByte, hc, idx_none l (fun x hx => h x (by simp [hx]))]
    rfl
theorem idx_some : ∀ (a r : List UInt8), NoSp a → Lib.indexByte (a ++ 32 :: r) 32 = a.length
  | [], r, _ => by simp [Lib.indexByte]
  | c :: a, r, h => by
    have hc : (c == 32) = false := by simpa using h c (by simp)
    have ih := idx_some a r (fun x hx => h x (by simp [hx]))
    rw [List.cons_append, Lib.indexByte, hc, ih]
    have : ((a.length : Int) == -1) = false := by simp
    simp [this]
def spS : ByteArray := ⟨#[32]⟩
theorem indexB_eq (s : ByteArray) : Lib.indexB s spS = Lib.indexByte (bytes s) 32 := Lib.index_one _ _
theorem split_none (k : Nat) (s : ByteArray) (h : NoSp (bytes s)) : Lib.splitB spS 0 k s = [s] :=
  Lib.splitB_miss spS 0 k s (by rw [indexB_eq, idx_none _ h])
theorem split_some (k : Nat) (s : ByteArray) (a r : List UInt8) (hs : bytes s = a ++ 32 :: r) (h : NoSp a) : Lib.splitB spS 0 (k + 1) s = mkS a :: Lib.splitB spS 0 k (mkS r) := by
  have hz : s.size = a.length + (r.length + 1) := by rw [← bytes_length, hs]; simp
  rw [Lib.splitB_hit spS 0 k s a.length (by rw [indexB_eq, hs, idx_some _ _ h])]
  have e1 : s.extract 0 (a.length + 0) = mkS a := bytes_inj (by rw [bytes_extract, hs, bytes_mkS]; simp)
  have e2 : s.extract (a.length + spS.size) s.size = mkS r := bytes_inj (by
    have : spS.size = 1 := rfl
    rw [bytes_extract, hs, bytes_mkS, this, hz]
    simp only [List.drop_append, List.drop_succ_cons, show a.length + 1 - a.length = 1 by omega, List.drop_zero]
    rw [List.drop_of_length_le (by omega), List.nil_append, List.take_of_length_le (by omega)])
  rw [e1, e2]
theorem split_le : ∀ (k : Nat) (s : ByteArray), (Lib.splitB spS 0 k s).length ≤ (cutA [] (bytes s)).length
  | 0, s => cut_pos _ _
  | k + 1, s => by
    rcases first_sp (bytes s) with h | ⟨a, r, hs, h⟩
    · rw [split_none _ _ h]; exact cut_pos _ _
    · rw [split_some k s a r hs h, hs, cut_some _ _ _ h]
      have := split_le k (mkS r)
      rw [bytes_mkS] at this
      simpa using this
theorem split_five (s : ByteArray) {a0 a1 a2 a3 r : List UInt8} (hs : bytes s = a0 ++ 32 :: (a1 ++ 32 :: (a2 ++ 32 :: (a3 ++ 32 :: r)))) (h0 : NoSp a0) (h1 : NoSp a1) (h2 : NoSp a2) (h3 : NoSp a3) :
    Lib.splitB spS 0 (min 5 (s.size + 1) - 1) s = [mkS a0, mkS a1, mkS a2, mkS a3, mkS r] := by
  have hz : 4 ≤ s.size := by rw [← bytes_length, hs]; simp; omega
  rw [show min 5 (s.size + 1) - 1 = 4 by omega]
  rw [split_some 3 s _ _ hs h0, split_some 2 _ _ _ (bytes_mkS _) h1, split_some 1 _ _ _ (bytes_mkS _) h2, split_some 0 _ _ _ (bytes_mkS _) h3]
  rfl

/-- What a word says; 0 for what isn't on the table. -/
def whatI (b : ByteArray) : Int := if b = wKind then 1 else if b = wTime then 2 else if b = wLevel then 3 else if b = wRoute then 4 else if b = wState then 5 else 0
end Go.Proofs.YtibpkhmiahamcaaGreatDoor

/-
  Plain facts: a decimal that is read and written again is the same text; a form that is read is the form of what is read.
-/
namespace Go.Proofs.YtibpkhmiahamcaaGreatDoor
open Go.RowKit

theorem what_cases (b : ByteArray) : (whatI b = 0 ∧ b ≠ wKind ∧ b ≠ wTime ∧ b ≠ wLevel ∧ b ≠ wRoute ∧ b ≠ wState) ∨ (whatI b = 1 ∧ b = wKind) ∨ (whatI b = 2 ∧ b = wTime) ∨ (whatI b = 3 ∧ b = wLevel) ∨ (whatI b = 4 ∧ b = wRoute) ∨ (whatI b = 5 ∧ b = wState) := by
  unfold whatI
  split
  · exact .inr (.inl ⟨rfl, by assumption⟩)
  split
  · exact .inr (.inr (.inl ⟨rfl, by assumption⟩))
  split
  · exact .inr (.inr (.inr (.inl ⟨rfl, by assumption⟩)))
  split
  · exact .inr (.inr (.inr (.inr (.inl ⟨rfl, by assumption⟩))))
  split
  · exact .inr (.inr (.inr (.inr (.inr ⟨rfl, by assumption⟩))))
  · exact .inl ⟨rfl, by assumption, by assumption, by assumption, by assumption, by assumption⟩
theorem what_word {b : ByteArray} (h : inB (whatI b) 1 5 = true) : wordS (whatI b) = b := by
  rcases what_cases b with ⟨e, _⟩ | ⟨e, rfl⟩ | ⟨e, rfl⟩ | ⟨e, rfl⟩ | ⟨e, rfl⟩ | ⟨e, rfl⟩
  · rw [e] at h; cases h
  all_goals (rw [e]; rfl)

theorem dec_step (m d : Nat) (hm : 1 ≤ m) (hd : d < 10) : Lib.decDigits (m * 10 + d) = Lib.decDigits m ++ [UInt8.ofNat (48 + d)] := by
  rw [Lib.decDigits, dif_neg (by omega), show (m * 10 + d) / 10 = m by omega, show (m * 10 + d) % 10 = d by omega]
theorem u8_back (c : UInt8) (h : 48 ≤ c.toNat) : UInt8.ofNat (48 + (c.toNat - 48)) = c := by
  rw [show 48 + (c.toNat - 48) = c.toNat by omega]
  exact UInt8.ofNat_toNat
theorem take_one (s : ByteArray) (k : Nat) (h : k < s.size) : (bytes s).take (k + 1) = (bytes s).take k ++ [s[k]] := by
  have hl : k < (bytes s).length := by rw [bytes_length]; exact h
  rw [List.take_succ_eq_append_getElem hl]
  rfl
theorem dec_num_to {s : ByteArray} (hd : ∀ j (hj : j < s.size), digB (s[j].toNat) = true) (hl : 1 < s.size → ∀ h0 : 0 < s.size, s[0].toNat ≠ 48) : ∀ k, k + 1 ≤ s.size → Lib.decDigits (numTo s (k + 1)) = (bytes s).take (k + 1) ∧ (1 < s.size → 1 ≤ numTo s (k + 1))
  | 0, h => by
    have hb := digB_iff.1 (hd 0 (by omega))
    rw [numTo, numTo, getD_byte (by omega : 0 < s.size), take_one s 0 (by omega)]
    constructor
    · rw [Lib.decDigits_one (by omega), show 48 + (0 * 10 + (s[0].toNat - 48)) = 48 + (s[0].toNat - 48) by omega, u8_back _ (by omega)]
      rfl
    · intro h1
      have := hl h1 (by omega)
      omega
  | k + 1, h => by
    obtain ⟨ih, ih1⟩ := dec_num_to hd hl k (by omega)
    have hb := digB_iff.1 (hd (k + 1) (by omega))
    rw [numTo, getD_byte (by omega : k + 1 < s.size), take_one s (k + 1) (by omega)]
    have h1 := ih1 (by omega)
    refine ⟨?_, fun _ => by omega⟩
    rw [dec_step _ _ h1 (by omega), ih, u8_back _ (by omega)]
theorem digits_at {s : ByteArray} (h : digitsB s = true) : ∀ j (hj : j < s.size), digB (s[j].toNat) = true := by
  intro j hj
  unfold digitsB at h
  rw [List.all_eq_true] at h
  exact h s[j] (by simp [ByteArray.getElem_eq_getElem_data])
theorem dec_num {s : ByteArray} (h : decB s = true) : decS (numTo s s.size) = s := by
  simp only [decB, Bool.and_eq_true, Bool.not_eq_true'] at h
  obtain ⟨hin, hl, hd⟩ := h
  have hz : 0 < s.size := by simp [inB] at hin; omega
  have h1 := (dec_num_to (digits_at hd) (fun h1 h0 e => by
    have : leadB s = true := by
      simp only [leadB, Bool.and_eq_true, getD_byte h0]
      exact ⟨by simpa using h1, by simpa using e⟩
    rw [this] at hl; cases hl) (s.size - 1) (by omega)).1
  rw [show s.size - 1 + 1 = s.size by omega] at h1
  apply bytes_inj
  show Lib.decDigits (numTo s s.size) = bytes s
  rw [h1, List.take_of_length_le (by rw [bytes_length]; omega)]

/-- The number of a decimal; -1 of any other text. -/
def numR (b : ByteArray) : Int := bif decB b then (numTo b b.size : Int) else -1
theorem numR_dec {b : ByteArray} (h : inB (numR b) 1 1000000 = true) : decB b = true := by
  unfold numR at h
  cases hd : decB b
  · rw [hd] at h; cases h
  · rfl
theorem numR_text {b : ByteArray} (h : inB (numR b) 1 1000000 = true) : decS (numR b).toNat = b := by
  have hd := numR_dec h
  unfold numR
  rw [hd]
  exact dec_num hd

def setL : List UInt8 := [115, 101, 116]
theorem bytes_cat (a b : ByteArray) : bytes (cat a b) = bytes a ++ bytes b := by simp [bytes, cat, ByteArray.data_append]
theorem bytes_form (c : Chg) : bytes (formS c) = setL ++ 32 :: (bytes c.f ++ 32 :: (bytes (wordS c.what) ++ 32 :: (bytes (decS c.num.toNat) ++ 32 :: bytes c.v))) := by
  unfold formS
  simp only [bytes_cat]
  have h1 : bytes sSet = [115, 101, 116, 32] := rfl
  have h2 : bytes sSp = [32] := rfl
  rw [h1, h2]
  simp [setL]

/-- Is it a form? -/
def okR (a0 a1 a2 a3 r : List UInt8) : Bool := decide (a0 = setL) && formB ⟨mkS a1, whatI (mkS a2), numR (mkS a3), mkS r⟩

theorem form_iff {s : ByteArray} {a0 a1 a2 a3 r : List UInt8} (hs : bytes s = a0 ++ 32 :: (a1 ++ 32 :: (a2 ++ 32 :: (a3 ++ 32 :: r)))) (h0 : NoSp a0) :
    (theForm ⟨mkS a1, whatI (mkS a2), numR (mkS a3), mkS r⟩ = s) ↔ okR a0 a1 a2 a3 r = true := by
  unfold okR theForm
  cases hf : formB ⟨mkS a1, whatI (mkS a2), numR (mkS a3), mkS r⟩
  · simp only [cond_false, Bool.and_false]
    refine ⟨fun h => ?_, fun h => by cases h⟩
    have := congrArg bytes h
    rw [hs] at this
    simp [bytes] at this
  · simp only [cond_true, Bool.and_true, decide_eq_true_eq]
    have hparts := hf
    simp only [formB, Bool.and_eq_true] at hparts
    obtain ⟨hk, _, hn, _⟩ := hparts
    have e1 := what_word hk
    have e2 := numR_text hn
    constructor
    · intro h
      have hb := congrArg bytes h
      rw [bytes_form, hs] at hb
      exact (sp_inj (by intro c hc; simp [setL] at hc; rcases hc with rfl | rfl | rfl <;> decide) h0 hb).1.symm
    · intro h
      apply bytes_inj
      rw [bytes_form, hs, h]
      simp only [e1, e2, bytes_mkS]
end Go.Proofs.YtibpkhmiahamcaaGreatDoor
