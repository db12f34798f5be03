
/-
  Plain facts on texts cut at spaces, on decimals written and read, on forms written and read.
-/
import Derived.Test.YtfjblenkcfdbiaaDoorCut
import Derived.Test.YtfjblenkcfdbiaaDoorDec
import Derived.Test.YtfjblenkcfdbiaaDoorForm6
import Derived.Lib.Split
import Derived.Lib.CutLaws
import Derived.Lib.IndexBytes
namespace Go.Proofs.YtfjblenkcfdbiaaDoor
open Go.RowKit

def NoSp (l : List UInt8) : Prop := ∀ c ∈ l, c ≠ 32
theorem first_sp : ∀ l : List UInt8, NoSp l ∨ ∃ a r, l = a ++ 32 :: r ∧ NoSp a
  | [] => .inl (fun c hc => by cases hc)
  | c :: l => by
    by_cases h : c = 32
    · exact .inr ⟨[], l, by simp [h], fun c hc => by cases hc⟩
    · rcases first_sp l with hl | ⟨a, r, rfl, ha⟩
      · exact .inl (fun x hx => (List.mem_cons.1 hx).elim (fun e => by rw [e]; exact h) (hl x))
      · exact .inr ⟨c :: a, r, rfl, fun x hx => (List.mem_cons.1 hx).elim (fun e => by rw [e]; exact h) (ha x)⟩
theorem sp_inj : ∀ {a b r t : List UInt8}, NoSp a → NoSp b → a ++ 32 :: r = b ++ 32 :: t → a = b ∧ r = t
  | [], [], r, t, _, _, h => by simpa using h
  | [], c :: b, r, t, _, hb, h => by
    simp at h
    exact absurd h.1.symm (hb c (by simp))
  | c :: a, [], r, t, ha, _, h => by
    simp at h
    exact absurd h.1 (ha c (by simp))
  | c :: a, d :: b, r, t, ha, hb, h => by
    simp at h
    obtain ⟨rfl, h⟩ := h
    obtain ⟨rfl, rfl⟩ := sp_inj (fun x hx => ha x (by simp [hx])) (fun x hx => hb x (by simp [hx])) h
    exact ⟨rfl, rfl⟩
theorem cut_none : ∀ (l cur : List UInt8), NoSp l → cutA cur l = [cur ++ l]
  | [], cur, _ => by simp [cutA]
  | c :: l, cur, h => by
    rw [cutA, if_neg (h c (by simp)), cut_none l _ (fun x hx => h x (by simp [hx]))]
    simp
theorem cut_some : ∀ (a cur r : List UInt8), NoSp a → cutA cur (a ++ 32 :: r) = (cur ++ a) :: cutA [] r
  | [], cur, r, _ => by simp [cutA]
  | c :: a, cur, r, h => by
    rw [List.cons_append, cutA, if_neg (h c (by simp)), cut_some a _ r (fun x hx => h x (by simp [hx]))]
    simp
theorem cut_pos : ∀ (l cur : List UInt8), 1 ≤ (cutA cur l).length
  | [], _ => by simp [cutA]
  | c :: l, cur => by
    rw [cutA]
    split
    · simp
    · exact cut_pos l _

/-- Either there are fewer than four spaces, or these parts. -/
theorem five (l : List UInt8) : (cutA [] l).length < 5 ∨ ∃ a0 a1 a2 a3 r, l = a0 ++ 32 :: (a1 ++ 32 :: (a2 ++ 32 :: (a3 ++ 32 :: r))) ∧ NoSp a0 ∧ NoSp a1 ∧ NoSp a2 ∧ NoSp a3 := by
  rcases first_sp l with h | ⟨a0, r0, rfl, h0⟩
  · left; rw [cut_none _ _ h]; simp
  rcases first_sp r0 with h | ⟨a1, r1, rfl, h1⟩
  · left; rw [cut_some _ _ _ h0, cut_none _ _ h]; simp
  rcases first_sp r1 with h | ⟨a2, r2, rfl, h2⟩
  · left; rw [cut_some _ _ _ h0, cut_some _ _ _ h1, cut_none _ _ h]; simp
  rcases first_sp r2 with h | ⟨a3, r3, rfl, h3⟩
  · left; rw [cut_some _ _ _ h0, cut_some _ _ _ h1, cut_some _ _ _ h2, cut_none _ _ h]; simp
  exact .inr ⟨a0, a1, a2, a3, r3, rfl, h0, h1, h2, h3⟩

def mkS (l : List UInt8) : ByteArray := ⟨l.toArray⟩
theorem bytes_mkS (l : List UInt8) : bytes (mkS l) = l := rfl
theorem mkS_bytes (s : ByteArray) : mkS (bytes s) = s := bytes_inj (bytes_mkS _)
theorem mkS_size (l : List UInt8) : (mkS l).size = l.length := by rw [← bytes_length]; rfl

theorem idx_none : ∀ l : List UInt8, NoSp l → Lib.indexByte l 32 = -1
  | [], _ => rfl
  | c :: l, h => by
    have hc : (c == 32) = false := by simpa using h c (by simp)
    rw [Lib.indexByte, hc, idx_none l (fun x hx => h x (by simp [hx]))]
    rfl
theorem idx_some : ∀ (a r : List UInt8), NoSp a → Lib.indexByte (a ++ 32 :: r) 32 = a.length
  | [], r, _ => by simp [Lib.indexByte]
  | c :: a, r, h => by
    have hc : (c == 32) = false := by simpa using h c (by simp)
    have ih := idx_some a r (fun x hx => h x (by simp [hx]))
    rw [List.cons_append, Lib.indexByte, hc, ih]
    have : ((a.length : Int) == -1) = false := by simp
    simp [this]
def spS : ByteArray := ⟨#[32]⟩
theorem indexB_eq (s : ByteArray) : Lib.indexB s spS = Lib.indexByte (bytes s) 32 := Lib.index_one _ _
theorem split_none (k : Nat) (s : ByteArray) (h : NoSp (bytes s)) : Lib.splitB spS 0 k s = [s] :=
  Lib.splitB_miss spS 0 k s (by rw [indexB_eq, idx_none _ h])
theorem split_some (k : Nat) (s : ByteArray) (a r : List UInt8) (hs : bytes s = a ++ 32 :: r) (h : NoSp a) : Lib.splitB spS 0 (k + 1) s = mkS a :: Lib.splitB spS 0 k (mkS r) := by
  have hz : s.size = a.length + (r.length + 1) := by rw [← bytes_length, hs]; simp
  rw [Lib.splitB_hit spS 0 k s a.length (by rw [indexB_eq, hs, idx_some _ _ h])]
  have e1 : s.extract 0 (a.length + 0) = mkS a := bytes_inj (by rw [bytes_extract, hs, bytes_mkS]; simp)
  have e2 : s.extract (a.length + spS.size) s.size = mkS r := bytes_inj (by
    have : spS.size = 1 := rfl
    rw [bytes_extract, hs, bytes_mkS, this, hz]
    simp only [List.drop_append, List.drop_succ_cons, show a.length + 1 - a.length = 1 by omega, List.drop_zero]
    rw [List.drop_of_length_le (by omega), List.nil_append, List.take_of_length_le (by omega)])
  rw [e1, e2]
theorem split_le : ∀ (k : Nat) (s : ByteArray), (Lib.splitB spS 0 k s).length ≤ (cutA [] (bytes s)).length
  | 0, s => cut_pos _ _
  | k + 1, s => by
    rcases first_sp (bytes s) with h | ⟨a, r, hs, h⟩
    · rw [split_none _ _ h]; exact cut_pos _ _
    · rw [split_some k s a r hs h, hs, cut_some _ _ _ h]
      have := split_le k (mkS r)
      rw [bytes_mkS] at this
      simpa using this
theorem split_five (s : ByteArray) {a0 a1 a2 a3 r : List UInt8} (hs : bytes s = a0 ++ 32 :: (a1 ++ 32 :: (a2 ++ 32 :: (a3 ++ 32 :: r)))) (h0 : NoSp a0) (h1 : NoSp a1) (h2 : NoSp a2) (h3 : NoSp a3) :
    Lib.splitB spS 0 (min 5 (s.size + 1) - 1) s = [mkS a0, mkS a1, mkS a2, mkS a3, mkS r] := by
  have hz : 4 ≤ s.size := by rw [← bytes_length, hs]; simp; omega
  rw [show min 5 (s.size + 1) - 1 = 4 by omega]
  rw [split_some 3 s _ _ hs h0, split_some 2 _ _ _ (bytes_mkS _) h1, split_some 1 _ _ _ (bytes_mkS _) h2, split_some 0 _ _ _ (bytes_mkS _) h3]
  rfl

/-- What a word says; 0 for what isn't on the table. -/
def whatI (b : ByteArray) : Int := if b = wKind then 1 else if b = wTime then 2 else if b = wLevel then 3 else if b = wRoute then 4 else if b = wState then 5 else 0
end Go.Proofs.YtfjblenkcfdbiaaDoor
