
/-
  Plain facts: texts in the order of their bytes.
-/
import Derived.Test.YtfjblenkcfdbiaaGreatCut
namespace Go.Proofs.YtfjblenkcfdbiaaGreat
open Go.RowKit

theorem bl_irrefl : ∀ a : List UInt8, Op.bytesLess a a = false
  | [] => rfl
  | a :: x => by
    have : ¬ a < a := UInt8.lt_irrefl a
    simp [Op.bytesLess, bl_irrefl x]
theorem bl_trans : ∀ a b c : List UInt8, Op.bytesLess a b = true → Op.bytesLess b c = true → Op.bytesLess a c = true
  | a, b, [], h, k => by cases b <;> simp [Op.bytesLess] at k
  | a, [], c :: z, h, k => by cases a <;> simp [Op.bytesLess] at h
  | [], b :: y, c :: z, h, k => rfl
  | a :: x, b :: y, c :: z, h, k => by
    simp only [Op.bytesLess, Bool.or_eq_true, Bool.and_eq_true, decide_eq_true_eq, beq_iff_eq] at h k ⊢
    rcases h with h | ⟨rfl, h⟩
    · rcases k with k | ⟨rfl, k⟩
      · exact .inl (UInt8.lt_trans h k)
      · exact .inl h
    · rcases k with k | ⟨rfl, k⟩
      · exact .inl k
      · exact .inr ⟨rfl, bl_trans x y z h k⟩
theorem bl_total : ∀ a b : List UInt8, Op.bytesLess a b = false → Op.bytesLess b a = false → a = b
  | [], [], _, _ => rfl
  | [], b :: y, h, _ => by simp [Op.bytesLess] at h
  | a :: x, [], _, k => by simp [Op.bytesLess] at k
  | a :: x, b :: y, h, k => by
    simp only [Op.bytesLess, Bool.or_eq_false_iff, decide_eq_false_iff_not, Bool.and_eq_false_iff, beq_eq_false_iff_ne] at h k
    have e : a = b := by
      have h1 : b ≤ a := UInt8.not_lt.1 h.1
      have h2 : a ≤ b := UInt8.not_lt.1 k.1
      exact UInt8.le_antisymm h2 h1
    subst e
    have h2 : Op.bytesLess x y = false := by rcases h.2 with h | h; exact absurd rfl h; exact h
    have k2 : Op.bytesLess y x = false := by rcases k.2 with k | k; exact absurd rfl k; exact k
    rw [bl_total x y h2 k2]
def blS (a b : ByteArray) : Bool := Op.bytesLess a.toList b.toList
theorem blS_irrefl (a : ByteArray) : blS a a = false := bl_irrefl _
theorem blS_trans {a b c : ByteArray} (h : blS a b = true) (k : blS b c = true) : blS a c = true := bl_trans _ _ _ h k
theorem blS_total {a b : ByteArray} (h : blS a b = false) (k : blS b a = false) : a = b := by
  have := bl_total _ _ h k
  rw [ByteArray.toList_eq, ByteArray.toList_eq] at this
  exact bytes_inj this
end Go.Proofs.YtfjblenkcfdbiaaGreat
