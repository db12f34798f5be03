
/-
  Reading a form: what a word says; a copy of a text; two changes held against each other.
-/
import Derived.Test.YtfjblenkcfdbiaaDoorParts2
import Derived.Test.YtfjblenkcfdbiaaDoorDec2
import Derived.Test.YtfjblenkcfdbiaaDoorShelf2
namespace Go.Proofs.YtfjblenkcfdbiaaDoor
open Go.RowKit

theorem strR_eq {a b : ByteArray} (h : a = b) : (a.toList == b.toList) = true := by subst h; simp
theorem strR_ne {a b : ByteArray} (h : ¬ a = b) : (a.toList == b.toList) = false := by
  rw [ByteArray.toList_eq, ByteArray.toList_eq]
  simp only [beq_eq_false_iff_ne, ne_eq]
  exact fun e => h (bytes_inj e)
theorem what_at {b : ByteArray} {k : Nat} (hk : k < 5) (h : wordAt k = b) : whatI b = (k : Int) + 1 := by
  subst h
  have : k = 0 ∨ k = 1 ∨ k = 2 ∨ k = 3 ∨ k = 4 := by omega
  rcases this with rfl | rfl | rfl | rfl | rfl <;> decide
theorem what_none {b : ByteArray} (h : ∀ k : Nat, k < 5 → ¬ wordAt k = b) : whatI b = 0 := by
  have h0 := h 0 (by omega); have h1 := h 1 (by omega); have h2 := h 2 (by omega); have h3 := h 3 (by omega); have h4 := h 4 (by omega)
  rcases what_cases b with ⟨e, _⟩ | ⟨e, rfl⟩ | ⟨e, rfl⟩ | ⟨e, rfl⟩ | ⟨e, rfl⟩ | ⟨e, rfl⟩
  · exact e
  · exact absurd rfl h0
  · exact absurd rfl h1
  · exact absurd rfl h2
  · exact absurd rfl h3
  · exact absurd rfl h4

set_option maxHeartbeats 800000 in
theorem whatOf_any (b : ByteArray) (w : World) (hs : SaidIn w) :
    Calls Tryd.prog 25 #[.string b] w fun e w' => e = .returned (.tuple #[.int .i64 (whatI b), .bool (inB (whatI b) 1 5)]) ∧ Below w.heap.size w w' := by
  obtain ⟨tt, fr, hg⟩ := hs
  go_enter Tryd.func25, Tryd.ntmps25
  go_wp2_with (refine wpList_load_row rfl 49 _ rfl 0 rfl tt saidC fr _ hg Tryd.underlying49 rfl (by kernel_rfl) ?_)
  go_loopw [5, 7] (fun _ i wr => ∃ k : Nat, k ≤ 5 ∧ i = .int .i64 k ∧ Below w.heap.size w wr ∧ Hid (∀ j : Nat, j < k → ¬ wordAt j = b)) (fun _ i _ => 5 - (intOf i).toNat)
  case atStart => exact ⟨0, Nat.zero_le _, rfl, Below.refl _ _, fun j hj => absurd hj (Nat.not_lt_zero _)⟩
  case round =>
    obtain ⟨k, hk, rfl, hb, HA⟩ := hrel
    by_cases hlt : k < 5
    · have hi := idx k hlt
      have hk5 : (k : Int) < 5 := by omega
      by_cases hw : wordAt k = b
      · have h1 : ((wordAt k).toList == b.toList) = true := strR_eq hw
        have HW : Hid (wordAt k = b) := hw
        clear hw
        go_wp2
        go_ret2
        have e2 : whatI b = (k : Int) + 1 := what_at hlt HW.out
        have e1 : inB ((k : Int) + 1) 1 5 = true := by simp [inB]; omega
        rw [e2, e1]
        exact ⟨rfl, hb.alloc hb.size _⟩
      · have h1 : ((wordAt k).toList == b.toList) = false := strR_ne hw
        have HW : Hid (¬ wordAt k = b) := hw
        clear hw
        go_wp2
        exact ⟨⟨k + 1, by omega, by go_num, hb.alloc hb.size _, fun j hj => if e : j = k then by rw [e]; exact HW.out else HA.out j (by omega)⟩, by simp [intOf]; omega⟩
    · have hk5 : ¬ (k : Int) < 5 := by omega
      have H1 : Hid (whatI b = 0) := what_none fun j hj => HA.out j (by omega)
      go_wp2
      go_ret2
      rw [H1.out]
      exact ⟨rfl, hb⟩

theorem cloneR_any (s : ByteArray) (w : World) (hs : s.size ≤ 1048576) :
    Calls Tryd.prog 27 #[.string s] w fun e w' => e = .returned (.string s) ∧ Below w.heap.size w w' := by
  go_enter Tryd.func27, Tryd.ntmps27
  go_wp2_with fail
  refine (Tryd.stringslite_Clone s _ (by omega)).mono ?_
  rintro e w' ⟨rfl, hb⟩
  go_wp2
  go_ret
  exact ⟨rfl, hb⟩

theorem eqChange_same (c : Chg) (w : World) :
    Calls Tryd.prog 11 #[.agg #[.string c.f, .int .i64 c.what, .int .i64 c.num, .string c.v], .agg #[.string c.f, .int .i64 c.what, .int .i64 c.num, .string c.v]] w fun e w' => e = .returned (.bool true) ∧ Below w.heap.size w w' := by
  go_enter Tryd.func11, Tryd.ntmps11
  go_wp2
  go_ret
  exact ⟨rfl, ((Below.refl _ _).alloc (Nat.le_refl _) _).alloc (by simp) _⟩
end Go.Proofs.YtfjblenkcfdbiaaDoor
