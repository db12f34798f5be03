
/-
  Drawing: lists of changes.
-/
import Derived.Test.YtibpkhmiahamcaaGreatDoorDr7
import Derived.Test.YtibpkhmiahamcaaGreatDoorPut1
import Derived.Test.YtibpkhmiahamcaaGreatDoorApp
namespace Go.Proofs.YtibpkhmiahamcaaGreatDoor.Dr
open Go.RowKit Go.Proofs.YtibpkhmiahamcaaGreatDoor
set_option linter.unusedSimpArgs false
set_option linter.unusedVariables false

theorem grown_own {w W W' : World} {r row : Option Nat} (h : w.grownBy W r) (k : W.grownBy W' row) (hr : ∀ q, row = some q → w.heap.size ≤ q) : w.grownBy W' r :=
  ⟨k.1.trans h.1, k.2.trans h.2, k.3.trans h.3, Nat.le_trans h.4 k.4, fun j hj hn => (k.5 j (Nat.lt_of_lt_of_le hj h.4) (fun e => by have := hr j e.symm; omega)).trans (h.5 j hj hn)⟩
theorem own_geD {w : World} {base : Nat} {e : TypeId} {size : Nat} {v : Value} {n : Nat} {xs : List Value} (h : w.ownsRow base e size v n xs) : ∀ k, v.ownBlock = some k → base ≤ k := by
  intro k hk
  rcases h.2 with ⟨rfl, _⟩ | ⟨g, cap, cur, rfl, hg, _⟩
  · cases hk
  · cases hk; exact hg
theorem own_sliceD {w : World} {base : Nat} {e : TypeId} {size : Nat} {v : Value} {n : Nat} {xs : List Value} (h : w.ownsRow base e size v n xs) : ∃ a c, v = .slice a n c := by
  rcases h.2 with ⟨rfl, h0⟩ | ⟨g, cap, cur, rfl, _⟩
  · exact ⟨none, 0, by rw [h0]⟩
  · exact ⟨_, cap, rfl⟩
theorem own_keepD {w w' : World} {base : Nat} {e : TypeId} {size : Nat} {v : Value} {n : Nat} {xs : List Value} (h : w.ownsRow base e size v n xs) (hb : Below w.heap.size w w') : w'.ownsRow base e size v n xs := by
  obtain ⟨h1, h2⟩ := h
  refine ⟨h1, ?_⟩
  rcases h2 with h2 | ⟨g, cap, cur, hv, hg, hh, rest⟩
  · exact .inl h2
  · exact .inr ⟨g, cap, cur, hv, hg, (hb.block g (Array.getElem?_eq_some_iff.1 hh).1).trans hh, rest⟩
/-- A row behind the reader stays while it draws. -/
theorem own_box {w w' : World} {R base : Nat} {e : TypeId} {size : Nat} {v : Value} {n : Nat} {xs : List Value} (h : w.ownsRow base e size v n xs) (hg : w.grownBy w' (some R)) (hR : R < base) : w'.ownsRow base e size v n xs := by
  obtain ⟨h1, h2⟩ := h
  refine ⟨h1, ?_⟩
  rcases h2 with h2 | ⟨g, cap, cur, hv, hgb, hh, rest⟩
  · exact .inl h2
  · exact .inr ⟨g, cap, cur, hv, hgb, (hg.block g (Array.getElem?_eq_some_iff.1 hh).1 (fun e => by have := Option.some.inj e; omega)).trans hh, rest⟩
/-- A drawn change is small. -/
def SmC (c : Chg) : Prop := c.f.size ≤ 2000 ∧ c.v.size ≤ 2000
/-- While changes are drawn: the base in its box, the row so far. -/
structure CI (w wr : World) (R : Nat) (C : Array Value) (v : Value) (l : List Chg) (px : Nat) : Prop where
  rd : Rd wr R px
  gr : w.grownBy wr (some R)
  box : wr.heap[w.heap.size]? = some (.cells C 26 (0, 0))
  row : ChgsNew wr (w.heap.size + 1) v l
  sm : ∀ c ∈ l, SmC c
end Go.Proofs.YtibpkhmiahamcaaGreatDoor.Dr
