
/-
  Lists of texts: measured, copied, held against each other, marked.
-/
import Derived.Test.YtehpdbbkbdfobacGreatDoorMark3
import Derived.Test.YtehpdbbkbdfobacGreatDoorCut
import Derived.Test.YtehpdbbkbdfobacGreatDoorFitsB
import Derived.Test.YtehpdbbkbdfobacGreatDoorOwn
namespace Go.Proofs.YtehpdbbkbdfobacGreatDoor
open Go.RowKit
attribute [local go_sem] Later.cell Later.frozen
set_option linter.unusedSimpArgs false
set_option linter.unusedVariables false

/-- Texts that lie in memory, nil if there are none. -/
def SArg (w : World) (v : Value) (ws : List ByteArray) : Prop := ∃ a cap, v = .slice a ws.length cap ∧ ws.length ≤ cap ∧ cap ≤ maxLen ∧ ∀ i x, ws[i]? = some x → ∃ b off, a = some ⟨b, off, none⟩ ∧ w.cell? ⟨b, off + i, none⟩ = some (.string x)
def SNames (l : List ByteArray) : Prop := ∀ x ∈ l, x.size ≤ maxLen
theorem SArg.keep {w w' : World} {v : Value} {ws : List ByteArray} (h : SArg w v ws) (hb : Below w.heap.size w w') : SArg w' v ws := by
  obtain ⟨a, cap, h1, h2, h3, h4⟩ := h
  refine ⟨a, cap, h1, h2, h3, fun i x hx => ?_⟩
  obtain ⟨b, off, ha, hc⟩ := h4 i x hx
  exact ⟨b, off, ha, cell_keep hb (Nat.le_refl _) hc⟩
theorem StrsAt.arg {w : World} {v : Value} {ws : List ByteArray} (h : StrsAt w v ws) : SArg w v ws := by
  obtain ⟨g, off, cap, h1, h2, h3, h4⟩ := h
  exact ⟨_, cap, h1, h2, h3, fun i x hx => ⟨g, off, rfl, h4 i x hx⟩⟩
def sumB : List ByteArray → Nat
  | [] => 0
  | t :: r => t.size + sumB r
theorem sumB_append (l r : List ByteArray) : sumB (l ++ r) = sumB l + sumB r := by
  induction l with
  | nil => simp [sumB]
  | cons a l ih => simp [sumB, ih]; omega
theorem sumB_take_succ (l : List ByteArray) (k : Nat) (h : k < l.length) : sumB (l.take (k + 1)) = sumB (l.take k) + (wat l k).size := by
  rw [List.take_succ_eq_append_getElem h, sumB_append]; simp [sumB, wat, h]
theorem sumB_take_le (l : List ByteArray) (k : Nat) : sumB (l.take k) ≤ sumB l := by
  conv => rhs; rw [← List.take_append_drop k l, sumB_append]
  omega
def szStrs (l : List ByteArray) : Nat := l.length + sumB l
theorem szStrs_small {l : List ByteArray} (h : szStrs l ≤ 1048576) : l.length ≤ 1048576 := by unfold szStrs at h; omega
def strRow (x : ByteArray) : List Value := [.string x]
theorem infoStrC : (Tryz.prog.info? 9).map (fun i => (i.zero, i.size, i.bytes)) = some (some (.string ByteArray.empty), 1, 16) := by kernel_rfl
theorem HeldL.strs {w : World} {b n : Nat} {l : List ByteArray} (h : HeldL w b n 1 (l.map strRow)) (hn : l.length = n) (hm : n ≤ maxLen) : StrsAt w (.slice (some ⟨b, 0, none⟩) n n) l :=
  ⟨b, 0, n, by rw [hn], by omega, hm, fun i x hx => by
    have hr : (l.map strRow)[i]? = some (strRow x) := by rw [List.getElem?_map, hx]; rfl
    simpa using h.cell hr (j := 0) (v := .string x) rfl⟩
end Go.Proofs.YtehpdbbkbdfobacGreatDoor
