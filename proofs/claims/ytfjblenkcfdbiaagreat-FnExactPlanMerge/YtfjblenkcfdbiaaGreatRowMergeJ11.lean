/-
  For the proof of merge_holds: part 11 (Map0, Map1).
-/
import Derived.Maps.Own
import Derived.Maps.Views
import Derived.DeepKeys4
import Derived.Test.YtfjblenkcfdbiaaGreatRowMergeJ10
/-
  The map of what a book says: its keys, its elements, what it holds.
-/
namespace Go.Proofs.YtfjblenkcfdbiaaGreat
open Go.RowKit

theorem laidOutM : laidOutB Tryz.prog = true := by kernel_rfl
theorem rowK : (106 : TypeId) < Tryz.prog.types.size := of_decide_eq_true (by kernel_rfl)
theorem sizeP : 0 < Tryz.prog.types.size := of_decide_eq_true (by kernel_rfl)
theorem deepK : Tryz.prog.keyType 106 = true := by kernel_rfl
theorem wideK : (match Tryz.prog.underlying 106 with | some (.array _ _) | some (.struct _) => true | _ => false) = true := by kernel_rfl
set_option maxRecDepth 100000 in
theorem lawK : WideMaps.KeyLaw Tryz.prog 106 := deep_law_laid laidOutM (m := 2) (by omega) rowK (by kernel_rfl) wideK
theorem keyedK : Maps.Keyed Tryz.prog 106 := Maps.Keyed.of_law lawK
theorem cellsK : Tryz.prog.cellsOf 106 = 2 := by kernel_rfl
theorem cellsS : Tryz.prog.cellsOf 9 = 1 := by kernel_rfl
theorem cellsI : Tryz.prog.cellsOf 3 = 1 := by kernel_rfl
/-- What a key reads as. -/
def klK (f : ByteArray) (n : Int) : Lit := .string (keyBytes [.string f.data.toList, .int .i64 n])
theorem keyOf_K {f : ByteArray} {n : Int} (hf : f.size ≤ maxLen) (hn : (Lit.int .i64 n).wf = true) : keyOf Tryz.prog 106 (.agg #[.string f, .int .i64 n]) = some (klK f n) := by
  obtain ⟨m, hm⟩ : ∃ m, Tryz.prog.types.size = m + 1 := by
    have h := sizeP
    generalize Tryz.prog.types.size = N at h ⊢
    exact ⟨N - 1, by omega⟩
  have hfm : (Tryz.prog.keyType 106 && (Value.agg #[.string f, .int .i64 n]).formed Tryz.prog 106) = true := by
    rw [deepK]; simp [Value.formed, Tryz.underlying106, cellsK]
  have hl : Tryz.prog.keyLits (Tryz.prog.types.size + 1) 106 [.string f, .int .i64 n] = some [.string f.data.toList, .int .i64 n] := by
    rw [hm]
    simp [Program.keyLits, Tryz.underlying106, Tryz.underlying9, Tryz.underlying3, cellsK, cellsS, cellsI, hf, hn]
  unfold keyOf
  rw [Tryz.underlying106]
  simp only []
  rw [if_pos hfm]
  have e : (Value.agg #[.string f, .int .i64 n]).cells.toList = [.string f, .int .i64 n] := rfl
  rw [e, hl]
  rfl
theorem klK_inj {f g : ByteArray} {n m : Int} (hf : f.size ≤ maxLen) (hn : (Lit.int .i64 n).wf = true) (hg : g.size ≤ maxLen) (hm : (Lit.int .i64 m).wf = true) (h : klK f n = klK g m) : f = g ∧ n = m := by
  have h1 := keyedK.inj (keyOf_K hf hn) (h ▸ keyOf_K hg hm)
  simp at h1
  exact h1
end Go.Proofs.YtfjblenkcfdbiaaGreat

/-
  The map of what a book says, by the sorted changes that it holds: read, written.
-/
namespace Go.Proofs.YtfjblenkcfdbiaaGreat
open Go.RowKit

/-- How an element reads. -/
def fldD (f : Fld) : DataW Unit := .agg [.lit (.int .i64 f.what), .lit (.int .i64 f.num), .lit (.string f.v.data.toList)]
def RFL : List Value → Option (DataW Unit × List MemPlace)
  | [.int .i64 a, .int .i64 b, .string s] => some (fldD ⟨a, b, s⟩, [])
  | _ => none
def RF : Value → Option (DataW Unit × List MemPlace)
  | .agg cs => RFL cs.toList
  | _ => none
theorem RF_mk (f : Fld) : RF (.agg #[.int .i64 f.what, .int .i64 f.num, .string f.v]) = some (fldD f, []) := rfl
theorem fldD_inj {f g : Fld} (h : fldD f = fldD g) : f = g := by
  obtain ⟨a, b, s⟩ := f
  obtain ⟨a', b', s'⟩ := g
  simp only [fldD, DataW.agg.injEq, List.cons.injEq, DataW.lit.injEq, Lit.int.injEq, Lit.string.injEq, true_and, and_true] at h
  obtain ⟨rfl, rfl, h⟩ := h
  rw [bytes_inj h]
theorem RFL_inv {l : List Value} {f : Fld} {ps : List MemPlace} (h : RFL l = some (fldD f, ps)) : l = [.int .i64 f.what, .int .i64 f.num, .string f.v] := by
  unfold RFL at h
  split at h
  · simp only [Option.some.injEq, Prod.mk.injEq] at h
    have := fldD_inj h.1
    subst this
    rfl
  · cases h
theorem RF_inv {v : Value} {f : Fld} {ps : List MemPlace} (h : RF v = some (fldD f, ps)) : v = .agg #[.int .i64 f.what, .int .i64 f.num, .string f.v] := by
  cases v
  case agg cs =>
    have := RFL_inv h
    rw [← Array.toArray_toList (xs := cs), this]
  all_goals cases h
def noF : Fld := ⟨0, 0, ⟨#[]⟩⟩
/-- What one thing's field is among changes. -/
def getF (S : List Chg) (k : Chg) : Fld := match S.find? fun a => keyEq a k with
  | some a => fldC a
  | none => noF
/-- A change whose key can be one. -/
def KeyFit (c : Chg) : Prop := c.f.size ≤ maxLen ∧ (Lit.int .i64 c.what).wf = true
/-- Block b is a map that holds just these changes. -/
def MapIs (w : World) (b n : Nat) (S : List Chg) : Prop := ∃ D : DataW Unit, w.ownsMap Tryz.prog 106 RF b n D ∧ Maps.IsMap D ∧
  ∀ k : Chg, KeyFit k → ∀ z, D.atKey (klK k.f k.what) z = match S.find? fun a => keyEq a k with
    | some a => fldD (fldC a)
    | none => z
theorem MapIs.made (w : World) : MapIs (w.alloc (.map #[] 0)) w.heap.size 0 [] := ⟨.map [], World.ownsMap_made w _ _ _, Maps.isMap_empty, fun k _ z => by simp [DataW.atKey]⟩
theorem MapIs.kept {w w' : World} {b n : Nat} {S : List Chg} {row : Option Nat} (h : MapIs w b n S) (hg : w.grownBy w' row) (hne : some b ≠ row) : MapIs w' b n S := by
  obtain ⟨D, h1, h2, h3⟩ := h
  exact ⟨D, h1.kept hg hne, h2, h3⟩
theorem zeroF (w : World) : (zeroValue 62).run Tryz.prog w = .ok (.agg #[.int .i64 0, .int .i64 0, .string ⟨#[]⟩]) w := by kernel_rfl
theorem MapIs.lookup {w : World} {b n : Nat} {S : List Chg} (h : MapIs w b n S) (k : Chg) (hk : KeyFit k) :
    (Instr.lookup 104 (.map (some b)) (.agg #[.string k.f, .int .i64 k.what]) false).run Tryz.prog w = .ok (.agg #[.int .i64 (getF S k).what, .int .i64 (getF S k).num, .string (getF S k).v]) w := by
  obtain ⟨D, h1, _, h3⟩ := h
  obtain ⟨v, ps, hr, hv⟩ := h1.lookup keyedK Tryz.underlying104 (zeroF w) (RF_mk noF) (keyOf_K hk.1 hk.2)
  have e : D.atKey (klK k.f k.what) (fldD noF) = fldD (getF S k) := by
    rw [h3 k hk]
    unfold getF
    cases S.find? fun a => keyEq a k <;> rfl
  rw [e] at hv
  rw [hr, RF_inv hv]
theorem MapIs.update {w : World} {b n : Nat} {S : List Chg} (h : MapIs w b n S) (c : Chg) (hc : KeyFit c) (hS : SortedC S) (hn : n < maxLen) (hnew : newB S c = true) :
    ∃ w', (Instr.mapUpdate 104 (.map (some b)) (.agg #[.string c.f, .int .i64 c.what]) (.agg #[.int .i64 c.what, .int .i64 c.num, .string c.v])).run Tryz.prog w = .ok () w' ∧ MapIs w' b (n + 1) (putC S c) ∧ w.grownBy w' (some b) := by
  obtain ⟨D, h1, h2, h3⟩ := h
  obtain ⟨w', hr, h4, hg⟩ := h1.update keyedK Tryz.underlying104 hn (keyOf_K hc.1 hc.2) (RF_mk (fldC c))
  refine ⟨w', hr, ⟨_, h4, h2.put _ _, fun k hk z => ?_⟩, hg⟩
  rw [putC_find c k hS]
  cases hck : keyEq c k with
  | true =>
    obtain ⟨e1, e2⟩ := keyEq_iff.1 hck
    rw [← e1, ← e2, Maps.atKey_put_same h2 (keyedK.key (keyOf_K hc.1 hc.2)), hnew]
    rfl
  | false =>
    rw [Maps.atKey_put_other, h3 k hk z]
    · rfl
    · intro e
      obtain ⟨e1, e2⟩ := klK_inj hk.1 hk.2 hc.1 hc.2 e
      rw [keyEq_iff.2 ⟨e1.symm, e2.symm⟩] at hck
      cases hck
end Go.Proofs.YtfjblenkcfdbiaaGreat
