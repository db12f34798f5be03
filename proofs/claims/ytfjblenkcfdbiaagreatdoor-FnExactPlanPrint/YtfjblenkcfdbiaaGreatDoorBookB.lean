
/-
  Books in memory: fields, entries; their sizes.
-/
import Derived.Test.YtfjblenkcfdbiaaGreatDoorBase
import Derived.Test.YtfjblenkcfdbiaaGreatDoorChg
namespace Go.Proofs.YtfjblenkcfdbiaaGreatDoor
open Go.RowKit

/-- What is said of one thing. -/
structure Fld where
  what : Int
  num : Int
  v : ByteArray
/-- A flight of a book. -/
structure Ent where
  name : ByteArray
  fs : List Fld

def fldV (f : Fld) : Value := .agg #[.int .i64 f.what, .int .i64 f.num, .string f.v]
/-- A field's cells. -/
def FldAt (w : World) (b o : Nat) (f : Fld) : Prop := w.cell? ⟨b, o, none⟩ = some (.int .i64 f.what) ∧ w.cell? ⟨b, o + 1, none⟩ = some (.int .i64 f.num) ∧ w.cell? ⟨b, o + 2, none⟩ = some (.string f.v)
/-- v is a slice of these, in w. -/
def FldsAt (w : World) (v : Value) (l : List Fld) : Prop :=
  ∃ a cap, v = .slice a l.length cap ∧ l.length ≤ cap ∧ cap ≤ maxLen ∧ ∀ i f, l[i]? = some f → ∃ b off, a = some ⟨b, off, none⟩ ∧ FldAt w b (off + i * 3) f
/-- An entry's cells, and its fields. -/
def EntAt (w : World) (b o : Nat) (e : Ent) : Prop := ∃ fv, w.cell? ⟨b, o, none⟩ = some (.string e.name) ∧ w.cell? ⟨b, o + 1, none⟩ = some fv ∧ FldsAt w fv e.fs
def EntsAt (w : World) (v : Value) (l : List Ent) : Prop :=
  ∃ a cap, v = .slice a l.length cap ∧ l.length ≤ cap ∧ cap ≤ maxLen ∧ ∀ i e, l[i]? = some e → ∃ b off, a = some ⟨b, off, none⟩ ∧ EntAt w b (off + i * 2) e

theorem FldAt.keep {w w' : World} {b o B : Nat} {f : Fld} (h : FldAt w b o f) (hb : Below B w w') (hB : w.heap.size ≤ B) : FldAt w' b o f :=
  ⟨cell_keep hb hB h.1, cell_keep hb hB h.2.1, cell_keep hb hB h.2.2⟩
theorem FldsAt.keep {w w' : World} {v : Value} {l : List Fld} (h : FldsAt w v l) (hb : Below w.heap.size w w') : FldsAt w' v l := by
  obtain ⟨a, cap, rfl, h1, h2, h3⟩ := h
  refine ⟨a, cap, rfl, h1, h2, fun i t ht => ?_⟩
  obtain ⟨b, off, ha, hc⟩ := h3 i t ht
  exact ⟨b, off, ha, hc.keep hb (Nat.le_refl _)⟩
theorem EntAt.keep {w w' : World} {b o : Nat} {e : Ent} (h : EntAt w b o e) (hb : Below w.heap.size w w') : EntAt w' b o e := by
  obtain ⟨fv, h0, h1, h2⟩ := h
  exact ⟨fv, cell_keep hb (Nat.le_refl _) h0, cell_keep hb (Nat.le_refl _) h1, h2.keep hb⟩
theorem EntsAt.keep {w w' : World} {v : Value} {l : List Ent} (h : EntsAt w v l) (hb : Below w.heap.size w w') : EntsAt w' v l := by
  obtain ⟨a, cap, rfl, h1, h2, h3⟩ := h
  refine ⟨a, cap, rfl, h1, h2, fun i t ht => ?_⟩
  obtain ⟨b, off, ha, hc⟩ := h3 i t ht
  exact ⟨b, off, ha, hc.keep hb⟩

def fat (l : List Fld) (i : Nat) : Fld := l.getD i ⟨0, 0, ⟨#[]⟩⟩
theorem fat_get {l : List Fld} {i : Nat} (h : i < l.length) : l[i]? = some (fat l i) := by simp [fat, h]
def eat (l : List Ent) (i : Nat) : Ent := l.getD i ⟨⟨#[]⟩, []⟩
theorem eat_get {l : List Ent} {i : Nat} (h : i < l.length) : l[i]? = some (eat l i) := by simp [eat, h]

def FNames (l : List Fld) : Prop := ∀ f ∈ l, f.v.size ≤ maxLen
def ENames (l : List Ent) : Prop := ∀ e ∈ l, e.name.size ≤ maxLen ∧ FNames e.fs

/-- Sums over the first of a list. -/
def sumN {α : Type} (g : α → Nat) : List α → Nat
  | [] => 0
  | t :: r => g t + sumN g r
theorem sumN_append {α : Type} (g : α → Nat) (l r : List α) : sumN g (l ++ r) = sumN g l + sumN g r := by
  induction l with
  | nil => simp [sumN]
  | cons a l ih => simp [sumN, ih]; omega
theorem sumN_take_succ {α : Type} (g : α → Nat) (l : List α) (k : Nat) (x : α) (h : l[k]? = some x) : sumN g (l.take (k + 1)) = sumN g (l.take k) + g x := by
  obtain ⟨hk, rfl⟩ := List.getElem?_eq_some_iff.1 h
  rw [List.take_succ_eq_append_getElem hk, sumN_append]; simp [sumN]
theorem sumN_take_le {α : Type} (g : α → Nat) (l : List α) (k : Nat) : sumN g (l.take k) ≤ sumN g l := by
  conv => rhs; rw [← List.take_append_drop k l, sumN_append]
  omega
theorem sumN_mem {α : Type} (g : α → Nat) (l : List α) (x : α) (h : x ∈ l) : g x ≤ sumN g l := by
  induction l with
  | nil => cases h
  | cons a l ih =>
    rcases List.mem_cons.1 h with rfl | h
    · simp [sumN]
    · have := ih h; simp [sumN]; omega
def szFlds (l : List Fld) : Nat := l.length + sumN (fun f => f.v.size) l
def szEnt (e : Ent) : Nat := e.name.size + szFlds e.fs
def szEnts (l : List Ent) : Nat := l.length + sumN szEnt l
end Go.Proofs.YtfjblenkcfdbiaaGreatDoor
