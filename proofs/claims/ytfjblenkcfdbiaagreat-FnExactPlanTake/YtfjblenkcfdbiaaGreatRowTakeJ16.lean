/-
  For the proof of take_holds: part 16 (Keys).
-/
import Derived.Maps.RangeWalk
import Derived.Deep.AppendLies
import Derived.WalkKit
import Derived.Test.YtfjblenkcfdbiaaGreatRowTakeJ15
namespace Go.Proofs.YtfjblenkcfdbiaaGreat
open Go.RowKit
set_option linter.unusedSimpArgs false
set_option linter.unusedVariables false

abbrev KeyP := ByteArray × Int
def keyV (p : KeyP) : Value := .agg #[.string p.1, .int .i64 p.2]
def keyRow (p : KeyP) : List Value := [.string p.1, .int .i64 p.2]
def keyRows (l : List KeyP) : List Value := l.flatMap keyRow
theorem keyRows_snoc (l : List KeyP) (t : KeyP) : keyRows (l ++ [t]) = keyRows l ++ keyRow t := by simp [keyRows]
theorem infoKey : (Tryz.prog.info? 106).map (fun i => (i.zero, i.size, i.bytes)) = some (some (.agg #[.string ByteArray.empty, .int .i64 0]), 2, 24) := by kernel_rfl
def FitP (p : KeyP) : Prop := p.1.size ≤ maxLen ∧ (Lit.int .i64 p.2).wf = true
/-- The keys that have come. -/
def CollK (D : DataW Unit) (left : Lit → Bool) (ss : List KeyP) : Prop := ss.Nodup ∧ (∀ p ∈ ss, FitP p) ∧ ∀ p : KeyP, FitP p → (p ∈ ss ↔ (Maps.has D (klK p.1 p.2) = true ∧ left (klK p.1 p.2) = false))
theorem CollK.start (D : DataW Unit) : CollK D (Maps.has D) [] := ⟨List.nodup_nil, (fun p h => by cases h), (fun p _ => by cases Maps.has D (klK p.1 p.2) <;> simp)⟩
theorem kl_same {p q : KeyP} (hp : FitP p) (hq : FitP q) : (klK p.1 p.2).sameKey (klK q.1 q.2) = decide (p = q) := by
  by_cases h : p = q
  · subst h
    rw [WideAt.sameKey_self (keyedK.key (keyOf_K hp.1 hp.2))]; simp
  · have hne : klK p.1 p.2 ≠ klK q.1 q.2 := fun e => h (by
      obtain ⟨e1, e2⟩ := klK_inj hp.1 hp.2 hq.1 hq.2 e
      exact Prod.ext e1 e2)
    rw [Maps.sameKey_ne hne]; simp [h]
theorem CollK.step {D : DataW Unit} {left : Lit → Bool} {ss : List KeyP} (h : CollK D left ss) {p : KeyP} (hp : FitP p) (hl : left (klK p.1 p.2) = true) (hh : Maps.has D (klK p.1 p.2) = true) : CollK D (fun z => left z && !z.sameKey (klK p.1 p.2)) (ss ++ [p]) := by
  obtain ⟨h1, h2, h3⟩ := h
  have hno : p ∉ ss := fun hm => by have := ((h3 p hp).1 hm).2; rw [hl] at this; cases this
  refine ⟨?_, ?_, fun q hq => ?_⟩
  · rw [List.nodup_append]; exact ⟨h1, by simp, fun a ha b hb => by simp at hb; subst hb; exact fun e => hno (e ▸ ha)⟩
  · intro q hq
    rcases List.mem_append.1 hq with hq | hq
    · exact h2 q hq
    · simp at hq; subst hq; exact hp
  · rw [List.mem_append, h3 q hq]
    show _ ↔ _ ∧ (left (klK q.1 q.2) && !(klK q.1 q.2).sameKey (klK p.1 p.2)) = false
    rw [kl_same hq hp]
    by_cases e : q = p
    · subst e; simp [hh]
    · simp [e]
theorem RF_shape (v : Value) (y : DataW Unit × List MemPlace) (h : RF v = some y) : ∃ f : Fld, v = .agg #[.int .i64 f.what, .int .i64 f.num, .string f.v] := by
  cases v
  case agg cs =>
    have h' : RFL cs.toList = some y := h
    unfold RFL at h'
    split at h'
    · rename_i a b s e
      exact ⟨⟨a, b, s⟩, by rw [← Array.toArray_toList (xs := cs), e]⟩
    · cases h'
  all_goals cases h
theorem size_le {w : World} {b n : Nat} {D : DataW Unit} (h : w.ownsMap Tryz.prog 106 RF b n D) : Maps.size D ≤ n := by
  obtain ⟨es, clock, _, _, hs, rfl⟩ := h
  rw [Maps.size_eq, length_sorted]
  simpa using hs
theorem cell_two_new (w : World) (a b : Value) (t : TypeId) : ∀ j u, [a, b][j]? = some u → (w.alloc (.cells #[a, b] t)).cell? ((⟨w.heap.size, 0, none⟩ : Addr).add j) = some u := by
  intro j u h
  match j, h with
  | 0, h => simp at h; subst h; simp [Addr.add]
  | 1, h => simp at h; subst h; simp [Addr.add]
  | n + 2, h => simp at h
theorem ranges_row {w : World} {b r n cnt : Nat} {D : DataW Unit} {left : Lit → Bool} {base : Nat} {e : TypeId} {size : Nat} {v : Value} {m : Nat} {xs : List Value} (h : w.ranges Tryz.prog 106 RF b r n D left cnt) (ho : w.ownsRow base e size v m xs) : ∀ k, v.ownBlock = some k → some k ≠ some r ∧ some k ≠ some b := by
  obtain ⟨es, clock, since, seen, c0, hb, _, _, _, hr, _⟩ := h
  intro k hk
  rcases ho.2 with ⟨rfl, _⟩ | ⟨g, cap, cur, rfl, _, hc, _⟩
  · cases hk
  · cases hk
    refine ⟨fun e => ?_, fun e => ?_⟩
    · injection e with e; subst e; rw [hc] at hr; cases hr
    · injection e with e; subst e; rw [hc] at hb; cases hb
end Go.Proofs.YtfjblenkcfdbiaaGreat
