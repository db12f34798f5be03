/-
  Joined: Cel1, St15, St16, St17.
-/
import Derived.Test.YtehpdbbkbdfobacGreatDoorMark3
import Derived.Test.YtehpdbbkbdfobacGreatDoorCut
import Derived.Test.YtehpdbbkbdfobacGreatDoorFitsB
import Derived.Test.YtehpdbbkbdfobacGreatDoorOwn
import Derived.Test.YtehpdbbkbdfobacGreatDoorSt14

/-
  Lists of texts: measured, copied, held against each other, marked.
-/
namespace Go.Proofs.YtehpdbbkbdfobacGreatDoor
open Go.RowKit
attribute [local go_sem] Later.cell Later.frozen
set_option linter.unusedSimpArgs false
set_option linter.unusedVariables false

/-- Texts that lie in memory, nil if there are none. -/
def SArg (w : World) (v : Value) (ws : List ByteArray) : Prop := ∃ a cap, v = .slice a ws.length cap ∧ ws.length ≤ cap ∧ cap ≤ maxLen ∧ ∀ i x, ws[i]? = some x → ∃ b off, a = some ⟨b, off, none⟩ ∧ w.cell? ⟨b, off + i, none⟩ = some (.string x)
def SNames (l : List ByteArray) : Prop := ∀ x ∈ l, x.size ≤ maxLen
theorem SArg.keep {w w' : World} {v : Value} {ws : List ByteArray} (h : SArg w v ws) (hb : Below w.heap.size w w') : SArg w' v ws := by
  obtain ⟨a, cap, h1, h2, h3, h4⟩ := h
  refine ⟨a, cap, h1, h2, h3, fun i x hx => ?_⟩
  obtain ⟨b, off, ha, hc⟩ := h4 i x hx
  exact ⟨b, off, ha, cell_keep hb (Nat.le_refl _) hc⟩
theorem StrsAt.arg {w : World} {v : Value} {ws : List ByteArray} (h : StrsAt w v ws) : SArg w v ws := by
  obtain ⟨g, off, cap, h1, h2, h3, h4⟩ := h
  exact ⟨_, cap, h1, h2, h3, fun i x hx => ⟨g, off, rfl, h4 i x hx⟩⟩
def sumB : List ByteArray → Nat
  | [] => 0
  | t :: r => t.size + sumB r
theorem sumB_append (l r : List ByteArray) : sumB (l ++ r) = sumB l + sumB r := by
  induction l with
  | nil => simp [sumB]
  | cons a l ih => simp [sumB, ih]; omega
theorem sumB_take_succ (l : List ByteArray) (k : Nat) (h : k < l.length) : sumB (l.take (k + 1)) = sumB (l.take k) + (wat l k).size := by
  rw [List.take_succ_eq_append_getElem h, sumB_append]; simp [sumB, wat, h]
theorem sumB_take_le (l : List ByteArray) (k : Nat) : sumB (l.take k) ≤ sumB l := by
  conv => rhs; rw [← List.take_append_drop k l, sumB_append]
  omega
def szStrs (l : List ByteArray) : Nat := l.length + sumB l
theorem szStrs_small {l : List ByteArray} (h : szStrs l ≤ 1048576) : l.length ≤ 1048576 := by unfold szStrs at h; omega
def strRow (x : ByteArray) : List Value := [.string x]
theorem infoStrC : (Tryz.prog.info? 9).map (fun i => (i.zero, i.size, i.bytes)) = some (some (.string ByteArray.empty), 1, 16) := by kernel_rfl
theorem HeldL.strs {w : World} {b n : Nat} {l : List ByteArray} (h : HeldL w b n 1 (l.map strRow)) (hn : l.length = n) (hm : n ≤ maxLen) : StrsAt w (.slice (some ⟨b, 0, none⟩) n n) l :=
  ⟨b, 0, n, by rw [hn], by omega, hm, fun i x hx => by
    have hr : (l.map strRow)[i]? = some (strRow x) := by rw [List.getElem?_map, hx]; rfl
    simpa using h.cell hr (j := 0) (v := .string x) rfl⟩
end Go.Proofs.YtehpdbbkbdfobacGreatDoor

/-
  Flights: held against each other, marked, and their marks held.
-/
namespace Go.Proofs.YtehpdbbkbdfobacGreatDoor.Sd
open Go.RowKit Go.Proofs.YtehpdbbkbdfobacGreatDoor
attribute [local go_sem] Later.cell Later.frozen
set_option linter.unusedSimpArgs false
set_option linter.unusedVariables false

theorem eqKind1_any (t : Tri) (w : World) :
    Calls Tryz.prog 126 #[.agg #[.string t.s, .int .i64 t.x, .int .i64 t.y], .agg #[.string t.s, .int .i64 t.x, .int .i64 t.y]] w fun e w' => e = .returned (.bool true) ∧ Below w.heap.size w w' := by
  have h1 : (t.s.toList != t.s.toList) = false := by simp
  have h2 : (t.x != t.x) = false := by simp
  have h3 : (t.y != t.y) = false := by simp
  have HB : Hid (Below w.heap.size w ((w.alloc (.cells #[.string t.s, .int .i64 t.x, .int .i64 t.y] 57)).alloc (.cells #[.string t.s, .int .i64 t.x, .int .i64 t.y] 57))) := ((Below.refl _ _).alloc (Nat.le_refl _) _).alloc (by simp) _
  go_enter Tryz.func126, Tryz.ntmps126
  go_wp2
  go_ret
  exact ⟨rfl, HB.out⟩
end Go.Proofs.YtehpdbbkbdfobacGreatDoor.Sd

/-
  Flights: marked, and their marks held.
-/
namespace Go.Proofs.YtehpdbbkbdfobacGreatDoor.Sd
open Go.RowKit Go.Proofs.YtehpdbbkbdfobacGreatDoor
attribute [local go_sem] Later.cell Later.frozen
set_option linter.unusedSimpArgs false
set_option linter.unusedVariables false

/-- A row of texts that can be marked. -/
def RooT (w : World) (v : Value) (n : Nat) : Prop := (v = .slice none 0 0 ∧ n = 0) ∨ ∃ b cap, v = .slice (some ⟨b, 0, none⟩) n cap ∧ b < w.heap.size ∧ w.there b 0 n
/-- A row of texts that holds its marks. -/
def RowT (w : World) (v : Value) (n k : Nat) : Prop := (v = .slice none 0 0 ∧ n = 0) ∨ ∃ b cap, v = .slice (some ⟨b, 0, none⟩) n cap ∧ b < w.heap.size ∧ ∀ q, q < n → w.cell? ⟨b, q, none⟩ = some (.string (mkT (k + q)))
theorem RowT.keep {w w' : World} {v : Value} {n k : Nat} (h : RowT w v n k) (hb : Below w.heap.size w w') : RowT w' v n k := by
  rcases h with h | ⟨b, cap, rfl, hl, hc⟩
  · exact .inl h
  · exact .inr ⟨b, cap, rfl, Nat.lt_of_lt_of_le hl hb.size, fun q hq => cell_keep hb (Nat.le_refl _) (hc q hq)⟩
theorem RooT.of {w : World} {B : Nat} {v : Value} {l : List ByteArray} (h : SNew w B v l) : RooT w v l.length := by
  rcases (show w.ownsRow B 9 1 v l.length (l.map Value.string) from h).2 with h2 | ⟨g, cap, cur, rfl, hb, hc, h1, h2, h3, h4⟩
  · exact .inl h2
  · refine .inr ⟨g, cap, rfl, (Array.getElem?_eq_some_iff.1 hc).1, fun q hq => ?_⟩
    have hq' : q < cur.size := by rw [h3]; omega
    simp [World.cell?, World.frozen?, hc, hq']
theorem RooT.slice {w : World} {v : Value} {n : Nat} (h : RooT w v n) : ∃ a m c, v = .slice a m c := by
  rcases h with ⟨rfl, -⟩ | ⟨b, cap, rfl, -⟩ <;> exact ⟨_, _, _, rfl⟩
theorem RowT.slice {w : World} {v : Value} {n k : Nat} (h : RowT w v n k) : ∃ a m c, v = .slice a m c := by
  rcases h with ⟨rfl, -⟩ | ⟨b, cap, rfl, -⟩ <;> exact ⟨_, _, _, rfl⟩
theorem RooT.keep {w w' : World} {v : Value} {n : Nat} (h : RooT w v n) (hb : Below w.heap.size w w') : RooT w' v n := by
  rcases h with h | ⟨b, cap, rfl, hl, hc⟩
  · exact .inl h
  · exact .inr ⟨b, cap, rfl, Nat.lt_of_lt_of_le hl hb.size, there_keep hc hb hl⟩
theorem grown_call {w w1 w2 : World} {r : Option Nat} (hb : Below w.heap.size w w1) (hg : w1.grownBy w2 r) : w.grownBy w2 r := grown_trans (below_grown hb r) hg
end Go.Proofs.YtehpdbbkbdfobacGreatDoor.Sd

/-
  A flight that stands or not, in one shape.
-/
namespace Go.Proofs.YtehpdbbkbdfobacGreatDoor.Sd
open Go.RowKit Go.Proofs.YtehpdbbkbdfobacGreatDoor
set_option linter.unusedSimpArgs false
set_option linter.unusedVariables false

theorem SNew.nil {w : World} {B : Nat} (h : B ≤ w.heap.size) : SNew w B (.slice none 0 0) [] := by
  unfold SNew
  exact ⟨rfl, .inl ⟨rfl, rfl⟩⟩
theorem SNew.arg {w : World} {B : Nat} {v : Value} {l : List ByteArray} (h : SNew w B v l) : SArg w v l := by
  by_cases h0 : l = []
  · subst h0
    rcases (show w.ownsRow B 9 1 v 0 [] from h).2 with ⟨rfl, -⟩ | ⟨g, cap, cur, rfl, hb, hc, h1, h2, h3, h4⟩
    · exact ⟨none, 0, rfl, Nat.le_refl _, Nat.zero_le _, fun i x hx => by simp at hx⟩
    · exact ⟨_, cap, rfl, Nat.zero_le _, h2, fun i x hx => by simp at hx⟩
  · exact (strs_of_own (ws := l) h h0).arg
/-- What both sides answer has one shape; the route's list is known. -/
theorem stand_shape (ks ps : List Tri) (es : List Ent) (nm : ByteArray) : ∃ (q : ByteArray) (t : Tri) (x y z : Int) (L : List ByteArray), L.length ≤ 1048576 ∧ ∀ (w' : World) (B : Nat) (rt : Value), B ≤ w'.heap.size → (∀ e, standR ks ps es nm = some e → RtIs w' B rt (lastV e.fs 4)) → ∃ rv, standC ks (standR ks ps es nm) rt = flC q t x y z rv ∧ SNew w' B rv L := by
  cases hR : standR ks ps es nm with
  | none => exact ⟨⟨#[]⟩, ⟨⟨#[]⟩, 0, 0⟩, 0, 0, 0, [], by simp, fun w' B rt hB _ => ⟨.slice none 0 0, rfl, SNew.nil hB⟩⟩
  | some e =>
    have hb : bookB ks ps es = true := by
      unfold standR at hR
      cases h : bookB ks ps es with
      | true => rfl
      | false => rw [h] at hR; cases hR
    have he : e ∈ es := by
      unfold standR at hR
      rw [hb] at hR
      simp only [cond_true] at hR
      cases h : es.find? (fun e => decide (e.name = nm)) with
      | none => rw [h] at hR; cases hR
      | some e' =>
        rw [h] at hR
        dsimp only at hR
        cases hs : stB e'.fs with
        | false => rw [hs] at hR; cases hR
        | true =>
          rw [hs] at hR
          injection hR with hR
          subst hR
          exact List.mem_of_find?_eq_some h
    cases h4 : lastV e.fs 4 with
    | none => exact ⟨e.name, kdOf ks (lastV e.fs 1), frOf (lastV e.fs 2), byOf (lastV e.fs 2), lvOf (lastV e.fs 3), [], by simp, fun w' B rt hB h => ⟨rt, rfl, by
        have h1 := h e rfl
        rw [h4] at h1
        have h2 : rt = .slice none 0 0 := h1
        rw [h2]
        exact SNew.nil hB⟩⟩
    | some f =>
      have hf : f ∈ e.fs ∧ f.what = 4 := by
        have := last_find (x := 4) e.fs (asc_wlt (book_ascF hb e he))
        rw [h4] at this
        exact fnd_mem this.symm
      have hv := book_fits hb e he f hf.1
      rw [hf.2] at hv
      have hr : routeB ps (cutW f.v) = true := by simpa [valB2] using hv
      unfold routeB at hr
      rw [Bool.and_eq_true] at hr
      have hl : (cutW f.v).length ≤ 1048576 := by
        have := hr.1
        simp [inB] at this
        omega
      exact ⟨e.name, kdOf ks (lastV e.fs 1), frOf (lastV e.fs 2), byOf (lastV e.fs 2), lvOf (lastV e.fs 3), cutW f.v, hl, fun w' B rt hB h => ⟨rt, rfl, by
        have h1 := h e rfl
        rw [h4] at h1
        exact h1⟩⟩
end Go.Proofs.YtehpdbbkbdfobacGreatDoor.Sd
