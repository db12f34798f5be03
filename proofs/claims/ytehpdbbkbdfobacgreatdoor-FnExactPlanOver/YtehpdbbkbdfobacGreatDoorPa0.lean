/-
  Joined: Pa00, Pa0.
-/
import Derived.Test.YtehpdbbkbdfobacGreatDoorSt9
import Derived.Test.YtehpdbbkbdfobacGreatDoorSt14
import Derived.Test.YtehpdbbkbdfobacGreatDoorWay10
import Derived.Test.YtehpdbbkbdfobacGreatDoorLev1

/-
  Rows of one's own, once more by these names; the words of a route.
-/
namespace Go.Proofs.YtehpdbbkbdfobacGreatDoor.Pa
open Go.RowKit Go.Proofs.YtehpdbbkbdfobacGreatDoor Go.Proofs.YtehpdbbkbdfobacGreatDoor.Sd
set_option linter.unusedSimpArgs false
set_option linter.unusedVariables false

theorem ownF_keep {w w' : World} {base : Nat} {e : TypeId} {size : Nat} {v : Value} {n : Nat} {xs : List Value} (h : w.ownsRow base e size v n xs) (hb : Below w.heap.size w w') : w'.ownsRow base e size v n xs := by
  obtain ⟨h1, h2⟩ := h
  refine ⟨h1, ?_⟩
  rcases h2 with h2 | ⟨g, cap, cur, hv, hg, hh, rest⟩
  · exact .inl h2
  · exact .inr ⟨g, cap, cur, hv, hg, (hb.block g (Array.getElem?_eq_some_iff.1 hh).1).trans hh, rest⟩
theorem ownF_ge {w : World} {base : Nat} {e : TypeId} {size : Nat} {v : Value} {n : Nat} {xs : List Value} (h : w.ownsRow base e size v n xs) : ∀ k, v.ownBlock = some k → base ≤ k := by
  intro k hk
  rcases h.2 with ⟨rfl, _⟩ | ⟨g, cap, cur, rfl, hg, _⟩
  · cases hk
  · cases hk; exact hg
theorem ownF_lt {w : World} {base : Nat} {e : TypeId} {size : Nat} {v : Value} {n : Nat} {xs : List Value} (h : w.ownsRow base e size v n xs) : ∀ k, v.ownBlock = some k → k < w.heap.size := by
  intro k hk
  rcases h.2 with ⟨rfl, _⟩ | ⟨g, cap, cur, rfl, hg, hc, _⟩
  · cases hk
  · cases hk; exact (Array.getElem?_eq_some_iff.1 hc).1
theorem ownF_slice {w : World} {base : Nat} {e : TypeId} {size : Nat} {v : Value} {n : Nat} {xs : List Value} (h : w.ownsRow base e size v n xs) : ∃ a c, v = .slice a n c := by
  rcases h.2 with ⟨rfl, h0⟩ | ⟨g, cap, cur, rfl, _⟩
  · exact ⟨none, 0, by rw [h0]⟩
  · exact ⟨_, cap, rfl⟩
theorem ownF_far {W W' : World} {row : Option Nat} {base : Nat} {e : TypeId} {size : Nat} {v : Value} {n : Nat} {xs : List Value} (h : W.ownsRow base e size v n xs) (hg : W.grownBy W' row) (hr : ∀ k, v.ownBlock = some k → some k ≠ row) : W'.ownsRow base e size v n xs := by
  refine ⟨h.1, ?_⟩
  rcases h.2 with h2 | ⟨g, cap, cur, hv, hb, hc, rest⟩
  · exact .inl h2
  · refine .inr ⟨g, cap, cur, hv, hb, ?_, rest⟩
    exact (hg.block g (Array.getElem?_eq_some_iff.1 hc).1 (hr g (by rw [hv]; rfl))).trans hc
theorem ownF_mono {w : World} {base base' : Nat} {e : TypeId} {size : Nat} {v : Value} {n : Nat} {xs : List Value} (h : w.ownsRow base e size v n xs) (hb : base' ≤ base) : w.ownsRow base' e size v n xs := by
  refine ⟨h.1, ?_⟩
  rcases h.2 with h2 | ⟨g, cap, cur, hv, hg, rest⟩
  · exact .inl h2
  · exact .inr ⟨g, cap, cur, hv, by omega, rest⟩
/-- The words of its route. -/
def rtW (e : Ent) : List ByteArray := match lastV e.fs 4 with
  | some f => cutW f.v
  | none => []
theorem cell_blk {w : World} {b i : Nat} {C : Array Value} {T : TypeId} {u : Value} (h : w.heap[b]? = some (.cells C T (0, 0))) (hc : C[i]? = some u) : w.cell? ⟨b, i, none⟩ = some u := by simp [World.cell?, h, hc]
end Go.Proofs.YtehpdbbkbdfobacGreatDoor.Pa

/-
  Plain facts, no Go in sight: the steps of a path; what a flight that stands has.
-/
namespace Go.Proofs.YtehpdbbkbdfobacGreatDoor.Pa
open Go.RowKit Go.Proofs.YtehpdbbkbdfobacGreatDoor Go.Proofs.YtehpdbbkbdfobacGreatDoor.Sd
set_option linter.unusedSimpArgs false
set_option linter.unusedVariables false

/-- A step of a path. -/
structure Stp where
  x : Int
  y : Int
  lo : Int
  hi : Int
  fr : Int
  b : Int
deriving DecidableEq
/-- The level at place k of N steps. -/
def lvA (N : Nat) (l : Int) (k : Nat) : Int := minI l (minI (k : Int) ((N : Int) - 1 - (k : Int)))
/-- The step at place k. -/
def stpA (cs : List Cel) (l fr b q s : Int) (k : Nat) : Stp :=
  ⟨(tat cs k).x, (tat cs k).y, minI (lvA cs.length l (k - 1)) (lvA cs.length l k), maxI (lvA cs.length l (k - 1)) (lvA cs.length l k), fr + (k : Int) * q, b + (k : Int) * s⟩
/-- The steps ahead of place k. -/
def stpTo (cs : List Cel) (l fr b q s : Int) (k : Nat) : List Stp := (List.range k).map (stpA cs l fr b q s)
theorem stpTo_succ (cs : List Cel) (l fr b q s : Int) (k : Nat) : stpTo cs l fr b q s (k + 1) = stpTo cs l fr b q s k ++ [stpA cs l fr b q s k] := by
  simp [stpTo, List.range_succ]
theorem stpTo_len (cs : List Cel) (l fr b q s : Int) (k : Nat) : (stpTo cs l fr b q s k).length = k := by simp [stpTo]
theorem levels_get {N : Nat} {l : Int} (hN : 1 ≤ N ∧ N ≤ 40) (hl : 1 ≤ l ∧ l ≤ 6) (k : Nat) (hk : k < N) : (levelsL (N : Int) l)[k]? = some (lvA N l k) := by
  unfold levelsL
  rw [decide_eq_true (by omega)]
  simp [lvA, hk]
theorem levels_len {N : Nat} {l : Int} (hN : 1 ≤ N ∧ N ≤ 40) (hl : 1 ≤ l ∧ l ≤ 6) : (levelsL (N : Int) l).length = N := by
  unfold levelsL
  rw [decide_eq_true (by omega)]
  simp
/-- What holds of the numbers of a flight that stands. -/
structure FlOk (t : Tri) (x y z : Int) : Prop where
  q : 1 ≤ t.x
  qs : t.x ≤ t.y
  s : t.y ≤ 50
  fr : 0 ≤ x
  fb : x ≤ y
  b : y ≤ 10000
  l : 1 ≤ z
  lm : z ≤ 6
theorem rdN_nonneg (x : ByteArray) : 0 ≤ rdN x := by
  unfold rdN
  cases decB x <;> simp
theorem st_said {fs : List Fld} (h : stB fs = true) (k : Nat) (hk : 1 ≤ k ∧ k ≤ 4) (ha : AscF fs) : ∃ f, lastV fs (k : Int) = some f ∧ f ∈ fs ∧ f.what = (k : Int) := by
  cases hs : saidB fs (k : Int) with
  | false => rw [need_some hk hs] at h; cases h
  | true =>
    rw [said_find] at hs
    obtain ⟨f, hf⟩ := Option.isSome_iff_exists.1 hs
    exact ⟨f, by rw [last_find (x := (k : Int)) fs (asc_wlt ha)]; exact hf, fnd_mem hf⟩
theorem kind_pace {ks : List Tri} (h : kindsB ks = true) {v : ByteArray} (hv : hasB ks v = true) : paceB (at' ks (plc ks v)) = true := by
  unfold kindsB at h
  rw [Bool.and_eq_true] at h
  unfold hasB at hv
  rw [Bool.and_eq_true] at hv
  exact allB_get h.2 _ (of_decide_eq_true hv.1)
theorem stand_ok {ks ps : List Tri} {es : List Ent} {nm : ByteArray} {e : Ent} (h : standR ks ps es nm = some e) :
    bookB ks ps es = true ∧ e ∈ es ∧ (∃ f, lastV e.fs 4 = some f ∧ rtW e = cutW f.v) ∧ routeB ps (rtW e) = true ∧ FlOk (kdOf ks (lastV e.fs 1)) (frOf (lastV e.fs 2)) (byOf (lastV e.fs 2)) (lvOf (lastV e.fs 3)) := by
  have hb : bookB ks ps es = true := by
    unfold standR at h
    cases hb : bookB ks ps es with
    | true => rfl
    | false => rw [hb] at h; cases h
  obtain ⟨he, hst⟩ : e ∈ es ∧ stB e.fs = true := by
    unfold standR at h
    rw [hb] at h
    simp only [cond_true] at h
    cases hf : es.find? (fun e => decide (e.name = nm)) with
    | none => rw [hf] at h; cases h
    | some e' =>
      rw [hf] at h
      dsimp only at h
      cases hs : stB e'.fs with
      | false => rw [hs] at h; cases h
      | true =>
        rw [hs] at h
        injection h with h
        subst h
        exact ⟨List.mem_of_find?_eq_some hf, hs⟩
  have ha := book_ascF hb e he
  obtain ⟨f1, l1, m1, w1⟩ := st_said hst 1 (by omega) ha
  obtain ⟨f2, l2, m2, w2⟩ := st_said hst 2 (by omega) ha
  obtain ⟨f3, l3, m3, w3⟩ := st_said hst 3 (by omega) ha
  obtain ⟨f4, l4, m4, w4⟩ := st_said hst 4 (by omega) ha
  have v1 := book_fits hb e he f1 m1
  have v2 := book_fits hb e he f2 m2
  have v3 := book_fits hb e he f3 m3
  have v4 := book_fits hb e he f4 m4
  rw [w1] at v1
  rw [w2] at v2
  rw [w3] at v3
  rw [w4] at v4
  have v1' : hasB ks f1.v = true := by simpa [valB2] using v1
  have v2' : timeB (cutW f2.v) = true := by simpa [valB2] using v2
  have v3' : levelB f3.v = true := by simpa [valB2] using v3
  have v4' : routeB ps (cutW f4.v) = true := by simpa [valB2] using v4
  have l1' : lastV e.fs 1 = some f1 := l1
  have l2' : lastV e.fs 2 = some f2 := l2
  have l3' : lastV e.fs 3 = some f3 := l3
  have l4' : lastV e.fs 4 = some f4 := l4
  have hr : rtW e = cutW f4.v := by unfold rtW; rw [l4']
  refine ⟨hb, he, ⟨f4, l4', hr⟩, by rw [hr]; exact v4', ?_⟩
  rw [l1', l2', l3']
  have p := kind_pace (book_kindsB hb) v1'
  unfold paceB at p
  simp at p
  rw [timeB_tm] at v2'
  simp at v2'
  have h0 : 0 ≤ tmF (cutW f2.v) := by
    unfold tmF
    cases decide ((cutW f2.v).length = 2)
    · simp
    · exact rdN_nonneg _
  unfold levelB inB at v3'
  simp at v3'
  have hl : rdN f3.v = (numV f3.v : Int) := by unfold rdN; rw [v3'.1]; rfl
  exact ⟨p.1, p.2.1, p.2.2, h0, v2'.2.1, v2'.2.2, by show 1 ≤ rdN f3.v; rw [hl]; omega, by show rdN f3.v ≤ 6; rw [hl]; omega⟩
theorem cellsL_pos {ps : List Tri} {ws : List ByteArray} (h : 2 ≤ ws.length) : 1 ≤ (cellsL ps ws).length := by
  have : ∀ n, 1 ≤ (alongTo (tat (turns ps ws)) (n + 1)).length := fun n => by
    induction n with
    | zero => simp [alongTo]
    | succ n ih => rw [alongTo, List.length_append]; omega
  unfold cellsL
  obtain ⟨n, hn⟩ : ∃ n, ws.length = n + 1 := ⟨ws.length - 1, by omega⟩
  rw [hn]
  exact this n
/-- What PlanPathOf answers. -/
structure Pth where
  c : Int
  st : List Stp
  fr : Int
  b : Int
def pathE (ks ps : List Tri) (e : Ent) : Pth :=
  bif cellsOkB ks ps (rtW e) then
    (bif decide (10000 < byOf (lastV e.fs 2) + ((cellsL ps (rtW e)).length : Int) * (kdOf ks (lastV e.fs 1)).y) then ⟨4, [], 0, 0⟩ else
      ⟨0, stpTo (cellsL ps (rtW e)) (lvOf (lastV e.fs 3)) (frOf (lastV e.fs 2)) (byOf (lastV e.fs 2)) (kdOf ks (lastV e.fs 1)).x (kdOf ks (lastV e.fs 1)).y (cellsL ps (rtW e)).length,
        frOf (lastV e.fs 2) + ((cellsL ps (rtW e)).length : Int) * (kdOf ks (lastV e.fs 1)).x, byOf (lastV e.fs 2) + ((cellsL ps (rtW e)).length : Int) * (kdOf ks (lastV e.fs 1)).y⟩)
  else ⟨3, [], 0, 0⟩
def pathR (ks ps : List Tri) (es : List Ent) (nm : ByteArray) : Pth := bif bookB ks ps es then (match standR ks ps es nm with
  | some e => pathE ks ps e
  | none => ⟨2, [], 0, 0⟩) else ⟨1, [], 0, 0⟩
theorem pathE_len (ks ps : List Tri) (e : Ent) : (pathE ks ps e).st.length ≤ 40 := by
  unfold pathE
  cases h : cellsOkB ks ps (rtW e) with
  | false => simp
  | true =>
    have h2 : (cellsL ps (rtW e)).length ≤ 40 := by
      unfold cellsOkB at h
      rw [Bool.and_eq_true] at h
      exact of_decide_eq_true h.2
    simp only [cond_true]
    cases decide (10000 < byOf (lastV e.fs 2) + ((cellsL ps (rtW e)).length : Int) * (kdOf ks (lastV e.fs 1)).y)
    · simp only [cond_false, stpTo_len]; exact h2
    · simp
theorem pathR_len (ks ps : List Tri) (es : List Ent) (nm : ByteArray) : (pathR ks ps es nm).st.length ≤ 40 := by
  unfold pathR
  cases bookB ks ps es
  · simp
  · simp only [cond_true]
    cases standR ks ps es nm with
    | none => simp
    | some e => exact pathE_len ks ps e

/-- A step's cells. -/
def stpRow (s : Stp) : List Value := [.int .i64 s.x, .int .i64 s.y, .int .i64 s.lo, .int .i64 s.hi, .int .i64 s.fr, .int .i64 s.b]
def stpRows (l : List Stp) : List Value := l.flatMap stpRow
theorem stpRows_len (l : List Stp) : (stpRows l).length = l.length * 6 := by
  induction l with
  | nil => rfl
  | cons a l ih => simp [stpRows, stpRow] at ih ⊢; omega
theorem stpRows_get : ∀ (l : List Stp) (i : Nat) (c : Stp), l[i]? = some c → (stpRows l)[i * 6]? = some (.int .i64 c.x) ∧ (stpRows l)[i * 6 + 1]? = some (.int .i64 c.y) ∧ (stpRows l)[i * 6 + 2]? = some (.int .i64 c.lo) ∧ (stpRows l)[i * 6 + 3]? = some (.int .i64 c.hi) ∧ (stpRows l)[i * 6 + 4]? = some (.int .i64 c.fr) ∧ (stpRows l)[i * 6 + 5]? = some (.int .i64 c.b)
  | [], i, c, h => by simp at h
  | a :: l, 0, c, h => by simp at h; subst h; simp [stpRows, stpRow]
  | a :: l, i + 1, c, h => by
    have := stpRows_get l i c (by simpa using h)
    rw [show (i + 1) * 6 = i * 6 + 6 by omega]
    simpa [stpRows, stpRow] using this
/-- Steps in a row of one's own. -/
def StNew (w : World) (B : Nat) (v : Value) (l : List Stp) : Prop := w.ownsRow B 71 6 v l.length (stpRows l)
/-- Steps that lie in memory. -/
def StAt (w : World) (v : Value) (l : List Stp) : Prop := ∃ a cap, v = .slice a l.length cap ∧ l.length ≤ cap ∧ cap ≤ maxLen ∧ ∀ i c, l[i]? = some c → ∃ g, a = some ⟨g, 0, none⟩ ∧ (w.cell? ⟨g, i * 6, none⟩ = some (.int .i64 c.x) ∧ w.cell? ⟨g, i * 6 + 1, none⟩ = some (.int .i64 c.y) ∧ w.cell? ⟨g, i * 6 + 2, none⟩ = some (.int .i64 c.lo)) ∧ w.cell? ⟨g, i * 6 + 3, none⟩ = some (.int .i64 c.hi) ∧ w.cell? ⟨g, i * 6 + 4, none⟩ = some (.int .i64 c.fr) ∧ w.cell? ⟨g, i * 6 + 5, none⟩ = some (.int .i64 c.b)
theorem StNew.at {w : World} {B : Nat} {v : Value} {l : List Stp} (h : StNew w B v l) : StAt w v l := by
  obtain ⟨h1, h2⟩ := h
  rcases h2 with ⟨rfl, h0⟩ | ⟨g, cap, cur, rfl, hB, hb, hn, hc, hs, ht⟩
  · refine ⟨none, 0, by rw [h0], by omega, Nat.zero_le _, fun i t hi => ?_⟩
    have := (List.getElem?_eq_some_iff.1 hi).1
    omega
  · refine ⟨_, cap, rfl, hn, hc, fun i t hi => ⟨g, rfl, ?_⟩⟩
    have hil := (List.getElem?_eq_some_iff.1 hi).1
    obtain ⟨e0, e1, e2, e3, e4, e5⟩ := stpRows_get l i t hi
    rw [← ht] at e0 e1 e2 e3 e4 e5
    rw [List.getElem?_take, if_pos (by omega)] at e0 e1 e2 e3 e4 e5
    simp only [World.cell?, hb, Option.isSome_none, Bool.false_eq_true, if_false]
    exact ⟨⟨by simpa using e0, by simpa using e1, by simpa using e2⟩, by simpa using e3, by simpa using e4, by simpa using e5⟩
theorem StAt.keep {w w' : World} {v : Value} {l : List Stp} (h : StAt w v l) (hb : Below w.heap.size w w') : StAt w' v l := by
  obtain ⟨a, cap, h1, h2, h3, h4⟩ := h
  refine ⟨a, cap, h1, h2, h3, fun i t ht => ?_⟩
  obtain ⟨g, ha, ⟨c0, c1, c2⟩, c3, c4, c5⟩ := h4 i t ht
  exact ⟨g, ha, ⟨cell_keep hb (Nat.le_refl _) c0, cell_keep hb (Nat.le_refl _) c1, cell_keep hb (Nat.le_refl _) c2⟩, cell_keep hb (Nat.le_refl _) c3, cell_keep hb (Nat.le_refl _) c4, cell_keep hb (Nat.le_refl _) c5⟩
theorem StNew.nil (w : World) (B : Nat) : StNew w B (.slice none 0 0) [] := ⟨rfl, .inl ⟨rfl, rfl⟩⟩
theorem StNew.snoc {w : World} {B n : Nat} {v : Value} {l : List Stp} {c : Stp} (hn : l.length = n) (h : w.ownsRow B 71 6 v (n + 1) (stpRows l ++ stpRow c)) : StNew w B v (l ++ [c]) := by
  unfold StNew
  rw [List.length_append]
  have e : stpRows (l ++ [c]) = stpRows l ++ stpRow c := by simp [stpRows]
  rw [e]
  subst hn
  exact h
theorem infoStep : (Tryz.prog.info? 71).map (fun i => (i.zero, i.size, i.bytes)) = some (some (.agg #[.int .i64 0, .int .i64 0, .int .i64 0, .int .i64 0, .int .i64 0, .int .i64 0]), 6, 48) := by kernel_rfl
def sat (l : List Stp) (i : Nat) : Stp := l.getD i ⟨0, 0, 0, 0, 0, 0⟩
theorem sat_get {l : List Stp} {i : Nat} (h : i < l.length) : l[i]? = some (sat l i) := by simp [sat, h]
end Go.Proofs.YtehpdbbkbdfobacGreatDoor.Pa
