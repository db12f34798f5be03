/-
  Joined: Pa00, Fa1.
-/
import Derived.Test.YtehpdbbkbdfobabGreatDoorSt9
import Derived.Test.YtehpdbbkbdfobabGreatDoorSt11

/-
  Rows of one's own, once more by these names; the words of a route.
-/
namespace Go.Proofs.YtehpdbbkbdfobabGreatDoor.Pa
open Go.RowKit Go.Proofs.YtehpdbbkbdfobabGreatDoor Go.Proofs.YtehpdbbkbdfobabGreatDoor.Sd
set_option linter.unusedSimpArgs false
set_option linter.unusedVariables false

theorem ownF_keep {w w' : World} {base : Nat} {e : TypeId} {size : Nat} {v : Value} {n : Nat} {xs : List Value} (h : w.ownsRow base e size v n xs) (hb : Below w.heap.size w w') : w'.ownsRow base e size v n xs := by
  obtain ⟨h1, h2⟩ := h
  refine ⟨h1, ?_⟩
  rcases h2 with h2 | ⟨g, cap, cur, hv, hg, hh, rest⟩
  · exact .inl h2
  · exact .inr ⟨g, cap, cur, hv, hg, (hb.block g (Array.getElem?_eq_some_iff.1 hh).1).trans hh, rest⟩
theorem ownF_ge {w : World} {base : Nat} {e : TypeId} {size : Nat} {v : Value} {n : Nat} {xs : List Value} (h : w.ownsRow base e size v n xs) : ∀ k, v.ownBlock = some k → base ≤ k := by
  intro k hk
  rcases h.2 with ⟨rfl, _⟩ | ⟨g, cap, cur, rfl, hg, _⟩
  · cases hk
  · cases hk; exact hg
theorem ownF_lt {w : World} {base : Nat} {e : TypeId} {size : Nat} {v : Value} {n : Nat} {xs : List Value} (h : w.ownsRow base e size v n xs) : ∀ k, v.ownBlock = some k → k < w.heap.size := by
  intro k hk
  rcases h.2 with ⟨rfl, _⟩ | ⟨g, cap, cur, rfl, hg, hc, _⟩
  · cases hk
  · cases hk; exact (Array.getElem?_eq_some_iff.1 hc).1
theorem ownF_slice {w : World} {base : Nat} {e : TypeId} {size : Nat} {v : Value} {n : Nat} {xs : List Value} (h : w.ownsRow base e size v n xs) : ∃ a c, v = .slice a n c := by
  rcases h.2 with ⟨rfl, h0⟩ | ⟨g, cap, cur, rfl, _⟩
  · exact ⟨none, 0, by rw [h0]⟩
  · exact ⟨_, cap, rfl⟩
theorem ownF_far {W W' : World} {row : Option Nat} {base : Nat} {e : TypeId} {size : Nat} {v : Value} {n : Nat} {xs : List Value} (h : W.ownsRow base e size v n xs) (hg : W.grownBy W' row) (hr : ∀ k, v.ownBlock = some k → some k ≠ row) : W'.ownsRow base e size v n xs := by
  refine ⟨h.1, ?_⟩
  rcases h.2 with h2 | ⟨g, cap, cur, hv, hb, hc, rest⟩
  · exact .inl h2
  · refine .inr ⟨g, cap, cur, hv, hb, ?_, rest⟩
    exact (hg.block g (Array.getElem?_eq_some_iff.1 hc).1 (hr g (by rw [hv]; rfl))).trans hc
theorem ownF_mono {w : World} {base base' : Nat} {e : TypeId} {size : Nat} {v : Value} {n : Nat} {xs : List Value} (h : w.ownsRow base e size v n xs) (hb : base' ≤ base) : w.ownsRow base' e size v n xs := by
  refine ⟨h.1, ?_⟩
  rcases h.2 with h2 | ⟨g, cap, cur, hv, hg, rest⟩
  · exact .inl h2
  · exact .inr ⟨g, cap, cur, hv, by omega, rest⟩
/-- The words of its route. -/
def rtW (e : Ent) : List ByteArray := match lastV e.fs 4 with
  | some f => cutW f.v
  | none => []
theorem cell_blk {w : World} {b i : Nat} {C : Array Value} {T : TypeId} {u : Value} (h : w.heap[b]? = some (.cells C T (0, 0))) (hc : C[i]? = some u) : w.cell? ⟨b, i, none⟩ = some u := by simp [World.cell?, h, hc]
end Go.Proofs.YtehpdbbkbdfobabGreatDoor.Pa

/-
  Flights in a row of one's own, their routes beside it.
-/
namespace Go.Proofs.YtehpdbbkbdfobabGreatDoor.Fa
open Go.RowKit Go.Proofs.YtehpdbbkbdfobabGreatDoor Go.Proofs.YtehpdbbkbdfobabGreatDoor.Sd Go.Proofs.YtehpdbbkbdfobabGreatDoor.Pa
set_option linter.unusedSimpArgs false
set_option linter.unusedVariables false

/-- A flight that stands, as values. -/
structure FlV where
  q : ByteArray
  t : Tri
  x : Int
  y : Int
  z : Int
  L : List ByteArray
/-- .. and where its route lies. -/
abbrev FlP := FlV × Value
def flRow (p : FlP) : List Value := [.string p.1.q, .string p.1.t.s, .int .i64 p.1.t.x, .int .i64 p.1.t.y, .int .i64 p.1.x, .int .i64 p.1.y, .int .i64 p.1.z, p.2]
def flRows (l : List FlP) : List Value := l.flatMap flRow
theorem flRows_len (l : List FlP) : (flRows l).length = l.length * 8 := by
  induction l with
  | nil => rfl
  | cons a l ih => simp [flRows, flRow] at ih ⊢; omega
theorem flRows_get : ∀ (l : List FlP) (i j : Nat) (p : FlP), l[i]? = some p → j < 8 → (flRows l)[i * 8 + j]? = (flRow p)[j]?
  | [], i, j, p, h, hj => by simp at h
  | a :: l, 0, j, p, h, hj => by
    simp at h; subst h
    have : (flRows (a :: l)) = flRow a ++ flRows l := by simp [flRows]
    rw [this, Nat.zero_mul, Nat.zero_add, List.getElem?_append_left (by simpa [flRow] using hj)]
  | a :: l, i + 1, j, p, h, hj => by
    have h1 := flRows_get l i j p (by simpa using h) hj
    have h2 : (flRows (a :: l)) = flRow a ++ flRows l := by simp [flRows]
    rw [h2, List.getElem?_append_right (by simp [flRow]; omega), ← h1]
    congr 1
    simp [flRow]
    omega
/-- Two lists share no memory. -/
def Apart (u v : Value) : Prop := ∀ k, u.ownBlock = some k → v.ownBlock ≠ some k
theorem Apart.symm {u v : Value} (h : Apart u v) : Apart v u := fun k hk e => h k e hk
theorem own_apart {w : World} {b b' : Nat} {e e' : TypeId} {s s' n n' : Nat} {u v : Value} {xs ys : List Value} (h : w.ownsRow b e s u n xs) (h' : w.ownsRow b' e' s' v n' ys) (hne : e ≠ e') : Apart u v := by
  intro k hk hv
  rcases h'.2 with ⟨rfl, _⟩ | ⟨g, cap, cur, rfl, hb, hc, _⟩
  · cases hv
  · have e2 : g = k := by
      have h3 : (some g : Option Nat) = some k := hv
      injection h3
    subst e2
    exact Sd.own_type h hc hne hk.symm
/-- The flights lie in a row of one's own, each route in one, no two in the same memory. -/
structure FlsP (w : World) (B : Nat) (v : Value) (l : List FlP) : Prop where
  row : w.ownsRow B 52 8 v l.length (flRows l)
  rt : ∀ p ∈ l, SNew w B p.2 p.1.L
  ap : l.Pairwise fun p p' => Apart p.2 p'.2
def FlsNew (w : World) (B : Nat) (v : Value) (l : List FlV) : Prop := ∃ ps : List FlP, ps.map Prod.fst = l ∧ FlsP w B v ps
theorem FlsP.nil (w : World) (B : Nat) : FlsP w B (.slice none 0 0) [] := ⟨⟨rfl, .inl ⟨rfl, rfl⟩⟩, (fun p hp => by cases hp), List.Pairwise.nil⟩
theorem FlsNew.nil (w : World) (B : Nat) : FlsNew w B (.slice none 0 0) [] := ⟨[], rfl, FlsP.nil w B⟩
theorem FlsP.keep {w w' : World} {B : Nat} {v : Value} {l : List FlP} (h : FlsP w B v l) (hb : Below w.heap.size w w') : FlsP w' B v l := ⟨ownF_keep h.row hb, fun p hp => ownF_keep (h.rt p hp) hb, h.ap⟩
theorem FlsNew.keep {w w' : World} {B : Nat} {v : Value} {l : List FlV} (h : FlsNew w B v l) (hb : Below w.heap.size w w') : FlsNew w' B v l := by
  obtain ⟨ps, e, h⟩ := h
  exact ⟨ps, e, h.keep hb⟩
theorem FlsP.mono {w : World} {B B' : Nat} {v : Value} {l : List FlP} (h : FlsP w B v l) (hb : B' ≤ B) : FlsP w B' v l := ⟨ownF_mono h.row hb, fun p hp => ownF_mono (h.rt p hp) hb, h.ap⟩
theorem FlsNew.mono {w : World} {B B' : Nat} {v : Value} {l : List FlV} (h : FlsNew w B v l) (hb : B' ≤ B) : FlsNew w B' v l := by
  obtain ⟨ps, e, h⟩ := h
  exact ⟨ps, e, h.mono hb⟩
theorem FlsNew.slice {w : World} {B : Nat} {v : Value} {l : List FlV} (h : FlsNew w B v l) : ∃ a c, v = .slice a l.length c := by
  obtain ⟨ps, rfl, h⟩ := h
  obtain ⟨a, c, e⟩ := ownF_slice h.row
  exact ⟨a, c, by rw [e, List.length_map]⟩
/-- One more behind, whose route is younger than all. -/
theorem FlsP.push {w wx : World} {B : Nat} {v v' : Value} {l : List FlP} {p : FlP} (h : FlsP w B v l) (hrt : SNew w B p.2 p.1.L) (hy : ∀ p' ∈ l, Apart p'.2 p.2) (hg : w.grownBy wx v.ownBlock) (hown : wx.ownsRow B 52 8 v' (l.length + 1) (flRows l ++ flRow p)) : FlsP wx B v' (l ++ [p]) := by
  have hf : ∀ (q : FlP), SNew w B q.2 q.1.L → SNew wx B q.2 q.1.L := fun q hq => ownF_far hq hg (fun k hk e => own_apart hq h.row (by decide) k hk e.symm)
  refine ⟨?_, fun q hq => ?_, ?_⟩
  · rw [List.length_append]
    have e : flRows (l ++ [p]) = flRows l ++ flRow p := by simp [flRows]
    rw [e]
    exact hown
  · rcases List.mem_append.1 hq with hq | hq
    · exact hf q (h.rt q hq)
    · simp at hq; subst hq; exact hf q hrt
  · rw [List.pairwise_append]
    exact ⟨h.ap, List.pairwise_singleton _ _, fun a ha b hb => by simp at hb; subst hb; exact hy a ha⟩
/-- A flight of the book. -/
def flV (ks : List Tri) (e : Ent) : FlV := ⟨e.name, kdOf ks (lastV e.fs 1), frOf (lastV e.fs 2), byOf (lastV e.fs 2), lvOf (lastV e.fs 3), rtW e⟩
/-- All that stand. -/
def allE (es : List Ent) : List Ent := es.filter fun e => stB e.fs
def allR (ks ps : List Tri) (es : List Ent) : List FlV := bif bookB ks ps es then (allE es).map (flV ks) else []
theorem allE_take {es : List Ent} {k : Nat} (h : k < es.length) : allE (es.take (k + 1)) = allE (es.take k) ++ (bif stB (eat es k).fs then [eat es k] else []) := by
  have e : es.take (k + 1) = es.take k ++ [eat es k] := by
    rw [List.take_succ_eq_append_getElem h]
    simp [eat, h]
  unfold allE
  rw [e, List.filter_append]
  cases hs : stB (eat es k).fs <;> simp [hs]
theorem allE_len (es : List Ent) : (allE es).length ≤ es.length := List.length_filter_le _ _
theorem infoFl : (Tryz.prog.info? 52).map (fun i => (i.zero, i.size, i.bytes)) = some (some (.agg zero8), 8, 96) := by kernel_rfl
/-- The route of an entry that stands, by its words. -/
theorem rt_new {w : World} {B : Nat} {rt : Value} {e : Ent} (h : RtIs w B rt (lastV e.fs 4)) : SNew w B rt (rtW e) := by
  unfold rtW
  cases h4 : lastV e.fs 4 with
  | none =>
    rw [h4] at h
    have h2 : rt = .slice none 0 0 := h
    rw [h2]
    exact ⟨rfl, .inl ⟨rfl, rfl⟩⟩
  | some f => rw [h4] at h; exact h
end Go.Proofs.YtehpdbbkbdfobabGreatDoor.Fa
