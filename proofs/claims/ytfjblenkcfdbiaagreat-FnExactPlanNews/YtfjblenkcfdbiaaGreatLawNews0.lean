
/-
  For the law FnExactPlanNews: what lies where; marks over its answer.
-/
import Derived.Test.YtfjblenkcfdbiaaGreatNewsE
import Derived.Test.YtfjblenkcfdbiaaGreatMark3
namespace Go.Proofs.YtfjblenkcfdbiaaGreat
open Go.RowKit

/-- Two boxes at the head of the law's own memory. -/
structure LA (w wx : World) (A B : Array Value) : Prop where
  below : Below w.heap.size w wx
  a : wx.heap[w.heap.size]? = some (.cells A 28 (0, 0))
  b : wx.heap[w.heap.size + 1]? = some (.cells B 28 (0, 0))
theorem LA.start (w : World) (A B : Array Value) : LA w ((w.alloc (.cells A 28)).alloc (.cells B 28)) A B := by
  have s1 : (w.alloc (.cells A 28)).heap.size = w.heap.size + 1 := by simp
  have h2 := heap_new (w.alloc (.cells A 28)) (.cells B 28)
  rw [s1] at h2
  exact ⟨((Below.refl _ _).alloc (Nat.le_refl _) _).alloc (by simp) _, (Below.heap_alloc _ _ _ (by omega)).trans (heap_new w _), h2⟩
theorem LA.zA {w wx : World} {A B : Array Value} (h : LA w wx A B) : w.heap.size + 1 < wx.heap.size := (Array.getElem?_eq_some_iff.1 h.b).1
theorem LA.call {w wx wy : World} {A B : Array Value} (h : LA w wx A B) (hb : Below wx.heap.size wx wy) : LA w wy A B :=
  ⟨below_step h.below hb, (hb.block _ (by have := h.zA; omega)).trans h.a, (hb.block _ h.zA).trans h.b⟩
theorem LA.only {w wx wy : World} {A B : Array Value} {lo hi : Nat} (h : LA w wx A B) (ho : Only lo hi wx wy) (hl : w.heap.size + 2 ≤ lo) : LA w wy A B :=
  ⟨h.below.trans (ho.below.mono (by omega)), (ho.below.block _ (by omega)).trans h.a, (ho.below.block _ (by omega)).trans h.b⟩
theorem LA.grown {w wx wy : World} {A B : Array Value} {row : Option Nat} (h : LA w wx A B) (hg : wx.grownBy wy row) (hr : ∀ k, row = some k → w.heap.size + 2 ≤ k) : LA w wy A B := by
  have hz := h.zA
  refine ⟨h.below.grown hg h.below.size (fun k e => by have := hr k e; omega), (hg.block _ (by omega) ?_).trans h.a, (hg.block _ hz ?_).trans h.b⟩
  · intro e; have := hr _ e.symm; omega
  · intro e; have := hr _ e.symm; omega
theorem LA.cellA {w wx : World} {A B : Array Value} (h : LA w wx A B) (j : Nat) : wx.cell? ⟨w.heap.size, j, none⟩ = A[j]? := by simp [World.cell?, h.a]
theorem LA.cellB {w wx : World} {A B : Array Value} (h : LA w wx A B) (j : Nat) : wx.cell? ⟨w.heap.size + 1, j, none⟩ = B[j]? := by simp [World.cell?, h.b]

theorem ownsRow_same {W W' : World} {base : Nat} {e : TypeId} {size : Nat} {v : Value} {n : Nat} {xs : List Value} (h : W.ownsRow base e size v n xs) (hs : ∀ k, v.ownBlock = some k → k < W.heap.size → W'.heap[k]? = W.heap[k]?) : W'.ownsRow base e size v n xs := by
  refine ⟨h.1, ?_⟩
  rcases h.2 with h2 | ⟨g, cap, cur, hv, hb, hc, rest⟩
  · exact .inl h2
  · exact .inr ⟨g, cap, cur, hv, hb, (hs g (by rw [hv]; rfl) (Array.getElem?_eq_some_iff.1 hc).1).trans hc, rest⟩
theorem own_lt {W : World} {base : Nat} {e : TypeId} {size : Nat} {v : Value} {n : Nat} {xs : List Value} (h : W.ownsRow base e size v n xs) : ∀ k, v.ownBlock = some k → k < W.heap.size := by
  intro k hk
  rcases h.2 with ⟨rfl, _⟩ | ⟨g, cap, cur, rfl, _, hc, _⟩
  · cases hk
  · cases hk; exact (Array.getElem?_eq_some_iff.1 hc).1

theorem book_sum {ks ps : List Tri} {es : List Ent} (h : szBook ks ps es ≤ 1048576) : sumN (fun e => e.fs.length) es ≤ 1048576 := by
  have := sum_fs_le es
  unfold szBook szEnts at h
  omega
theorem book_small {ks ps : List Tri} {es : List Ent} (h : BSmall ks ps es) : ∀ c ∈ chgsOf es, c.f.size ≤ 1048576 ∧ c.v.size ≤ 1048576 := by
  intro c hc
  unfold chgsOf at hc
  obtain ⟨e, he, hc⟩ := List.mem_flatMap.1 hc
  obtain ⟨f, hf, rfl⟩ := List.mem_map.1 hc
  exact ⟨h.n e he, h.v e he f hf⟩
theorem news_len (ks ps ks' ps' : List Tri) (es es' : List Ent) (h : sumN (fun e => e.fs.length) es' ≤ 1048576) : (bif bookB ks ps es && bookB ks' ps' es' then (chgsOf es').filter fun c => !hasS es c else []).length ≤ 1048576 := by
  cases bookB ks ps es && bookB ks' ps' es'
  · simp
  · have h1 := List.length_filter_le (fun c => !hasS es c) (chgsOf es')
    rw [chgsOf_len] at h1
    exact Nat.le_trans h1 h

/-- Its marks are there. -/
def Marked (w : World) (v : Value) (n : Nat) : Prop := (v = .slice none 0 0 ∧ n = 0) ∨ ∃ b cap, v = .slice (some ⟨b, 0, none⟩) n cap ∧ b < w.heap.size ∧ ∀ q, q < n * 4 → w.cell? ⟨b, q, none⟩ = some (mkV 4 patChange 1 q)
theorem Marked.keep {w w' : World} {v : Value} {n : Nat} (h : Marked w v n) (hb : Below w.heap.size w w') : Marked w' v n := by
  rcases h with h | ⟨b, cap, h1, h2, h3⟩
  · exact .inl h
  · exact .inr ⟨b, cap, h1, Nat.lt_of_lt_of_le h2 hb.size, fun q hq => (hb.cell (p := ⟨b, q, none⟩) h2).trans (h3 q hq)⟩
theorem markNil_any (w : World) : Calls Tryz.prog 20 #[.slice none 0 0, .int .i64 1] w fun e w' => e = .returned (.int .i64 1) ∧ w' = w := by
  go_enter Tryz.func20, Tryz.ntmps20
  go_wp2
  go_loopw [1, 5] (fun kk i wr => i = .int .i64 0 ∧ kk = .int .i64 1 ∧ wr = w) (fun _ _ _ => 0)
  case atStart => exact ⟨rfl, rfl, rfl⟩
  case round =>
    obtain ⟨rfl, rfl, rfl⟩ := hrel
    go_wp2
    go_ret
    exact ⟨rfl, rfl⟩
theorem heldNil_any (w : World) : Calls Tryz.prog 21 #[.slice none 0 0, .int .i64 1] w fun e w' => e = .returned (.int .i64 1) ∧ w' = w := by
  go_enter Tryz.func21, Tryz.ntmps21
  go_wp2
  go_loopw [1, 5] (fun kk i wr => i = .int .i64 0 ∧ kk = .int .i64 1 ∧ wr = w) (fun _ _ _ => 0)
  case atStart => exact ⟨rfl, rfl, rfl⟩
  case round =>
    obtain ⟨rfl, rfl, rfl⟩ := hrel
    go_wp2
    go_ret
    exact ⟨rfl, rfl⟩
theorem markG_any (v : Value) (cs : List Chg) (base : Nat) (w : World) (ho : ChgsNew w base v cs) (hn : cs.length ≤ 1048576) :
    Calls Tryz.prog 20 #[v, .int .i64 1] w fun e w' => e = .returned (.int .i64 ((1 + cs.length * 4 : Nat) : Int)) ∧ Marked w' v cs.length ∧ w.grownBy w' v.ownBlock := by
  rcases ho.2 with ⟨rfl, h0⟩ | ⟨g, cap, cur, rfl, hg, hc, l1, l2, l3, l4⟩
  · rw [h0]
    refine (markNil_any w).mono ?_
    rintro e w' ⟨rfl, rfl⟩
    exact ⟨rfl, .inl ⟨rfl, rfl⟩, below_grown (Below.refl _ _) _⟩
  · have hlt : g < w.heap.size := (Array.getElem?_eq_some_iff.1 hc).1
    refine (markChanges_any g cs.length cap 1 w hlt ?_ hn (by omega)).mono ?_
    · intro q hq
      have hq' : q < cur.size := by rw [l3]; omega
      simp [World.cell?, World.frozen?, hc, hq']
    · rintro e w' ⟨rfl, hM⟩
      exact ⟨rfl, .inr ⟨g, cap, rfl, Nat.lt_of_lt_of_le hlt hM.grown.size, fun q hq => hM.has q hq⟩, hM.grown⟩
theorem heldG_any (v : Value) (n : Nat) (w : World) (hM : Marked w v n) (hn : n ≤ 1048576) :
    Calls Tryz.prog 21 #[v, .int .i64 1] w fun e w' => e = .returned (.int .i64 ((1 + n * 4 : Nat) : Int)) ∧ Below w.heap.size w w' := by
  rcases hM with ⟨rfl, rfl⟩ | ⟨g, cap, rfl, hlt, hh⟩
  · refine (heldNil_any w).mono ?_
    rintro e w' ⟨rfl, rfl⟩
    exact ⟨rfl, Below.refl _ _⟩
  · exact heldChanges_any g n cap 1 w hh hn (by omega)
end Go.Proofs.YtfjblenkcfdbiaaGreat
