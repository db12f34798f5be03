/-
  For the proof of take_holds: part 26 (Cpy1, Cpy2).
-/
import Derived.Test.YtfjblenkcfdbiaaGreatRowTakeJ25
/-
  The specification: a base is copied.
-/
namespace Go.Proofs.YtfjblenkcfdbiaaGreat
open Go.RowKit
set_option linter.unusedSimpArgs false
set_option linter.unusedVariables false

/-- The argument's box and the result's. -/
structure C1 (w wr : World) (A : Array Value) : Prop where
  below : Below w.heap.size w wr
  a : wr.heap[w.heap.size]? = some (.cells A 36 (0, 0))
  b : wr.heap[w.heap.size + 1]? = some (.cells #[.slice none 0 0, .slice none 0 0] 36 (0, 0))
theorem C1.z {w wr : World} {A : Array Value} (h : C1 w wr A) : w.heap.size + 2 ≤ wr.heap.size := (Array.getElem?_eq_some_iff.1 h.b).1
theorem C1.call {w wr wy : World} {A : Array Value} (h : C1 w wr A) (hb : Below wr.heap.size wr wy) : C1 w wy A := by
  have hz := h.z
  exact ⟨below_step h.below hb, (hb.block _ (by omega)).trans h.a, (hb.block _ (by omega)).trans h.b⟩
theorem C1.grown {w wr wy : World} {A : Array Value} {r : Option Nat} (h : C1 w wr A) (hg : wr.grownBy wy r) (hr : ∀ k, r = some k → w.heap.size + 2 ≤ k) : C1 w wy A := by
  have hz := h.z
  refine ⟨h.below.grown hg h.below.size (fun k e => by have := hr k e; omega), (hg.block _ (by omega) ?_).trans h.a, (hg.block _ (by omega) ?_).trans h.b⟩
  · intro e; have := hr _ e.symm; omega
  · intro e; have := hr _ e.symm; omega
theorem C1.start (w : World) (A : Array Value) : C1 w (((w.alloc (.cells A 36)).alloc (.cells #[.slice none 0 0, .slice none 0 0] 36)).drew) A := by
  have s1 : (w.alloc (.cells A 36)).heap.size = w.heap.size + 1 := by simp
  have h1 := heap_newF w (.cells A 36)
  have h2 := heap_newF (w.alloc (.cells A 36)) (.cells #[.slice none 0 0, .slice none 0 0] 36)
  rw [s1] at h2
  refine ⟨(((Below.refl _ _).alloc (Nat.le_refl _) _).alloc (by simp) _).drew, ?_, h2⟩
  exact (Below.heap_alloc _ _ _ (by omega)).trans h1
theorem C1.row {w wr : World} {A : Array Value} (h : C1 w wr A) (cs : Array Value) (j : Nat) : (wr.setRow (w.heap.size + 1) cs).cell? ⟨w.heap.size, j, none⟩ = A[j]? := by
  have e : (wr.setRow (w.heap.size + 1) cs).heap[w.heap.size]? = wr.heap[w.heap.size]? := setRow_other _ _ _ _ (by omega)
  rw [World.cell?_of_block (w := wr) e]
  simp [World.cell?, h.a]
theorem C1.cell {w wr : World} {A : Array Value} (h : C1 w wr A) (j : Nat) : wr.cell? ⟨w.heap.size, j, none⟩ = A[j]? := by simp [World.cell?, h.a]

set_option maxRecDepth 100000 in
set_option maxHeartbeats 6400000 in
theorem specL1Copy_any (vk vp : Value) (ks ps : List Tri) (w : World) (hk : TrisAt w vk ks) (hp : TrisAt w vp ps) (lk : ks.length ≤ 1048576) (lp : ps.length ≤ 1048576) :
    Calls Tryz.prog 55 #[.agg #[vk, vp]] w fun e w' => ∃ x y, e = .returned (.agg #[x, y]) ∧ w'.ownsRow (w.heap.size + 2) 116 3 x ks.length (triRows ks) ∧ w'.ownsRow (w.heap.size + 2) 118 3 y ps.length (triRows ps) ∧ Below w.heap.size w w' := by
  obtain ⟨i0, hi, hz0, hz1, hz2⟩ := info_parts infoKindC
  obtain ⟨i1, hj, hy0, hy1, hy2⟩ := info_parts infoPointC
  have HK := hk; have HP := hp
  obtain ⟨ak, ck, rfl, -, -, -⟩ := hk
  obtain ⟨ap, cp, rfl, -, -, -⟩ := hp
  have SK : Hid (∀ wx : World, Below w.heap.size w wx → (ks.length = 0 ∨ ∃ ad, ak = some ad ∧ ∀ j u, (triRows ks)[j]? = some u → wx.cell? (ad.add j) = some u)) := fun wx hx => src_keep (tris_src HK) hx
  have SP : Hid (∀ wx : World, Below w.heap.size w wx → (ps.length = 0 ∨ ∃ ad, ap = some ad ∧ ∀ j u, (triRows ps)[j]? = some u → wx.cell? (ad.add j) = some u)) := fun wx hx => src_keep (tris_src HP) hx
  have HC : Hid (C1 w _ #[.slice ak ks.length ck, .slice ap ps.length cp]) := C1.start w #[.slice ak ks.length ck, .slice ap ps.length cp]
  clear HK HP
  go_enter Tryz.func55, Tryz.ntmps55
  go_wp2
  refine wp_region_noPanic ?_
  refine wp_region_held_drew (S := fun w' => w'.cell? ⟨w.heap.size, 0, none⟩ = some (.slice ak ks.length ck) ∧ w'.cell? ⟨w.heap.size, 1, none⟩ = some (.slice ap ps.length cp)) (by kernel_rfl) ?_ (fun hHeld => ?_)
  · exact ⟨HC.out.cell 0, HC.out.cell 1⟩
  generalize ((w.alloc (.cells #[.slice ak ks.length ck, .slice ap ps.length cp] 36)).alloc (.cells #[.slice none 0 0, .slice none 0 0] 36)).drew = W0 at *
  refine wpAnyH_take (i := 1) (v := ?_) rfl (by kernel_rfl) (by kernel_rfl) (by kernel_rfl) (fun _ _ _ h => h) (Or.inl ⟨by rfl, ?_⟩) (by assumption) ?_
  rotate_left
  · intro w hSw; (try dsimp only at hSw); go_simp; try with_reducible rfl
  simp only [Act.put, List.setIfInBounds_toArray, List.set_cons_zero, List.set_cons_succ, List.getElem_toArray, List.getElem_cons_succ, List.getElem_cons_zero]
  refine wpAnyH_take (i := 2) (v := ?_) rfl (by kernel_rfl) (by kernel_rfl) (by kernel_rfl) (fun _ _ _ h => h) (Or.inl ⟨by rfl, ?_⟩) (by assumption) ?_
  rotate_left
  · intro w hSw; (try dsimp only at hSw); go_simp; try with_reducible rfl
  simp only [Act.put, List.setIfInBounds_toArray, List.set_cons_zero, List.set_cons_succ, List.getElem_toArray, List.getElem_cons_succ, List.getElem_cons_zero]
  refine wpAnyH_take (i := 5) (v := ?_) rfl (by kernel_rfl) (by kernel_rfl) (by kernel_rfl) (fun _ _ _ h => h) (Or.inl ⟨by rfl, ?_⟩) (by assumption) ?_
  rotate_left
  · intro w hSw; (try dsimp only at hSw); go_simp; try with_reducible rfl
  simp only [Act.put, List.setIfInBounds_toArray, List.set_cons_zero, List.set_cons_succ, List.getElem_toArray, List.getElem_cons_succ, List.getElem_cons_zero]
  refine wpAnyH_take (i := 6) (v := ?_) rfl (by kernel_rfl) (by kernel_rfl) (by kernel_rfl) (fun _ _ _ h => h) (Or.inl ⟨by rfl, ?_⟩) (by assumption) ?_
  rotate_left
  · intro w hSw; (try dsimp only at hSw); go_simp; try with_reducible rfl
  simp only [Act.put, List.setIfInBounds_toArray, List.set_cons_zero, List.set_cons_succ, List.getElem_toArray, List.getElem_cons_succ, List.getElem_cons_zero]
  clear hHeld
  refine wpAnyH_ready (rs := [0, 4]) (by kernel_rfl) (by simp) ?_
  refine AllReadyH.cons rfl (fun K hK => ?_) (AllReadyH.cons rfl (fun K hK => ?_) AllReadyH.nil)
  · go_simp
    have hal : Below W0.heap.size W0 (W0.alloc (.cells #[] 116)) := (Below.refl _ _).alloc (Nat.le_refl _) _
    have HC2 : Hid (C1 w (W0.alloc (.cells #[] 116)) #[.slice ak ks.length ck, .slice ap ps.length cp]) := HC.out.call hal
    have RA : Hid ((W0.alloc (.cells #[] 116)).ownsRow (w.heap.size + 2) 116 3 (.slice (some ⟨W0.heap.size, 0, none⟩) 0 0) 0 []) := own_new0 (heap_newF W0 _) HC.out.z 3
    refine hK.out _ _ ⟨HC2.out.cell 0, HC2.out.cell 1⟩ (fun _ => ?_)
    clear hK K hal HC
    have HC := HC2
    clear HC2
    generalize W0.alloc (.cells #[] 116) = W1 at *
    refine wpAnyH_ready (rs := [3, 4]) (by kernel_rfl) (by simp) ?_
    refine AllReadyH.cons rfl (fun K hK => ?_) (AllReadyH.cons rfl (fun K hK => ?_) AllReadyH.nil)
    · refine step_append_any _ rfl _ _ 33 rfl (w.heap.size + 2) 116 i0 _ 3 32 Tryz.underlying33 hi hz0 hz1 hz2 rfl (by decide) _ 0 [] rfl RA.out ak ks.length ck (triRows ks) rfl (SK.out _ HC.out.below) (triRows_len _) tri_one (by unfold maxLen; omega) (by omega) HC.out.z ?_
      intro va W2 hown hgrow hat
      rw [Nat.zero_add, List.nil_append] at hown
      have HC2 : Hid (C1 w W2 #[.slice ak ks.length ck, .slice ap ps.length cp]) := HC.out.grown hgrow (own_ge RA.out)
      refine hK.out _ _ ⟨HC2.out.cell 0, HC2.out.cell 1⟩ (fun _ => ?_)
      clear hK K hgrow hat HC RA
      have RA := toHidC hown
      obtain ⟨a1, c1, rfl⟩ := own_slice hown
      clear hown
      have HC := HC2
      clear HC2
      refine wpAnyH_ready (rs := [4]) (by kernel_rfl) (by simp) ?_
      refine AllReadyH.cons rfl (fun K hK => ?_) AllReadyH.nil
      go_simp
      have hal : Below W2.heap.size W2 (W2.alloc (.cells #[] 118)) := (Below.refl _ _).alloc (Nat.le_refl _) _
      have HC2 : Hid (C1 w (W2.alloc (.cells #[] 118)) #[.slice ak ks.length ck, .slice ap ps.length cp]) := HC.out.call hal
      have RB : Hid ((W2.alloc (.cells #[] 118)).ownsRow (w.heap.size + 2) 118 3 (.slice (some ⟨W2.heap.size, 0, none⟩) 0 0) 0 []) := own_new0 (heap_newF W2 _) HC.out.z 3
      have RA2 := toHidC (ownsRow_keep RA.out hal)
      refine hK.out _ _ ⟨HC2.out.cell 0, HC2.out.cell 1⟩ (fun _ => ?_)
      clear hK K hal HC
      clear RA
      have RA := RA2
      clear RA2
      have HC := HC2
      clear HC2
      generalize W2.alloc (.cells #[] 118) = W3 at *
      refine wpAnyH_ready (rs := [7]) (by kernel_rfl) (by simp) ?_
      refine AllReadyH.cons rfl (fun K hK => ?_) AllReadyH.nil
      refine step_append_any _ rfl _ _ 34 rfl (w.heap.size + 2) 118 i1 _ 3 32 Tryz.underlying34 hj hy0 hy1 hy2 rfl (by decide) _ 0 [] rfl RB.out ap ps.length cp (triRows ps) rfl (SP.out _ HC.out.below) (triRows_len _) tri_one (by unfold maxLen; omega) (by omega) HC.out.z ?_
      intro va W4 hown hgrow hat
      rw [Nat.zero_add, List.nil_append] at hown
      have HC2 : Hid (C1 w W4 #[.slice ak ks.length ck, .slice ap ps.length cp]) := HC.out.grown hgrow (own_ge RB.out)
      have RA2 := toHidC (ownsRow_farF RA.out hgrow (own_apart RB.out RA.out (by decide)))
      refine hK.out _ _ ⟨HC2.out.cell 0, HC2.out.cell 1⟩ (fun _ => ?_)
      clear hK K hgrow hat HC RB
      have RB := toHidC hown
      obtain ⟨a2, c2, rfl⟩ := own_slice hown
      clear hown
      clear RA
      have RA := RA2
      clear RA2
      have HC := HC2
      clear HC2
      have hHeld : _ ∧ _ := ⟨HC.out.cell 0, HC.out.cell 1⟩
      refine wpAnyH_take (i := 8) (v := ?_) rfl (by kernel_rfl) (by kernel_rfl) (by kernel_rfl) (fun _ _ _ h => h) (Or.inl ⟨by rfl, ?_⟩) (by assumption) ?_
      rotate_left
      · intro w hSw; (try dsimp only at hSw); go_simp; try with_reducible rfl
      simp only [Act.put, List.setIfInBounds_toArray, List.set_cons_zero, List.set_cons_succ, List.getElem_toArray, List.getElem_cons_succ, List.getElem_cons_zero]
      clear hHeld
      refine wpAnyH_ready (rs := [9]) (by kernel_rfl) (by simp) ?_
      refine AllReadyH.cons rfl (fun K hK => ?_) AllReadyH.nil
      have hrow := HC.out.b
      refine step_store_rowC rfl 36 _ _ rfl (w.heap.size + 1) #[.slice a1 ks.length c1, .slice a2 ps.length c2] rfl rfl 36 _ hrow (by kernel_rfl) rfl (by simp [Value.oneCell']) ?_
      refine hK.out _ _ ⟨HC.out.row _ 0, HC.out.row _ 1⟩ (fun _ => ?_)
      clear hK K
      refine wpAnyH_done (by kernel_rfl) ?_ _
      refine NoPanic.normal ?_
      go_wp2
      exact bodyPost_ret (v := .agg #[.slice a1 ks.length c1, .slice a2 ps.length c2]) (by simp [results, Tryz.results55, go_sem, cell_setRow_same _ _ _ _ _ _ _ hrow]) rfl ⟨_, _, rfl, ownsRow_farF RA.out (grown_rowF _ _ _) (fun k hk e => by have := own_ge RA.out k hk; injection e; omega), ownsRow_farF RB.out (grown_rowF _ _ _) (fun k hk e => by have := own_ge RB.out k hk; injection e; omega), below_setRow HC.out.below (by omega) _⟩
    · go_simp
      have hal : Below W1.heap.size W1 (W1.alloc (.cells #[] 118)) := (Below.refl _ _).alloc (Nat.le_refl _) _
      have HC2 : Hid (C1 w (W1.alloc (.cells #[] 118)) #[.slice ak ks.length ck, .slice ap ps.length cp]) := HC.out.call hal
      have RB : Hid ((W1.alloc (.cells #[] 118)).ownsRow (w.heap.size + 2) 118 3 (.slice (some ⟨W1.heap.size, 0, none⟩) 0 0) 0 []) := own_new0 (heap_newF W1 _) HC.out.z 3
      have RA2 := toHidC (ownsRow_keep RA.out hal)
      refine hK.out _ _ ⟨HC2.out.cell 0, HC2.out.cell 1⟩ (fun _ => ?_)
      clear hK K hal HC
      clear RA
      have RA := RA2
      clear RA2
      have HC := HC2
      clear HC2
      generalize W1.alloc (.cells #[] 118) = W2 at *
      refine wpAnyH_ready (rs := [3]) (by kernel_rfl) (by simp) ?_
      refine AllReadyH.cons rfl (fun K hK => ?_) AllReadyH.nil
      refine step_append_any _ rfl _ _ 33 rfl (w.heap.size + 2) 116 i0 _ 3 32 Tryz.underlying33 hi hz0 hz1 hz2 rfl (by decide) _ 0 [] rfl RA.out ak ks.length ck (triRows ks) rfl (SK.out _ HC.out.below) (triRows_len _) tri_one (by unfold maxLen; omega) (by omega) HC.out.z ?_
      intro va W3 hown hgrow hat
      rw [Nat.zero_add, List.nil_append] at hown
      have HC2 : Hid (C1 w W3 #[.slice ak ks.length ck, .slice ap ps.length cp]) := HC.out.grown hgrow (own_ge RA.out)
      have RB2 := toHidC (ownsRow_farF RB.out hgrow (own_apart RA.out RB.out (by decide)))
      refine hK.out _ _ ⟨HC2.out.cell 0, HC2.out.cell 1⟩ (fun _ => ?_)
      clear hK K hgrow hat HC RA
      have RA := toHidC hown
      obtain ⟨a1, c1, rfl⟩ := own_slice hown
      clear hown
      clear RB
      have RB := RB2
      clear RB2
      have HC := HC2
      clear HC2
      refine wpAnyH_ready (rs := [7]) (by kernel_rfl) (by simp) ?_
      refine AllReadyH.cons rfl (fun K hK => ?_) AllReadyH.nil
      refine step_append_any _ rfl _ _ 34 rfl (w.heap.size + 2) 118 i1 _ 3 32 Tryz.underlying34 hj hy0 hy1 hy2 rfl (by decide) _ 0 [] rfl RB.out ap ps.length cp (triRows ps) rfl (SP.out _ HC.out.below) (triRows_len _) tri_one (by unfold maxLen; omega) (by omega) HC.out.z ?_
      intro va W4 hown hgrow hat
      rw [Nat.zero_add, List.nil_append] at hown
      have HC2 : Hid (C1 w W4 #[.slice ak ks.length ck, .slice ap ps.length cp]) := HC.out.grown hgrow (own_ge RB.out)
      have RA2 := toHidC (ownsRow_farF RA.out hgrow (own_apart RB.out RA.out (by decide)))
      refine hK.out _ _ ⟨HC2.out.cell 0, HC2.out.cell 1⟩ (fun _ => ?_)
      clear hK K hgrow hat HC RB
      have RB := toHidC hown
      obtain ⟨a2, c2, rfl⟩ := own_slice hown
      clear hown
      clear RA
      have RA := RA2
      clear RA2
      have HC := HC2
      clear HC2
      have hHeld : _ ∧ _ := ⟨HC.out.cell 0, HC.out.cell 1⟩
      refine wpAnyH_take (i := 8) (v := ?_) rfl (by kernel_rfl) (by kernel_rfl) (by kernel_rfl) (fun _ _ _ h => h) (Or.inl ⟨by rfl, ?_⟩) (by assumption) ?_
      rotate_left
      · intro w hSw; (try dsimp only at hSw); go_simp; try with_reducible rfl
      simp only [Act.put, List.setIfInBounds_toArray, List.set_cons_zero, List.set_cons_succ, List.getElem_toArray, List.getElem_cons_succ, List.getElem_cons_zero]
      clear hHeld
      refine wpAnyH_ready (rs := [9]) (by kernel_rfl) (by simp) ?_
      refine AllReadyH.cons rfl (fun K hK => ?_) AllReadyH.nil
      have hrow := HC.out.b
      refine step_store_rowC rfl 36 _ _ rfl (w.heap.size + 1) #[.slice a1 ks.length c1, .slice a2 ps.length c2] rfl rfl 36 _ hrow (by kernel_rfl) rfl (by simp [Value.oneCell']) ?_
      refine hK.out _ _ ⟨HC.out.row _ 0, HC.out.row _ 1⟩ (fun _ => ?_)
      clear hK K
      refine wpAnyH_done (by kernel_rfl) ?_ _
      refine NoPanic.normal ?_
      go_wp2
      exact bodyPost_ret (v := .agg #[.slice a1 ks.length c1, .slice a2 ps.length c2]) (by simp [results, Tryz.results55, go_sem, cell_setRow_same _ _ _ _ _ _ _ hrow]) rfl ⟨_, _, rfl, ownsRow_farF RA.out (grown_rowF _ _ _) (fun k hk e => by have := own_ge RA.out k hk; injection e; omega), ownsRow_farF RB.out (grown_rowF _ _ _) (fun k hk e => by have := own_ge RB.out k hk; injection e; omega), below_setRow HC.out.below (by omega) _⟩
  · go_simp
    have hal : Below W0.heap.size W0 (W0.alloc (.cells #[] 118)) := (Below.refl _ _).alloc (Nat.le_refl _) _
    have HC2 : Hid (C1 w (W0.alloc (.cells #[] 118)) #[.slice ak ks.length ck, .slice ap ps.length cp]) := HC.out.call hal
    have RB : Hid ((W0.alloc (.cells #[] 118)).ownsRow (w.heap.size + 2) 118 3 (.slice (some ⟨W0.heap.size, 0, none⟩) 0 0) 0 []) := own_new0 (heap_newF W0 _) HC.out.z 3
    refine hK.out _ _ ⟨HC2.out.cell 0, HC2.out.cell 1⟩ (fun _ => ?_)
    clear hK K hal HC
    have HC := HC2
    clear HC2
    generalize W0.alloc (.cells #[] 118) = W1 at *
    refine wpAnyH_ready (rs := [0]) (by kernel_rfl) (by simp) ?_
    refine AllReadyH.cons rfl (fun K hK => ?_) AllReadyH.nil
    go_simp
    have hal : Below W1.heap.size W1 (W1.alloc (.cells #[] 116)) := (Below.refl _ _).alloc (Nat.le_refl _) _
    have HC2 : Hid (C1 w (W1.alloc (.cells #[] 116)) #[.slice ak ks.length ck, .slice ap ps.length cp]) := HC.out.call hal
    have RA : Hid ((W1.alloc (.cells #[] 116)).ownsRow (w.heap.size + 2) 116 3 (.slice (some ⟨W1.heap.size, 0, none⟩) 0 0) 0 []) := own_new0 (heap_newF W1 _) HC.out.z 3
    have RB2 := toHidC (ownsRow_keep RB.out hal)
    refine hK.out _ _ ⟨HC2.out.cell 0, HC2.out.cell 1⟩ (fun _ => ?_)
    clear hK K hal HC
    clear RB
    have RB := RB2
    clear RB2
    have HC := HC2
    clear HC2
    generalize W1.alloc (.cells #[] 116) = W2 at *
    refine wpAnyH_ready (rs := [3]) (by kernel_rfl) (by simp) ?_
    refine AllReadyH.cons rfl (fun K hK => ?_) AllReadyH.nil
    refine step_append_any _ rfl _ _ 33 rfl (w.heap.size + 2) 116 i0 _ 3 32 Tryz.underlying33 hi hz0 hz1 hz2 rfl (by decide) _ 0 [] rfl RA.out ak ks.length ck (triRows ks) rfl (SK.out _ HC.out.below) (triRows_len _) tri_one (by unfold maxLen; omega) (by omega) HC.out.z ?_
    intro va W3 hown hgrow hat
    rw [Nat.zero_add, List.nil_append] at hown
    have HC2 : Hid (C1 w W3 #[.slice ak ks.length ck, .slice ap ps.length cp]) := HC.out.grown hgrow (own_ge RA.out)
    have RB2 := toHidC (ownsRow_farF RB.out hgrow (own_apart RA.out RB.out (by decide)))
    refine hK.out _ _ ⟨HC2.out.cell 0, HC2.out.cell 1⟩ (fun _ => ?_)
    clear hK K hgrow hat HC RA
    have RA := toHidC hown
    obtain ⟨a1, c1, rfl⟩ := own_slice hown
    clear hown
    clear RB
    have RB := RB2
    clear RB2
    have HC := HC2
    clear HC2
    refine wpAnyH_ready (rs := [7]) (by kernel_rfl) (by simp) ?_
    refine AllReadyH.cons rfl (fun K hK => ?_) AllReadyH.nil
    refine step_append_any _ rfl _ _ 34 rfl (w.heap.size + 2) 118 i1 _ 3 32 Tryz.underlying34 hj hy0 hy1 hy2 rfl (by decide) _ 0 [] rfl RB.out ap ps.length cp (triRows ps) rfl (SP.out _ HC.out.below) (triRows_len _) tri_one (by unfold maxLen; omega) (by omega) HC.out.z ?_
    intro va W4 hown hgrow hat
    rw [Nat.zero_add, List.nil_append] at hown
    have HC2 : Hid (C1 w W4 #[.slice ak ks.length ck, .slice ap ps.length cp]) := HC.out.grown hgrow (own_ge RB.out)
    have RA2 := toHidC (ownsRow_farF RA.out hgrow (own_apart RB.out RA.out (by decide)))
    refine hK.out _ _ ⟨HC2.out.cell 0, HC2.out.cell 1⟩ (fun _ => ?_)
    clear hK K hgrow hat HC RB
    have RB := toHidC hown
    obtain ⟨a2, c2, rfl⟩ := own_slice hown
    clear hown
    clear RA
    have RA := RA2
    clear RA2
    have HC := HC2
    clear HC2
    have hHeld : _ ∧ _ := ⟨HC.out.cell 0, HC.out.cell 1⟩
    refine wpAnyH_take (i := 8) (v := ?_) rfl (by kernel_rfl) (by kernel_rfl) (by kernel_rfl) (fun _ _ _ h => h) (Or.inl ⟨by rfl, ?_⟩) (by assumption) ?_
    rotate_left
    · intro w hSw; (try dsimp only at hSw); go_simp; try with_reducible rfl
    simp only [Act.put, List.setIfInBounds_toArray, List.set_cons_zero, List.set_cons_succ, List.getElem_toArray, List.getElem_cons_succ, List.getElem_cons_zero]
    clear hHeld
    refine wpAnyH_ready (rs := [9]) (by kernel_rfl) (by simp) ?_
    refine AllReadyH.cons rfl (fun K hK => ?_) AllReadyH.nil
    have hrow := HC.out.b
    refine step_store_rowC rfl 36 _ _ rfl (w.heap.size + 1) #[.slice a1 ks.length c1, .slice a2 ps.length c2] rfl rfl 36 _ hrow (by kernel_rfl) rfl (by simp [Value.oneCell']) ?_
    refine hK.out _ _ ⟨HC.out.row _ 0, HC.out.row _ 1⟩ (fun _ => ?_)
    clear hK K
    refine wpAnyH_done (by kernel_rfl) ?_ _
    refine NoPanic.normal ?_
    go_wp2
    exact bodyPost_ret (v := .agg #[.slice a1 ks.length c1, .slice a2 ps.length c2]) (by simp [results, Tryz.results55, go_sem, cell_setRow_same _ _ _ _ _ _ _ hrow]) rfl ⟨_, _, rfl, ownsRow_farF RA.out (grown_rowF _ _ _) (fun k hk e => by have := own_ge RA.out k hk; injection e; omega), ownsRow_farF RB.out (grown_rowF _ _ _) (fun k hk e => by have := own_ge RB.out k hk; injection e; omega), below_setRow HC.out.below (by omega) _⟩
end Go.Proofs.YtfjblenkcfdbiaaGreat

/-
  The specification: a book is copied.
-/
namespace Go.Proofs.YtfjblenkcfdbiaaGreat
open Go.RowKit
set_option linter.unusedSimpArgs false
set_option linter.unusedVariables false

/-- The argument's box, the result's, and the copy's. -/
structure Cp3 (w wr : World) (A : Array Value) (X : Nat) (C : Array Value) : Prop where
  below : Below w.heap.size w wr
  a : wr.heap[w.heap.size]? = some (.cells A 39 (0, 0))
  b : wr.heap[w.heap.size + 1]? = some (.cells #[.slice none 0 0, .slice none 0 0, .slice none 0 0] 39 (0, 0))
  c : wr.heap[X]? = some (.cells C 39 (0, 0))
  l : w.heap.size + 2 ≤ X
theorem Cp3.z {w wr : World} {A C : Array Value} {X : Nat} (h : Cp3 w wr A X C) : X < wr.heap.size := (Array.getElem?_eq_some_iff.1 h.c).1
theorem Cp3.call {w wr wy : World} {A C : Array Value} {X : Nat} (h : Cp3 w wr A X C) (hb : Below wr.heap.size wr wy) : Cp3 w wy A X C := by
  have hz := h.z
  have hl := h.l
  exact ⟨below_step h.below hb, (hb.block _ (by omega)).trans h.a, (hb.block _ (by omega)).trans h.b, (hb.block _ (by omega)).trans h.c, hl⟩
theorem Cp3.grown {w wr wy : World} {A C : Array Value} {X : Nat} {r : Option Nat} (h : Cp3 w wr A X C) (hg : wr.grownBy wy r) (hr : ∀ k, r = some k → w.heap.size + 2 ≤ k) (hX : some X ≠ r) : Cp3 w wy A X C := by
  have hz := h.z
  have hl := h.l
  refine ⟨h.below.grown hg h.below.size (fun k e => by have := hr k e; omega), (hg.block _ (by omega) ?_).trans h.a, (hg.block _ (by omega) ?_).trans h.b, (hg.block _ hz hX).trans h.c, hl⟩
  · intro e; have := hr _ e.symm; omega
  · intro e; have := hr _ e.symm; omega
theorem Cp3.cellA {w wr : World} {A C : Array Value} {X : Nat} (h : Cp3 w wr A X C) (j : Nat) : wr.cell? ⟨w.heap.size, j, none⟩ = A[j]? := by simp [World.cell?, h.a]
theorem Cp3.cellC {w wr : World} {A C : Array Value} {X : Nat} (h : Cp3 w wr A X C) (j : Nat) : wr.cell? ⟨X, j, none⟩ = C[j]? := by simp [World.cell?, h.c]
theorem Cp3.free {w wr : World} {A C : Array Value} {X : Nat} (h : Cp3 w wr A X C) (j : Nat) : wr.frozen? ⟨X, j, none⟩ = false := by simp [World.frozen?, h.c]
theorem Cp3.set {w wr : World} {A : Array Value} {X : Nat} {x y z : Value} (h : Cp3 w wr A X #[x, y, z]) (v : Value) : Cp3 w (wr.setCell ⟨X, 2, none⟩ v) A X #[x, y, v] := by
  have hl := h.l
  refine ⟨h.below.setCell (p := ⟨X, 2, none⟩) (by show w.heap.size ≤ X; omega) v, ?_, ?_, ?_, hl⟩
  · rw [Below.heap_setCell wr ⟨X, 2, none⟩ v w.heap.size (by show w.heap.size ≠ X; omega)]; exact h.a
  · rw [Below.heap_setCell wr ⟨X, 2, none⟩ v (w.heap.size + 1) (by show w.heap.size + 1 ≠ X; omega)]; exact h.b
  · rw [setCell_eq_setRow _ _ _ _ _ _ _ h.c]; exact setRow_heap _ _ _ _ _ _ h.c
theorem drewCp {w wr : World} {A C : Array Value} {X : Nat} (h : Cp3 w wr A X C) : Cp3 w wr.drew A X C := ⟨h.below.drew, h.a, h.b, h.c, h.l⟩
theorem drewBN {lo : Nat} {w : World} {x y z : Value} {ks ps : List Tri} {es : List Ent} (h : BookNew lo w x y z ks ps es) : BookNew lo w.drew x y z ks ps es := h.keep (Below.refl _ _).drew
/-- One more entry behind the others. -/
theorem BookNew.pushE {W2 W4 : World} {lo : Nat} {x y z z' fv : Value} {ks ps : List Tri} {l : List EntV} {e : Ent} {ob : Obj} (hx : W2.ownsRow lo 116 3 x ks.length (triRows ks)) (hy : W2.ownsRow lo 118 3 y ps.length (triRows ps)) (h : PairsNew W2 lo z l) (hf : W2.ownsRow lo 62 3 fv e.fs.length (fldRows e.fs)) (hnew : ∀ k, fv.ownBlock = some k → ∀ p ∈ l, p.2.ownBlock ≠ some k) (hown : W4.ownsRow lo 73 2 z' (l.length + 1) (pairRows l ++ [.string e.name, fv])) (hg : (W2.alloc ob).grownBy W4 z.ownBlock) : BookNew lo W4 x y z' ks ps (l.map (·.1) ++ [e]) := by
  have hb1 : Below W2.heap.size W2 (W2.alloc ob) := (Below.refl _ _).alloc (Nat.le_refl _) ob
  refine ⟨ownsRow_farF (ownsRow_keep hx hb1) hg (own_apart h.row hx (by decide)), ownsRow_farF (ownsRow_keep hy hb1) hg (own_apart h.row hy (by decide)), l ++ [(e, fv)], by simp, h.pushF hf hnew hown hg⟩

set_option maxRecDepth 100000 in
set_option maxHeartbeats 6400000 in
theorem specL3Copy_any (vk vp ve : Value) (ks ps : List Tri) (es : List Ent) (w : World) (hB : BookAt w vk vp ve ks ps es) (lk : ks.length ≤ 1048576) (lp : ps.length ≤ 1048576) (le : es.length ≤ 1048576) (lf : ∀ e ∈ es, e.fs.length ≤ 1048576) :
    Calls Tryz.prog 25 #[.agg #[vk, vp, ve]] w fun e w' => ∃ x y z, e = .returned (.agg #[x, y, z]) ∧ BookNew (w.heap.size + 2) w' x y z ks ps es ∧ Below w.heap.size w w' := by
  obtain ⟨iE, hiE, hzE0, hzE1, hzE2⟩ := info_parts infoEnt
  obtain ⟨iF, hiF, hzF0, hzF1, hzF2⟩ := info_parts infoFld
  have HB : Hid (BookAt w vk vp ve ks ps es) := hB
  obtain ⟨⟨ak, ck, rfl, -, -, -⟩, ⟨ap, cp, rfl, -, -, -⟩, ⟨ae, ce, rfl, -, -, he3⟩⟩ := hB
  have HEA : Hid (∀ i e, es[i]? = some e → ∃ b off, ae = some ⟨b, off, none⟩ ∧ EntAt w b (off + i * 2) e) := he3
  have HLF : Hid (∀ e ∈ es, e.fs.length ≤ 1048576) := lf
  clear he3 lf
  have hb0 : Below w.heap.size w ((w.alloc (.cells #[.slice ak ks.length ck, .slice ap ps.length cp, .slice ae es.length ce] 39)).alloc (.cells #[.slice none 0 0, .slice none 0 0, .slice none 0 0] 39)) := ((Below.refl _ _).alloc (Nat.le_refl _) _).alloc (by simp) _
  have HB0 : Hid (Below w.heap.size w ((w.alloc (.cells #[.slice ak ks.length ck, .slice ap ps.length cp, .slice ae es.length ce] 39)).alloc (.cells #[.slice none 0 0, .slice none 0 0, .slice none 0 0] 39))) := hb0
  clear hb0
  go_enter Tryz.func25, Tryz.ntmps25
  go_wp2_with fail
  refine (specL1Copy_any _ _ ks ps _ (HB.out.k.keep HB0.out) (HB.out.p.keep HB0.out) lk lp).mono ?_
  rintro e w1 ⟨x, y, rfl, hx, hy, hb1⟩
  obtain ⟨xa, xc, rfl⟩ := own_slice hx
  obtain ⟨ya, yc, rfl⟩ := own_slice hy
  have s0 : ((w.alloc (.cells #[.slice ak ks.length ck, .slice ap ps.length cp, .slice ae es.length ce] 39)).alloc (.cells #[.slice none 0 0, .slice none 0 0, .slice none 0 0] 39)).heap.size = w.heap.size + 1 + 1 := by simp
  rw [s0] at hx hy
  have HC : Hid (Cp3 w (w1.alloc (.cells #[.slice xa ks.length xc, .slice ya ps.length yc, .slice none 0 0] 39)) #[.slice ak ks.length ck, .slice ap ps.length cp, .slice ae es.length ce] w1.heap.size #[.slice xa ks.length xc, .slice ya ps.length yc, .slice none 0 0]) := by
    have h1 := heap_newF w (.cells #[.slice ak ks.length ck, .slice ap ps.length cp, .slice ae es.length ce] 39)
    have h2 := heap_newF (w.alloc (.cells #[.slice ak ks.length ck, .slice ap ps.length cp, .slice ae es.length ce] 39)) (.cells #[.slice none 0 0, .slice none 0 0, .slice none 0 0] 39)
    rw [World.size_alloc] at h2
    have hz1 := hb1.size
    rw [s0] at hz1
    have hal : Below w1.heap.size w1 (w1.alloc (.cells #[.slice xa ks.length xc, .slice ya ps.length yc, .slice none 0 0] 39)) := (Below.refl _ _).alloc (Nat.le_refl _) _
    refine ⟨below_step (below_step HB0.out hb1) hal, ?_, ?_, heap_newF w1 _, by omega⟩
    · exact (hal.block _ (by omega)).trans ((hb1.block _ (by omega)).trans ((Below.heap_alloc _ _ _ (by rw [World.size_alloc]; omega)).trans h1))
    · exact (hal.block _ (by omega)).trans ((hb1.block _ (by omega)).trans h2)
  have HN : Hid (BookNew (w.heap.size + 2) (w1.alloc (.cells #[.slice xa ks.length xc, .slice ya ps.length yc, .slice none 0 0] 39)) (.slice xa ks.length xc) (.slice ya ps.length yc) (.slice none 0 0) ks ps []) := by
    have hal : Below w1.heap.size w1 (w1.alloc (.cells #[.slice xa ks.length xc, .slice ya ps.length yc, .slice none 0 0] 39)) := (Below.refl _ _).alloc (Nat.le_refl _) _
    exact ⟨own_mono (ownsRow_keep hx hal) (by omega), own_mono (ownsRow_keep hy hal) (by omega), [], rfl, PairsNew.nil _ _⟩
  clear hx hy hb1 HB0 s0
  go_wp2
  generalize w1.alloc (.cells #[.slice xa ks.length xc, .slice ya ps.length yc, .slice none 0 0] 39) = wa at *
  generalize w1.heap.size = X at *
  go_loopw [4] (fun i wr => ∃ (k : Nat) (z : Value), k ≤ es.length ∧ i = .int .i64 k ∧ (∃ a c, z = .slice a k c) ∧ Hid (Cp3 w wr #[.slice ak ks.length ck, .slice ap ps.length cp, .slice ae es.length ce] X #[.slice xa ks.length xc, .slice ya ps.length yc, z] ∧ BookNew (w.heap.size + 2) wr (.slice xa ks.length xc) (.slice ya ps.length yc) z ks ps (es.take k))) (fun i _ => es.length - (intOf i).toNat)
  case atStart => exact ⟨0, _, Nat.zero_le _, rfl, ⟨_, _, rfl⟩, HC.out, HN.out⟩
  case round =>
    clear HC HN
    obtain ⟨k, z, hk, rfl, ⟨za, zc, rfl⟩, HI⟩ := hrel
    have q2 : wr.cell? ⟨w.heap.size, 2, none⟩ = some (.slice ae es.length ce) := HI.out.1.cellA 2
    have q0 : wr.cell? ⟨w.heap.size, 0, none⟩ = some (.slice ak ks.length ck) := HI.out.1.cellA 0
    have q1 : wr.cell? ⟨w.heap.size, 1, none⟩ = some (.slice ap ps.length cp) := HI.out.1.cellA 1
    by_cases hlt : k < es.length
    · have ht : es[k]? = some es[k] := List.getElem?_eq_getElem hlt
      obtain ⟨b, off, rfl, fv, d0, d1, hfl⟩ := HEA.out k _ ht
      have hfn := HLF.out _ (List.mem_of_getElem? ht)
      have HT : Hid (es.take (k + 1) = es.take k ++ [es[k]]) := List.take_succ_eq_append_getElem hlt
      have HFS : Hid (FldsAt w fv es[k].fs) := hfl
      obtain ⟨fa, fc, rfl, -, -, -⟩ := hfl
      have HSF : Hid (∀ wx : World, Below w.heap.size w wx → (es[k].fs.length = 0 ∨ ∃ ad, fa = some ad ∧ ∀ j u, (fldRows es[k].fs)[j]? = some u → wx.cell? (ad.add j) = some u)) := fun wx hx => src_keep (flds_src HFS.out) hx
      generalize es[k] = t at *
      have HD : Hid (w.cell? ⟨b, off + k * 2, none⟩ = some (.string t.name) ∧ w.cell? ⟨b, off + k * 2 + 1, none⟩ = some (.slice fa t.fs.length fc)) := ⟨d0, d1⟩
      clear d0 d1 ht HFS
      have hk0 : (0 : Int) ≤ (k : Int) := by omega
      have hk1 : (k : Int) < (es.length : Int) := by omega
      go_wp2
      refine wp_region_noPanic ?_
      have HCS : Hid (∀ wx : World, Cp3 w wx #[.slice ak ks.length ck, .slice ap ps.length cp, .slice (some ⟨b, off, none⟩) es.length ce] X #[.slice xa ks.length xc, .slice ya ps.length yc, .slice za k zc] → (wx.cell? ⟨X, 2, none⟩ = some (.slice za k zc) ∧ wx.cell? ⟨w.heap.size, 2, none⟩ = some (.slice (some ⟨b, off, none⟩) es.length ce) ∧ wx.cell? ⟨b, off + k * 2, none⟩ = some (.string t.name) ∧ wx.cell? ⟨b, off + k * 2 + 1, none⟩ = some (.slice fa t.fs.length fc))) := fun wx hx => ⟨hx.cellC 2, hx.cellA 2, cell_keep hx.below (Nat.le_refl _) HD.out.1, cell_keep hx.below (Nat.le_refl _) HD.out.2⟩
      refine wp_region_till (S := fun w' => w'.cell? ⟨X, 2, none⟩ = some (.slice za k zc) ∧ w'.cell? ⟨w.heap.size, 2, none⟩ = some (.slice (some ⟨b, off, none⟩) es.length ce) ∧ w'.cell? ⟨b, off + k * 2, none⟩ = some (.string t.name) ∧ w'.cell? ⟨b, off + k * 2 + 1, none⟩ = some (.slice fa t.fs.length fc)) 20 (by kernel_rfl) ?_ (fun hHeld => ?_)
      · exact HCS.out _ (drewCp HI.out.1)
      have HC : Hid (Cp3 w wr.drew #[.slice ak ks.length ck, .slice ap ps.length cp, .slice (some ⟨b, off, none⟩) es.length ce] X #[.slice xa ks.length xc, .slice ya ps.length yc, .slice za k zc]) := drewCp HI.out.1
      have HN : Hid (BookNew (w.heap.size + 2) wr.drew (.slice xa ks.length xc) (.slice ya ps.length yc) (.slice za k zc) ks ps (es.take k)) := drewBN HI.out.2
      generalize wr.drew = W0 at *
      clear q0 q1 q2 HI
      refine wpTill_take (i := 0) (v := ?_) rfl (by kernel_rfl) (by kernel_rfl) (by kernel_rfl) (by kernel_rfl) (fun _ _ _ h => h) (Or.inl ⟨by rfl, ?_⟩) (by assumption) ?_
      rotate_left
      · intro w hSw; (try dsimp only at hSw); go_simp; try with_reducible rfl
      simp only [Act.put, List.setIfInBounds_toArray, List.set_cons_zero, List.set_cons_succ, List.getElem_toArray, List.getElem_cons_succ, List.getElem_cons_zero]
      refine wpTill_take (i := 1) (v := ?_) rfl (by kernel_rfl) (by kernel_rfl) (by kernel_rfl) (by kernel_rfl) (fun _ _ _ h => h) (Or.inl ⟨by rfl, ?_⟩) (by assumption) ?_
      rotate_left
      · intro w hSw; (try dsimp only at hSw); go_simp; try with_reducible rfl
      simp only [Act.put, List.setIfInBounds_toArray, List.set_cons_zero, List.set_cons_succ, List.getElem_toArray, List.getElem_cons_succ, List.getElem_cons_zero]
      refine wpTill_take (i := 2) (v := ?_) rfl (by kernel_rfl) (by kernel_rfl) (by kernel_rfl) (by kernel_rfl) (fun _ _ _ h => h) (Or.inl ⟨by rfl, ?_⟩) (by assumption) ?_
      rotate_left
      · intro w hSw; (try dsimp only at hSw); go_simp; try with_reducible rfl
      simp only [Act.put, List.setIfInBounds_toArray, List.set_cons_zero, List.set_cons_succ, List.getElem_toArray, List.getElem_cons_succ, List.getElem_cons_zero]
      refine wpTill_take (i := 3) (v := ?_) rfl (by kernel_rfl) (by kernel_rfl) (by kernel_rfl) (by kernel_rfl) (fun _ _ _ h => h) (Or.inl ⟨by rfl, ?_⟩) (by assumption) ?_
      rotate_left
      · intro w hSw; (try dsimp only at hSw); go_simp; try with_reducible rfl
      simp only [Act.put, List.setIfInBounds_toArray, List.set_cons_zero, List.set_cons_succ, List.getElem_toArray, List.getElem_cons_succ, List.getElem_cons_zero]
      refine wpTill_take (i := 4) (v := ?_) rfl (by kernel_rfl) (by kernel_rfl) (by kernel_rfl) (by kernel_rfl) (fun _ _ _ h => h) (Or.inl ⟨by rfl, ?_⟩) (by assumption) ?_
      rotate_left
      · intro w hSw; (try dsimp only at hSw); go_simp; try with_reducible rfl
      simp only [Act.put, List.setIfInBounds_toArray, List.set_cons_zero, List.set_cons_succ, List.getElem_toArray, List.getElem_cons_succ, List.getElem_cons_zero]
      refine wpTill_take (i := 5) (v := ?_) rfl (by kernel_rfl) (by kernel_rfl) (by kernel_rfl) (by kernel_rfl) (fun _ _ _ h => h) (Or.inl ⟨by rfl, ?_⟩) (by assumption) ?_
      rotate_left
      · intro w hSw; (try dsimp only at hSw); go_simp; try with_reducible rfl
      simp only [Act.put, List.setIfInBounds_toArray, List.set_cons_zero, List.set_cons_succ, List.getElem_toArray, List.getElem_cons_succ, List.getElem_cons_zero]
      refine wpTill_take (i := 6) (v := ?_) rfl (by kernel_rfl) (by kernel_rfl) (by kernel_rfl) (by kernel_rfl) (fun _ _ _ h => h) (Or.inl ⟨by rfl, ?_⟩) (by assumption) ?_
      rotate_left
      · intro w hSw; (try dsimp only at hSw); go_simp; try with_reducible rfl
      simp only [Act.put, List.setIfInBounds_toArray, List.set_cons_zero, List.set_cons_succ, List.getElem_toArray, List.getElem_cons_succ, List.getElem_cons_zero]
      refine wpTill_take (i := 7) (v := ?_) rfl (by kernel_rfl) (by kernel_rfl) (by kernel_rfl) (by kernel_rfl) (fun _ _ _ h => h) (Or.inl ⟨by rfl, ?_⟩) (by assumption) ?_
      rotate_left
      · intro w hSw; (try dsimp only at hSw); go_simp; try with_reducible rfl
      simp only [Act.put, List.setIfInBounds_toArray, List.set_cons_zero, List.set_cons_succ, List.getElem_toArray, List.getElem_cons_succ, List.getElem_cons_zero]
      refine wpTill_take (i := 9) (v := ?_) rfl (by kernel_rfl) (by kernel_rfl) (by kernel_rfl) (by kernel_rfl) (fun _ _ _ h => h) (Or.inl ⟨by rfl, ?_⟩) (by assumption) ?_
      rotate_left
      · intro w hSw; (try dsimp only at hSw); go_simp; try with_reducible rfl
      simp only [Act.put, List.setIfInBounds_toArray, List.set_cons_zero, List.set_cons_succ, List.getElem_toArray, List.getElem_cons_succ, List.getElem_cons_zero]
      refine wpTill_take (i := 10) (v := ?_) rfl (by kernel_rfl) (by kernel_rfl) (by kernel_rfl) (by kernel_rfl) (fun _ _ _ h => h) (Or.inl ⟨by rfl, ?_⟩) (by assumption) ?_
      rotate_left
      · intro w hSw; (try dsimp only at hSw); go_simp; try with_reducible rfl
      simp only [Act.put, List.setIfInBounds_toArray, List.set_cons_zero, List.set_cons_succ, List.getElem_toArray, List.getElem_cons_succ, List.getElem_cons_zero]
      refine wpTill_take (i := 11) (v := ?_) rfl (by kernel_rfl) (by kernel_rfl) (by kernel_rfl) (by kernel_rfl) (fun _ _ _ h => h) (Or.inl ⟨by rfl, ?_⟩) (by assumption) ?_
      rotate_left
      · intro w hSw; (try dsimp only at hSw); go_simp; try with_reducible rfl
      simp only [Act.put, List.setIfInBounds_toArray, List.set_cons_zero, List.set_cons_succ, List.getElem_toArray, List.getElem_cons_succ, List.getElem_cons_zero]
      refine wpTill_take (i := 12) (v := ?_) rfl (by kernel_rfl) (by kernel_rfl) (by kernel_rfl) (by kernel_rfl) (fun _ _ _ h => h) (Or.inl ⟨by rfl, ?_⟩) (by assumption) ?_
      rotate_left
      · intro w hSw; (try dsimp only at hSw); go_simp; try with_reducible rfl
      simp only [Act.put, List.setIfInBounds_toArray, List.set_cons_zero, List.set_cons_succ, List.getElem_toArray, List.getElem_cons_succ, List.getElem_cons_zero]
      refine wpTill_take (i := 13) (v := ?_) rfl (by kernel_rfl) (by kernel_rfl) (by kernel_rfl) (by kernel_rfl) (fun _ _ _ h => h) (Or.inl ⟨by rfl, ?_⟩) (by assumption) ?_
      rotate_left
      · intro w hSw; (try dsimp only at hSw); go_simp; try with_reducible rfl
      simp only [Act.put, List.setIfInBounds_toArray, List.set_cons_zero, List.set_cons_succ, List.getElem_toArray, List.getElem_cons_succ, List.getElem_cons_zero]
      refine wpTill_take (i := 14) (v := ?_) rfl (by kernel_rfl) (by kernel_rfl) (by kernel_rfl) (by kernel_rfl) (fun _ _ _ h => h) (Or.inl ⟨by rfl, ?_⟩) (by assumption) ?_
      rotate_left
      · intro w hSw; (try dsimp only at hSw); go_simp; try with_reducible rfl
      simp only [Act.put, List.setIfInBounds_toArray, List.set_cons_zero, List.set_cons_succ, List.getElem_toArray, List.getElem_cons_succ, List.getElem_cons_zero]
      clear hHeld
      have HBW : Hid (Below W0.heap.size W0 W0) := Below.refl _ _
      have hzz : w.heap.size + 2 ≤ W0.heap.size := by have := HC.out.z; have := HC.out.l; omega
      refine wpTill_ready (rs := [8]) (by kernel_rfl) (by simp) ?_
      refine AllReadyT.cons rfl (fun K hK => ?_) AllReadyT.nil
      go_simp
      have HB2 : Hid (Below W0.heap.size W0 (W0.alloc (.cells #[] 62))) := (Below.refl _ _).alloc (Nat.le_refl _) _
      have RF : Hid ((W0.alloc (.cells #[] 62)).ownsRow (w.heap.size + 2) 62 3 (.slice (some ⟨W0.heap.size, 0, none⟩) 0 0) 0 []) := own_new0 (heap_newF W0 _) (by omega) 3
      refine hK.out _ _ (.inr (HCS.out _ (HC.out.call HB2.out))) ?_
      clear hK K HBW
      have HBW := HB2
      clear HB2
      generalize W0.alloc (.cells #[] 62) = W1 at *
      refine wpTill_ready (rs := [15]) (by kernel_rfl) (by simp) ?_
      refine AllReadyT.cons rfl (fun K hK => ?_) AllReadyT.nil
      have hsz1 := HBW.out.size
      refine step_append_any _ rfl _ _ 71 rfl (w.heap.size + 2) 62 iF _ 3 32 Tryz.underlying71 hiF hzF0 hzF1 hzF2 rfl (by decide) _ 0 [] rfl RF.out fa t.fs.length fc (fldRows t.fs) rfl (HSF.out _ (below_step HC.out.below HBW.out)) (fldRows_len _) fld_one (by unfold maxLen; omega) (by omega) (by omega) ?_
      intro vf W2 hown hgrow hat
      rw [Nat.zero_add, List.nil_append] at hown
      have HB2 : Hid (Below W0.heap.size W0 W2) := HBW.out.grown hgrow hsz1 (fun j e => by cases e; exact Nat.le_refl _)
      have HFB : Hid (∀ j, vf.ownBlock = some j → W0.heap.size ≤ j) := fun j hj => by
        rcases hat with h | h
        · rw [hj] at h; have h2 : j = W0.heap.size := Option.some.inj h; omega
        · rw [hj] at h; injection h with h; omega
      refine hK.out _ _ (.inr (HCS.out _ (HC.out.call HB2.out))) ?_
      clear hK K hgrow hat HBW RF hsz1
      have HBW := HB2
      have RF := toHidC hown
      obtain ⟨va, vc, rfl⟩ := own_slice hown
      clear hown HB2
      have hHeld := HCS.out _ (HC.out.call HBW.out)
      refine wpTill_take (i := 16) (v := ?_) rfl (by kernel_rfl) (by kernel_rfl) (by kernel_rfl) (by kernel_rfl) (fun _ _ _ h => h) (Or.inl ⟨by rfl, ?_⟩) (by assumption) ?_
      rotate_left
      · intro w hSw; (try dsimp only at hSw); go_simp; try with_reducible rfl
      simp only [Act.put, List.setIfInBounds_toArray, List.set_cons_zero, List.set_cons_succ, List.getElem_toArray, List.getElem_cons_succ, List.getElem_cons_zero]
      clear hHeld
      refine wpTill_ready (rs := [17]) (by kernel_rfl) (by simp) ?_
      refine AllReadyT.cons rfl (fun K hK => ?_) AllReadyT.nil
      go_simp
      have HB2 : Hid (Below W0.heap.size W0 (W2.alloc (.cells #[.string t.name, .slice va t.fs.length vc] 73))) := HBW.out.alloc HBW.out.size _
      refine hK.out _ _ (.inr (HCS.out _ (HC.out.call HB2.out))) ?_
      clear hK K
      have HBU := HBW
      clear HBW
      have HBW := HB2
      clear HB2
      refine wpTill_ready (rs := [18]) (by kernel_rfl) (by simp) ?_
      refine AllReadyT.cons rfl (fun K hK => ?_) AllReadyT.nil
      obtain ⟨hx, hy, l, hl, hE⟩ := HN.out
      have hll : l.length = k := by have := congrArg List.length hl; rw [List.length_map, List.length_take] at this; omega
      have hE2 := hE.keep HBU.out
      have hsz2 := HBU.out.size
      refine step_append_any _ rfl _ _ 37 rfl (w.heap.size + 2) 73 iE _ 2 40 Tryz.underlying37 hiE hzE0 hzE1 hzE2 rfl (by decide) _ l.length (pairRows l) rfl (ownsRow_keep hE2.row ((Below.refl _ _).alloc (Nat.le_refl _) _)) _ 1 1 [.string t.name, .slice va t.fs.length vc] rfl (.inr ⟨_, rfl, cell_two_new _ _ _ _⟩) rfl (fun u hu => by simp at hu; rcases hu with rfl | rfl <;> rfl) (by unfold maxLen; omega) (by omega) (by simp; omega) ?_
      intro vz W4 hown hgrow hat
      have HN2 := toHidC (BookNew.pushE (e := t) (ownsRow_keep hx HBU.out) (ownsRow_keep hy HBU.out) hE2 RF.out (fun j hj p hp hpj => by have h1 := HFB.out j hj; have := own_lt (hE.flds p hp) j hpj; omega) hown hgrow)
      have HC2 : Hid (Cp3 w W4 #[.slice ak ks.length ck, .slice ap ps.length cp, .slice (some ⟨b, off, none⟩) es.length ce] X #[.slice xa ks.length xc, .slice ya ps.length yc, .slice za k zc]) := (HC.out.call HBW.out).grown hgrow (own_ge hE.row) (own_other hE.row HC.out.c (by decide))
      rw [hl, ← HT.out] at HN2
      refine hK.out _ _ (.inr (HCS.out _ HC2.out)) ?_
      obtain ⟨vb, vd, rfl⟩ := own_slice hown
      rw [hll] at *
      clear hK K hgrow hat HC HN hown hx hy hE hE2 HBU HBW hsz2
      have HC := HC2
      have HN := HN2
      clear HC2 HN2
      have hHeld := HCS.out _ HC.out
      refine wpTill_take (i := 19) (v := ?_) rfl (by kernel_rfl) (by kernel_rfl) (by kernel_rfl) (by kernel_rfl) (fun _ _ _ h => h) (Or.inl ⟨by rfl, ?_⟩) (by assumption) ?_
      rotate_left
      · intro w hSw; (try dsimp only at hSw); go_simp; try with_reducible rfl
      simp only [Act.put, List.setIfInBounds_toArray, List.set_cons_zero, List.set_cons_succ, List.getElem_toArray, List.getElem_cons_succ, List.getElem_cons_zero]
      clear hHeld
      refine wpTill_ready (rs := [20]) (by kernel_rfl) (by simp) ?_
      refine AllReadyT.cons rfl (fun K hK => ?_) AllReadyT.nil
      have lz := HC.out.cellC 2
      have lf := HC.out.free 2
      simp only [List.getElem?_toArray, List.getElem?_cons_succ, List.getElem?_cons_zero] at lz
      have HC2 := toHidC (HC.out.set (.slice vb (k + 1) vd))
      have HN2 := toHidC (HN.out.box HC.out.c (grown_setF W4 X 2 (.slice vb (k + 1) vd)))
      go_simp
      refine hK.out _ _ (.inl rfl) ?_
      clear hK K lz lf HC HN
      have HC := HC2
      have HN := HN2
      clear HC2 HN2
      refine wpTill_done (by kernel_rfl) ?_ _
      refine NoPanic.normal ?_
      go_wp2
      exact ⟨⟨k + 1, _, by omega, by go_num, ⟨_, _, rfl⟩, HC.out, HN.out⟩, by simp [intOf]; omega⟩
    · have HE : Hid (BookNew (w.heap.size + 2) wr (.slice xa ks.length xc) (.slice ya ps.length yc) (.slice za k zc) ks ps es) := by
        have h := HI.out.2
        rw [List.take_of_length_le (by omega)] at h
        exact h
      have hrow := HI.out.1.b
      obtain ⟨e0, e1, e2⟩ : wr.cell? ⟨X, 0, none⟩ = some (.slice xa ks.length xc) ∧ wr.cell? ⟨X, 1, none⟩ = some (.slice ya ps.length yc) ∧ wr.cell? ⟨X, 2, none⟩ = some (.slice za k zc) := ⟨HI.out.1.cellC 0, HI.out.1.cellC 1, HI.out.1.cellC 2⟩
      have HZ : Hid (Below w.heap.size w wr) := HI.out.1.below
      go_wp2_with (refine wpList_store_row rfl 39 _ _ rfl (w.heap.size + 1) #[.slice xa ks.length xc, .slice ya ps.length yc, .slice za k zc] rfl rfl 39 _ hrow (by kernel_rfl) rfl (by simp [Value.oneCell']) ?_)
      exact bodyPost_ret (v := .agg #[.slice xa ks.length xc, .slice ya ps.length yc, .slice za k zc]) (by simp [results, Tryz.results25, go_sem, cell_setRow_same _ _ _ _ _ _ _ hrow]) rfl ⟨_, _, _, rfl, HE.out.far (grown_rowF wr (w.heap.size + 1) _) (by omega), below_setRow HZ.out (by omega) _⟩
end Go.Proofs.YtfjblenkcfdbiaaGreat
