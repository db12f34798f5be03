
/-
 The specification: a base is copied.
-/
import Derived.Test.YtibpkhmiahamcaaGreatBat
import Derived.Test.YtibpkhmiahamcaaGreatTkH
namespace Go.Proofs.YtibpkhmiahamcaaGreat
open Go.RowKit
set_option linter.unusedSimpArgs false
set_option linter.unusedVariables false

/-- The argument's box and the result's. -/
structure C1 (w wr : World) (A : Array Value) : Prop where
 below : Below w.heap.size w wr
 a : wr.heap[w.heap.size]? = some (.cells A 26 (0, 0))
 b : wr.heap[w.heap.size + 1]? = some (.cells #[.slice none 0 0, .slice none 0 0] 26 (0, 0))
theorem C1.z {w wr : World} {A : Array Value} (h : C1 w wr A) : w.heap.size + 2 ≤ wr.heap.size := (Array.getElem?_eq_some_iff.1 h.b).1
theorem C1.call {w wr wy : World} {A : Array Value} (h : C1 w wr A) (hb : Below wr.heap.size wr wy) : C1 w wy A := by
 have hz := h.z
 exact ⟨below_step h.below hb, (hb.block _ (by omega)).trans h.a, (hb.block _ (by omega)).trans h.b⟩
theorem C1.grown {w wr wy : World} {A : Array Value} {r : Option Nat} (h : C1 w wr A) (hg : wr.grownBy wy r) (hr : ∀ k, r = some k → w.heap.size + 2 ≤ k) : C1 w wy A := by
 have hz := h.z
 refine ⟨h.below.grown hg h.below.size (fun k e => by have := hr k e; omega), (hg.block _ (by omega) ?_).trans h.a, (hg.block _ (by omega) ?_).trans h.b⟩
 ·intro e; have := hr _ e.symm; omega
 ·intro e; have := hr _ e.symm; omega
theorem C1.start (w : World) (A : Array Value) : C1 w (((w.alloc (.cells A 26)).alloc (.cells #[.slice none 0 0, .slice none 0 0] 26)).drew) A := by
 have s1 : (w.alloc (.cells A 26)).heap.size = w.heap.size + 1 := by simp
 have h1 := heap_newF w (.cells A 26)
 have h2 := heap_newF (w.alloc (.cells A 26)) (.cells #[.slice none 0 0, .slice none 0 0] 26)
 rw [s1] at h2
 refine ⟨(((Below.refl _ _).alloc (Nat.le_refl _) _).alloc (by simp) _).drew, ?_, h2⟩
 exact (Below.heap_alloc _ _ _ (by omega)).trans h1
theorem C1.row {w wr : World} {A : Array Value} (h : C1 w wr A) (cs : Array Value) (j : Nat) : (wr.setRow (w.heap.size + 1) cs).cell? ⟨w.heap.size, j, none⟩ = A[j]? := by
 have e : (wr.setRow (w.heap.size + 1) cs).heap[w.heap.size]? = wr.heap[w.heap.size]? := setRow_other _ _ _ _ (by omega)
 rw [World.cell?_of_block (w := wr) e]
 simp [World.cell?, h.a]
theorem C1.cell {w wr : World} {A : Array Value} (h : C1 w wr A) (j : Nat) : wr.cell? ⟨w.heap.size, j, none⟩ = A[j]? := by simp [World.cell?, h.a]

set_option maxRecDepth 100000 in
set_option maxHeartbeats 6400000 in
theorem specL1Copy_any (vk vp : Value) (ks ps : List Tri) (w : World) (hk : TrisAt w vk ks) (hp : TrisAt w vp ps) (lk : ks.length ≤ 1048576) (lp : ps.length ≤ 1048576) :
  Calls Tryz.prog 61 #[.agg #[vk, vp]] w fun e w' => ∃ x y, e = .returned (.agg #[x, y]) ∧ w'.ownsRow (w.heap.size + 2) 107 3 x ks.length (triRows ks) ∧ w'.ownsRow (w.heap.size + 2) 109 3 y ps.length (triRows ps) ∧ Below w.heap.size w w' := by
 obtain ⟨i0, hi, hz0, hz1, hz2⟩ := info_parts infoKindC
 obtain ⟨i1, hj, hy0, hy1, hy2⟩ := info_parts infoPointC
 have HK := hk; have HP := hp
 obtain ⟨ak, ck, rfl, -, -, -⟩ := hk
 obtain ⟨ap, cp, rfl, -, -, -⟩ := hp
 have SK : Hid (∀ wx : World, Below w.heap.size w wx → (ks.length = 0 ∨ ∃ ad, ak = some ad ∧ ∀ j u, (triRows ks)[j]? = some u → wx.cell? (ad.add j) = some u)) := fun wx hx => src_keep (tris_src HK) hx
 have SP : Hid (∀ wx : World, Below w.heap.size w wx → (ps.length = 0 ∨ ∃ ad, ap = some ad ∧ ∀ j u, (triRows ps)[j]? = some u → wx.cell? (ad.add j) = some u)) := fun wx hx => src_keep (tris_src HP) hx
 have HC : Hid (C1 w _ #[.slice ak ks.length ck, .slice ap ps.length cp]) := C1.start w #[.slice ak ks.length ck, .slice ap ps.length cp]
 clear HK HP
 go_enter Tryz.func61, Tryz.ntmps61
 go_wp2
 refine wp_region_noPanic ?_
 refine wp_region_held_drew (S := fun w' => w'.cell? ⟨w.heap.size, 0, none⟩ = some (.slice ak ks.length ck) ∧ w'.cell? ⟨w.heap.size, 1, none⟩ = some (.slice ap ps.length cp)) (by kernel_rfl) ?_ (fun hHeld => ?_)
 ·exact ⟨HC.out.cell 0, HC.out.cell 1⟩
 generalize ((w.alloc (.cells #[.slice ak ks.length ck, .slice ap ps.length cp] 26)).alloc (.cells #[.slice none 0 0, .slice none 0 0] 26)).drew = W0 at *
 refine tkH 1 ?_ rfl ?_ ?_; rotate_left
 ·intro w hSw; (try dsimp only at hSw); go_simp; try with_reducible rfl
 simp only [Act.put, tkS]
 refine tkH 2 ?_ rfl ?_ ?_; rotate_left
 ·intro w hSw; (try dsimp only at hSw); go_simp; try with_reducible rfl
 simp only [Act.put, tkS]
 refine tkH 5 ?_ rfl ?_ ?_; rotate_left
 ·intro w hSw; (try dsimp only at hSw); go_simp; try with_reducible rfl
 simp only [Act.put, tkS]
 refine tkH 6 ?_ rfl ?_ ?_; rotate_left
 ·intro w hSw; (try dsimp only at hSw); go_simp; try with_reducible rfl
 simp only [Act.put, tkS]
 clear hHeld
 refine wpAnyH_ready (rs := [0, 4]) (by kernel_rfl) (by simp) ?_
 refine AllReadyH.cons rfl (fun K hK => ?_) (AllReadyH.cons rfl (fun K hK => ?_) AllReadyH.nil)
 ·go_simp
  have hal : Below W0.heap.size W0 (W0.alloc (.cells #[] 107)) := (Below.refl _ _).alloc (Nat.le_refl _) _
  have HC2 : Hid (C1 w (W0.alloc (.cells #[] 107)) #[.slice ak ks.length ck, .slice ap ps.length cp]) := HC.out.call hal
  have RA : Hid ((W0.alloc (.cells #[] 107)).ownsRow (w.heap.size + 2) 107 3 (.slice (some ⟨W0.heap.size, 0, none⟩) 0 0) 0 []) := own_new0 (heap_newF W0 _) HC.out.z 3
  refine hK.out _ _ ⟨HC2.out.cell 0, HC2.out.cell 1⟩ (fun _ => ?_)
  clear hK K hal HC
  have HC := HC2
  clear HC2
  generalize W0.alloc (.cells #[] 107) = W1 at *
  refine wpAnyH_ready (rs := [3, 4]) (by kernel_rfl) (by simp) ?_
  refine AllReadyH.cons rfl (fun K hK => ?_) (AllReadyH.cons rfl (fun K hK => ?_) AllReadyH.nil)
  ·refine step_append_any _ rfl _ _ 23 rfl (w.heap.size + 2) 107 i0 _ 3 32 Tryz.underlying23 hi hz0 hz1 hz2 rfl (by decide) _ 0 [] rfl RA.out ak ks.length ck (triRows ks) rfl (SK.out _ HC.out.below) (triRows_len _) tri_one (by unfold maxLen; omega) (by omega) HC.out.z ?_
   intro va W2 hown hgrow hat
   rw [Nat.zero_add, List.nil_append] at hown
   have HC2 : Hid (C1 w W2 #[.slice ak ks.length ck, .slice ap ps.length cp]) := HC.out.grown hgrow (own_ge RA.out)
   refine hK.out _ _ ⟨HC2.out.cell 0, HC2.out.cell 1⟩ (fun _ => ?_)
   clear hK K hgrow hat HC RA
   have RA := toHidC hown
   obtain ⟨a1, c1, rfl⟩ := own_slice hown
   clear hown
   have HC := HC2
   clear HC2
   refine rdH 4 rfl (fun K hK => ?_)
   go_simp
   have hal : Below W2.heap.size W2 (W2.alloc (.cells #[] 109)) := (Below.refl _ _).alloc (Nat.le_refl _) _
   have HC2 : Hid (C1 w (W2.alloc (.cells #[] 109)) #[.slice ak ks.length ck, .slice ap ps.length cp]) := HC.out.call hal
   have RB : Hid ((W2.alloc (.cells #[] 109)).ownsRow (w.heap.size + 2) 109 3 (.slice (some ⟨W2.heap.size, 0, none⟩) 0 0) 0 []) := own_new0 (heap_newF W2 _) HC.out.z 3
   have RA2 := toHidC (ownsRow_keep RA.out hal)
   refine hK.out _ _ ⟨HC2.out.cell 0, HC2.out.cell 1⟩ (fun _ => ?_)
   clear hK K hal HC
   clear RA
   have RA := RA2
   clear RA2
   have HC := HC2
   clear HC2
   generalize W2.alloc (.cells #[] 109) = W3 at *
   refine rdH 7 rfl (fun K hK => ?_)
   refine step_append_any _ rfl _ _ 24 rfl (w.heap.size + 2) 109 i1 _ 3 32 Tryz.underlying24 hj hy0 hy1 hy2 rfl (by decide) _ 0 [] rfl RB.out ap ps.length cp (triRows ps) rfl (SP.out _ HC.out.below) (triRows_len _) tri_one (by unfold maxLen; omega) (by omega) HC.out.z ?_
   intro va W4 hown hgrow hat
   rw [Nat.zero_add, List.nil_append] at hown
   have HC2 : Hid (C1 w W4 #[.slice ak ks.length ck, .slice ap ps.length cp]) := HC.out.grown hgrow (own_ge RB.out)
   have RA2 := toHidC (ownsRow_farF RA.out hgrow (own_apart RB.out RA.out (by decide)))
   refine hK.out _ _ ⟨HC2.out.cell 0, HC2.out.cell 1⟩ (fun _ => ?_)
   clear hK K hgrow hat HC RB
   have RB := toHidC hown
   obtain ⟨a2, c2, rfl⟩ := own_slice hown
   clear hown
   clear RA
   have RA := RA2
   clear RA2
   have HC := HC2
   clear HC2
   have hHeld : _ ∧ _ := ⟨HC.out.cell 0, HC.out.cell 1⟩
   refine tkH 8 ?_ rfl ?_ ?_; rotate_left
   ·intro w hSw; (try dsimp only at hSw); go_simp; try with_reducible rfl
   simp only [Act.put, tkS]
   clear hHeld
   refine rdH 9 rfl (fun K hK => ?_)
   have hrow := HC.out.b
   refine step_store_rowC rfl 26 _ _ rfl (w.heap.size + 1) #[.slice a1 ks.length c1, .slice a2 ps.length c2] rfl rfl 26 _ hrow (by kernel_rfl) rfl (by simp [Value.oneCell']) ?_
   refine hK.out _ _ ⟨HC.out.row _ 0, HC.out.row _ 1⟩ (fun _ => ?_)
   clear hK K
   refine wpAnyH_done (by kernel_rfl) ?_ _
   refine NoPanic.normal ?_
   go_wp2
   exact bodyPost_ret (v := .agg #[.slice a1 ks.length c1, .slice a2 ps.length c2]) (by simp [results, Tryz.results61, go_sem, cell_setRow_same _ _ _ _ _ _ _ hrow]) rfl ⟨_, _, rfl, ownsRow_farF RA.out (grown_rowF _ _ _) (fun k hk e => by have := own_ge RA.out k hk; injection e; omega), ownsRow_farF RB.out (grown_rowF _ _ _) (fun k hk e => by have := own_ge RB.out k hk; injection e; omega), below_setRow HC.out.below (by omega) _⟩
  ·go_simp
   have hal : Below W1.heap.size W1 (W1.alloc (.cells #[] 109)) := (Below.refl _ _).alloc (Nat.le_refl _) _
   have HC2 : Hid (C1 w (W1.alloc (.cells #[] 109)) #[.slice ak ks.length ck, .slice ap ps.length cp]) := HC.out.call hal
   have RB : Hid ((W1.alloc (.cells #[] 109)).ownsRow (w.heap.size + 2) 109 3 (.slice (some ⟨W1.heap.size, 0, none⟩) 0 0) 0 []) := own_new0 (heap_newF W1 _) HC.out.z 3
   have RA2 := toHidC (ownsRow_keep RA.out hal)
   refine hK.out _ _ ⟨HC2.out.cell 0, HC2.out.cell 1⟩ (fun _ => ?_)
   clear hK K hal HC
   clear RA
   have RA := RA2
   clear RA2
   have HC := HC2
   clear HC2
   generalize W1.alloc (.cells #[] 109) = W2 at *
   refine rdH 3 rfl (fun K hK => ?_)
   refine step_append_any _ rfl _ _ 23 rfl (w.heap.size + 2) 107 i0 _ 3 32 Tryz.underlying23 hi hz0 hz1 hz2 rfl (by decide) _ 0 [] rfl RA.out ak ks.length ck (triRows ks) rfl (SK.out _ HC.out.below) (triRows_len _) tri_one (by unfold maxLen; omega) (by omega) HC.out.z ?_
   intro va W3 hown hgrow hat
   rw [Nat.zero_add, List.nil_append] at hown
   have HC2 : Hid (C1 w W3 #[.slice ak ks.length ck, .slice ap ps.length cp]) := HC.out.grown hgrow (own_ge RA.out)
   have RB2 := toHidC (ownsRow_farF RB.out hgrow (own_apart RA.out RB.out (by decide)))
   refine hK.out _ _ ⟨HC2.out.cell 0, HC2.out.cell 1⟩ (fun _ => ?_)
   clear hK K hgrow hat HC RA
   have RA := toHidC hown
   obtain ⟨a1, c1, rfl⟩ := own_slice hown
   clear hown
   clear RB
   have RB := RB2
   clear RB2
   have HC := HC2
   clear HC2
   refine rdH 7 rfl (fun K hK => ?_)
   refine step_append_any _ rfl _ _ 24 rfl (w.heap.size + 2) 109 i1 _ 3 32 Tryz.underlying24 hj hy0 hy1 hy2 rfl (by decide) _ 0 [] rfl RB.out ap ps.length cp (triRows ps) rfl (SP.out _ HC.out.below) (triRows_len _) tri_one (by unfold maxLen; omega) (by omega) HC.out.z ?_
   intro va W4 hown hgrow hat
   rw [Nat.zero_add, List.nil_append] at hown
   have HC2 : Hid (C1 w W4 #[.slice ak ks.length ck, .slice ap ps.length cp]) := HC.out.grown hgrow (own_ge RB.out)
   have RA2 := toHidC (ownsRow_farF RA.out hgrow (own_apart RB.out RA.out (by decide)))
   refine hK.out _ _ ⟨HC2.out.cell 0, HC2.out.cell 1⟩ (fun _ => ?_)
   clear hK K hgrow hat HC RB
   have RB := toHidC hown
   obtain ⟨a2, c2, rfl⟩ := own_slice hown
   clear hown
   clear RA
   have RA := RA2
   clear RA2
   have HC := HC2
   clear HC2
   have hHeld : _ ∧ _ := ⟨HC.out.cell 0, HC.out.cell 1⟩
   refine tkH 8 ?_ rfl ?_ ?_; rotate_left
   ·intro w hSw; (try dsimp only at hSw); go_simp; try with_reducible rfl
   simp only [Act.put, tkS]
   clear hHeld
   refine rdH 9 rfl (fun K hK => ?_)
   have hrow := HC.out.b
   refine step_store_rowC rfl 26 _ _ rfl (w.heap.size + 1) #[.slice a1 ks.length c1, .slice a2 ps.length c2] rfl rfl 26 _ hrow (by kernel_rfl) rfl (by simp [Value.oneCell']) ?_
   refine hK.out _ _ ⟨HC.out.row _ 0, HC.out.row _ 1⟩ (fun _ => ?_)
   clear hK K
   refine wpAnyH_done (by kernel_rfl) ?_ _
   refine NoPanic.normal ?_
   go_wp2
   exact bodyPost_ret (v := .agg #[.slice a1 ks.length c1, .slice a2 ps.length c2]) (by simp [results, Tryz.results61, go_sem, cell_setRow_same _ _ _ _ _ _ _ hrow]) rfl ⟨_, _, rfl, ownsRow_farF RA.out (grown_rowF _ _ _) (fun k hk e => by have := own_ge RA.out k hk; injection e; omega), ownsRow_farF RB.out (grown_rowF _ _ _) (fun k hk e => by have := own_ge RB.out k hk; injection e; omega), below_setRow HC.out.below (by omega) _⟩
 ·go_simp
  have hal : Below W0.heap.size W0 (W0.alloc (.cells #[] 109)) := (Below.refl _ _).alloc (Nat.le_refl _) _
  have HC2 : Hid (C1 w (W0.alloc (.cells #[] 109)) #[.slice ak ks.length ck, .slice ap ps.length cp]) := HC.out.call hal
  have RB : Hid ((W0.alloc (.cells #[] 109)).ownsRow (w.heap.size + 2) 109 3 (.slice (some ⟨W0.heap.size, 0, none⟩) 0 0) 0 []) := own_new0 (heap_newF W0 _) HC.out.z 3
  refine hK.out _ _ ⟨HC2.out.cell 0, HC2.out.cell 1⟩ (fun _ => ?_)
  clear hK K hal HC
  have HC := HC2
  clear HC2
  generalize W0.alloc (.cells #[] 109) = W1 at *
  refine rdH 0 rfl (fun K hK => ?_)
  go_simp
  have hal : Below W1.heap.size W1 (W1.alloc (.cells #[] 107)) := (Below.refl _ _).alloc (Nat.le_refl _) _
  have HC2 : Hid (C1 w (W1.alloc (.cells #[] 107)) #[.slice ak ks.length ck, .slice ap ps.length cp]) := HC.out.call hal
  have RA : Hid ((W1.alloc (.cells #[] 107)).ownsRow (w.heap.size + 2) 107 3 (.slice (some ⟨W1.heap.size, 0, none⟩) 0 0) 0 []) := own_new0 (heap_newF W1 _) HC.out.z 3
  have RB2 := toHidC (ownsRow_keep RB.out hal)
  refine hK.out _ _ ⟨HC2.out.cell 0, HC2.out.cell 1⟩ (fun _ => ?_)
  clear hK K hal HC
  clear RB
  have RB := RB2
  clear RB2
  have HC := HC2
  clear HC2
  generalize W1.alloc (.cells #[] 107) = W2 at *
  refine rdH 3 rfl (fun K hK => ?_)
  refine step_append_any _ rfl _ _ 23 rfl (w.heap.size + 2) 107 i0 _ 3 32 Tryz.underlying23 hi hz0 hz1 hz2 rfl (by decide) _ 0 [] rfl RA.out ak ks.length ck (triRows ks) rfl (SK.out _ HC.out.below) (triRows_len _) tri_one (by unfold maxLen; omega) (by omega) HC.out.z ?_
  intro va W3 hown hgrow hat
  rw [Nat.zero_add, List.nil_append] at hown
  have HC2 : Hid (C1 w W3 #[.slice ak ks.length ck, .slice ap ps.length cp]) := HC.out.grown hgrow (own_ge RA.out)
  have RB2 := toHidC (ownsRow_farF RB.out hgrow (own_apart RA.out RB.out (by decide)))
  refine hK.out _ _ ⟨HC2.out.cell 0, HC2.out.cell 1⟩ (fun _ => ?_)
  clear hK K hgrow hat HC RA
  have RA := toHidC hown
  obtain ⟨a1, c1, rfl⟩ := own_slice hown
  clear hown
  clear RB
  have RB := RB2
  clear RB2
  have HC := HC2
  clear HC2
  refine rdH 7 rfl (fun K hK => ?_)
  refine step_append_any _ rfl _ _ 24 rfl (w.heap.size + 2) 109 i1 _ 3 32 Tryz.underlying24 hj hy0 hy1 hy2 rfl (by decide) _ 0 [] rfl RB.out ap ps.length cp (triRows ps) rfl (SP.out _ HC.out.below) (triRows_len _) tri_one (by unfold maxLen; omega) (by omega) HC.out.z ?_
  intro va W4 hown hgrow hat
  rw [Nat.zero_add, List.nil_append] at hown
  have HC2 : Hid (C1 w W4 #[.slice ak ks.length ck, .slice ap ps.length cp]) := HC.out.grown hgrow (own_ge RB.out)
  have RA2 := toHidC (ownsRow_farF RA.out hgrow (own_apart RB.out RA.out (by decide)))
  refine hK.out _ _ ⟨HC2.out.cell 0, HC2.out.cell 1⟩ (fun _ => ?_)
  clear hK K hgrow hat HC RB
  have RB := toHidC hown
  obtain ⟨a2, c2, rfl⟩ := own_slice hown
  clear hown
  clear RA
  have RA := RA2
  clear RA2
  have HC := HC2
  clear HC2
  have hHeld : _ ∧ _ := ⟨HC.out.cell 0, HC.out.cell 1⟩
  refine tkH 8 ?_ rfl ?_ ?_; rotate_left
  ·intro w hSw; (try dsimp only at hSw); go_simp; try with_reducible rfl
  simp only [Act.put, tkS]
  clear hHeld
  refine rdH 9 rfl (fun K hK => ?_)
  have hrow := HC.out.b
  refine step_store_rowC rfl 26 _ _ rfl (w.heap.size + 1) #[.slice a1 ks.length c1, .slice a2 ps.length c2] rfl rfl 26 _ hrow (by kernel_rfl) rfl (by simp [Value.oneCell']) ?_
  refine hK.out _ _ ⟨HC.out.row _ 0, HC.out.row _ 1⟩ (fun _ => ?_)
  clear hK K
  refine wpAnyH_done (by kernel_rfl) ?_ _
  refine NoPanic.normal ?_
  go_wp2
  exact bodyPost_ret (v := .agg #[.slice a1 ks.length c1, .slice a2 ps.length c2]) (by simp [results, Tryz.results61, go_sem, cell_setRow_same _ _ _ _ _ _ _ hrow]) rfl ⟨_, _, rfl, ownsRow_farF RA.out (grown_rowF _ _ _) (fun k hk e => by have := own_ge RA.out k hk; injection e; omega), ownsRow_farF RB.out (grown_rowF _ _ _) (fun k hk e => by have := own_ge RB.out k hk; injection e; omega), below_setRow HC.out.below (by omega) _⟩
end Go.Proofs.YtibpkhmiahamcaaGreat
